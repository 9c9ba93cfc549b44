/- A nest that comes in: opened. -/
import Derived.Test.YtjplodenflkghaaOpenB
import Derived.Test.YtjplodenflkghaaNstL
namespace Go.Proofs.Ytjplodenflkghaa
open Go.ChangeShapes Go.WideShapes Go.ChangeAt Go.RowKit Go.Joins Go.Deep
section
variable {H : Type} {enc : TypeId × Value → H} {w : World} {base : Nat} {spare : Nat → Bool} {held : Bool}
set_option linter.unusedSimpArgs false
set_option linter.unusedVariables false
theorem cellsN : Try.prog.cellsOf 91 = 4 := by kernel_rfl
theorem cells_26 : Try.prog.cellsOf 26 = 1 := by kernel_rfl
theorem cells_87 : Try.prog.cellsOf 87 = 1 := by kernel_rfl
set_option maxRecDepth 100000 in
theorem open_table {n : Nat} {c0 c1 : Value} {y : DataW H × List MemPlace} (h : DataW.trod enc Try.prog w base spare held n 89 [c0, c1] = some y) :
    ∃ (b : BV) (B : BD), c0 = .slice b.a1 B.n b.c1 ∧ c1 = .slice b.a2 B.D.n b.c2 ∧ BookAt (fun b => b < w.heap.size) w b B := by
  obtain ⟨z0, z1, m, hx, _, h0, h1⟩ := trod_struct2 Try.underlying89 h
  have h0' : DataW.trod enc Try.prog w base spare held m 26 [c0] = some z0 := by simpa [cells_26] using h0
  have h1' : DataW.trod enc Try.prog w base spare held m 87 [c1] = some z1 := by simpa [cells_87] using h1
  obtain ⟨a1, n1, k1, f1, e1, m1⟩ := open_intsAt h0'
  obtain ⟨a2, k2, D, e2, m2⟩ := open_leafSS h1'
  exact ⟨⟨a1, a2, k1, k2⟩, ⟨n1, f1, D⟩, e1, e2, ⟨m1, m2⟩⟩
set_option maxRecDepth 100000 in
/-- A nest by value. -/
theorem open_nest {r : Reach} {b0 : Nat} {v : Value} {d : DataW H} {p : List MemPlace} (hv : Value.okWide Try.prog w r b0 91 v) (h : DataW.Trod enc Try.prog w base spare held 91 v d p) :
    ∃ (u : NV) (D : ND), v = u.val D ∧ NAt (fun b => b < w.heap.size) w u D := by
  obtain ⟨cs, rfl, hsz⟩ := okWide_struct Try.underlying91 hv
  obtain ⟨c0, c1, c2, c3, rfl⟩ := array4 (hsz.trans cellsN)
  obtain ⟨fuel, hf⟩ := h
  obtain ⟨y0, y1, n, hx, _, h0, h1⟩ := trod_struct2 Try.underlying91 hf
  have h0' : DataW.trod enc Try.prog w base spare held n 89 [c0, c1] = some y0 := by simpa [Value.cells, cells56] using h0
  have h1' : DataW.trod enc Try.prog w base spare held n 89 [c2, c3] = some y1 := by simpa [Value.cells, cells56] using h1
  obtain ⟨b, B, rfl, rfl, hB⟩ := open_table h0'
  obtain ⟨b', B', rfl, rfl, hB'⟩ := open_table h1'
  exact ⟨⟨b, b'⟩, ⟨B, B'⟩, rfl, ⟨hB, hB'⟩⟩
end
end Go.Proofs.Ytjplodenflkghaa
