/- A memory that comes in, opened: what it reads as in cells. -/
import Derived.Test.YtglllnklcnlcjaaBase
import Derived.ProofKit
import Derived.OpenShut
import Derived.ChangeOld
import Derived.Lib.SmallJoins
import Derived.Deep.Slices
import Derived.Deep.MidRow
namespace Go.Proofs.Ytglllnklcnlcjaa
open Go.ChangeShapes Go.WideShapes Go.ChangeAt Go.RowKit Go.Joins Go.Deep
theorem cells59 : Try.prog.cellsOf 60 = 3 := by kernel_rfl
theorem cells57 : Try.prog.cellsOf 58 = 1 := by kernel_rfl
theorem cells24 : Try.prog.cellsOf 24 = 1 := by kernel_rfl
theorem cells111 : Try.prog.cellsOf 138 = 1 := by kernel_rfl
theorem cells4 : Try.prog.cellsOf 4 = 1 := by kernel_rfl
theorem cells27 : Try.prog.cellsOf 28 = 1 := by kernel_rfl
theorem cells3 : Try.prog.cellsOf 3 = 1 := by kernel_rfl
section
variable {H : Type} {enc : TypeId × Value → H} {w : World} {base : Nat} {spare : Nat → Bool} {held : Bool}
theorem addr_of_cell {w : World} {a : Addr} {v : Value} (h : w.cell? a = some v) : a = ⟨a.block, a.off, none⟩ := by
  obtain ⟨b, o, s⟩ := a
  cases s with
  | none => rfl
  | some x =>
    unfold World.cell? at h
    split at h
    · simp at h
    · cases h
theorem open_intsAt {fuel : Nat} {v : Value} {x : DataW H × List MemPlace} (h : DataW.trod enc Try.prog w base spare held fuel 28 [v] = some x) :
    ∃ ao n c f, v = .slice ao n c ∧ IntsAt (fun b => b < w.heap.size) w ao n f := by
  rcases open_ints Try.underlying28 Try.underlying3 cells3 h with ⟨hcs, _⟩ | ⟨a, len, cap, zs, hcs, _, hl, hm, hz, _, hcell, _⟩
  · simp only [List.cons.injEq, and_true] at hcs
    exact ⟨none, 0, 0, fun _ => 0, hcs, by omega, fun i hi => absurd hi (Nat.not_lt_zero _)⟩
  · simp only [List.cons.injEq, and_true] at hcs
    have hzl : len ≤ zs.length := by rw [hz]; split <;> omega
    unfold maxLen at hm
    refine ⟨some a, len, cap, fun i => zs.getD i 0, hcs, by omega, fun i hi => ?_⟩
    have ha := addr_of_cell (by simpa [Addr.add] using hcell 0 (by omega))
    have hc := hcell i (by omega)
    rw [ha, Addr.add_mid] at hc
    exact ⟨a.block, a.off, by rw [← ha], World.block_lt_of_cell? w ⟨a.block, a.off + i, none⟩ hc, hc⟩
theorem open_linesAt {fuel : Nat} {v : Value} {x : DataW H × List MemPlace} (h : DataW.trod enc Try.prog w base spare held fuel 58 [v] = some x) :
    ∃ ao n c len f, v = .slice ao n c ∧ LinesAt (fun b => b < w.heap.size) w ao n len f := by
  rcases open_slice1 Try.underlying58 cells111 h with ⟨hcs, _⟩ | ⟨a, len, cap, m, n, V, D, Pl, hcs, _, hl, hm, hmm, _, hx⟩
  · simp only [List.cons.injEq, and_true] at hcs
    exact ⟨none, 0, 0, fun _ => 0, fun _ _ => 0, hcs, by omega, fun i hi => absurd hi (Nat.not_lt_zero _)⟩
  · simp only [List.cons.injEq, and_true] at hcs
    have hml : len ≤ m := by rw [hmm]; split <;> omega
    unfold maxLen at hm
    have hline : ∀ i, i < len → ∃ t : Option Addr × Nat × Nat × (Nat → Int), V i = .slice t.1 t.2.1 t.2.2.1 ∧ IntsAt (fun b => b < w.heap.size) w t.1 t.2.1 t.2.2.2 := fun i hi => by
      obtain ⟨_, h2⟩ := hx i (by omega)
      obtain ⟨y0, n', _, _, h3⟩ := trod_struct1 Try.underlying138 h2
      obtain ⟨ao, n, c, f, e, hI⟩ := open_intsAt (by simpa [cells27] using h3)
      exact ⟨(ao, n, c, f), e, hI⟩
    obtain ⟨T, hT⟩ := choose_lt (α := Option Addr × Nat × Nat × (Nat → Int)) (n := len) (p := fun i t => V i = .slice t.1 t.2.1 t.2.2.1 ∧ IntsAt (fun b => b < w.heap.size) w t.1 t.2.1 t.2.2.2) hline
    refine ⟨some a, len, cap, fun i => (T i).2.1, fun i => (T i).2.2.2, hcs, by omega, fun i hi => ?_⟩
    have ha := addr_of_cell (by simpa [Addr.add] using (hx 0 (by omega)).1)
    have hc := (hx i (by omega)).1
    rw [ha, Addr.add_mid] at hc
    refine ⟨a.block, a.off, (T i).1, (T i).2.2.1, by rw [← ha], World.block_lt_of_cell? w ⟨a.block, a.off + i, none⟩ hc, ?_, (hT i hi).2⟩
    rw [hc, (hT i hi).1]
theorem open_boolsAt {fuel : Nat} {v : Value} {x : DataW H × List MemPlace} (h : DataW.trod enc Try.prog w base spare held fuel 24 [v] = some x) :
    ∃ ao n c f, v = .slice ao n c ∧ BoolsAt (fun b => b < w.heap.size) w ao n f := by
  rcases open_slice1 Try.underlying24 cells4 h with ⟨hcs, _⟩ | ⟨a, len, cap, m, n, V, D, Pl, hcs, _, hl, hm, hmm, _, hx⟩
  · simp only [List.cons.injEq, and_true] at hcs
    exact ⟨none, 0, 0, fun _ => false, hcs, by omega, fun i hi => absurd hi (Nat.not_lt_zero _)⟩
  · simp only [List.cons.injEq, and_true] at hcs
    have hml : len ≤ m := by rw [hmm]; split <;> omega
    unfold maxLen at hm
    have hb : ∀ i, i < len → ∃ b : Bool, V i = .bool b := fun i hi => by
      obtain ⟨b, e, _⟩ := DataW.trod_bool Try.underlying4 (hx i (by omega)).2
      exact ⟨b, by simpa using e⟩
    obtain ⟨T, hT⟩ := choose_lt (α := Bool) (n := len) (p := fun i b => V i = .bool b) hb
    refine ⟨some a, len, cap, T, hcs, by omega, fun i hi => ?_⟩
    have ha := addr_of_cell (by simpa [Addr.add] using (hx 0 (by omega)).1)
    have hc := (hx i (by omega)).1
    rw [ha, Addr.add_mid] at hc
    exact ⟨a.block, a.off, by rw [← ha], World.block_lt_of_cell? w ⟨a.block, a.off + i, none⟩ hc, by rw [hc, hT i hi]⟩
set_option maxRecDepth 100000 in
/-- A memory by value. -/
theorem open_memory {r : Reach} {b0 : Nat} {v : Value} {d : DataW H} {p : List MemPlace} (hv : Value.okWide Try.prog w r b0 60 v) (h : DataW.Trod enc Try.prog w base spare held 60 v d p) :
    ∃ (m : MV) (M : MD), v = m.val M ∧ MemAt (fun b => b < w.heap.size) w m M := by
  obtain ⟨v0, v1, v2, y0, y1, y2, n, rfl, _, _, h0, h1, h2⟩ := open_agg3 Try.underlying60 (by kernel_rfl) cells59 hv h
  obtain ⟨a1, n1, c1, l1, f1, rfl, m1⟩ := open_linesAt h0
  obtain ⟨a2, n2, c2, l2, f2, rfl, m2⟩ := open_linesAt h1
  obtain ⟨a3, n3, c3, f3, rfl, m3⟩ := open_boolsAt h2
  exact ⟨⟨a1, a2, a3, c1, c2, c3⟩, ⟨n1, n2, n3, l1, l2, f1, f2, f3⟩, rfl, ⟨m1, m2, m3⟩⟩
end
end Go.Proofs.Ytglllnklcnlcjaa
