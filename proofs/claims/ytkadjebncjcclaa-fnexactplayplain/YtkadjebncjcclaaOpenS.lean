/- Lists of steps by value. -/
import Derived.Test.YtkadjebncjcclaaOpenB
import Derived.Test.YtkadjebncjcclaaRec
namespace Go.Proofs.Ytkadjebncjcclaa
open Go.ChangeShapes Go.WideShapes Go.ChangeAt Go.RowKit Go.Joins Go.Deep
set_option linter.unusedVariables false
set_option linter.unusedSimpArgs false
section
variable {H : Type} {enc : TypeId × Value → H} {w : World} {base : Nat} {spare : Nat → Bool} {held : Bool}
theorem cells74 : Try.prog.cellsOf 74 = 4 := by kernel_rfl
set_option maxRecDepth 10000 in
theorem open_stepsAt {fuel : Nat} {v : Value} {x : DataW H × List MemPlace} (h : DataW.trod enc Try.prog w base spare held fuel 77 [v] = some x) :
    ∃ ao n c F, v = .slice ao n c ∧ KAt 4 (fun b => b < w.heap.size) w ao n F := by
  rcases open_slice Try.underlying77 h with ⟨hcs, _⟩ | ⟨a, len, cap, m, nn, D, Pl, hcs, hb, hl, hm, hmm, -, hx⟩
  · simp only [List.cons.injEq, and_true] at hcs
    exact ⟨none, 0, 0, fun _ _ => 0, hcs, by omega, fun i hi => absurd hi (Nat.not_lt_zero _)⟩
  · simp only [List.cons.injEq, and_true] at hcs
    have hml : len ≤ m := by rw [hmm]; split <;> omega
    unfold maxLen at hm
    have each : ∀ i, i < len → ∃ q : Int × Int × Int × Int, w.cell? (a.add (i * 4)) = some (.int .i64 q.1) ∧ w.cell? (a.add (i * 4 + 1)) = some (.int .i64 q.2.1) ∧ w.cell? (a.add (i * 4 + 2)) = some (.int .i64 q.2.2.1) ∧ w.cell? (a.add (i * 4 + 3)) = some (.int .i64 q.2.2.2) := fun i hi => by
      obtain ⟨cs', h1, h2⟩ := hx i (by omega)
      rw [cells74] at h1
      obtain ⟨_, hlen, hcell⟩ := World.cells?_some h1
      obtain ⟨xs, k, hk, hxy, _, hxl, hf⟩ := DataW.trod_struct Try.underlying74 h2
      match xs, hxl, cs', hlen with
      | [y0, y1, y2, y3], _, [v0, v1, v2, v3], _ =>
        have g0 := hf 0 _ rfl
        have g1 := hf 1 _ rfl
        have g2 := hf 2 _ rfl
        have g3 := hf 3 _ rfl
        simp [cells3] at g0 g1 g2 g3
        have e0 := hcell 0 (by omega)
        have e1 := hcell 1 (by omega)
        have e2 := hcell 2 (by omega)
        have e3 := hcell 3 (by omega)
        rw [add_add] at e0 e1 e2 e3
        obtain ⟨a0, q0, _⟩ := DataW.trod_int Try.underlying3 g0
        obtain ⟨a1, q1, _⟩ := DataW.trod_int Try.underlying3 g1
        obtain ⟨a2, q2, _⟩ := DataW.trod_int Try.underlying3 g2
        obtain ⟨a3, q3, _⟩ := DataW.trod_int Try.underlying3 g3
        simp only [List.cons.injEq, and_true] at q0 q1 q2 q3
        subst q0 q1 q2 q3
        exact ⟨(a0, a1, a2, a3), by simpa using e0, by simpa using e1, by simpa using e2, by simpa using e3⟩
    obtain ⟨T, hT⟩ := Go.Deep.choose_lt each
    refine ⟨some a, len, cap, fun i c => if c = 0 then (T i).1 else if c = 1 then (T i).2.1 else if c = 2 then (T i).2.2.1 else (T i).2.2.2, hcs, by omega, fun i hi => ?_⟩
    have ha := addr_of_cell (by simpa [Addr.add] using (hT 0 (by omega)).1)
    obtain ⟨c0, c1, c2, c3⟩ := hT i hi
    rw [ha, Addr.add_mid] at c0 c1 c2 c3
    refine ⟨a.block, a.off, by rw [← ha], World.block_lt_of_cell? w ⟨a.block, a.off + i * 4, none⟩ c0, fun c hc => ?_⟩
    match c, hc with
    | 0, _ => simpa using c0
    | 1, _ => simpa [Nat.add_assoc] using c1
    | 2, _ => simpa [Nat.add_assoc] using c2
    | 3, _ => simpa [Nat.add_assoc] using c3
end
end Go.Proofs.Ytkadjebncjcclaa
