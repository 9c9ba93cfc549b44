/- A list of pairs that comes in, opened. -/
import Derived.Test.YtglllnklcnlcjaaOpenS
import Derived.Test.YtglllnklcnlcjaaPair
import Derived.Deep.SlicePairs
namespace Go.Proofs.Ytglllnklcnlcjaa
open Go.ChangeShapes Go.WideShapes Go.ChangeAt Go.RowKit Go.Joins Go.Deep
theorem cells86 : Try.prog.cellsOf 110 = 2 := by kernel_rfl
section
variable {H : Type} {enc : TypeId × Value → H} {w : World} {base : Nat} {spare : Nat → Bool} {held : Bool}
theorem open_undosAt {fuel : Nat} {v : Value} {x : DataW H × List MemPlace} (h : DataW.trod enc Try.prog w base spare held fuel 53 [v] = some x) :
    ∃ ao n c f g, v = .slice ao n c ∧ UndosAt (fun b => b < w.heap.size) w ao n f g := by
  rcases open_slice_pairs Try.underlying53 Try.underlying110 cells86 rfl rfl cells3 cells3 h with ⟨hcs, _⟩ | ⟨a, len, cap, m, n, V0, V1, D0, D1, P0, P1, hcs, _, hl, hm, hmm, _, hx⟩
  · simp only [List.cons.injEq, and_true] at hcs
    exact ⟨none, 0, 0, fun _ => 0, fun _ => 0, hcs, by omega, fun i hi => absurd hi (Nat.not_lt_zero _)⟩
  · simp only [List.cons.injEq, and_true] at hcs
    have hml : len ≤ m := by rw [hmm]; split <;> omega
    unfold maxLen at hm
    have hb : ∀ i, i < len → ∃ t : Int × Int, V0 i = .int .i64 t.1 ∧ V1 i = .int .i64 t.2 := fun i hi => by
      obtain ⟨_, _, h2, h3⟩ := hx i (by omega)
      obtain ⟨a0, e0, _⟩ := DataW.trod_int Try.underlying3 h2
      obtain ⟨a1, e1, _⟩ := DataW.trod_int Try.underlying3 h3
      exact ⟨(a0, a1), by simpa using e0, by simpa using e1⟩
    obtain ⟨T, hT⟩ := choose_lt (α := Int × Int) (n := len) (p := fun i t => V0 i = .int .i64 t.1 ∧ V1 i = .int .i64 t.2) hb
    refine ⟨some a, len, cap, fun i => (T i).1, fun i => (T i).2, hcs, by omega, fun i hi => ?_⟩
    have ha := addr_of_cell (by simpa [Addr.add] using (hx 0 (by omega)).1)
    obtain ⟨hc0, hc1, -⟩ := hx i (by omega)
    rw [ha, Addr.add_mid] at hc0 hc1
    exact ⟨a.block, a.off, by rw [← ha], World.block_lt_of_cell? w ⟨a.block, a.off + i * 2, none⟩ hc0, by rw [hc0, (hT i hi).1], by rw [Nat.add_assoc, hc1, (hT i hi).2]⟩
end
end Go.Proofs.Ytglllnklcnlcjaa
