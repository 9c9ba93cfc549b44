/- A slot that comes in, and bytes that come in, opened. -/
import Derived.Test.YtglllnklcnlcjaaOpen
namespace Go.Proofs.Ytglllnklcnlcjaa
open Go.ChangeShapes Go.WideShapes Go.ChangeAt Go.RowKit Go.Joins Go.Deep
theorem cells5 : Try.prog.cellsOf 5 = 1 := by kernel_rfl
/-- The slice at 'ao' reads as the n bytes f. -/
def BytesAt (Y : Nat → Prop) (w : World) (ao : Option Addr) (n : Nat) (f : Nat → Int) : Prop :=
  n ≤ 9223372036854775807 ∧ ∀ i, i < n → ∃ b o, ao = some ⟨b, o, none⟩ ∧ Y b ∧ w.cell? ⟨b, o + i, none⟩ = some (.int .u8 (f i)) ∧ 0 ≤ f i ∧ f i ≤ 255
theorem BytesAt.blw {Y : Nat → Prop} {w w' : World} {ao : Option Addr} {n : Nat} {f : Nat → Int} (h : BytesAt Y w ao n f) (hb : Blw w w') : BytesAt Y w' ao n f := by
  refine ⟨h.1, fun i hi => ?_⟩
  obtain ⟨b, o, h1, hY, h2, h3⟩ := h.2 i hi
  exact ⟨b, o, h1, hY, hb.cell h2, h3⟩
theorem BytesAt.mod {X Y : Nat → Prop} {w w' : World} {ao : Option Addr} {n : Nat} {f : Nat → Int} (h : BytesAt Y w ao n f) (hb : Mod X w w') (hxy : ∀ k, Y k → ¬ X k) : BytesAt Y w' ao n f := by
  refine ⟨h.1, fun i hi => ?_⟩
  obtain ⟨b, o, h1, hY, h2, h3⟩ := h.2 i hi
  exact ⟨b, o, h1, hY, hb.cell h2 (hxy _ hY), h3⟩
section
variable {H : Type} {enc : TypeId × Value → H} {w : World} {base : Nat} {spare : Nat → Bool} {held : Bool}
theorem open_bytesAt {fuel : Nat} {v : Value} {x : DataW H × List MemPlace} (h : DataW.trod enc Try.prog w base spare held fuel 22 [v] = some x) :
    ∃ ao n c f, v = .slice ao n c ∧ BytesAt (fun b => b < w.heap.size) w ao n f := by
  rcases open_ints Try.underlying22 Try.underlying5 cells5 h with ⟨hcs, _⟩ | ⟨a, len, cap, zs, hcs, _, hl, hm, hz, _, hcell, hwf⟩
  · simp only [List.cons.injEq, and_true] at hcs
    exact ⟨none, 0, 0, fun _ => 0, hcs, by omega, fun i hi => absurd hi (Nat.not_lt_zero _)⟩
  · simp only [List.cons.injEq, and_true] at hcs
    have hzl : len ≤ zs.length := by rw [hz]; split <;> omega
    unfold maxLen at hm
    refine ⟨some a, len, cap, fun i => zs.getD i 0, hcs, by omega, fun i hi => ?_⟩
    have ha := addr_of_cell (by simpa [Addr.add] using hcell 0 (by omega))
    have hc := hcell i (by omega)
    rw [ha, Addr.add_mid] at hc
    have hw := hwf (zs.getD i 0) (by rw [List.getD_eq_getElem?_getD, List.getElem?_eq_getElem (show i < zs.length by omega)]; exact List.getElem_mem _)
    have hw' : ∀ n : Int, (Lit.int .u8 n).wf = true → 0 ≤ n ∧ n ≤ 255 := fun n h => by
      have h1 : (decide ((0 : Int) ≤ n) && decide (n ≤ 255)) = true := h
      simpa using h1
    refine ⟨a.block, a.off, by rw [← ha], World.block_lt_of_cell? w ⟨a.block, a.off + i, none⟩ hc, hc, ?_⟩
    exact hw' _ hw
end
end Go.Proofs.Ytglllnklcnlcjaa
