/- What comes in, opened: numbers, bytes, pairs, books. -/
import Derived.Test.YtfmmpddknanhbaaBook
import Derived.ProofKit
import Derived.OpenShut
import Derived.ChangeOld
import Derived.Lib.SmallJoins
import Derived.Deep.Slices
import Derived.Deep.SlicePairs
import Derived.Deep.MidRow
namespace Go.Proofs.Ytfmmpddknanhbaa
open Go.ChangeShapes Go.WideShapes Go.ChangeAt Go.RowKit Go.Joins Go.Deep
theorem cells54 : Try.prog.cellsOf 54 = 2 := by kernel_rfl
theorem cells3 : Try.prog.cellsOf 3 = 1 := by kernel_rfl
theorem cells5 : Try.prog.cellsOf 5 = 1 := by kernel_rfl
/-- The slice at 'ao' reads as the n bytes f. -/
def BytesAt (Y : Nat → Prop) (w : World) (ao : Option Addr) (n : Nat) (f : Nat → Int) : Prop :=
  n ≤ 9223372036854775807 ∧ ∀ i, i < n → ∃ b o, ao = some ⟨b, o, none⟩ ∧ Y b ∧ w.cell? ⟨b, o + i, none⟩ = some (.int .u8 (f i)) ∧ 0 ≤ f i ∧ f i ≤ 255
theorem BytesAt.blw {Y : Nat → Prop} {w w' : World} {ao : Option Addr} {n : Nat} {f : Nat → Int} (h : BytesAt Y w ao n f) (hb : Blw w w') : BytesAt Y w' ao n f := by
  refine ⟨h.1, fun i hi => ?_⟩
  obtain ⟨b, o, h1, hY, h2, h3⟩ := h.2 i hi
  exact ⟨b, o, h1, hY, hb.cell h2, h3⟩
theorem BytesAt.mod {X Y : Nat → Prop} {w w' : World} {ao : Option Addr} {n : Nat} {f : Nat → Int} (h : BytesAt Y w ao n f) (hb : Mod X w w') (hxy : ∀ k, Y k → ¬ X k) : BytesAt Y w' ao n f := by
  refine ⟨h.1, fun i hi => ?_⟩
  obtain ⟨b, o, h1, hY, h2, h3⟩ := h.2 i hi
  exact ⟨b, o, h1, hY, hb.cell h2 (hxy _ hY), h3⟩
section
variable {H : Type} {enc : TypeId × Value → H} {w : World} {base : Nat} {spare : Nat → Bool} {held : Bool}
theorem addr_of_cell {w : World} {a : Addr} {v : Value} (h : w.cell? a = some v) : a = ⟨a.block, a.off, none⟩ := by
  obtain ⟨b, o, s⟩ := a
  cases s with
  | none => rfl
  | some x =>
    unfold World.cell? at h
    split at h
    · simp at h
    · cases h
theorem open_intsAt {fuel : Nat} {v : Value} {x : DataW H × List MemPlace} (h : DataW.trod enc Try.prog w base spare held fuel 23 [v] = some x) :
    ∃ ao n c f, v = .slice ao n c ∧ IntsAt (fun b => b < w.heap.size) w ao n f := by
  rcases open_ints Try.underlying23 Try.underlying3 cells3 h with ⟨hcs, _⟩ | ⟨a, len, cap, zs, hcs, _, hl, hm, hz, _, hcell, _⟩
  · simp only [List.cons.injEq, and_true] at hcs
    exact ⟨none, 0, 0, fun _ => 0, hcs, by omega, fun i hi => absurd hi (Nat.not_lt_zero _)⟩
  · simp only [List.cons.injEq, and_true] at hcs
    have hzl : len ≤ zs.length := by rw [hz]; split <;> omega
    unfold maxLen at hm
    refine ⟨some a, len, cap, fun i => zs.getD i 0, hcs, by omega, fun i hi => ?_⟩
    have ha := addr_of_cell (by simpa [Addr.add] using hcell 0 (by omega))
    have hc := hcell i (by omega)
    rw [ha, Addr.add_mid] at hc
    exact ⟨a.block, a.off, by rw [← ha], World.block_lt_of_cell? w ⟨a.block, a.off + i, none⟩ hc, hc⟩
theorem open_bytesAt {fuel : Nat} {v : Value} {x : DataW H × List MemPlace} (h : DataW.trod enc Try.prog w base spare held fuel 22 [v] = some x) :
    ∃ ao n c f, v = .slice ao n c ∧ BytesAt (fun b => b < w.heap.size) w ao n f := by
  rcases open_ints Try.underlying22 Try.underlying5 cells5 h with ⟨hcs, _⟩ | ⟨a, len, cap, zs, hcs, _, hl, hm, hz, _, hcell, hwf⟩
  · simp only [List.cons.injEq, and_true] at hcs
    exact ⟨none, 0, 0, fun _ => 0, hcs, by omega, fun i hi => absurd hi (Nat.not_lt_zero _)⟩
  · simp only [List.cons.injEq, and_true] at hcs
    have hzl : len ≤ zs.length := by rw [hz]; split <;> omega
    unfold maxLen at hm
    refine ⟨some a, len, cap, fun i => zs.getD i 0, hcs, by omega, fun i hi => ?_⟩
    have ha := addr_of_cell (by simpa [Addr.add] using hcell 0 (by omega))
    have hc := hcell i (by omega)
    rw [ha, Addr.add_mid] at hc
    have hw := hwf (zs.getD i 0) (by rw [List.getD_eq_getElem?_getD, List.getElem?_eq_getElem (show i < zs.length by omega)]; exact List.getElem_mem _)
    have hw' : ∀ n : Int, (Lit.int .u8 n).wf = true → 0 ≤ n ∧ n ≤ 255 := fun n h => by
      have h1 : (decide ((0 : Int) ≤ n) && decide (n ≤ 255)) = true := h
      simpa using h1
    refine ⟨a.block, a.off, by rw [← ha], World.block_lt_of_cell? w ⟨a.block, a.off + i, none⟩ hc, hc, ?_⟩
    exact hw' _ hw
set_option maxRecDepth 100000 in
/-- Owners by value. -/
theorem open_book {r : Reach} {b0 : Nat} {v : Value} {d : DataW H} {p : List MemPlace} (hv : Value.okWide Try.prog w r b0 54 v) (h : DataW.Trod enc Try.prog w base spare held 54 v d p) :
    ∃ (b : BV) (B : BD), v = b.val B ∧ BookAt (fun b => b < w.heap.size) w b B := by
  obtain ⟨v0, v1, y0, y1, n, rfl, _, _, h0, h1⟩ := open_agg2 Try.underlying54 (by kernel_rfl) cells54 hv h
  obtain ⟨a1, n1, c1, f1, rfl, m1⟩ := open_intsAt h0
  obtain ⟨a2, n2, c2, f2, rfl, m2⟩ := open_intsAt h1
  exact ⟨⟨a1, a2, c1, c2⟩, ⟨n1, f1, n2, f2⟩, rfl, ⟨m1, m2⟩⟩
end
end Go.Proofs.Ytfmmpddknanhbaa
