/- What comes in, opened: numbers, bytes, pairs, books. -/
import Derived.Test.YtkmkidahaagbpaaHold
import Derived.ProofKit
import Derived.OpenShut
import Derived.ChangeOld
import Derived.Lib.SmallJoins
import Derived.Deep.Slices
import Derived.Deep.SlicePairs
import Derived.Deep.MidRow
namespace Go.Proofs.Ytkmkidahaagbpaa
open Go.ChangeShapes Go.WideShapes Go.ChangeAt Go.RowKit Go.Joins Go.Deep
theorem cells86 : Try.prog.cellsOf 127 = 2 := by kernel_rfl
theorem cells3 : Try.prog.cellsOf 3 = 1 := by kernel_rfl
theorem cells5 : Try.prog.cellsOf 5 = 1 := by kernel_rfl
/-- The slice at 'ao' reads as the n bytes f. -/
def BytesAt (Y : Nat → Prop) (w : World) (ao : Option Addr) (n : Nat) (f : Nat → Int) : Prop :=
  n ≤ 9223372036854775807 ∧ ∀ i, i < n → ∃ b o, ao = some ⟨b, o, none⟩ ∧ Y b ∧ w.cell? ⟨b, o + i, none⟩ = some (.int .u8 (f i)) ∧ 0 ≤ f i ∧ f i ≤ 255
theorem BytesAt.blw {Y : Nat → Prop} {w w' : World} {ao : Option Addr} {n : Nat} {f : Nat → Int} (h : BytesAt Y w ao n f) (hb : Blw w w') : BytesAt Y w' ao n f := by
  refine ⟨h.1, fun i hi => ?_⟩
  obtain ⟨b, o, h1, hY, h2, h3⟩ := h.2 i hi
  exact ⟨b, o, h1, hY, hb.cell h2, h3⟩
theorem BytesAt.mod {X Y : Nat → Prop} {w w' : World} {ao : Option Addr} {n : Nat} {f : Nat → Int} (h : BytesAt Y w ao n f) (hb : Mod X w w') (hxy : ∀ k, Y k → ¬ X k) : BytesAt Y w' ao n f := by
  refine ⟨h.1, fun i hi => ?_⟩
  obtain ⟨b, o, h1, hY, h2, h3⟩ := h.2 i hi
  exact ⟨b, o, h1, hY, hb.cell h2 (hxy _ hY), h3⟩
section
variable {H : Type} {enc : TypeId × Value → H} {w : World} {base : Nat} {spare : Nat → Bool} {held : Bool}
theorem addr_of_cell {w : World} {a : Addr} {v : Value} (h : w.cell? a = some v) : a = ⟨a.block, a.off, none⟩ := by
  obtain ⟨b, o, s⟩ := a
  cases s with
  | none => rfl
  | some x =>
    unfold World.cell? at h
    split at h
    · simp at h
    · cases h
theorem open_intsAt {fuel : Nat} {v : Value} {x : DataW H × List MemPlace} (h : DataW.trod enc Try.prog w base spare held fuel 28 [v] = some x) :
    ∃ ao n c f, v = .slice ao n c ∧ IntsAt (fun b => b < w.heap.size) w ao n f := by
  rcases open_ints Try.underlying28 Try.underlying3 cells3 h with ⟨hcs, _⟩ | ⟨a, len, cap, zs, hcs, _, hl, hm, hz, _, hcell, _⟩
  · simp only [List.cons.injEq, and_true] at hcs
    exact ⟨none, 0, 0, fun _ => 0, hcs, by omega, fun i hi => absurd hi (Nat.not_lt_zero _)⟩
  · simp only [List.cons.injEq, and_true] at hcs
    have hzl : len ≤ zs.length := by rw [hz]; split <;> omega
    unfold maxLen at hm
    refine ⟨some a, len, cap, fun i => zs.getD i 0, hcs, by omega, fun i hi => ?_⟩
    have ha := addr_of_cell (by simpa [Addr.add] using hcell 0 (by omega))
    have hc := hcell i (by omega)
    rw [ha, Addr.add_mid] at hc
    exact ⟨a.block, a.off, by rw [← ha], World.block_lt_of_cell? w ⟨a.block, a.off + i, none⟩ hc, hc⟩
theorem open_bytesAt {fuel : Nat} {v : Value} {x : DataW H × List MemPlace} (h : DataW.trod enc Try.prog w base spare held fuel 22 [v] = some x) :
    ∃ ao n c f, v = .slice ao n c ∧ BytesAt (fun b => b < w.heap.size) w ao n f := by
  rcases open_ints Try.underlying22 Try.underlying5 cells5 h with ⟨hcs, _⟩ | ⟨a, len, cap, zs, hcs, _, hl, hm, hz, _, hcell, hwf⟩
  · simp only [List.cons.injEq, and_true] at hcs
    exact ⟨none, 0, 0, fun _ => 0, hcs, by omega, fun i hi => absurd hi (Nat.not_lt_zero _)⟩
  · simp only [List.cons.injEq, and_true] at hcs
    have hzl : len ≤ zs.length := by rw [hz]; split <;> omega
    unfold maxLen at hm
    refine ⟨some a, len, cap, fun i => zs.getD i 0, hcs, by omega, fun i hi => ?_⟩
    have ha := addr_of_cell (by simpa [Addr.add] using hcell 0 (by omega))
    have hc := hcell i (by omega)
    rw [ha, Addr.add_mid] at hc
    have hw := hwf (zs.getD i 0) (by rw [List.getD_eq_getElem?_getD, List.getElem?_eq_getElem (show i < zs.length by omega)]; exact List.getElem_mem _)
    have hw' : ∀ n : Int, (Lit.int .u8 n).wf = true → 0 ≤ n ∧ n ≤ 255 := fun n h => by
      have h1 : (decide ((0 : Int) ≤ n) && decide (n ≤ 255)) = true := h
      simpa using h1
    refine ⟨a.block, a.off, by rw [← ha], World.block_lt_of_cell? w ⟨a.block, a.off + i, none⟩ hc, hc, ?_⟩
    exact hw' _ hw
theorem choose_lt {α : Type} [Inhabited α] {n : Nat} {p : Nat → α → Prop} (h : ∀ i, i < n → ∃ t, p i t) : ∃ T : Nat → α, ∀ i, i < n → p i (T i) :=
  ⟨fun i => if hi : i < n then Classical.choose (h i hi) else default, fun i hi => by show p i (if hi : i < n then Classical.choose (h i hi) else default); rw [dif_pos hi]; exact Classical.choose_spec (h i hi)⟩
theorem wf_i64 {n : Int} (h : (Lit.int .i64 n).wf = true) : -9223372036854775808 ≤ n ∧ n ≤ 9223372036854775807 := by
  have h1 : (decide ((-9223372036854775808 : Int) ≤ n) && decide (n ≤ 9223372036854775807)) = true := h
  simpa using h1
theorem open_undosAt {fuel : Nat} {v : Value} {x : DataW H × List MemPlace} (h : DataW.trod enc Try.prog w base spare held fuel 115 [v] = some x) :
    ∃ ao n c f g, v = .slice ao n c ∧ UndosAt (fun b => b < w.heap.size) w ao n f g ∧ ∀ i, i < n → -9223372036854775808 ≤ g i ∧ g i ≤ 9223372036854775807 := by
  rcases open_slice_pairs Try.underlying115 Try.underlying127 cells86 rfl rfl cells3 cells3 h with ⟨hcs, _⟩ | ⟨a, len, cap, m, n, V0, V1, D0, D1, P0, P1, hcs, _, hl, hm, hmm, _, hx⟩
  · simp only [List.cons.injEq, and_true] at hcs
    exact ⟨none, 0, 0, fun _ => 0, fun _ => 0, hcs, ⟨by omega, fun i hi => absurd hi (Nat.not_lt_zero _)⟩, fun i hi => absurd hi (Nat.not_lt_zero _)⟩
  · simp only [List.cons.injEq, and_true] at hcs
    have hml : len ≤ m := by rw [hmm]; split <;> omega
    unfold maxLen at hm
    have hb : ∀ i, i < len → ∃ t : Int × Int, V0 i = .int .i64 t.1 ∧ V1 i = .int .i64 t.2 ∧ -9223372036854775808 ≤ t.2 ∧ t.2 ≤ 9223372036854775807 := fun i hi => by
      obtain ⟨_, _, h2, h3⟩ := hx i (by omega)
      obtain ⟨a0, e0, _⟩ := DataW.trod_int Try.underlying3 h2
      obtain ⟨a1, e1, _, w1⟩ := DataW.trod_int Try.underlying3 h3
      exact ⟨(a0, a1), by simpa using e0, by simpa using e1, wf_i64 w1⟩
    obtain ⟨T, hT⟩ := choose_lt (α := Int × Int) (n := len) (p := fun i t => V0 i = .int .i64 t.1 ∧ V1 i = .int .i64 t.2 ∧ -9223372036854775808 ≤ t.2 ∧ t.2 ≤ 9223372036854775807) hb
    refine ⟨some a, len, cap, fun i => (T i).1, fun i => (T i).2, hcs, ⟨by omega, fun i hi => ?_⟩, fun i hi => (hT i hi).2.2⟩
    have ha := addr_of_cell (by simpa [Addr.add] using (hx 0 (by omega)).1)
    obtain ⟨hc0, hc1, -⟩ := hx i (by omega)
    rw [ha, Addr.add_mid] at hc0 hc1
    exact ⟨a.block, a.off, by rw [← ha], World.block_lt_of_cell? w ⟨a.block, a.off + i * 2, none⟩ hc0, by rw [hc0, (hT i hi).1], by rw [Nat.add_assoc, hc1, (hT i hi).2.1]⟩
theorem cells111 : Try.prog.cellsOf 115 = 1 := by kernel_rfl
theorem cells55 : Try.prog.cellsOf 55 = 3 := by kernel_rfl
theorem open_timerSS {fuel : Nat} {v : Value} {x : DataW H × List MemPlace} (h : DataW.trod enc Try.prog w base spare held fuel 53 [v] = some x) :
    ∃ ao c D, v = .slice ao D.n c ∧ PSAt (fun b => b < w.heap.size) w ao D ∧ ∀ i t, i < D.n → t < D.len i → -9223372036854775808 ≤ D.m i t ∧ D.m i t ≤ 9223372036854775807 := by
  rcases open_slice1 Try.underlying53 cells111 h with ⟨hcs, _⟩ | ⟨a, len, cap, m, n, V, D, Pl, hcs, _, hl, hm, hmm, _, hx⟩
  · simp only [List.cons.injEq, and_true] at hcs
    exact ⟨none, 0, PD.zero, hcs, ⟨by show 0 ≤ _; omega, fun i hi => absurd hi (Nat.not_lt_zero _)⟩, fun i t hi => absurd hi (Nat.not_lt_zero _)⟩
  · simp only [List.cons.injEq, and_true] at hcs
    have hml : len ≤ m := by rw [hmm]; split <;> omega
    unfold maxLen at hm
    have hline : ∀ i, i < len → ∃ t : Option Addr × Nat × Nat × (Nat → Int) × (Nat → Int), V i = .slice t.1 t.2.1 t.2.2.1 ∧ UndosAt (fun b => b < w.heap.size) w t.1 t.2.1 t.2.2.2.1 t.2.2.2.2 ∧ ∀ q, q < t.2.1 → -9223372036854775808 ≤ t.2.2.2.2 q ∧ t.2.2.2.2 q ≤ 9223372036854775807 := fun i hi => by
      obtain ⟨_, h2⟩ := hx i (by omega)
      obtain ⟨ao, n, c, f, g, e, hI, hq⟩ := open_undosAt h2
      exact ⟨(ao, n, c, f, g), e, hI, hq⟩
    obtain ⟨T, hT⟩ := choose_lt (α := Option Addr × Nat × Nat × (Nat → Int) × (Nat → Int)) (n := len) (p := fun i t => V i = .slice t.1 t.2.1 t.2.2.1 ∧ UndosAt (fun b => b < w.heap.size) w t.1 t.2.1 t.2.2.2.1 t.2.2.2.2 ∧ ∀ q, q < t.2.1 → -9223372036854775808 ≤ t.2.2.2.2 q ∧ t.2.2.2.2 q ≤ 9223372036854775807) hline
    refine ⟨some a, cap, ⟨len, fun i => (T i).2.1, fun i => (T i).2.2.2.1, fun i => (T i).2.2.2.2⟩, hcs, ⟨by show len ≤ _; omega, fun i hi => ?_⟩, fun i t hi ht => (hT i hi).2.2 t ht⟩
    have ha := addr_of_cell (by simpa [Addr.add] using (hx 0 (by show 0 < m; have : i < len := hi; omega)).1)
    have hi' : i < len := hi
    have hc := (hx i (by omega)).1
    rw [ha, Addr.add_mid] at hc
    refine ⟨a.block, a.off, (T i).1, (T i).2.2.1, by rw [← ha], World.block_lt_of_cell? w ⟨a.block, a.off + i, none⟩ hc, ?_, (hT i hi).2.1⟩
    rw [hc, (hT i hi).1]
set_option maxRecDepth 100000 in
/-- A wheel by value. -/
theorem open_wheel {r : Reach} {b0 : Nat} {v : Value} {d : DataW H} {p : List MemPlace} (hv : Value.okWide Try.prog w r b0 55 v) (h : DataW.Trod enc Try.prog w base spare held 55 v d p) :
    ∃ (b : WV) (D : WD), v = b.val D ∧ WAt (fun b => b < w.heap.size) w b D ∧ D.wf := by
  obtain ⟨v0, v1, v2, y0, y1, y2, n, rfl, _, _, h0, h1, h2⟩ := open_agg3 Try.underlying55 (by kernel_rfl) cells55 hv h
  obtain ⟨a0, e0, -⟩ := DataW.trod_int Try.underlying3 h0
  obtain ⟨a1, c1, D1, e1, m1, q1⟩ := open_timerSS h1
  obtain ⟨a2, c2, D2, e2, m2, q2⟩ := open_timerSS h2
  simp only [List.cons.injEq, and_true] at e0
  subst e0 e1 e2
  exact ⟨⟨a1, a2, c1, c2⟩, ⟨a0, D1, D2⟩, rfl, ⟨m1, m2⟩, ⟨q1, q2⟩⟩
end
end Go.Proofs.Ytkmkidahaagbpaa
