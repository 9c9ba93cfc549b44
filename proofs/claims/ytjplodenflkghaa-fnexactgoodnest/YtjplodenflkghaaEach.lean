/- All lists of leaves given out. -/
import Derived.Test.YtjplodenflkghaaGiveL
namespace Go.Proofs.Ytjplodenflkghaa
open Go.RowKit
set_option linter.unusedSimpArgs false
set_option linter.unusedVariables false
/-- Lists of leaves that are given out one after another into a new list at z. -/
structure Cp (w wr : World) (z kn : Nat) (p m : Nat → Nat → Int) (A : Nat → Option Addr) (C : Nat → Nat) (Z : Nat → Nat → Prop) (j : Nat) : Prop where
  row : Row wr z kn (fun i => if i < j then .slice (A i) 4 (C i) else .slice none 0 0)
  own : ∀ i, i < j → UndosOwn (Z i) wr (A i) 4 (p i) (m i)
  sub : ∀ i, i < j → ∀ x, Z i x → z < x ∧ x < wr.heap.size
  dis : ∀ i i', i < j → i' < j → i ≠ i' → ∀ x, Z i x → ¬ Z i' x
  blw : Blw w wr
  lo : w.heap.size ≤ z
theorem Cp.next {w wr w1 : World} {z kn : Nat} {p m : Nat → Nat → Int} {A : Nat → Option Addr} {C : Nat → Nat} {Z : Nat → Nat → Prop} {j : Nat} (h : Cp w wr z kn p m A C Z j) (hj : j < kn) (hb : Blw wr w1) {ao : Option Addr} {cap : Nat} (ho : UndosOwn (fun x => wr.heap.size ≤ x ∧ x < w1.heap.size) w1 ao 4 (p j) (m j)) :
    Cp w (w1.setCell ⟨z, j, none⟩ (.slice ao 4 cap)) z kn p m (fun i => if i = j then ao else A i) (fun i => if i = j then cap else C i) (fun i x => if i = j then (wr.heap.size ≤ x ∧ x < w1.heap.size) else Z i x) (j + 1) := by
  have hz := h.row.lt
  have hs := hb.size
  have ms : Mod (fun x => x = z) w1 (w1.setCell ⟨z, j, none⟩ (.slice ao 4 cap)) := Mod.setCell (X := fun x => x = z) _ (p := ⟨z, j, none⟩) rfl _
  have hs2 := ms.size
  refine ⟨((h.row.blw hb).set j _).congr (fun i hi => ?_), fun i hi => ?_, fun i hi x hx => ?_, fun i i' hi hi' hne x hx hx' => ?_, Mod.blw (h.blw.trans hb) ms (fun i hi => by have := h.lo; omega), h.lo⟩
  · by_cases e : i = j
    · subst e; simp
    · by_cases e2 : i < j
      · simp [e, e2, Nat.lt_succ_of_lt e2]
      · have e3 : ¬ i < j + 1 := by omega
        simp [e, e2, e3]
  · by_cases e : i = j
    · subst e
      simp only [if_pos]
      exact ho.mod ms (fun x hx e => by omega)
    · simp only [if_neg e]
      exact ((h.own i (by omega)).blw hb).mod ms (fun x hx e' => by have := h.sub i (by omega) x hx; omega)
  · by_cases e : i = j
    · simp only [if_pos e] at hx; omega
    · simp only [if_neg e] at hx
      have := h.sub i (by omega) x hx; omega
  · by_cases e : i = j
    · have e' : ¬ i' = j := by omega
      simp only [if_pos e] at hx
      simp only [if_neg e'] at hx'
      have := h.sub i' (by omega) x hx'; omega
    · simp only [if_neg e] at hx
      by_cases e' : i' = j
      · simp only [if_pos e'] at hx'
        have := h.sub i (by omega) x hx; omega
      · simp only [if_neg e'] at hx'
        exact h.dis i i' (by omega) (by omega) hne x hx hx'
theorem Cp.ps {w wr : World} {z kn : Nat} {p m : Nat → Nat → Int} {A : Nat → Option Addr} {C : Nat → Nat} {Z : Nat → Nat → Prop} (h : Cp w wr z kn p m A C Z kn) (hk : kn ≤ 4) : PSOwn (fun x => w.heap.size ≤ x ∧ x < wr.heap.size) wr (some ⟨z, 0, none⟩) ⟨kn, fun _ => 4, p, m⟩ := by
  have hz := h.row.lt
  have hlo := h.lo
  refine ⟨by show kn ≤ _; omega, fun _ => ⟨z, A, C, Z, rfl, ⟨h.row.congr (fun i hi => by rw [if_pos hi]), h.own, fun i hi x hx => ?_, h.dis, ⟨hlo, hz⟩⟩⟩⟩
  have := h.sub i hi x hx
  exact ⟨⟨by omega, this.2⟩, by omega⟩
set_option maxRecDepth 10000 in
set_option maxHeartbeats 3200000 in
theorem each_any (zl kn : Nat) (p m : Nat → Nat → Int) (w : World) (hk : kn ≤ 4) (h : Row w zl (kn * 8) (lc p m)) :
    Calls Try.prog 170 #[.slice (some ⟨zl, 0, none⟩) kn kn, .func (.func 171) #[] #[]] w fun e w' => ∃ z, e = .returned (.slice (some ⟨z, 0, none⟩) kn kn) ∧ PSOwn (fun x => w.heap.size ≤ x ∧ x < w'.heap.size) w' (some ⟨z, 0, none⟩) ⟨kn, fun _ => 4, p, m⟩ ∧ Blw w w' := by
  have H : Hid (Row w zl (kn * 8) (lc p m)) := h
  have hmk := mkLists kn (by omega)
  clear h
  go_enter Try.func170, Try.ntmps170
  go_wp2_with fail
  clear hmk
  go_loopw [13] (fun i wr => ∃ j : Nat, j ≤ kn ∧ i = .int .i64 j ∧ ∃ A C Z, Cp w wr w.heap.size kn p m A C Z j) (fun i _ => kn - (intOf i).toNat)
  case atStart => exact ⟨0, Nat.zero_le _, rfl, fun _ => none, fun _ => 0, fun _ _ => False, ⟨(Row.made w (.slice none 0 0) kn 147).congr (fun i hi => by rw [if_neg (by omega)]), fun i hi => absurd hi (Nat.not_lt_zero _), fun i hi => absurd hi (Nat.not_lt_zero _), fun i i' hi => absurd hi (Nat.not_lt_zero _), (Blw.refl _).alloc _, Nat.le_refl _⟩⟩
  case round =>
    obtain ⟨j, hj, rfl, A, C, Z, hC⟩ := hrel
    have HC : Hid (Cp w wr w.heap.size kn p m A C Z j) := hC
    clear hC
    by_cases hlt : j < kn
    · have hlt' : (j : Int) < (kn : Int) := by omega
      obtain ⟨q0, q1, q2, q3, q4, q5, q6, q7⟩ := lc8 (H.out.blw HC.out.blw) hlt
      have HA : Hid (Blw wr (wr.alloc (.cells (eight (p j) (m j)) 186))) := (Blw.refl _).alloc _
      go_wp2_with fail
      clear q0 q1 q2 q3 q4 q5 q6 q7
      refine (giveLeaves_any (p j) (m j) _).mono ?_
      rintro e w1 ⟨ao, cap, rfl, own, hb1⟩
      have hbb := HA.out.trans hb1
      have HN : Hid (∃ A C Z, Cp w (w1.setCell ⟨w.heap.size, j, none⟩ (.slice ao 4 cap)) w.heap.size kn p m A C Z (j + 1)) := ⟨_, _, _, HC.out.next hlt hbb (own.mono (fun x hx => ⟨Nat.le_trans HA.out.size hx.1, hx.2⟩))⟩
      have rz := HC.out.row.blw hbb
      obtain ⟨vv, gv⟩ : ∃ v, w1.cell? ⟨w.heap.size, j, none⟩ = some v := ⟨_, rz.cell hlt⟩
      have gz := rz.frozen j
      clear HC own hb1 hbb rz HA
      go_wp2
      go_roundw
      case rel => exact ⟨j + 1, by omega, by go_num, HN.out⟩
      case measure => simp [intOf]; omega
    · obtain rfl : j = kn := by omega
      have FIN : Hid (∃ z, Ending.returned (Value.slice (some ⟨w.heap.size, 0, none⟩) j j) = .returned (.slice (some ⟨z, 0, none⟩) j j) ∧ PSOwn (fun x => w.heap.size ≤ x ∧ x < wr.heap.size) wr (some ⟨z, 0, none⟩) ⟨j, fun _ => 4, p, m⟩ ∧ Blw w wr) := ⟨_, rfl, HC.out.ps hk, HC.out.blw⟩
      clear HC
      go_wp2
      exact bodyPost_ret (v := .slice (some ⟨w.heap.size, 0, none⟩) j j) (by simp [results, Try.results170, go_sem]) rfl FIN.out
end Go.Proofs.Ytjplodenflkghaa
