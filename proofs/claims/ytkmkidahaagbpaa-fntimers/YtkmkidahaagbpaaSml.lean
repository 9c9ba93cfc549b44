/- Small functions on timers and rows. -/
import Derived.Test.YtkmkidahaagbpaaTmi
namespace Go.Proofs.Ytkmkidahaagbpaa
open Go.RowKit
set_option linter.unusedSimpArgs false
set_option linter.unusedVariables false
def BOf (p : Prop) (b : Bool) : Prop := b = true ↔ p
def cmpI (x y : Int) : Int := if x < y then -1 else if y < x then 1 else 0
theorem isNow_any (n : Int) (w : World) : Calls Try.prog 49 #[.int .i64 n] w fun e w' => e = .returned (.bool (decide (0 ≤ n ∧ n ≤ 1000))) ∧ w' = w := by
  by_cases h1 : 0 ≤ n
  · by_cases h2 : n ≤ 1000
    · have e1 : decide (0 ≤ n ∧ n ≤ 1000) = true := decide_eq_true ⟨h1, h2⟩
      rw [e1]
      go_enter Try.func49, Try.ntmps49
      go_wp2
      go_ret
      exact ⟨rfl, rfl⟩
    · have e1 : decide (0 ≤ n ∧ n ≤ 1000) = false := decide_eq_false (fun h => h2 h.2)
      rw [e1]
      go_enter Try.func49, Try.ntmps49
      go_wp2
      go_ret
      exact ⟨rfl, rfl⟩
  · have e1 : decide (0 ≤ n ∧ n ≤ 1000) = false := decide_eq_false (fun h => h1 h.1)
    rw [e1]
    go_enter Try.func49, Try.ntmps49
    go_wp2
    go_ret
    exact ⟨rfl, rfl⟩
theorem isNaN_any (n : Int) (w : World) : Calls Try.prog 101 #[.int .i64 n] w fun e w' => e = .returned (.bool false) ∧ w' = w := by
  have h : (n != n) = false := by simp
  go_enter Try.func101, Try.ntmps101
  go_wp2
  go_ret
  exact ⟨rfl, rfl⟩
theorem cmp_any (x y : Int) (w : World) : Calls Try.prog 88 #[.int .i64 x, .int .i64 y] w fun e w' => e = .returned (.int .i64 (cmpI x y)) ∧ w' = w := by
  by_cases h1 : x < y
  · have e1 : cmpI x y = -1 := by simp [cmpI, h1]
    go_enter Try.func88, Try.ntmps88
    go_wp2_with (first | (go_at_call 101; refine (isNaN_any _ _).mono ?_; rintro e w' ⟨rfl, rfl⟩))
    go_ret
    exact ⟨by rw [e1]; rfl, rfl⟩
  · by_cases h2 : y < x
    · have e1 : cmpI x y = 1 := by simp [cmpI, h1, h2]
      go_enter Try.func88, Try.ntmps88
      go_wp2_with (first | (go_at_call 101; refine (isNaN_any _ _).mono ?_; rintro e w' ⟨rfl, rfl⟩))
      go_ret
      exact ⟨by rw [e1]; rfl, rfl⟩
    · have e1 : cmpI x y = 0 := by simp [cmpI, h1, h2]
      go_enter Try.func88, Try.ntmps88
      go_wp2_with (first | (go_at_call 101; refine (isNaN_any _ _).mono ?_; rintro e w' ⟨rfl, rfl⟩))
      go_ret
      exact ⟨by rw [e1]; rfl, rfl⟩
theorem cmpT_any (t : Tm) (id : Int) (w : World) : Calls Try.prog 103 #[.agg #[.int .i64 t.1, .int .i64 t.2], .int .i64 id] w fun e w' => e = .returned (.int .i64 (cmpI t.1 id)) ∧ Blw w w' := by
  go_enter Try.func103, Try.ntmps103
  go_wp2_with (first | (go_at_call 88; refine (cmp_any _ _ _).mono ?_; rintro e w' ⟨rfl, rfl⟩))
  go_ret
  exact ⟨rfl, (Blw.refl _).alloc _⟩
theorem idOf_any (t : Tm) (w : World) : Calls Try.prog 82 #[.agg #[.int .i64 t.1, .int .i64 t.2]] w fun e w' => e = .returned (.int .i64 t.1) ∧ Blw w w' := by
  go_enter Try.func82, Try.ntmps82
  go_wp2
  go_ret
  exact ⟨rfl, (Blw.refl _).alloc _⟩
theorem cmpI_neg {x y : Int} (h : x < y) : cmpI x y < 0 := by simp [cmpI, h]
theorem cmpI_nneg {x y : Int} (h : ¬ x < y) : ¬ cmpI x y < 0 := by unfold cmpI; rw [if_neg h]; split <;> omega
theorem cmpI_zero {x y : Int} (h : x = y) : cmpI x y = 0 := by simp [cmpI, h]
theorem cmpI_ne {x y : Int} (h : x ≠ y) : cmpI x y ≠ 0 := by
  unfold cmpI
  by_cases h1 : x < y
  · rw [if_pos h1]; omega
  · rw [if_neg h1, if_pos (by omega)]; omega
set_option maxHeartbeats 1600000 in
theorem bsearch_any (ao : Option Addr) (c : Nat) (l : List Tm) (id : Int) (Y : Nat → Prop) (w : World) (hs : Sd l) (hn : l.length ≤ 1048576) (h : UndosAt Y w ao l.length (lf l) (la l)) :
    Calls Try.prog 102 #[.slice ao l.length c, .int .i64 id, .func (.func 103) #[] #[]] w fun e w' => ∃ b, e = .returned (.tuple #[.int .i64 (pos l id : Nat), .bool b]) ∧ BOf (hasId l id) b ∧ Blw w w' := by
  have H : Hid (UndosAt Y w ao l.length (lf l) (la l)) := h
  have HS : Hid (Sd l) := hs
  have hple := pos_le l id
  clear h hs
  go_enter Try.func102, Try.ntmps102
  go_wp2
  go_loopw [9, 10] (fun s9 s10 wr => ∃ lo hi : Nat, s9 = .int .i64 lo ∧ s10 = .int .i64 hi ∧ lo ≤ pos l id ∧ pos l id ≤ hi ∧ hi ≤ l.length ∧ Blw w wr) (fun s9 s10 _ => (intOf s10).toNat - (intOf s9).toNat)
  case atStart => exact ⟨0, l.length, rfl, rfl, Nat.zero_le _, hple, Nat.le_refl _, Blw.refl _⟩
  case round =>
    obtain ⟨lo, hi, rfl, rfl, h1, h2, h3, hb⟩ := hrel
    by_cases hlt : lo < hi
    · have hm : (lo + hi) / 2 < l.length := by omega
      obtain ⟨b, o, rfl, -, g0, g1⟩ := (H.out.blw hb).2 ((lo + hi) / 2) hm
      have HM : Hid ((lo + hi) / 2 < pos l id ↔ (nth l ((lo + hi) / 2)).1 < id) := ⟨lt_pos, fun hh => Nat.lt_of_not_le (fun h5 => ge_pos HS.out h5 hm hh)⟩
      have HB : Hid (Blw w wr) := hb
      simp only [lf, la] at g0 g1
      clear hb
      by_cases hy : (nth l ((lo + hi) / 2)).1 < id
      · have hneg := cmpI_neg hy
        have hlt2 := HM.out.2 hy
        clear hy HM
        go_wp2_with (first | (go_at_call 103; refine (cmpT_any (nth l ((lo + hi) / 2)) id _).mono ?_; rintro e w' ⟨rfl, hb2⟩))
        replace HB : Hid (Blw w w') := HB.out.trans hb2
        go_roundw
        case rel => exact ⟨(lo + hi) / 2 + 1, hi, by rw [show ((lo : Int) + (hi : Int)) / 2 + 1 = (((lo + hi) / 2 + 1 : Nat) : Int) by omega], rfl, by omega, h2, h3, HB.out⟩
        case measure => simp [intOf]; omega
      · have hneg := cmpI_nneg hy
        have hlt2 : ¬ (lo + hi) / 2 < pos l id := fun hh => hy (HM.out.1 hh)
        clear hy HM
        go_wp2_with (first | (go_at_call 103; refine (cmpT_any (nth l ((lo + hi) / 2)) id _).mono ?_; rintro e w' ⟨rfl, hb2⟩))
        replace HB : Hid (Blw w w') := HB.out.trans hb2
        go_roundw
        case rel => exact ⟨lo, (lo + hi) / 2, rfl, by rw [show ((lo : Int) + (hi : Int)) / 2 = (((lo + hi) / 2 : Nat) : Int) by omega], h1, by omega, by omega, HB.out⟩
        case measure => simp [intOf]; omega
    · obtain rfl : hi = lo := by omega
      obtain rfl : hi = pos l id := by omega
      by_cases hp : pos l id < l.length
      · obtain ⟨b, o, rfl, -, g0, g1⟩ := (H.out.blw hb).2 (pos l id) hp
        have HB : Hid (Blw w wr) := hb
        simp only [lf, la] at g0 g1
        clear hb h1 h2 hlt
        by_cases hy : (nth l (pos l id)).1 = id
        · have hz := cmpI_zero hy
          have HI : Hid (hasId l id) := ⟨hp, hy⟩
          clear hy
          go_wp2_with (first | (go_at_call 103; refine (cmpT_any (nth l (pos l id)) id _).mono ?_; rintro e w' ⟨rfl, hb2⟩))
          go_ret2
          exact ⟨_, rfl, by (have hzz := hz; simp [BOf, HI.out]; try exact hzz), HB.out.trans hb2⟩
        · have hz := cmpI_ne hy
          have HI : Hid (¬ hasId l id) := fun hh => hy hh.2
          clear hy
          go_wp2_with (first | (go_at_call 103; refine (cmpT_any (nth l (pos l id)) id _).mono ?_; rintro e w' ⟨rfl, hb2⟩))
          go_ret2
          exact ⟨_, rfl, by (have hzz := hz; simp [BOf, HI.out]; try exact hzz), HB.out.trans hb2⟩
      · have HI : Hid (¬ hasId l id) := fun hh => hp hh.1
        clear h1 h2 hlt
        go_wp2
        go_ret2
        exact ⟨_, rfl, by simp [BOf, HI.out], hb⟩
theorem findT_any (ao : Option Addr) (c : Nat) (l : List Tm) (id : Int) (Y : Nat → Prop) (w : World) (hs : Sd l) (hn : l.length ≤ 1048576) (h : UndosAt Y w ao l.length (lf l) (la l)) :
    Calls Try.prog 90 #[.slice ao l.length c, .int .i64 id] w fun e w' => ∃ b, e = .returned (.tuple #[.int .i64 (pos l id : Nat), .bool b]) ∧ BOf (hasId l id) b ∧ Blw w w' := by
  have H : Hid (UndosAt Y w ao l.length (lf l) (la l)) := h
  have HS : Hid (Sd l) := hs
  clear h hs
  go_enter Try.func90, Try.ntmps90
  go_wp2_with (first | (go_at_call 102; refine (bsearch_any _ _ l id Y _ HS.out hn H.out).mono ?_; rintro e w' ⟨b, rfl, hb1, hb2⟩))
  go_ret2
  exact ⟨b, rfl, hb1, hb2⟩
set_option maxHeartbeats 400000 in
theorem rowOf_any (z : Nat) (now a : Int) (w : World) (hz : w.cell? ⟨z, 0, none⟩ = some (.int .i64 now)) (h0 : 0 ≤ now) (h00 : now ≤ 1000000) (h1 : 0 ≤ a) (h2 : a ≤ 1000000) :
    Calls Try.prog 96 #[.pointer (some ⟨z, 0, none⟩), .int .i64 a] w fun e w' => e = .returned (.int .i64 (rowOf now a : Nat)) ∧ w' = w := by
  have e1 : Int.tdiv a 8 = a / 8 := Int.tdiv_eq_ediv_of_nonneg h1
  have e2 : Int.tdiv now 8 = now / 8 := Int.tdiv_eq_ediv_of_nonneg h0
  have e3 : Int.tmod a 8 = a % 8 := Int.tmod_eq_emod_of_nonneg h1
  have e4 : Int.tmod (a / 8) 8 = a / 8 % 8 := Int.tmod_eq_emod_of_nonneg (by omega)
  by_cases h : a / 8 = now / 8
  · have er : ((rowOf now a : Nat) : Int) = a % 8 := by unfold rowOf; rw [if_pos h]; omega
    go_enter Try.func96, Try.ntmps96
    go_wp2
    go_ret
    exact ⟨by rw [er]; rfl, rfl⟩
  · have er : ((rowOf now a : Nat) : Int) = 8 + a / 8 % 8 := by unfold rowOf; rw [if_neg h]; omega
    go_enter Try.func96, Try.ntmps96
    go_wp2
    go_ret
    exact ⟨by rw [er]; rfl, rfl⟩
end Go.Proofs.Ytkmkidahaagbpaa
