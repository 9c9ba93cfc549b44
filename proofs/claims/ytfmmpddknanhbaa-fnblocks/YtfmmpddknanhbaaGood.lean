/- Good owners: the model's and the program's tests. -/
import Derived.Test.YtfmmpddknanhbaaBookL
import Derived.Test.YtfmmpddknanhbaaBuf
import Derived.Test.YtfmmpddknanhbaaSpecO
namespace Go.Proofs.Ytfmmpddknanhbaa
open Go.RowKit
set_option linter.unusedSimpArgs false
set_option linter.unusedVariables false
theorem iff_t {p : Prop} (h : p) : (true = true ↔ p) := ⟨fun _ => h, fun _ => rfl⟩
theorem iff_f {p : Prop} (h : ¬ p) : (false = true ↔ p) := ⟨fun e => Bool.noConfusion e, fun g => absurd g h⟩
def whoOK (n : Int) : Prop := 1 ≤ n ∧ n ≤ 6
instance (n : Int) : Decidable (whoOK n) := by unfold whoOK; exact inferInstance
def plOK (n : Int) : Prop := 0 ≤ n ∧ n ≤ 15
instance (n : Int) : Decidable (plOK n) := by unfold plOK; exact inferInstance
def ordOK (n : Int) : Prop := 0 ≤ n ∧ n ≤ 4
instance (n : Int) : Decidable (ordOK n) := by unfold ordOK; exact inferInstance
/-- A page that is as it may be: whose it is, to whom it is lent. -/
def pageOK (x y : Int) : Prop := (0 ≤ x ∧ x ≤ 6) ∧ (0 ≤ y ∧ y ≤ 6) ∧ (0 < y → ¬ x = 0 ∧ ¬ y = x)
structure BD.Good (B : BD) : Prop where
  n : B.n = 16
  k : B.k = 16
  ok : ∀ i, i < 16 → pageOK (B.c i) (B.l i)
theorem BD.Good.size {B : BD} (h : B.Good) : B.n + B.k ≤ 1048576 := by rw [h.n, h.k]; omega
set_option maxHeartbeats 400000 in
theorem l5Who_any (n : Int) (w : World) : Calls Try.prog 63 #[.int .i64 n] w fun e w' => ∃ r, e = .returned (.bool r) ∧ (r = true ↔ whoOK n) ∧ w' = w := by
  by_cases h : whoOK n
  · go_enter Try.func63, Try.ntmps63
    go_wp2_with fail
    refine (l1In_yes _ _ _ _ h.1 h.2).mono ?_
    rintro e w' ⟨rfl, rfl⟩
    go_wp2
    go_ret
    exact ⟨true, rfl, ⟨fun _ => h, fun _ => rfl⟩, rfl⟩
  · have H : Hid (¬ whoOK n) := h
    clear h
    go_enter Try.func63, Try.ntmps63
    go_wp2_with fail
    refine (l1In_no _ _ _ _ H.out).mono ?_
    rintro e w' ⟨rfl, rfl⟩
    go_wp2
    go_ret
    exact ⟨false, rfl, iff_f H.out, rfl⟩
theorem l1In_any (n lo hi : Int) (w : World) : Calls Try.prog 64 #[.int .i64 n, .int .i64 lo, .int .i64 hi] w fun e w' => ∃ r, e = .returned (.bool r) ∧ (r = true ↔ (lo ≤ n ∧ n ≤ hi)) ∧ w' = w := by
  by_cases h : lo ≤ n ∧ n ≤ hi
  · exact (l1In_yes n lo hi w h.1 h.2).mono fun e w' ⟨h1, h2⟩ => ⟨true, h1, ⟨fun _ => h, fun _ => rfl⟩, h2⟩
  · exact (l1In_no n lo hi w h).mono fun e w' ⟨h1, h2⟩ => ⟨false, h1, iff_f h, h2⟩
theorem l1All_any (ao : Option Addr) (c n : Nat) (f : Nat → Int) (lo hi : Int) (Y : Nat → Prop) (w : World) (h : IntsAt Y w ao n f) :
    Calls Try.prog 67 #[.slice ao n c, .int .i64 lo, .int .i64 hi] w fun e w' => ∃ r, e = .returned (.bool r) ∧ (r = true ↔ ∀ i, i < n → lo ≤ f i ∧ f i ≤ hi) ∧ w' = w := by
  by_cases ha : ∀ i, i < n → lo ≤ f i ∧ f i ≤ hi
  · exact (l1All_yes ao c n f lo hi Y w h ha).mono fun e w' ⟨h1, h2⟩ => ⟨true, h1, ⟨fun _ => ha, fun _ => rfl⟩, h2⟩
  · obtain ⟨i, hi0, hn⟩ : ∃ i, i < n ∧ ¬ (lo ≤ f i ∧ f i ≤ hi) := Classical.byContradiction fun hx => ha fun i hi0 => Classical.byContradiction fun hy => hx ⟨i, hi0, hy⟩
    exact (l1All_no ao c n f lo hi Y w h i hi0 hn).mono fun e w' ⟨h1, h2⟩ => ⟨false, h1, iff_f ha, h2⟩
set_option maxRecDepth 10000 in
set_option maxHeartbeats 1600000 in
theorem specGood_any (b : BV) (B : BD) (Y : Nat → Prop) (w : World) (h : BookAt Y w b B) :
    Calls Try.prog 19 #[b.val B] w fun e w' => ∃ r, e = .returned (.bool r) ∧ (r = true ↔ B.Good) ∧ Blw w w' := by
  obtain ⟨n, c, k, l⟩ := B
  obtain ⟨a1, a2, c1, c2⟩ := b
  simp only [BV.val] at *
  have hb0 : Blw w (w.alloc (.cells #[.slice a1 n c1, .slice a2 k c2] 25)) := (Blw.refl _).alloc _
  have r0 := box2 w (.slice a1 n c1) (.slice a2 k c2) 25
  have HC : Hid (IntsAt Y (w.alloc (.cells #[.slice a1 n c1, .slice a2 k c2] 25)) a1 n c) := h.c.blw hb0
  have HL : Hid (IntsAt Y (w.alloc (.cells #[.slice a1 n c1, .slice a2 k c2] 25)) a2 k l) := h.l.blw hb0
  clear h
  by_cases hn : n = 16
  case neg =>
    have d1 : ((n : Int) != 16) = true := by simp; omega
    have H : Hid (¬ n = 16) := hn
    clear hn
    go_enter Try.func19, Try.ntmps19
    go_wp2
    go_ret
    exact ⟨false, rfl, iff_f (fun g => H.out g.n), hb0⟩
  by_cases hk : k = 16
  case neg =>
    subst hn
    have d1 : ((k : Int) != 16) = true := by simp; omega
    have H : Hid (¬ k = 16) := hk
    clear hk
    go_enter Try.func19, Try.ntmps19
    go_wp2
    go_ret
    exact ⟨false, rfl, iff_f (fun g => H.out g.k), hb0⟩
  subst hn hk
  go_enter Try.func19, Try.ntmps19
  go_wp2_with fail
  revert hb0 r0 HC HL
  generalize w.alloc (.cells #[.slice a1 16 c1, .slice a2 16 c2] 25) = w1
  intro hb0 r0 HC HL
  refine (l1All_any _ _ 16 c _ _ Y _ HC.out).mono ?_
  rintro e w2 ⟨ra, rfl, ha, rfl⟩
  have HA : Hid (ra = true ↔ ∀ i, i < 16 → 0 ≤ c i ∧ c i ≤ 6) := ha
  clear ha
  obtain ⟨p0, p1⟩ := get2 r0
  cases ra
  · go_wp2
    go_ret
    refine ⟨false, rfl, iff_f (fun g => ?_), hb0⟩
    have := HA.out.2 (fun i hi => (g.ok i hi).1)
    cases this
  go_wp2_with fail
  refine (l1All_any _ _ 16 l _ _ Y _ HL.out).mono ?_
  rintro e w2 ⟨rb, rfl, hb, rfl⟩
  have HBq : Hid (rb = true ↔ ∀ i, i < 16 → 0 ≤ l i ∧ l i ≤ 6) := hb
  clear hb
  cases rb
  · go_wp2
    go_ret
    refine ⟨false, rfl, iff_f (fun g => ?_), hb0⟩
    have := HBq.out.2 (fun i hi => (g.ok i hi).2.1)
    cases this
  have A1 : Hid (∀ i, i < 16 → 0 ≤ c i ∧ c i ≤ 6) := HA.out.1 (by first | rfl | trivial)
  have A2 : Hid (∀ i, i < 16 → 0 ≤ l i ∧ l i ≤ 6) := HBq.out.1 (by first | rfl | trivial)
  clear HA HBq
  go_wp2_with fail
  go_loopw [30] (fun i wr => ∃ j : Nat, j ≤ 16 ∧ i = .int .i64 j ∧ (∀ t, t < j → 0 < l t → ¬ c t = 0 ∧ ¬ l t = c t) ∧ wr = w2) (fun i _ => 16 - (intOf i).toNat)
  case atStart => exact ⟨0, by omega, rfl, fun t ht => absurd ht (Nat.not_lt_zero _), rfl⟩
  case round =>
    obtain ⟨j, hj, rfl, hok, rfl⟩ := hrel
    have HO : Hid (∀ t, t < j → 0 < l t → ¬ c t = 0 ∧ ¬ l t = c t) := hok
    clear hok
    by_cases hlt : j < 16
    · have hlt' : (j : Int) < 16 := by omega
      obtain ⟨b1, o1, rfl, -, g1⟩ := HC.out.2 j hlt
      obtain ⟨b2, o2, rfl, -, g2⟩ := HL.out.2 j hlt
      by_cases h1 : 0 < l j
      · have d1 : decide (l j > 0) = true := by simpa using h1
        by_cases h2 : c j = 0
        · have d2 : (c j == 0) = true := by simp [h2]
          have BAD : Hid (¬ BD.Good ⟨16, c, 16, l⟩) := fun g => ((g.ok j hlt).2.2 h1).1 h2
          clear h1 h2
          go_wp2
          go_ret
          exact ⟨false, rfl, iff_f BAD.out, hb0⟩
        · have d2 : (c j == 0) = false := by simp [h2]
          by_cases h3 : l j = c j
          · have d3 : (l j == c j) = true := by simp [h3]
            have BAD : Hid (¬ BD.Good ⟨16, c, 16, l⟩) := fun g => ((g.ok j hlt).2.2 h1).2 h3
            clear h1 h2 h3
            go_wp2
            go_ret
            exact ⟨false, rfl, iff_f BAD.out, hb0⟩
          · have d3 : (l j == c j) = false := by simp [h3]
            have NX : Hid (∀ t, t < j + 1 → 0 < l t → ¬ c t = 0 ∧ ¬ l t = c t) := fun t ht => by
              by_cases e : t = j
              · subst e; exact fun _ => ⟨h2, h3⟩
              · exact HO.out t (by omega)
            clear h1 h2 h3 HO
            go_wp2
            go_roundw
            case rel => exact ⟨j + 1, by omega, by go_num, NX.out, by first | rfl | trivial⟩
            case measure => simp [intOf]; omega
      · have d1 : decide (l j > 0) = false := by simpa using h1
        have NX : Hid (∀ t, t < j + 1 → 0 < l t → ¬ c t = 0 ∧ ¬ l t = c t) := fun t ht => by
          by_cases e : t = j
          · subst e; exact fun h => absurd h h1
          · exact HO.out t (by omega)
        clear h1 HO
        go_wp2
        go_roundw
        case rel => exact ⟨j + 1, by omega, by go_num, NX.out, by first | rfl | trivial⟩
        case measure => simp [intOf]; omega
    · obtain rfl : j = 16 := by omega
      go_wp2
      go_ret
      exact ⟨true, rfl, ⟨fun _ => ⟨rfl, rfl, fun i hi => ⟨A1.out i hi, A2.out i hi, HO.out i hi⟩⟩, fun _ => rfl⟩, hb0⟩
set_option maxHeartbeats 400000 in
theorem isOwner_yes (n : Int) (w : World) (h : whoOK n) : Calls Try.prog 56 #[.int .i64 n] w fun e w' => e = .returned (.bool true) ∧ w' = w := by
  obtain ⟨h1, h2⟩ := h
  skip
  go_enter Try.func56, Try.ntmps56
  go_wp2
  go_ret
  exact ⟨rfl, rfl⟩
set_option maxHeartbeats 400000 in
theorem isOwner_no (n : Int) (w : World) (h : ¬ whoOK n) : Calls Try.prog 56 #[.int .i64 n] w fun e w' => e = .returned (.bool false) ∧ w' = w := by
  by_cases h1 : 1 ≤ n
  · have h2 : ¬ n ≤ 6 := fun h3 => h ⟨h1, by omega⟩
    clear h
    go_enter Try.func56, Try.ntmps56
    go_wp2
    go_ret
    exact ⟨rfl, rfl⟩
  · clear h
    have hd : decide (n ≥ 1) = false := by simpa using h1
    go_enter Try.func56, Try.ntmps56
    go_wp2
    go_ret
    exact ⟨rfl, rfl⟩
theorem isOwner_any (n : Int) (w : World) : Calls Try.prog 56 #[.int .i64 n] w fun e w' => ∃ r, e = .returned (.bool r) ∧ (r = true ↔ whoOK n) ∧ w' = w := by
  by_cases h : whoOK n
  · exact (isOwner_yes n w h).mono fun e w' ⟨h1, h2⟩ => ⟨true, h1, ⟨fun _ => h, fun _ => rfl⟩, h2⟩
  · exact (isOwner_no n w h).mono fun e w' ⟨h1, h2⟩ => ⟨false, h1, iff_f h, h2⟩
set_option maxHeartbeats 400000 in
theorem isOrder_yes (n : Int) (w : World) (h : ordOK n) : Calls Try.prog 57 #[.int .i64 n] w fun e w' => e = .returned (.bool true) ∧ w' = w := by
  obtain ⟨h1, h2⟩ := h
  skip
  go_enter Try.func57, Try.ntmps57
  go_wp2
  go_ret
  exact ⟨rfl, rfl⟩
set_option maxHeartbeats 400000 in
theorem isOrder_no (n : Int) (w : World) (h : ¬ ordOK n) : Calls Try.prog 57 #[.int .i64 n] w fun e w' => e = .returned (.bool false) ∧ w' = w := by
  by_cases h1 : 0 ≤ n
  · have h2 : ¬ n ≤ 4 := fun h3 => h ⟨h1, by omega⟩
    clear h
    go_enter Try.func57, Try.ntmps57
    go_wp2
    go_ret
    exact ⟨rfl, rfl⟩
  · clear h
    have hd : decide (n ≥ 0) = false := by simpa using h1
    go_enter Try.func57, Try.ntmps57
    go_wp2
    go_ret
    exact ⟨rfl, rfl⟩
theorem isOrder_any (n : Int) (w : World) : Calls Try.prog 57 #[.int .i64 n] w fun e w' => ∃ r, e = .returned (.bool r) ∧ (r = true ↔ ordOK n) ∧ w' = w := by
  by_cases h : ordOK n
  · exact (isOrder_yes n w h).mono fun e w' ⟨h1, h2⟩ => ⟨true, h1, ⟨fun _ => h, fun _ => rfl⟩, h2⟩
  · exact (isOrder_no n w h).mono fun e w' ⟨h1, h2⟩ => ⟨false, h1, iff_f h, h2⟩
set_option maxHeartbeats 400000 in
theorem isPage_yes (n : Int) (w : World) (h : plOK n) : Calls Try.prog 71 #[.int .i64 n] w fun e w' => e = .returned (.bool true) ∧ w' = w := by
  obtain ⟨h1, h2⟩ := h
  have h2 : n < 16 := by omega
  go_enter Try.func71, Try.ntmps71
  go_wp2
  go_ret
  exact ⟨rfl, rfl⟩
set_option maxHeartbeats 400000 in
theorem isPage_no (n : Int) (w : World) (h : ¬ plOK n) : Calls Try.prog 71 #[.int .i64 n] w fun e w' => e = .returned (.bool false) ∧ w' = w := by
  by_cases h1 : 0 ≤ n
  · have h2 : ¬ n < 16 := fun h3 => h ⟨h1, by omega⟩
    clear h
    go_enter Try.func71, Try.ntmps71
    go_wp2
    go_ret
    exact ⟨rfl, rfl⟩
  · clear h
    have hd : decide (n ≥ 0) = false := by simpa using h1
    go_enter Try.func71, Try.ntmps71
    go_wp2
    go_ret
    exact ⟨rfl, rfl⟩
theorem isPage_any (n : Int) (w : World) : Calls Try.prog 71 #[.int .i64 n] w fun e w' => ∃ r, e = .returned (.bool r) ∧ (r = true ↔ plOK n) ∧ w' = w := by
  by_cases h : plOK n
  · exact (isPage_yes n w h).mono fun e w' ⟨h1, h2⟩ => ⟨true, h1, ⟨fun _ => h, fun _ => rfl⟩, h2⟩
  · exact (isPage_no n w h).mono fun e w' ⟨h1, h2⟩ => ⟨false, h1, iff_f h, h2⟩
end Go.Proofs.Ytfmmpddknanhbaa
