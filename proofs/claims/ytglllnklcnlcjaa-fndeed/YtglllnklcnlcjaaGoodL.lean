/- what spec.GoodMemory's parts answer. -/
import Derived.Test.YtglllnklcnlcjaaMark
import Derived.Deep.CutRange
import Derived.Deep.RegionHeld3
namespace Go.Proofs.Ytglllnklcnlcjaa
open Go.RowKit

def wordOK (x : Int) : Prop := 0 ≤ x ∧ x ≤ 65535
def lineOK (n : Nat) (f : Nat → Int) : Prop := n = 4 ∧ ∀ i, i < 4 → wordOK (f i)
structure MD.OkAt (M : MD) (k : Nat) : Prop where
  a : lineOK (M.l1 k) (M.v1 k)
  b : lineOK (M.l2 k) (M.v2 k)
  c : M.d k = false → ∀ j, j < 4 → M.v1 k j = M.v2 k j
structure MD.Good (M : MD) : Prop where
  n1 : M.n1 = 12
  n2 : M.n2 = 12
  n3 : M.n3 = 12
  ok : ∀ k, k < 12 → M.OkAt k

set_option maxHeartbeats 400000 in
theorem l1In_yes (n lo hi : Int) (w : World) (h1 : lo ≤ n) (h2 : n ≤ hi) : Calls Try.prog 62 #[.int .i64 n, .int .i64 lo, .int .i64 hi] w fun e w' => e = .returned (.bool true) ∧ w' = w := by
  go_enter Try.func62, Try.ntmps62
  go_wp2
  go_ret
  exact ⟨rfl, rfl⟩
set_option maxHeartbeats 400000 in
theorem l1In_no (n lo hi : Int) (w : World) (h : ¬ (lo ≤ n ∧ n ≤ hi)) : Calls Try.prog 62 #[.int .i64 n, .int .i64 lo, .int .i64 hi] w fun e w' => e = .returned (.bool false) ∧ w' = w := by
  by_cases h1 : lo ≤ n
  · have h2 : ¬ n ≤ hi := fun h3 => h ⟨h1, h3⟩
    clear h
    go_enter Try.func62, Try.ntmps62
    go_wp2
    go_ret
    exact ⟨rfl, rfl⟩
  · clear h
    have hd : decide (lo ≤ n) = false := by simpa using h1
    go_enter Try.func62, Try.ntmps62
    go_wp2
    go_ret
    exact ⟨rfl, rfl⟩
set_option maxHeartbeats 400000 in
theorem l1All_yes (ao : Option Addr) (c n : Nat) (f : Nat → Int) (lo hi : Int) (Y : Nat → Prop) (w : World) (h : IntsAt Y w ao n f) (ha : ∀ i, i < n → lo ≤ f i ∧ f i ≤ hi) :
    Calls Try.prog 123 #[.slice ao n c, .int .i64 lo, .int .i64 hi] w fun e w' => e = .returned (.bool true) ∧ w' = w := by
  obtain ⟨hn, h⟩ := h
  go_enter Try.func123, Try.ntmps123
  go_wp2
  go_loop [11] (fun i => ∃ j : Nat, j ≤ n ∧ i = .int .i64 j) (fun i => n - (intOf i).toNat)
  case atStart => exact ⟨0, Nat.zero_le _, rfl⟩
  case round =>
    obtain ⟨j, hj, rfl⟩ := hrel
    by_cases hlt : j < n
    · obtain ⟨b, o, rfl, -, g1⟩ := h j hlt
      have hr := ha j hlt
      clear h ha
      go_wp2_with fail
      refine (l1In_yes _ _ _ _ hr.1 hr.2).mono ?_
      rintro e w' ⟨rfl, rfl⟩
      go_wp2
      go_round
      case rel => exact ⟨j + 1, by omega, by go_num⟩
      case measure => simp [intOf]; omega
    · go_wp2
      go_ret
      exact ⟨rfl, rfl⟩
set_option maxHeartbeats 400000 in
theorem l1All_no (ao : Option Addr) (c n : Nat) (f : Nat → Int) (lo hi : Int) (Y : Nat → Prop) (w : World) (h : IntsAt Y w ao n f) (i : Nat) (hi0 : i < n) (ha : ¬ (lo ≤ f i ∧ f i ≤ hi)) :
    Calls Try.prog 123 #[.slice ao n c, .int .i64 lo, .int .i64 hi] w fun e w' => e = .returned (.bool false) ∧ w' = w := by
  obtain ⟨hn, h⟩ := h
  have HA : Hid (¬ (lo ≤ f i ∧ f i ≤ hi)) := ha
  clear ha
  go_enter Try.func123, Try.ntmps123
  go_wp2
  go_loop [11] (fun ii => ∃ j : Nat, j ≤ i ∧ ii = .int .i64 j) (fun i => n - (intOf i).toNat)
  case atStart => exact ⟨0, Nat.zero_le _, rfl⟩
  case round =>
    obtain ⟨j, hj, rfl⟩ := hrel
    have hlt : j < n := by omega
    obtain ⟨b, o, rfl, -, g1⟩ := h j hlt
    clear h
    by_cases hr : lo ≤ f j ∧ f j ≤ hi
    · have hne : j ≠ i := fun e => HA.out (e ▸ hr)
      obtain ⟨hr1, hr2⟩ := hr
      go_wp2_with fail
      refine (l1In_yes _ _ _ _ hr1 hr2).mono ?_
      rintro e w' ⟨rfl, rfl⟩
      go_wp2
      go_round
      case rel => exact ⟨j + 1, by omega, by go_num⟩
      case measure => simp [intOf]; omega
    · have HR : Hid (¬ (lo ≤ f j ∧ f j ≤ hi)) := hr
      clear hr
      go_wp2_with fail
      refine (l1In_no _ _ _ _ HR.out).mono ?_
      rintro e w' ⟨rfl, rfl⟩
      go_wp2
      go_ret
      exact ⟨rfl, rfl⟩
set_option maxHeartbeats 400000 in
theorem l1Line_yes (ao : Option Addr) (c n : Nat) (f : Nat → Int) (Y : Nat → Prop) (w : World) (h : IntsAt Y w ao n f) (ok : lineOK n f) :
    Calls Try.prog 107 #[.agg #[.slice ao n c]] w fun e w' => e = .returned (.bool true) ∧ Blw w w' := by
  obtain ⟨rfl, ok⟩ := ok
  go_enter Try.func107, Try.ntmps107
  go_wp2_with fail
  refine (l1All_yes _ _ _ f _ _ Y _ (h.blw ((Blw.refl _).alloc _)) (fun i hi => ok i hi)).mono ?_
  rintro e w' ⟨rfl, rfl⟩
  go_wp2
  go_ret
  exact ⟨rfl, (Blw.refl _).alloc _⟩
set_option maxHeartbeats 400000 in
theorem l1Line_no (ao : Option Addr) (c n : Nat) (f : Nat → Int) (Y : Nat → Prop) (w : World) (h : IntsAt Y w ao n f) (ok : ¬ lineOK n f) :
    Calls Try.prog 107 #[.agg #[.slice ao n c]] w fun e w' => e = .returned (.bool false) ∧ Blw w w' := by
  by_cases hn : n = 4
  · subst hn
    have : ∃ i, i < 4 ∧ ¬ wordOK (f i) := Classical.byContradiction fun hh => ok ⟨rfl, fun i hi => Classical.byContradiction fun h2 => hh ⟨i, hi, h2⟩⟩
    obtain ⟨i, hi, hbad⟩ := this
    clear ok
    have HB : Hid (¬ wordOK (f i)) := hbad
    clear hbad
    go_enter Try.func107, Try.ntmps107
    go_wp2_with fail
    refine (l1All_no _ _ _ f _ _ Y _ (h.blw ((Blw.refl _).alloc _)) i hi HB.out).mono ?_
    rintro e w' ⟨rfl, rfl⟩
    go_wp2
    go_ret
    exact ⟨rfl, (Blw.refl _).alloc _⟩
  · have hd : ((n : Int) == 4) = false := by simp; omega
    have h0 := h.1
    clear ok h
    go_enter Try.func107, Try.ntmps107
    go_wp2
    go_ret
    exact ⟨rfl, (Blw.refl _).alloc _⟩
set_option maxHeartbeats 400000 in
theorem l1Same_yes (a1 a2 : Option Addr) (c1 c2 n0 : Nat) (f g : Nat → Int) {Y Z : Nat → Prop} (w : World) (h1 : IntsAt Y w a1 n0 f) (h2 : IntsAt Z w a2 n0 g) (he : ∀ i, i < n0 → f i = g i) :
    Calls Try.prog 108 #[.slice a1 n0 c1, .slice a2 n0 c2] w fun e w' => e = .returned (.bool true) ∧ ∃ n, w' = w.drewN n := by
  replace h2 := h2.congr (fun i hi => (he i hi).symm)
  clear he
  obtain ⟨hl, h1⟩ := h1
  obtain ⟨-, h2⟩ := h2
  go_enter Try.func108, Try.ntmps108
  go_wp2
  go_loopw [13] (fun i wr => ∃ k n : Nat, k ≤ n0 ∧ i = .int .i64 k ∧ wr = w.drewN n) (fun i _ => n0 - (intOf i).toNat)
  case atStart => exact ⟨0, 0, Nat.zero_le _, rfl, rfl⟩
  case round =>
    obtain ⟨k, n, hk, rfl, rfl⟩ := hrel
    by_cases hlt : k < n0
    · obtain ⟨b, o, rfl, -, g1⟩ := h1 k hlt
      obtain ⟨b', o', rfl, -, g2⟩ := h2 k hlt
      clear h1 h2
      go_wp2
      go_quiet (fail)
      go_wp2
      go_roundw
      case rel => exact ⟨k + 1, _, by omega, by go_num, rfl⟩
      case measure => simp [intOf]; omega
    · go_wp2
      go_ret
      exact ⟨rfl, n, rfl⟩
set_option maxHeartbeats 400000 in
theorem l1Same_no (a1 a2 : Option Addr) (c1 c2 n0 : Nat) (f g : Nat → Int) {Y Z : Nat → Prop} (w : World) (h1 : IntsAt Y w a1 n0 f) (h2 : IntsAt Z w a2 n0 g) (i : Nat) (hi : i < n0) (he : ¬ f i = g i) :
    Calls Try.prog 108 #[.slice a1 n0 c1, .slice a2 n0 c2] w fun e w' => e = .returned (.bool false) ∧ ∃ n, w' = w.drewN n := by
  obtain ⟨hl, h1⟩ := h1
  obtain ⟨-, h2⟩ := h2
  have HE : Hid (¬ f i = g i) := he
  clear he
  go_enter Try.func108, Try.ntmps108
  go_wp2
  go_loopw [13] (fun ii wr => ∃ k n : Nat, k ≤ i ∧ ii = .int .i64 k ∧ wr = w.drewN n) (fun i _ => n0 - (intOf i).toNat)
  case atStart => exact ⟨0, 0, Nat.zero_le _, rfl, rfl⟩
  case round =>
    obtain ⟨k, n, hk, rfl, rfl⟩ := hrel
    have hlt : k < n0 := by omega
    obtain ⟨b, o, rfl, -, g1⟩ := h1 k hlt
    obtain ⟨b', o', rfl, -, g2⟩ := h2 k hlt
    clear h1 h2
    by_cases hf : f k = g k
    · have hne : k ≠ i := fun e => HE.out (e ▸ hf)
      rw [← hf] at g2
      clear hf
      go_wp2
      go_quiet (fail)
      go_wp2
      go_roundw
      case rel => exact ⟨k + 1, _, by omega, by go_num, rfl⟩
      case measure => simp [intOf]; omega
    · have hb : (f k != g k) = true := by simpa using hf
      clear hf
      go_wp2
      go_quiet (fail)
      go_wp2
      go_ret
      exact ⟨rfl, _, by simp only [World.drewN_drewN]; rfl⟩
end Go.Proofs.Ytglllnklcnlcjaa
