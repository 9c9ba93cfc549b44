/- slices.Sort at few numbers. -/
import Derived.Test.YtagjfkkjmgfoiaaSort
namespace Go.Proofs.Ytagjfkkjmgfoiaa
open Go.RowKit
set_option linter.unusedSimpArgs false
set_option linter.unusedVariables false
set_option maxRecDepth 100000 in
set_option maxHeartbeats 1600000 in
theorem len64_any (n : Nat) (w : World) (hn : n ≤ 8) : Calls Try.prog 95 #[.int .u64 n] w fun e w' => ∃ r, e = .returned (.int .i64 r) ∧ w' = w := by
  rcases (by omega : n = 0 ∨ n = 1 ∨ n = 2 ∨ n = 3 ∨ n = 4 ∨ n = 5 ∨ n = 6 ∨ n = 7 ∨ n = 8) with rfl | rfl | rfl | rfl | rfl | rfl | rfl | rfl | rfl
  all_goals
    go_enter Try.func95, Try.ntmps95
    go_wp2
    go_ret
    exact ⟨_, rfl, rfl⟩
set_option maxHeartbeats 1600000 in
theorem len_any (n : Nat) (w : World) (hn : n ≤ 8) : Calls Try.prog 84 #[.int .u64 n] w fun e w' => ∃ r, e = .returned (.int .i64 r) ∧ w' = w := by
  go_enter Try.func84, Try.ntmps84
  go_wp2_with (go_at_call 95; refine (len64_any n _ hn).mono ?_; rintro e w' ⟨r, rfl, rfl⟩)
  go_ret
  exact ⟨_, rfl, rfl⟩
set_option maxRecDepth 10000 in
set_option maxHeartbeats 1600000 in
theorem pdq_any (b n cap : Nat) (g0 : Nat → Int) (r : Int) (w : World) (hn : n ≤ 8) (hd : distinct n g0) (h : Row w b n (ic g0)) :
    Calls Try.prog 83 #[.slice (some ⟨b, 0, none⟩) n cap, .int .i64 0, .int .i64 n, .int .i64 r] w fun e w' => e = .returned (.tuple #[]) ∧ ∃ g, Mixed n g0 g ∧ (∀ p q, p < q → q < n → g p ≤ g q) ∧ Row w' b n (ic g) ∧ Mod (fun x => x = b) w w' := by
  have h12 : (n : Int) ≤ 12 := by omega
  go_enter Try.func83, Try.ntmps83
  go_wp2_with fail
  go_loopw [1, 2] (fun a b wr => a = .int .i64 0 ∧ b = .int .i64 n ∧ wr = w) (fun _ _ _ => 0)
  case atStart => exact ⟨rfl, rfl, rfl⟩
  case round =>
    obtain ⟨rfl, rfl, rfl⟩ := hrel
    go_wp2_with fail
    refine (insertion_any b n cap g0 _ (by omega) hd h).mono ?_
    rintro e w1 ⟨rfl, h1⟩
    go_wp2
    exact bodyPost_ret (v := .tuple #[]) (results_none rfl _ _ _) rfl ⟨rfl, h1⟩
set_option maxHeartbeats 1600000 in
theorem sort_any (b n cap : Nat) (g0 : Nat → Int) (w : World) (hn : n ≤ 8) (hd : distinct n g0) (h : Row w b n (ic g0)) :
    Calls Try.prog 81 #[.slice (some ⟨b, 0, none⟩) n cap] w fun e w' => e = .returned (.tuple #[]) ∧ ∃ g, Mixed n g0 g ∧ (∀ p q, p < q → q < n → g p ≤ g q) ∧ Row w' b n (ic g) ∧ Mod (fun x => x = b) w w' := by
  have HH : Hid (Row w b n (ic g0)) := h
  have HD : Hid (distinct n g0) := hd
  clear h hd
  go_enter Try.func81, Try.ntmps81
  go_wp2_with fail
  refine (len_any n _ hn).mono ?_
  rintro e w1 ⟨r, rfl, rfl⟩
  go_wp2_with fail
  refine (pdq_any b n cap g0 r _ hn HD.out HH.out).mono ?_
  rintro e w2 ⟨rfl, h1⟩
  go_wp2
  go_end0
  exact ⟨rfl, h1⟩
set_option maxHeartbeats 1600000 in
theorem insertion_nil (w : World) : Calls Try.prog 85 #[.slice none 0 0, .int .i64 0, .int .i64 0] w fun e w' => e = .returned (.tuple #[]) ∧ w' = w := by
  go_enter Try.func85, Try.ntmps85
  go_wp2
  go_loopw [6] (fun v wr => v = .int .i64 1 ∧ wr = w) (fun _ _ => 0)
  case atStart => exact ⟨rfl, rfl⟩
  case round =>
    obtain ⟨rfl, rfl⟩ := hrel
    go_wp2
    go_end0
    exact ⟨rfl, rfl⟩
set_option maxRecDepth 10000 in
set_option maxHeartbeats 1600000 in
theorem pdq_nil (r : Int) (w : World) : Calls Try.prog 83 #[.slice none 0 0, .int .i64 0, .int .i64 0, .int .i64 r] w fun e w' => e = .returned (.tuple #[]) ∧ w' = w := by
  go_enter Try.func83, Try.ntmps83
  go_wp2_with fail
  go_loopw [1, 2] (fun a b wr => a = .int .i64 0 ∧ b = .int .i64 0 ∧ wr = w) (fun _ _ _ => 0)
  case atStart => exact ⟨rfl, rfl, rfl⟩
  case round =>
    obtain ⟨rfl, rfl, rfl⟩ := hrel
    go_wp2_with fail
    refine (insertion_nil _).mono ?_
    rintro e w1 ⟨rfl, rfl⟩
    go_wp2
    exact bodyPost_ret (v := .tuple #[]) (results_none rfl _ _ _) rfl ⟨rfl, rfl⟩
set_option maxHeartbeats 1600000 in
theorem sort_nil (w : World) : Calls Try.prog 81 #[.slice none 0 0] w fun e w' => e = .returned (.tuple #[]) ∧ w' = w := by
  go_enter Try.func81, Try.ntmps81
  go_wp2_with fail
  refine (len_any 0 _ (by omega)).mono ?_
  rintro e w1 ⟨r, rfl, rfl⟩
  go_wp2_with fail
  refine (pdq_nil r _).mono ?_
  rintro e w2 ⟨rfl, rfl⟩
  go_wp2
  go_end0
  exact ⟨rfl, rfl⟩
end Go.Proofs.Ytagjfkkjmgfoiaa
