/- Rising lists of lines, and whether a list has a line. -/
import Derived.Test.YtglllnklcnlcjaaXFlush
namespace Go.Proofs.Ytglllnklcnlcjaa
open Go.RowKit
set_option linter.unusedSimpArgs false
def riseAt (f : Nat → Int) (i : Nat) : Prop := (0 ≤ f i ∧ f i ≤ 11) ∧ (0 < i → f (i - 1) < f i)
def rising (n : Nat) (f : Nat → Int) : Prop := ∀ i, i < n → riseAt f i
def hasLine (n : Nat) (f : Nat → Int) (k : Nat) : Prop := ∃ t, t < n ∧ f t = k
set_option maxHeartbeats 1600000 in
theorem l1Rising_any (ao : Option Addr) (c n : Nat) (f : Nat → Int) (Y : Nat → Prop) (w : World) (h : IntsAt Y w ao n f) :
    Calls Try.prog 54 #[.slice ao n c, .int .i64 0, .int .i64 11] w fun e w' => ∃ b, e = .returned (.bool b) ∧ (b = true ↔ rising n f) ∧ w' = w := by
  obtain ⟨hn, h⟩ := h
  have HH : Hid (∀ i, i < n → ∃ b o, ao = some ⟨b, o, none⟩ ∧ Y b ∧ w.cell? ⟨b, o + i, none⟩ = some (.int .i64 (f i))) := h
  clear h
  go_enter Try.func54, Try.ntmps54
  go_wp2
  go_loopw [11] (fun i wr => ∃ k : Nat, k ≤ n ∧ i = .int .i64 k ∧ (∀ t, t < k → riseAt f t) ∧ wr = w) (fun i _ => n - (intOf i).toNat)
  case atStart => exact ⟨0, Nat.zero_le _, rfl, fun t ht => absurd ht (Nat.not_lt_zero _), rfl⟩
  case round =>
    obtain ⟨k, hk, rfl, hok, rfl⟩ := hrel
    have HO : Hid (∀ t, t < k → riseAt f t) := hok
    clear hok
    by_cases hlt : k < n
    · obtain ⟨b, o, rfl, -, g1⟩ := HH.out k hlt
      have hlt' : (k : Int) < n := by omega
      by_cases hr : 0 ≤ f k ∧ f k ≤ 11
      · have HR : Hid (0 ≤ f k ∧ f k ≤ 11) := hr
        clear hr
        cases k with
        | zero =>
          simp only [Nat.add_zero] at g1
          go_wp2_with fail
          refine (l1In_yes _ _ _ _ HR.out.1 HR.out.2).mono ?_
          rintro e wr ⟨rfl, rfl⟩
          go_wp2
          go_roundw
          case rel => exact ⟨1, by omega, by go_num, fun t ht => by obtain rfl : t = 0 := by omega
                                                                    exact ⟨HR.out, fun h0 => absurd h0 (Nat.lt_irrefl 0)⟩, by first | rfl | trivial⟩
          case measure => simp [intOf]; omega
        | succ j =>
          obtain ⟨b', o', e1, -, g2⟩ := HH.out j (by omega)
          simp only [Option.some.injEq, Addr.mk.injEq, and_true] at e1
          obtain ⟨rfl, rfl⟩ := e1
          have hj : (0 : Int) < ((j + 1 : Nat) : Int) := by omega
          have hj2 : (((j + 1 : Nat) : Int) - 1) = (j : Int) := by omega
          have hj3 : (j : Int) < n := by omega
          by_cases hl : f j < f (j + 1)
          · have d1 : decide (f j ≥ f (j + 1)) = false := by simp; omega
            go_wp2_with fail
            refine (l1In_yes _ _ _ _ HR.out.1 HR.out.2).mono ?_
            rintro e wr ⟨rfl, rfl⟩
            go_wp2
            go_roundw
            case rel => exact ⟨j + 1 + 1, by omega, by go_num, fun t ht => by
              by_cases e : t = j + 1
              · subst e; exact ⟨HR.out, fun _ => by simp only [Nat.add_sub_cancel]; omega⟩
              · exact HO.out t (by omega), by first | rfl | trivial⟩
            case measure => simp [intOf]; omega
          · have d1 : decide (f j ≥ f (j + 1)) = true := by simp; omega
            go_wp2_with fail
            refine (l1In_yes _ _ _ _ HR.out.1 HR.out.2).mono ?_
            rintro e wr ⟨rfl, rfl⟩
            go_wp2
            go_ret
            exact ⟨false, rfl, ⟨fun h => absurd h (by decide), fun h => by have h9 := (h (j + 1) (by omega)).2 (by omega)
                                                                           simp only [Nat.add_sub_cancel] at h9
                                                                           omega⟩, by first | rfl | trivial⟩
      · have HR : Hid (¬ (0 ≤ f k ∧ f k ≤ 11)) := hr
        clear hr
        go_wp2_with fail
        refine (l1In_no _ _ _ _ HR.out).mono ?_
        rintro e wr ⟨rfl, rfl⟩
        go_wp2
        go_ret
        exact ⟨false, rfl, ⟨fun h => absurd h (by decide), fun h => absurd (h k hlt).1 HR.out⟩, rfl⟩
    · obtain rfl : k = n := by omega
      go_wp2
      go_ret
      exact ⟨true, rfl, ⟨fun _ => HO.out, fun _ => rfl⟩, rfl⟩
set_option maxHeartbeats 1600000 in
theorem risingLines_any (ao : Option Addr) (c n : Nat) (f : Nat → Int) (Y : Nat → Prop) (w : World) (h : IntsAt Y w ao n f) :
    Calls Try.prog 79 #[.slice ao n c] w fun e w' => ∃ b, e = .returned (.bool b) ∧ (b = true ↔ rising n f) ∧ w' = w := by
  obtain ⟨hn, h⟩ := h
  have HH : Hid (∀ i, i < n → ∃ b o, ao = some ⟨b, o, none⟩ ∧ Y b ∧ w.cell? ⟨b, o + i, none⟩ = some (.int .i64 (f i))) := h
  clear h
  go_enter Try.func79, Try.ntmps79
  go_wp2
  go_loopw [7] (fun i wr => ∃ k : Nat, k ≤ n ∧ i = .int .i64 k ∧ (∀ t, t < k → riseAt f t) ∧ wr = w) (fun i _ => n - (intOf i).toNat)
  case atStart => exact ⟨0, Nat.zero_le _, rfl, fun t ht => absurd ht (Nat.not_lt_zero _), rfl⟩
  case round =>
    obtain ⟨k, hk, rfl, hok, rfl⟩ := hrel
    have HO : Hid (∀ t, t < k → riseAt f t) := hok
    clear hok
    by_cases hlt : k < n
    · obtain ⟨b, o, rfl, -, g1⟩ := HH.out k hlt
      have hlt' : (k : Int) < n := by omega
      by_cases hr : 0 ≤ f k ∧ f k ≤ 11
      · have HR : Hid (0 ≤ f k ∧ f k ≤ 11) := hr
        clear hr
        cases k with
        | zero =>
          simp only [Nat.add_zero] at g1
          go_wp2_with fail
          refine (isLine_yes _ _ HR.out.1 HR.out.2).mono ?_
          rintro e wr ⟨rfl, rfl⟩
          go_wp2
          go_roundw
          case rel => exact ⟨1, by omega, by go_num, fun t ht => by obtain rfl : t = 0 := by omega
                                                                    exact ⟨HR.out, fun h0 => absurd h0 (Nat.lt_irrefl 0)⟩, by first | rfl | trivial⟩
          case measure => simp [intOf]; omega
        | succ j =>
          obtain ⟨b', o', e1, -, g2⟩ := HH.out j (by omega)
          simp only [Option.some.injEq, Addr.mk.injEq, and_true] at e1
          obtain ⟨rfl, rfl⟩ := e1
          have hj : (0 : Int) < ((j + 1 : Nat) : Int) := by omega
          have hj2 : (((j + 1 : Nat) : Int) - 1) = (j : Int) := by omega
          have hj3 : (j : Int) < n := by omega
          by_cases hl : f j < f (j + 1)
          · have d1 : decide (f (j + 1) ≤ f j) = false := by simp; omega
            go_wp2_with fail
            refine (isLine_yes _ _ HR.out.1 HR.out.2).mono ?_
            rintro e wr ⟨rfl, rfl⟩
            go_wp2
            go_roundw
            case rel => exact ⟨j + 1 + 1, by omega, by go_num, fun t ht => by
              by_cases e : t = j + 1
              · subst e; exact ⟨HR.out, fun _ => by simp only [Nat.add_sub_cancel]; omega⟩
              · exact HO.out t (by omega), by first | rfl | trivial⟩
            case measure => simp [intOf]; omega
          · have d1 : decide (f (j + 1) ≤ f j) = true := by simp; omega
            go_wp2_with fail
            refine (isLine_yes _ _ HR.out.1 HR.out.2).mono ?_
            rintro e wr ⟨rfl, rfl⟩
            go_wp2
            go_ret
            exact ⟨false, rfl, ⟨fun h => absurd h (by decide), fun h => by have h9 := (h (j + 1) (by omega)).2 (by omega)
                                                                           simp only [Nat.add_sub_cancel] at h9
                                                                           omega⟩, by first | rfl | trivial⟩
      · have HR : Hid (¬ (0 ≤ f k ∧ f k ≤ 11)) := hr
        clear hr
        go_wp2_with fail
        refine (isLine_no _ _ HR.out).mono ?_
        rintro e wr ⟨rfl, rfl⟩
        go_wp2
        go_ret
        exact ⟨false, rfl, ⟨fun h => absurd h (by decide), fun h => absurd (h k hlt).1 HR.out⟩, rfl⟩
    · obtain rfl : k = n := by omega
      go_wp2
      go_ret
      exact ⟨true, rfl, ⟨fun _ => HO.out, fun _ => rfl⟩, rfl⟩
set_option maxHeartbeats 1600000 in
theorem l1Has_any (ao : Option Addr) (c n : Nat) (f : Nat → Int) (Y : Nat → Prop) (w : World) (x : Nat) (h : IntsAt Y w ao n f) :
    Calls Try.prog 98 #[.slice ao n c, .int .i64 x] w fun e w' => ∃ b, e = .returned (.bool b) ∧ (b = true ↔ hasLine n f x) ∧ w' = w := by
  obtain ⟨hn, h⟩ := h
  have HH : Hid (∀ i, i < n → ∃ b o, ao = some ⟨b, o, none⟩ ∧ Y b ∧ w.cell? ⟨b, o + i, none⟩ = some (.int .i64 (f i))) := h
  clear h
  go_enter Try.func98, Try.ntmps98
  go_wp2
  go_loopw [9] (fun i wr => ∃ k : Nat, k ≤ n ∧ i = .int .i64 k ∧ (∀ t, t < k → ¬ f t = x) ∧ wr = w) (fun i _ => n - (intOf i).toNat)
  case atStart => exact ⟨0, Nat.zero_le _, rfl, fun t ht => absurd ht (Nat.not_lt_zero _), rfl⟩
  case round =>
    obtain ⟨k, hk, rfl, hok, rfl⟩ := hrel
    have HO : Hid (∀ t, t < k → ¬ f t = x) := hok
    clear hok
    by_cases hlt : k < n
    · obtain ⟨b, o, rfl, -, g1⟩ := HH.out k hlt
      have hlt' : (k : Int) < n := by omega
      by_cases hr : f k = (x : Int)
      · have d1 : (f k == (x : Int)) = true := by simp [hr]
        go_wp2
        go_ret
        exact ⟨true, rfl, ⟨fun _ => ⟨k, hlt, hr⟩, fun _ => rfl⟩, rfl⟩
      · have d1 : (f k == (x : Int)) = false := by simp [hr]
        go_wp2
        go_roundw
        case rel => exact ⟨k + 1, by omega, by go_num, fun t ht => by
          by_cases e : t = k
          · subst e; exact hr
          · exact HO.out t (by omega), by first | rfl | trivial⟩
        case measure => simp [intOf]; omega
    · obtain rfl : k = n := by omega
      go_wp2
      go_ret
      exact ⟨false, rfl, ⟨fun h => absurd h (by decide), fun ⟨t, h1, h2⟩ => absurd h2 (HO.out t h1)⟩, rfl⟩
end Go.Proofs.Ytglllnklcnlcjaa
