/- 'GoodPairs', the model's and the program's. -/
import Derived.Test.YtglllnklcnlcjaaPairL
import Derived.Test.YtglllnklcnlcjaaHold
import Derived.Test.YtglllnklcnlcjaaGoodL
namespace Go.Proofs.Ytglllnklcnlcjaa
open Go.RowKit
set_option linter.unusedSimpArgs false
set_option linter.unusedVariables false
def placeOK (x : Int) : Prop := 8 ≤ x ∧ x ≤ 23
def pairOK (f g : Nat → Int) (i : Nat) : Prop := placeOK (f i) ∧ wordOK (g i) ∧ (0 < i → f (i - 1) < f i)
def goodP (n : Nat) (f g : Nat → Int) : Prop := (1 ≤ n ∧ n ≤ 3) ∧ ∀ i, i < n → pairOK f g i
set_option maxHeartbeats 400000 in
theorem isData_yes (n : Int) (w : World) (h : placeOK n) : Calls Try.prog 59 #[.int .i64 n] w fun e w' => e = .returned (.bool true) ∧ w' = w := by
  have h1 := h.1
  have h2 := h.2
  have hd : decide (n < 24) = true := by simp; omega
  clear h
  go_enter Try.func59, Try.ntmps59
  go_wp2
  go_ret
  exact ⟨rfl, rfl⟩
set_option maxHeartbeats 400000 in
theorem isData_no (n : Int) (w : World) (h : ¬ placeOK n) : Calls Try.prog 59 #[.int .i64 n] w fun e w' => e = .returned (.bool false) ∧ w' = w := by
  unfold placeOK at h
  by_cases h1 : 8 ≤ n
  · have h2 : ¬ n < 24 := fun h3 => h ⟨h1, by omega⟩
    clear h
    go_enter Try.func59, Try.ntmps59
    go_wp2
    go_ret
    exact ⟨rfl, rfl⟩
  · clear h
    have hd : decide (8 ≤ n) = false := by simpa using h1
    go_enter Try.func59, Try.ntmps59
    go_wp2
    go_ret
    exact ⟨rfl, rfl⟩
set_option maxHeartbeats 400000 in
theorem l4Place_yes (n : Int) (w : World) (h : placeOK n) : Calls Try.prog 61 #[.int .i64 n] w fun e w' => e = .returned (.bool true) ∧ w' = w := by
  go_enter Try.func61, Try.ntmps61
  go_wp2_with fail
  refine (l1In_yes _ _ _ _ h.1 h.2).mono ?_
  rintro e wr ⟨rfl, rfl⟩
  go_wp2
  go_ret
  exact ⟨rfl, rfl⟩
set_option maxHeartbeats 400000 in
theorem l4Place_no (n : Int) (w : World) (h : ¬ placeOK n) : Calls Try.prog 61 #[.int .i64 n] w fun e w' => e = .returned (.bool false) ∧ w' = w := by
  go_enter Try.func61, Try.ntmps61
  go_wp2_with fail
  refine (l1In_no _ _ _ _ h).mono ?_
  rintro e wr ⟨rfl, rfl⟩
  go_wp2
  go_ret
  exact ⟨rfl, rfl⟩
set_option maxRecDepth 10000 in
set_option maxHeartbeats 3200000 in
theorem specGoodP_any (ao : Option Addr) (c n : Nat) (f g : Nat → Int) (Y : Nat → Prop) (w : World) (h : UndosAt Y w ao n f g) :
    Calls Try.prog 19 #[.slice ao n c] w fun e w' => ∃ b, e = .returned (.bool b) ∧ (b = true ↔ goodP n f g) ∧ Blw w w' := by
  have H : Hid (UndosAt Y w ao n f g) := h
  have hn := h.1
  clear h
  go_enter Try.func19, Try.ntmps19
  go_wp2_with fail
  go_loopw [7] (fun i wr => ∃ k : Nat, k ≤ n ∧ i = .int .i64 k ∧ (∀ t, t < k → pairOK f g t) ∧ Blw w wr) (fun i _ => n - (intOf i).toNat)
  case atStart => exact ⟨0, Nat.zero_le _, rfl, fun t ht => absurd ht (Nat.not_lt_zero _), Blw.refl _⟩
  case round =>
    obtain ⟨k, hk, rfl, hok, hb⟩ := hrel
    have HO : Hid (∀ t, t < k → pairOK f g t) := hok
    clear hok
    by_cases hlt : k < n
    · have hlt' : (k : Int) < n := by omega
      have HB : Hid (Blw w (wr.alloc (.cells #[.int .i64 (f k), .int .i64 (g k)] 43))) := hb.alloc _
      have hA : Blw wr (wr.alloc (.cells #[.int .i64 (f k), .int .i64 (g k)] 43)) := (Blw.refl _).alloc _
      have hbx := box2 wr (.int .i64 (f k)) (.int .i64 (g k)) 43
      have Q0 : (wr.alloc (.cells #[.int .i64 (f k), .int .i64 (g k)] 43)).cell? ⟨wr.heap.size, 0, none⟩ = some (.int .i64 (f k)) := (get2 hbx).1
      have Q1 : (wr.alloc (.cells #[.int .i64 (f k), .int .i64 (g k)] 43)).cell? ⟨wr.heap.size, 1, none⟩ = some (.int .i64 (g k)) := (get2 hbx).2
      obtain ⟨b, o, rfl, -, g0, g1⟩ := (H.out.blw hb).2 k hlt
      have HC : Hid (UndosAt Y (wr.alloc (.cells #[.int .i64 (f k), .int .i64 (g k)] 43)) (some ⟨b, o, none⟩) n f g) := (H.out.blw hb).blw hA
      clear hb hA hbx
      by_cases ok1 : placeOK (f k)
      · have OK1 : Hid (placeOK (f k)) := ok1
        clear ok1
        by_cases ok2 : wordOK (g k)
        · have OK2 : Hid (wordOK (g k)) := ok2
          clear ok2
          cases k with
          | zero =>
            simp only [Nat.zero_mul, Nat.add_zero] at g0 g1
            go_wp2_with fail
            clear g0 g1
            revert HB Q0 Q1 HC
            generalize wr.alloc (.cells #[.int .i64 (f 0), .int .i64 (g 0)] 43) = w1
            intro HB Q0 Q1 HC
            go_quiet (first
              | (go_at_call 61; exact Calls.quiet_of_same (l4Place_yes _ _ OK1.out))
              | (go_at_call 62; exact Calls.quiet_of_same (l1In_yes _ _ _ _ OK2.out.1 OK2.out.2)))
            go_wp2
            go_roundw
            all_goals first | exact ⟨1, by omega, by go_num, fun t ht => by
                obtain rfl : t = 0 := by omega
                exact ⟨OK1.out, OK2.out, fun h0 => absurd h0 (Nat.lt_irrefl 0)⟩, HB.out.drewN nq⟩ | (simp [intOf]; omega)
          | succ j =>
            obtain ⟨b', o', e1, -, c0, -⟩ := HC.out.2 j (by omega)
            simp only [Option.some.injEq, Addr.mk.injEq, and_true] at e1
            obtain ⟨rfl, rfl⟩ := e1
            have C0 : (wr.alloc (.cells #[.int .i64 (f (j + 1)), .int .i64 (g (j + 1))] 43)).cell? ⟨b, o + j * 2, none⟩ = some (.int .i64 (f j)) := c0
            clear HC
            have hj : (0 : Int) < ((j + 1 : Nat) : Int) := by omega
            have hj2 : (((j + 1 : Nat) : Int) - 1) = (j : Int) := by omega
            have hj3 : (j : Int) < n := by omega
            by_cases hl : f j < f (j + 1)
            · have d1 : decide (f j ≥ f (j + 1)) = false := by simp; omega
              go_wp2_with fail
              clear g0 g1
              revert HB Q0 Q1 C0
              generalize wr.alloc (.cells #[.int .i64 (f (j + 1)), .int .i64 (g (j + 1))] 43) = w1
              intro HB Q0 Q1 C0
              go_quiet (first
                | (go_at_call 61; exact Calls.quiet_of_same (l4Place_yes _ _ OK1.out))
                | (go_at_call 62; exact Calls.quiet_of_same (l1In_yes _ _ _ _ OK2.out.1 OK2.out.2)))
              go_wp2
              go_roundw
              all_goals first | exact ⟨j + 1 + 1, by omega, by go_num, fun t ht => by
                  by_cases e : t = j + 1
                  · subst e; exact ⟨OK1.out, OK2.out, fun _ => by simp only [Nat.add_sub_cancel]; omega⟩
                  · exact HO.out t (by omega), HB.out.drewN nq⟩ | (simp [intOf]; omega)
            · have d1 : decide (f j ≥ f (j + 1)) = true := by simp; omega
              go_wp2_with fail
              clear g0 g1
              revert HB Q0 Q1 C0
              generalize wr.alloc (.cells #[.int .i64 (f (j + 1)), .int .i64 (g (j + 1))] 43) = w1
              intro HB Q0 Q1 C0
              go_quiet (first
                | (go_at_call 61; exact Calls.quiet_of_same (l4Place_yes _ _ OK1.out))
                | (go_at_call 62; exact Calls.quiet_of_same (l1In_yes _ _ _ _ OK2.out.1 OK2.out.2)))
              go_wp2
              go_ret
              exact ⟨false, rfl, ⟨fun h => absurd h (by decide), fun h => by
                  have h9 := (h.2 (j + 1) (by omega)).2.2 (by omega)
                  simp only [Nat.add_sub_cancel] at h9
                  omega⟩, HB.out.drewN nq⟩
        · have OK2 : Hid (¬ wordOK (g k)) := ok2
          clear ok2 HC
          go_wp2_with fail
          clear g0 g1
          revert HB Q0 Q1
          generalize wr.alloc (.cells #[.int .i64 (f k), .int .i64 (g k)] 43) = w1
          intro HB Q0 Q1
          go_quiet (first
            | (go_at_call 61; exact Calls.quiet_of_same (l4Place_yes _ _ OK1.out))
            | (go_at_call 62; exact Calls.quiet_of_same (l1In_no _ _ _ _ OK2.out)))
          go_wp2
          go_ret
          exact ⟨false, rfl, ⟨fun h => absurd h (by decide), fun h => absurd (h.2 k hlt).2.1 OK2.out⟩, HB.out.drewN nq⟩
      · have OK1 : Hid (¬ placeOK (f k)) := ok1
        clear ok1 HC
        go_wp2_with fail
        clear g0 g1
        revert HB Q0 Q1
        generalize wr.alloc (.cells #[.int .i64 (f k), .int .i64 (g k)] 43) = w1
        intro HB Q0 Q1
        go_quiet (first
          | (go_at_call 61; exact Calls.quiet_of_same (l4Place_no _ _ OK1.out)))
        go_wp2
        go_ret
        exact ⟨false, rfl, ⟨fun h => absurd h (by decide), fun h => absurd (h.2 k hlt).1 OK1.out⟩, HB.out.drewN nq⟩
    · obtain rfl : k = n := by omega
      by_cases h3 : 1 ≤ k ∧ k ≤ 3
      · go_wp2_with fail
        refine (l1In_yes _ _ _ _ (by omega) (by omega)).mono ?_
        rintro e wr ⟨rfl, rfl⟩
        go_wp2
        go_ret
        exact ⟨true, rfl, ⟨fun _ => ⟨h3, HO.out⟩, fun _ => rfl⟩, hb⟩
      · go_wp2_with fail
        refine (l1In_no _ _ _ _ (by omega)).mono ?_
        rintro e wr ⟨rfl, rfl⟩
        go_wp2
        go_ret
        exact ⟨false, rfl, ⟨fun h => absurd h (by decide), fun h => absurd h.1 h3⟩, hb⟩
set_option maxRecDepth 10000 in
set_option maxHeartbeats 3200000 in
theorem implGoodP_any (ao : Option Addr) (c n : Nat) (f g : Nat → Int) (Y : Nat → Prop) (w : World) (h : UndosAt Y w ao n f g) :
    Calls Try.prog 18 #[.slice ao n c] w fun e w' => ∃ b, e = .returned (.bool b) ∧ (b = true ↔ goodP n f g) ∧ Blw w w' := by
  have H : Hid (UndosAt Y w ao n f g) := h
  have hn := h.1
  clear h
  go_enter Try.func18, Try.ntmps18
  by_cases h3 : ¬ (1 ≤ n ∧ n ≤ 3)
  · by_cases h1 : (n : Int) < 1
    · go_wp2
      go_ret
      exact ⟨false, rfl, ⟨fun h => absurd h (by decide), fun h => absurd h.1 h3⟩, Blw.refl _⟩
    · have h2 : (3 : Int) < n := by omega
      have d2 : decide ((n : Int) > 3) = true := by simp; omega
      go_wp2
      go_ret
      first | exact ⟨false, rfl, ⟨fun h => absurd h (by decide), fun h => absurd h.1 h3⟩, Blw.refl _⟩ | exact Or.inl ⟨rfl, fun h => absurd h.1 h3, Blw.refl _⟩
  have e1 : ¬ (n : Int) < 1 := by omega
  have e2 : decide ((n : Int) > 3) = false := by simp; omega
  have h3' : 1 ≤ n ∧ n ≤ 3 := by omega
  clear h3
  go_wp2_with fail
  go_loopw [15] (fun i wr => ∃ k : Nat, k ≤ n ∧ i = .int .i64 k ∧ (∀ t, t < k → pairOK f g t) ∧ Blw w wr) (fun i _ => n - (intOf i).toNat)
  case atStart => exact ⟨0, Nat.zero_le _, rfl, fun t ht => absurd ht (Nat.not_lt_zero _), Blw.refl _⟩
  case round =>
    obtain ⟨k, hk, rfl, hok, hb⟩ := hrel
    have HO : Hid (∀ t, t < k → pairOK f g t) := hok
    clear hok
    by_cases hlt : k < n
    · have hlt' : (k : Int) < n := by omega
      have HB : Hid (Blw w (wr.alloc (.cells #[.int .i64 (f k), .int .i64 (g k)] 43))) := hb.alloc _
      have hA : Blw wr (wr.alloc (.cells #[.int .i64 (f k), .int .i64 (g k)] 43)) := (Blw.refl _).alloc _
      have hbx := box2 wr (.int .i64 (f k)) (.int .i64 (g k)) 43
      have Q0 : (wr.alloc (.cells #[.int .i64 (f k), .int .i64 (g k)] 43)).cell? ⟨wr.heap.size, 0, none⟩ = some (.int .i64 (f k)) := (get2 hbx).1
      have Q1 : (wr.alloc (.cells #[.int .i64 (f k), .int .i64 (g k)] 43)).cell? ⟨wr.heap.size, 1, none⟩ = some (.int .i64 (g k)) := (get2 hbx).2
      obtain ⟨b, o, rfl, -, g0, g1⟩ := (H.out.blw hb).2 k hlt
      have HC : Hid (UndosAt Y (wr.alloc (.cells #[.int .i64 (f k), .int .i64 (g k)] 43)) (some ⟨b, o, none⟩) n f g) := (H.out.blw hb).blw hA
      clear hb hA hbx
      by_cases ok1 : placeOK (f k)
      · have OK1 : Hid (placeOK (f k)) := ok1
        clear ok1
        by_cases ok2 : wordOK (g k)
        · have OK2 : Hid (wordOK (g k)) := ok2
          clear ok2
          cases k with
          | zero =>
            simp only [Nat.zero_mul, Nat.add_zero] at g0 g1
            go_wp2_with fail
            clear g0 g1
            revert HB Q0 Q1 HC
            generalize wr.alloc (.cells #[.int .i64 (f 0), .int .i64 (g 0)] 43) = w1
            intro HB Q0 Q1 HC
            go_quiet (first
              | (go_at_call 59; exact Calls.quiet_of_same (isData_yes _ _ OK1.out))
              | (go_at_call 60; exact Calls.quiet_of_same (isWord_yes _ _ OK2.out)))
            go_wp2
            go_roundw
            all_goals first | exact ⟨1, by omega, by go_num, fun t ht => by
                obtain rfl : t = 0 := by omega
                exact ⟨OK1.out, OK2.out, fun h0 => absurd h0 (Nat.lt_irrefl 0)⟩, HB.out.drewN nq⟩ | (simp [intOf]; omega)
          | succ j =>
            obtain ⟨b', o', e1, -, c0, -⟩ := HC.out.2 j (by omega)
            simp only [Option.some.injEq, Addr.mk.injEq, and_true] at e1
            obtain ⟨rfl, rfl⟩ := e1
            have C0 : (wr.alloc (.cells #[.int .i64 (f (j + 1)), .int .i64 (g (j + 1))] 43)).cell? ⟨b, o + j * 2, none⟩ = some (.int .i64 (f j)) := c0
            clear HC
            have hj : (0 : Int) < ((j + 1 : Nat) : Int) := by omega
            have hj2 : (((j + 1 : Nat) : Int) - 1) = (j : Int) := by omega
            have hj3 : (j : Int) < n := by omega
            by_cases hl : f j < f (j + 1)
            · have d1 : decide (f (j + 1) ≤ f j) = false := by simp; omega
              go_wp2_with fail
              clear g0 g1
              revert HB Q0 Q1 C0
              generalize wr.alloc (.cells #[.int .i64 (f (j + 1)), .int .i64 (g (j + 1))] 43) = w1
              intro HB Q0 Q1 C0
              go_quiet (first
                | (go_at_call 59; exact Calls.quiet_of_same (isData_yes _ _ OK1.out))
                | (go_at_call 60; exact Calls.quiet_of_same (isWord_yes _ _ OK2.out)))
              go_wp2
              go_roundw
              all_goals first | exact ⟨j + 1 + 1, by omega, by go_num, fun t ht => by
                  by_cases e : t = j + 1
                  · subst e; exact ⟨OK1.out, OK2.out, fun _ => by simp only [Nat.add_sub_cancel]; omega⟩
                  · exact HO.out t (by omega), HB.out.drewN nq⟩ | (simp [intOf]; omega)
            · have d1 : decide (f (j + 1) ≤ f j) = true := by simp; omega
              go_wp2_with fail
              clear g0 g1
              revert HB Q0 Q1 C0
              generalize wr.alloc (.cells #[.int .i64 (f (j + 1)), .int .i64 (g (j + 1))] 43) = w1
              intro HB Q0 Q1 C0
              go_quiet (first
                | (go_at_call 59; exact Calls.quiet_of_same (isData_yes _ _ OK1.out))
                | (go_at_call 60; exact Calls.quiet_of_same (isWord_yes _ _ OK2.out)))
              go_wp2
              go_ret
              exact ⟨false, rfl, ⟨fun h => absurd h (by decide), fun h => by
                  have h9 := (h.2 (j + 1) (by omega)).2.2 (by omega)
                  simp only [Nat.add_sub_cancel] at h9
                  omega⟩, HB.out.drewN nq⟩
        · have OK2 : Hid (¬ wordOK (g k)) := ok2
          clear ok2 HC
          go_wp2_with fail
          clear g0 g1
          revert HB Q0 Q1
          generalize wr.alloc (.cells #[.int .i64 (f k), .int .i64 (g k)] 43) = w1
          intro HB Q0 Q1
          go_quiet (first
            | (go_at_call 59; exact Calls.quiet_of_same (isData_yes _ _ OK1.out))
            | (go_at_call 60; exact Calls.quiet_of_same (isWord_no _ _ OK2.out)))
          go_wp2
          go_ret
          exact ⟨false, rfl, ⟨fun h => absurd h (by decide), fun h => absurd (h.2 k hlt).2.1 OK2.out⟩, HB.out.drewN nq⟩
      · have OK1 : Hid (¬ placeOK (f k)) := ok1
        clear ok1 HC
        go_wp2_with fail
        clear g0 g1
        revert HB Q0 Q1
        generalize wr.alloc (.cells #[.int .i64 (f k), .int .i64 (g k)] 43) = w1
        intro HB Q0 Q1
        go_quiet (first
          | (go_at_call 59; exact Calls.quiet_of_same (isData_no _ _ OK1.out)))
        go_wp2
        go_ret
        exact ⟨false, rfl, ⟨fun h => absurd h (by decide), fun h => absurd (h.2 k hlt).1 OK1.out⟩, HB.out.drewN nq⟩
    · obtain rfl : k = n := by omega
      go_wp2
      go_ret
      exact ⟨true, rfl, ⟨fun _ => ⟨h3', HO.out⟩, fun _ => rfl⟩, hb⟩
end Go.Proofs.Ytglllnklcnlcjaa
