/- Steps that are right: the program's and the model's. -/
import Derived.Test.YtkadjebncjcclaaImplM
import Derived.Test.YtkadjebncjcclaaSpecMp
import Derived.Test.YtkadjebncjcclaaSpecUn
import Derived.Test.YtkadjebncjcclaaWkL
import Derived.Test.YtkadjebncjcclaaWalk
namespace Go.Proofs.Ytkadjebncjcclaa
open Go.RowKit
set_option linter.unusedSimpArgs false
set_option linter.unusedVariables false
def rightS (k a g y : Int) : Prop := pgOK a ∧ ((k = 2 ∧ pgOK g ∧ mayOK y) ∨ ((k = 1 ∨ k = 4) ∧ g = 0 ∧ mayOK y) ∨ (k = 3 ∧ g = 0 ∧ y = 0))
set_option maxHeartbeats 3200000 in
theorem isStep_any (k a g y : Int) (w : World) : Calls Try.prog 70 #[.agg #[.int .i64 k, .int .i64 a, .int .i64 g, .int .i64 y]] w fun e w' => ∃ r, e = .returned (.bool r) ∧ (r = true ↔ rightS k a g y) ∧ Blw w w' := by
  have HB : Hid (Blw w (w.alloc (.cells #[.int .i64 k, .int .i64 a, .int .i64 g, .int .i64 y] 42))) := (Blw.refl _).alloc _
  have hr := box4 w (.int .i64 k) (.int .i64 a) (.int .i64 g) (.int .i64 y) 42
  obtain ⟨b0, b1, b2, b3⟩ := get4 hr
  clear hr
  go_enter Try.func70, Try.ntmps70
  go_wp2_with fail
  generalize w.alloc (.cells #[.int .i64 k, .int .i64 a, .int .i64 g, .int .i64 y] 42) = w0 at *
  refine (isPlace_any a _).mono ?_
  rintro e w0 ⟨r, rfl, hr, rfl⟩
  have HT : Hid (r = true ↔ pgOK a) := hr
  clear hr
  cases r
  · have HN : Hid (¬ pgOK a) := fun q => by have := HT.out.2 q; simp at this
    clear HT
    go_wp2
    go_ret
    exact ⟨false, rfl, iff_f (fun q => HN.out q.1), HB.out⟩
  · have HY : Hid (pgOK a) := HT.out.1 (by first | rfl | trivial)
    clear HT
    have HA : Hid (pgOK a) := HY.out
    clear HY
    by_cases k2 : k = 2
    · subst k2
      go_wp2_with fail
      refine (isPage_any g _).mono ?_
      rintro e w0 ⟨r, rfl, hr, rfl⟩
      have HT : Hid (r = true ↔ pgOK g) := hr
      clear hr
      cases r
      · have HN : Hid (¬ pgOK g) := fun q => by have := HT.out.2 q; simp at this
        clear HT
        go_wp2
        go_ret
        exact ⟨false, rfl, iff_f (fun q => HN.out (by rcases q.2 with h | h | h <;> first | exact h.2.1 | (exfalso; omega))), HB.out⟩
      · have HY : Hid (pgOK g) := HT.out.1 (by first | rfl | trivial)
        clear HT
        have HP : Hid (pgOK g) := HY.out
        clear HY
        go_wp2_with fail
        refine (isMay_any y _).mono ?_
        rintro e w0 ⟨r, rfl, hr, rfl⟩
        have HT : Hid (r = true ↔ mayOK y) := hr
        clear hr
        cases r
        · have HN : Hid (¬ mayOK y) := fun q => by have := HT.out.2 q; simp at this
          clear HT
          go_wp2
          go_ret
          exact ⟨false, rfl, iff_f (fun q => HN.out (by rcases q.2 with h | h | h <;> first | exact h.2.2 | (exfalso; omega))), HB.out⟩
        · have HY : Hid (mayOK y) := HT.out.1 (by first | rfl | trivial)
          clear HT
          go_wp2
          go_ret
          exact ⟨true, rfl, iff_t (⟨HA.out, Or.inl ⟨rfl, HP.out, HY.out⟩⟩), HB.out⟩
    · have d2 : (k == 2) = false := by simp [k2]
      by_cases k1 : k = 1
      · subst k1
        clear k2 d2
        by_cases g0 : g = 0
        · subst g0
          go_wp2_with fail
          refine (isMay_any y _).mono ?_
          rintro e w0 ⟨r, rfl, hr, rfl⟩
          have HT : Hid (r = true ↔ mayOK y) := hr
          clear hr
          cases r
          · have HN : Hid (¬ mayOK y) := fun q => by have := HT.out.2 q; simp at this
            clear HT
            go_wp2
            go_ret
            exact ⟨false, rfl, iff_f (fun q => HN.out (by rcases q.2 with h | h | h <;> first | exact h.2.2 | (exfalso; omega))), HB.out⟩
          · have HY : Hid (mayOK y) := HT.out.1 (by first | rfl | trivial)
            clear HT
            go_wp2
            go_ret
            exact ⟨true, rfl, iff_t (⟨HA.out, Or.inr (Or.inl ⟨Or.inl rfl, rfl, HY.out⟩)⟩), HB.out⟩
        · have dg : (g == 0) = false := by simp [g0]
          have HN : Hid (¬ g = 0) := g0
          clear g0
          go_wp2
          go_ret
          exact ⟨false, rfl, iff_f (fun q => HN.out (by rcases q.2 with h | h | h <;> first | exact h.2.1 | (exfalso; omega))), HB.out⟩
      · have d1 : (k == 1) = false := by simp [k1]
        by_cases k4 : k = 4
        · subst k4
          clear k2 k1 d2 d1
          by_cases g0 : g = 0
          · subst g0
            go_wp2_with fail
            refine (isMay_any y _).mono ?_
            rintro e w0 ⟨r, rfl, hr, rfl⟩
            have HT : Hid (r = true ↔ mayOK y) := hr
            clear hr
            cases r
            · have HN : Hid (¬ mayOK y) := fun q => by have := HT.out.2 q; simp at this
              clear HT
              go_wp2
              go_ret
              exact ⟨false, rfl, iff_f (fun q => HN.out (by rcases q.2 with h | h | h <;> first | exact h.2.2 | (exfalso; omega))), HB.out⟩
            · have HY : Hid (mayOK y) := HT.out.1 (by first | rfl | trivial)
              clear HT
              go_wp2
              go_ret
              exact ⟨true, rfl, iff_t (⟨HA.out, Or.inr (Or.inl ⟨Or.inr rfl, rfl, HY.out⟩)⟩), HB.out⟩
          · have dg : (g == 0) = false := by simp [g0]
            have HN : Hid (¬ g = 0) := g0
            clear g0
            go_wp2
            go_ret
            exact ⟨false, rfl, iff_f (fun q => HN.out (by rcases q.2 with h | h | h <;> first | exact h.2.1 | (exfalso; omega))), HB.out⟩
        · have d4 : (k == 4) = false := by simp [k4]
          by_cases k3 : k = 3
          · subst k3
            clear k2 k1 k4 d2 d1 d4
            by_cases g0 : g = 0
            · subst g0
              by_cases y0 : y = 0
              · subst y0
                go_wp2
                go_ret
                exact ⟨true, rfl, iff_t ⟨HA.out, Or.inr (Or.inr ⟨rfl, rfl, rfl⟩)⟩, HB.out⟩
              · have dy : (y == 0) = false := by simp [y0]
                have HN : Hid (¬ y = 0) := y0
                clear y0
                go_wp2
                go_ret
                exact ⟨false, rfl, iff_f (fun q => HN.out (by rcases q.2 with h | h | h <;> first | exact h.2.2 | (exfalso; omega))), HB.out⟩
            · have dg : (g == 0) = false := by simp [g0]
              have HN : Hid (¬ g = 0) := g0
              clear g0
              go_wp2
              go_ret
              exact ⟨false, rfl, iff_f (fun q => HN.out (by rcases q.2 with h | h | h <;> first | exact h.2.1 | (exfalso; omega))), HB.out⟩
          · have d3 : (k == 3) = false := by simp [k3]
            have HN : Hid (¬ rightS k a g y) := fun q => by rcases q.2 with h | h | h <;> omega
            clear k2 k1 k4 k3
            go_wp2
            go_ret
            exact ⟨false, rfl, iff_f HN.out, HB.out⟩
set_option maxHeartbeats 3200000 in
theorem l7Right_any (k a g y : Int) (w : World) : Calls Try.prog 58 #[.agg #[.int .i64 k, .int .i64 a, .int .i64 g, .int .i64 y]] w fun e w' => ∃ r, e = .returned (.bool r) ∧ (r = true ↔ rightS k a g y) ∧ Blw w w' := by
  have HB : Hid (Blw w (w.alloc (.cells #[.int .i64 k, .int .i64 a, .int .i64 g, .int .i64 y] 42))) := (Blw.refl _).alloc _
  have hr := box4 w (.int .i64 k) (.int .i64 a) (.int .i64 g) (.int .i64 y) 42
  obtain ⟨b0, b1, b2, b3⟩ := get4 hr
  clear hr
  go_enter Try.func58, Try.ntmps58
  go_wp2_with fail
  generalize w.alloc (.cells #[.int .i64 k, .int .i64 a, .int .i64 g, .int .i64 y] 42) = w0 at *
  refine (l1In_any y 1 3 _).mono ?_
  rintro e w0 ⟨rm, rfl, hm, rfl⟩
  have HM : Hid (rm = true ↔ mayOK y) := hm
  clear hm
  by_cases k1 : k = 1
  · subst k1
    go_wp2_with fail
    refine (l6At_any a _).mono ?_
    rintro e w0 ⟨r, rfl, hr, rfl⟩
    have HT : Hid (r = true ↔ pgOK a) := hr
    clear hr
    cases r
    · have HN : Hid (¬ pgOK a) := fun q => by have := HT.out.2 q; simp at this
      clear HT
      go_wp2
      go_ret
      exact ⟨false, rfl, iff_f (fun q => HN.out q.1), HB.out⟩
    · have HY : Hid (pgOK a) := HT.out.1 (by first | rfl | trivial)
      clear HT
      have HA : Hid (pgOK a) := HY.out
      clear HY
      by_cases g0 : g = 0
      · subst g0
        cases rm
        · have HN : Hid (¬ mayOK y) := fun q => by have := HM.out.2 q; simp at this
          go_wp2
          go_ret
          exact ⟨false, rfl, iff_f (fun q => HN.out (by rcases q.2 with h | h | h <;> first | exact h.2.2 | (exfalso; omega))), HB.out⟩
        · have HY : Hid (mayOK y) := HM.out.1 (by first | rfl | trivial)
          go_wp2
          go_ret
          exact ⟨true, rfl, iff_t (⟨HA.out, Or.inr (Or.inl ⟨Or.inl rfl, rfl, HY.out⟩)⟩), HB.out⟩
      · have dg : (g == 0) = false := by simp [g0]
        have HN : Hid (¬ g = 0) := g0
        clear g0
        go_wp2
        go_ret
        exact ⟨false, rfl, iff_f (fun q => HN.out (by rcases q.2 with h | h | h <;> first | exact h.2.1 | (exfalso; omega))), HB.out⟩
  · have d1 : (k == 1) = false := by simp [k1]
    by_cases k4 : k = 4
    · subst k4
      clear k1 d1
      go_wp2_with fail
      refine (l6At_any a _).mono ?_
      rintro e w0 ⟨r, rfl, hr, rfl⟩
      have HT : Hid (r = true ↔ pgOK a) := hr
      clear hr
      cases r
      · have HN : Hid (¬ pgOK a) := fun q => by have := HT.out.2 q; simp at this
        clear HT
        go_wp2
        go_ret
        exact ⟨false, rfl, iff_f (fun q => HN.out q.1), HB.out⟩
      · have HY : Hid (pgOK a) := HT.out.1 (by first | rfl | trivial)
        clear HT
        have HA : Hid (pgOK a) := HY.out
        clear HY
        by_cases g0 : g = 0
        · subst g0
          cases rm
          · have HN : Hid (¬ mayOK y) := fun q => by have := HM.out.2 q; simp at this
            go_wp2
            go_ret
            exact ⟨false, rfl, iff_f (fun q => HN.out (by rcases q.2 with h | h | h <;> first | exact h.2.2 | (exfalso; omega))), HB.out⟩
          · have HY : Hid (mayOK y) := HM.out.1 (by first | rfl | trivial)
            go_wp2
            go_ret
            exact ⟨true, rfl, iff_t (⟨HA.out, Or.inr (Or.inl ⟨Or.inr rfl, rfl, HY.out⟩)⟩), HB.out⟩
        · have dg : (g == 0) = false := by simp [g0]
          have HN : Hid (¬ g = 0) := g0
          clear g0
          go_wp2
          go_ret
          exact ⟨false, rfl, iff_f (fun q => HN.out (by rcases q.2 with h | h | h <;> first | exact h.2.1 | (exfalso; omega))), HB.out⟩
    · have d4 : (k == 4) = false := by simp [k4]
      by_cases k2 : k = 2
      · subst k2
        clear k1 k4 d1 d4
        go_wp2_with fail
        refine (l6At_any a _).mono ?_
        rintro e w0 ⟨r, rfl, hr, rfl⟩
        have HT : Hid (r = true ↔ pgOK a) := hr
        clear hr
        cases r
        · have HN : Hid (¬ pgOK a) := fun q => by have := HT.out.2 q; simp at this
          clear HT
          go_wp2
          go_ret
          exact ⟨false, rfl, iff_f (fun q => HN.out q.1), HB.out⟩
        · have HY : Hid (pgOK a) := HT.out.1 (by first | rfl | trivial)
          clear HT
          have HA : Hid (pgOK a) := HY.out
          clear HY
          go_wp2_with fail
          refine (l1In_any g 0 15 _).mono ?_
          rintro e w0 ⟨r, rfl, hr, rfl⟩
          have HT : Hid (r = true ↔ (0 ≤ g ∧ g ≤ 15)) := hr
          clear hr
          cases r
          · have HN : Hid (¬ (0 ≤ g ∧ g ≤ 15)) := fun q => by have := HT.out.2 q; simp at this
            clear HT
            go_wp2
            go_ret
            exact ⟨false, rfl, iff_f (fun q => HN.out (by rcases q.2 with h | h | h <;> first | exact h.2.1 | (exfalso; omega))), HB.out⟩
          · have HY : Hid ((0 ≤ g ∧ g ≤ 15)) := HT.out.1 (by first | rfl | trivial)
            clear HT
            cases rm
            · have HN : Hid (¬ mayOK y) := fun q => by have := HM.out.2 q; simp at this
              go_wp2
              go_ret
              exact ⟨false, rfl, iff_f (fun q => HN.out (by rcases q.2 with h | h | h <;> first | exact h.2.2 | (exfalso; omega))), HB.out⟩
            · have HY2 : Hid (mayOK y) := HM.out.1 (by first | rfl | trivial)
              go_wp2
              go_ret
              exact ⟨true, rfl, iff_t (⟨HA.out, Or.inl ⟨rfl, HY.out, HY2.out⟩⟩), HB.out⟩
      · have d2 : (k == 2) = false := by simp [k2]
        by_cases k3 : k = 3
        · subst k3
          clear k2 k1 k4 d2 d1 d4
          go_wp2_with fail
          refine (l6At_any a _).mono ?_
          rintro e w0 ⟨r, rfl, hr, rfl⟩
          have HT : Hid (r = true ↔ pgOK a) := hr
          clear hr
          cases r
          · have HN : Hid (¬ pgOK a) := fun q => by have := HT.out.2 q; simp at this
            clear HT
            go_wp2
            go_ret
            exact ⟨false, rfl, iff_f (fun q => HN.out q.1), HB.out⟩
          · have HY : Hid (pgOK a) := HT.out.1 (by first | rfl | trivial)
            clear HT
            have HA : Hid (pgOK a) := HY.out
            clear HY
            by_cases g0 : g = 0
            · subst g0
              by_cases y0 : y = 0
              · subst y0
                go_wp2
                go_ret
                exact ⟨true, rfl, iff_t (⟨HA.out, Or.inr (Or.inr ⟨rfl, rfl, rfl⟩)⟩), HB.out⟩
              · have dy : (y == 0) = false := by simp [y0]
                have HN : Hid (¬ y = 0) := y0
                clear y0
                go_wp2
                go_ret
                exact ⟨false, rfl, iff_f (fun q => HN.out (by rcases q.2 with h | h | h <;> first | exact h.2.2 | (exfalso; omega))), HB.out⟩
            · have dg : (g == 0) = false := by simp [g0]
              have HN : Hid (¬ g = 0) := g0
              clear g0
              go_wp2
              go_ret
              exact ⟨false, rfl, iff_f (fun q => HN.out (by rcases q.2 with h | h | h <;> first | exact h.2.1 | (exfalso; omega))), HB.out⟩
        · have d3 : (k == 3) = false := by simp [k3]
          have HN : Hid (¬ rightS k a g y) := fun q => by rcases q.2 with h | h | h <;> omega
          clear k2 k1 k4 k3
          go_wp2
          go_ret
          exact ⟨false, rfl, iff_f (HN.out), HB.out⟩
theorem answerOf_any (x : Int) (r : Bool) (w : World) (hx : 0 ≤ x ∧ x ≤ 15) : Calls Try.prog 105 #[.int .i64 x, .bool r] w fun e w' => e = .returned (.int .i64 (if r = true then 1 + x else 0)) ∧ w' = w := by
  cases r
  · go_enter Try.func105, Try.ntmps105
    go_wp2
    go_ret
    exact ⟨by simp, rfl⟩
  · go_enter Try.func105, Try.ntmps105
    go_wp2
    go_ret
    exact ⟨by simp, rfl⟩
end Go.Proofs.Ytkadjebncjcclaa
