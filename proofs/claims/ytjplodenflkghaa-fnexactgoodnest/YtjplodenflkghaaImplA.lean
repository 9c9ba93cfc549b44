/- The program's leaves and lists of leaves. -/
import Derived.Test.YtjplodenflkghaaGood
namespace Go.Proofs.Ytjplodenflkghaa
open Go.RowKit
set_option linter.unusedSimpArgs false
set_option linter.unusedVariables false
def mayOK (n : Int) : Prop := 1 ≤ n ∧ n ≤ 3
instance (n : Int) : Decidable (mayOK n) := by unfold mayOK; exact inferInstance
def pgOK (n : Int) : Prop := 0 ≤ n ∧ n ≤ 15
instance (n : Int) : Decidable (pgOK n) := by unfold pgOK; exact inferInstance
def cntOK (n : Int) : Prop := 1 ≤ n ∧ n ≤ 4
instance (n : Int) : Decidable (cntOK n) := by unfold cntOK; exact inferInstance
set_option maxHeartbeats 400000 in
theorem isMay_yes (n : Int) (w : World) (h : mayOK n) : Calls Try.prog 103 #[.int .i64 n] w fun e w' => e = .returned (.bool true) ∧ w' = w := by
  obtain ⟨h1, h2⟩ := h
  skip
  go_enter Try.func103, Try.ntmps103
  go_wp2
  go_ret
  exact ⟨rfl, rfl⟩
set_option maxHeartbeats 400000 in
theorem isMay_no (n : Int) (w : World) (h : ¬ mayOK n) : Calls Try.prog 103 #[.int .i64 n] w fun e w' => e = .returned (.bool false) ∧ w' = w := by
  by_cases h1 : 1 ≤ n
  · have h2 : ¬ n ≤ 3 := fun h3 => h ⟨h1, by omega⟩
    clear h
    go_enter Try.func103, Try.ntmps103
    go_wp2
    go_ret
    exact ⟨rfl, rfl⟩
  · clear h
    have hd : decide (n ≥ 1) = false := by simpa using h1
    go_enter Try.func103, Try.ntmps103
    go_wp2
    go_ret
    exact ⟨rfl, rfl⟩
theorem isMay_any (n : Int) (w : World) : Calls Try.prog 103 #[.int .i64 n] w fun e w' => ∃ r, e = .returned (.bool r) ∧ (r = true ↔ mayOK n) ∧ w' = w := by
  by_cases h : mayOK n
  · exact (isMay_yes n w h).mono fun e w' ⟨h1, h2⟩ => ⟨true, h1, ⟨fun _ => h, fun _ => rfl⟩, h2⟩
  · exact (isMay_no n w h).mono fun e w' ⟨h1, h2⟩ => ⟨false, h1, iff_f h, h2⟩
set_option maxHeartbeats 400000 in
theorem isPage_yes (n : Int) (w : World) (h : pgOK n) : Calls Try.prog 153 #[.int .i64 n] w fun e w' => e = .returned (.bool true) ∧ w' = w := by
  obtain ⟨h1, h2⟩ := h
  have h2 : n < 16 := by omega
  go_enter Try.func153, Try.ntmps153
  go_wp2
  go_ret
  exact ⟨rfl, rfl⟩
set_option maxHeartbeats 400000 in
theorem isPage_no (n : Int) (w : World) (h : ¬ pgOK n) : Calls Try.prog 153 #[.int .i64 n] w fun e w' => e = .returned (.bool false) ∧ w' = w := by
  by_cases h1 : 0 ≤ n
  · have h2 : ¬ n < 16 := fun h3 => h ⟨h1, by omega⟩
    clear h
    go_enter Try.func153, Try.ntmps153
    go_wp2
    go_ret
    exact ⟨rfl, rfl⟩
  · clear h
    have hd : decide (n ≥ 0) = false := by simpa using h1
    go_enter Try.func153, Try.ntmps153
    go_wp2
    go_ret
    exact ⟨rfl, rfl⟩
theorem isPage_any (n : Int) (w : World) : Calls Try.prog 153 #[.int .i64 n] w fun e w' => ∃ r, e = .returned (.bool r) ∧ (r = true ↔ pgOK n) ∧ w' = w := by
  by_cases h : pgOK n
  · exact (isPage_yes n w h).mono fun e w' ⟨h1, h2⟩ => ⟨true, h1, ⟨fun _ => h, fun _ => rfl⟩, h2⟩
  · exact (isPage_no n w h).mono fun e w' ⟨h1, h2⟩ => ⟨false, h1, iff_f h, h2⟩
set_option maxHeartbeats 400000 in
theorem isCnt_yes (n : Int) (w : World) (h : cntOK n) : Calls Try.prog 158 #[.int .i64 n] w fun e w' => e = .returned (.bool true) ∧ w' = w := by
  obtain ⟨h1, h2⟩ := h
  skip
  go_enter Try.func158, Try.ntmps158
  go_wp2
  go_ret
  exact ⟨rfl, rfl⟩
set_option maxHeartbeats 400000 in
theorem isCnt_no (n : Int) (w : World) (h : ¬ cntOK n) : Calls Try.prog 158 #[.int .i64 n] w fun e w' => e = .returned (.bool false) ∧ w' = w := by
  by_cases h1 : 1 ≤ n
  · have h2 : ¬ n ≤ 4 := fun h3 => h ⟨h1, by omega⟩
    clear h
    go_enter Try.func158, Try.ntmps158
    go_wp2
    go_ret
    exact ⟨rfl, rfl⟩
  · clear h
    have hd : decide (n ≥ 1) = false := by simpa using h1
    go_enter Try.func158, Try.ntmps158
    go_wp2
    go_ret
    exact ⟨rfl, rfl⟩
theorem isCnt_any (n : Int) (w : World) : Calls Try.prog 158 #[.int .i64 n] w fun e w' => ∃ r, e = .returned (.bool r) ∧ (r = true ↔ cntOK n) ∧ w' = w := by
  by_cases h : cntOK n
  · exact (isCnt_yes n w h).mono fun e w' ⟨h1, h2⟩ => ⟨true, h1, ⟨fun _ => h, fun _ => rfl⟩, h2⟩
  · exact (isCnt_no n w h).mono fun e w' ⟨h1, h2⟩ => ⟨false, h1, iff_f h, h2⟩
set_option maxHeartbeats 400000 in
theorem isPlace_yes (n : Int) (w : World) (h : pgOK n) : Calls Try.prog 100 #[.int .i64 n] w fun e w' => e = .returned (.bool true) ∧ w' = w := by
  obtain ⟨h1, h2⟩ := h
  have h2 : n < 16 := by omega
  go_enter Try.func100, Try.ntmps100
  go_wp2
  go_ret
  exact ⟨rfl, rfl⟩
set_option maxHeartbeats 400000 in
theorem isPlace_no (n : Int) (w : World) (h : ¬ pgOK n) : Calls Try.prog 100 #[.int .i64 n] w fun e w' => e = .returned (.bool false) ∧ w' = w := by
  by_cases h1 : 0 ≤ n
  · have h2 : ¬ n < 16 := fun h3 => h ⟨h1, by omega⟩
    clear h
    go_enter Try.func100, Try.ntmps100
    go_wp2
    go_ret
    exact ⟨rfl, rfl⟩
  · clear h
    have hd : decide (n ≥ 0) = false := by simpa using h1
    go_enter Try.func100, Try.ntmps100
    go_wp2
    go_ret
    exact ⟨rfl, rfl⟩
theorem isPlace_any (n : Int) (w : World) : Calls Try.prog 100 #[.int .i64 n] w fun e w' => ∃ r, e = .returned (.bool r) ∧ (r = true ↔ pgOK n) ∧ w' = w := by
  by_cases h : pgOK n
  · exact (isPlace_yes n w h).mono fun e w' ⟨h1, h2⟩ => ⟨true, h1, ⟨fun _ => h, fun _ => rfl⟩, h2⟩
  · exact (isPlace_no n w h).mono fun e w' ⟨h1, h2⟩ => ⟨false, h1, iff_f h, h2⟩
theorem leaf_zero {p m : Int} (h : m = 0) : leafOK p m ↔ p = 0 := by unfold leafOK; omega
theorem leaf_some {p m : Int} (h : ¬ m = 0) : leafOK p m ↔ mayOK m ∧ pgOK p := by unfold leafOK mayOK pgOK; omega
set_option maxHeartbeats 1600000 in
theorem isLeaf_any (p m : Int) (w : World) : Calls Try.prog 191 #[.agg #[.int .i64 p, .int .i64 m]] w fun e w' => ∃ r, e = .returned (.bool r) ∧ (r = true ↔ leafOK p m) ∧ Blw w w' := by
  have hb0 : Blw w (w.alloc (.cells #[.int .i64 p, .int .i64 m] 144)) := (Blw.refl _).alloc _
  obtain ⟨p0, p1⟩ := get2 (box2 w (.int .i64 p) (.int .i64 m) 144)
  by_cases hm : m = 0
  · have HI : Hid (leafOK p m ↔ p = 0) := leaf_zero hm
    have d1 : (m == 0) = true := by simp [hm]
    clear hm
    by_cases hp : p = 0
    · have HO : Hid (leafOK p m) := HI.out.2 hp
      have d2 : (p == 0) = true := by simp [hp]
      clear hp HI
      go_enter Try.func191, Try.ntmps191
      go_wp2
      go_ret
      exact ⟨true, rfl, iff_t HO.out, hb0⟩
    · have HO : Hid (¬ leafOK p m) := fun g => hp (HI.out.1 g)
      have d2 : (p == 0) = false := by simp [hp]
      clear hp HI
      go_enter Try.func191, Try.ntmps191
      go_wp2
      go_ret
      exact ⟨false, rfl, iff_f HO.out, hb0⟩
  have HI : Hid (leafOK p m ↔ mayOK m ∧ pgOK p) := leaf_some hm
  have d1 : (m == 0) = false := by simp [hm]
  clear hm
  go_enter Try.func191, Try.ntmps191
  go_wp2_with fail
  revert hb0 p0 p1
  generalize w.alloc (.cells #[.int .i64 p, .int .i64 m] 144) = w0
  intro hb0 p0 p1
  refine (isMay_any m _).mono ?_
  rintro e w0 ⟨r, rfl, hr, rfl⟩
  have HR : Hid (r = true ↔ mayOK m) := hr
  clear hr
  cases r
  · have HN : Hid (¬ leafOK p m) := fun g => by have := HR.out.2 (HI.out.1 g).1; simp at this
    clear HR HI
    go_wp2
    go_ret
    exact ⟨false, rfl, iff_f HN.out, hb0⟩
  have H1 : Hid (mayOK m) := HR.out.1 (by first | rfl | trivial)
  clear HR
  go_wp2_with fail
  refine (isPage_any p _).mono ?_
  rintro e w0 ⟨r, rfl, hr, rfl⟩
  have HR : Hid (r = true ↔ leafOK p m) := hr.trans ⟨fun q => HI.out.2 ⟨H1.out, q⟩, fun g => (HI.out.1 g).2⟩
  clear hr HI
  go_wp2
  go_ret
  exact ⟨r, rfl, HR.out, hb0⟩
set_option maxHeartbeats 1600000 in
theorem notLeaf_any (p m : Int) (w : World) : Calls Try.prog 190 #[.agg #[.int .i64 p, .int .i64 m]] w fun e w' => ∃ r, e = .returned (.bool r) ∧ (r = true ↔ ¬ leafOK p m) ∧ Blw w w' := by
  have hb0 : Blw w (w.alloc (.cells #[.int .i64 p, .int .i64 m] 144)) := (Blw.refl _).alloc _
  obtain ⟨p0, p1⟩ := get2 (box2 w (.int .i64 p) (.int .i64 m) 144)
  go_enter Try.func190, Try.ntmps190
  go_wp2_with fail
  clear p0 p1
  refine (isLeaf_any p m _).mono ?_
  rintro e w1 ⟨r, rfl, hr, hb1⟩
  have HR : Hid (r = true ↔ leafOK p m) := hr
  replace hb0 := hb0.trans hb1
  clear hr hb1
  cases r
  · have HN : Hid (¬ leafOK p m) := fun g => by have := HR.out.2 g; simp at this
    clear HR
    go_wp2
    go_ret
    exact ⟨true, rfl, iff_t HN.out, hb0⟩
  · have HN : Hid (leafOK p m) := HR.out.1 (by first | rfl | trivial)
    clear HR
    go_wp2
    go_ret
    exact ⟨false, rfl, iff_f (fun q => q HN.out), hb0⟩
def allLeaf (f g : Nat → Int) (n : Nat) : Prop := ∀ j, j < n → leafOK (f j) (g j)
set_option maxRecDepth 10000 in
set_option maxHeartbeats 1600000 in
theorem indexLeaf_any (ao : Option Addr) (c0 n : Nat) (f g : Nat → Int) (Y : Nat → Prop) (w : World) (h : UndosAt Y w ao n f g) :
    Calls Try.prog 200 #[.slice ao n c0, .func (.func 190) #[] #[]] w fun e w' => ∃ r : Int, e = .returned (.int .i64 r) ∧ (0 ≤ r ↔ ¬ allLeaf f g n) ∧ Blw w w' := by
  have hn := h.1
  have H : Hid (UndosAt Y w ao n f g) := h
  clear h
  go_enter Try.func200, Try.ntmps200
  go_wp2_with fail
  go_loopw [8] (fun i wr => ∃ j : Nat, j ≤ n ∧ i = .int .i64 j ∧ allLeaf f g j ∧ Blw w wr) (fun i _ => n - (intOf i).toNat)
  case atStart => exact ⟨0, Nat.zero_le _, rfl, fun t ht => absurd ht (Nat.not_lt_zero _), Blw.refl _⟩
  case round =>
    obtain ⟨j, hj, rfl, hok, hb⟩ := hrel
    have HO : Hid (allLeaf f g j) := hok
    have HB : Hid (Blw w wr) := hb
    clear hok hb
    by_cases hlt : j < n
    · obtain ⟨b, o, e, -, q0, q1⟩ := (H.out.blw HB.out).2 j hlt
      subst e
      go_wp2_with fail
      clear q0 q1
      refine (notLeaf_any (f j) (g j) _).mono ?_
      rintro e w1 ⟨r, rfl, hr, hb1⟩
      have HR : Hid (r = true ↔ ¬ leafOK (f j) (g j)) := hr
      replace HB : Hid (Blw w w1) := HB.out.trans hb1
      clear hr hb1
      cases r
      · have HN : Hid (allLeaf f g (j + 1)) := fun t ht => by
          by_cases e : t = j
          · subst e; exact Classical.byContradiction fun q => by have := HR.out.2 q; simp at this
          · exact HO.out t (by omega)
        clear HR HO
        go_wp2
        go_roundw
        case rel => exact ⟨j + 1, by omega, by go_num, HN.out, HB.out⟩
        case measure => simp [intOf]; omega
      · have HN : Hid (0 ≤ (j : Int) ↔ ¬ allLeaf f g n) := ⟨fun _ q => HR.out.1 (by first | rfl | trivial) (q j hlt), fun _ => by omega⟩
        clear HR HO
        go_wp2
        exact bodyPost_ret (v := .int .i64 (j : Int)) (by simp [results, Try.results200, go_sem]) rfl ⟨_, rfl, HN.out, HB.out⟩
    · obtain rfl : j = n := by omega
      have HN : Hid (0 ≤ (-1 : Int) ↔ ¬ allLeaf f g j) := ⟨fun q => by omega, fun q => absurd HO.out q⟩
      clear HO
      go_wp2
      exact bodyPost_ret (v := .int .i64 (-1)) (by simp [results, Try.results200, go_sem]) rfl ⟨_, rfl, HN.out, HB.out⟩
set_option maxHeartbeats 800000 in
theorem anyBad_any (ao : Option Addr) (c0 n : Nat) (f g : Nat → Int) (Y : Nat → Prop) (w : World) (h : UndosAt Y w ao n f g) :
    Calls Try.prog 189 #[.slice ao n c0, .func (.func 190) #[] #[]] w fun e w' => ∃ r, e = .returned (.bool r) ∧ (r = true ↔ ¬ allLeaf f g n) ∧ Blw w w' := by
  go_enter Try.func189, Try.ntmps189
  go_wp2_with fail
  refine (indexLeaf_any ao c0 n f g Y _ h).mono ?_
  rintro e w1 ⟨r, rfl, hr, hb1⟩
  have HR : Hid (0 ≤ r ↔ ¬ allLeaf f g n) := hr
  clear hr h
  by_cases h0 : 0 ≤ r
  · have d0 : decide (r ≥ 0) = true := by simp; omega
    have HN : Hid (¬ allLeaf f g n) := HR.out.1 h0
    clear h0 HR
    go_wp2
    go_ret
    exact ⟨true, rfl, iff_t HN.out, hb1⟩
  · have d0 : decide (r ≥ 0) = false := by simp; omega
    have HN : Hid (¬ ¬ allLeaf f g n) := fun q => h0 (HR.out.2 q)
    clear h0 HR
    go_wp2
    go_ret
    exact ⟨false, rfl, iff_f HN.out, hb1⟩
end Go.Proofs.Ytjplodenflkghaa
