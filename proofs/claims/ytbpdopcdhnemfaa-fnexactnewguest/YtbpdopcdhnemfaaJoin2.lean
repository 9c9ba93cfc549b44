/- Merged by program, in this order: ImplA, ImplB, Stand, Rec, Gs, Gu, InsL, Gm, OpenB, Draw. -/
import Derived.ProofKit
import Derived.OpenShut
import Derived.ChangeOld
import Derived.Lib.SmallJoins
import Derived.Deep.Slices
import Derived.Deep.SlicePairs
import Derived.Deep.MidRow
import Derived.Laws.BitsAllLaws
import Derived.Test.YtbpdopcdhnemfaaJoin1
/- The program's leaves and lists of leaves. -/
namespace Go.Proofs.Ytbpdopcdhnemfaa
open Go.RowKit
set_option linter.unusedSimpArgs false
set_option linter.unusedVariables false
def mayOK (n : Int) : Prop := 1 ≤ n ∧ n ≤ 3
instance (n : Int) : Decidable (mayOK n) := by unfold mayOK; exact inferInstance
def pgOK (n : Int) : Prop := 0 ≤ n ∧ n ≤ 15
instance (n : Int) : Decidable (pgOK n) := by unfold pgOK; exact inferInstance
def cntOK (n : Int) : Prop := 1 ≤ n ∧ n ≤ 4
instance (n : Int) : Decidable (cntOK n) := by unfold cntOK; exact inferInstance
set_option maxHeartbeats 400000 in
theorem isMay_yes (n : Int) (w : World) (h : mayOK n) : Calls Try.prog 104 #[.int .i64 n] w fun e w' => e = .returned (.bool true) ∧ w' = w := by
  obtain ⟨h1, h2⟩ := h
  skip
  go_enter Try.func104, Try.ntmps104
  go_wp2
  go_ret
  exact ⟨rfl, rfl⟩
set_option maxHeartbeats 400000 in
theorem isMay_no (n : Int) (w : World) (h : ¬ mayOK n) : Calls Try.prog 104 #[.int .i64 n] w fun e w' => e = .returned (.bool false) ∧ w' = w := by
  by_cases h1 : 1 ≤ n
  · have h2 : ¬ n ≤ 3 := fun h3 => h ⟨h1, by omega⟩
    clear h
    go_enter Try.func104, Try.ntmps104
    go_wp2
    go_ret
    exact ⟨rfl, rfl⟩
  · clear h
    have hd : decide (n ≥ 1) = false := by simpa using h1
    go_enter Try.func104, Try.ntmps104
    go_wp2
    go_ret
    exact ⟨rfl, rfl⟩
theorem isMay_any (n : Int) (w : World) : Calls Try.prog 104 #[.int .i64 n] w fun e w' => ∃ r, e = .returned (.bool r) ∧ (r = true ↔ mayOK n) ∧ w' = w := by
  by_cases h : mayOK n
  · exact (isMay_yes n w h).mono fun e w' ⟨h1, h2⟩ => ⟨true, h1, ⟨fun _ => h, fun _ => rfl⟩, h2⟩
  · exact (isMay_no n w h).mono fun e w' ⟨h1, h2⟩ => ⟨false, h1, iff_f h, h2⟩
set_option maxHeartbeats 400000 in
theorem isPage_yes (n : Int) (w : World) (h : pgOK n) : Calls Try.prog 160 #[.int .i64 n] w fun e w' => e = .returned (.bool true) ∧ w' = w := by
  obtain ⟨h1, h2⟩ := h
  have h2 : n < 16 := by omega
  go_enter Try.func160, Try.ntmps160
  go_wp2
  go_ret
  exact ⟨rfl, rfl⟩
set_option maxHeartbeats 400000 in
theorem isPage_no (n : Int) (w : World) (h : ¬ pgOK n) : Calls Try.prog 160 #[.int .i64 n] w fun e w' => e = .returned (.bool false) ∧ w' = w := by
  by_cases h1 : 0 ≤ n
  · have h2 : ¬ n < 16 := fun h3 => h ⟨h1, by omega⟩
    clear h
    go_enter Try.func160, Try.ntmps160
    go_wp2
    go_ret
    exact ⟨rfl, rfl⟩
  · clear h
    have hd : decide (n ≥ 0) = false := by simpa using h1
    go_enter Try.func160, Try.ntmps160
    go_wp2
    go_ret
    exact ⟨rfl, rfl⟩
theorem isPage_any (n : Int) (w : World) : Calls Try.prog 160 #[.int .i64 n] w fun e w' => ∃ r, e = .returned (.bool r) ∧ (r = true ↔ pgOK n) ∧ w' = w := by
  by_cases h : pgOK n
  · exact (isPage_yes n w h).mono fun e w' ⟨h1, h2⟩ => ⟨true, h1, ⟨fun _ => h, fun _ => rfl⟩, h2⟩
  · exact (isPage_no n w h).mono fun e w' ⟨h1, h2⟩ => ⟨false, h1, iff_f h, h2⟩
set_option maxHeartbeats 400000 in
theorem isCnt_yes (n : Int) (w : World) (h : cntOK n) : Calls Try.prog 166 #[.int .i64 n] w fun e w' => e = .returned (.bool true) ∧ w' = w := by
  obtain ⟨h1, h2⟩ := h
  skip
  go_enter Try.func166, Try.ntmps166
  go_wp2
  go_ret
  exact ⟨rfl, rfl⟩
set_option maxHeartbeats 400000 in
theorem isCnt_no (n : Int) (w : World) (h : ¬ cntOK n) : Calls Try.prog 166 #[.int .i64 n] w fun e w' => e = .returned (.bool false) ∧ w' = w := by
  by_cases h1 : 1 ≤ n
  · have h2 : ¬ n ≤ 4 := fun h3 => h ⟨h1, by omega⟩
    clear h
    go_enter Try.func166, Try.ntmps166
    go_wp2
    go_ret
    exact ⟨rfl, rfl⟩
  · clear h
    have hd : decide (n ≥ 1) = false := by simpa using h1
    go_enter Try.func166, Try.ntmps166
    go_wp2
    go_ret
    exact ⟨rfl, rfl⟩
theorem isCnt_any (n : Int) (w : World) : Calls Try.prog 166 #[.int .i64 n] w fun e w' => ∃ r, e = .returned (.bool r) ∧ (r = true ↔ cntOK n) ∧ w' = w := by
  by_cases h : cntOK n
  · exact (isCnt_yes n w h).mono fun e w' ⟨h1, h2⟩ => ⟨true, h1, ⟨fun _ => h, fun _ => rfl⟩, h2⟩
  · exact (isCnt_no n w h).mono fun e w' ⟨h1, h2⟩ => ⟨false, h1, iff_f h, h2⟩
set_option maxHeartbeats 400000 in
theorem isPlace_yes (n : Int) (w : World) (h : pgOK n) : Calls Try.prog 101 #[.int .i64 n] w fun e w' => e = .returned (.bool true) ∧ w' = w := by
  obtain ⟨h1, h2⟩ := h
  have h2 : n < 16 := by omega
  go_enter Try.func101, Try.ntmps101
  go_wp2
  go_ret
  exact ⟨rfl, rfl⟩
set_option maxHeartbeats 400000 in
theorem isPlace_no (n : Int) (w : World) (h : ¬ pgOK n) : Calls Try.prog 101 #[.int .i64 n] w fun e w' => e = .returned (.bool false) ∧ w' = w := by
  by_cases h1 : 0 ≤ n
  · have h2 : ¬ n < 16 := fun h3 => h ⟨h1, by omega⟩
    clear h
    go_enter Try.func101, Try.ntmps101
    go_wp2
    go_ret
    exact ⟨rfl, rfl⟩
  · clear h
    have hd : decide (n ≥ 0) = false := by simpa using h1
    go_enter Try.func101, Try.ntmps101
    go_wp2
    go_ret
    exact ⟨rfl, rfl⟩
theorem isPlace_any (n : Int) (w : World) : Calls Try.prog 101 #[.int .i64 n] w fun e w' => ∃ r, e = .returned (.bool r) ∧ (r = true ↔ pgOK n) ∧ w' = w := by
  by_cases h : pgOK n
  · exact (isPlace_yes n w h).mono fun e w' ⟨h1, h2⟩ => ⟨true, h1, ⟨fun _ => h, fun _ => rfl⟩, h2⟩
  · exact (isPlace_no n w h).mono fun e w' ⟨h1, h2⟩ => ⟨false, h1, iff_f h, h2⟩
theorem leaf_zero {p m : Int} (h : m = 0) : leafOK p m ↔ p = 0 := by unfold leafOK; omega
theorem leaf_some {p m : Int} (h : ¬ m = 0) : leafOK p m ↔ mayOK m ∧ pgOK p := by unfold leafOK mayOK pgOK; omega
set_option maxHeartbeats 1600000 in
theorem isLeaf_any (p m : Int) (w : World) : Calls Try.prog 195 #[.agg #[.int .i64 p, .int .i64 m]] w fun e w' => ∃ r, e = .returned (.bool r) ∧ (r = true ↔ leafOK p m) ∧ Blw w w' := by
  have hb0 : Blw w (w.alloc (.cells #[.int .i64 p, .int .i64 m] 189)) := (Blw.refl _).alloc _
  obtain ⟨p0, p1⟩ := get2 (box2 w (.int .i64 p) (.int .i64 m) 189)
  by_cases hm : m = 0
  · have HI : Hid (leafOK p m ↔ p = 0) := leaf_zero hm
    have d1 : (m == 0) = true := by simp [hm]
    clear hm
    by_cases hp : p = 0
    · have HO : Hid (leafOK p m) := HI.out.2 hp
      have d2 : (p == 0) = true := by simp [hp]
      clear hp HI
      go_enter Try.func195, Try.ntmps195
      go_wp2
      go_ret
      exact ⟨true, rfl, iff_t HO.out, hb0⟩
    · have HO : Hid (¬ leafOK p m) := fun g => hp (HI.out.1 g)
      have d2 : (p == 0) = false := by simp [hp]
      clear hp HI
      go_enter Try.func195, Try.ntmps195
      go_wp2
      go_ret
      exact ⟨false, rfl, iff_f HO.out, hb0⟩
  have HI : Hid (leafOK p m ↔ mayOK m ∧ pgOK p) := leaf_some hm
  have d1 : (m == 0) = false := by simp [hm]
  clear hm
  go_enter Try.func195, Try.ntmps195
  go_wp2_with fail
  revert hb0 p0 p1
  generalize w.alloc (.cells #[.int .i64 p, .int .i64 m] 189) = w0
  intro hb0 p0 p1
  refine (isMay_any m _).mono ?_
  rintro e w0 ⟨r, rfl, hr, rfl⟩
  have HR : Hid (r = true ↔ mayOK m) := hr
  clear hr
  cases r
  · have HN : Hid (¬ leafOK p m) := fun g => by have := HR.out.2 (HI.out.1 g).1; simp at this
    clear HR HI
    go_wp2
    go_ret
    exact ⟨false, rfl, iff_f HN.out, hb0⟩
  have H1 : Hid (mayOK m) := HR.out.1 (by first | rfl | trivial)
  clear HR
  go_wp2_with fail
  refine (isPage_any p _).mono ?_
  rintro e w0 ⟨r, rfl, hr, rfl⟩
  have HR : Hid (r = true ↔ leafOK p m) := hr.trans ⟨fun q => HI.out.2 ⟨H1.out, q⟩, fun g => (HI.out.1 g).2⟩
  clear hr HI
  go_wp2
  go_ret
  exact ⟨r, rfl, HR.out, hb0⟩
set_option maxHeartbeats 1600000 in
theorem notLeaf_any (p m : Int) (w : World) : Calls Try.prog 194 #[.agg #[.int .i64 p, .int .i64 m]] w fun e w' => ∃ r, e = .returned (.bool r) ∧ (r = true ↔ ¬ leafOK p m) ∧ Blw w w' := by
  have hb0 : Blw w (w.alloc (.cells #[.int .i64 p, .int .i64 m] 189)) := (Blw.refl _).alloc _
  obtain ⟨p0, p1⟩ := get2 (box2 w (.int .i64 p) (.int .i64 m) 189)
  go_enter Try.func194, Try.ntmps194
  go_wp2_with fail
  clear p0 p1
  refine (isLeaf_any p m _).mono ?_
  rintro e w1 ⟨r, rfl, hr, hb1⟩
  have HR : Hid (r = true ↔ leafOK p m) := hr
  replace hb0 := hb0.trans hb1
  clear hr hb1
  cases r
  · have HN : Hid (¬ leafOK p m) := fun g => by have := HR.out.2 g; simp at this
    clear HR
    go_wp2
    go_ret
    exact ⟨true, rfl, iff_t HN.out, hb0⟩
  · have HN : Hid (leafOK p m) := HR.out.1 (by first | rfl | trivial)
    clear HR
    go_wp2
    go_ret
    exact ⟨false, rfl, iff_f (fun q => q HN.out), hb0⟩
def allLeaf (f g : Nat → Int) (n : Nat) : Prop := ∀ j, j < n → leafOK (f j) (g j)
set_option maxRecDepth 10000 in
set_option maxHeartbeats 1600000 in
theorem indexLeaf_any (ao : Option Addr) (c0 n : Nat) (f g : Nat → Int) (Y : Nat → Prop) (w : World) (h : UndosAt Y w ao n f g) :
    Calls Try.prog 204 #[.slice ao n c0, .func (.func 194) #[] #[]] w fun e w' => ∃ r : Int, e = .returned (.int .i64 r) ∧ (0 ≤ r ↔ ¬ allLeaf f g n) ∧ Blw w w' := by
  have hn := h.1
  have H : Hid (UndosAt Y w ao n f g) := h
  clear h
  go_enter Try.func204, Try.ntmps204
  go_wp2_with fail
  go_loopw [8] (fun i wr => ∃ j : Nat, j ≤ n ∧ i = .int .i64 j ∧ allLeaf f g j ∧ Blw w wr) (fun i _ => n - (intOf i).toNat)
  case atStart => exact ⟨0, Nat.zero_le _, rfl, fun t ht => absurd ht (Nat.not_lt_zero _), Blw.refl _⟩
  case round =>
    obtain ⟨j, hj, rfl, hok, hb⟩ := hrel
    have HO : Hid (allLeaf f g j) := hok
    have HB : Hid (Blw w wr) := hb
    clear hok hb
    by_cases hlt : j < n
    · obtain ⟨b, o, e, -, q0, q1⟩ := (H.out.blw HB.out).2 j hlt
      subst e
      go_wp2_with fail
      clear q0 q1
      refine (notLeaf_any (f j) (g j) _).mono ?_
      rintro e w1 ⟨r, rfl, hr, hb1⟩
      have HR : Hid (r = true ↔ ¬ leafOK (f j) (g j)) := hr
      replace HB : Hid (Blw w w1) := HB.out.trans hb1
      clear hr hb1
      cases r
      · have HN : Hid (allLeaf f g (j + 1)) := fun t ht => by
          by_cases e : t = j
          · subst e; exact Classical.byContradiction fun q => by have := HR.out.2 q; simp at this
          · exact HO.out t (by omega)
        clear HR HO
        go_wp2
        go_roundw
        case rel => exact ⟨j + 1, by omega, by go_num, HN.out, HB.out⟩
        case measure => simp [intOf]; omega
      · have HN : Hid (0 ≤ (j : Int) ↔ ¬ allLeaf f g n) := ⟨fun _ q => HR.out.1 (by first | rfl | trivial) (q j hlt), fun _ => by omega⟩
        clear HR HO
        go_wp2
        exact bodyPost_ret (v := .int .i64 (j : Int)) (by simp [results, Try.results204, go_sem]) rfl ⟨_, rfl, HN.out, HB.out⟩
    · obtain rfl : j = n := by omega
      have HN : Hid (0 ≤ (-1 : Int) ↔ ¬ allLeaf f g j) := ⟨fun q => by omega, fun q => absurd HO.out q⟩
      clear HO
      go_wp2
      exact bodyPost_ret (v := .int .i64 (-1)) (by simp [results, Try.results204, go_sem]) rfl ⟨_, rfl, HN.out, HB.out⟩
set_option maxHeartbeats 800000 in
theorem anyBad_any (ao : Option Addr) (c0 n : Nat) (f g : Nat → Int) (Y : Nat → Prop) (w : World) (h : UndosAt Y w ao n f g) :
    Calls Try.prog 193 #[.slice ao n c0, .func (.func 194) #[] #[]] w fun e w' => ∃ r, e = .returned (.bool r) ∧ (r = true ↔ ¬ allLeaf f g n) ∧ Blw w w' := by
  go_enter Try.func193, Try.ntmps193
  go_wp2_with fail
  refine (indexLeaf_any ao c0 n f g Y _ h).mono ?_
  rintro e w1 ⟨r, rfl, hr, hb1⟩
  have HR : Hid (0 ≤ r ↔ ¬ allLeaf f g n) := hr
  clear hr h
  by_cases h0 : 0 ≤ r
  · have d0 : decide (r ≥ 0) = true := by simp; omega
    have HN : Hid (¬ allLeaf f g n) := HR.out.1 h0
    clear h0 HR
    go_wp2
    go_ret
    exact ⟨true, rfl, iff_t HN.out, hb1⟩
  · have d0 : decide (r ≥ 0) = false := by simp; omega
    have HN : Hid (¬ ¬ allLeaf f g n) := fun q => h0 (HR.out.2 q)
    clear h0 HR
    go_wp2
    go_ret
    exact ⟨false, rfl, iff_f HN.out, hb1⟩
end Go.Proofs.Ytbpdopcdhnemfaa
/- The program's lists of leaves, held as values. -/
namespace Go.Proofs.Ytbpdopcdhnemfaa
open Go.RowKit
set_option linter.unusedSimpArgs false
set_option linter.unusedVariables false
abbrev eight (f g : Nat → Int) : Array Value := #[.int .i64 (f 0), .int .i64 (g 0), .int .i64 (f 1), .int .i64 (g 1), .int .i64 (f 2), .int .i64 (g 2), .int .i64 (f 3), .int .i64 (g 3)]
abbrev zf : Nat → Int := fun _ => 0
theorem undo8 {Y : Nat → Prop} {w : World} {b o : Nat} {f g : Nat → Int} (h : UndosAt Y w (some ⟨b, o, none⟩) 4 f g) :
    w.cell? ⟨b, o, none⟩ = some (.int .i64 (f 0)) ∧ w.cell? ⟨b, o + 1, none⟩ = some (.int .i64 (g 0)) ∧ w.cell? ⟨b, o + 2, none⟩ = some (.int .i64 (f 1)) ∧ w.cell? ⟨b, o + 3, none⟩ = some (.int .i64 (g 1)) ∧
    w.cell? ⟨b, o + 4, none⟩ = some (.int .i64 (f 2)) ∧ w.cell? ⟨b, o + 5, none⟩ = some (.int .i64 (g 2)) ∧ w.cell? ⟨b, o + 6, none⟩ = some (.int .i64 (f 3)) ∧ w.cell? ⟨b, o + 7, none⟩ = some (.int .i64 (g 3)) := by
  have hh : ∀ i, i < 4 → w.cell? ⟨b, o + i * 2, none⟩ = some (.int .i64 (f i)) ∧ w.cell? ⟨b, o + i * 2 + 1, none⟩ = some (.int .i64 (g i)) := fun i hi => by
    obtain ⟨b', o', e, -, h1, h2⟩ := h.2 i hi
    cases e
    exact ⟨h1, h2⟩
  exact ⟨(hh 0 (by omega)).1, (hh 0 (by omega)).2, (hh 1 (by omega)).1, (hh 1 (by omega)).2, (hh 2 (by omega)).1, (hh 2 (by omega)).2, (hh 3 (by omega)).1, (hh 3 (by omega)).2⟩
theorem row8 {w : World} {b n : Nat} {f : Nat → Value} (r : Row w b n f) (h : 8 ≤ n) : w.cell? ⟨b, 0, none⟩ = some (f 0) ∧ w.cell? ⟨b, 1, none⟩ = some (f 1) ∧ w.cell? ⟨b, 2, none⟩ = some (f 2) ∧ w.cell? ⟨b, 3, none⟩ = some (f 3) ∧ w.cell? ⟨b, 4, none⟩ = some (f 4) ∧ w.cell? ⟨b, 5, none⟩ = some (f 5) ∧ w.cell? ⟨b, 6, none⟩ = some (f 6) ∧ w.cell? ⟨b, 7, none⟩ = some (f 7) :=
  ⟨r.cell (by omega), r.cell (by omega), r.cell (by omega), r.cell (by omega), r.cell (by omega), r.cell (by omega), r.cell (by omega), r.cell (by omega)⟩
theorem row_zero8 (w : World) (t : TypeId) : Row (w.alloc (.cells #[.int .i64 0, .int .i64 0, .int .i64 0, .int .i64 0, .int .i64 0, .int .i64 0, .int .i64 0, .int .i64 0] t)) w.heap.size 8 (fun _ => .int .i64 0) :=
  ⟨_, t, heap_alloc_new _ _, by simp, fun i hi => by
    match i, hi with
    | 0, _ => rfl
    | 1, _ => rfl
    | 2, _ => rfl
    | 3, _ => rfl
    | 4, _ => rfl
    | 5, _ => rfl
    | 6, _ => rfl
    | 7, _ => rfl⟩
theorem set8_blw {w W : World} {z : Nat} (h : Blw w W) (hz : w.heap.size ≤ z) (v0 v1 v2 v3 v4 v5 v6 v7 : Value) : Blw w ((((((((W.setCell ⟨z, 0, none⟩ v0).setCell ⟨z, 1, none⟩ v1).setCell ⟨z, 2, none⟩ v2).setCell ⟨z, 3, none⟩ v3).setCell ⟨z, 4, none⟩ v4).setCell ⟨z, 5, none⟩ v5).setCell ⟨z, 6, none⟩ v6).setCell ⟨z, 7, none⟩ v7) :=
  ((((((((h.setCell hz _).setCell hz _).setCell hz _).setCell hz _).setCell hz _).setCell hz _).setCell hz _).setCell hz _)
theorem arrayAt4 (b o c : Nat) (w : World) : (Instr.arrayAt 202 (.slice (some ⟨b, o, none⟩) 4 c)).run Try.prog w = .ok (.pointer (some ⟨b, o, none⟩)) w := by
  simp [Instr.arrayAt, run_underlying Try.underlying202]
def lsOK (n : Nat) (f g : Nat → Int) : Prop := n = 4 ∧ allLeaf f g 4
set_option maxRecDepth 10000 in
set_option maxHeartbeats 1000000 in
theorem holdLeaves_any (ao : Option Addr) (c0 n : Nat) (f g : Nat → Int) (Y : Nat → Prop) (w : World) (h : UndosAt Y w ao n f g) :
    Calls Try.prog 167 #[.slice ao n c0] w fun e w' => ((lsOK n f g ∧ e = .returned (.tuple #[.agg (eight f g), .bool true])) ∨ (¬ lsOK n f g ∧ e = .returned (.tuple #[.agg (eight zf zf), .bool false]))) ∧ Blw w w' := by
  have hb0 : Blw w (w.alloc (.cells #[.int .i64 0, .int .i64 0, .int .i64 0, .int .i64 0, .int .i64 0, .int .i64 0, .int .i64 0, .int .i64 0] 202)) := (Blw.refl _).alloc _
  have r0 := row_zero8 w 202
  have H : Hid (UndosAt Y (w.alloc (.cells #[.int .i64 0, .int .i64 0, .int .i64 0, .int .i64 0, .int .i64 0, .int .i64 0, .int .i64 0, .int .i64 0] 202)) ao n f g) := h.blw hb0
  have hn := h.1
  clear h
  go_enter Try.func167, Try.ntmps167
  by_cases h4 : n = 4
  case neg =>
    have HN : Hid (¬ lsOK n f g) := fun q => h4 q.1
    have d4 : ((n : Int) != 4) = true := by simp; omega
    obtain ⟨z0, z1, z2, z3, z4, z5, z6, z7⟩ := row8 r0 (by omega)
    have f0 := r0.frozen 0; have f1 := r0.frozen 1; have f2 := r0.frozen 2; have f3 := r0.frozen 3; have f4 := r0.frozen 4; have f5 := r0.frozen 5; have f6 := r0.frozen 6; have f7 := r0.frozen 7
    clear h4 r0
    go_wp2
    refine bodyPost_ret (v := .tuple #[.agg (eight zf zf), .bool false]) (by simp [results, Try.results167, go_sem, z0, z1, z2, z3, z4, z5, z6, z7]) rfl ?_
    refine ⟨Or.inr ⟨HN.out, rfl⟩, ?_⟩
    exact hb0
  subst h4
  go_wp2_with fail
  refine (anyBad_any ao c0 4 f g Y _ H.out).mono ?_
  rintro e w1 ⟨r, rfl, hr, hb1⟩
  have HR : Hid (r = true ↔ ¬ allLeaf f g 4) := hr
  have HB : Hid (Blw w w1) := hb0.trans hb1
  replace H : Hid (UndosAt Y w1 ao 4 f g) := H.out.blw hb1
  replace r0 := r0.blw hb1
  obtain ⟨z0, z1, z2, z3, z4, z5, z6, z7⟩ := row8 r0 (by omega)
  have f0 := r0.frozen 0; have f1 := r0.frozen 1; have f2 := r0.frozen 2; have f3 := r0.frozen 3; have f4 := r0.frozen 4; have f5 := r0.frozen 5; have f6 := r0.frozen 6; have f7 := r0.frozen 7
  clear hr hb1 hb0 r0
  cases r
  · have HO : Hid (lsOK 4 f g) := ⟨rfl, Classical.byContradiction fun q => by have := HR.out.2 q; simp at this⟩
    clear HR
    obtain ⟨b, o, e, -⟩ := H.out.2 0 (by omega)
    subst e
    obtain ⟨q0, q1, q2, q3, q4, q5, q6, q7⟩ := undo8 H.out
    have hat := arrayAt4 b o c0
    clear H
    go_wp2
    refine bodyPost_ret (v := .tuple #[.agg (eight f g), .bool true]) (by simp [results, Try.results167, go_sem, z0, z1, z2, z3, z4, z5, z6, z7]) rfl ?_
    refine ⟨Or.inl ⟨HO.out, rfl⟩, ?_⟩
    exact set8_blw HB.out (by omega) _ _ _ _ _ _ _ _
  · have HN : Hid (¬ lsOK 4 f g) := fun q => HR.out.1 (by first | rfl | trivial) q.2
    clear HR H
    go_wp2
    refine bodyPost_ret (v := .tuple #[.agg (eight zf zf), .bool false]) (by simp [results, Try.results167, go_sem, z0, z1, z2, z3, z4, z5, z6, z7]) rfl ?_
    refine ⟨Or.inr ⟨HN.out, rfl⟩, ?_⟩
    exact set8_blw HB.out (by omega) _ _ _ _ _ _ _ _
end Go.Proofs.Ytbpdopcdhnemfaa
/- The program's test of tops. -/
namespace Go.Proofs.Ytbpdopcdhnemfaa
open Go.RowKit
set_option linter.unusedSimpArgs false
set_option linter.unusedVariables false
def isZero8 (f g : Nat → Int) : Prop := ∀ j, j < 4 → f j = 0 ∧ g j = 0
/-- How often a list stands at one of the first j tops. -/
def cn (c : Nat → Int) : Nat → Nat → Int
  | 0, _ => 0
  | j + 1, k => cn c j k + (if c j = (k : Int) then 1 else 0)
theorem cn_nonneg (c : Nat → Int) (k : Nat) : ∀ j, 0 ≤ cn c j k ∧ cn c j k ≤ j
  | 0 => by simp [cn]
  | j + 1 => by have := cn_nonneg c k j; simp only [cn]; split <;> omega
theorem cn_zero (c : Nat → Int) (k : Nat) : ∀ j, (cn c j k = 0 ↔ ¬ hasLine j c (k : Int))
  | 0 => by simp only [cn]; exact ⟨fun _ ⟨t, ht, _⟩ => absurd ht (Nat.not_lt_zero _), fun _ => trivial⟩
  | j + 1 => by
    have h1 := cn_zero c k j
    have h2 := (cn_nonneg c k j).1
    simp only [cn]
    by_cases e : c j = (k : Int)
    · rw [if_pos e]
      exact ⟨fun q => by omega, fun q => absurd ⟨j, by omega, e⟩ q⟩
    · rw [if_neg e]
      refine ⟨fun q ⟨t, ht, et⟩ => ?_, fun q => ?_⟩
      · by_cases e2 : t = j
        · subst e2; exact e et
        · exact h1.1 (by omega) ⟨t, by omega, et⟩
      · have := h1.2 (fun ⟨t, ht, et⟩ => q ⟨t, by omega, et⟩); omega
abbrev four (c : Nat → Int) : Array Value := #[.int .i64 (c 0), .int .i64 (c 1), .int .i64 (c 2), .int .i64 (c 3)]
theorem index4 (c : Nat → Int) (k : Nat) (hk : k < 4) (w : World) : (Instr.index 133 (.agg (four c)) (.int .i64 (k : Int))).run Try.prog w = .ok (.int .i64 (c k)) w := by
  match k, hk with
  | 0, _ => exact (show (Instr.index 133 (.agg (four c)) (.int .i64 0)).run Try.prog w = .ok (.int .i64 (c 0)) w by kernel_rfl)
  | 1, _ => exact (show (Instr.index 133 (.agg (four c)) (.int .i64 1)).run Try.prog w = .ok (.int .i64 (c 1)) w by kernel_rfl)
  | 2, _ => exact (show (Instr.index 133 (.agg (four c)) (.int .i64 2)).run Try.prog w = .ok (.int .i64 (c 2)) w by kernel_rfl)
  | 3, _ => exact (show (Instr.index 133 (.agg (four c)) (.int .i64 3)).run Try.prog w = .ok (.int .i64 (c 3)) w by kernel_rfl)
/-- The cells of a held table's lists. -/
def lc (p m : Nat → Nat → Int) : Nat → Value := fun i => if i % 2 = 0 then .int .i64 (p (i / 8) (i % 8 / 2)) else .int .i64 (m (i / 8) (i % 8 / 2))
theorem lc8 {w : World} {z n : Nat} {p m : Nat → Nat → Int} (r : Row w z (n * 8) (lc p m)) {k : Nat} (hk : k < n) :
    w.cell? ⟨z, k * 8, none⟩ = some (.int .i64 (p k 0)) ∧ w.cell? ⟨z, k * 8 + 1, none⟩ = some (.int .i64 (m k 0)) ∧ w.cell? ⟨z, k * 8 + 2, none⟩ = some (.int .i64 (p k 1)) ∧ w.cell? ⟨z, k * 8 + 3, none⟩ = some (.int .i64 (m k 1)) ∧
    w.cell? ⟨z, k * 8 + 4, none⟩ = some (.int .i64 (p k 2)) ∧ w.cell? ⟨z, k * 8 + 5, none⟩ = some (.int .i64 (m k 2)) ∧ w.cell? ⟨z, k * 8 + 6, none⟩ = some (.int .i64 (p k 3)) ∧ w.cell? ⟨z, k * 8 + 7, none⟩ = some (.int .i64 (m k 3)) := by
  have hh : ∀ t, t < 8 → w.cell? ⟨z, k * 8 + t, none⟩ = some (lc p m (k * 8 + t)) := fun t ht => r.cell (by omega)
  have ev : ∀ t, t < 8 → lc p m (k * 8 + t) = if t % 2 = 0 then .int .i64 (p k (t / 2)) else .int .i64 (m k (t / 2)) := fun t ht => by
    unfold lc
    rw [show (k * 8 + t) / 8 = k by omega, show (k * 8 + t) % 8 = t by omega, show (k * 8 + t) % 2 = t % 2 by omega]
  have h0 := hh 0 (by omega); have h1 := hh 1 (by omega); have h2 := hh 2 (by omega); have h3 := hh 3 (by omega)
  have h4 := hh 4 (by omega); have h5 := hh 5 (by omega); have h6 := hh 6 (by omega); have h7 := hh 7 (by omega)
  rw [ev 0 (by omega)] at h0; rw [ev 1 (by omega)] at h1; rw [ev 2 (by omega)] at h2; rw [ev 3 (by omega)] at h3
  rw [ev 4 (by omega)] at h4; rw [ev 5 (by omega)] at h5; rw [ev 6 (by omega)] at h6; rw [ev 7 (by omega)] at h7
  exact ⟨h0, h1, h2, h3, h4, h5, h6, h7⟩
theorem row5 (w : World) (a b c d e : Value) (t : TypeId) : Row (w.alloc (.cells #[a, b, c, d, e] t)) w.heap.size 5 (fun i => if i = 0 then a else if i = 1 then b else if i = 2 then c else if i = 3 then d else e) :=
  ⟨_, t, heap_alloc_new _ _, by simp, fun i hi => by
    match i, hi with
    | 0, _ => rfl
    | 1, _ => rfl
    | 2, _ => rfl
    | 3, _ => rfl
    | 4, _ => rfl⟩
theorem get5 {w : World} {B : Nat} {a b c d e : Value} (r : Row w B 5 (fun i => if i = 0 then a else if i = 1 then b else if i = 2 then c else if i = 3 then d else e)) : w.cell? ⟨B, 0, none⟩ = some a ∧ w.cell? ⟨B, 1, none⟩ = some b ∧ w.cell? ⟨B, 2, none⟩ = some c ∧ w.cell? ⟨B, 3, none⟩ = some d ∧ w.cell? ⟨B, 4, none⟩ = some e :=
  ⟨r.cell (i := 0) (by omega), r.cell (i := 1) (by omega), r.cell (i := 2) (by omega), r.cell (i := 3) (by omega), r.cell (i := 4) (by omega)⟩
theorem row_zero4 (w : World) (t : TypeId) : Row (w.alloc (.cells #[.int .i64 0, .int .i64 0, .int .i64 0, .int .i64 0] t)) w.heap.size 4 (fun _ => .int .i64 0) :=
  ⟨_, t, heap_alloc_new _ _, by simp, fun i hi => by
    match i, hi with
    | 0, _ => rfl
    | 1, _ => rfl
    | 2, _ => rfl
    | 3, _ => rfl⟩
abbrev held5 (c : Nat → Int) (zl kn : Nat) : Array Value := #[.int .i64 (c 0), .int .i64 (c 1), .int .i64 (c 2), .int .i64 (c 3), .slice (some ⟨zl, 0, none⟩) kn kn]
abbrev row5f (c : Nat → Int) (v : Value) : Nat → Value := fun i => if i = 0 then .int .i64 (c 0) else if i = 1 then .int .i64 (c 1) else if i = 2 then .int .i64 (c 2) else if i = 3 then .int .i64 (c 3) else v
def topIs (c : Nat → Int) (kn i : Nat) : Prop := (-1 ≤ c i ∧ c i ≤ (kn : Int) - 1) ∧ (0 ≤ c i → ¬ hasLine i c (c i))
def idleIs (c : Nat → Int) (p m : Nat → Nat → Int) (k : Nat) : Prop := ¬ hasLine 4 c (k : Int) → isZero8 (p k) (m k)
def swOK (c : Nat → Int) (kn : Nat) (p m : Nat → Nat → Int) : Prop := (∀ i, i < 4 → topIs c kn i) ∧ ∀ k, k < kn → idleIs c p m k
set_option maxRecDepth 10000 in
set_option maxHeartbeats 6400000 in
theorem standWell_of (HNS : Hid (∀ f g : Nat → Int, isZero8 f g → ∀ w, (binOp .neq 202 (.agg (eight f g)) (.agg (eight zf zf))).run Try.prog w = .ok (.bool false) w)) (HNO : Hid (∀ f g : Nat → Int, ¬ isZero8 f g → ∀ w, (binOp .neq 202 (.agg (eight f g)) (.agg (eight zf zf))).run Try.prog w = .ok (.bool true) w)) (c : Nat → Int) (zl kn : Nat) (p m : Nat → Nat → Int) (w : World) (hkn : kn ≤ 4) (h : Row w zl (kn * 8) (lc p m)) :
    Calls Try.prog 168 #[.agg (held5 c zl kn)] w fun e w' => ∃ r, e = .returned (.bool r) ∧ (r = true ↔ swOK c kn p m) ∧ Blw w w' := by
  have hb0 : Blw w ((w.alloc (.cells (held5 c zl kn) 136)).alloc (.cells #[.int .i64 0, .int .i64 0, .int .i64 0, .int .i64 0] 133)) := ((Blw.refl _).alloc _).alloc _
  have rB := (row5 w (.int .i64 (c 0)) (.int .i64 (c 1)) (.int .i64 (c 2)) (.int .i64 (c 3)) (.slice (some ⟨zl, 0, none⟩) kn kn) 136).blw ((Blw.refl _).alloc (.cells #[.int .i64 0, .int .i64 0, .int .i64 0, .int .i64 0] 133))
  have rC := row_zero4 (w.alloc (.cells (held5 c zl kn) 136)) 133
  rw [World.size_alloc] at rC
  have H : Hid (Row ((w.alloc (.cells (held5 c zl kn) 136)).alloc (.cells #[.int .i64 0, .int .i64 0, .int .i64 0, .int .i64 0] 133)) zl (kn * 8) (lc p m)) := h.blw hb0
  have hzl := h.lt
  clear h
  obtain ⟨p0, p1, p2, p3, p4⟩ := get5 rB
  go_enter Try.func168, Try.ntmps168
  go_wp2_with fail
  clear p0 p1 p2 p3 p4
  revert hb0 rB rC H
  generalize (w.alloc (.cells (held5 c zl kn) 136)).alloc (.cells #[.int .i64 0, .int .i64 0, .int .i64 0, .int .i64 0] 133) = w0
  intro hb0 rB rC H
  have HB0 : Hid (Blw w w0) := hb0
  have HRB : Hid (Row w0 w.heap.size 5 (row5f c (.slice (some ⟨zl, 0, none⟩) kn kn))) := rB
  have HRC : Hid (Row w0 (w.heap.size + 1) 4 (fun k => .int .i64 (cn c 0 k))) := rC
  clear hb0 rB rC
  go_loopw [10] (fun i wr => ∃ j : Nat, j ≤ 4 ∧ i = .int .i64 j ∧ (∀ i, i < j → topIs c kn i) ∧ Row wr (w.heap.size + 1) 4 (fun k => .int .i64 (cn c j k)) ∧ Mod (fun x => x = w.heap.size + 1) w0 wr) (fun i _ => 4 - (intOf i).toNat)
  case atStart => exact ⟨0, Nat.zero_le _, rfl, fun t ht => absurd ht (Nat.not_lt_zero _), HRC.out, Mod.refl _ _⟩
  case round =>
    obtain ⟨j, hj, rfl, hok, hrc, hm⟩ := hrel
    have HO : Hid (∀ i, i < j → topIs c kn i) := hok
    have HM : Hid (Mod (fun x => x = w.heap.size + 1) w0 wr) := hm
    have HRW : Hid (Row wr (w.heap.size + 1) 4 (fun k => .int .i64 (cn c j k))) := hrc
    have HBW : Hid (Blw w wr) := Mod.blw HB0.out hm (fun i hi => by omega)
    clear hok hm hrc HRC
    by_cases hlt : j < 4
    · have hlt' : (j : Int) < 4 := by omega
      have hix := index4 c j hlt
      by_cases h1 : c j = -1
      · have d1 : (c j == -1) = true := by simp [h1]
        have HN : Hid (∀ i, i < j + 1 → topIs c kn i) := fun i hi => by
          by_cases e : i = j
          · subst e; exact ⟨by omega, fun q => by omega⟩
          · exact HO.out i (by omega)
        have HRN : Hid (Row wr (w.heap.size + 1) 4 (fun k => .int .i64 (cn c (j + 1) k))) := HRW.out.congr (fun k hk => by simp only [cn]; rw [if_neg (by omega)]; simp)
        clear h1 HO HRW
        go_wp2
        go_roundw
        case rel => exact ⟨j + 1, by omega, by go_num, HN.out, HRN.out, HM.out⟩
        case measure => simp [intOf]; omega
      have d1 : (c j == -1) = false := by simp [h1]
      obtain ⟨p0, p1, p2, p3, p4⟩ := get5 (HRB.out.mod HM.out (by omega))
      by_cases h2 : c j < 0
      · have HN : Hid (¬ swOK c kn p m) := fun g => by have := (g.1 j hlt).1; omega
        clear h1 HO HRW
        go_wp2
        go_ret
        exact ⟨false, rfl, iff_f HN.out, HBW.out⟩
      obtain ⟨q, hq⟩ : ∃ q : Nat, c j = q := ⟨(c j).toNat, by omega⟩
      by_cases h3 : q < kn
      case neg =>
        have HN : Hid (¬ swOK c kn p m) := fun g => by have := (g.1 j hlt).1; omega
        have h3' : (kn : Int) ≤ (q : Int) := by omega
        rw [hq] at hix d1
        clear h1 h2 HO HRW
        go_wp2
        go_ret
        exact ⟨false, rfl, iff_f HN.out, HBW.out⟩
      have h3' : (q : Int) < (kn : Int) := by omega
      have hq4 : q < 4 := by omega
      have hq4' : (q : Int) < 4 := by omega
      have g0 : wr.cell? ⟨w.heap.size + 1, q, none⟩ = some (.int .i64 (cn c j q)) := HRW.out.cell hq4
      have gf := HRW.out.frozen q
      have hcz := cn_zero c q j
      obtain ⟨hc0, hc1⟩ := cn_nonneg c q j
      have HQ : Hid (c j = (q : Int)) := hq
      rw [hq] at hix d1
      by_cases h4 : cn c j q = 0
      · have HN : Hid (∀ i, i < j + 1 → topIs c kn i) := fun i hi => by
          by_cases e : i = j
          · subst e; exact ⟨by omega, fun _ => by rw [HQ.out]; exact hcz.1 h4⟩
          · exact HO.out i (by omega)
        have HRN : Hid (Row (wr.setCell ⟨w.heap.size + 1, q, none⟩ (.int .i64 (0 + 1))) (w.heap.size + 1) 4 (fun k => .int .i64 (cn c (j + 1) k))) := (HRW.out.set q _).congr (fun k hk => by
          simp only [cn]
          by_cases e : k = q
          · subst e; rw [if_pos rfl, if_pos HQ.out, h4]
          · rw [if_neg e, if_neg (by rw [HQ.out]; omega)]; simp)
        have HMN : Hid (Mod (fun x => x = w.heap.size + 1) w0 (wr.setCell ⟨w.heap.size + 1, q, none⟩ (.int .i64 (0 + 1)))) := HM.out.trans (Mod.setCell (X := fun x => x = w.heap.size + 1) _ (p := ⟨w.heap.size + 1, q, none⟩) rfl _)
        rw [h4] at g0
        clear h1 h2 hq HO HRW hcz hc0 hc1 h4
        go_wp2
        go_roundw
        case rel => exact ⟨j + 1, by omega, by go_num, HN.out, HRN.out, HMN.out⟩
        case measure => simp [intOf]; omega
      · have HN : Hid (¬ swOK c kn p m) := fun g => h4 (hcz.2 (by have := (g.1 j hlt).2 (by omega); rw [HQ.out] at this; exact this))
        have d4 : decide (cn c j q > 0) = true := by simp; omega
        clear h1 h2 hq HO HRW hcz hc0 hc1 h4
        go_wp2
        go_ret
        exact ⟨false, rfl, iff_f HN.out, HBW.out⟩
    · obtain rfl : j = 4 := by omega
      have HT : Hid (∀ i, i < 4 → topIs c kn i) := HO.out
      obtain ⟨p0, p1, p2, p3, p4⟩ := get5 (HRB.out.mod HM.out (by omega))
      replace H : Hid (Row wr zl (kn * 8) (lc p m)) := H.out.mod HM.out (by omega)
      go_wp2_with fail
      clear p0 p1 p2 p3 p4 HO HM HRB hlt HB0
      generalize wr = wM at *
      go_loopw [39] (fun i wq => ∃ s : Nat, s ≤ kn ∧ i = .int .i64 s ∧ (∀ i, i < s → idleIs c p m i) ∧ Blw wM wq) (fun i _ => kn - (intOf i).toNat)
      case atStart => exact ⟨0, Nat.zero_le _, rfl, fun t ht => absurd ht (Nat.not_lt_zero _), Blw.refl _⟩
      case round =>
        obtain ⟨s, hs, rfl, hok, hb⟩ := hrel
        have HO : Hid (∀ i, i < s → idleIs c p m i) := hok
        have HB : Hid (Blw wM wr) := hb
        clear hok hb
        by_cases hlt : s < kn
        · have hlt' : (s : Int) < (kn : Int) := by omega
          have hs4' : (s : Int) < 4 := by omega
          obtain ⟨q0, q1, q2, q3, q4, q5, q6, q7⟩ := lc8 (H.out.blw HB.out) hlt
          have g0 : (wr.alloc (.cells (eight (p s) (m s)) 202)).cell? ⟨w.heap.size + 1, s, none⟩ = some (.int .i64 (cn c 4 s)) := ((HRW.out.blw HB.out).blw ((Blw.refl _).alloc _)).cell (by omega)
          have hA : Blw wr (wr.alloc (.cells (eight (p s) (m s)) 202)) := (Blw.refl _).alloc _
          have HBN : Hid (Blw wM (wr.alloc (.cells (eight (p s) (m s)) 202))) := HB.out.trans hA
          have hcz := cn_zero c s 4
          clear hA
          by_cases h4 : cn c 4 s = 0
          · have d4 : (cn c 4 s == 0) = true := by simp [h4]
            have HNL : Hid (¬ hasLine 4 c (s : Int)) := hcz.1 h4
            by_cases hz : isZero8 (p s) (m s)
            · have HN : Hid (∀ i, i < s + 1 → idleIs c p m i) := fun i hi => by
                by_cases e : i = s
                · subst e; exact fun _ => hz
                · exact HO.out i (by omega)
              have hne := HNS.out (p s) (m s) hz
              clear hcz h4 HO hz
              go_wp2
              go_roundw
              case rel => exact ⟨s + 1, by omega, by go_num, HN.out, HBN.out⟩
              case measure => simp [intOf]; omega
            · have HN : Hid (¬ swOK c kn p m) := fun g => hz (g.2 s hlt HNL.out)
              have hne := HNO.out (p s) (m s) hz
              clear hcz h4 HO hz
              go_wp2
              go_ret
              exact ⟨false, rfl, iff_f HN.out, HBW.out.trans HBN.out⟩
          · have d4 : (cn c 4 s == 0) = false := by simp [h4]
            have HN : Hid (∀ i, i < s + 1 → idleIs c p m i) := fun i hi => by
              by_cases e : i = s
              · subst e; exact fun q => absurd (hcz.2 q) h4
              · exact HO.out i (by omega)
            clear hcz h4 HO
            go_wp2
            go_roundw
            case rel => exact ⟨s + 1, by omega, by go_num, HN.out, HBN.out⟩
            case measure => simp [intOf]; omega
        · obtain rfl : s = kn := by omega
          have HN : Hid (swOK c s p m) := ⟨HT.out, HO.out⟩
          clear HO HT
          go_wp2
          go_ret
          exact ⟨true, rfl, iff_t HN.out, HBW.out.trans HB.out⟩
end Go.Proofs.Ytbpdopcdhnemfaa
/- Lists of structs of K numbers: what they read as, what is owned. -/
namespace Go.Proofs.Ytbpdopcdhnemfaa
open Go.RowKit
set_option linter.unusedSimpArgs false
set_option linter.unusedVariables false
def kc (K : Nat) (F : Nat → Nat → Int) : Nat → Value := fun j => .int .i64 (F (j / K) (j % K))
theorem kc_at {K : Nat} (F : Nat → Nat → Int) (i : Nat) {c : Nat} (hc : c < K) : kc K F (i * K + c) = .int .i64 (F i c) := by
  unfold kc
  rw [Nat.mul_comm, Nat.mul_add_div (by omega), Nat.div_eq_of_lt hc, Nat.mul_add_mod, Nat.mod_eq_of_lt hc, Nat.add_zero]
theorem kc_lt {K n i c : Nat} (hi : i < n) (hc : c < K) : i * K + c < n * K := by
  have : (i + 1) * K ≤ n * K := Nat.mul_le_mul_right K hi
  rw [Nat.succ_mul] at this
  omega
/-- The slice at 'ao' reads as the n structs F, all in blocks of Y. -/
def KAt (K : Nat) (Y : Nat → Prop) (w : World) (ao : Option Addr) (n : Nat) (F : Nat → Nat → Int) : Prop :=
  n ≤ 9223372036854775807 ∧ ∀ i, i < n → ∃ b o, ao = some ⟨b, o, none⟩ ∧ Y b ∧ ∀ c, c < K → w.cell? ⟨b, o + i * K + c, none⟩ = some (.int .i64 (F i c))
def KOwn (K : Nat) (X : Nat → Prop) (w : World) (ao : Option Addr) (n : Nat) (F : Nat → Nat → Int) : Prop :=
  n ≤ 9223372036854775807 ∧ (0 < n → ∃ b, X b ∧ ao = some ⟨b, 0, none⟩ ∧ Row w b (n * K) (kc K F))
theorem k_get {w : World} {b n K : Nat} {F : Nat → Nat → Int} (r : Row w b (n * K) (kc K F)) {i c : Nat} (hi : i < n) (hc : c < K) : w.cell? ⟨b, i * K + c, none⟩ = some (.int .i64 (F i c)) := by
  rw [r.cell (kc_lt hi hc), kc_at F i hc]
theorem KOwn.at {K : Nat} {X : Nat → Prop} {w : World} {ao : Option Addr} {n : Nat} {F : Nat → Nat → Int} (h : KOwn K X w ao n F) : KAt K X w ao n F := by
  refine ⟨h.1, fun i hi => ?_⟩
  obtain ⟨b, hx, e, hr⟩ := h.2 (by omega)
  exact ⟨b, 0, e, hx, fun c hc => by rw [Nat.zero_add]; exact k_get hr hi hc⟩
theorem KAt.blw {K : Nat} {Y : Nat → Prop} {w w' : World} {ao : Option Addr} {n : Nat} {F : Nat → Nat → Int} (h : KAt K Y w ao n F) (hb : Blw w w') : KAt K Y w' ao n F :=
  ⟨h.1, fun i hi => let ⟨b, o, e, hY, h0⟩ := h.2 i hi; ⟨b, o, e, hY, fun c hc => hb.cell (h0 c hc)⟩⟩
theorem KAt.mod {K : Nat} {Y : Nat → Prop} {w w' : World} {ao : Option Addr} {n : Nat} {F : Nat → Nat → Int} {X : Nat → Prop} (h : KAt K Y w ao n F) (hb : Mod X w w') (hxy : ∀ k, Y k → ¬ X k) : KAt K Y w' ao n F :=
  ⟨h.1, fun i hi => let ⟨b, o, e, hY, h0⟩ := h.2 i hi; ⟨b, o, e, hY, fun c hc => hb.cell (h0 c hc) (hxy _ hY)⟩⟩
theorem KAt.mono {K : Nat} {Y : Nat → Prop} {w : World} {ao : Option Addr} {n : Nat} {F : Nat → Nat → Int} {X : Nat → Prop} (h : KAt K X w ao n F) (hxy : ∀ b, X b → Y b) : KAt K Y w ao n F :=
  ⟨h.1, fun i hi => let ⟨b, o, e, hY, h0⟩ := h.2 i hi; ⟨b, o, e, hxy _ hY, h0⟩⟩
theorem KAt.congr {K : Nat} {Y : Nat → Prop} {w : World} {ao : Option Addr} {n : Nat} {F : Nat → Nat → Int} {F' : Nat → Nat → Int} (h : KAt K Y w ao n F) (e : ∀ i c, i < n → c < K → F i c = F' i c) : KAt K Y w ao n F' :=
  ⟨h.1, fun i hi => let ⟨b, o, ea, hY, h0⟩ := h.2 i hi; ⟨b, o, ea, hY, fun c hc => by rw [← e i c hi hc]; exact h0 c hc⟩⟩
theorem KOwn.mod {K : Nat} {X Z : Nat → Prop} {w w' : World} {ao : Option Addr} {n : Nat} {F : Nat → Nat → Int} (h : KOwn K X w ao n F) (hb : Mod Z w w') (hxz : ∀ b, X b → ¬ Z b) : KOwn K X w' ao n F :=
  ⟨h.1, fun hn => let ⟨b, hx, e, hr⟩ := h.2 hn; ⟨b, hx, e, hr.mod hb (hxz _ hx)⟩⟩
theorem KOwn.blw {K : Nat} {X : Nat → Prop} {w w' : World} {ao : Option Addr} {n : Nat} {F : Nat → Nat → Int} (h : KOwn K X w ao n F) (hb : Blw w w') : KOwn K X w' ao n F := h.mod (hb.mod (fun _ => False)) (fun _ _ => id)
theorem KOwn.mono {K : Nat} {X Y : Nat → Prop} {w : World} {ao : Option Addr} {n : Nat} {F : Nat → Nat → Int} (h : KOwn K X w ao n F) (hxy : ∀ b, X b → Y b) : KOwn K Y w ao n F :=
  ⟨h.1, fun hn => let ⟨b, hx, e, hr⟩ := h.2 hn; ⟨b, hxy _ hx, e, hr⟩⟩
theorem KOwn.nil (K : Nat) (X : Nat → Prop) (w : World) (ao : Option Addr) (F : Nat → Nat → Int) : KOwn K X w ao 0 F := ⟨by omega, fun h => absurd h (by omega)⟩
theorem KOwn.congr {K : Nat} {X : Nat → Prop} {w : World} {ao : Option Addr} {n : Nat} {F F' : Nat → Nat → Int} (hK : 0 < K) (h : KOwn K X w ao n F) (e : ∀ i c, i < n → c < K → F i c = F' i c) : KOwn K X w ao n F' :=
  ⟨h.1, fun hn => let ⟨b, hx, ea, hr⟩ := h.2 hn; ⟨b, hx, ea, hr.congr fun j hj => by
    unfold kc
    rw [e (j / K) (j % K) (Nat.div_lt_of_lt_mul (by rw [Nat.mul_comm]; exact hj)) (Nat.mod_lt _ hK)]⟩⟩
def updF (F : Nat → Nat → Int) (i c : Nat) (v : Int) : Nat → Nat → Int := fun a b => if a = i ∧ b = c then v else F a b
theorem setK {w : World} {b n K : Nat} {F : Nat → Nat → Int} (r : Row w b (n * K) (kc K F)) (i : Nat) {c : Nat} (hc : c < K) (v : Int) : Row (w.setCell ⟨b, i * K + c, none⟩ (.int .i64 v)) b (n * K) (kc K (updF F i c v)) :=
  (r.set (i * K + c) _).congr (fun j hj => by
    have hK : 0 < K := by omega
    by_cases e : j = i * K + c
    · rw [if_pos e, e, kc_at _ i hc]; unfold updF; rw [if_pos ⟨rfl, rfl⟩]
    · rw [if_neg e]
      unfold kc updF
      have : ¬ (j / K = i ∧ j % K = c) := fun h => e (by have h1 := Nat.div_add_mod j K; rw [h.1, h.2, Nat.mul_comm] at h1; exact h1.symm)
      rw [if_neg this])
/-- What a list holds behind a mark. -/
def mkK (K : Nat) (k : Int) : Nat → Nat → Int := fun i c => k + K * i + c
def upK (G F : Nat → Nat → Int) (i : Nat) : Nat → Nat → Int := fun a c => if a < i then G a c else F a c
theorem upK_zero (G F : Nat → Nat → Int) : upK G F 0 = F := by funext a c; unfold upK; rw [if_neg (Nat.not_lt_zero _)]
theorem upK_all {K : Nat} {X : Nat → Prop} {w : World} {ao : Option Addr} {n : Nat} {G F : Nat → Nat → Int} (hK : 0 < K) (h : KOwn K X w ao n (upK G F n)) : KOwn K X w ao n G := h.congr hK (fun i c hi _ => by unfold upK; rw [if_pos hi])
theorem kAt_get {K : Nat} {Y : Nat → Prop} {w : World} {ao : Option Addr} {n : Nat} {F : Nat → Nat → Int} (h : KAt K Y w ao n F) {i : Nat} (hi : i < n) : ∃ b o, ao = some ⟨b, o, none⟩ ∧ Y b ∧ ∀ c, c < K → w.cell? ⟨b, o + i * K + c, none⟩ = some (.int .i64 (F i c)) := h.2 i hi
theorem Row.madeK (w : World) (z : Array Value) (v : Value) (hz : ∀ i, i < z.size → z[i]? = some v) (h0 : 0 < z.size) (n : Nat) (t : TypeId) : Row (w.alloc (.cells (madeCells z n) t)) w.heap.size n (fun _ => v) := by
  refine ⟨_, t, heap_alloc_new _ _, by simp [madeCells], fun i hi => ?_⟩
  have h2 : i % z.size < z.size := Nat.mod_lt _ h0
  have := hz (i % z.size) h2
  simp [madeCells, hi, getElem!_def, this]
end Go.Proofs.Ytbpdopcdhnemfaa
/- Guests: what they read as, what is owned. -/
namespace Go.Proofs.Ytbpdopcdhnemfaa
open Go.RowKit
set_option linter.unusedSimpArgs false
set_option linter.unusedVariables false
theorem IntsAt.st9 {Y : Nat → Prop} {W : World} {ao : Option Addr} {n : Nat} {f : Nat → Int} (h : IntsAt Y W ao n f) (hY : ∀ b, Y b → b < W.heap.size) : St Y (fun W => IntsAt Y W ao n f) W :=
  ⟨hY, fun Z w' hm hx => h.mod hm hx⟩
theorem eqIntS_blw (a1 a2 : Option Addr) (c1 c2 : Nat) (n0 : Nat) (f : Nat → Int) {Y Z : Nat → Prop} (w : World) (h1 : IntsAt Y w a1 n0 f) (h2 : IntsAt Z w a2 n0 f) :
    Calls Try.prog 61 #[.slice a1 n0 c1, .slice a2 n0 c2] w fun e w' => e = .returned (.bool true) ∧ Blw w w' :=
  (eqIntS_same a1 a2 c1 c2 n0 f w h1 h2).mono (fun e w' h => ⟨h.1, by obtain ⟨n, hn⟩ := h.2; rw [hn]; exact drewN_blw w n⟩)
structure GV where
  a1 : Option Addr
  a2 : Option Addr
  c1 : Nat
  c2 : Nat
abbrev GV.zero : GV := ⟨none, none, 0, 0⟩
abbrev GD.zero : GD := ⟨0, 0, 0, fun _ => 0, 0, fun _ => 0, false⟩
abbrev GV.cells (v : GV) (D : GD) : Array Value := #[.int .i64 D.at_, .int .i64 D.acc, .slice v.a1 D.nc v.c1, .slice v.a2 D.nt v.c2, .bool D.d]
abbrev GV.val (v : GV) (D : GD) : Value := .agg (v.cells D)
abbrev gb (v : GV) (D : GD) : Nat → Value := fun i => if i = 0 then .int .i64 D.at_ else if i = 1 then .int .i64 D.acc else if i = 2 then .slice v.a1 D.nc v.c1 else if i = 3 then .slice v.a2 D.nt v.c2 else .bool D.d
structure GAt (Y : Nat → Prop) (w : World) (v : GV) (D : GD) : Prop where
  c : IntsAt Y w v.a1 D.nc D.c
  t : IntsAt Y w v.a2 D.nt D.t
structure GOwn (X : Nat → Prop) (w : World) (v : GV) (D : GD) : Prop where
  ex : ∃ X1 X2 : Nat → Prop, (∀ b, X1 b → X b ∧ ¬ X2 b) ∧ (∀ b, X2 b → X b) ∧ IntsOwn X1 w v.a1 D.nc D.c ∧ IntsOwn X2 w v.a2 D.nt D.t
theorem IntsOwn.mod' {X Z : Nat → Prop} {w w' : World} {ao : Option Addr} {n : Nat} {f : Nat → Int} (h : IntsOwn X w ao n f) (hb : Mod Z w w') (hxz : ∀ b, X b → ¬ Z b) : IntsOwn X w' ao n f :=
  ⟨h.1, fun hn => let ⟨b, hx, e, hr⟩ := h.2 hn; ⟨b, hx, e, hr.mod hb (hxz _ hx)⟩⟩
theorem IntsOwn.mono' {X Y : Nat → Prop} {w : World} {ao : Option Addr} {n : Nat} {f : Nat → Int} (h : IntsOwn X w ao n f) (hxy : ∀ b, X b → Y b) : IntsOwn Y w ao n f :=
  ⟨h.1, fun hn => let ⟨b, hx, e, hr⟩ := h.2 hn; ⟨b, hxy _ hx, e, hr⟩⟩
theorem IntsOwn.congr' {X : Nat → Prop} {w : World} {ao : Option Addr} {n : Nat} {f g : Nat → Int} (h : IntsOwn X w ao n f) (e : ∀ i, i < n → f i = g i) : IntsOwn X w ao n g :=
  ⟨h.1, fun hn => let ⟨b, hx, ea, hr⟩ := h.2 hn; ⟨b, hx, ea, hr.congr fun i hi => by rw [e i hi]⟩⟩
theorem IntsOwn.nil' (X : Nat → Prop) (w : World) (ao : Option Addr) (f : Nat → Int) : IntsOwn X w ao 0 f := ⟨by omega, fun h => absurd h (by omega)⟩
theorem IntsOwn.st9 {Y : Nat → Prop} {W : World} {ao : Option Addr} {n : Nat} {f : Nat → Int} (h : IntsOwn Y W ao n f) (hY : ∀ b, Y b → b < W.heap.size) : St Y (fun W => IntsOwn Y W ao n f) W :=
  ⟨hY, fun Z w' hm hx => h.mod' hm hx⟩
theorem GAt.blw {Y : Nat → Prop} {w w' : World} {v : GV} {D : GD} (h : GAt Y w v D) (hb : Blw w w') : GAt Y w' v D := ⟨h.c.blw hb, h.t.blw hb⟩
theorem GAt.mod {X Y : Nat → Prop} {w w' : World} {v : GV} {D : GD} (h : GAt Y w v D) (hb : Mod X w w') (hxy : ∀ k, Y k → ¬ X k) : GAt Y w' v D := ⟨h.c.mod hb hxy, h.t.mod hb hxy⟩
theorem GAt.mono {X Y : Nat → Prop} {w : World} {v : GV} {D : GD} (h : GAt X w v D) (hxy : ∀ b, X b → Y b) : GAt Y w v D := ⟨h.c.mono hxy, h.t.mono hxy⟩
theorem GOwn.at {X : Nat → Prop} {w : World} {v : GV} {D : GD} (h : GOwn X w v D) : GAt X w v D := by
  obtain ⟨X1, X2, d1, d2, hg, hh⟩ := h.ex
  exact ⟨hg.at.mono (fun b hb => (d1 b hb).1), hh.at.mono d2⟩
theorem GOwn.mod {X Z : Nat → Prop} {w w' : World} {v : GV} {D : GD} (h : GOwn X w v D) (hb : Mod Z w w') (hxz : ∀ b, X b → ¬ Z b) : GOwn X w' v D := by
  obtain ⟨X1, X2, d1, d2, hg, hh⟩ := h.ex
  exact ⟨X1, X2, d1, d2, hg.mod' hb (fun b hx => hxz b (d1 b hx).1), hh.mod' hb (fun b hx => hxz b (d2 b hx))⟩
theorem GOwn.blw {X : Nat → Prop} {w w' : World} {v : GV} {D : GD} (h : GOwn X w v D) (hb : Blw w w') : GOwn X w' v D := h.mod (hb.mod (fun _ => False)) (fun _ _ => id)
theorem GOwn.mono {X Y : Nat → Prop} {w : World} {v : GV} {D : GD} (h : GOwn X w v D) (hxy : ∀ b, X b → Y b) : GOwn Y w v D := by
  obtain ⟨X1, X2, d1, d2, hg, hh⟩ := h.ex
  exact ⟨X1, X2, fun b hb => ⟨hxy b (d1 b hb).1, (d1 b hb).2⟩, fun b hb => hxy b (d2 b hb), hg, hh⟩
theorem GOwn.zero (X : Nat → Prop) (w : World) : GOwn X w GV.zero GD.zero := ⟨fun _ => False, fun _ => False, fun _ h => h.elim, fun _ h => h.elim, IntsOwn.nil' _ _ _ _, IntsOwn.nil' _ _ _ _⟩
/-- Two rows of numbers that are apart. -/
theorem GOwn.two {X : Nat → Prop} {w : World} {z1 z2 : Nat} {D : GD} (n1 : D.nc ≤ 1048576) (n2 : D.nt ≤ 1048576) (h1 : Row w z1 D.nc (fun t => .int .i64 (D.c t))) (h2 : Row w z2 D.nt (fun t => .int .i64 (D.t t))) (x1 : X z1) (x2 : X z2) (ne : z1 ≠ z2) (c1 c2 : Nat) : GOwn X w ⟨some ⟨z1, 0, none⟩, some ⟨z2, 0, none⟩, c1, c2⟩ D :=
  ⟨fun x => x = z1, fun x => x = z2, fun b hb => ⟨hb ▸ x1, fun e => ne (hb.symm.trans e)⟩, fun b hb => hb ▸ x2, ⟨by omega, fun _ => ⟨z1, rfl, rfl, h1⟩⟩, ⟨by omega, fun _ => ⟨z2, rfl, rfl, h2⟩⟩⟩
theorem GOwn.alike {X : Nat → Prop} {w : World} {v : GV} {D E : GD} (h : GOwn X w v D) (e : D.Alike E) : GOwn X w v E := by
  obtain ⟨X1, X2, d1, d2, hg, hh⟩ := h.ex
  refine ⟨X1, X2, d1, d2, ?_, ?_⟩
  · rw [← e.nc]; exact hg.congr' e.c
  · rw [← e.nt]; exact hh.congr' e.t
theorem GAt.alike {X : Nat → Prop} {w : World} {v : GV} {D E : GD} (h : GAt X w v D) (e : D.Alike E) : GAt X w v E := by
  refine ⟨?_, ?_⟩
  · rw [← e.nc]; exact h.c.congr e.c
  · rw [← e.nt]; exact h.t.congr e.t
theorem val_alike {v : GV} {D E : GD} (e : D.Alike E) : v.val D = v.val E := by
  show Value.agg _ = Value.agg _
  unfold GV.cells
  rw [e.a, e.acc, e.nc, e.nt, e.d]
abbrev GD.small (D : GD) : Prop := D.nc + D.nt ≤ 1048576
def GD.marked (D : GD) (k : Int) : GD := { D with c := fun i => k + i, t := fun i => k + D.nc + i }
def GD.total (D : GD) : Nat := D.nc + D.nt
/-- A guest in its own box at z, all in blocks of X. -/
structure BBG (X : Nat → Prop) (z : Nat) (v : GV) (D D' : GD) (w : World) : Prop where
  own : GOwn (fun x => X x ∧ x ≠ z) w v D'
  box : Row w z 5 (gb v D)
theorem BBG.st {X : Nat → Prop} {z : Nat} {v : GV} {D D' : GD} {w : World} (h : BBG X z v D D' w) (hz : X z) (hX : ∀ b, X b → b < w.heap.size) : St X (BBG X z v D D') w :=
  ⟨hX, fun Z w' hm hx => ⟨h.own.mod hm (fun b hb => hx b hb.1), h.box.mod hm (hx z hz)⟩⟩
structure ArgG (n z : Nat) (v : GV) (D : GD) (w : World) : Prop where
  at_ : GAt (fun x => x < n) w v D
  box : Row w z 5 (gb v D)
theorem ArgG.st {n z a : Nat} {v : GV} {D : GD} {w : World} (h : ArgG n z v D w) (hn : n ≤ a) (hz : z < a) (ha : a ≤ w.heap.size) : St (fun x => x < a) (ArgG n z v D) w :=
  ⟨fun x hx => by omega, fun Z w' hm hx => ⟨h.at_.mod hm (fun b hb => hx b (by omega)), h.box.mod hm (hx z hz)⟩⟩
theorem GAt.st {Y : Nat → Prop} {v : GV} {D : GD} {W : World} (h : GAt Y W v D) (hY : ∀ b, Y b → b < W.heap.size) : St Y (fun W => GAt Y W v D) W := ⟨hY, fun Z w' hm hx => h.mod hm hx⟩
theorem GOwn.st {Y : Nat → Prop} {v : GV} {D : GD} {W : World} (h : GOwn Y W v D) (hY : ∀ b, Y b → b < W.heap.size) : St Y (fun W => GOwn Y W v D) W := ⟨hY, fun Z w' hm hx => h.mod hm hx⟩
end Go.Proofs.Ytbpdopcdhnemfaa
/- Guests: the laws' functions. -/
namespace Go.Proofs.Ytbpdopcdhnemfaa
open Go.RowKit
set_option linter.unusedSimpArgs false
set_option linter.unusedVariables false
set_option maxHeartbeats 1600000 in
theorem szGuest_any (v : GV) (D : GD) (Y : Nat → Prop) (left : Int) (w : World) (hl0 : 0 ≤ left) (hl1 : left ≤ 1048576) (h : GAt Y w v D) :
    Calls Try.prog 71 #[v.val D, .int .i64 left] w fun e w' => ∃ r : Int, e = .returned (.int .i64 r) ∧ Left left ((D.nc + D.nt : Nat)) r ∧ Blw w w' := by
  have n1 := h.c.1
  have n2 := h.t.1
  have HR : Hid (Row (w.alloc (.cells #[.int .i64 D.at_, .int .i64 D.acc, .slice v.a1 D.nc v.c1, .slice v.a2 D.nt v.c2, .bool D.d] 94)) w.heap.size 5 (gb v D)) := row5 w _ _ _ _ _ 94
  have HB : Hid (Blw w (w.alloc (.cells #[.int .i64 D.at_, .int .i64 D.acc, .slice v.a1 D.nc v.c1, .slice v.a2 D.nt v.c2, .bool D.d] 94))) := (Blw.refl _).alloc _
  clear h
  go_enter Try.func71, Try.ntmps71
  obtain ⟨p0, p1, p2, p3, p4⟩ := get5 HR.out
  go_wp2_with fail
  clear p0 p1 p2 p3 p4
  refine (szIntS_any _ _ _ left _ n1 hl0 hl1).mono ?_
  rintro e w1 ⟨r, rfl, hr, hb1⟩
  replace HR : Hid (Row w1 w.heap.size 5 (gb v D)) := HR.out.blw hb1
  replace HB : Hid (Blw w w1) := HB.out.trans hb1
  clear hb1
  rcases hr with rfl | ⟨g0, g1⟩
  · go_wp2
    go_ret
    exact ⟨_, rfl, Or.inl rfl, HB.out⟩
  have hnn : ¬ r < 0 := by omega
  have hr1 : r ≤ 1048576 := by omega
  have G1 : Hid (r + D.nc ≤ left) := g1
  clear g1
  obtain ⟨p0, p1, p2, p3, p4⟩ := get5 HR.out
  go_wp2_with fail
  clear p0 p1 p2 p3 p4
  refine (szIntS_any _ _ _ r _ n2 g0 hr1).mono ?_
  rintro e w2 ⟨r2, rfl, hr2, hb2⟩
  replace HB : Hid (Blw w w2) := HB.out.trans hb2
  clear hb2 hnn HR
  rcases hr2 with rfl | ⟨g2, g3⟩
  · go_wp2
    go_ret
    exact ⟨_, rfl, Or.inl rfl, HB.out⟩
  · have hnn : ¬ r2 < 0 := by omega
    have G3 : Hid (r2 + D.nt ≤ r) := g3
    clear g3
    go_wp2
    go_ret
    exact ⟨_, rfl, Or.inr ⟨g2, by have := G1.out; have := G3.out; omega⟩, HB.out⟩
set_option maxHeartbeats 1600000 in
theorem eqGuest_same (v u : GV) (D : GD) {X Y : Nat → Prop} (w : World) (h1 : GAt X w v D) (h2 : GAt Y w u D) :
    Calls Try.prog 73 #[v.val D, u.val D] w fun e w' => e = .returned (.bool true) ∧ Blw w w' := by
  have hb0 : Blw w ((w.alloc (.cells #[.int .i64 D.at_, .int .i64 D.acc, .slice v.a1 D.nc v.c1, .slice v.a2 D.nt v.c2, .bool D.d] 61)).alloc (.cells #[.int .i64 D.at_, .int .i64 D.acc, .slice u.a1 D.nc u.c1, .slice u.a2 D.nt u.c2, .bool D.d] 61)) := ((Blw.refl _).alloc _).alloc _
  have H1 : Hid (GAt X ((w.alloc (.cells #[.int .i64 D.at_, .int .i64 D.acc, .slice v.a1 D.nc v.c1, .slice v.a2 D.nt v.c2, .bool D.d] 61)).alloc (.cells #[.int .i64 D.at_, .int .i64 D.acc, .slice u.a1 D.nc u.c1, .slice u.a2 D.nt u.c2, .bool D.d] 61)) v D) := h1.blw hb0
  have H2 : Hid (GAt Y ((w.alloc (.cells #[.int .i64 D.at_, .int .i64 D.acc, .slice v.a1 D.nc v.c1, .slice v.a2 D.nt v.c2, .bool D.d] 61)).alloc (.cells #[.int .i64 D.at_, .int .i64 D.acc, .slice u.a1 D.nc u.c1, .slice u.a2 D.nt u.c2, .bool D.d] 61)) u D) := h2.blw hb0
  have R1 : Hid (Row ((w.alloc (.cells #[.int .i64 D.at_, .int .i64 D.acc, .slice v.a1 D.nc v.c1, .slice v.a2 D.nt v.c2, .bool D.d] 61)).alloc (.cells #[.int .i64 D.at_, .int .i64 D.acc, .slice u.a1 D.nc u.c1, .slice u.a2 D.nt u.c2, .bool D.d] 61)) w.heap.size 5 (gb v D)) := (row5 w _ _ _ _ _ 61).blw ((Blw.refl _).alloc _)
  have r2 := row5 (w.alloc (.cells #[.int .i64 D.at_, .int .i64 D.acc, .slice v.a1 D.nc v.c1, .slice v.a2 D.nt v.c2, .bool D.d] 61)) (.int .i64 D.at_) (.int .i64 D.acc) (.slice u.a1 D.nc u.c1) (.slice u.a2 D.nt u.c2) (.bool D.d) 61
  rw [World.size_alloc] at r2
  have R2 : Hid (Row ((w.alloc (.cells #[.int .i64 D.at_, .int .i64 D.acc, .slice v.a1 D.nc v.c1, .slice v.a2 D.nt v.c2, .bool D.d] 61)).alloc (.cells #[.int .i64 D.at_, .int .i64 D.acc, .slice u.a1 D.nc u.c1, .slice u.a2 D.nt u.c2, .bool D.d] 61)) (w.heap.size + 1) 5 (gb u D)) := r2
  have HB : Hid (Blw w ((w.alloc (.cells #[.int .i64 D.at_, .int .i64 D.acc, .slice v.a1 D.nc v.c1, .slice v.a2 D.nt v.c2, .bool D.d] 61)).alloc (.cells #[.int .i64 D.at_, .int .i64 D.acc, .slice u.a1 D.nc u.c1, .slice u.a2 D.nt u.c2, .bool D.d] 61))) := hb0
  clear h1 h2 r2 hb0
  have q1 : (D.at_ != D.at_) = false := by simp
  have q2 : (D.acc != D.acc) = false := by simp
  have q3 : (D.d != D.d) = false := by simp
  go_enter Try.func73, Try.ntmps73
  obtain ⟨p0, p1, p2, p3, p4⟩ := get5 R1.out
  obtain ⟨r0, r1, r2, r3, r4⟩ := get5 R2.out
  go_wp2_with fail
  clear p0 p1 p2 p3 p4 r0 r1 r2 r3 r4 q1 q2
  generalize ((w.alloc (.cells #[.int .i64 D.at_, .int .i64 D.acc, .slice v.a1 D.nc v.c1, .slice v.a2 D.nt v.c2, .bool D.d] 61)).alloc (.cells #[.int .i64 D.at_, .int .i64 D.acc, .slice u.a1 D.nc u.c1, .slice u.a2 D.nt u.c2, .bool D.d] 61)) = w0 at *
  refine (eqIntS_blw _ _ _ _ D.nc D.c _ H1.out.c H2.out.c).mono ?_
  rintro e w1 ⟨rfl, hb1⟩
  replace H1 : Hid (GAt X w1 v D) := H1.out.blw hb1
  replace H2 : Hid (GAt Y w1 u D) := H2.out.blw hb1
  replace R1 : Hid (Row w1 w.heap.size 5 (gb v D)) := R1.out.blw hb1
  replace R2 : Hid (Row w1 (w.heap.size + 1) 5 (gb u D)) := R2.out.blw hb1
  replace HB : Hid (Blw w w1) := HB.out.trans hb1
  clear hb1
  obtain ⟨p0, p1, p2, p3, p4⟩ := get5 R1.out
  obtain ⟨r0, r1, r2, r3, r4⟩ := get5 R2.out
  go_wp2_with fail
  clear p0 p1 p2 p3 p4 r0 r1 r2 r3 r4
  refine (eqIntS_blw _ _ _ _ D.nt D.t _ H1.out.t H2.out.t).mono ?_
  rintro e w2 ⟨rfl, hb1⟩
  replace R1 : Hid (Row w2 w.heap.size 5 (gb v D)) := R1.out.blw hb1
  replace R2 : Hid (Row w2 (w.heap.size + 1) 5 (gb u D)) := R2.out.blw hb1
  replace HB : Hid (Blw w w2) := HB.out.trans hb1
  clear hb1 H1 H2
  obtain ⟨p0, p1, p2, p3, p4⟩ := get5 R1.out
  obtain ⟨r0, r1, r2, r3, r4⟩ := get5 R2.out
  clear R1 R2
  go_wp2
  go_ret
  exact ⟨rfl, HB.out⟩
set_option maxHeartbeats 1600000 in
theorem markGuest_any (v : GV) (D : GD) (X : Nat → Prop) (k0 : Int) (w : World) (hS : D.small) (h0 : 0 ≤ k0) (h1 : k0 ≤ 16777216) (hX : ∀ b, X b → b < w.heap.size) (h : GOwn X w v D) :
    Calls Try.prog 75 #[v.val D, .int .i64 k0] w fun e w' => e = .returned (.int .i64 (k0 + D.total)) ∧ GOwn X w' v (D.marked k0) ∧ Mod X w w' := by
  unfold GD.small at hS
  obtain ⟨X1, X2, d1, d2, hc, hl⟩ := h.ex
  have hA : Blw w (w.alloc (.cells #[.int .i64 D.at_, .int .i64 D.acc, .slice v.a1 D.nc v.c1, .slice v.a2 D.nt v.c2, .bool D.d] 61)) := (Blw.refl _).alloc _
  have HC : Hid (IntsOwn X1 (w.alloc (.cells #[.int .i64 D.at_, .int .i64 D.acc, .slice v.a1 D.nc v.c1, .slice v.a2 D.nt v.c2, .bool D.d] 61)) v.a1 D.nc D.c) := hc.blw hA
  have HL : Hid (IntsOwn X2 (w.alloc (.cells #[.int .i64 D.at_, .int .i64 D.acc, .slice v.a1 D.nc v.c1, .slice v.a2 D.nt v.c2, .bool D.d] 61)) v.a2 D.nt D.t) := hl.blw hA
  have R1 : Hid (Row (w.alloc (.cells #[.int .i64 D.at_, .int .i64 D.acc, .slice v.a1 D.nc v.c1, .slice v.a2 D.nt v.c2, .bool D.d] 61)) w.heap.size 5 (gb v D)) := row5 w _ _ _ _ _ 61
  have HM : Hid (Mod X w (w.alloc (.cells #[.int .i64 D.at_, .int .i64 D.acc, .slice v.a1 D.nc v.c1, .slice v.a2 D.nt v.c2, .bool D.d] 61))) := hA.mod _
  clear h hc hl hA
  go_enter Try.func75, Try.ntmps75
  obtain ⟨p0, p1, p2, p3, p4⟩ := get5 R1.out
  go_wp2_with fail
  clear p0 p1 p2 p3 p4
  refine (markIntS_any _ _ D.nc D.c X1 k0 _ (by omega) (by omega) HC.out).mono ?_
  rintro e w1 ⟨rfl, hc1, hm1⟩
  have R2 := R1.out.mod hm1 (fun hh => by have := hX _ (d1 _ hh.1).1; omega)
  have HL1 : Hid (IntsOwn X2 w1 v.a2 D.nt D.t) := HL.out.mod' hm1 (fun x hx hh => (d1 x hh.1).2 hx)
  have HC1 : Hid (IntsOwn X1 w1 v.a1 D.nc (fun i => k0 + i)) := hc1
  replace HM : Hid (Mod X w w1) := HM.out.trans (hm1.mono (fun x hx => (d1 x hx.1).1))
  clear hc1 hm1 HC HL R1
  obtain ⟨p0, p1, p2, p3, p4⟩ := get5 R2
  clear R2
  go_wp2_with fail
  clear p0 p1 p2 p3 p4
  refine (markIntS_any _ _ D.nt D.t X2 (k0 + D.nc) _ (by omega) (by omega) HL1.out).mono ?_
  rintro e w2 ⟨rfl, hl2, hm2⟩
  have HC2 : Hid (IntsOwn X1 w2 v.a1 D.nc (fun i => k0 + i)) := HC1.out.mod' hm2 (fun x hx hh => (d1 x hx).2 hh.1)
  have HL2 : Hid (IntsOwn X2 w2 v.a2 D.nt (fun i => k0 + D.nc + i)) := hl2
  replace HM : Hid (Mod X w w2) := HM.out.trans (hm2.mono (fun x hx => d2 x hx.1))
  clear hl2 hm2 HL1 HC1
  go_wp2
  go_ret
  exact ⟨ret_int (by unfold GD.total; omega), ⟨X1, X2, d1, d2, HC2.out, HL2.out⟩, HM.out⟩
set_option maxHeartbeats 1600000 in
theorem heldGuest_any (v : GV) (D : GD) (X : Nat → Prop) (k0 : Int) (w : World) (hS : D.small) (h0 : 0 ≤ k0) (h1 : k0 ≤ 16777216) (h : GOwn X w v (D.marked k0)) :
    Calls Try.prog 76 #[v.val D, .int .i64 k0] w fun e w' => e = .returned (.int .i64 (k0 + D.total)) ∧ Blw w w' := by
  unfold GD.small at hS
  obtain ⟨X1, X2, d1, d2, hc, hl⟩ := h.ex
  have hA : Blw w (w.alloc (.cells #[.int .i64 D.at_, .int .i64 D.acc, .slice v.a1 D.nc v.c1, .slice v.a2 D.nt v.c2, .bool D.d] 61)) := (Blw.refl _).alloc _
  have HC : Hid (IntsAt X1 (w.alloc (.cells #[.int .i64 D.at_, .int .i64 D.acc, .slice v.a1 D.nc v.c1, .slice v.a2 D.nt v.c2, .bool D.d] 61)) v.a1 D.nc (fun i => k0 + i)) := (hc.blw hA).at
  have HL : Hid (IntsAt X2 (w.alloc (.cells #[.int .i64 D.at_, .int .i64 D.acc, .slice v.a1 D.nc v.c1, .slice v.a2 D.nt v.c2, .bool D.d] 61)) v.a2 D.nt (fun i => k0 + D.nc + i)) := (hl.blw hA).at
  have R1 : Hid (Row (w.alloc (.cells #[.int .i64 D.at_, .int .i64 D.acc, .slice v.a1 D.nc v.c1, .slice v.a2 D.nt v.c2, .bool D.d] 61)) w.heap.size 5 (gb v D)) := row5 w _ _ _ _ _ 61
  have HB : Hid (Blw w (w.alloc (.cells #[.int .i64 D.at_, .int .i64 D.acc, .slice v.a1 D.nc v.c1, .slice v.a2 D.nt v.c2, .bool D.d] 61))) := hA
  clear h hc hl hA
  go_enter Try.func76, Try.ntmps76
  obtain ⟨p0, p1, p2, p3, p4⟩ := get5 R1.out
  go_wp2_with fail
  clear p0 p1 p2 p3 p4
  refine (heldIntS_any _ _ D.nc X1 k0 _ (by omega) (by omega) HC.out).mono ?_
  rintro e w1 ⟨rfl, hb1⟩
  have R2 := R1.out.blw hb1
  replace HL : Hid (IntsAt X2 w1 v.a2 D.nt (fun i => k0 + D.nc + i)) := HL.out.blw hb1
  replace HB : Hid (Blw w w1) := HB.out.trans hb1
  clear hb1 HC R1
  obtain ⟨p0, p1, p2, p3, p4⟩ := get5 R2
  clear R2
  have k1 : ¬ (k0 + (D.nc : Int) < 0) := by omega
  go_wp2_with fail
  clear p0 p1 p2 p3 p4
  refine (heldIntS_any _ _ D.nt X2 (k0 + D.nc) _ (by omega) (by omega) HL.out).mono ?_
  rintro e w2 ⟨rfl, hb1⟩
  replace HB : Hid (Blw w w2) := HB.out.trans hb1
  clear hb1 HL k1
  have k2 : ¬ (k0 + (D.nc : Int) + (D.nt : Int) < 0) := by omega
  go_wp2
  go_ret
  exact ⟨ret_int (by unfold GD.total; omega), HB.out⟩
theorem set5 {w : World} {B : Nat} {a b c d e : Value} (r : Row w B 5 (fun i => if i = 0 then a else if i = 1 then b else if i = 2 then c else if i = 3 then d else e)) : (∀ u, Row (w.setCell ⟨B, 0, none⟩ u) B 5 (fun i => if i = 0 then u else if i = 1 then b else if i = 2 then c else if i = 3 then d else e)) ∧ (∀ u, Row (w.setCell ⟨B, 1, none⟩ u) B 5 (fun i => if i = 0 then a else if i = 1 then u else if i = 2 then c else if i = 3 then d else e)) ∧ (∀ u, Row (w.setCell ⟨B, 2, none⟩ u) B 5 (fun i => if i = 0 then a else if i = 1 then b else if i = 2 then u else if i = 3 then d else e)) ∧ (∀ u, Row (w.setCell ⟨B, 3, none⟩ u) B 5 (fun i => if i = 0 then a else if i = 1 then b else if i = 2 then c else if i = 3 then u else e)) := by
  refine ⟨fun u => (r.set 0 u).congr ?_, fun u => (r.set 1 u).congr ?_, fun u => (r.set 2 u).congr ?_, fun u => (r.set 3 u).congr ?_⟩ <;> intro i hi <;>
    (match i, hi with
    | 0, _ => rfl
    | 1, _ => rfl
    | 2, _ => rfl
    | 3, _ => rfl
    | 4, _ => rfl)
theorem set5_modG (W : World) (z : Nat) (v0 v1 v2 v3 v4 : Value) {X : Nat → Prop} (hz : X z) : Mod X W (((((W.setCell ⟨z, 0, none⟩ v0).setCell ⟨z, 1, none⟩ v1).setCell ⟨z, 2, none⟩ v2).setCell ⟨z, 3, none⟩ v3).setCell ⟨z, 4, none⟩ v4) :=
  ((((Mod.setCell _ (p := ⟨z, 0, none⟩) hz _).trans (Mod.setCell _ (p := ⟨z, 1, none⟩) hz _)).trans (Mod.setCell _ (p := ⟨z, 2, none⟩) hz _)).trans (Mod.setCell _ (p := ⟨z, 3, none⟩) hz _)).trans (Mod.setCell _ (p := ⟨z, 4, none⟩) hz _)
set_option maxRecDepth 10000 in
set_option maxHeartbeats 3200000 in
theorem toGuest_any (v : GV) (D : GD) (Y : Nat → Prop) (w : World) (hS : D.small) (h : GAt Y w v D) :
    Calls Try.prog 72 #[v.val D] w fun e w' => ∃ v' : GV, e = .returned (v'.val D) ∧ GOwn (fun x => w.heap.size ≤ x ∧ x < w'.heap.size) w' v' D ∧ Blw w w' := by
  unfold GD.small at hS
  have hb0 : Blw w (((w.alloc (.cells #[.int .i64 D.at_, .int .i64 D.acc, .slice v.a1 D.nc v.c1, .slice v.a2 D.nt v.c2, .bool D.d] 94)).alloc (.cells #[.int .i64 0, .int .i64 0, .slice none 0 0, .slice none 0 0, .bool false] 61)).alloc (.cells #[.int .i64 0, .int .i64 0, .slice none 0 0, .slice none 0 0, .bool false] 61)) := (((Blw.refl _).alloc _).alloc _).alloc _
  have r0 : Row (((w.alloc (.cells #[.int .i64 D.at_, .int .i64 D.acc, .slice v.a1 D.nc v.c1, .slice v.a2 D.nt v.c2, .bool D.d] 94)).alloc (.cells #[.int .i64 0, .int .i64 0, .slice none 0 0, .slice none 0 0, .bool false] 61)).alloc (.cells #[.int .i64 0, .int .i64 0, .slice none 0 0, .slice none 0 0, .bool false] 61)) w.heap.size 5 (gb v D) := (row5 w _ _ _ _ _ 94).blw (((Blw.refl _).alloc _).alloc _)
  have r1 := (row5 (w.alloc (.cells #[.int .i64 D.at_, .int .i64 D.acc, .slice v.a1 D.nc v.c1, .slice v.a2 D.nt v.c2, .bool D.d] 94)) (.int .i64 0) (.int .i64 0) (.slice none 0 0) (.slice none 0 0) (.bool false) 61).blw (w' := (((w.alloc (.cells #[.int .i64 D.at_, .int .i64 D.acc, .slice v.a1 D.nc v.c1, .slice v.a2 D.nt v.c2, .bool D.d] 94)).alloc (.cells #[.int .i64 0, .int .i64 0, .slice none 0 0, .slice none 0 0, .bool false] 61)).alloc (.cells #[.int .i64 0, .int .i64 0, .slice none 0 0, .slice none 0 0, .bool false] 61))) ((Blw.refl _).alloc _)
  have r2 := row5 ((w.alloc (.cells #[.int .i64 D.at_, .int .i64 D.acc, .slice v.a1 D.nc v.c1, .slice v.a2 D.nt v.c2, .bool D.d] 94)).alloc (.cells #[.int .i64 0, .int .i64 0, .slice none 0 0, .slice none 0 0, .bool false] 61)) (.int .i64 0) (.int .i64 0) (.slice none 0 0) (.slice none 0 0) (.bool false) 61
  rw [World.size_alloc] at r1
  rw [World.size_alloc, World.size_alloc] at r2
  have hz : (((w.alloc (.cells #[.int .i64 D.at_, .int .i64 D.acc, .slice v.a1 D.nc v.c1, .slice v.a2 D.nt v.c2, .bool D.d] 94)).alloc (.cells #[.int .i64 0, .int .i64 0, .slice none 0 0, .slice none 0 0, .bool false] 61)).alloc (.cells #[.int .i64 0, .int .i64 0, .slice none 0 0, .slice none 0 0, .bool false] 61)).heap.size = w.heap.size + 1 + 1 + 1 := by simp
  have HN : Hid (GAt Y (((w.alloc (.cells #[.int .i64 D.at_, .int .i64 D.acc, .slice v.a1 D.nc v.c1, .slice v.a2 D.nt v.c2, .bool D.d] 94)).alloc (.cells #[.int .i64 0, .int .i64 0, .slice none 0 0, .slice none 0 0, .bool false] 61)).alloc (.cells #[.int .i64 0, .int .i64 0, .slice none 0 0, .slice none 0 0, .bool false] 61)) v D) := h.blw hb0
  have HB : Hid (Blw w (((w.alloc (.cells #[.int .i64 D.at_, .int .i64 D.acc, .slice v.a1 D.nc v.c1, .slice v.a2 D.nt v.c2, .bool D.d] 94)).alloc (.cells #[.int .i64 0, .int .i64 0, .slice none 0 0, .slice none 0 0, .bool false] 61)).alloc (.cells #[.int .i64 0, .int .i64 0, .slice none 0 0, .slice none 0 0, .bool false] 61))) := hb0
  have R0 : Hid (Row (((w.alloc (.cells #[.int .i64 D.at_, .int .i64 D.acc, .slice v.a1 D.nc v.c1, .slice v.a2 D.nt v.c2, .bool D.d] 94)).alloc (.cells #[.int .i64 0, .int .i64 0, .slice none 0 0, .slice none 0 0, .bool false] 61)).alloc (.cells #[.int .i64 0, .int .i64 0, .slice none 0 0, .slice none 0 0, .bool false] 61)) w.heap.size 5 (gb v D)) := r0
  have R1 : Hid (Row (((w.alloc (.cells #[.int .i64 D.at_, .int .i64 D.acc, .slice v.a1 D.nc v.c1, .slice v.a2 D.nt v.c2, .bool D.d] 94)).alloc (.cells #[.int .i64 0, .int .i64 0, .slice none 0 0, .slice none 0 0, .bool false] 61)).alloc (.cells #[.int .i64 0, .int .i64 0, .slice none 0 0, .slice none 0 0, .bool false] 61)) (w.heap.size + 1) 5 (fun i => if i = 0 then .int .i64 0 else if i = 1 then .int .i64 0 else if i = 2 then .slice none 0 0 else if i = 3 then .slice none 0 0 else .bool false)) := r1
  have R2 : Hid (Row (((w.alloc (.cells #[.int .i64 D.at_, .int .i64 D.acc, .slice v.a1 D.nc v.c1, .slice v.a2 D.nt v.c2, .bool D.d] 94)).alloc (.cells #[.int .i64 0, .int .i64 0, .slice none 0 0, .slice none 0 0, .bool false] 61)).alloc (.cells #[.int .i64 0, .int .i64 0, .slice none 0 0, .slice none 0 0, .bool false] 61)) (w.heap.size + 1 + 1) 5 (fun i => if i = 0 then .int .i64 0 else if i = 1 then .int .i64 0 else if i = 2 then .slice none 0 0 else if i = 3 then .slice none 0 0 else .bool false)) := r2
  have HZ : Hid ((((w.alloc (.cells #[.int .i64 D.at_, .int .i64 D.acc, .slice v.a1 D.nc v.c1, .slice v.a2 D.nt v.c2, .bool D.d] 94)).alloc (.cells #[.int .i64 0, .int .i64 0, .slice none 0 0, .slice none 0 0, .bool false] 61)).alloc (.cells #[.int .i64 0, .int .i64 0, .slice none 0 0, .slice none 0 0, .bool false] 61)).heap.size = w.heap.size + 1 + 1 + 1) := hz
  have HW : Hid (GAt Y w v D) := h
  clear h hb0 r0 r1 r2 hz
  go_enter Try.func72, Try.ntmps72
  go_upto_region 2 with fail
  generalize (((w.alloc (.cells #[.int .i64 D.at_, .int .i64 D.acc, .slice v.a1 D.nc v.c1, .slice v.a2 D.nt v.c2, .bool D.d] 94)).alloc (.cells #[.int .i64 0, .int .i64 0, .slice none 0 0, .slice none 0 0, .bool false] 61)).alloc (.cells #[.int .i64 0, .int .i64 0, .slice none 0 0, .slice none 0 0, .bool false] 61)) = W0 at *
  have hm1 : Mod (fun x => x = w.heap.size + 1 + 1) W0 ((W0.setCell ⟨w.heap.size + 1 + 1, 0, none⟩ (.int .i64 D.at_)).setCell ⟨w.heap.size + 1 + 1, 1, none⟩ (.int .i64 D.acc)) := (Mod.setCell (X := fun x => x = w.heap.size + 1 + 1) _ (p := ⟨w.heap.size + 1 + 1, 0, none⟩) rfl _).trans (Mod.setCell (X := fun x => x = w.heap.size + 1 + 1) _ (p := ⟨w.heap.size + 1 + 1, 1, none⟩) rfl _)
  have S2 : Hid (Row ((W0.setCell ⟨w.heap.size + 1 + 1, 0, none⟩ (.int .i64 D.at_)).setCell ⟨w.heap.size + 1 + 1, 1, none⟩ (.int .i64 D.acc)) (w.heap.size + 1 + 1) 5 (fun i => if i = 0 then .int .i64 D.at_ else if i = 1 then .int .i64 D.acc else if i = 2 then .slice none 0 0 else if i = 3 then .slice none 0 0 else .bool false)) := (set5 ((set5 R2.out).1 _)).2.1 _
  have S0 : Hid (Row ((W0.setCell ⟨w.heap.size + 1 + 1, 0, none⟩ (.int .i64 D.at_)).setCell ⟨w.heap.size + 1 + 1, 1, none⟩ (.int .i64 D.acc)) w.heap.size 5 (gb v D)) := R0.out.mod hm1 (by omega)
  have S1 : Hid (Row ((W0.setCell ⟨w.heap.size + 1 + 1, 0, none⟩ (.int .i64 D.at_)).setCell ⟨w.heap.size + 1 + 1, 1, none⟩ (.int .i64 D.acc)) (w.heap.size + 1) 5 (fun i => if i = 0 then .int .i64 0 else if i = 1 then .int .i64 0 else if i = 2 then .slice none 0 0 else if i = 3 then .slice none 0 0 else .bool false)) := R1.out.mod hm1 (by omega)
  have HZ2 : Hid (((W0.setCell ⟨w.heap.size + 1 + 1, 0, none⟩ (.int .i64 D.at_)).setCell ⟨w.heap.size + 1 + 1, 1, none⟩ (.int .i64 D.acc)).heap.size = w.heap.size + 1 + 1 + 1) := by have := HZ.out; show _ = _; simpa using this
  have hz0 := HZ.out
  have HB2 : Hid (Blw w ((W0.setCell ⟨w.heap.size + 1 + 1, 0, none⟩ (.int .i64 D.at_)).setCell ⟨w.heap.size + 1 + 1, 1, none⟩ (.int .i64 D.acc))) := Mod.blw HB.out hm1 (fun i hi => by omega)
  have HN2 : Hid (GAt Y ((W0.setCell ⟨w.heap.size + 1 + 1, 0, none⟩ (.int .i64 D.at_)).setCell ⟨w.heap.size + 1 + 1, 1, none⟩ (.int .i64 D.acc)) v D) := HW.out.blw HB2.out
  obtain ⟨p0, p1, p2, p3, p4⟩ := get5 R0.out
  obtain ⟨q0, q1, q2, q3, q4⟩ := get5 R2.out
  have f0 := R2.out.frozen 0
  have f1 := R2.out.frozen 1
  obtain ⟨t0, t1, t2, t3, t4⟩ := get5 S0.out
  clear HN HB R0 R1 R2 HZ hz0 hm1
  go_wp2_with fail
  clear p0 p1 p2 p3 p4 q0 q1 q2 q3 q4 t0 t1 t2 t3 t4 f0 f1
  generalize ((W0.setCell ⟨w.heap.size + 1 + 1, 0, none⟩ (.int .i64 D.at_)).setCell ⟨w.heap.size + 1 + 1, 1, none⟩ (.int .i64 D.acc)) = w2 at *
  refine (toIntS_any _ _ D.nc D.c Y _ (by omega) HN2.out.c).mono ?_
  rintro e w1 ⟨rfl, hi, hb1⟩
  have hzz := HZ2.out
  rw [hzz] at hi ⊢
  have hlt := hi.lt
  have hm2 : Mod (fun x => x = w.heap.size + 1 + 1) w1 (w1.setCell ⟨w.heap.size + 1 + 1, 2, none⟩ (.slice (some ⟨w.heap.size + 1 + 1 + 1, 0, none⟩) D.nc D.nc)) := Mod.setCell (X := fun x => x = w.heap.size + 1 + 1) _ (p := ⟨w.heap.size + 1 + 1, 2, none⟩) rfl _
  have hs2 := hm2.size
  obtain ⟨p0, p1, p2, p3, p4⟩ := get5 (S0.out.blw hb1)
  obtain ⟨q0, q1, q2, q3, q4⟩ := get5 (S2.out.blw hb1)
  have f2 := (S2.out.blw hb1).frozen 2
  have T2 : Hid (Row (w1.setCell ⟨w.heap.size + 1 + 1, 2, none⟩ (.slice (some ⟨w.heap.size + 1 + 1 + 1, 0, none⟩) D.nc D.nc)) (w.heap.size + 1 + 1) 5 (fun i => if i = 0 then .int .i64 D.at_ else if i = 1 then .int .i64 D.acc else if i = 2 then .slice (some ⟨w.heap.size + 1 + 1 + 1, 0, none⟩) D.nc D.nc else if i = 3 then .slice none 0 0 else .bool false)) := (set5 (S2.out.blw hb1)).2.2.1 _
  have T0 : Hid (Row (w1.setCell ⟨w.heap.size + 1 + 1, 2, none⟩ (.slice (some ⟨w.heap.size + 1 + 1 + 1, 0, none⟩) D.nc D.nc)) w.heap.size 5 (gb v D)) := (S0.out.blw hb1).mod hm2 (by omega)
  have T1 : Hid (Row (w1.setCell ⟨w.heap.size + 1 + 1, 2, none⟩ (.slice (some ⟨w.heap.size + 1 + 1 + 1, 0, none⟩) D.nc D.nc)) (w.heap.size + 1) 5 (fun i => if i = 0 then .int .i64 0 else if i = 1 then .int .i64 0 else if i = 2 then .slice none 0 0 else if i = 3 then .slice none 0 0 else .bool false)) := (S1.out.blw hb1).mod hm2 (by omega)
  have TI : Hid (Row (w1.setCell ⟨w.heap.size + 1 + 1, 2, none⟩ (.slice (some ⟨w.heap.size + 1 + 1 + 1, 0, none⟩) D.nc D.nc)) (w.heap.size + 1 + 1 + 1) D.nc (fun t => .int .i64 (D.c t))) := hi.mod hm2 (by omega)
  have HB3 : Hid (Blw w (w1.setCell ⟨w.heap.size + 1 + 1, 2, none⟩ (.slice (some ⟨w.heap.size + 1 + 1 + 1, 0, none⟩) D.nc D.nc))) := Mod.blw (HB2.out.trans hb1) hm2 (fun i hi => by omega)
  have HN3 : Hid (GAt Y (w1.setCell ⟨w.heap.size + 1 + 1, 2, none⟩ (.slice (some ⟨w.heap.size + 1 + 1 + 1, 0, none⟩) D.nc D.nc)) v D) := HW.out.blw HB3.out
  have HZ3 : Hid (w.heap.size + 1 + 1 + 1 < (w1.setCell ⟨w.heap.size + 1 + 1, 2, none⟩ (.slice (some ⟨w.heap.size + 1 + 1 + 1, 0, none⟩) D.nc D.nc)).heap.size) := by show _ < _; omega
  obtain ⟨t0, t1, t2, t3, t4⟩ := get5 T0.out
  clear HN2 HB2 S0 S1 S2 HZ2 hb1 hm2 hi hlt hs2 hzz
  go_wp2_with fail
  clear p0 p1 p2 p3 p4 q0 q1 q2 q3 q4 t0 t1 t2 t3 t4 f2
  generalize (w1.setCell ⟨w.heap.size + 1 + 1, 2, none⟩ (.slice (some ⟨w.heap.size + 1 + 1 + 1, 0, none⟩) D.nc D.nc)) = w3 at *
  refine (toIntS_any _ _ D.nt D.t Y _ (by omega) HN3.out.t).mono ?_
  rintro e w4 ⟨rfl, hi, hb1⟩
  have hz3 := HZ3.out
  have hs4 := hb1.size
  have hlt := hi.lt
  generalize w3.heap.size = z3 at *
  obtain ⟨p0, p1, p2, p3, p4⟩ := get5 (T0.out.blw hb1)
  obtain ⟨q0, q1, q2, q3, q4⟩ := get5 (T2.out.blw hb1)
  obtain ⟨t0, t1, t2, t3, t4⟩ := get5 (T1.out.blw hb1)
  have f3 := (T2.out.blw hb1).frozen 3
  have f4 := (T2.out.blw hb1).frozen 4
  have g0 := (T1.out.blw hb1).frozen 0; have g1 := (T1.out.blw hb1).frozen 1; have g2 := (T1.out.blw hb1).frozen 2; have g3 := (T1.out.blw hb1).frozen 3; have g4 := (T1.out.blw hb1).frozen 4
  have HB4 : Hid (Blw w w4) := HB3.out.trans hb1
  have TI4 : Hid (Row w4 (w.heap.size + 1 + 1 + 1) D.nc (fun t => .int .i64 (D.c t))) := TI.out.blw hb1
  have TT4 : Hid (Row w4 z3 D.nt (fun t => .int .i64 (D.t t))) := hi
  have HZ4 : Hid (w.heap.size + 1 + 1 + 1 < z3 ∧ z3 < w4.heap.size) := ⟨hz3, hlt⟩
  clear HN3 HB3 T0 T1 T2 TI HZ3 hb1 hi hlt hz3 hs4 HW
  go_wp2
  refine bodyPost_ret (v := GV.val ⟨some ⟨w.heap.size + 1 + 1 + 1, 0, none⟩, some ⟨z3, 0, none⟩, D.nc, D.nt⟩ D) (by simp [results, Try.results72, go_sem, t0, t1, t2, t3, t4]) rfl ?_
  have m1 : Mod (fun x => x = w.heap.size + 1 ∨ x = w.heap.size + 1 + 1) w4 (((((((w4.setCell ⟨w.heap.size + 1 + 1, 3, none⟩ (.slice (some ⟨z3, 0, none⟩) D.nt D.nt)).setCell ⟨w.heap.size + 1 + 1, 4, none⟩ (.bool D.d)).setCell ⟨w.heap.size + 1, 0, none⟩ (.int .i64 D.at_)).setCell ⟨w.heap.size + 1, 1, none⟩ (.int .i64 D.acc)).setCell ⟨w.heap.size + 1, 2, none⟩ (.slice (some ⟨w.heap.size + 1 + 1 + 1, 0, none⟩) D.nc D.nc)).setCell ⟨w.heap.size + 1, 3, none⟩ (.slice (some ⟨z3, 0, none⟩) D.nt D.nt)).setCell ⟨w.heap.size + 1, 4, none⟩ (.bool D.d)) :=
    ((Mod.setCell _ (p := ⟨w.heap.size + 1 + 1, 3, none⟩) (Or.inr rfl) _).trans (Mod.setCell _ (p := ⟨w.heap.size + 1 + 1, 4, none⟩) (Or.inr rfl) _)).trans (set5_modG _ (w.heap.size + 1) _ _ _ _ _ (Or.inl rfl))
  have h4 := HZ4.out
  have h5 := m1.size
  exact ⟨_, rfl, GOwn.two (by omega) (by omega) (TI4.out.mod m1 (by omega)) (TT4.out.mod m1 (by omega)) ⟨by omega, by omega⟩ ⟨by omega, by omega⟩ (by omega) _ _, Mod.blw HB4.out m1 (fun i hi => by omega)⟩
end Go.Proofs.Ytbpdopcdhnemfaa
/- The laws' functions on lists of InsS. -/
namespace Go.Proofs.Ytbpdopcdhnemfaa
open Go.RowKit
set_option linter.unusedSimpArgs false
set_option linter.unusedVariables false
theorem infoInsS : (Try.prog.info? 170).map (fun i => (i.zero, i.size, i.bytes)) = some (some (.agg #[.int .i64 0, .int .i64 0, .int .i64 0]), 3, 24) := by kernel_rfl
theorem mkInsS (n : Nat) (hn : n ≤ 1048576) (w : World) : (Instr.makeSlice 59 (.int .i64 n) (.int .i64 n)).run Try.prog w = .ok (.slice (some ⟨w.heap.size, 0, none⟩) n n) (w.alloc (.cells (madeCells #[.int .i64 0, .int .i64 0, .int .i64 0] (n * 3)) 170)) := by
  obtain ⟨i0, hi, hz0, hz1, hz2⟩ := info_parts infoInsS
  have h := run_make (P := Try.prog) w 59 170 i0 (.agg #[.int .i64 0, .int .i64 0, .int .i64 0]) Try.underlying59 hi hz0 .i64 .i64 (n : Int) (n : Int) (by omega) (Int.le_refl _) (by rw [hz2]; omega) (by omega)
  simpa [hz1, Value.cells] using h
set_option maxHeartbeats 400000 in
theorem szInsS_any (ao : Option Addr) (c n : Nat) (left : Int) (w : World) (hn : n ≤ 9223372036854775807) (h0 : 0 ≤ left) (h1 : left ≤ 1048576) :
    Calls Try.prog 68 #[.slice ao n c, .int .i64 left] w fun e w' => ∃ r : Int, e = .returned (.int .i64 r) ∧ Left left n r ∧ Blw w w' := by
  by_cases h : left - n < 0
  · go_enter Try.func68, Try.ntmps68
    go_wp2
    go_ret
    exact ⟨_, rfl, Or.inl rfl, Blw.refl _⟩
  · go_enter Try.func68, Try.ntmps68
    go_wp2
    go_ret
    exact ⟨_, rfl, Or.inr ⟨by omega, by omega⟩, Blw.refl _⟩
set_option maxHeartbeats 800000 in
theorem toInsS1_any (x0 x1 x2 : Int) (w : World) : Calls Try.prog 140 #[.agg #[.int .i64 x0, .int .i64 x1, .int .i64 x2]] w fun e w' => e = .returned (.agg #[.int .i64 x0, .int .i64 x1, .int .i64 x2]) ∧ Blw w w' := by
  go_enter Try.func140, Try.ntmps140
  go_wp2
  refine bodyPost_ret (v := (.agg #[.int .i64 x0, .int .i64 x1, .int .i64 x2])) (by simp [results, Try.results140, go_sem]) rfl ⟨rfl, ?_⟩
  exact (((Blw.refl _).alloc _).alloc _).alloc _
set_option maxHeartbeats 1600000 in
theorem toInsS_any (ao : Option Addr) (c n : Nat) (F : Nat → Nat → Int) (Y : Nat → Prop) (w : World) (hn : n ≤ 1048576) (h : KAt 3 Y w ao n F) :
    Calls Try.prog 69 #[.slice ao n c] w fun e w' => e = .returned (.slice (some ⟨w.heap.size, 0, none⟩) n n) ∧ Row w' w.heap.size (n * 3) (kc 3 F) ∧ Blw w w' := by
  have H : Hid (KAt 3 Y w ao n F) := h
  clear h
  have hmk := mkInsS n hn
  go_enter Try.func69, Try.ntmps69
  go_wp2
  clear hmk
  go_loopw [4] (fun i wr => ∃ j : Nat, j ≤ n ∧ i = .int .i64 j ∧ Row wr w.heap.size (n * 3) (kc 3 (upK F (fun _ _ => 0) j)) ∧ Blw w wr) (fun i _ => n - (intOf i).toNat)
  case atStart => exact ⟨0, Nat.zero_le _, rfl, (Row.madeK w #[.int .i64 0, .int .i64 0, .int .i64 0] (.int .i64 0) (fun i hi => by
    match i, hi with
    | 0, _ => rfl
    | 1, _ => rfl
    | 2, _ => rfl
    ) (by decide) (n * 3) 170).congr (fun i _ => by rw [upK_zero]; rfl), (Blw.refl _).alloc _⟩
  case round =>
    obtain ⟨j, hj, rfl, hr, hb⟩ := hrel
    have HR : Hid (Row wr w.heap.size (n * 3) (kc 3 (upK F (fun _ _ => 0) j))) := hr
    have HB : Hid (Blw w wr) := hb
    clear hr hb
    by_cases hlt : j < n
    · obtain ⟨b, o, rfl, -, g⟩ := (H.out.blw HB.out).2 j hlt
      have g0 := g 0 (by omega)
      have g1 := g 1 (by omega)
      have g2 := g 2 (by omega)
      have hlt' : (j : Int) < n := by omega
      clear g H
      rw [Nat.add_zero] at g0
      go_wp2_with fail
      refine (toInsS1_any _ _ _ _).mono ?_
      rintro e w1 ⟨rfl, hb1⟩
      clear g0 g1 g2
      have HR1 : Hid (Row w1 w.heap.size (n * 3) (kc 3 (upK F (fun _ _ => 0) j))) := HR.out.blw hb1
      have HB1 : Hid (Blw w w1) := HB.out.trans hb1
      clear HR HB hb1
      have p0 := k_get HR1.out hlt (c := 0) (by omega)
      have f0 := HR1.out.frozen (j * 3)
      have p1 := k_get HR1.out hlt (c := 1) (by omega)
      have f1 := HR1.out.frozen (j * 3 + 1)
      have p2 := k_get HR1.out hlt (c := 2) (by omega)
      have f2 := HR1.out.frozen (j * 3 + 2)
      rw [Nat.add_zero] at p0
      have HS : Hid (Row (((w1.setCell ⟨w.heap.size, j * 3, none⟩ (.int .i64 (F j 0))).setCell ⟨w.heap.size, j * 3 + 1, none⟩ (.int .i64 (F j 1))).setCell ⟨w.heap.size, j * 3 + 2, none⟩ (.int .i64 (F j 2))) w.heap.size (n * 3) (kc 3 (upK F (fun _ _ => 0) (j + 1)))) := by
        have hq := (setK (setK (setK HR1.out j (c := 0) (by omega) (F j 0)) j (c := 1) (by omega) (F j 1)) j (c := 2) (by omega) (F j 2))
        rw [Nat.add_zero] at hq
        refine hq.congr (fun t ht => ?_)
        have ht2 : t % 3 < 3 := Nat.mod_lt _ (by omega)
        unfold kc updF upK
        by_cases e : t / 3 = j
        · simp only [e, true_and, Nat.lt_succ_self, if_true]
          rcases (show t % 3 = 0 ∨ t % 3 = 1 ∨ t % 3 = 2 by omega) with e2 | e2 | e2 <;> simp [e2]
        · have e3 : (t / 3 < j + 1) = (t / 3 < j) := by simp; omega
          simp [e, e3]
      have HBF : Hid (Blw w (((w1.setCell ⟨w.heap.size, j * 3, none⟩ (.int .i64 (F j 0))).setCell ⟨w.heap.size, j * 3 + 1, none⟩ (.int .i64 (F j 1))).setCell ⟨w.heap.size, j * 3 + 2, none⟩ (.int .i64 (F j 2)))) := (((HB1.out.setCell (Nat.le_refl _) _).setCell (Nat.le_refl _) _).setCell (Nat.le_refl _) _)
      clear HR1 HB1
      go_wp2
      go_roundw
      case rel => exact ⟨j + 1, by omega, by go_num, HS.out, HBF.out⟩
      case measure => simp [intOf]; omega
    · go_wp2
      go_ret
      obtain rfl : j = n := by omega
      refine ⟨rfl, HR.out.congr fun i hi => ?_, HB.out⟩
      have : i / 3 < j := Nat.div_lt_of_lt_mul (by rw [Nat.mul_comm]; exact hi)
      simp [kc, upK, this]
set_option maxHeartbeats 800000 in
theorem eqInsS1_same (x0 x1 x2 : Int) (w : World) : Calls Try.prog 141 #[.agg #[.int .i64 x0, .int .i64 x1, .int .i64 x2], .agg #[.int .i64 x0, .int .i64 x1, .int .i64 x2]] w fun e w' => e = .returned (.bool true) ∧ Blw w w' := by
  have h0 : (x0 != x0) = false := by simp
  have h1 : (x1 != x1) = false := by simp
  have h2 : (x2 != x2) = false := by simp
  go_enter Try.func141, Try.ntmps141
  go_wp2
  go_ret
  exact ⟨rfl, ((Blw.refl _).alloc _).alloc _⟩
set_option maxHeartbeats 1600000 in
theorem eqInsS_same (a1 a2 : Option Addr) (c1 c2 n : Nat) (F : Nat → Nat → Int) {X Y : Nat → Prop} (w : World) (h1 : KAt 3 X w a1 n F) (h2 : KAt 3 Y w a2 n F) :
    Calls Try.prog 70 #[.slice a1 n c1, .slice a2 n c2] w fun e w' => e = .returned (.bool true) ∧ Blw w w' := by
  have H1 : Hid (KAt 3 X w a1 n F) := h1
  have H2 : Hid (KAt 3 Y w a2 n F) := h2
  have hn := h1.1
  clear h1 h2
  have hne : ((n : Int) != (n : Int)) = false := by simp
  go_enter Try.func70, Try.ntmps70
  go_wp2_with fail
  go_loopw [5] (fun i wr => ∃ k : Nat, k ≤ n ∧ i = .int .i64 k ∧ Blw w wr) (fun i _ => n - (intOf i).toNat)
  case atStart => exact ⟨0, Nat.zero_le _, rfl, Blw.refl _⟩
  case round =>
    obtain ⟨k, hk, rfl, hb⟩ := hrel
    by_cases hlt : k < n
    · have hlt' : (k : Int) < n := by omega
      obtain ⟨b1, o1, rfl, -, g1⟩ := (H1.out.blw hb).2 k hlt
      obtain ⟨b2, o2, rfl, -, g2⟩ := (H2.out.blw hb).2 k hlt
      generalize hFk : F k = Fk at *
      have P0 : ∀ w', Blw wr w' → w'.cell? ⟨b1, o1 + k * 3, none⟩ = some (.int .i64 (Fk 0)) := fun w' hh => hh.cell (g1 0 (by omega))
      have Q0 : ∀ w', Blw wr w' → w'.cell? ⟨b2, o2 + k * 3, none⟩ = some (.int .i64 (Fk 0)) := fun w' hh => hh.cell (g2 0 (by omega))
      have P1 : ∀ w', Blw wr w' → w'.cell? ⟨b1, o1 + k * 3 + 1, none⟩ = some (.int .i64 (Fk 1)) := fun w' hh => hh.cell (g1 1 (by omega))
      have Q1 : ∀ w', Blw wr w' → w'.cell? ⟨b2, o2 + k * 3 + 1, none⟩ = some (.int .i64 (Fk 1)) := fun w' hh => hh.cell (g2 1 (by omega))
      have P2 : ∀ w', Blw wr w' → w'.cell? ⟨b1, o1 + k * 3 + 2, none⟩ = some (.int .i64 (Fk 2)) := fun w' hh => hh.cell (g1 2 (by omega))
      have Q2 : ∀ w', Blw wr w' → w'.cell? ⟨b2, o2 + k * 3 + 2, none⟩ = some (.int .i64 (Fk 2)) := fun w' hh => hh.cell (g2 2 (by omega))
      have HB : Hid (Blw w wr) := hb
      clear g1 g2 H1 H2 hb hFk
      go_wp2_with fail
      go_region_held3 (fun w' => Blw wr w') ((first | exact (Blw.refl _).drew | assumption | exact Blw.trans (by assumption) (by assumption))) (first
        | (go_at_call 141; refine (eqInsS1_same (Fk 0) (Fk 1) (Fk 2) _).mono ?_; rintro e w7 ⟨rfl, hb7⟩))
      all_goals go_wp2
      all_goals go_roundw
      all_goals first | exact ⟨k + 1, by omega, by go_num, HB.out.trans (by assumption)⟩ | (simp [intOf]; omega)
    · obtain rfl : k = n := by omega
      go_wp2
      go_ret
      exact ⟨rfl, hb⟩
set_option maxHeartbeats 3200000 in
theorem markInsS_any (ao : Option Addr) (c n : Nat) (F : Nat → Nat → Int) (X : Nat → Prop) (k : Int) (w : World) (h1 : 0 ≤ k) (h2 : k + 3 * n ≤ 9223372036854775807) (h : KOwn 3 X w ao n F) :
    Calls Try.prog 77 #[.slice ao n c, .int .i64 k] w fun e w' => e = .returned (.int .i64 (k + 3 * n)) ∧ KOwn 3 X w' ao n (mkK 3 k) ∧ Mod X w w' := by
  have H : Hid (KOwn 3 X w ao n F) := h
  have hn := h.1
  clear h
  go_enter Try.func77, Try.ntmps77
  go_wp2_with fail
  go_loopw [1, 5] (fun kv iv wr => ∃ i : Nat, i ≤ n ∧ iv = .int .i64 i ∧ kv = .int .i64 (k + 3 * i) ∧ KOwn 3 X wr ao n (upK (mkK 3 k) F i) ∧ Mod X w wr) (fun _ i _ => n - (intOf i).toNat)
  case atStart => exact ⟨0, Nat.zero_le _, rfl, by simp, by rw [upK_zero]; exact H.out, Mod.refl _ _⟩
  case round =>
    obtain ⟨i, hi, rfl, rfl, S, hm⟩ := hrel
    clear H
    by_cases hlt : i < n
    · have hlt' : (i : Int) < n := by omega
      obtain ⟨b, hx, rfl, r⟩ := S.2 (by omega)
      have p0 := k_get r hlt (c := 0) (by omega)
      have f0 := r.frozen (i * 3)
      have p1 := k_get r hlt (c := 1) (by omega)
      have f1 := r.frozen (i * 3 + 1)
      have p2 := k_get r hlt (c := 2) (by omega)
      have f2 := r.frozen (i * 3 + 2)
      rw [Nat.add_zero] at p0
      have HR : Hid (Row (((wr.setCell ⟨b, i * 3, none⟩ (.int .i64 (k + 3 * i))).setCell ⟨b, i * 3 + 1, none⟩ (.int .i64 (k + 3 * i + 1))).setCell ⟨b, i * 3 + 2, none⟩ (.int .i64 (k + 3 * i + 1 + 1))) b (n * 3) (kc 3 (upK (mkK 3 k) F (i + 1)))) := by
        have hq := (setK (setK (setK r i (c := 0) (by omega) (k + 3 * i)) i (c := 1) (by omega) (k + 3 * i + 1)) i (c := 2) (by omega) (k + 3 * i + 1 + 1))
        rw [Nat.add_zero] at hq
        refine hq.congr (fun t ht => ?_)
        have ht2 : t % 3 < 3 := Nat.mod_lt _ (by omega)
        unfold kc updF upK mkK
        by_cases e : t / 3 = i
        · simp only [e, true_and, Nat.lt_succ_self, if_true]
          rcases (show t % 3 = 0 ∨ t % 3 = 1 ∨ t % 3 = 2 by omega) with e2 | e2 | e2 <;> simp [e2] <;> omega
        · have e3 : (t / 3 < i + 1) = (t / 3 < i) := by simp; omega
          simp [e, e3]
      have HM : Hid (Mod X w (((wr.setCell ⟨b, i * 3, none⟩ (.int .i64 (k + 3 * i))).setCell ⟨b, i * 3 + 1, none⟩ (.int .i64 (k + 3 * i + 1))).setCell ⟨b, i * 3 + 2, none⟩ (.int .i64 (k + 3 * i + 1 + 1)))) := (((hm.trans (Mod.setCell _ (p := ⟨b, i * 3, none⟩) hx _)).trans (Mod.setCell _ (p := ⟨b, i * 3 + 1, none⟩) hx _)).trans (Mod.setCell _ (p := ⟨b, i * 3 + 2, none⟩) hx _))
      clear S hm r
      have ee : k + 3 * (i : Int) + 1 + 1 + 1 = k + 3 * ((i + 1 : Nat) : Int) := by omega
      go_wp2
      go_roundw
      case rel => exact ⟨i + 1, by omega, by go_num, by congr 1 <;> omega, ⟨hn, fun _ => ⟨b, hx, rfl, HR.out⟩⟩, HM.out⟩
      case measure => simp [intOf]; omega
    · obtain rfl : i = n := by omega
      go_wp2
      go_ret
      exact ⟨rfl, upK_all (by omega) S, hm⟩
theorem KAt.st {K : Nat} {Y : Nat → Prop} {W : World} {ao : Option Addr} {n : Nat} {F : Nat → Nat → Int} (h : KAt K Y W ao n F) (hY : ∀ b, Y b → b < W.heap.size) : St Y (fun W => KAt K Y W ao n F) W :=
  ⟨hY, fun Z w' hm hx => h.mod hm hx⟩
theorem KOwn.st {K : Nat} {Y : Nat → Prop} {W : World} {ao : Option Addr} {n : Nat} {F : Nat → Nat → Int} (h : KOwn K Y W ao n F) (hY : ∀ b, Y b → b < W.heap.size) : St Y (fun W => KOwn K Y W ao n F) W :=
  ⟨hY, fun Z w' hm hx => h.mod hm hx⟩
theorem kown3 {X : Nat → Prop} {W : World} {z n : Nat} {F : Nat → Nat → Int} (h : Row W z (n * 3) (kc 3 F)) (hn : n ≤ 9223372036854775807) (hz : X z) : KOwn 3 X W (some ⟨z, 0, none⟩) n F :=
  ⟨hn, fun _ => ⟨z, hz, rfl, h⟩⟩
theorem row_ints {X : Nat → Prop} {W : World} {z n : Nat} {f : Nat → Int} (h : Row W z n (fun t => .int .i64 (f t))) (hn : n ≤ 9223372036854775807) (hz : X z) : IntsOwn X W (some ⟨z, 0, none⟩) n f :=
  ⟨hn, fun _ => ⟨z, hz, rfl, h⟩⟩
end Go.Proofs.Ytbpdopcdhnemfaa
/- Small machines: the model's tests of programs and guests, and small tests of the program. -/
namespace Go.Proofs.Ytbpdopcdhnemfaa
open Go.RowKit
set_option linter.unusedSimpArgs false
set_option linter.unusedVariables false
set_option maxHeartbeats 400000 in
theorem l1All_yes (ao : Option Addr) (c n : Nat) (f : Nat → Int) (lo hi : Int) (Y : Nat → Prop) (w : World) (h : IntsAt Y w ao n f) (ha : ∀ i, i < n → lo ≤ f i ∧ f i ≤ hi) :
    Calls Try.prog 128 #[.slice ao n c, .int .i64 lo, .int .i64 hi] w fun e w' => e = .returned (.bool true) ∧ w' = w := by
  obtain ⟨hn, h⟩ := h
  go_enter Try.func128, Try.ntmps128
  go_wp2
  go_loop [11] (fun i => ∃ j : Nat, j ≤ n ∧ i = .int .i64 j) (fun i => n - (intOf i).toNat)
  case atStart => exact ⟨0, Nat.zero_le _, rfl⟩
  case round =>
    obtain ⟨j, hj, rfl⟩ := hrel
    by_cases hlt : j < n
    · obtain ⟨b, o, rfl, -, g1⟩ := h j hlt
      have hr := ha j hlt
      clear h ha
      go_wp2_with fail
      refine (l1In_yes _ _ _ _ hr.1 hr.2).mono ?_
      rintro e w' ⟨rfl, rfl⟩
      go_wp2
      go_round
      case rel => exact ⟨j + 1, by omega, by go_num⟩
      case measure => simp [intOf]; omega
    · go_wp2
      go_ret
      exact ⟨rfl, rfl⟩
set_option maxHeartbeats 400000 in
theorem l1All_no (ao : Option Addr) (c n : Nat) (f : Nat → Int) (lo hi : Int) (Y : Nat → Prop) (w : World) (h : IntsAt Y w ao n f) (i : Nat) (hi0 : i < n) (ha : ¬ (lo ≤ f i ∧ f i ≤ hi)) :
    Calls Try.prog 128 #[.slice ao n c, .int .i64 lo, .int .i64 hi] w fun e w' => e = .returned (.bool false) ∧ w' = w := by
  obtain ⟨hn, h⟩ := h
  have HA : Hid (¬ (lo ≤ f i ∧ f i ≤ hi)) := ha
  clear ha
  go_enter Try.func128, Try.ntmps128
  go_wp2
  go_loop [11] (fun ii => ∃ j : Nat, j ≤ i ∧ ii = .int .i64 j) (fun i => n - (intOf i).toNat)
  case atStart => exact ⟨0, Nat.zero_le _, rfl⟩
  case round =>
    obtain ⟨j, hj, rfl⟩ := hrel
    have hlt : j < n := by omega
    obtain ⟨b, o, rfl, -, g1⟩ := h j hlt
    clear h
    by_cases hr : lo ≤ f j ∧ f j ≤ hi
    · have hne : j ≠ i := fun e => HA.out (e ▸ hr)
      obtain ⟨hr1, hr2⟩ := hr
      go_wp2_with fail
      refine (l1In_yes _ _ _ _ hr1 hr2).mono ?_
      rintro e w' ⟨rfl, rfl⟩
      go_wp2
      go_round
      case rel => exact ⟨j + 1, by omega, by go_num⟩
      case measure => simp [intOf]; omega
    · have HR : Hid (¬ (lo ≤ f j ∧ f j ≤ hi)) := hr
      clear hr
      go_wp2_with fail
      refine (l1In_no _ _ _ _ HR.out).mono ?_
      rintro e w' ⟨rfl, rfl⟩
      go_wp2
      go_ret
      exact ⟨rfl, rfl⟩
set_option maxHeartbeats 400000 in
theorem l1Same_yes (a1 a2 : Option Addr) (c1 c2 n0 : Nat) (f g : Nat → Int) {Y Z : Nat → Prop} (w : World) (h1 : IntsAt Y w a1 n0 f) (h2 : IntsAt Z w a2 n0 g) (he : ∀ i, i < n0 → f i = g i) :
    Calls Try.prog 178 #[.slice a1 n0 c1, .slice a2 n0 c2] w fun e w' => e = .returned (.bool true) ∧ ∃ n, w' = w.drewN n := by
  replace h2 := h2.congr (fun i hi => (he i hi).symm)
  clear he
  obtain ⟨hl, h1⟩ := h1
  obtain ⟨-, h2⟩ := h2
  go_enter Try.func178, Try.ntmps178
  go_wp2
  go_loopw [13] (fun i wr => ∃ k n : Nat, k ≤ n0 ∧ i = .int .i64 k ∧ wr = w.drewN n) (fun i _ => n0 - (intOf i).toNat)
  case atStart => exact ⟨0, 0, Nat.zero_le _, rfl, rfl⟩
  case round =>
    obtain ⟨k, n, hk, rfl, rfl⟩ := hrel
    by_cases hlt : k < n0
    · obtain ⟨b, o, rfl, -, g1⟩ := h1 k hlt
      obtain ⟨b', o', rfl, -, g2⟩ := h2 k hlt
      clear h1 h2
      go_wp2
      go_quiet (fail)
      go_wp2
      go_roundw
      case rel => exact ⟨k + 1, _, by omega, by go_num, rfl⟩
      case measure => simp [intOf]; omega
    · go_wp2
      go_ret
      exact ⟨rfl, n, rfl⟩
set_option maxHeartbeats 400000 in
theorem l1Same_no (a1 a2 : Option Addr) (c1 c2 n0 : Nat) (f g : Nat → Int) {Y Z : Nat → Prop} (w : World) (h1 : IntsAt Y w a1 n0 f) (h2 : IntsAt Z w a2 n0 g) (i : Nat) (hi : i < n0) (he : ¬ f i = g i) :
    Calls Try.prog 178 #[.slice a1 n0 c1, .slice a2 n0 c2] w fun e w' => e = .returned (.bool false) ∧ ∃ n, w' = w.drewN n := by
  obtain ⟨hl, h1⟩ := h1
  obtain ⟨-, h2⟩ := h2
  have HE : Hid (¬ f i = g i) := he
  clear he
  go_enter Try.func178, Try.ntmps178
  go_wp2
  go_loopw [13] (fun ii wr => ∃ k n : Nat, k ≤ i ∧ ii = .int .i64 k ∧ wr = w.drewN n) (fun i _ => n0 - (intOf i).toNat)
  case atStart => exact ⟨0, 0, Nat.zero_le _, rfl, rfl⟩
  case round =>
    obtain ⟨k, n, hk, rfl, rfl⟩ := hrel
    have hlt : k < n0 := by omega
    obtain ⟨b, o, rfl, -, g1⟩ := h1 k hlt
    obtain ⟨b', o', rfl, -, g2⟩ := h2 k hlt
    clear h1 h2
    by_cases hf : f k = g k
    · have hne : k ≠ i := fun e => HE.out (e ▸ hf)
      rw [← hf] at g2
      clear hf
      go_wp2
      go_quiet (fail)
      go_wp2
      go_roundw
      case rel => exact ⟨k + 1, _, by omega, by go_num, rfl⟩
      case measure => simp [intOf]; omega
    · have hb : (f k != g k) = true := by simpa using hf
      clear hf
      go_wp2
      go_quiet (fail)
      go_wp2
      go_ret
      exact ⟨rfl, _, by simp only [World.drewN_drewN]; rfl⟩

theorem l1All_any (ao : Option Addr) (c n : Nat) (f : Nat → Int) (lo hi : Int) (Y : Nat → Prop) (w : World) (h : IntsAt Y w ao n f) :
    Calls Try.prog 128 #[.slice ao n c, .int .i64 lo, .int .i64 hi] w fun e w' => ∃ r, e = .returned (.bool r) ∧ (r = true ↔ ∀ i, i < n → lo ≤ f i ∧ f i ≤ hi) ∧ w' = w := by
  by_cases ha : ∀ i, i < n → lo ≤ f i ∧ f i ≤ hi
  · exact (l1All_yes ao c n f lo hi Y w h ha).mono fun e w' ⟨h1, h2⟩ => ⟨true, h1, ⟨fun _ => ha, fun _ => rfl⟩, h2⟩
  · obtain ⟨i, hi0, hn⟩ : ∃ i, i < n ∧ ¬ (lo ≤ f i ∧ f i ≤ hi) := Classical.byContradiction fun hx => ha fun i hi0 => Classical.byContradiction fun hy => hx ⟨i, hi0, hy⟩
    exact (l1All_no ao c n f lo hi Y w h i hi0 hn).mono fun e w' ⟨h1, h2⟩ => ⟨false, h1, iff_f ha, h2⟩
set_option maxHeartbeats 400000 in
theorem l9Word_any (n : Int) (w : World) : Calls Try.prog 127 #[.int .i64 n] w fun e w' => ∃ r, e = .returned (.bool r) ∧ (r = true ↔ wordOK n) ∧ w' = w := by
  go_enter Try.func127, Try.ntmps127
  go_wp2_with fail
  refine (l1In_any n 0 65535 _).mono ?_
  rintro e w' ⟨r, rfl, hr, rfl⟩
  have HR : Hid (r = true ↔ wordOK n) := hr
  clear hr
  go_wp2
  go_ret
  exact ⟨r, rfl, HR.out, rfl⟩
set_option maxHeartbeats 400000 in
theorem isWord_any (n : Int) (w : World) : Calls Try.prog 176 #[.int .i64 n] w fun e w' => ∃ r, e = .returned (.bool r) ∧ (r = true ↔ wordOK n) ∧ w' = w := by
  by_cases h1 : 0 ≤ n
  · by_cases h2 : n ≤ 65535
    · have H : Hid (wordOK n) := ⟨h1, by omega⟩
      have d1 : decide (n ≥ 0) = true := by simpa using h1
      have d2 : decide (n ≤ 65535) = true := by simp; omega
      clear h1 h2
      go_enter Try.func176, Try.ntmps176
      go_wp2
      go_ret
      exact ⟨true, rfl, iff_t H.out, rfl⟩
    · have H : Hid (¬ (wordOK n)) := fun g => h2 (by have := g.2; omega)
      have d1 : decide (n ≥ 0) = true := by simpa using h1
      have d2 : decide (n ≤ 65535) = false := by simp; omega
      clear h1 h2
      go_enter Try.func176, Try.ntmps176
      go_wp2
      go_ret
      exact ⟨false, rfl, iff_f H.out, rfl⟩
  · have H : Hid (¬ (wordOK n)) := fun g => h1 g.1
    have d1 : decide (n ≥ 0) = false := by simp; omega
    clear h1
    go_enter Try.func176, Try.ntmps176
    go_wp2
    go_ret
    exact ⟨false, rfl, iff_f H.out, rfl⟩
def roomOK (n : Int) : Prop := 0 ≤ n ∧ n ≤ 7
def stepsOK (n : Int) : Prop := 0 ≤ n ∧ n ≤ 60
set_option maxHeartbeats 400000 in
theorem isInRoom_any (n : Int) (w : World) : Calls Try.prog 196 #[.int .i64 n] w fun e w' => ∃ r, e = .returned (.bool r) ∧ (r = true ↔ roomOK n) ∧ w' = w := by
  by_cases h1 : 0 ≤ n
  · by_cases h2 : n < 8
    · have H : Hid (roomOK n) := ⟨h1, by omega⟩
      have d1 : decide (n ≥ 0) = true := by simpa using h1
      have d2 : decide (n < 8) = true := by simp; omega
      clear h1 h2
      go_enter Try.func196, Try.ntmps196
      go_wp2
      go_ret
      exact ⟨true, rfl, iff_t H.out, rfl⟩
    · have H : Hid (¬ (roomOK n)) := fun g => h2 (by have := g.2; omega)
      have d1 : decide (n ≥ 0) = true := by simpa using h1
      have d2 : decide (n < 8) = false := by simp; omega
      clear h1 h2
      go_enter Try.func196, Try.ntmps196
      go_wp2
      go_ret
      exact ⟨false, rfl, iff_f H.out, rfl⟩
  · have H : Hid (¬ (roomOK n)) := fun g => h1 g.1
    have d1 : decide (n ≥ 0) = false := by simp; omega
    clear h1
    go_enter Try.func196, Try.ntmps196
    go_wp2
    go_ret
    exact ⟨false, rfl, iff_f H.out, rfl⟩
set_option maxHeartbeats 400000 in
theorem isSteps_any (n : Int) (w : World) : Calls Try.prog 173 #[.int .i64 n] w fun e w' => ∃ r, e = .returned (.bool r) ∧ (r = true ↔ stepsOK n) ∧ w' = w := by
  by_cases h1 : 0 ≤ n
  · by_cases h2 : n ≤ 60
    · have H : Hid (stepsOK n) := ⟨h1, by omega⟩
      have d1 : decide (n ≥ 0) = true := by simpa using h1
      have d2 : decide (n ≤ 60) = true := by simp; omega
      clear h1 h2
      go_enter Try.func173, Try.ntmps173
      go_wp2
      go_ret
      exact ⟨true, rfl, iff_t H.out, rfl⟩
    · have H : Hid (¬ (stepsOK n)) := fun g => h2 (by have := g.2; omega)
      have d1 : decide (n ≥ 0) = true := by simpa using h1
      have d2 : decide (n ≤ 60) = false := by simp; omega
      clear h1 h2
      go_enter Try.func173, Try.ntmps173
      go_wp2
      go_ret
      exact ⟨false, rfl, iff_f H.out, rfl⟩
  · have H : Hid (¬ (stepsOK n)) := fun g => h1 g.1
    have d1 : decide (n ≥ 0) = false := by simp; omega
    clear h1
    go_enter Try.func173, Try.ntmps173
    go_wp2
    go_ret
    exact ⟨false, rfl, iff_f H.out, rfl⟩
set_option maxHeartbeats 800000 in
theorem areWords_any (ao : Option Addr) (c n : Nat) (f : Nat → Int) (Y : Nat → Prop) (w : World) (h : IntsAt Y w ao n f) :
    Calls Try.prog 177 #[.slice ao n c] w fun e w' => ∃ r, e = .returned (.bool r) ∧ (r = true ↔ ∀ i, i < n → wordOK (f i)) ∧ w' = w := by
  obtain ⟨hn, h⟩ := h
  have HH : Hid (∀ i, i < n → ∃ b o, ao = some ⟨b, o, none⟩ ∧ Y b ∧ w.cell? ⟨b, o + i, none⟩ = some (.int .i64 (f i))) := h
  clear h
  go_enter Try.func177, Try.ntmps177
  go_wp2
  go_loopw [7] (fun i wr => ∃ k : Nat, k ≤ n ∧ i = .int .i64 k ∧ (∀ t, t < k → wordOK (f t)) ∧ wr = w) (fun i _ => n - (intOf i).toNat)
  case atStart => exact ⟨0, Nat.zero_le _, rfl, fun t ht => absurd ht (Nat.not_lt_zero _), rfl⟩
  case round =>
    obtain ⟨k, hk, rfl, hok, rfl⟩ := hrel
    have HO : Hid (∀ t, t < k → wordOK (f t)) := hok
    clear hok
    by_cases hlt : k < n
    · obtain ⟨b, o, rfl, -, g1⟩ := HH.out k hlt
      have hlt' : (k : Int) < n := by omega
      go_wp2_with fail
      refine (isWord_any (f k) _).mono ?_
      rintro e w2 ⟨r, rfl, hr, rfl⟩
      have HR : Hid (r = true ↔ wordOK (f k)) := hr
      clear hr
      cases r
      · have H : Hid (¬ ∀ i, i < n → wordOK (f i)) := fun g => by have := HR.out.2 (g k hlt); cases this
        go_wp2
        go_ret
        exact ⟨false, rfl, iff_f H.out, rfl⟩
      · have HN : Hid (∀ t, t < k + 1 → wordOK (f t)) := fun t ht => by
          by_cases e : t = k
          · subst e; exact HR.out.1 (by first | rfl | trivial)
          · exact HO.out t (by omega)
        clear HO HR
        go_wp2
        go_roundw
        case rel => exact ⟨k + 1, by omega, by go_num, HN.out, by first | rfl | trivial⟩
        case measure => simp [intOf]; omega
    · obtain rfl : k = n := by omega
      go_wp2
      go_ret
      exact ⟨true, rfl, iff_t HO.out, rfl⟩
set_option maxHeartbeats 800000 in
theorem l9Ins_any (k a x : Int) (w : World) : Calls Try.prog 130 #[.agg #[.int .i64 k, .int .i64 a, .int .i64 x]] w fun e w' => ∃ r, e = .returned (.bool r) ∧ (r = true ↔ insOK k a x) ∧ Blw w w' := by
  have hb0 : Blw w (w.alloc (.cells #[.int .i64 k, .int .i64 a, .int .i64 x] 170)) := (Blw.refl _).alloc _
  have ex : ∀ j : Int, k = j → (k == j) = true := fun j h => by simp [h]
  have ne : ∀ j : Int, ¬ k = j → (k == j) = false := fun j h => by simp [h]
  by_cases k12 : k = 1 ∨ k = 2
  · have IFF : Hid (insOK k a x ↔ a = 0 ∧ wordOK x) := ⟨fun g => by rcases g with q | q | q | q <;> first | exact ⟨q.2.1, q.2.2⟩ | (exfalso; omega), fun g => Or.inl ⟨k12, g.1, g.2⟩⟩
    by_cases ha : a = 0
    · have da : (a == 0) = true := by simp [ha]
      have HA : Hid (a = 0) := ha
      clear ha
      rcases k12 with e | e
      all_goals
        subst e
        clear ex ne
        go_enter Try.func130, Try.ntmps130
        go_wp2_with fail
        refine (l9Word_any x _).mono ?_
        rintro e w' ⟨r, rfl, hr, rfl⟩
        have HR : Hid (r = true ↔ wordOK x) := hr
        clear hr da
        cases r
        · go_wp2
          go_ret
          exact ⟨false, rfl, iff_f (fun g => by have := HR.out.2 (IFF.out.1 g).2; cases this), hb0⟩
        · go_wp2
          go_ret
          exact ⟨true, rfl, iff_t (IFF.out.2 ⟨HA.out, HR.out.1 (by first | rfl | trivial)⟩), hb0⟩
    · have da : (a == 0) = false := by simp [ha]
      have HA : Hid (¬ a = 0) := ha
      clear ha
      rcases k12 with e | e
      all_goals
        subst e
        clear ex ne
        go_enter Try.func130, Try.ntmps130
        go_wp2
        go_ret
        exact ⟨false, rfl, iff_f (fun g => HA.out (IFF.out.1 g).1), hb0⟩
  have n1 : (k == 1) = false := ne 1 (fun e => k12 (Or.inl e))
  have n2 : (k == 2) = false := ne 2 (fun e => k12 (Or.inr e))
  by_cases k34 : k = 3 ∨ k = 4
  · have IFF : Hid (insOK k a x ↔ (0 ≤ a ∧ a ≤ 7) ∧ x = 0) := ⟨fun g => by rcases g with q | q | q | q <;> first | exact ⟨q.2.1, q.2.2⟩ | (exfalso; omega), fun g => Or.inr (Or.inl ⟨k34, g.1, g.2⟩)⟩
    clear k12 n1 n2
    rcases k34 with e | e
    all_goals
      subst e
      clear ex ne
      go_enter Try.func130, Try.ntmps130
      go_wp2_with fail
      refine (l1In_any a 0 7 _).mono ?_
      rintro e w' ⟨r, rfl, hr, rfl⟩
      have HR : Hid (r = true ↔ 0 ≤ a ∧ a ≤ 7) := hr
      clear hr
      cases r
      · go_wp2
        go_ret
        exact ⟨false, rfl, iff_f (fun g => by have := HR.out.2 (IFF.out.1 g).1; cases this), hb0⟩
      by_cases hx : x = 0
      · have dx : (x == 0) = true := by simp [hx]
        have HX : Hid (x = 0) := hx
        clear hx
        go_wp2
        go_ret
        exact ⟨true, rfl, iff_t (IFF.out.2 ⟨HR.out.1 (by first | rfl | trivial), HX.out⟩), hb0⟩
      · have dx : (x == 0) = false := by simp [hx]
        have HX : Hid (¬ x = 0) := hx
        clear hx
        go_wp2
        go_ret
        exact ⟨false, rfl, iff_f (fun g => HX.out (IFF.out.1 g).2), hb0⟩
  have n3 : (k == 3) = false := ne 3 (fun e => k34 (Or.inl e))
  have n4 : (k == 4) = false := ne 4 (fun e => k34 (Or.inr e))
  by_cases k5 : k = 5
  · have IFF : Hid (insOK k a x ↔ a = 0 ∧ 0 ≤ x ∧ x ≤ 15) := ⟨fun g => by rcases g with q | q | q | q <;> first | exact ⟨q.2.1, q.2.2⟩ | (exfalso; omega), fun g => Or.inr (Or.inr (Or.inl ⟨k5, g.1, g.2⟩))⟩
    clear k12 n1 n2 k34 n3 n4
    subst k5
    clear ex ne
    by_cases ha : a = 0
    · have da : (a == 0) = true := by simp [ha]
      have HA : Hid (a = 0) := ha
      clear ha
      go_enter Try.func130, Try.ntmps130
      go_wp2_with fail
      refine (l1In_any x 0 15 _).mono ?_
      rintro e w' ⟨r, rfl, hr, rfl⟩
      have HR : Hid (r = true ↔ 0 ≤ x ∧ x ≤ 15) := hr
      clear hr da
      cases r
      · go_wp2
        go_ret
        exact ⟨false, rfl, iff_f (fun g => by have := HR.out.2 (IFF.out.1 g).2; cases this), hb0⟩
      · go_wp2
        go_ret
        exact ⟨true, rfl, iff_t (IFF.out.2 ⟨HA.out, HR.out.1 (by first | rfl | trivial)⟩), hb0⟩
    · have da : (a == 0) = false := by simp [ha]
      have HA : Hid (¬ a = 0) := ha
      clear ha
      go_enter Try.func130, Try.ntmps130
      go_wp2
      go_ret
      exact ⟨false, rfl, iff_f (fun g => HA.out (IFF.out.1 g).1), hb0⟩
  have n5 : (k == 5) = false := ne 5 k5
  by_cases k67 : k = 6 ∨ k = 7
  · have IFF : Hid (insOK k a x ↔ a = 0 ∧ x = 0) := ⟨fun g => by rcases g with q | q | q | q <;> first | exact ⟨q.2.1, q.2.2⟩ | (exfalso; omega), fun g => Or.inr (Or.inr (Or.inr ⟨k67, g.1, g.2⟩))⟩
    clear k12 n1 n2 k34 n3 n4 k5 n5
    by_cases ha : a = 0
    · have da : (a == 0) = true := by simp [ha]
      have HA : Hid (a = 0) := ha
      clear ha
      by_cases hx : x = 0
      · have dx : (x == 0) = true := by simp [hx]
        have HX : Hid (x = 0) := hx
        clear hx
        rcases k67 with e | e
        all_goals
          subst e
          clear ex ne
          go_enter Try.func130, Try.ntmps130
          go_wp2
          go_ret
          exact ⟨true, rfl, iff_t (IFF.out.2 ⟨HA.out, HX.out⟩), hb0⟩
      · have dx : (x == 0) = false := by simp [hx]
        have HX : Hid (¬ x = 0) := hx
        clear hx
        rcases k67 with e | e
        all_goals
          subst e
          clear ex ne
          go_enter Try.func130, Try.ntmps130
          go_wp2
          go_ret
          exact ⟨false, rfl, iff_f (fun g => HX.out (IFF.out.1 g).2), hb0⟩
    · have da : (a == 0) = false := by simp [ha]
      have HA : Hid (¬ a = 0) := ha
      clear ha
      rcases k67 with e | e
      all_goals
        subst e
        clear ex ne
        go_enter Try.func130, Try.ntmps130
        go_wp2
        go_ret
        exact ⟨false, rfl, iff_f (fun g => HA.out (IFF.out.1 g).1), hb0⟩
  · have n6 : (k == 6) = false := ne 6 (fun e => k67 (Or.inl e))
    have n7 : (k == 7) = false := ne 7 (fun e => k67 (Or.inr e))
    have H : Hid (¬ insOK k a x) := fun g => by rcases g with q | q | q | q <;> omega
    clear ex ne k12 k34 k5 k67
    go_enter Try.func130, Try.ntmps130
    go_wp2
    go_ret
    exact ⟨false, rfl, iff_f H.out, hb0⟩
set_option maxHeartbeats 1600000 in
theorem specGoodP_any (ao : Option Addr) (c n : Nat) (F : Nat → Nat → Int) (Y : Nat → Prop) (w : World) (h : KAt 3 Y w ao n F) :
    Calls Try.prog 54 #[.slice ao n c] w fun e w' => ∃ r, e = .returned (.bool r) ∧ (r = true ↔ progOK n F) ∧ Blw w w' := by
  have H : Hid (KAt 3 Y w ao n F) := h
  have hn := h.1
  clear h
  go_enter Try.func54, Try.ntmps54
  go_wp2
  go_loopw [7] (fun i wr => ∃ j : Nat, j ≤ n ∧ i = .int .i64 j ∧ (∀ t, t < j → insOK (F t 0) (F t 1) (F t 2)) ∧ Blw w wr) (fun i _ => n - (intOf i).toNat)
  case atStart => exact ⟨0, Nat.zero_le _, rfl, fun t ht => absurd ht (Nat.not_lt_zero _), Blw.refl _⟩
  case round =>
    obtain ⟨j, hj, rfl, hok, hb⟩ := hrel
    have HO : Hid (∀ t, t < j → insOK (F t 0) (F t 1) (F t 2)) := hok
    have HB : Hid (Blw w wr) := hb
    clear hok hb
    by_cases hlt : j < n
    · obtain ⟨b, o, rfl, -, g⟩ := (H.out.blw HB.out).2 j hlt
      have g0 := g 0 (by omega)
      have g1 := g 1 (by omega)
      have g2 := g 2 (by omega)
      have hlt' : (j : Int) < n := by omega
      have hA : Blw wr (wr.alloc (.cells #[.int .i64 (F j 0), .int .i64 (F j 1), .int .i64 (F j 2)] 170)) := (Blw.refl _).alloc _
      replace HB : Hid (Blw w (wr.alloc (.cells #[.int .i64 (F j 0), .int .i64 (F j 1), .int .i64 (F j 2)] 170))) := HB.out.trans hA
      clear g hA
      rw [Nat.add_zero] at g0
      go_wp2_with fail
      refine (l9Ins_any (F j 0) (F j 1) (F j 2) _).mono ?_
      rintro e w1 ⟨r, rfl, hr, hb1⟩
      have HR : Hid (r = true ↔ insOK (F j 0) (F j 1) (F j 2)) := hr
      replace HB : Hid (Blw w w1) := HB.out.trans hb1
      clear hr hb1 g0 g1 g2
      cases r
      · have BAD : Hid (¬ progOK n F) := fun g => by have := HR.out.2 (g.i j hlt); cases this
        go_wp2
        go_ret
        exact ⟨false, rfl, iff_f BAD.out, HB.out⟩
      · have HN : Hid (∀ t, t < j + 1 → insOK (F t 0) (F t 1) (F t 2)) := fun t ht => by
          by_cases e : t = j
          · subst e; exact HR.out.1 (by first | rfl | trivial)
          · exact HO.out t (by omega)
        clear HO HR
        go_wp2
        go_roundw
        case rel => exact ⟨j + 1, by omega, by go_num, HN.out, HB.out⟩
        case measure => simp [intOf]; omega
    · obtain rfl : j = n := by omega
      go_wp2_with fail
      refine (l1In_any (j : Int) 1 16 _).mono ?_
      rintro e w1 ⟨r, rfl, hr, rfl⟩
      have HR : Hid (r = true ↔ progOK j F) := ⟨fun e => ⟨by have := hr.1 e; omega, by have := hr.1 e; omega, HO.out⟩, fun g => hr.2 ⟨by have := g.n1; omega, by have := g.n2; omega⟩⟩
      clear hr
      go_wp2
      go_ret
      exact ⟨r, rfl, HR.out, HB.out⟩
set_option maxHeartbeats 3200000 in
theorem specGoodG_any (v : GV) (D : GD) (Y : Nat → Prop) (w : World) (h : GAt Y w v D) :
    Calls Try.prog 52 #[v.val D] w fun e w' => ∃ r, e = .returned (.bool r) ∧ (r = true ↔ D.Good) ∧ Blw w w' := by
  have HR5 : Hid (Row (w.alloc (.cells #[.int .i64 D.at_, .int .i64 D.acc, .slice v.a1 D.nc v.c1, .slice v.a2 D.nt v.c2, .bool D.d] 61)) w.heap.size 5 (gb v D)) := row5 w _ _ _ _ _ 61
  have HB : Hid (Blw w (w.alloc (.cells #[.int .i64 D.at_, .int .i64 D.acc, .slice v.a1 D.nc v.c1, .slice v.a2 D.nt v.c2, .bool D.d] 61))) := (Blw.refl _).alloc _
  have HA : Hid (GAt Y (w.alloc (.cells #[.int .i64 D.at_, .int .i64 D.acc, .slice v.a1 D.nc v.c1, .slice v.a2 D.nt v.c2, .bool D.d] 61)) v D) := h.blw HB.out
  have hn1 := h.c.1
  have hn2 := h.t.1
  clear h
  go_enter Try.func52, Try.ntmps52
  obtain ⟨p0, p1, p2, p3, p4⟩ := get5 HR5.out
  go_wp2_with fail
  generalize (w.alloc (.cells #[.int .i64 D.at_, .int .i64 D.acc, .slice v.a1 D.nc v.c1, .slice v.a2 D.nt v.c2, .bool D.d] 61)) = w0 at *
  refine (l1In_any D.at_ 0 16 _).mono ?_
  rintro e w1 ⟨r, rfl, hr, rfl⟩
  have H1 : Hid (r = true ↔ 0 ≤ D.at_ ∧ D.at_ ≤ 16) := hr
  clear hr
  cases r
  · go_wp2
    go_ret
    exact ⟨false, rfl, iff_f (fun g => by have := H1.out.2 ⟨g.a0, g.a1⟩; cases this), HB.out⟩
  have G1 : Hid (0 ≤ D.at_ ∧ D.at_ ≤ 16) := H1.out.1 (by first | rfl | trivial)
  clear H1
  go_wp2_with fail
  refine (l9Word_any D.acc _).mono ?_
  rintro e w1 ⟨r, rfl, hr, rfl⟩
  have H1 : Hid (r = true ↔ wordOK D.acc) := hr
  clear hr
  cases r
  · go_wp2
    go_ret
    exact ⟨false, rfl, iff_f (fun g => by have := H1.out.2 g.acc; cases this), HB.out⟩
  have G2 : Hid (wordOK D.acc) := H1.out.1 (by first | rfl | trivial)
  clear H1
  by_cases h3 : D.nc = 8
  case neg =>
    have d3 : ((D.nc : Int) == 8) = false := by simp; omega
    have H : Hid (¬ D.Good) := fun g => h3 g.nc
    clear h3
    go_wp2
    go_ret
    exact ⟨false, rfl, iff_f H.out, HB.out⟩
  have d3 : ((D.nc : Int) == 8) = true := by simp [h3]
  have G3 : Hid (D.nc = 8) := h3
  clear h3
  go_wp2_with fail
  clear d3
  refine (l1All_any _ _ D.nc D.c 0 65535 Y _ HA.out.c).mono ?_
  rintro e w1 ⟨r, rfl, hr, rfl⟩
  have H1 : Hid (r = true ↔ ∀ i, i < D.nc → wordOK (D.c i)) := hr
  clear hr
  cases r
  · go_wp2
    go_ret
    exact ⟨false, rfl, iff_f (fun g => by have := H1.out.2 g.c; cases this), HB.out⟩
  have G4 : Hid (∀ i, i < D.nc → wordOK (D.c i)) := H1.out.1 (by first | rfl | trivial)
  clear H1
  by_cases h5 : D.nt ≤ 20
  case neg =>
    have d5 : decide ((D.nt : Int) ≤ 20) = false := by simp; omega
    have H : Hid (¬ D.Good) := fun g => h5 g.nt
    clear h5
    go_wp2
    go_ret
    exact ⟨false, rfl, iff_f H.out, HB.out⟩
  have d5 : decide ((D.nt : Int) ≤ 20) = true := by simp; omega
  have G5 : Hid (D.nt ≤ 20) := h5
  clear h5
  go_wp2_with fail
  clear d5 p0 p1 p2 p3 p4
  refine (l1All_any _ _ D.nt D.t 0 65535 Y _ HA.out.t).mono ?_
  rintro e w1 ⟨r, rfl, hr, rfl⟩
  have H1 : Hid (r = true ↔ D.Good) := ⟨fun e => ⟨G1.out.1, G1.out.2, G2.out, G3.out, G4.out, G5.out, hr.1 e⟩, fun g => hr.2 g.t⟩
  clear hr
  go_wp2
  go_ret
  exact ⟨r, rfl, H1.out, HB.out⟩
end Go.Proofs.Ytbpdopcdhnemfaa
/- What comes in, opened: numbers, bytes, pairs, books. -/
namespace Go.Proofs.Ytbpdopcdhnemfaa
open Go.ChangeShapes Go.WideShapes Go.ChangeAt Go.RowKit Go.Joins Go.Deep
theorem cells3 : Try.prog.cellsOf 3 = 1 := by kernel_rfl
theorem cells5 : Try.prog.cellsOf 5 = 1 := by kernel_rfl
/-- The slice at 'ao' reads as the n bytes f. -/
def BytesAt (Y : Nat → Prop) (w : World) (ao : Option Addr) (n : Nat) (f : Nat → Int) : Prop :=
  n ≤ 9223372036854775807 ∧ ∀ i, i < n → ∃ b o, ao = some ⟨b, o, none⟩ ∧ Y b ∧ w.cell? ⟨b, o + i, none⟩ = some (.int .u8 (f i)) ∧ 0 ≤ f i ∧ f i ≤ 255
theorem BytesAt.blw {Y : Nat → Prop} {w w' : World} {ao : Option Addr} {n : Nat} {f : Nat → Int} (h : BytesAt Y w ao n f) (hb : Blw w w') : BytesAt Y w' ao n f := by
  refine ⟨h.1, fun i hi => ?_⟩
  obtain ⟨b, o, h1, hY, h2, h3⟩ := h.2 i hi
  exact ⟨b, o, h1, hY, hb.cell h2, h3⟩
theorem BytesAt.mod {X Y : Nat → Prop} {w w' : World} {ao : Option Addr} {n : Nat} {f : Nat → Int} (h : BytesAt Y w ao n f) (hb : Mod X w w') (hxy : ∀ k, Y k → ¬ X k) : BytesAt Y w' ao n f := by
  refine ⟨h.1, fun i hi => ?_⟩
  obtain ⟨b, o, h1, hY, h2, h3⟩ := h.2 i hi
  exact ⟨b, o, h1, hY, hb.cell h2 (hxy _ hY), h3⟩
section
variable {H : Type} {enc : TypeId × Value → H} {w : World} {base : Nat} {spare : Nat → Bool} {held : Bool}
theorem addr_of_cell {w : World} {a : Addr} {v : Value} (h : w.cell? a = some v) : a = ⟨a.block, a.off, none⟩ := by
  obtain ⟨b, o, s⟩ := a
  cases s with
  | none => rfl
  | some x =>
    unfold World.cell? at h
    split at h
    · simp at h
    · cases h
theorem open_intsAt {fuel : Nat} {v : Value} {x : DataW H × List MemPlace} (h : DataW.trod enc Try.prog w base spare held fuel 26 [v] = some x) :
    ∃ ao n c f, v = .slice ao n c ∧ IntsAt (fun b => b < w.heap.size) w ao n f := by
  rcases open_ints Try.underlying26 Try.underlying3 cells3 h with ⟨hcs, _⟩ | ⟨a, len, cap, zs, hcs, _, hl, hm, hz, _, hcell, _⟩
  · simp only [List.cons.injEq, and_true] at hcs
    exact ⟨none, 0, 0, fun _ => 0, hcs, by omega, fun i hi => absurd hi (Nat.not_lt_zero _)⟩
  · simp only [List.cons.injEq, and_true] at hcs
    have hzl : len ≤ zs.length := by rw [hz]; split <;> omega
    unfold maxLen at hm
    refine ⟨some a, len, cap, fun i => zs.getD i 0, hcs, by omega, fun i hi => ?_⟩
    have ha := addr_of_cell (by simpa [Addr.add] using hcell 0 (by omega))
    have hc := hcell i (by omega)
    rw [ha, Addr.add_mid] at hc
    exact ⟨a.block, a.off, by rw [← ha], World.block_lt_of_cell? w ⟨a.block, a.off + i, none⟩ hc, hc⟩
theorem open_bytesAt {fuel : Nat} {v : Value} {x : DataW H × List MemPlace} (h : DataW.trod enc Try.prog w base spare held fuel 22 [v] = some x) :
    ∃ ao n c f, v = .slice ao n c ∧ BytesAt (fun b => b < w.heap.size) w ao n f := by
  rcases open_ints Try.underlying22 Try.underlying5 cells5 h with ⟨hcs, _⟩ | ⟨a, len, cap, zs, hcs, _, hl, hm, hz, _, hcell, hwf⟩
  · simp only [List.cons.injEq, and_true] at hcs
    exact ⟨none, 0, 0, fun _ => 0, hcs, by omega, fun i hi => absurd hi (Nat.not_lt_zero _)⟩
  · simp only [List.cons.injEq, and_true] at hcs
    have hzl : len ≤ zs.length := by rw [hz]; split <;> omega
    unfold maxLen at hm
    refine ⟨some a, len, cap, fun i => zs.getD i 0, hcs, by omega, fun i hi => ?_⟩
    have ha := addr_of_cell (by simpa [Addr.add] using hcell 0 (by omega))
    have hc := hcell i (by omega)
    rw [ha, Addr.add_mid] at hc
    have hw := hwf (zs.getD i 0) (by rw [List.getD_eq_getElem?_getD, List.getElem?_eq_getElem (show i < zs.length by omega)]; exact List.getElem_mem _)
    have hw' : ∀ n : Int, (Lit.int .u8 n).wf = true → 0 ≤ n ∧ n ≤ 255 := fun n h => by
      have h1 : (decide ((0 : Int) ≤ n) && decide (n ≤ 255)) = true := h
      simpa using h1
    refine ⟨a.block, a.off, by rw [← ha], World.block_lt_of_cell? w ⟨a.block, a.off + i, none⟩ hc, hc, ?_⟩
    exact hw' _ hw
theorem choose_lt {α : Type} [Inhabited α] {n : Nat} {p : Nat → α → Prop} (h : ∀ i, i < n → ∃ t, p i t) : ∃ T : Nat → α, ∀ i, i < n → p i (T i) :=
  ⟨fun i => if hi : i < n then Classical.choose (h i hi) else default, fun i hi => by show p i (if hi : i < n then Classical.choose (h i hi) else default); rw [dif_pos hi]; exact Classical.choose_spec (h i hi)⟩
end
end Go.Proofs.Ytbpdopcdhnemfaa
/- The cursor that draws. -/
namespace Go.Proofs.Ytbpdopcdhnemfaa
open Go.RowKit
set_option linter.unusedSimpArgs false
set_option linter.unusedVariables false
theorem box3 (w : World) (a b c : Value) (t : TypeId) : Row (w.alloc (.cells #[a, b, c] t)) w.heap.size 3 (fun i => if i = 0 then a else if i = 1 then b else c) :=
  ⟨_, t, heap_alloc_new _ _, by simp, fun i hi => by
    match i, hi with
    | 0, _ => rfl
    | 1, _ => rfl
    | 2, _ => rfl⟩
/-- The three blocks that a function over a memory lays first: its argument, its result, a local one. -/
theorem set3_0 {w : World} {B : Nat} {a b c : Value} (r : Row w B 3 (fun i => if i = 0 then a else if i = 1 then b else c)) (u : Value) : Row (w.setCell ⟨B, 0, none⟩ u) B 3 (fun i => if i = 0 then u else if i = 1 then b else c) :=
  (r.set 0 u).congr fun i _ => by by_cases e : i = 0 <;> simp [e]
theorem set3_1 {w : World} {B : Nat} {a b c : Value} (r : Row w B 3 (fun i => if i = 0 then a else if i = 1 then b else c)) (u : Value) : Row (w.setCell ⟨B, 1, none⟩ u) B 3 (fun i => if i = 0 then a else if i = 1 then u else c) :=
  (r.set 1 u).congr fun i _ => by by_cases e : i = 1 <;> simp [e]
theorem set3_2 {w : World} {B : Nat} {a b c : Value} (r : Row w B 3 (fun i => if i = 0 then a else if i = 1 then b else c)) (u : Value) : Row (w.setCell ⟨B, 2, none⟩ u) B 3 (fun i => if i = 0 then a else if i = 1 then b else u) :=
  (r.set 2 u).congr fun i hi => by
    match i, hi with
    | 0, _ => rfl
    | 1, _ => rfl
    | 2, _ => rfl
theorem get3 {w : World} {B : Nat} {a b c : Value} (r : Row w B 3 (fun i => if i = 0 then a else if i = 1 then b else c)) : w.cell? ⟨B, 0, none⟩ = some a ∧ w.cell? ⟨B, 1, none⟩ = some b ∧ w.cell? ⟨B, 2, none⟩ = some c :=
  ⟨r.cell (i := 0) (by omega), r.cell (i := 1) (by omega), r.cell (i := 2) (by omega)⟩
/-- A cursor at block C that has read at most k times, its bytes in blocks of Y. -/
def Cur (Y : Nat → Prop) (w : World) (C k : Nat) : Prop :=
  ∃ (ao : Option Addr) (n c at_ : Nat) (f : Nat → Int) (s : Int), Row w C 3 (fun i => if i = 0 then Value.slice ao n c else if i = 1 then .int .i64 at_ else .int .u64 s) ∧ BytesAt Y w ao n f ∧ at_ ≤ k ∧ (∀ b, Y b → b ≠ C)
theorem low8 (n : Int) : ∃ x : Nat, x ≤ 255 ∧ wrap64 (bits .and .u64 (IntKind.u64.wrap n / 1099511627776) 255) = x := by
  have h : IntKind.u64.wrap n = n % 18446744073709551616 := by simp [IntKind.wrap, IntKind.bits, IntKind.signed]
  rw [h, u64_and _ _ (by omega) (by omega) (by omega) (by omega)]
  have hle : (n % 18446744073709551616 / 1099511627776).toNat &&& (255 : Int).toNat ≤ 255 := Nat.and_le_right
  refine ⟨_, hle, ?_⟩
  unfold wrap64
  omega
/-- A read: the cursor goes on. -/
theorem cur_step {Y : Nat → Prop} {w : World} {C k n c at_ : Nat} {ao : Option Addr} {f : Nat → Int} {s : Int} (r : Row w C 3 (fun i => if i = 0 then Value.slice ao n c else if i = 1 then .int .i64 at_ else .int .u64 s)) (hB : BytesAt Y w ao n f) (hat : at_ ≤ k) (hY : ∀ b, Y b → b ≠ C) (a b : Nat) (s' : Int) :
    Cur Y ((((w.drewN a).setCell ⟨C, 1, none⟩ (.int .i64 ((at_ : Int) + 1))).setCell ⟨C, 2, none⟩ (.int .u64 s')).drewN b) C (k + 1) ∧ Mod (fun b => b = C) w ((((w.drewN a).setCell ⟨C, 1, none⟩ (.int .i64 ((at_ : Int) + 1))).setCell ⟨C, 2, none⟩ (.int .u64 s')).drewN b) := by
  have m1 : Mod (fun b => b = C) w (w.drewN a) := ((Blw.refl w).drewN a).mod _
  have m2 := (m1.trans (Mod.setCell (X := fun b => b = C) _ (p := ⟨C, 1, none⟩) rfl (.int .i64 ((at_ : Int) + 1)))).trans (Mod.setCell (X := fun b => b = C) _ (p := ⟨C, 2, none⟩) rfl (.int .u64 s'))
  have m3 := m2.trans (((Blw.refl _).drewN b).mod (fun b => b = C))
  refine ⟨⟨ao, n, c, at_ + 1, f, s', ?_, hB.mod m3 (fun x hx => hY x hx), by omega, hY⟩, m3⟩
  refine ((((r.blw ((Blw.refl w).drewN a)).set 1 _).set 2 _).blw ((Blw.refl _).drewN b)).congr (fun i hi => ?_)
  match i, hi with
  | 0, _ => rfl
  | 1, _ => simp
  | 2, _ => rfl
set_option maxRecDepth 10000 in
set_option maxHeartbeats 1600000 in
theorem next_any (Y : Nat → Prop) (C k : Nat) (w : World) (hk : k ≤ 1000000) (h : Cur Y w C k) :
    Calls Try.prog 143 #[.pointer (some ⟨C, 0, none⟩)] w fun e w' => ∃ x : Nat, e = .returned (.int .i64 x) ∧ x ≤ 255 ∧ Cur Y w' C (k + 1) ∧ Mod (fun b => b = C) w w' := by
  obtain ⟨ao, n, c, at_, f, s, r, hB, hat, hY⟩ := h
  have hn := hB.1
  have HB : Hid (BytesAt Y w ao n f) := hB
  obtain ⟨p0, p1, p2⟩ := get3 r
  have f0 := r.frozen 0
  have f1 := r.frozen 1
  have f2 := r.frozen 2
  have HN : Hid _ := fun a b s' => cur_step r hB hat hY a b s'
  clear hB r
  go_enter Try.func143, Try.ntmps143
  by_cases hlt : at_ < n
  · have hlt' : (at_ : Int) < n := by omega
    have d1 : decide ((at_ : Int) < n) = true := by simp; omega
    obtain ⟨b, o, rfl, -, q, x0, x1⟩ := HB.out.2 at_ hlt
    go_wp2_with fail
    go_quiet (fail)
    go_wp2_with fail
    go_quiet (fail)
    have d2 : decide ((at_ : Int) + 1 ≤ n) = true := by simp; omega
    go_wp2_with fail
    go_quiet (fail)
    go_wp2
    go_ret
    obtain ⟨x, hx⟩ := Int.eq_ofNat_of_zero_le x0
    exact ⟨x, by rw [← hx]; rfl, by omega, HN.out _ _ _⟩
  · have d1 : decide ((at_ : Int) < n) = false := by simp; omega
    have d2 : decide ((at_ : Int) + 1 ≤ n) = false := by simp; omega
    go_wp2_with fail
    go_quiet (fail)
    go_wp2_with fail
    go_quiet (fail)
    go_wp2
    go_ret
    obtain ⟨x, hx, e⟩ := low8 (IntKind.u64.wrap (IntKind.u64.wrap (s * 6364136223846793005)) + 1442695040888963407)
    exact ⟨x, by rw [← e]; rfl, hx, HN.out _ _ _⟩
theorem Cur.le {Y : Nat → Prop} {w : World} {C k k' : Nat} (h : Cur Y w C k) (hk : k ≤ k') : Cur Y w C k' := by
  obtain ⟨ao, n, c, at_, f, s, r, hB, hat, hY⟩ := h
  exact ⟨ao, n, c, at_, f, s, r, hB, by omega, hY⟩
theorem Cur.blw {Y : Nat → Prop} {w w' : World} {C k : Nat} (h : Cur Y w C k) (hb : Blw w w') : Cur Y w' C k := by
  obtain ⟨ao, n, c, at_, f, s, r, hB, hat, hY⟩ := h
  exact ⟨ao, n, c, at_, f, s, r.blw hb, hB.blw hb, hat, hY⟩
theorem Cur.mod {X Y : Nat → Prop} {w w' : World} {C k : Nat} (h : Cur Y w C k) (hb : Mod X w w') (hC : ¬ X C) (hx : ∀ b, Y b → ¬ X b) : Cur Y w' C k := by
  obtain ⟨ao, n, c, at_, f, s, r, hB, hat, hY⟩ := h
  exact ⟨ao, n, c, at_, f, s, r.mod hb hC, hB.mod hb hx, hat, hY⟩
theorem Cur.lt {Y : Nat → Prop} {w : World} {C k : Nat} (h : Cur Y w C k) : C < w.heap.size := by
  obtain ⟨ao, n, c, at_, f, s, r, _⟩ := h
  exact r.lt
set_option maxHeartbeats 1600000 in
theorem pick_any (Y : Nat → Prop) (C k : Nat) (N : Int) (w : World) (hk : k ≤ 900000) (hN : 1 < N) (h : Cur Y w C k) :
    Calls Try.prog 78 #[.pointer (some ⟨C, 0, none⟩), .int .i64 N] w fun e w' => ∃ x : Nat, e = .returned (.int .i64 x) ∧ (x : Int) < N ∧ Cur Y w' C (k + 2) ∧ Mod (fun b => b = C) w w' := by
  have d1 : decide (N ≤ 1) = false := by simp; omega
  have hN0 : ¬ N = 0 := by omega
  have hm : ∀ x : Nat, ∃ y : Nat, (x : Int).tmod N = y ∧ (y : Int) < N := fun x => by
    rw [Int.tmod_eq_emod_of_nonneg (by omega)]
    obtain ⟨y, hy⟩ := Int.eq_ofNat_of_zero_le (Int.emod_nonneg x hN0)
    exact ⟨y, hy, by rw [← hy]; exact Int.emod_lt_of_pos _ (by omega)⟩
  have HM : Hid _ := hm
  clear hm
  go_enter Try.func78, Try.ntmps78
  go_wp2_with fail
  refine (next_any Y C k _ (by omega) h).mono ?_
  rintro e w1 ⟨x, rfl, hx, c1, m1⟩
  by_cases hg : N > 200
  · have d2 : decide (N > 200) = true := by simp; omega
    go_wp2_with fail
    refine (next_any Y C (k + 1) _ (by omega) c1).mono ?_
    rintro e w2 ⟨x2, rfl, hx2, c2, m2⟩
    obtain ⟨y, e1, e2⟩ := HM.out (x * 256 + x2)
    have e1' : ((x : Int) * 256 + x2).tmod N = y := by rw [← e1]; congr 1
    clear h c1
    go_wp2
    go_ret
    exact ⟨y, rfl, e2, c2, m1.trans m2⟩
  · have d2 : decide (N > 200) = false := by simp; omega
    obtain ⟨y, e1, e2⟩ := HM.out x
    clear h
    go_wp2
    go_ret
    exact ⟨y, rfl, e2, c1.le (by omega), m1⟩
set_option maxHeartbeats 1600000 in
theorem among_any (Y Y2 : Nat → Prop) (C k : Nat) (ao : Option Addr) (n c : Nat) (f : Nat → Int) (w : World) (hk : k ≤ 900000) (hn : 1 < n) (hI : IntsAt Y2 w ao n f) (hY2 : ∀ b, Y2 b → b ≠ C) (h : Cur Y w C k) :
    Calls Try.prog 113 #[.pointer (some ⟨C, 0, none⟩), .slice ao n c] w fun e w' => ∃ x : Int, e = .returned (.int .i64 x) ∧ Cur Y w' C (k + 2) ∧ Mod (fun b => b = C) w w' := by
  have HI : Hid (IntsAt Y2 w ao n f) := hI
  clear hI
  go_enter Try.func113, Try.ntmps113
  go_wp2_with fail
  refine (pick_any Y C k n _ hk (by omega) h).mono ?_
  rintro e w1 ⟨x, rfl, hx, c1, m1⟩
  obtain ⟨b, o, rfl, -, q⟩ := (HI.out.mod m1 (fun b hb => hY2 b hb)).2 x (by omega)
  clear h
  go_wp2
  go_ret
  exact ⟨f x, rfl, c1, m1⟩
end Go.Proofs.Ytbpdopcdhnemfaa
