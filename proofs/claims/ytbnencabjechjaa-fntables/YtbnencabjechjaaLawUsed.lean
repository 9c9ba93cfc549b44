/- UsedTables: the model's, the program's, and the law. -/
import Derived.Test.YtbnencabjechjaaLawB
import Derived.Test.YtbnencabjechjaaHold
import Derived.Test.YtbnencabjechjaaGood
namespace Go.Proofs.Ytbnencabjechjaa
open Go.RowKit
set_option linter.unusedSimpArgs false
set_option linter.unusedVariables false
/-- How many of the first j tops have a list. -/
def cu (c : Nat → Int) : Nat → Nat
  | 0 => 0
  | j + 1 => cu c j + (if 0 ≤ c j then 1 else 0)
theorem cu_le (c : Nat → Int) : ∀ j, cu c j ≤ j
  | 0 => Nat.le_refl _
  | j + 1 => by have := cu_le c j; simp only [cu]; split <;> omega
theorem cu_yes {c : Nat → Int} {j : Nat} (h : 0 ≤ c j) : cu c (j + 1) = cu c j + 1 := by simp only [cu]; rw [if_pos h]
theorem cu_no {c : Nat → Int} {j : Nat} (h : ¬ 0 ≤ c j) : cu c (j + 1) = cu c j := by simp only [cu]; rw [if_neg h]; rfl
def usOut (B : BD) (n : Int) (r : Bool) : Prop := (B.Good ∧ n = (cu B.c 4 : Nat) ∧ r = true) ∨ (¬ B.Good ∧ n = 0 ∧ r = false)
theorem usOut_same {B : BD} {n n' : Int} {r r' : Bool} (h : usOut B n r) (k : usOut B n' r') : n = n' ∧ r = r' := by
  rcases h with ⟨g, rfl, rfl⟩ | ⟨g, rfl, rfl⟩
  · rcases k with ⟨_, rfl, rfl⟩ | ⟨g', _⟩
    · exact ⟨rfl, rfl⟩
    · exact absurd g g'
  · rcases k with ⟨g', _⟩ | ⟨_, rfl, rfl⟩
    · exact absurd g' g
    · exact ⟨rfl, rfl⟩
set_option maxHeartbeats 1600000 in
theorem specUsed_any (b : BV) (B : BD) (Y : Nat → Prop) (w : World) (hn : B.n ≤ 1048576) (h : BookAt Y w b B) :
    Calls Try.prog 35 #[b.val B] w fun e w' => ∃ n r, e = .returned (.tuple #[.int .i64 n, .bool r]) ∧ usOut B n r ∧ Blw w w' := by
  have hb0 : Blw w (w.alloc (.cells #[.slice b.a1 B.n b.c1, .slice b.a2 B.D.n b.c2] 26)) := (Blw.refl _).alloc _
  have r0 := box2 w (.slice b.a1 B.n b.c1) (.slice b.a2 B.D.n b.c2) 26
  have HA : Hid (BookAt Y (w.alloc (.cells #[.slice b.a1 B.n b.c1, .slice b.a2 B.D.n b.c2] 26)) b B) := h.blw hb0
  clear h
  go_enter Try.func35, Try.ntmps35
  go_wp2_with fail
  refine (specGood_any b B Y _ hn HA.out).mono ?_
  rintro e w1 ⟨r, rfl, hr, hb1⟩
  have HT : Hid (r = true ↔ B.Good) := hr
  have HB : Hid (Blw w w1) := hb0.trans hb1
  have HR0 : Hid (Row w1 w.heap.size 2 (fun i => if i = 0 then .slice b.a1 B.n b.c1 else .slice b.a2 B.D.n b.c2)) := r0.blw hb1
  replace HA : Hid (BookAt Y w1 b B) := HA.out.blw hb1
  clear hr hb0 hb1 r0
  cases r
  · have HN : Hid (¬ B.Good) := fun g => by have := HT.out.2 g; simp at this
    clear HT
    go_wp2
    exact bodyPost_ret (v := .tuple #[.int .i64 0, .bool false]) (by simp [results, Try.results35, go_sem]) rfl ⟨_, _, rfl, Or.inr ⟨HN.out, rfl, rfl⟩, HB.out⟩
  have HG : Hid (B.Good) := HT.out.1 (by first | rfl | trivial)
  clear HT
  obtain ⟨n, c, D⟩ := B
  obtain ⟨a1, a2, q1, q2⟩ := b
  have hn4 : n = 4 := HG.out.n
  subst hn4
  simp only [BV.val] at *
  obtain ⟨bb, oo, ea, -, -⟩ := HA.out.c.2 0 (by show 0 < 4; omega)
  dsimp only at ea
  subst ea
  obtain ⟨p0, p1⟩ := get2 HR0.out
  go_wp2_with fail
  clear p0 p1
  go_loopw [4, 13] (fun v i wr => ∃ j : Nat, j ≤ 4 ∧ i = .int .i64 j ∧ v = .int .i64 (cu c j : Nat) ∧ wr = w1) (fun _ i _ => 4 - (intOf i).toNat)
  case atStart => exact ⟨0, by omega, rfl, rfl, rfl⟩
  case round =>
    obtain ⟨j, hj, rfl, rfl, hw⟩ := hrel
    subst hw
    by_cases hlt : j < 4
    · have hlt' : (j : Int) < 4 := by omega
      obtain ⟨b', o', e', -, gj⟩ := HA.out.c.2 j hlt
      cases e'
      dsimp only at gj
      have hle := cu_le c j
      by_cases h0 : 0 ≤ c j
      · have d0 : decide (c j ≥ 0) = true := by simp; omega
        have HN : Hid (cu c (j + 1) = cu c j + 1) := cu_yes h0
        clear h0
        generalize cu c j = x at *
        go_wp2
        go_roundw
        case rel => exact ⟨j + 1, by omega, by go_num, (by rw [HN.out]; go_num), by first | rfl | trivial⟩
        case measure => simp [intOf]; omega
      · have d0 : decide (c j ≥ 0) = false := by simp; omega
        have HN : Hid (cu c (j + 1) = cu c j) := cu_no h0
        clear h0
        go_wp2
        go_roundw
        case rel => exact ⟨j + 1, by omega, by go_num, by rw [HN.out], by first | rfl | trivial⟩
        case measure => simp [intOf]; omega
    · obtain rfl : j = 4 := by omega
      go_wp2
      exact bodyPost_ret (v := .tuple #[.int .i64 (cu c 4 : Nat), .bool true]) (by simp [results, Try.results35, go_sem]) rfl ⟨_, _, rfl, Or.inl ⟨HG.out, rfl, rfl⟩, HB.out⟩
set_option maxHeartbeats 800000 in
theorem notNone_any (x : Int) (w : World) (hx : -1 ≤ x) : Calls Try.prog 71 #[.int .i64 x] w fun e w' => ∃ r, e = .returned (.bool r) ∧ (r = true ↔ 0 ≤ x) ∧ w' = w := by
  by_cases h : x = -1
  · have d : (x != -1) = false := by simp [h]
    have HN : Hid (¬ 0 ≤ x) := by show ¬ _; omega
    clear h hx
    go_enter Try.func71, Try.ntmps71
    go_wp2
    go_ret
    first | exact ⟨false, rfl, iff_f HN.out, rfl⟩ | exact Or.inl ⟨rfl, by have := HN.out; omega, rfl⟩
  · have d : (x != -1) = true := by simp [h]
    have HN : Hid (0 ≤ x) := by show _ ≤ _; omega
    clear h hx
    go_enter Try.func71, Try.ntmps71
    go_wp2
    go_ret
    first | exact ⟨true, rfl, iff_t HN.out, rfl⟩ | exact Or.inr ⟨rfl, HN.out, rfl⟩
set_option maxRecDepth 10000 in
set_option maxHeartbeats 1600000 in
theorem placesUsed_any (z : Nat) (c : Nat → Int) (v5 : Value) (w : World) (hc : ∀ i, i < 4 → -1 ≤ c i) (h : Row w z 5 (row5f c v5)) :
    Calls Try.prog 70 #[.slice (some ⟨z, 0, none⟩) 4 4, .func (.func 71) #[] #[]] w fun e w' => ∃ ao cap, e = .returned (.slice ao (cu c 4) cap) ∧ Blw w w' := by
  have hcell : ∀ i, i < 4 → w.cell? ⟨z, i, none⟩ = some (.int .i64 (c i)) := fun i hi => by
    have := h.cell (i := i) (by omega)
    rw [this]
    match i, hi with
    | 0, _ => rfl
    | 1, _ => rfl
    | 2, _ => rfl
    | 3, _ => rfl
  have H : Hid (∀ i, i < 4 → w.cell? ⟨z, i, none⟩ = some (.int .i64 (c i))) := hcell
  have HC : Hid (∀ i, i < 4 → -1 ≤ c i) := hc
  clear h hcell hc
  go_enter Try.func70, Try.ntmps70
  go_wp2_with fail
  go_loopw [5, 10] (fun v i wr => ∃ j : Nat, j ≤ 4 ∧ i = .int .i64 j ∧ ∃ f, Gr w wr v (cu c j) f) (fun _ i _ => 4 - (intOf i).toNat)
  case atStart => exact ⟨0, by omega, rfl, fun _ => 0, ⟨Buf.nil _ _ _ _ _, Blw.refl _⟩⟩
  case round =>
    obtain ⟨j, hj, rfl, f, hG⟩ := hrel
    have HG : Hid (Gr w wr u5 (cu c j) f) := hG
    clear hG
    by_cases hlt : j < 4
    · have hlt' : (j : Int) < 4 := by omega
      have g0 := HG.out.blw.cell (H.out j hlt)
      go_wp2_with fail
      clear g0
      refine (notNone_any (c j) _ (HC.out j hlt)).mono ?_
      rintro e wr ⟨r, rfl, hr, rfl⟩
      have HR : Hid (r = true ↔ 0 ≤ c j) := hr
      clear hr
      cases r
      · have HN : Hid (Gr w wr u5 (cu c (j + 1)) f) := by rw [cu_no (fun q => by have := HR.out.2 q; simp at this)]; exact HG.out
        clear HR HG
        go_wp2
        go_roundw
        case rel => exact ⟨j + 1, by omega, by go_num, f, HN.out⟩
        case measure => simp [intOf]; omega
      · have hle := cu_le c j
        obtain ⟨ao, cap, w2, hrun, hG2⟩ := HG.out.push (by omega) (j : Int)
        have HRN : Hid _ := hrun
        have HN : Hid (∃ f, Gr w w2 (.slice ao (cu c j + 1) cap) (cu c (j + 1)) f) := by rw [cu_yes (HR.out.1 (by first | rfl | trivial))]; exact ⟨_, hG2⟩
        clear hrun hG2 HR HG hle
        go_wp2_with (first | (at_builtin; refine wpList_app (.tmp 18) (.tmp 20) 23 (by rfl) ?_; refine ⟨_, _, HRN.out, ?_⟩) | fail)
        go_roundw
        case rel => exact ⟨j + 1, by omega, by go_num, HN.out⟩
        case measure => simp [intOf]; omega
    · obtain rfl : j = 4 := by omega
      obtain ⟨ao, cap, rfl, -⟩ := HG.out.at (by have := cu_le c 4; omega)
      have HB : Hid (Blw w wr) := HG.out.blw
      clear HG
      go_wp2
      exact bodyPost_ret (v := .slice ao (cu c 4) cap) (by simp [results, Try.results70, go_sem]) rfl ⟨ao, cap, rfl, HB.out⟩
set_option maxHeartbeats 1600000 in
theorem implUsed_any (b : BV) (B : BD) (Y : Nat → Prop) (w : World) (h : BookAt Y w b B) (hY : ∀ x, Y x → x < w.heap.size) :
    Calls Try.prog 34 #[b.val B] w fun e w' => ∃ n r, e = .returned (.tuple #[.int .i64 n, .bool r]) ∧ usOut B n r ∧ Blw w w' := by
  have hb0 : Blw w (w.alloc (.cells #[.slice b.a1 B.n b.c1, .slice b.a2 B.D.n b.c2] 26)) := (Blw.refl _).alloc _
  have HB : Hid (BookAt Y (w.alloc (.cells #[.slice b.a1 B.n b.c1, .slice b.a2 B.D.n b.c2] 26)) b B) := h.blw hb0
  clear h
  go_enter Try.func34, Try.ntmps34
  go_wp2_with fail
  refine (hold_any b B Y _ HB.out (fun x hx => by have := hY x hx; simp; omega)).mono ?_
  rintro e w1 ⟨h1, hb1⟩
  replace hb1 := hb0.trans hb1
  clear hb0 HB
  rcases h1 with ⟨z, hg, rfl, -, -⟩ | ⟨hg, rfl⟩
  · have HG : Hid B.Good := hg
    have hA : Blw w1 (w1.alloc (.cells (held5 B.c z B.D.n) 82)) := (Blw.refl _).alloc _
    have r5 := row5 w1 (.int .i64 (B.c 0)) (.int .i64 (B.c 1)) (.int .i64 (B.c 2)) (.int .i64 (B.c 3)) (.slice (some ⟨z, 0, none⟩) B.D.n B.D.n) 82
    have HR5 : Hid (Row (w1.alloc (.cells (held5 B.c z B.D.n) 82)) w1.heap.size 5 (row5f B.c (.slice (some ⟨z, 0, none⟩) B.D.n B.D.n))) := r5
    have HW : Hid (Blw w (w1.alloc (.cells (held5 B.c z B.D.n) 82))) := hb1.trans hA
    clear hg hA r5 hb1
    go_wp2_with fail
    refine (placesUsed_any w1.heap.size B.c _ _ (fun i hi => (HG.out.top i (by rw [HG.out.n]; exact hi)).1) HR5.out).mono ?_
    rintro e w2 ⟨ao, cap, rfl, hb2⟩
    replace HW : Hid (Blw w w2) := HW.out.trans hb2
    clear hb2 HR5
    go_wp2
    exact bodyPost_ret (v := .tuple #[.int .i64 (cu B.c 4 : Nat), .bool true]) (by simp [results, Try.results34, go_sem]) rfl ⟨_, _, rfl, Or.inl ⟨HG.out, rfl, rfl⟩, HW.out⟩
  · have HG : Hid (¬ B.Good) := hg
    clear hg
    go_wp2
    exact bodyPost_ret (v := .tuple #[.int .i64 0, .bool false]) (by simp [results, Try.results34, go_sem]) rfl ⟨_, _, rfl, Or.inr ⟨HG.out, rfl, rfl⟩, hb1.alloc _⟩
set_option maxHeartbeats 3200000 in
theorem lawUsedP (b : BV) (B : BD) (w : World) (h : BookAt (fun x => x < w.heap.size) w b B) : Calls Try.prog 12 #[b.val B] w fun e w' => e = .returned (.bool true) ∧ Blw w w' := by
  have hb0 : Blw w (w.alloc (.cells #[.slice b.a1 B.n b.c1, .slice b.a2 B.D.n b.c2] 56)) := (Blw.refl _).alloc _
  have HA : Hid (St (fun x => x < w.heap.size + 1) (ArgB w.heap.size w.heap.size b B) (w.alloc (.cells #[.slice b.a1 B.n b.c1, .slice b.a2 B.D.n b.c2] 56))) := ArgB.st ⟨h.blw hb0, box2 w _ _ 56⟩ (by omega) (by omega) (by simp)
  clear h
  go_enter Try.func12, Try.ntmps12
  go_wp2_with fail
  refine (szBook_any b B _ _ HA.out.out.at_).mono ?_
  rintro e w1 ⟨r, rfl, hr, hb1⟩
  replace HA : Hid (St (fun x => x < w.heap.size + 1) (ArgB w.heap.size w.heap.size b B) w1) := HA.out.blw hb1
  replace hb1 := hb0.trans hb1
  clear hb0
  rcases hr with rfl | ⟨q0, q1⟩
  · go_wp2
    go_ret
    exact ⟨rfl, hb1⟩
  have hS : B.n + (B.D.n + B.D.tot) ≤ 1048576 := by omega
  have HS : Hid (B.n + (B.D.n + B.D.tot) ≤ 1048576) := hS
  obtain ⟨p0, p1⟩ := get2 HA.out.out.box
  clear q1 hS
  go_wp2_with fail
  clear p0 p1
  refine (toBook_any b B _ _ HS.out HA.out.out.at_).mono ?_
  rintro e w2 ⟨b2, rfl, own2, hb2⟩
  replace HA : Hid (St (fun x => x < w.heap.size + 1) (ArgB w.heap.size w.heap.size b B) w2) := HA.out.blw hb2
  replace hb2 := hb1.trans hb2
  clear hb1
  go_wp2_with fail
  refine (specUsed_any b2 B _ _ (by have := HS.out; omega) own2.at).mono ?_
  rintro e w3 ⟨n3, r3, rfl, hr3, hb3⟩
  replace HA : Hid (St (fun x => x < w.heap.size + 1) (ArgB w.heap.size w.heap.size b B) w3) := HA.out.blw hb3
  replace hb3 := hb2.trans hb3
  have HR3 : Hid (usOut B n3 r3) := hr3
  clear hb2 own2 hr3
  obtain ⟨p0, p1⟩ := get2 HA.out.out.box
  go_wp2_with fail
  clear p0 p1
  refine (toBook_any b B _ _ HS.out HA.out.out.at_).mono ?_
  rintro e w4 ⟨b4, rfl, own4, hb4⟩
  have hA : Blw w4 (w4.alloc (.cells #[.slice b4.a1 B.n b4.c1, .slice b4.a2 B.D.n b4.c2] 26)) := (Blw.refl _).alloc _
  have HBB : Hid (BB (fun x => w3.heap.size ≤ x ∧ x < w4.heap.size + 1) w4.heap.size b4 B B (w4.alloc (.cells #[.slice b4.a1 B.n b4.c1, .slice b4.a2 B.D.n b4.c2] 26))) := boxed hb4 own4 (Nat.le_refl _)
  replace HA : Hid (St (fun x => x < w.heap.size + 1) (ArgB w.heap.size w.heap.size b B) (w4.alloc (.cells #[.slice b4.a1 B.n b4.c1, .slice b4.a2 B.D.n b4.c2] 26))) := HA.out.blw (hb4.trans hA)
  replace hb4 := (hb3.trans hb4).trans hA
  clear hb3 own4 hA
  go_wp2_with fail
  refine (implUsed_any b4 B (fun x => (w3.heap.size ≤ x ∧ x < w4.heap.size + 1) ∧ x ≠ w4.heap.size) _ HBB.out.own.at (fun x hx => by simp; omega)).mono ?_
  rintro e w5 ⟨n5, r5, rfl, hr5, hb5⟩
  obtain ⟨en, er⟩ := usOut_same hr5 HR3.out
  subst en er
  have HB5 : Hid (BB (fun x => w3.heap.size ≤ x ∧ x < w4.heap.size + 1) w4.heap.size b4 B B w5) := ⟨HBB.out.own.blw hb5, HBB.out.box.blw hb5⟩
  replace HA : Hid (St (fun x => x < w.heap.size + 1) (ArgB w.heap.size w.heap.size b B) w5) := HA.out.blw hb5
  have HW : Hid (Blw w w5) := hb4.trans hb5
  clear hb4 hb5 hr5 HR3 HBB
  have hne : (r5 != r5) = false := by simp
  have hnn : (n5 != n5) = false := by simp
  generalize w3.heap.size = z3 at *
  generalize w4.heap.size = z4 at *
  clear w1 w2 w3 w4
  go_upto_region 10 with fail
  go_cut [39] from 35 to 39 (fun c wx => c = .bool false ∧ Blw w5 wx)
  case first =>
    have A0 : ∀ w', Blw w5 w' → w'.cell? ⟨w.heap.size, 0, none⟩ = some (.slice b.a1 B.n b.c1) := fun w' hh => (get2 (HA.out.blw hh).out.box).1
    have A1 : ∀ w', Blw w5 w' → w'.cell? ⟨w.heap.size, 1, none⟩ = some (.slice b.a2 B.D.n b.c2) := fun w' hh => (get2 (HA.out.blw hh).out.box).2
    have B0 : ∀ w', Blw w5 w' → w'.cell? ⟨z4, 0, none⟩ = some (.slice b4.a1 B.n b4.c1) := fun w' hh => (get2 (HB5.out.box.blw hh)).1
    have B1 : ∀ w', Blw w5 w' → w'.cell? ⟨z4, 1, none⟩ = some (.slice b4.a2 B.D.n b4.c2) := fun w' hh => (get2 (HB5.out.box.blw hh)).2
    go_region_held3 (fun w' => Blw w5 w') ((first | exact (Blw.refl _).drew | assumption | exact Blw.trans (by assumption) (by assumption))) (first
      | (go_at_call 44; refine (toBook_any b B _ _ HS.out (HA.out.blw (by assumption)).out.at_).mono ?_; rintro e w7 ⟨b6, rfl, o6, hb7⟩)
      | (go_at_call 40; refine (eqBook_same b4 b6 B _ (HB5.out.own.blw (by assumption)).at o6.at).mono ?_; rintro e w8 ⟨rfl, hb8⟩))
    all_goals go_wp2_with fail
    all_goals go_meet
    all_goals exact ⟨rfl, by assumption⟩
  case rest =>
    obtain ⟨rfl, hb7⟩ := hcut
    go_wp2
    go_ret
    exact ⟨rfl, HW.out.trans hb7⟩
end Go.Proofs.Ytbnencabjechjaa
