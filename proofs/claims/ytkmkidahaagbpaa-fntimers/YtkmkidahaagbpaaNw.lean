/- New wheels; the program's GoodWheel. -/
import Derived.Test.YtkmkidahaagbpaaLawH
import Derived.Test.YtkmkidahaagbpaaSgw
namespace Go.Proofs.Ytkmkidahaagbpaa
open Go.RowKit
set_option linter.unusedSimpArgs false
set_option linter.unusedVariables false
theorem small8 {now : Int} {R : Rws} (h : (allR R).length ≤ 1000) : WD.small (wd8 now R) := by
  have h1 : ∀ n, n ≤ 8 → Ytkmkidahaagbpaa.pre (fun k => (R k).length) n = ((List.range n).flatMap R).length := fun n hn => by
    induction n with
    | zero => rfl
    | succ n ih => rw [List.range_succ, List.flatMap_append, List.length_append, ← ih (by omega)]; simp [Ytkmkidahaagbpaa.pre]
  have h2 : ∀ n, n ≤ 8 → Ytkmkidahaagbpaa.pre (fun k => (R (8 + k)).length) n = ((List.range n).flatMap (fun k => R (8 + k))).length := fun n hn => by
    induction n with
    | zero => rfl
    | succ n ih => rw [List.range_succ, List.flatMap_append, List.length_append, ← ih (by omega)]; simp [Ytkmkidahaagbpaa.pre]
  have h3 : allR R = (List.range 8).flatMap R ++ (List.range 8).flatMap (fun k => R (8 + k)) := by simp [allR, List.range_succ, List.flatMap_append]
  rw [h3, List.length_append, ← h1 8 (by omega), ← h2 8 (by omega)] at h
  show (8 + Ytkmkidahaagbpaa.pre (fun k => (R k).length) 8) + (8 + Ytkmkidahaagbpaa.pre (fun k => (R (8 + k)).length) 8) ≤ _
  omega
def newOut (k : Int) (D : WD) (b : Bool) : Prop := if 0 ≤ k ∧ k ≤ 1000 then D = wd8 k noR ∧ b = true else D = WD.zero ∧ b = false
theorem newOut_same {k : Int} {D D' : WD} {b b' : Bool} (h : newOut k D b) (h' : newOut k D' b') : D = D' ∧ b = b' := by
  unfold newOut at h h'
  split at h
  · rw [if_pos (by assumption)] at h'; exact ⟨h.1.trans h'.1.symm, h.2.trans h'.2.symm⟩
  · rw [if_neg (by assumption)] at h'; exact ⟨h.1.trans h'.1.symm, h.2.trans h'.2.symm⟩
set_option maxRecDepth 10000 in
set_option maxHeartbeats 800000 in
theorem empty_any (w : World) : Calls Try.prog 66 #[] w fun e w' => e = .returned (.slice (some ⟨w.heap.size, 0, none⟩) 8 8) ∧ w' = w.alloc (.cells (madeCells #[.slice none 0 0] 8) 31) := by
  have hmk : ∀ w, (Instr.makeSlice 23 (.int .i64 8) (.int .i64 8)).run Try.prog w = .ok (.slice (some ⟨w.heap.size, 0, none⟩) 8 8) (w.alloc (.cells (madeCells #[.slice none 0 0] 8) 31)) := fun w => mkLists 8 (by omega) w
  go_enter Try.func66, Try.ntmps66
  go_wp2
  go_ret
  exact ⟨rfl, rfl⟩
theorem empty_own (w : World) : PSOwn (fun x => x = w.heap.size) (w.alloc (.cells (madeCells #[.slice none 0 0] 8) 31)) (some ⟨w.heap.size, 0, none⟩) (pdn 8 noR) :=
  ⟨by show 8 ≤ _; omega, fun _ => ⟨w.heap.size, fun _ => none, fun _ => 0, fun _ _ => False, rfl, Row.made w (.slice none 0 0) 8 31, fun i hi => UndosOwn.nil _ _ _ _ _, fun i hi x hx => hx.elim, fun _ _ _ _ _ _ hx => hx.elim, rfl⟩⟩
set_option maxRecDepth 10000 in
set_option maxHeartbeats 1600000 in
theorem specNew_any (k : Int) (w : World) : Calls Try.prog 33 #[.int .i64 k] w (GivesW (newOut k) w) := by
  have hb0 : Blw w (w.alloc (.cells #[.int .i64 0, .slice none 0 0, .slice none 0 0] 25)) := (Blw.refl _).alloc _
  have r0 := box3 w (.int .i64 0) (.slice none 0 0) (.slice none 0 0) 25
  by_cases a0 : 0 ≤ k ∧ k ≤ 1000
  · have A0 : Hid (0 ≤ k ∧ k ≤ 1000) := a0
    clear a0
    go_enter Try.func33, Try.ntmps33
    go_wp2_with fail
    have HB : Hid (Blw w (w.alloc (.cells #[.int .i64 0, .slice none 0 0, .slice none 0 0] 25))) := hb0
    have HR : Hid (Row (w.alloc (.cells #[.int .i64 0, .slice none 0 0, .slice none 0 0] 25)) w.heap.size 3 (t3 (.int .i64 0) (.slice none 0 0) (.slice none 0 0))) := r0
    clear hb0 r0
    generalize w.alloc (.cells #[.int .i64 0, .slice none 0 0, .slice none 0 0] 25) = W0 at *
    go_upto_region 3 with (first | (go_at_call 52; refine (l1In_yes _ _ _ _ A0.out.1 A0.out.2).mono ?_; rintro e w' ⟨rfl, hw⟩; replace hw := hw.symm; subst hw) | fail)
    have e1 : Blw W0 (W0.alloc (.cells (madeCells #[.slice none 0 0] 8) 31)) := (Blw.refl _).alloc _
    have o1 := empty_own W0
    have hz := HR.out.lt
    obtain ⟨W1, hW1⟩ : ∃ W1, W0.alloc (.cells (madeCells #[.slice none 0 0] 8) 31) = W1 := ⟨_, rfl⟩
    have s1 : W1.heap.size = W0.heap.size + 1 := by rw [← hW1, World.size_alloc]
    have e2 : Blw W1 (W1.alloc (.cells (madeCells #[.slice none 0 0] 8) 31)) := (Blw.refl _).alloc _
    have o2 := empty_own W1
    obtain ⟨W2, hW2⟩ : ∃ W2, W1.alloc (.cells (madeCells #[.slice none 0 0] 8) 31) = W2 := ⟨_, rfl⟩
    have s2 : W2.heap.size = W1.heap.size + 1 := by rw [← hW2, World.size_alloc]
    rw [hW1] at e1 o1
    rw [hW2] at e2 o2
    have R2 := (HR.out.blw e1).blw e2
    obtain ⟨q0, q1, q2⟩ := get3 R2
    have f0 := R2.frozen 0
    have f1 := R2.frozen 1
    have f2 := R2.frozen 2
    have HO : Hid (PSOwn (fun x => x = W0.heap.size) W2 (some ⟨W0.heap.size, 0, none⟩) (pdn 8 noR) ∧ PSOwn (fun x => x = W1.heap.size) W2 (some ⟨W1.heap.size, 0, none⟩) (pdn 8 noR) ∧ Blw W0 W2 ∧ Row W2 w.heap.size 3 (t3 (.int .i64 0) (.slice none 0 0) (.slice none 0 0)) ∧ w.heap.size < W0.heap.size) := ⟨o1.blw e2, o2, e1.trans e2, R2, hz⟩
    have HS : Hid (W1.heap.size = W0.heap.size + 1 ∧ W2.heap.size = W1.heap.size + 1) := ⟨s1, s2⟩
    clear e1 e2 o1 o2 hz s1 s2 R2
    go_wp2_with (first | (go_at_call 66; refine (empty_any _).mono ?_; rintro e w' ⟨rfl, hw⟩; first | (rw [hW1] at hw; replace hw := hw.symm; subst hw; clear hW1) | (rw [hW2] at hw; replace hw := hw.symm; subst hw; clear hW2)) | fail)
    have r9 := set3_2 (set3_1 (set3_0 HO.out.2.2.2.1 (.int .i64 k)) (.slice (some ⟨W0.heap.size, 0, none⟩) 8 8)) (.slice (some ⟨W1.heap.size, 0, none⟩) 8 8)
    obtain ⟨u0, u1, u2⟩ := get3 r9
    have mS := set3_mod (X := fun b => b = w.heap.size) W2 rfl (.int .i64 k) (.slice (some ⟨W0.heap.size, 0, none⟩) 8 8) (.slice (some ⟨W1.heap.size, 0, none⟩) 8 8)
    refine bodyPost_ret (v := .tuple #[.agg #[.int .i64 k, .slice (some ⟨W0.heap.size, 0, none⟩) 8 8, .slice (some ⟨W1.heap.size, 0, none⟩) 8 8], .bool true]) (by rw [results_cell_tmp rfl]; simp [asAddr, Result.andThen, go_sem, u0, u1, u2]) rfl ?_
    obtain ⟨o1, o2, b2, -, hz⟩ := HO.out
    obtain ⟨s1, s2⟩ := HS.out
    have hsB := HB.out.size
    have hm5 := mS.size
    refine ⟨⟨some ⟨W0.heap.size, 0, none⟩, some ⟨W1.heap.size, 0, none⟩, 8, 8⟩, wd8 k noR, true, rfl, by unfold newOut; rw [if_pos A0.out]; exact ⟨rfl, rfl⟩, small8 (by decide), ⟨fun x => x = W0.heap.size, fun x => x = W1.heap.size, fun x hx => ⟨⟨by omega, by omega⟩, by omega⟩, fun x hx => ⟨by omega, by omega⟩, o1.mod mS (fun x hx e => by omega), o2.mod mS (fun x hx e => by omega)⟩, Mod.blw (HB.out.trans b2) mS (fun i e => by omega)⟩
  · have A0 : Hid (¬ (0 ≤ k ∧ k ≤ 1000)) := a0
    clear a0
    go_enter Try.func33, Try.ntmps33
    go_wp2_with fail
    have HB : Hid (Blw w (w.alloc (.cells #[.int .i64 0, .slice none 0 0, .slice none 0 0] 25))) := hb0
    have HR : Hid (Row (w.alloc (.cells #[.int .i64 0, .slice none 0 0, .slice none 0 0] 25)) w.heap.size 3 (t3 (.int .i64 0) (.slice none 0 0) (.slice none 0 0))) := r0
    obtain ⟨q0, q1, q2⟩ := get3 r0
    have f0 := r0.frozen 0
    have f1 := r0.frozen 1
    have f2 := r0.frozen 2
    clear hb0 r0
    generalize w.alloc (.cells #[.int .i64 0, .slice none 0 0, .slice none 0 0] 25) = W0 at *
    go_wp2_with (first | (go_at_call 52; refine (l1In_no _ _ _ _ A0.out).mono ?_; rintro e w' ⟨rfl, hw⟩; replace hw := hw.symm; subst hw) | fail)
    have r9 := set3_2 (set3_1 (set3_0 HR.out (.int .i64 0)) (.slice none 0 0)) (.slice none 0 0)
    obtain ⟨u0, u1, u2⟩ := get3 r9
    have mS := set3_mod (X := fun b => b = w.heap.size) W0 rfl (.int .i64 0) (.slice none 0 0) (.slice none 0 0)
    refine bodyPost_ret (v := .tuple #[.agg #[.int .i64 0, .slice none 0 0, .slice none 0 0], .bool false]) (by rw [results_cell_tmp rfl]; simp [asAddr, Result.andThen, go_sem, u0, u1, u2]) rfl ?_
    exact ⟨WV.zero, WD.zero, false, rfl, by unfold newOut; rw [if_neg A0.out]; exact ⟨rfl, rfl⟩, small_zero, WOwn.zero _ _, Mod.blw HB.out mS (fun i e => by omega)⟩
set_option maxRecDepth 10000 in
set_option maxHeartbeats 1600000 in
theorem implNew_any (k : Int) (w : World) : Calls Try.prog 32 #[.int .i64 k] w (GivesW (newOut k) w) := by
  have hb0 : Blw w (w.alloc (.cells #[.int .i64 0, .slice none 0 0, .slice none 0 0] 25)) := (Blw.refl _).alloc _
  have r0 := box3 w (.int .i64 0) (.slice none 0 0) (.slice none 0 0) 25
  by_cases a0 : 0 ≤ k ∧ k ≤ 1000
  · have A0 : Hid (0 ≤ k ∧ k ≤ 1000) := a0
    have e0 : decide (0 ≤ k ∧ k ≤ 1000) = true := decide_eq_true a0
    clear a0
    go_enter Try.func32, Try.ntmps32
    go_wp2_with fail
    have HB : Hid (Blw w (w.alloc (.cells #[.int .i64 0, .slice none 0 0, .slice none 0 0] 25))) := hb0
    have HR : Hid (Row (w.alloc (.cells #[.int .i64 0, .slice none 0 0, .slice none 0 0] 25)) w.heap.size 3 (t3 (.int .i64 0) (.slice none 0 0) (.slice none 0 0))) := r0
    clear hb0 r0
    generalize w.alloc (.cells #[.int .i64 0, .slice none 0 0, .slice none 0 0] 25) = W0 at *
    go_upto_region 4 with (first | (go_at_call 49; refine (isNow_any _ _).mono ?_; rintro e w' ⟨rfl, hw⟩; replace hw := hw.symm; subst hw; rw [e0]) | (refine wpList_buildTo rfl 71 _ rfl _ rfl (lst 17 (hcell k noR noP noC)).toArray (by kernel_rfl) ?_) | (refine alloc_big rfl 71 rfl 17 hz0 zeroH ?_; intro w2 RZ2 hb2 hz2) | (refine store_big rfl 71 _ _ rfl _ 17 (hcell k noR noP noC) hz0 rfl rfl wdH RZ2 (fun i _ => hcell_one _ _ _ _ _) ?_; intro wz RZ9 hm9 hs9) | fail)
    have hbz : Blw W0 wz := Mod.blw hb2 hm9 (fun i e => by omega)
    have HWz : Hid (HW w.heap.size W0.heap.size k noR noP noC wz) := (Go.Proofs.Ytkmkidahaagbpaa.HR.none w.heap.size wz).box (fun k b _ e => by cases e) RZ9
    have HBz : Hid (Blw w wz) := HB.out.trans hbz
    have HRz : Hid (Row wz w.heap.size 3 (t3 (.int .i64 0) (.slice none 0 0) (.slice none 0 0))) := HR.out.blw hbz
    clear RZ2 hb2 hz2 RZ9 hm9 hs9 hbz
    have HGO : Hid (Calls Try.prog 51 #[.pointer (some ⟨W0.heap.size, 0, none⟩)] wz fun e w' => ∃ v : WV, e = .returned (v.val (wd8 k noR)) ∧ w'.cell? ⟨w.heap.size, 0, none⟩ = some (.int .i64 0) ∧ w'.cell? ⟨w.heap.size, 1, none⟩ = some (.slice none 0 0) ∧ w'.cell? ⟨w.heap.size, 2, none⟩ = some (.slice none 0 0) ∧ w'.frozen? ⟨w.heap.size, 0, none⟩ = false ∧ w'.frozen? ⟨w.heap.size, 1, none⟩ = false ∧ w'.frozen? ⟨w.heap.size, 2, none⟩ = false ∧ Hid (WOwn (fun x => wz.heap.size ≤ x ∧ x < w'.heap.size) w' v (wd8 k noR) ∧ Blw wz w' ∧ w.heap.size < wz.heap.size ∧ Row w' w.heap.size 3 (t3 (.int .i64 0) (.slice none 0 0) (.slice none 0 0)))) := by
      refine (giveOut_any wz.heap.size W0.heap.size k noR noP noC wz ((Go.Proofs.Ytkmkidahaagbpaa.HR.none wz.heap.size wz).box (fun k b _ e => by cases e) HWz.out.box) (Nat.le_refl _) (fun k _ => by show (0 : Nat) ≤ 1000; omega)).mono ?_
      rintro e w' ⟨v, rfl, hE⟩
      have r9 := HRz.out.blw hE.out.2
      obtain ⟨t0, t1, t2⟩ := get3 r9
      exact ⟨v, rfl, t0, t1, t2, r9.frozen 0, r9.frozen 1, r9.frozen 2, hE.out.1, hE.out.2, HRz.out.lt, r9⟩
    go_wp2_with (first | (go_at_call 51; refine HGO.out.mono ?_; rintro e W2 ⟨v, rfl, q0, q1, q2, f0, f1, f2, hE⟩) | fail)
    have r9 := set3_2 (set3_1 (set3_0 hE.out.2.2.2 (.int .i64 k)) (.slice v.a1 8 v.c1)) (.slice v.a2 8 v.c2)
    obtain ⟨u0, u1, u2⟩ := get3 r9
    have mS := set3_mod (X := fun b => b = w.heap.size) W2 rfl (.int .i64 k) (.slice v.a1 8 v.c1) (.slice v.a2 8 v.c2)
    refine bodyPost_ret (v := .tuple #[.agg #[.int .i64 k, .slice v.a1 8 v.c1, .slice v.a2 8 v.c2], .bool true]) (by rw [results_cell_tmp rfl]; simp [asAddr, Result.andThen, go_sem, u0, u1, u2]) rfl ?_
    have hsB := HBz.out.size
    have hlt := hE.out.2.2.1
    have hm5 := mS.size
    exact ⟨v, wd8 k noR, true, rfl, by unfold newOut; rw [if_pos A0.out]; exact ⟨rfl, rfl⟩, small8 (by decide), (hE.out.1.mod mS (fun b hb e => by omega)).mono (fun b hb => ⟨by omega, by omega⟩), Mod.blw (HBz.out.trans hE.out.2.1) mS (fun i e => by omega)⟩
  · have A0 : Hid (¬ (0 ≤ k ∧ k ≤ 1000)) := a0
    have e0 : decide (0 ≤ k ∧ k ≤ 1000) = false := decide_eq_false a0
    clear a0
    go_enter Try.func32, Try.ntmps32
    go_wp2_with fail
    have HB : Hid (Blw w (w.alloc (.cells #[.int .i64 0, .slice none 0 0, .slice none 0 0] 25))) := hb0
    have HR : Hid (Row (w.alloc (.cells #[.int .i64 0, .slice none 0 0, .slice none 0 0] 25)) w.heap.size 3 (t3 (.int .i64 0) (.slice none 0 0) (.slice none 0 0))) := r0
    obtain ⟨q0, q1, q2⟩ := get3 r0
    have f0 := r0.frozen 0
    have f1 := r0.frozen 1
    have f2 := r0.frozen 2
    clear hb0 r0
    generalize w.alloc (.cells #[.int .i64 0, .slice none 0 0, .slice none 0 0] 25) = W0 at *
    go_wp2_with (first | (go_at_call 49; refine (isNow_any _ _).mono ?_; rintro e w' ⟨rfl, hw⟩; replace hw := hw.symm; subst hw; rw [e0]) | fail)
    have r9 := set3_2 (set3_1 (set3_0 HR.out (.int .i64 0)) (.slice none 0 0)) (.slice none 0 0)
    obtain ⟨u0, u1, u2⟩ := get3 r9
    have mS := set3_mod (X := fun b => b = w.heap.size) W0 rfl (.int .i64 0) (.slice none 0 0) (.slice none 0 0)
    refine bodyPost_ret (v := .tuple #[.agg #[.int .i64 0, .slice none 0 0, .slice none 0 0], .bool false]) (by rw [results_cell_tmp rfl]; simp [asAddr, Result.andThen, go_sem, u0, u1, u2]) rfl ?_
    exact ⟨WV.zero, WD.zero, false, rfl, by unfold newOut; rw [if_neg A0.out]; exact ⟨rfl, rfl⟩, small_zero, WOwn.zero _ _, Mod.blw HB.out mS (fun i e => by omega)⟩
set_option maxRecDepth 10000 in
set_option maxHeartbeats 1600000 in
theorem implGood_any (v : WV) (D : WD) (Y : Nat → Prop) (w : World) (h : WAt Y w v D) (hY : ∀ b, Y b → b < w.heap.size) (hwf : D.wf) : Calls Try.prog 20 #[v.val D] w (BRes (GoodD D) w) := by
  have hb0 : Blw w (w.alloc (.cells #[.int .i64 D.now, .slice v.a1 D.N.n v.c1, .slice v.a2 D.F.n v.c2] 25)) := (Blw.refl _).alloc _
  have r0 := box3 w (.int .i64 D.now) (.slice v.a1 D.N.n v.c1) (.slice v.a2 D.F.n v.c2) 25
  have HHO : Hid (Calls Try.prog 48 #[v.val D] (w.alloc (.cells #[.int .i64 D.now, .slice v.a1 D.N.n v.c1, .slice v.a2 D.F.n v.c2] 25)) (HoldPost (w.alloc (.cells #[.int .i64 D.now, .slice v.a1 D.N.n v.c1, .slice v.a2 D.F.n v.c2] 25)) D)) :=
    hold_any v D Y _ (h.blw hb0) (fun b hb => by have := hY b hb; have := hb0.size; omega) hwf
  have HB : Hid (Blw w (w.alloc (.cells #[.int .i64 D.now, .slice v.a1 D.N.n v.c1, .slice v.a2 D.F.n v.c2] 25))) := hb0
  clear h hb0 r0
  go_enter Try.func20, Try.ntmps20
  go_wp2_with (first | (go_at_call 48; refine HHO.out.mono ?_; rintro e w1 ⟨now, R, P, C, b, rfl, hb1, -, hb2⟩; have HB1 : Hid (BOf (GoodD D) b ∧ Blw w w1) := ⟨hb1, HB.out.trans hb2⟩; clear hb1 hb2) | (refine alloc_big rfl 71 rfl 17 hz0 zeroH ?_; intro w2 RZ2 hb2 hz2) | (refine store_big rfl 71 _ _ rfl _ 17 (hcell now R P C) hz0 rfl rfl wdH RZ2 (fun i _ => hcell_one _ _ _ _ _) ?_; intro wz RZ9 hm9 hs9) | fail)
  go_ret
  exact ⟨b, rfl, HB1.out.1, HB1.out.2.trans (Mod.blw hb2 hm9 (fun i e => by omega))⟩
end Go.Proofs.Ytkmkidahaagbpaa
