/- Laid together, in this order: IDrop, SDrop. -/
import Derived.Test.YtkmkidahaagbpaaISet
import Derived.Test.YtkmkidahaagbpaaDrp
import Derived.Test.YtkmkidahaagbpaaHas
import Derived.Test.YtkmkidahaagbpaaPlc
import Derived.Test.YtkmkidahaagbpaaWo
/- DropTimer of the program. -/
namespace Go.Proofs.Ytkmkidahaagbpaa
open Go.RowKit
set_option linter.unusedSimpArgs false
set_option linter.unusedVariables false
def DropP (D : WD) (id : Int) : Prop := GoodD D ∧ ∃ x ∈ allR (rows16 D), x.1 = id
def dropOut (D : WD) (id : Int) : WD → Bool → Prop := pickOut (DropP D id) (wd8 D.now (dropR id (rows16 D)))
theorem drop_len (id : Int) (R : Rws) : (allR (dropR id R)).length ≤ (allR R).length := by
  unfold allR
  induction List.range 16 with
  | nil => simp
  | cons a L ih =>
    simp only [List.flatMap_cons, List.length_append]
    have h1 : (dropR id R a).length ≤ (R a).length := List.length_filter_le _ _
    omega
set_option maxRecDepth 10000 in
set_option maxHeartbeats 3200000 in
theorem implDrop_any (v : WV) (D : WD) (id : Int) (Y : Nat → Prop) (w : World) (h : WAt Y w v D) (hY : ∀ b, Y b → b < w.heap.size) (hwf : D.wf) : Calls Try.prog 27 #[v.val D, .int .i64 id] w (GivesW (dropOut D id) w) := by
  have hb0 : Blw w (w.alloc (.cells #[.int .i64 D.now, .slice v.a1 D.N.n v.c1, .slice v.a2 D.F.n v.c2] 25)) := (Blw.refl _).alloc _
  have r0 := box3 w (.int .i64 D.now) (.slice v.a1 D.N.n v.c1) (.slice v.a2 D.F.n v.c2) 25
  obtain ⟨Wa, hWa⟩ : ∃ Wa, w.alloc (.cells #[.int .i64 D.now, .slice v.a1 D.N.n v.c1, .slice v.a2 D.F.n v.c2] 25) = Wa := ⟨_, rfl⟩
  rw [hWa] at hb0 r0
  have hsa : Wa.heap.size = w.heap.size + 1 := by rw [← hWa, World.size_alloc]
  have hb1 : Blw Wa (Wa.alloc (.cells #[.int .i64 0, .slice none 0 0, .slice none 0 0] 25)) := (Blw.refl _).alloc _
  have r1 := box3 Wa (.int .i64 0) (.slice none 0 0) (.slice none 0 0) 25
  have ra := r0.blw hb1
  obtain ⟨W0, hW0⟩ : ∃ W0, Wa.alloc (.cells #[.int .i64 0, .slice none 0 0, .slice none 0 0] 25) = W0 := ⟨_, rfl⟩
  rw [hW0] at hb1 r1 ra
  have HHO : Hid (Calls Try.prog 48 #[v.val D] W0 (HoldPost W0 D)) :=
    hold_any v D Y _ ((h.blw hb0).blw hb1) (fun b hb => by have := hY b hb; have := (hb0.trans hb1).size; omega) hwf
  have HB : Hid (Blw w W0 ∧ w.heap.size ≤ Wa.heap.size ∧ Wa.heap.size < W0.heap.size) := ⟨hb0.trans hb1, by omega, r1.lt⟩
  have HR1 : Hid (Row W0 Wa.heap.size 3 (t3 (.int .i64 0) (.slice none 0 0) (.slice none 0 0))) := r1
  clear h hb0 hb1 hsa
  by_cases hg : GoodD D
  · have G : Hid (GoodD D) := hg
    clear hg
    go_enter Try.func27, Try.ntmps27
    go_upto_region 1 with fail
    try simp only [hWa, hW0]
    obtain ⟨c0, c1, c2⟩ := get3 ra
    clear hWa hW0 r0 ra r1
    go_upto_region 2 with (first | (go_at_call 48; refine HHO.out.mono ?_; rintro e w1 ⟨now, R, P, C, b, rfl, hE1⟩) | (refine alloc_big rfl 71 rfl 17 hz0 zeroH ?_; intro w2 RZ2 hb2 hz2) | (refine store_big rfl 71 _ _ rfl _ 17 (hcell now R P C) hz0 rfl rfl wdH RZ2 (fun i _ => hcell_one _ _ _ _ _) ?_; intro wz RZ9 hm9 hs9) | fail)
    obtain ⟨hbo, hbt, hbl⟩ := hE1
    clear c0 c1 c2 HHO
    have hbz : Blw W0 wz := Mod.blw (hbl.trans hb2) hm9 (fun i e => by have := hbl.size; omega)
    obtain rfl : b = true := hbo.2 G.out
    obtain ⟨e1, e2, hR⟩ := hbt rfl
    subst e1 e2
    have HWz : Hid (HW W0.heap.size w1.heap.size D.now (rows16 D) P C wz) := ((hR.blw hb2).mod hm9 (fun k b hk e hh => by have h5 := hR.lt hk e; omega)).box (fun k b hk e => by have h5 := hR.lt hk e; omega) RZ9
    have HBz : Hid (Blw w wz ∧ W0.heap.size ≤ wz.heap.size) := ⟨HB.out.1.trans hbz, hbz.size⟩
    have HRz : Hid (Row wz Wa.heap.size 3 (t3 (.int .i64 0) (.slice none 0 0) (.slice none 0 0))) := HR1.out.blw hbz
    have HS1 : Hid (W0.heap.size ≤ w1.heap.size) := hbl.size
    clear hR hbo hbt hbl RZ2 hb2 hz2 RZ9 hm9 hs9 hbz
    have HTK : Hid (Calls Try.prog 63 #[.pointer (some ⟨w1.heap.size, 0, none⟩), .int .i64 id] wz fun e w' =>
          (((∃ x ∈ allR (rows16 D), x.1 = id) ∧ e = .returned (.bool true) ∧ ∃ P' C', HW W0.heap.size w1.heap.size D.now (dropR id (rows16 D)) P' C' w') ∨ (¬ (∃ x ∈ allR (rows16 D), x.1 = id) ∧ e = .returned (.bool false))) ∧ Mod (HX w1.heap.size P) wz w') :=
      drop_any W0.heap.size w1.heap.size D.now (rows16 D) P C id wz HWz.out HBz.out.2 G.out.g (fun k hk => rows16_out D k hk)
    by_cases hk : ∃ x ∈ allR (rows16 D), x.1 = id
    · have HK : Hid (∃ x ∈ allR (rows16 D), x.1 = id) := hk
      clear hk
      go_upto_region 4 with (first | (go_at_call 63; refine HTK.out.mono ?_; rintro e w3 ⟨h3, hm3⟩; obtain ⟨e3, hH3⟩ : e = .returned (.bool true) ∧ Hid (∃ P' C', HW W0.heap.size w1.heap.size D.now (dropR id (rows16 D)) P' C' w3) := h3.elim (fun q => ⟨q.2.1, q.2.2⟩) (fun q => absurd HK.out q.1); subst e3; clear h3) | fail)
      obtain ⟨P', C', hH⟩ := hH3.out
      have HH3 : Hid (HW W0.heap.size w1.heap.size D.now (dropR id (rows16 D)) P' C' w3) := hH
      have hz1 : ∀ b, HX w1.heap.size P b → W0.heap.size ≤ b ∧ b ≠ Wa.heap.size := fun b hb => by
        have h5 := HB.out.2.2
        rcases HWz.out.hx hb with h6 | h6
        · have h8 := HS1.out; omega
        · omega
      have BW2 : Hid (Blw w w3) := Mod.blw HBz.out.1 hm3 (fun i e => by have h5 := (hz1 i e).1; have h6 := HB.out.1.size; omega)
      have HR3 : Hid (Row w3 Wa.heap.size 3 (t3 (.int .i64 0) (.slice none 0 0) (.slice none 0 0))) := HRz.out.mod hm3 (fun e => (hz1 _ e).2 rfl)
      have HS3 : Hid (W0.heap.size ≤ w3.heap.size) := by have h5 := HBz.out.2; have h6 := hm3.size; exact Nat.le_trans h5 h6
      clear hH hH3 hz1 hm3
      have HGO : Hid (Calls Try.prog 51 #[.pointer (some ⟨w1.heap.size, 0, none⟩)] w3 fun e w' => ∃ v : WV, e = .returned (v.val (wd8 D.now (dropR id (rows16 D)))) ∧ w'.cell? ⟨Wa.heap.size, 0, none⟩ = some (.int .i64 0) ∧ w'.cell? ⟨Wa.heap.size, 1, none⟩ = some (.slice none 0 0) ∧ w'.cell? ⟨Wa.heap.size, 2, none⟩ = some (.slice none 0 0) ∧ w'.frozen? ⟨Wa.heap.size, 0, none⟩ = false ∧ w'.frozen? ⟨Wa.heap.size, 1, none⟩ = false ∧ w'.frozen? ⟨Wa.heap.size, 2, none⟩ = false ∧ Hid (WOwn (fun x => W0.heap.size ≤ x ∧ x < w'.heap.size) w' v (wd8 D.now (dropR id (rows16 D))) ∧ Blw w3 w' ∧ Row w' Wa.heap.size 3 (t3 (.int .i64 0) (.slice none 0 0) (.slice none 0 0)))) := by
        refine (giveOut_any W0.heap.size w1.heap.size D.now (dropR id (rows16 D)) P' C' w3 (HH3.out) (by have h5 := (HS3.out); omega) (fun k hk => by have h5 := drop_len id (rows16 D); have h7 := G.out.g.len; have h6 := len_row (S := dropR id (rows16 D)) hk; omega)).mono ?_
        rintro e w' ⟨v, rfl, hE⟩
        have r9 := (HR3.out).blw hE.out.2
        obtain ⟨t0, t1, t2⟩ := get3 r9
        exact ⟨v, rfl, t0, t1, t2, r9.frozen 0, r9.frozen 1, r9.frozen 2, hE.out.1, hE.out.2, r9⟩
      go_wp2_with (first | (go_at_call 51; refine HGO.out.mono ?_; rintro e W2 ⟨v, rfl, q0, q1, q2, f0, f1, f2, hE⟩) | fail)
      have r9 := set3_2 (set3_1 (set3_0 hE.out.2.2 (.int .i64 D.now)) (.slice v.a1 8 v.c1)) (.slice v.a2 8 v.c2)
      obtain ⟨u0, u1, u2⟩ := get3 r9
      have mS := set3_mod (X := fun b => b = Wa.heap.size) W2 rfl (.int .i64 D.now) (.slice v.a1 8 v.c1) (.slice v.a2 8 v.c2)
      refine bodyPost_ret (v := .tuple #[.agg #[.int .i64 D.now, .slice v.a1 8 v.c1, .slice v.a2 8 v.c2], .bool true]) (by rw [results_cell_tmp rfl]; simp [asAddr, Result.andThen, go_sem, u0, u1, u2]) rfl ?_
      have hsB := HB.out.2.2
      have hle := HB.out.2.1
      have hm5 := mS.size
      exact ⟨v, wd8 D.now (dropR id (rows16 D)), true, rfl, Or.inl ⟨⟨G.out, HK.out⟩, rfl, rfl⟩, small8 (by have h5 := drop_len id (rows16 D); have h6 := G.out.g.len; omega), (hE.out.1.mod mS (fun b hb e => by omega)).mono (fun b hb => ⟨by omega, by omega⟩), Mod.blw ((BW2.out).trans hE.out.2.1) mS (fun i e => by omega)⟩
    · have HK : Hid (¬ ∃ x ∈ allR (rows16 D), x.1 = id) := hk
      clear hk
      go_upto_region 3 with (first | (go_at_call 63; refine HTK.out.mono ?_; rintro e w3 ⟨h3, hm3⟩; obtain rfl : e = .returned (.bool false) := h3.elim (fun q => absurd q.1 HK.out) (fun q => q.2); clear h3) | fail)
      have hz1 : ∀ b, HX w1.heap.size P b → W0.heap.size ≤ b ∧ b ≠ Wa.heap.size := fun b hb => by
        have h5 := HB.out.2.2
        rcases HWz.out.hx hb with h6 | h6
        · have h8 := HS1.out; omega
        · omega
      have BW2 : Hid (Blw w w3) := Mod.blw HBz.out.1 hm3 (fun i e => by have h5 := (hz1 i e).1; have h6 := HB.out.1.size; omega)
      have HR3 : Hid (Row w3 Wa.heap.size 3 (t3 (.int .i64 0) (.slice none 0 0) (.slice none 0 0))) := HRz.out.mod hm3 (fun e => (hz1 _ e).2 rfl)
      clear hz1 hm3
      obtain ⟨q0, q1, q2⟩ := get3 (HR3.out)
      have f0 := (HR3.out).frozen 0
      have f1 := (HR3.out).frozen 1
      have f2 := (HR3.out).frozen 2
      go_wp2_with fail
      have r9 := set3_2 (set3_1 (set3_0 (HR3.out) (.int .i64 0)) (.slice none 0 0)) (.slice none 0 0)
      obtain ⟨u0, u1, u2⟩ := get3 r9
      have mS := set3_mod (X := fun b => b = Wa.heap.size) w3 rfl (.int .i64 0) (.slice none 0 0) (.slice none 0 0)
      refine bodyPost_ret (v := .tuple #[.agg #[.int .i64 0, .slice none 0 0, .slice none 0 0], .bool false]) (by rw [results_cell_tmp rfl]; simp [asAddr, Result.andThen, go_sem, u0, u1, u2]) rfl ?_
      have hle := HB.out.2.1
      exact ⟨WV.zero, WD.zero, false, rfl, Or.inr ⟨fun hp => HK.out hp.2, rfl, rfl⟩, small_zero, WOwn.zero _ _, Mod.blw (BW2.out) mS (fun i e => by omega)⟩
  · have NG : Hid (¬ GoodD D) := hg
    clear hg
    go_enter Try.func27, Try.ntmps27
    go_upto_region 1 with fail
    try simp only [hWa, hW0]
    obtain ⟨c0, c1, c2⟩ := get3 ra
    clear hWa hW0 r0 ra r1
    go_upto_region 2 with (first | (go_at_call 48; refine HHO.out.mono ?_; rintro e w1 ⟨now, R, P, C, b, rfl, hE1⟩) | (refine alloc_big rfl 71 rfl 17 hz0 zeroH ?_; intro w2 RZ2 hb2 hz2) | (refine store_big rfl 71 _ _ rfl _ 17 (hcell now R P C) hz0 rfl rfl wdH RZ2 (fun i _ => hcell_one _ _ _ _ _) ?_; intro wz RZ9 hm9 hs9) | fail)
    obtain ⟨hbo, hbt, hbl⟩ := hE1
    clear c0 c1 c2 HHO
    have hbz : Blw W0 wz := Mod.blw (hbl.trans hb2) hm9 (fun i e => by have := hbl.size; omega)
    obtain rfl : b = false := by cases b; rfl; exact absurd (hbo.1 rfl) NG.out
    have HBz : Hid (Blw w wz ∧ W0.heap.size ≤ wz.heap.size) := ⟨HB.out.1.trans hbz, hbz.size⟩
    have HRz : Hid (Row wz Wa.heap.size 3 (t3 (.int .i64 0) (.slice none 0 0) (.slice none 0 0))) := HR1.out.blw hbz
    clear hbo hbt hbl RZ2 hb2 hz2 RZ9 hm9 hs9 hbz
    obtain ⟨q0, q1, q2⟩ := get3 (HRz.out)
    have f0 := (HRz.out).frozen 0
    have f1 := (HRz.out).frozen 1
    have f2 := (HRz.out).frozen 2
    go_wp2_with fail
    have r9 := set3_2 (set3_1 (set3_0 (HRz.out) (.int .i64 0)) (.slice none 0 0)) (.slice none 0 0)
    obtain ⟨u0, u1, u2⟩ := get3 r9
    have mS := set3_mod (X := fun b => b = Wa.heap.size) wz rfl (.int .i64 0) (.slice none 0 0) (.slice none 0 0)
    refine bodyPost_ret (v := .tuple #[.agg #[.int .i64 0, .slice none 0 0, .slice none 0 0], .bool false]) (by rw [results_cell_tmp rfl]; simp [asAddr, Result.andThen, go_sem, u0, u1, u2]) rfl ?_
    have hle := HB.out.2.1
    exact ⟨WV.zero, WD.zero, false, rfl, Or.inr ⟨fun hp => NG.out hp.1, rfl, rfl⟩, small_zero, WOwn.zero _ _, Mod.blw (HBz.out.1) mS (fun i e => by omega)⟩
end Go.Proofs.Ytkmkidahaagbpaa
/- DropTimer of the model. -/
namespace Go.Proofs.Ytkmkidahaagbpaa
open Go.RowKit
set_option linter.unusedSimpArgs false
set_option linter.unusedVariables false
def mixR (A B : Rws) (k : Nat) : Rws := fun j => if j < 8 then (if j < k then A j else B j) else (if j < 8 + k then A j else B j)
theorem mixR_succ (A B : Rws) {k : Nat} (hk : k < 8) : updN (updN (mixR A B k) k (A k)) (8 + k) (A (8 + k)) = mixR A B (k + 1) := by
  funext j
  unfold updN mixR
  by_cases e : j = 8 + k
  · subst e; rw [if_pos rfl, if_neg (by omega), if_pos (by omega)]
  · by_cases e2 : j = k
    · subst e2; rw [if_neg e, if_pos rfl, if_pos hk, if_pos (by omega)]
    · rw [if_neg e, if_neg e2]
      by_cases h8 : j < 8
      · simp only [if_pos h8]
        by_cases h9 : j < k
        · rw [if_pos h9, if_pos (by omega)]
        · rw [if_neg h9, if_neg (by omega)]
      · simp only [if_neg h8]
        by_cases h9 : j < 8 + k
        · rw [if_pos h9, if_pos (by omega)]
        · rw [if_neg h9, if_neg (by omega)]
theorem mixR_zero (A B : Rws) : mixR A B 0 = B := by
  funext j
  unfold mixR
  by_cases h8 : j < 8
  · rw [if_pos h8, if_neg (by omega)]
  · rw [if_neg h8, if_neg (by omega)]
theorem mixR_all (A B : Rws) (h : ∀ j, 16 ≤ j → A j = B j) : mixR A B 8 = A := by
  funext j
  unfold mixR
  by_cases h8 : j < 8
  · rw [if_pos h8, if_pos h8]
  · rw [if_neg h8]
    by_cases h9 : j < 8 + 8
    · rw [if_pos h9]
    · rw [if_neg h9]; exact (h j (by omega)).symm
theorem mixR_near (A B : Rws) {k : Nat} (hk : k < 8) : mixR A B k k = B k := by unfold mixR; rw [if_pos hk, if_neg (by omega)]
theorem mixR_far (A B : Rws) {k : Nat} (hk : k < 8) (l : List Tm) : updN (mixR A B k) k l (8 + k) = B (8 + k) := by unfold updN mixR; rw [if_neg (by omega), if_neg (by omega), if_neg (by omega)]
set_option maxRecDepth 10000 in
set_option maxHeartbeats 3200000 in
theorem specDrop_any (v : WV) (D : WD) (id : Int) (Y : Nat → Prop) (w : World) (h : WAt Y w v D) (hS : D.small) : Calls Try.prog 30 #[v.val D, .int .i64 id] w (GivesW (dropOut D id) w) := by
  have hb0 : Blw w (w.alloc (.cells #[.int .i64 D.now, .slice v.a1 D.N.n v.c1, .slice v.a2 D.F.n v.c2] 25)) := (Blw.refl _).alloc _
  have r0 := box3 w (.int .i64 D.now) (.slice v.a1 D.N.n v.c1) (.slice v.a2 D.F.n v.c2) 25
  obtain ⟨Wa, hWa⟩ : ∃ Wa, w.alloc (.cells #[.int .i64 D.now, .slice v.a1 D.N.n v.c1, .slice v.a2 D.F.n v.c2] 25) = Wa := ⟨_, rfl⟩
  rw [hWa] at hb0 r0
  have hsa : Wa.heap.size = w.heap.size + 1 := by rw [← hWa, World.size_alloc]
  have hb1 : Blw Wa (Wa.alloc (.cells #[.int .i64 0, .slice none 0 0, .slice none 0 0] 25)) := (Blw.refl _).alloc _
  have r1 := box3 Wa (.int .i64 0) (.slice none 0 0) (.slice none 0 0) 25
  have ra := r0.blw hb1
  obtain ⟨W0, hW0⟩ : ∃ W0, Wa.alloc (.cells #[.int .i64 0, .slice none 0 0, .slice none 0 0] 25) = W0 := ⟨_, rfl⟩
  rw [hW0] at hb1 r1 ra
  have HGD : Hid (Calls Try.prog 38 #[.agg #[.int .i64 D.now, .slice v.a1 D.N.n v.c1, .slice v.a2 D.F.n v.c2]] W0 (BRes (GoodD D) W0)) := specGood_any v D Y W0 ((h.blw hb0).blw hb1) hS
  have HAT : Hid (WAt Y W0 v D ∧ D.small) := ⟨(h.blw hb0).blw hb1, hS⟩
  have HB : Hid (Blw w W0 ∧ w.heap.size ≤ Wa.heap.size ∧ Wa.heap.size < W0.heap.size ∧ w.heap.size ≠ Wa.heap.size) := ⟨hb0.trans hb1, by omega, r1.lt, by omega⟩
  have HR1 : Hid (Row W0 Wa.heap.size 3 (t3 (.int .i64 0) (.slice none 0 0) (.slice none 0 0))) := r1
  have HRA : Hid (Row W0 w.heap.size 3 (t3 (.int .i64 D.now) (.slice v.a1 D.N.n v.c1) (.slice v.a2 D.F.n v.c2))) := ra
  clear h hb0 hb1 hsa hS
  have a0 : ∀ W, Blw W0 W → W.cell? ⟨w.heap.size, 0, none⟩ = some (.int .i64 D.now) := fun W hb => (get3 (HRA.out.blw hb)).1
  have a1 : ∀ W, Blw W0 W → W.cell? ⟨w.heap.size, 1, none⟩ = some (.slice v.a1 D.N.n v.c1) := fun W hb => (get3 (HRA.out.blw hb)).2.1
  have a2 : ∀ W, Blw W0 W → W.cell? ⟨w.heap.size, 2, none⟩ = some (.slice v.a2 D.F.n v.c2) := fun W hb => (get3 (HRA.out.blw hb)).2.2
  have b0 : ∀ W, Blw W0 W → W.cell? ⟨Wa.heap.size, 0, none⟩ = some (.int .i64 0) := fun W hb => (get3 (HR1.out.blw hb)).1
  have b1 : ∀ W, Blw W0 W → W.cell? ⟨Wa.heap.size, 1, none⟩ = some (.slice none 0 0) := fun W hb => (get3 (HR1.out.blw hb)).2.1
  have b2 : ∀ W, Blw W0 W → W.cell? ⟨Wa.heap.size, 2, none⟩ = some (.slice none 0 0) := fun W hb => (get3 (HR1.out.blw hb)).2.2
  have f0 : ∀ W, Blw W0 W → W.frozen? ⟨Wa.heap.size, 0, none⟩ = false := fun W hb => (HR1.out.blw hb).frozen 0
  have f1 : ∀ W, Blw W0 W → W.frozen? ⟨Wa.heap.size, 1, none⟩ = false := fun W hb => (HR1.out.blw hb).frozen 1
  have f2 : ∀ W, Blw W0 W → W.frozen? ⟨Wa.heap.size, 2, none⟩ = false := fun W hb => (HR1.out.blw hb).frozen 2
  have hrefl : Blw W0 W0 := Blw.refl _
  by_cases hg : GoodD D
  · have hn8 : D.N.n = 8 := hg.n
    have hf8 : D.F.n = 8 := hg.f
    have hwr0 : WRows Y W0 v D (rows16 D) := HAT.out.1.rows hn8 hf8
    have hall : (allS 8 (rows16 D)).length ≤ 20 := by rw [(allS_perm (rows16 D)).length_eq]; exact hg.g.len
    have HHA : Hid (∀ W, Blw W0 W → Calls Try.prog 61 #[.agg #[.int .i64 D.now, .slice v.a1 D.N.n v.c1, .slice v.a2 D.F.n v.c2], .int .i64 id] W (BRes (∃ x ∈ allR (rows16 D), x.1 = id) W)) := fun W hb => l11Has_any v D.now D.N D.F (rows16 D) Y id W hn8 hf8 (hwr0.blw hb) (by omega)
    have HAL : Hid (∀ W, Blw W0 W → Calls Try.prog 58 #[.agg #[.int .i64 D.now, .slice v.a1 D.N.n v.c1, .slice v.a2 D.F.n v.c2]] W fun e w' => ∃ a c, e = .returned (.slice a (allS 8 (rows16 D)).length c) ∧ Hid (LB (fun b => W.heap.size ≤ b ∧ b < w'.heap.size) w' a c (allS 8 (rows16 D)) ∧ Blw W w')) := fun W hb => l11All_any v D.now D.N D.F (rows16 D) Y W hn8 hf8 (hwr0.blw hb) (by omega)
    have HOW : Hid (∀ W, Blw W0 W → Calls Try.prog 53 #[.agg #[.int .i64 D.now, .slice v.a1 D.N.n v.c1, .slice v.a2 D.F.n v.c2]] W fun e w' => ∃ g1 g2 P C, e = .returned (.agg #[.int .i64 D.now, .slice (some ⟨g1, 0, none⟩) 8 8, .slice (some ⟨g2, 0, none⟩) 8 8]) ∧ Hid (OW W.heap.size g1 g2 (rows16 D) P C w' ∧ Blw W w')) := fun W hb => l11Own_any v D.now D.N D.F (rows16 D) Y W hn8 hf8 (hwr0.blw hb) (fun k hk => by have h5 := len_row (S := rows16 D) hk; have h6 := hg.g.len; omega) (fun k hk => rows16_out D k hk)
    have hall2 : (allS 8 (rows16 D)).length = (allR (rows16 D)).length := (allS_perm (rows16 D)).length_eq
    obtain ⟨L, hL⟩ : ∃ L, allS 8 (rows16 D) = L := ⟨_, rfl⟩
    rw [hL] at HAL hall hall2
    clear hL hwr0 hn8 hf8
    have G : Hid (GoodD D) := hg
    clear hg
    by_cases hh : ∃ x ∈ allR (rows16 D), x.1 = id
    · have HH : Hid (∃ x ∈ allR (rows16 D), x.1 = id) := hh
      clear hh
      go_enter Try.func30, Try.ntmps30
      go_upto_region 1 with fail
      try simp only [hWa, hW0]
      clear hWa hW0 r0 ra r1
      go_upto_region 3 with (first | (go_at_call 38; refine HGD.out.mono ?_; rintro e w1 ⟨q1, rfl, hq1, hbw1⟩; obtain rfl : q1 = true := hq1.2 G.out; clear hq1) | (go_at_call 61; refine (HHA.out _ hbw1).mono ?_; rintro e w2 ⟨q2, rfl, hq2, hbw2⟩; obtain rfl : q2 = true := hq2.2 HH.out; replace hbw2 := hbw1.trans hbw2; clear hq2) | fail)
      clear HAL HHA HGD
      go_upto_region 4 with (first | (go_at_call 53; refine (HOW.out _ hbw2).mono ?_; rintro e w4 hE4; obtain ⟨g1, g2, P, C, rfl, hE⟩ : ∃ g1 g2 P C, e = .returned (.agg #[.int .i64 D.now, .slice (some ⟨g1, 0, none⟩) 8 8, .slice (some ⟨g2, 0, none⟩) 8 8]) ∧ Hid (OW w2.heap.size g1 g2 (rows16 D) P C w4 ∧ Blw w2 w4) := hE4) | fail)
      have hb3 := hbw2.size
      have hbw4 := hbw2.trans hE.out.2
      have hba : Blw w4 (w4.alloc (.cells #[.int .i64 D.now, .slice (some ⟨g1, 0, none⟩) 8 8, .slice (some ⟨g2, 0, none⟩) 8 8] 25)) := (Blw.refl _).alloc _
      have HZ : Hid (Row (w4.alloc (.cells #[.int .i64 D.now, .slice (some ⟨g1, 0, none⟩) 8 8, .slice (some ⟨g2, 0, none⟩) 8 8] 25)) w4.heap.size 3 (t3 (.int .i64 D.now) (.slice (some ⟨g1, 0, none⟩) 8 8) (.slice (some ⟨g2, 0, none⟩) 8 8))) := box3 w4 _ _ _ 25
      have HO : Hid (OW w2.heap.size g1 g2 (rows16 D) P C (w4.alloc (.cells #[.int .i64 D.now, .slice (some ⟨g1, 0, none⟩) 8 8, .slice (some ⟨g2, 0, none⟩) 8 8] 25)) ∧ g1 < w4.heap.size ∧ g2 < w4.heap.size ∧ W0.heap.size ≤ w2.heap.size) := ⟨hE.out.1.blw hba, hE.out.1.n.lt, hE.out.1.f.lt, hb3⟩
      have hbw5 := hbw4.trans hba
      obtain ⟨zb, hzb⟩ : ∃ zb, w4.heap.size = zb := ⟨_, rfl⟩
      rw [hzb] at HZ HO
      have HNE : Hid (zb ≠ g1 ∧ zb ≠ g2 ∧ W0.heap.size ≤ g1 ∧ W0.heap.size ≤ g2) := by have h5 := HO.out; have h6 := h5.1.lo1; have h7 := h5.1.lo2; exact ⟨by omega, by omega, by omega, by omega⟩
      have HL : Hid (∀ k, k < 16 → (rows16 D k).length ≤ 20) := fun k hk => Nat.le_trans (len_row (S := rows16 D) hk) G.out.g.len
      generalize w4.alloc (.cells #[.int .i64 D.now, .slice (some ⟨g1, 0, none⟩) 8 8, .slice (some ⟨g2, 0, none⟩) 8 8] 25) = W5 at *
      rw [hzb]
      have HI0 : Hid ((fun W => OW w2.heap.size g1 g2 (mixR (dropR id (rows16 D)) (rows16 D) 0) (P) (C) W ∧ Row W zb 3 (t3 (.int .i64 D.now) (.slice (some ⟨g1, 0, none⟩) 8 8) (.slice (some ⟨g2, 0, none⟩) 8 8)) ∧ Blw W0 W) W5) := ⟨by rw [mixR_zero]; exact HO.out.1, HZ.out, hbw5⟩
      obtain ⟨z0, z1, z2⟩ := get3 HZ.out
      clear hE hba hzb HZ hbw4
      go_upto_region 5 with fail
      clear z0 z1 z2
      go_loopw [23] (fun i wr => ∃ (k : Nat) (P : Nat → Option Addr) (C : Nat → Nat), k ≤ 8 ∧ i = .int .i64 k ∧ Hid ((fun W => OW w2.heap.size g1 g2 (mixR (dropR id (rows16 D)) (rows16 D) k) (P) (C) W ∧ Row W zb 3 (t3 (.int .i64 D.now) (.slice (some ⟨g1, 0, none⟩) 8 8) (.slice (some ⟨g2, 0, none⟩) 8 8)) ∧ Blw W0 W) wr)) (fun i _ => 8 - (intOf i).toNat)
      case atStart => exact ⟨0, P, C, by omega, rfl, HI0.out⟩
      case round =>
        clear HI0 HO
        obtain ⟨k, P, C, hk, rfl, hI⟩ := hrel
        by_cases hlt : k < 8
        · have hlt' : (k : Int) < 8 := by omega
          go_upto_region 7 with fail
          have hbd7 : Blw wr wr.drew := (Blw.refl _).drew
          have hlo7 : w2.heap.size ≤ wr.heap.size := by have h5 := hI.out.1.lo1; have h6 := hI.out.1.n.lt; omega
          have hne7 := HNE.out
          have hmk7 : (mixR (dropR id (rows16 D)) (rows16 D) k) (k) = rows16 D (k) := mixR_near _ _ hlt
          have F0 : ∀ W, Mod (fun b => b = g1 ∨ b = g2) wr W → W.cell? ⟨zb, 1, none⟩ = some (.slice (some ⟨g1, 0, none⟩) 8 8) := fun W hm => (get3 (hI.out.2.1.mod hm (fun e => by omega))).2.1
          have c7 : wr.drew.cell? ⟨g1, k, none⟩ = some (.slice ((P) (k)) (rows16 D (k)).length ((C) (k))) := by rw [← hmk7]; exact (hI.out.1.n.blw hbd7).cell hlt
          have hat7 : UndosAt (fun b => (P) (k) = some ⟨b, 0, none⟩) wr.drew ((P) (k)) (rows16 D (k)).length (lf (rows16 D (k))) (la (rows16 D (k))) := by
            have h9 := (hI.out.1.blw hbd7).at (k := k) (by omega) (by rw [hmk7]; have h5 := HL.out (k) (by omega); omega)
            rw [hmk7] at h9
            exact h9
          have HCL7 : Hid (Calls Try.prog 65 #[.slice ((P) (k)) (rows16 D (k)).length ((C) (k)), .int .i64 id] wr.drew fun e w' => ∃ a' c', e = .returned (.slice a' (flt id (rows16 D (k))).length c') ∧ Hid (LB (fun b => wr.drew.heap.size ≤ b) w' a' c' (flt id (rows16 D (k))) ∧ Blw wr.drew w')) := l11Without_any _ _ _ id _ _ (by have h5 := HL.out (k) (by omega); omega) hat7
          obtain ⟨x7, hx7⟩ : ∃ x, (P) (k) = x := ⟨_, rfl⟩
          obtain ⟨y7, hy7⟩ : ∃ y, (C) (k) = y := ⟨_, rfl⟩
          rw [hx7, hy7] at c7 HCL7
          obtain ⟨L7, hL7⟩ : ∃ L, flt id (rows16 D (k)) = L := ⟨_, rfl⟩
          rw [hL7] at HCL7
          have hS0 : Mod (fun b => b = g1 ∨ b = g2) wr wr.drew := hbd7.mod _
          clear hx7 hy7 hat7 hmk7
          refine wp_region_noPanic ?_
          refine wp_region_held_drew (S := (Mod (fun b => b = g1 ∨ b = g2) wr)) (by kernel_rfl) hS0 (fun hB => ?_)
          clear hB
          refine wpAnyH_take (i := 0) (oi := { dst := some 26, op := Op.fieldAddr 25 (Operand.tmp 6) 1, type := 0, pos := _, after := #[], guard := none }) (v := (.pointer (some ⟨zb, 1, none⟩))) rfl (by kernel_rfl) (by kernel_rfl) (by kernel_rfl) (fun _ _ _ h => h) (Or.inl ⟨by rfl, fun w' hS => by (try dsimp only at hS); go_simp⟩) hS0 ?_
          simp only [Act.put, List.setIfInBounds_toArray, List.set_cons_zero, List.set_cons_succ]
          refine wpAnyH_take (i := 2) (oi := { dst := some 28, op := Op.move (Operand.tmp 7), type := 3, pos := _, after := #[], guard := none }) (v := (.int .i64 (k : Nat))) rfl (by kernel_rfl) (by kernel_rfl) (by kernel_rfl) (fun _ _ _ h => h) (Or.inl ⟨by rfl, fun w' hS => by (try dsimp only at hS); go_simp⟩) hS0 ?_
          simp only [Act.put, List.setIfInBounds_toArray, List.set_cons_zero, List.set_cons_succ]
          refine wpAnyH_take (i := 3) (oi := { dst := some 29, op := Op.fieldAddr 25 (Operand.tmp 6) 1, type := 0, pos := _, after := #[], guard := none }) (v := (.pointer (some ⟨zb, 1, none⟩))) rfl (by kernel_rfl) (by kernel_rfl) (by kernel_rfl) (fun _ _ _ h => h) (Or.inl ⟨by rfl, fun w' hS => by (try dsimp only at hS); go_simp⟩) hS0 ?_
          simp only [Act.put, List.setIfInBounds_toArray, List.set_cons_zero, List.set_cons_succ]
          refine wpAnyH_take (i := 5) (oi := { dst := some 31, op := Op.move (Operand.tmp 7), type := 3, pos := _, after := #[], guard := none }) (v := (.int .i64 (k : Nat))) rfl (by kernel_rfl) (by kernel_rfl) (by kernel_rfl) (fun _ _ _ h => h) (Or.inl ⟨by rfl, fun w' hS => by (try dsimp only at hS); go_simp⟩) hS0 ?_
          simp only [Act.put, List.setIfInBounds_toArray, List.set_cons_zero, List.set_cons_succ]
          refine wpAnyH_take (i := 8) (oi := { dst := some 34, op := Op.move (Operand.tmp 1), type := 3, pos := _, after := #[], guard := none }) (v := (.int .i64 id)) rfl (by kernel_rfl) (by kernel_rfl) (by kernel_rfl) (fun _ _ _ h => h) (Or.inl ⟨by rfl, fun w' hS => by (try dsimp only at hS); go_simp⟩) hS0 ?_
          simp only [Act.put, List.setIfInBounds_toArray, List.set_cons_zero, List.set_cons_succ]
          refine wpAnyH_take (i := 1) (oi := { dst := some 27, op := Op.load 23 (Operand.tmp 26), type := 23, pos := _, after := #[{ on := 0, ground := Ground.data }], guard := none }) (v := (.slice (some ⟨g1, 0, none⟩) 8 8)) rfl (by kernel_rfl) (by kernel_rfl) (by kernel_rfl) (fun _ _ _ h => h) (Or.inl ⟨by rfl, fun w' hS => by (try dsimp only at hS); go_simp⟩) hS0 ?_
          simp only [Act.put, List.setIfInBounds_toArray, List.set_cons_zero, List.set_cons_succ]
          refine wpAnyH_take (i := 4) (oi := { dst := some 30, op := Op.load 23 (Operand.tmp 29), type := 23, pos := _, after := #[{ on := 3, ground := Ground.data }], guard := none }) (v := (.slice (some ⟨g1, 0, none⟩) 8 8)) rfl (by kernel_rfl) (by kernel_rfl) (by kernel_rfl) (fun _ _ _ h => h) (Or.inl ⟨by rfl, fun w' hS => by (try dsimp only at hS); go_simp⟩) hS0 ?_
          simp only [Act.put, List.setIfInBounds_toArray, List.set_cons_zero, List.set_cons_succ]
          refine wpAnyH_take (i := 6) (oi := { dst := some 32, op := Op.indexAddr 23 (Operand.tmp 30) (Operand.tmp 31), type := 0, pos := _, after := #[{ on := 4, ground := Ground.data }, { on := 5, ground := Ground.data }], guard := none }) (v := (.pointer (some ⟨g1, k, none⟩))) rfl (by kernel_rfl) (by kernel_rfl) (by kernel_rfl) (fun _ _ _ h => h) (Or.inl ⟨by rfl, fun w' hS => by (try dsimp only at hS); go_simp⟩) hS0 ?_
          simp only [Act.put, List.setIfInBounds_toArray, List.set_cons_zero, List.set_cons_succ]
          refine wpAnyH_ready (rs := [7]) (by kernel_rfl) (by simp) ?_
          refine AllReadyH.cons (o := { dst := some 33, op := Op.load 31 (Operand.tmp 32), type := 31, pos := _, after := #[{ on := 6, ground := Ground.data }], guard := none }) rfl (fun K hK => ?_) AllReadyH.nil
          go_simp
          refine hK.out _ _ hS0 (fun hB => ?_)
          clear hK K hB
          try simp only [Act.put, List.setIfInBounds_toArray, List.set_cons_zero, List.set_cons_succ]
          refine wpAnyH_ready (rs := [9]) (by kernel_rfl) (by simp) ?_
          refine AllReadyH.cons (o := { dst := some 35, op := Op.call { callee := Callee.value (Operand.func 65), args := #[Operand.tmp 33, Operand.tmp 34], argTypes := #[31, 3] }, type := 31, pos := _, after := #[{ on := 7, ground := Ground.data }, { on := 8, ground := Ground.data }], guard := none }) rfl (fun K hK => ?_) AllReadyH.nil
          go_simp
          refine HCL7.out.mono ?_
          rintro e v7 ⟨a7, d7, rfl, hC7⟩
          have hbv7 : Blw wr v7 := hbd7.trans hC7.out.2
          have hup7 := OW.upd1 hI.out.1 hlt hlo7 hbv7 (hC7.out.1.mono (fun b hb => hb))
          have hfz7 := hI.out.1.n.blw hbv7
          have hfc7 := hfz7.cell hlt
          have hff7 := hfz7.frozen k
          have ms7 : Mod (fun b => b = g1 ∨ b = g2) v7 (v7.setCell ⟨g1, k, none⟩ (.slice a7 L7.length d7)) := Mod.setCell (X := (fun b => b = g1 ∨ b = g2)) _ (p := ⟨g1, k, none⟩) (Or.inl rfl) _
          have mt7 : Mod (fun b => b = g1 ∨ b = g2) wr (v7.setCell ⟨g1, k, none⟩ (.slice a7 L7.length d7)) := (hbv7.mod _).trans ms7
          have HQ : Hid ((fun W => OW w2.heap.size g1 g2 (updN ((mixR (dropR id (rows16 D)) (rows16 D) k)) (k) L7) (updN (P) (k) a7) (updN (C) (k) d7) W ∧ Row W zb 3 (t3 (.int .i64 D.now) (.slice (some ⟨g1, 0, none⟩) 8 8) (.slice (some ⟨g2, 0, none⟩) 8 8)) ∧ Blw W0 W) (v7.setCell ⟨g1, k, none⟩ (.slice a7 L7.length d7))) := ⟨hup7, hI.out.2.1.mod mt7 (fun e => by omega), Mod.blw hI.out.2.2 mt7 (fun i e => by have h5 := hI.out.1.lo1; have h6 := hI.out.1.lo2; omega)⟩
          clear hup7 hfz7 hC7 HCL7 c7 mt7
          refine hK.out _ _ (hbv7.mod _) (fun hB => ?_)
          clear hK K hB
          try simp only [Act.put, List.setIfInBounds_toArray, List.set_cons_zero, List.set_cons_succ]
          refine wpAnyH_take (i := 10) (oi := { dst := some 36, op := Op.indexAddr 23 (Operand.tmp 27) (Operand.tmp 28), type := 0, pos := _, after := #[{ on := 1, ground := Ground.data }, { on := 2, ground := Ground.data }, { on := 0, ground := Ground.phase }, { on := 1, ground := Ground.phase }, { on := 2, ground := Ground.phase }, { on := 3, ground := Ground.phase }, { on := 4, ground := Ground.phase }, { on := 5, ground := Ground.phase }, { on := 6, ground := Ground.phase }, { on := 7, ground := Ground.phase }, { on := 8, ground := Ground.phase }, { on := 9, ground := Ground.phase }], guard := none }) (v := (.pointer (some ⟨g1, k, none⟩))) rfl (by kernel_rfl) (by kernel_rfl) (by kernel_rfl) (fun _ _ _ h => h) (Or.inl ⟨by rfl, fun w' hS => by (try dsimp only at hS); go_simp⟩) (hbv7.mod _) ?_
          simp only [Act.put, List.setIfInBounds_toArray, List.set_cons_zero, List.set_cons_succ]
          refine wpAnyH_ready (rs := [11]) (by kernel_rfl) (by simp) ?_
          refine AllReadyH.cons (o := { dst := none, op := Op.store 31 (Operand.tmp 36) (Operand.tmp 35), type := 0, pos := _, after := #[{ on := 10, ground := Ground.data }, { on := 9, ground := Ground.data }, { on := 9, ground := Ground.chain }, { on := 0, ground := Ground.phase }, { on := 1, ground := Ground.phase }, { on := 2, ground := Ground.phase }, { on := 3, ground := Ground.phase }, { on := 4, ground := Ground.phase }, { on := 5, ground := Ground.phase }, { on := 6, ground := Ground.phase }, { on := 7, ground := Ground.phase }, { on := 8, ground := Ground.phase }, { on := 9, ground := Ground.phase }], guard := none }) rfl (fun K hK => ?_) AllReadyH.nil
          go_simp
          refine hK.out _ _ ((hbv7.mod _).trans ms7) (fun hB => ?_)
          clear hK K hB
          try simp only [Act.put, List.setIfInBounds_toArray, List.set_cons_zero, List.set_cons_succ]
          refine wpAnyH_done (by kernel_rfl) ?_ _
          refine NoPanic.normal ?_
          clear hI F0 hS0 hbv7 hfc7 hff7 ms7 hlo7
          generalize v7.setCell ⟨g1, k, none⟩ (.slice a7 L7.length d7) = wq at *
          go_upto_region 8 with fail
          have hbd8 : Blw wq wq.drew := (Blw.refl _).drew
          have hlo8 : w2.heap.size ≤ wq.heap.size := by have h5 := HQ.out.1.lo1; have h6 := HQ.out.1.n.lt; omega
          have hne8 := HNE.out
          have hmk8 : (updN (mixR (dropR id (rows16 D)) (rows16 D) k) (k) L7) (8 + k) = rows16 D (8 + k) := mixR_far _ _ hlt _
          have F0 : ∀ W, Mod (fun b => b = g1 ∨ b = g2) wq W → W.cell? ⟨zb, 2, none⟩ = some (.slice (some ⟨g2, 0, none⟩) 8 8) := fun W hm => (get3 (HQ.out.2.1.mod hm (fun e => by omega))).2.2
          have c7 : wq.drew.cell? ⟨g2, k, none⟩ = some (.slice ((updN P (k) a7) (8 + k)) (rows16 D (8 + k)).length ((updN C (k) d7) (8 + k))) := by rw [← hmk8]; exact (HQ.out.1.f.blw hbd8).cell hlt
          have hat8 : UndosAt (fun b => (updN P (k) a7) (8 + k) = some ⟨b, 0, none⟩) wq.drew ((updN P (k) a7) (8 + k)) (rows16 D (8 + k)).length (lf (rows16 D (8 + k))) (la (rows16 D (8 + k))) := by
            have h9 := (HQ.out.1.blw hbd8).at (k := 8 + k) (by omega) (by rw [hmk8]; have h5 := HL.out (8 + k) (by omega); omega)
            rw [hmk8] at h9
            exact h9
          have HCL8 : Hid (Calls Try.prog 65 #[.slice ((updN P (k) a7) (8 + k)) (rows16 D (8 + k)).length ((updN C (k) d7) (8 + k)), .int .i64 id] wq.drew fun e w' => ∃ a' c', e = .returned (.slice a' (flt id (rows16 D (8 + k))).length c') ∧ Hid (LB (fun b => wq.drew.heap.size ≤ b) w' a' c' (flt id (rows16 D (8 + k))) ∧ Blw wq.drew w')) := l11Without_any _ _ _ id _ _ (by have h5 := HL.out (8 + k) (by omega); omega) hat8
          obtain ⟨x8, hx8⟩ : ∃ x, (updN P (k) a7) (8 + k) = x := ⟨_, rfl⟩
          obtain ⟨y8, hy8⟩ : ∃ y, (updN C (k) d7) (8 + k) = y := ⟨_, rfl⟩
          rw [hx8, hy8] at c7 HCL8
          obtain ⟨L8, hL8⟩ : ∃ L, flt id (rows16 D (8 + k)) = L := ⟨_, rfl⟩
          rw [hL8] at HCL8
          have hS0 : Mod (fun b => b = g1 ∨ b = g2) wq wq.drew := hbd8.mod _
          clear hx8 hy8 hat8 hmk8
          refine wp_region_noPanic ?_
          refine wp_region_held_drew (S := (Mod (fun b => b = g1 ∨ b = g2) wq)) (by kernel_rfl) hS0 (fun hB => ?_)
          clear hB
          refine wpAnyH_take (i := 0) (oi := { dst := some 37, op := Op.fieldAddr 25 (Operand.tmp 6) 2, type := 0, pos := _, after := #[], guard := none }) (v := (.pointer (some ⟨zb, 2, none⟩))) rfl (by kernel_rfl) (by kernel_rfl) (by kernel_rfl) (fun _ _ _ h => h) (Or.inl ⟨by rfl, fun w' hS => by (try dsimp only at hS); go_simp⟩) hS0 ?_
          simp only [Act.put, List.setIfInBounds_toArray, List.set_cons_zero, List.set_cons_succ]
          refine wpAnyH_take (i := 2) (oi := { dst := some 39, op := Op.move (Operand.tmp 7), type := 3, pos := _, after := #[], guard := none }) (v := (.int .i64 (k : Nat))) rfl (by kernel_rfl) (by kernel_rfl) (by kernel_rfl) (fun _ _ _ h => h) (Or.inl ⟨by rfl, fun w' hS => by (try dsimp only at hS); go_simp⟩) hS0 ?_
          simp only [Act.put, List.setIfInBounds_toArray, List.set_cons_zero, List.set_cons_succ]
          refine wpAnyH_take (i := 3) (oi := { dst := some 40, op := Op.fieldAddr 25 (Operand.tmp 6) 2, type := 0, pos := _, after := #[], guard := none }) (v := (.pointer (some ⟨zb, 2, none⟩))) rfl (by kernel_rfl) (by kernel_rfl) (by kernel_rfl) (fun _ _ _ h => h) (Or.inl ⟨by rfl, fun w' hS => by (try dsimp only at hS); go_simp⟩) hS0 ?_
          simp only [Act.put, List.setIfInBounds_toArray, List.set_cons_zero, List.set_cons_succ]
          refine wpAnyH_take (i := 5) (oi := { dst := some 42, op := Op.move (Operand.tmp 7), type := 3, pos := _, after := #[], guard := none }) (v := (.int .i64 (k : Nat))) rfl (by kernel_rfl) (by kernel_rfl) (by kernel_rfl) (fun _ _ _ h => h) (Or.inl ⟨by rfl, fun w' hS => by (try dsimp only at hS); go_simp⟩) hS0 ?_
          simp only [Act.put, List.setIfInBounds_toArray, List.set_cons_zero, List.set_cons_succ]
          refine wpAnyH_take (i := 8) (oi := { dst := some 45, op := Op.move (Operand.tmp 1), type := 3, pos := _, after := #[], guard := none }) (v := (.int .i64 id)) rfl (by kernel_rfl) (by kernel_rfl) (by kernel_rfl) (fun _ _ _ h => h) (Or.inl ⟨by rfl, fun w' hS => by (try dsimp only at hS); go_simp⟩) hS0 ?_
          simp only [Act.put, List.setIfInBounds_toArray, List.set_cons_zero, List.set_cons_succ]
          refine wpAnyH_take (i := 1) (oi := { dst := some 38, op := Op.load 23 (Operand.tmp 37), type := 23, pos := _, after := #[{ on := 0, ground := Ground.data }], guard := none }) (v := (.slice (some ⟨g2, 0, none⟩) 8 8)) rfl (by kernel_rfl) (by kernel_rfl) (by kernel_rfl) (fun _ _ _ h => h) (Or.inl ⟨by rfl, fun w' hS => by (try dsimp only at hS); go_simp⟩) hS0 ?_
          simp only [Act.put, List.setIfInBounds_toArray, List.set_cons_zero, List.set_cons_succ]
          refine wpAnyH_take (i := 4) (oi := { dst := some 41, op := Op.load 23 (Operand.tmp 40), type := 23, pos := _, after := #[{ on := 3, ground := Ground.data }], guard := none }) (v := (.slice (some ⟨g2, 0, none⟩) 8 8)) rfl (by kernel_rfl) (by kernel_rfl) (by kernel_rfl) (fun _ _ _ h => h) (Or.inl ⟨by rfl, fun w' hS => by (try dsimp only at hS); go_simp⟩) hS0 ?_
          simp only [Act.put, List.setIfInBounds_toArray, List.set_cons_zero, List.set_cons_succ]
          refine wpAnyH_take (i := 6) (oi := { dst := some 43, op := Op.indexAddr 23 (Operand.tmp 41) (Operand.tmp 42), type := 0, pos := _, after := #[{ on := 4, ground := Ground.data }, { on := 5, ground := Ground.data }], guard := none }) (v := (.pointer (some ⟨g2, k, none⟩))) rfl (by kernel_rfl) (by kernel_rfl) (by kernel_rfl) (fun _ _ _ h => h) (Or.inl ⟨by rfl, fun w' hS => by (try dsimp only at hS); go_simp⟩) hS0 ?_
          simp only [Act.put, List.setIfInBounds_toArray, List.set_cons_zero, List.set_cons_succ]
          refine wpAnyH_ready (rs := [7]) (by kernel_rfl) (by simp) ?_
          refine AllReadyH.cons (o := { dst := some 44, op := Op.load 31 (Operand.tmp 43), type := 31, pos := _, after := #[{ on := 6, ground := Ground.data }], guard := none }) rfl (fun K hK => ?_) AllReadyH.nil
          go_simp
          refine hK.out _ _ hS0 (fun hB => ?_)
          clear hK K hB
          try simp only [Act.put, List.setIfInBounds_toArray, List.set_cons_zero, List.set_cons_succ]
          refine wpAnyH_ready (rs := [9]) (by kernel_rfl) (by simp) ?_
          refine AllReadyH.cons (o := { dst := some 46, op := Op.call { callee := Callee.value (Operand.func 65), args := #[Operand.tmp 44, Operand.tmp 45], argTypes := #[31, 3] }, type := 31, pos := _, after := #[{ on := 7, ground := Ground.data }, { on := 8, ground := Ground.data }], guard := none }) rfl (fun K hK => ?_) AllReadyH.nil
          go_simp
          refine HCL8.out.mono ?_
          rintro e v8 ⟨a8, d8, rfl, hC8⟩
          have hbv8 : Blw wq v8 := hbd8.trans hC8.out.2
          have hup8 := OW.upd2 HQ.out.1 hlt hlo8 hbv8 (hC8.out.1.mono (fun b hb => hb))
          have hfz8 := HQ.out.1.f.blw hbv8
          have hfc8 := hfz8.cell hlt
          have hff8 := hfz8.frozen k
          have ms8 : Mod (fun b => b = g1 ∨ b = g2) v8 (v8.setCell ⟨g2, k, none⟩ (.slice a8 L8.length d8)) := Mod.setCell (X := (fun b => b = g1 ∨ b = g2)) _ (p := ⟨g2, k, none⟩) (Or.inr rfl) _
          have mt8 : Mod (fun b => b = g1 ∨ b = g2) wq (v8.setCell ⟨g2, k, none⟩ (.slice a8 L8.length d8)) := (hbv8.mod _).trans ms8
          have HF : Hid ((fun W => OW w2.heap.size g1 g2 (updN ((updN (mixR (dropR id (rows16 D)) (rows16 D) k) (k) L7)) (8 + k) L8) (updN (updN P (k) a7) (8 + k) a8) (updN (updN C (k) d7) (8 + k) d8) W ∧ Row W zb 3 (t3 (.int .i64 D.now) (.slice (some ⟨g1, 0, none⟩) 8 8) (.slice (some ⟨g2, 0, none⟩) 8 8)) ∧ Blw W0 W) (v8.setCell ⟨g2, k, none⟩ (.slice a8 L8.length d8))) := ⟨hup8, HQ.out.2.1.mod mt8 (fun e => by omega), Mod.blw HQ.out.2.2 mt8 (fun i e => by have h5 := HQ.out.1.lo1; have h6 := HQ.out.1.lo2; omega)⟩
          clear hup8 hfz8 hC8 HCL8 c7 mt8
          refine hK.out _ _ (hbv8.mod _) (fun hB => ?_)
          clear hK K hB
          try simp only [Act.put, List.setIfInBounds_toArray, List.set_cons_zero, List.set_cons_succ]
          refine wpAnyH_take (i := 10) (oi := { dst := some 47, op := Op.indexAddr 23 (Operand.tmp 38) (Operand.tmp 39), type := 0, pos := _, after := #[{ on := 1, ground := Ground.data }, { on := 2, ground := Ground.data }, { on := 0, ground := Ground.phase }, { on := 1, ground := Ground.phase }, { on := 2, ground := Ground.phase }, { on := 3, ground := Ground.phase }, { on := 4, ground := Ground.phase }, { on := 5, ground := Ground.phase }, { on := 6, ground := Ground.phase }, { on := 7, ground := Ground.phase }, { on := 8, ground := Ground.phase }, { on := 9, ground := Ground.phase }], guard := none }) (v := (.pointer (some ⟨g2, k, none⟩))) rfl (by kernel_rfl) (by kernel_rfl) (by kernel_rfl) (fun _ _ _ h => h) (Or.inl ⟨by rfl, fun w' hS => by (try dsimp only at hS); go_simp⟩) (hbv8.mod _) ?_
          simp only [Act.put, List.setIfInBounds_toArray, List.set_cons_zero, List.set_cons_succ]
          refine wpAnyH_ready (rs := [11]) (by kernel_rfl) (by simp) ?_
          refine AllReadyH.cons (o := { dst := none, op := Op.store 31 (Operand.tmp 47) (Operand.tmp 46), type := 0, pos := _, after := #[{ on := 10, ground := Ground.data }, { on := 9, ground := Ground.data }, { on := 9, ground := Ground.chain }, { on := 0, ground := Ground.phase }, { on := 1, ground := Ground.phase }, { on := 2, ground := Ground.phase }, { on := 3, ground := Ground.phase }, { on := 4, ground := Ground.phase }, { on := 5, ground := Ground.phase }, { on := 6, ground := Ground.phase }, { on := 7, ground := Ground.phase }, { on := 8, ground := Ground.phase }, { on := 9, ground := Ground.phase }], guard := none }) rfl (fun K hK => ?_) AllReadyH.nil
          go_simp
          refine hK.out _ _ ((hbv8.mod _).trans ms8) (fun hB => ?_)
          clear hK K hB
          try simp only [Act.put, List.setIfInBounds_toArray, List.set_cons_zero, List.set_cons_succ]
          refine wpAnyH_done (by kernel_rfl) ?_ _
          refine NoPanic.normal ?_
          have hfin : updN (updN (mixR (dropR id (rows16 D)) (rows16 D) k) (k) L7) (8 + k) L8 = mixR (dropR id (rows16 D)) (rows16 D) (k + 1) := by rw [← hL7, ← hL8]; exact mixR_succ (dropR id (rows16 D)) (rows16 D) hlt
          rw [hfin] at HF
          clear HQ F0 hS0 hbv8 hfc8 hff8 ms8 hfin hL7 hL8
          generalize v8.setCell ⟨g2, k, none⟩ (.slice a8 L8.length d8) = wp at *
          go_wp2
          go_roundw
          case rel => exact ⟨k + 1, _, _, by omega, by go_num, HF.out⟩
          case measure => simp [intOf]; omega
        · obtain rfl : k = 8 := by omega
          rw [mixR_all _ _ (fun j hj => by unfold dropR; rw [rows16_out D j hj]; rfl)] at hI
          obtain ⟨ho, hz9, hbw6⟩ := hI.out
          obtain ⟨z0, z1, z2⟩ := get3 hz9
          go_wp2_with fail
          have r9 := set3_2 (set3_1 (set3_0 (HR1.out.blw hbw6) (.int .i64 D.now)) (.slice (some ⟨g1, 0, none⟩) 8 8)) (.slice (some ⟨g2, 0, none⟩) 8 8)
          obtain ⟨u0, u1, u2⟩ := get3 r9
          have mS := set3_mod (X := fun b => b = Wa.heap.size) wr rfl (.int .i64 D.now) (.slice (some ⟨g1, 0, none⟩) 8 8) (.slice (some ⟨g2, 0, none⟩) 8 8)
          clear a0 a1 a2 b0 b1 b2 f0 f1 f2 z0 z1 z2
          refine bodyPost_ret (v := .tuple #[.agg #[.int .i64 D.now, .slice (some ⟨g1, 0, none⟩) 8 8, .slice (some ⟨g2, 0, none⟩) 8 8], .bool true]) (by rw [results_cell_tmp rfl]; simp [asAddr, Result.andThen, go_sem, u0, u1, u2]) rfl ?_
          have hle := HB.out.2.1
          have hlt9 := HB.out.2.2.1
          have h00 := HB.out.1.size
          have hdl := drop_len id (rows16 D)
          have hgl := G.out.g.len
          have hO9 := (ho.mod mS (fun b hb e => by omega)).own D.now (fun k hk => by have h6 := len_row (S := dropR id (rows16 D)) hk; omega)
          exact ⟨⟨some ⟨g1, 0, none⟩, some ⟨g2, 0, none⟩, 8, 8⟩, wd8 D.now (dropR id (rows16 D)), true, rfl, Or.inl ⟨⟨G.out, HH.out⟩, rfl, rfl⟩, small8 (by omega), hO9.mono (fun b hb => ⟨by omega, hb.2⟩), Mod.blw (HB.out.1.trans hbw6) mS (fun i e => by omega)⟩
    · have HH : Hid (¬ ∃ x ∈ allR (rows16 D), x.1 = id) := hh
      clear hh
      go_enter Try.func30, Try.ntmps30
      go_upto_region 1 with fail
      try simp only [hWa, hW0]
      clear hWa hW0 r0 ra r1
      go_wp2_with (first | (go_at_call 38; refine HGD.out.mono ?_; rintro e w1 ⟨q1, rfl, hq1, hbw1⟩; obtain rfl : q1 = true := hq1.2 G.out; clear hq1) | (go_at_call 61; refine (HHA.out _ hbw1).mono ?_; rintro e w2 ⟨q2, rfl, hq2, hbw2⟩; obtain rfl : q2 = false := (by cases q2; rfl; exact absurd (hq2.1 rfl) HH.out); replace hbw2 := hbw1.trans hbw2; clear hq2) | fail)
      have hBX := hbw2
      have r9 := set3_2 (set3_1 (set3_0 (HR1.out.blw hBX) (.int .i64 0)) (.slice none 0 0)) (.slice none 0 0)
      obtain ⟨u0, u1, u2⟩ := get3 r9
      have mS := set3_mod (X := fun b => b = Wa.heap.size) w2 rfl (.int .i64 0) (.slice none 0 0) (.slice none 0 0)
      clear a0 a1 a2 b0 b1 b2 f0 f1 f2
      refine bodyPost_ret (v := .tuple #[.agg #[.int .i64 0, .slice none 0 0, .slice none 0 0], .bool false]) (by rw [results_cell_tmp rfl]; simp [asAddr, Result.andThen, go_sem, u0, u1, u2]) rfl ?_
      have hle := HB.out.2.1
      exact ⟨WV.zero, WD.zero, false, rfl, Or.inr ⟨fun hp => HH.out hp.2, rfl, rfl⟩, small_zero, WOwn.zero _ _, Mod.blw (HB.out.1.trans hBX) mS (fun i e => by omega)⟩
  · have NG : Hid (¬ GoodD D) := hg
    clear hg
    go_enter Try.func30, Try.ntmps30
    go_upto_region 1 with fail
    try simp only [hWa, hW0]
    clear hWa hW0 r0 ra r1
    go_wp2_with (first | (go_at_call 38; refine HGD.out.mono ?_; rintro e w1 ⟨q1, rfl, hq1, hbw1⟩; obtain rfl : q1 = false := (by cases q1; rfl; exact absurd (hq1.1 rfl) NG.out); clear hq1) | fail)
    have hBX := hbw1
    have r9 := set3_2 (set3_1 (set3_0 (HR1.out.blw hBX) (.int .i64 0)) (.slice none 0 0)) (.slice none 0 0)
    obtain ⟨u0, u1, u2⟩ := get3 r9
    have mS := set3_mod (X := fun b => b = Wa.heap.size) w1 rfl (.int .i64 0) (.slice none 0 0) (.slice none 0 0)
    clear a0 a1 a2 b0 b1 b2 f0 f1 f2
    refine bodyPost_ret (v := .tuple #[.agg #[.int .i64 0, .slice none 0 0, .slice none 0 0], .bool false]) (by rw [results_cell_tmp rfl]; simp [asAddr, Result.andThen, go_sem, u0, u1, u2]) rfl ?_
    have hle := HB.out.2.1
    exact ⟨WV.zero, WD.zero, false, rfl, Or.inr ⟨fun hp => NG.out hp.1, rfl, rfl⟩, small_zero, WOwn.zero _ _, Mod.blw (HB.out.1.trans hBX) mS (fun i e => by omega)⟩
end Go.Proofs.Ytkmkidahaagbpaa
