/- Merged by program, in this order: Hg, OwnG, StpA, StpB, StpC. -/
import Derived.Test.YtbpdopcdhnemfaaJoin3
/- Guests: the program's held ones. -/
namespace Go.Proofs.Ytbpdopcdhnemfaa
open Go.RowKit
set_option linter.unusedSimpArgs false
set_option linter.unusedVariables false
theorem hcf_cells {w : World} {z : Nat} {at_ acc : Int} {c : Nat → Int} {nt : Int} {d : Bool} (h : Row w z 32 (fun i => if 2 ≤ i ∧ i < 2 + 8 then .int .i64 (c (i - 2)) else hcf at_ acc (fun _ => 0) (fun _ => 0) nt d i)) : Row w z 32 (hcf at_ acc c (fun _ => 0) nt d) :=
  h.congr fun i hi => by
    unfold hcf
    by_cases e : 2 ≤ i ∧ i < 2 + 8
    · rw [if_pos e, if_neg (by omega), if_neg (by omega), if_pos (by omega)]
    · rw [if_neg e]
      by_cases e0 : i = 0
      · rw [if_pos e0, if_pos e0]
      · by_cases e1 : i = 1
        · rw [if_neg e0, if_pos e1, if_neg e0, if_pos e1]
        · have e2 : ¬ i < 10 := by omega
          rw [if_neg e0, if_neg e1, if_neg e2, if_neg e0, if_neg e1, if_neg e2]
theorem hcf_told {w : World} {z : Nat} {D : GD} (hn : D.nt ≤ 20) (h : Row w z 32 (fun i => if 10 ≤ i ∧ i < 10 + D.nt then .int .i64 (D.t (i - 10)) else hcf D.at_ D.acc D.c (fun _ => 0) D.nt D.d i)) : Row w z 32 (hc D) :=
  h.congr fun i hi => by
    unfold hc hcf tz
    by_cases e : 10 ≤ i ∧ i < 10 + D.nt
    · rw [if_pos e, if_neg (by omega), if_neg (by omega), if_neg (by omega), if_pos (by omega), if_pos (by omega)]
    · rw [if_neg e]
      by_cases e0 : i = 0
      · rw [if_pos e0, if_pos e0]
      · by_cases e1 : i = 1
        · rw [if_neg e0, if_pos e1, if_neg e0, if_pos e1]
        · by_cases e2 : i < 10
          · rw [if_neg e0, if_neg e1, if_pos e2, if_neg e0, if_neg e1, if_pos e2]
          · by_cases e3 : i < 30
            · rw [if_neg e0, if_neg e1, if_neg e2, if_pos e3, if_neg e0, if_neg e1, if_neg e2, if_pos e3, if_neg (by omega)]
            · rw [if_neg e0, if_neg e1, if_neg e2, if_neg e3, if_neg e0, if_neg e1, if_neg e2, if_neg e3]
/-- The cells and the words of a held guest, as slices of its block at an offset. -/
theorem held_ints {w : World} {z o : Nat} {D : GD} (h : Cells w z o 32 (hc D)) : IntsAt (fun b => b = z) w (some ⟨z, o + 2, none⟩) 8 D.c ∧ IntsAt (fun b => b = z) w (some ⟨z, o + 10, none⟩) 20 (tz D) := by
  refine ⟨⟨by omega, fun i hi => ⟨z, o + 2, rfl, rfl, ?_⟩⟩, ⟨by omega, fun i hi => ⟨z, o + 10, rfl, rfl, ?_⟩⟩⟩
  · have := (h (2 + i) (by omega)).1
    rw [← Nat.add_assoc] at this
    rw [this]
    unfold hc hcf
    rw [if_neg (by omega), if_neg (by omega), if_pos (by omega)]
    congr 2
    congr 1
    omega
  · have := (h (10 + i) (by omega)).1
    rw [← Nat.add_assoc] at this
    rw [this]
    unfold hc hcf
    rw [if_neg (by omega), if_neg (by omega), if_neg (by omega), if_pos (by omega)]
    congr 2
    congr 1
    omega
set_option maxRecDepth 10000 in
set_option maxHeartbeats 6400000 in
theorem holdGuest_any (v : GV) (D : GD) (Y : Nat → Prop) (w : World) (h : GAt Y w v D) (hY : ∀ b, Y b → b < w.heap.size) :
    Calls Try.prog 120 #[v.val D] w fun e w' => ((D.Good ∧ e = .returned (.tuple #[.agg (lst 32 (hc D)).toArray, .bool true])) ∨ (¬ D.Good ∧ e = .returned (.tuple #[.agg (lst 32 hz).toArray, .bool false]))) ∧ Blw w w' := by
  have HB : Hid (Blw w (w.alloc (.cells #[.int .i64 D.at_, .int .i64 D.acc, .slice v.a1 D.nc v.c1, .slice v.a2 D.nt v.c2, .bool D.d] 61))) := (Blw.refl _).alloc _
  have R0 : Hid (Row (w.alloc (.cells #[.int .i64 D.at_, .int .i64 D.acc, .slice v.a1 D.nc v.c1, .slice v.a2 D.nt v.c2, .bool D.d] 61)) w.heap.size 5 (gb v D)) := row5 w _ _ _ _ _ 61
  have HW : Hid (GAt Y w v D) := h
  have HY : Hid (∀ b, Y b → b < w.heap.size) := hY
  have hao1 : v.a1 = none → D.nc = 0 := fun e => Classical.byContradiction fun hn => by obtain ⟨b, o, e', -, -⟩ := h.c.2 0 (by omega); rw [e] at e'; cases e'
  have hao2 : v.a2 = none → D.nt = 0 := fun e => Classical.byContradiction fun hn => by obtain ⟨b, o, e', -, -⟩ := h.t.2 0 (by omega); rw [e] at e'; cases e'
  have HAO : Hid ((v.a1 = none → D.nc = 0) ∧ (v.a2 = none → D.nt = 0)) := ⟨hao1, hao2⟩
  have hn1 := h.c.1
  have hn2 := h.t.1
  clear h hY hao1 hao2
  go_enter Try.func120, Try.ntmps120
  go_upto_region 1 with (first | (refine alloc_big rfl 148 rfl 32 hz zeroH ?_; intro w1 RZ hb1 hz1) | fail)
  rw [World.size_alloc] at RZ hz1
  have HZ : Hid (Row w1 (w.heap.size + 1) 32 hz) := RZ
  replace R0 : Hid (Row w1 w.heap.size 5 (gb v D)) := R0.out.blw hb1
  replace HB : Hid (Blw w w1) := HB.out.trans hb1
  have HS1 : Hid (w1.heap.size = w.heap.size + 1 + 1) := hz1
  clear RZ hb1 hz1
  try simp only [World.size_alloc]
  obtain ⟨p0, p1, p2, p3, p4⟩ := get5 R0.out
  by_cases ha0 : D.at_ < 0
  · clear HW HAO HY R0
    have HN : Hid (¬ D.Good) := fun g => by have := g.a0; omega
    have HRZ := HZ.out
    go_wp2_with (first | (refine wpList_buildTo rfl 148 _ rfl _ rfl (lst 32 hz).toArray (by kernel_rfl) ?_) | (refine store_big rfl 148 _ _ rfl (w.heap.size + 1) 32 hz hz rfl rfl wdH HRZ (fun i _ => hcf_one _ _ _ _ _ _ i) ?_; intro wz RZ9 hm9 hs9; have HF9 : Hid (Row wz (w.heap.size + 1) 32 hz ∧ Blw w wz) := ⟨RZ9, Mod.blw HB.out hm9 (fun i hi => by omega)⟩; clear RZ9 hm9 hs9 HRZ) | fail)
    refine bodyPost_ret (v := .tuple #[.agg (lst 32 hz).toArray, .bool false]) (by rw [results_cell_tmp rfl]; simp [asAddr, Result.andThen, run_load_big wdH HF9.out.1.cells]) rfl ⟨Or.inr ⟨HN.out, rfl⟩, HF9.out.2⟩

  by_cases ha1 : D.at_ > 16
  · clear HW HAO HY R0
    have HN : Hid (¬ D.Good) := fun g => by have := g.a1; omega
    have HRZ := HZ.out
    go_wp2_with (first | (refine wpList_buildTo rfl 148 _ rfl _ rfl (lst 32 hz).toArray (by kernel_rfl) ?_) | (refine store_big rfl 148 _ _ rfl (w.heap.size + 1) 32 hz hz rfl rfl wdH HRZ (fun i _ => hcf_one _ _ _ _ _ _ i) ?_; intro wz RZ9 hm9 hs9; have HF9 : Hid (Row wz (w.heap.size + 1) 32 hz ∧ Blw w wz) := ⟨RZ9, Mod.blw HB.out hm9 (fun i hi => by omega)⟩; clear RZ9 hm9 hs9 HRZ) | fail)
    refine bodyPost_ret (v := .tuple #[.agg (lst 32 hz).toArray, .bool false]) (by rw [results_cell_tmp rfl]; simp [asAddr, Result.andThen, run_load_big wdH HF9.out.1.cells]) rfl ⟨Or.inr ⟨HN.out, rfl⟩, HF9.out.2⟩

  have GA : Hid (0 ≤ D.at_ ∧ D.at_ ≤ 16) := ⟨by omega, by omega⟩
  go_wp2_with fail
  refine (isWord_any D.acc _).mono ?_
  rintro e w1 ⟨r, rfl, hr, rfl⟩
  have H1 : Hid (r = true ↔ wordOK D.acc) := hr
  clear hr
  cases r
  · clear HW HAO HY R0
    have HN : Hid (¬ D.Good) := fun g => by have := H1.out.2 g.acc; cases this
    have HRZ := HZ.out
    go_wp2_with (first | (refine wpList_buildTo rfl 148 _ rfl _ rfl (lst 32 hz).toArray (by kernel_rfl) ?_) | (refine store_big rfl 148 _ _ rfl (w.heap.size + 1) 32 hz hz rfl rfl wdH HRZ (fun i _ => hcf_one _ _ _ _ _ _ i) ?_; intro wz RZ9 hm9 hs9; have HF9 : Hid (Row wz (w.heap.size + 1) 32 hz ∧ Blw w wz) := ⟨RZ9, Mod.blw HB.out hm9 (fun i hi => by omega)⟩; clear RZ9 hm9 hs9 HRZ) | fail)
    refine bodyPost_ret (v := .tuple #[.agg (lst 32 hz).toArray, .bool false]) (by rw [results_cell_tmp rfl]; simp [asAddr, Result.andThen, run_load_big wdH HF9.out.1.cells]) rfl ⟨Or.inr ⟨HN.out, rfl⟩, HF9.out.2⟩

  have GB : Hid (wordOK D.acc) := H1.out.1 (by first | rfl | trivial)
  clear H1
  by_cases h8 : D.nc = 8
  case neg =>
    have d8 : ((D.nc : Int) != 8) = true := by simp; omega
    clear HW HAO HY R0
    have HN : Hid (¬ D.Good) := fun g => h8 g.nc
    have HRZ := HZ.out
    go_wp2_with (first | (refine wpList_buildTo rfl 148 _ rfl _ rfl (lst 32 hz).toArray (by kernel_rfl) ?_) | (refine store_big rfl 148 _ _ rfl (w.heap.size + 1) 32 hz hz rfl rfl wdH HRZ (fun i _ => hcf_one _ _ _ _ _ _ i) ?_; intro wz RZ9 hm9 hs9; have HF9 : Hid (Row wz (w.heap.size + 1) 32 hz ∧ Blw w wz) := ⟨RZ9, Mod.blw HB.out hm9 (fun i hi => by omega)⟩; clear RZ9 hm9 hs9 HRZ) | fail)
    refine bodyPost_ret (v := .tuple #[.agg (lst 32 hz).toArray, .bool false]) (by rw [results_cell_tmp rfl]; simp [asAddr, Result.andThen, run_load_big wdH HF9.out.1.cells]) rfl ⟨Or.inr ⟨HN.out, rfl⟩, HF9.out.2⟩

  have d8 : ((D.nc : Int) != 8) = false := by simp [h8]
  have G8 : Hid (D.nc = 8) := h8
  clear h8
  by_cases h20 : D.nt ≤ 20
  case neg =>
    have d20 : ¬ (D.nt : Int) ≤ 20 := by omega
    clear HW HAO HY R0
    have HN : Hid (¬ D.Good) := fun g => h20 g.nt
    have HRZ := HZ.out
    go_wp2_with (first | (refine wpList_buildTo rfl 148 _ rfl _ rfl (lst 32 hz).toArray (by kernel_rfl) ?_) | (refine store_big rfl 148 _ _ rfl (w.heap.size + 1) 32 hz hz rfl rfl wdH HRZ (fun i _ => hcf_one _ _ _ _ _ _ i) ?_; intro wz RZ9 hm9 hs9; have HF9 : Hid (Row wz (w.heap.size + 1) 32 hz ∧ Blw w wz) := ⟨RZ9, Mod.blw HB.out hm9 (fun i hi => by omega)⟩; clear RZ9 hm9 hs9 HRZ) | fail)
    refine bodyPost_ret (v := .tuple #[.agg (lst 32 hz).toArray, .bool false]) (by rw [results_cell_tmp rfl]; simp [asAddr, Result.andThen, run_load_big wdH HF9.out.1.cells]) rfl ⟨Or.inr ⟨HN.out, rfl⟩, HF9.out.2⟩

  go_upto_region 4 with (first | (refine wpList_buildTo rfl 148 _ rfl _ rfl (lst 32 (hcf D.at_ D.acc (fun _ => 0) (fun _ => 0) D.nt D.d)).toArray (by kernel_rfl) ?_) | (refine alloc_big rfl 148 rfl 32 hz zeroH ?_; intro w2 RH0 hb2 hz2) | (refine store_big rfl 148 _ _ rfl _ 32 (hcf D.at_ D.acc (fun _ => 0) (fun _ => 0) D.nt D.d) hz rfl rfl wdH RH0 (fun i _ => hcf_one _ _ _ _ _ _ i) ?_; intro w3 RH hm3 hs3; clear RH0) | fail)
  have hS := HS1.out
  rw [hS] at RH hm3
  have HM3 : Hid (Blw w1 w3) := Mod.blw hb2 hm3 (fun i hi => by omega)
  have HS3 : Hid (w3.heap.size = w.heap.size + 1 + 1 + 1) := by show _ = _; omega
  have HR : Hid (Row w3.drew (w.heap.size + 1 + 1) 32 (hcf D.at_ D.acc (fun _ => 0) (fun _ => 0) D.nt D.d)) := RH.blw (Blw.refl _).drew
  replace HB : Hid (Blw w w3.drew) := (HB.out.trans HM3.out).drew
  replace R0 : Hid (Row w3.drew w.heap.size 5 (gb v D)) := (R0.out.blw HM3.out).blw (Blw.refl _).drew
  replace HZ : Hid (Row w3.drew (w.heap.size + 1) 32 hz) := (HZ.out.blw HM3.out).blw (Blw.refl _).drew
  try rw [hS]
  clear RH hm3 hs3 hb2 hz2 HM3 hS p0 p1 p2 p3 p4 HS1
  refine wp_region_noPanic ?_
  refine wp_region_held_drew (S := fun w' => w'.cell? ⟨w.heap.size, 2, none⟩ = some (.slice v.a1 D.nc v.c1)) (by kernel_rfl) (get5 R0.out).2.2.1 (fun hB => ?_)
  clear hB
  refine wpAnyH_take (i := 0) (oi := { dst := some 42, op := Op.fieldAddr 148 (Operand.tmp 4) 2, type := 0, pos := _, after := #[], guard := none }) (v := (.pointer (some ⟨w.heap.size + 1 + 1, 2, none⟩))) rfl (by kernel_rfl) (by kernel_rfl) (by kernel_rfl) (fun _ _ _ h => h) (Or.inl ⟨by rfl, fun w' hS => by (try dsimp only at hS); go_simp⟩) (get5 R0.out).2.2.1 ?_
  simp only [Act.put, List.setIfInBounds_toArray, List.set_cons_zero, List.set_cons_succ]
  refine wpAnyH_take (i := 2) (oi := { dst := some 44, op := Op.fieldAddr 61 (Operand.tmp 1) 2, type := 0, pos := _, after := #[], guard := none }) (v := (.pointer (some ⟨w.heap.size, 2, none⟩))) rfl (by kernel_rfl) (by kernel_rfl) (by kernel_rfl) (fun _ _ _ h => h) (Or.inl ⟨by rfl, fun w' hS => by (try dsimp only at hS); go_simp⟩) (get5 R0.out).2.2.1 ?_
  simp only [Act.put, List.setIfInBounds_toArray, List.set_cons_zero, List.set_cons_succ]
  refine wpAnyH_take (i := 1) (oi := { dst := some 43, op := Op.slice 145 (Operand.tmp 42) none none none, type := 26, pos := _, after := #[{ on := 0, ground := Ground.data }], guard := none }) (v := (.slice (some ⟨w.heap.size + 1 + 1, 2, none⟩) 8 8)) rfl (by kernel_rfl) (by kernel_rfl) (by kernel_rfl) (fun _ _ _ h => h) (Or.inl ⟨by rfl, fun w' hS => by (try dsimp only at hS); go_simp⟩) (get5 R0.out).2.2.1 ?_
  simp only [Act.put, List.setIfInBounds_toArray, List.set_cons_zero, List.set_cons_succ]
  refine wpAnyH_take (i := 3) (oi := { dst := some 45, op := Op.load 26 (Operand.tmp 44), type := 26, pos := _, after := #[{ on := 2, ground := Ground.data }], guard := none }) (v := (.slice v.a1 D.nc v.c1)) rfl (by kernel_rfl) (by kernel_rfl) (by kernel_rfl) (fun _ _ _ h => h) (Or.inl ⟨by rfl, fun w' hS => by (try dsimp only at hS); go_simp⟩) (get5 R0.out).2.2.1 ?_
  simp only [Act.put, List.setIfInBounds_toArray, List.set_cons_zero, List.set_cons_succ]
  refine wpAnyH_ready (rs := [4]) (by kernel_rfl) (by simp) ?_
  refine AllReadyH.cons (o := { dst := some 46, op := Op.call { callee := Callee.builtin Builtin.copy, args := #[Operand.tmp 43, Operand.tmp 45], argTypes := #[26, 26] }, type := 3, pos := _, after := #[{ on := 1, ground := Ground.data }, { on := 3, ground := Ground.data }], guard := none }) rfl (fun K hK => ?_) AllReadyH.nil
  obtain ⟨w4, hrun, hrow, hmod, hsz⟩ := copy_ints (dc := 8) (c := v.c1) 8 (HW.out.c.blw HB.out) (by have := G8.out; omega) (N := 32) (off := 2) (b := w.heap.size + 1 + 1) HR.out (by omega) HAO.out.1
  refine step_copy_run rfl (.tmp 43) (.tmp 45) 26 26 rfl _ _ rfl rfl _ _ hrun ?_
  clear hrun
  have hsb := HS3.out
  replace R0 : Hid (Row w4 w.heap.size 5 (gb v D)) := R0.out.mod hmod (by omega)
  replace HZ : Hid (Row w4 (w.heap.size + 1) 32 hz) := HZ.out.mod hmod (by omega)
  replace HB : Hid (Blw w w4) := Mod.blw HB.out hmod (fun i hi => by omega)
  refine hK.out _ _ (get5 R0.out).2.2.1 (fun hB => ?_)
  clear hK K hB
  try simp only [Act.put, List.setIfInBounds_toArray, List.set_cons_zero, List.set_cons_succ]
  refine wpAnyH_done (by kernel_rfl) ?_ _
  refine NoPanic.normal ?_
  have hrow' := hcf_cells (by rw [G8.out] at hrow; exact hrow)
  go_upto_region 5 with fail
  replace HR : Hid (Row w4.drew (w.heap.size + 1 + 1) 32 (hcf D.at_ D.acc D.c (fun _ => 0) D.nt D.d)) := hrow'.blw (Blw.refl _).drew
  replace HB : Hid (Blw w w4.drew) := HB.out.drew
  replace R0 : Hid (Row w4.drew w.heap.size 5 (gb v D)) := R0.out.blw (Blw.refl _).drew
  replace HZ : Hid (Row w4.drew (w.heap.size + 1) 32 hz) := HZ.out.blw (Blw.refl _).drew
  clear hrow hrow' hmod hsz hsb
  refine wp_region_noPanic ?_
  refine wp_region_held_drew (S := fun w' => w'.cell? ⟨w.heap.size, 3, none⟩ = some (.slice v.a2 D.nt v.c2)) (by kernel_rfl) (get5 R0.out).2.2.2.1 (fun hB => ?_)
  clear hB
  refine wpAnyH_take (i := 0) (oi := { dst := some 47, op := Op.fieldAddr 148 (Operand.tmp 4) 3, type := 0, pos := _, after := #[], guard := none }) (v := (.pointer (some ⟨w.heap.size + 1 + 1, 10, none⟩))) rfl (by kernel_rfl) (by kernel_rfl) (by kernel_rfl) (fun _ _ _ h => h) (Or.inl ⟨by rfl, fun w' hS => by (try dsimp only at hS); go_simp⟩) (get5 R0.out).2.2.2.1 ?_
  simp only [Act.put, List.setIfInBounds_toArray, List.set_cons_zero, List.set_cons_succ]
  refine wpAnyH_take (i := 2) (oi := { dst := some 49, op := Op.fieldAddr 61 (Operand.tmp 1) 3, type := 0, pos := _, after := #[], guard := none }) (v := (.pointer (some ⟨w.heap.size, 3, none⟩))) rfl (by kernel_rfl) (by kernel_rfl) (by kernel_rfl) (fun _ _ _ h => h) (Or.inl ⟨by rfl, fun w' hS => by (try dsimp only at hS); go_simp⟩) (get5 R0.out).2.2.2.1 ?_
  simp only [Act.put, List.setIfInBounds_toArray, List.set_cons_zero, List.set_cons_succ]
  refine wpAnyH_take (i := 1) (oi := { dst := some 48, op := Op.slice 146 (Operand.tmp 47) none none none, type := 26, pos := _, after := #[{ on := 0, ground := Ground.data }], guard := none }) (v := (.slice (some ⟨w.heap.size + 1 + 1, 10, none⟩) 20 20)) rfl (by kernel_rfl) (by kernel_rfl) (by kernel_rfl) (fun _ _ _ h => h) (Or.inl ⟨by rfl, fun w' hS => by (try dsimp only at hS); go_simp⟩) (get5 R0.out).2.2.2.1 ?_
  simp only [Act.put, List.setIfInBounds_toArray, List.set_cons_zero, List.set_cons_succ]
  refine wpAnyH_take (i := 3) (oi := { dst := some 50, op := Op.load 26 (Operand.tmp 49), type := 26, pos := _, after := #[{ on := 2, ground := Ground.data }], guard := none }) (v := (.slice v.a2 D.nt v.c2)) rfl (by kernel_rfl) (by kernel_rfl) (by kernel_rfl) (fun _ _ _ h => h) (Or.inl ⟨by rfl, fun w' hS => by (try dsimp only at hS); go_simp⟩) (get5 R0.out).2.2.2.1 ?_
  simp only [Act.put, List.setIfInBounds_toArray, List.set_cons_zero, List.set_cons_succ]
  refine wpAnyH_ready (rs := [4]) (by kernel_rfl) (by simp) ?_
  refine AllReadyH.cons (o := { dst := some 51, op := Op.call { callee := Callee.builtin Builtin.copy, args := #[Operand.tmp 48, Operand.tmp 50], argTypes := #[26, 26] }, type := 3, pos := _, after := #[{ on := 1, ground := Ground.data }, { on := 3, ground := Ground.data }], guard := none }) rfl (fun K hK => ?_) AllReadyH.nil
  obtain ⟨w5, hrun, hrow, hmod, hsz⟩ := copy_ints (dc := 20) (c := v.c2) 20 (HW.out.t.blw HB.out) (by omega) (N := 32) (off := 10) (b := w.heap.size + 1 + 1) HR.out (by omega) HAO.out.2
  refine step_copy_run rfl (.tmp 48) (.tmp 50) 26 26 rfl _ _ rfl rfl _ _ hrun ?_
  clear hrun
  have hsb := HS3.out
  replace R0 : Hid (Row w5 w.heap.size 5 (gb v D)) := R0.out.mod hmod (by omega)
  replace HZ : Hid (Row w5 (w.heap.size + 1) 32 hz) := HZ.out.mod hmod (by omega)
  replace HB : Hid (Blw w w5) := Mod.blw HB.out hmod (fun i hi => by omega)
  refine hK.out _ _ (get5 R0.out).2.2.2.1 (fun hB => ?_)
  clear hK K hB
  try simp only [Act.put, List.setIfInBounds_toArray, List.set_cons_zero, List.set_cons_succ]
  refine wpAnyH_done (by kernel_rfl) ?_ _
  refine NoPanic.normal ?_
  have hrow' := hcf_told h20 hrow
  have hcl := hrow'.cells
  have hin := held_ints hcl
  simp only [Nat.zero_add] at hin
  have HI : Hid _ := hin
  have HR5 : Hid (Row w5 (w.heap.size + 1 + 1) 32 (hc D)) := hrow'
  clear HR hrow hrow' hmod hsz hsb hcl hin R0 HW HAO HY
  go_wp2_with fail
  refine (areWords_any _ 8 8 D.c _ _ HI.out.1).mono ?_
  rintro e w5 ⟨r, rfl, hr, rfl⟩
  have H1 : Hid (r = true ↔ ∀ i, i < 8 → wordOK (D.c i)) := hr
  clear hr
  cases r
  · have HN : Hid (¬ D.Good) := fun g => by have h9 := g.c; rw [g.nc] at h9; have := H1.out.2 h9; cases this
    have HRZ := HZ.out
    go_wp2_with (first | (refine wpList_buildTo rfl 148 _ rfl _ rfl (lst 32 hz).toArray (by kernel_rfl) ?_) | (refine store_big rfl 148 _ _ rfl (w.heap.size + 1) 32 hz hz rfl rfl wdH HRZ (fun i _ => hcf_one _ _ _ _ _ _ i) ?_; intro wz RZ9 hm9 hs9; have HF9 : Hid (Row wz (w.heap.size + 1) 32 hz ∧ Blw w wz) := ⟨RZ9, Mod.blw HB.out hm9 (fun i hi => by omega)⟩; clear RZ9 hm9 hs9 HRZ) | fail)
    refine bodyPost_ret (v := .tuple #[.agg (lst 32 hz).toArray, .bool false]) (by rw [results_cell_tmp rfl]; simp [asAddr, Result.andThen, run_load_big wdH HF9.out.1.cells]) rfl ⟨Or.inr ⟨HN.out, rfl⟩, HF9.out.2⟩
  have GC : Hid (∀ i, i < 8 → wordOK (D.c i)) := H1.out.1 (by first | rfl | trivial)
  clear H1
  go_wp2_with fail
  refine (areWords_any _ 20 20 (tz D) _ _ HI.out.2).mono ?_
  rintro e w5 ⟨r, rfl, hr, rfl⟩
  have H1 : Hid (r = true ↔ ∀ i, i < 20 → wordOK (tz D i)) := hr
  clear hr
  cases r
  · have HN : Hid (¬ D.Good) := fun g => by have := H1.out.2 (fun i hi => by unfold tz; split; exact g.t i (by assumption); exact ⟨by omega, by omega⟩); cases this
    have HRZ := HZ.out
    go_wp2_with (first | (refine wpList_buildTo rfl 148 _ rfl _ rfl (lst 32 hz).toArray (by kernel_rfl) ?_) | (refine store_big rfl 148 _ _ rfl (w.heap.size + 1) 32 hz hz rfl rfl wdH HRZ (fun i _ => hcf_one _ _ _ _ _ _ i) ?_; intro wz RZ9 hm9 hs9; have HF9 : Hid (Row wz (w.heap.size + 1) 32 hz ∧ Blw w wz) := ⟨RZ9, Mod.blw HB.out hm9 (fun i hi => by omega)⟩; clear RZ9 hm9 hs9 HRZ) | fail)
    refine bodyPost_ret (v := .tuple #[.agg (lst 32 hz).toArray, .bool false]) (by rw [results_cell_tmp rfl]; simp [asAddr, Result.andThen, run_load_big wdH HF9.out.1.cells]) rfl ⟨Or.inr ⟨HN.out, rfl⟩, HF9.out.2⟩
  have HG : Hid D.Good := ⟨GA.out.1, GA.out.2, GB.out, G8.out, fun i hi => GC.out i (by have := G8.out; omega), h20, fun i hi => by have h9 := H1.out.1 (by first | rfl | trivial) i (by omega); unfold tz at h9; rw [if_pos hi] at h9; exact h9⟩
  clear H1 GA GB GC HI
  have hcl := HR5.out.cells
  have HRZ := HZ.out
  go_wp2_with (first | (refine load_big rfl 148 _ rfl _ _ 32 rfl (hc D) wdH hcl ?_) | (refine store_big rfl 148 _ _ rfl (w.heap.size + 1) 32 (hc D) hz rfl rfl wdH HRZ (fun i _ => hc_one _ i) ?_; intro wz RZ9 hm9 hs9; have HF9 : Hid (Row wz (w.heap.size + 1) 32 (hc D) ∧ Blw w wz) := ⟨RZ9, Mod.blw HB.out hm9 (fun i hi => by omega)⟩; clear RZ9 hm9 hs9 HRZ hcl) | fail)
  refine bodyPost_ret (v := .tuple #[.agg (lst 32 (hc D)).toArray, .bool true]) (by rw [results_cell_tmp rfl]; simp [asAddr, Result.andThen, run_load_big wdH HF9.out.1.cells]) rfl ⟨Or.inl ⟨HG.out, rfl⟩, HF9.out.2⟩
end Go.Proofs.Ytbpdopcdhnemfaa
/- Guests: the model's copies. -/
namespace Go.Proofs.Ytbpdopcdhnemfaa
open Go.RowKit
set_option linter.unusedSimpArgs false
set_option linter.unusedVariables false
/-- An empty list that was laid at z, and a list that is appended to it. -/
theorem clone_at {Y : Nat → Prop} {W : World} {z : Nat} {ao : Option Addr} {n : Nat} {f : Nat → Int} (hz : W.heap[z]? = some (.cells #[] 3 (0, 0))) (h : IntsAt Y W ao n f) (hn : n ≤ 1048576) (c : Nat) :
    ∃ ao' cap W2, (Builtin.append_ #[26, 26] 26 #[.slice (some ⟨z, 0, none⟩) 0 0, .slice ao n c]).run Try.prog W = .ok (.slice ao' n cap) W2 ∧ BufI (fun b => b = z ∨ (W.heap.size ≤ b ∧ b < W2.heap.size)) W2 (.slice ao' n cap) n f ∧ Mod (fun b => b = z) W W2 := by
  have hb : Buf 3 1 (fun b => b = z) W (.slice (some ⟨z, 0, none⟩) 0 0) 0 (ic (fun _ => 0)) := Buf.lit (X := fun b => b = z) hz 1 rfl _
  obtain ⟨a, cap, w', h1, h2, h3⟩ := BufI.append hb c h (by omega) 26
  rw [Nat.zero_add] at h1 h2
  refine ⟨a, cap, w', h1, (Buf.congr h2 (fun i hi => by simp [ic, icat])).mono (fun b hb => ?_), h3.mono (fun b hb => ?_)⟩
  · omega
  · simpa [Value.ownBlock, eq_comm] using hb
/-- A guest of the model's own: its lists may be appended to. -/
structure MG (X : Nat → Prop) (w : World) (v : GV) (D : GD) : Prop where
  ex : ∃ X1 X2 : Nat → Prop, (∀ b, X1 b → X b ∧ ¬ X2 b) ∧ (∀ b, X2 b → X b) ∧ IntsOwn X1 w v.a1 D.nc D.c ∧ BufI X2 w (.slice v.a2 D.nt v.c2) D.nt D.t
theorem BufI.own' {X : Nat → Prop} {w : World} {a : Option Addr} {n q : Nat} {f : Nat → Int} (h : BufI X w (.slice a n q) n f) (hn : n ≤ 9223372036854775807) : IntsOwn X w a n f := by
  obtain ⟨a', p, e1, o1⟩ := h.own hn
  simp only [Value.slice.injEq, true_and] at e1
  obtain ⟨rfl, -⟩ := e1
  exact o1
theorem MG.own {X : Nat → Prop} {w : World} {v : GV} {D : GD} (n2 : D.nt ≤ 1048576) (h : MG X w v D) : GOwn X w v D := by
  obtain ⟨X1, X2, d1, d2, hc, ht⟩ := h.ex
  exact ⟨X1, X2, d1, d2, hc, BufI.own' ht (by omega)⟩
theorem MG.mod {X Z : Nat → Prop} {w w' : World} {v : GV} {D : GD} (h : MG X w v D) (hm : Mod Z w w') (hx : ∀ b, X b → ¬ Z b) : MG X w' v D := by
  obtain ⟨X1, X2, d1, d2, hc, ht⟩ := h.ex
  exact ⟨X1, X2, d1, d2, hc.mod' hm (fun b hb => hx b (d1 b hb).1), Buf.mod ht hm (fun b hb => hx b (d2 b hb))⟩
theorem MG.blw {X : Nat → Prop} {w w' : World} {v : GV} {D : GD} (h : MG X w v D) (hb : Blw w w') : MG X w' v D := h.mod (hb.mod (fun _ => False)) (fun _ _ => id)
theorem MG.mono {X Y : Nat → Prop} {w : World} {v : GV} {D : GD} (h : MG X w v D) (hxy : ∀ b, X b → Y b) : MG Y w v D := by
  obtain ⟨X1, X2, d1, d2, hc, ht⟩ := h.ex
  exact ⟨X1, X2, fun b hb => ⟨hxy b (d1 b hb).1, (d1 b hb).2⟩, fun b hb => hxy b (d2 b hb), hc, ht⟩
set_option maxRecDepth 10000 in
set_option maxHeartbeats 3200000 in
theorem l9Own_any (v : GV) (D : GD) (Y : Nat → Prop) (w : World) (n1 : D.nc ≤ 1048576) (n2 : D.nt ≤ 1048576) (h : GAt Y w v D) :
    Calls Try.prog 122 #[v.val D] w fun e w' => ∃ v' : GV, e = .returned (v'.val D) ∧ MG (fun x => w.heap.size ≤ x ∧ x < w'.heap.size) w' v' D ∧ Blw w w' := by
  have hb0 : Blw w ((w.alloc (.cells #[.int .i64 D.at_, .int .i64 D.acc, .slice v.a1 D.nc v.c1, .slice v.a2 D.nt v.c2, .bool D.d] 61)).alloc (.cells #[.int .i64 0, .int .i64 0, .slice none 0 0, .slice none 0 0, .bool false] 61)) := ((Blw.refl _).alloc _).alloc _
  have r0 : Row ((w.alloc (.cells #[.int .i64 D.at_, .int .i64 D.acc, .slice v.a1 D.nc v.c1, .slice v.a2 D.nt v.c2, .bool D.d] 61)).alloc (.cells #[.int .i64 0, .int .i64 0, .slice none 0 0, .slice none 0 0, .bool false] 61)) w.heap.size 5 (gb v D) := (row5 w _ _ _ _ _ 61).blw ((Blw.refl _).alloc _)
  have r1 := row5 (w.alloc (.cells #[.int .i64 D.at_, .int .i64 D.acc, .slice v.a1 D.nc v.c1, .slice v.a2 D.nt v.c2, .bool D.d] 61)) (.int .i64 0) (.int .i64 0) (.slice none 0 0) (.slice none 0 0) (.bool false) 61
  rw [World.size_alloc] at r1
  have R0 : Hid (Row ((w.alloc (.cells #[.int .i64 D.at_, .int .i64 D.acc, .slice v.a1 D.nc v.c1, .slice v.a2 D.nt v.c2, .bool D.d] 61)).alloc (.cells #[.int .i64 0, .int .i64 0, .slice none 0 0, .slice none 0 0, .bool false] 61)) w.heap.size 5 (gb v D)) := r0
  have R1 : Hid (Row ((w.alloc (.cells #[.int .i64 D.at_, .int .i64 D.acc, .slice v.a1 D.nc v.c1, .slice v.a2 D.nt v.c2, .bool D.d] 61)).alloc (.cells #[.int .i64 0, .int .i64 0, .slice none 0 0, .slice none 0 0, .bool false] 61)) (w.heap.size + 1) 5 (fun i => if i = 0 then .int .i64 0 else if i = 1 then .int .i64 0 else if i = 2 then .slice none 0 0 else if i = 3 then .slice none 0 0 else .bool false)) := r1
  have HA : Hid (GAt Y ((w.alloc (.cells #[.int .i64 D.at_, .int .i64 D.acc, .slice v.a1 D.nc v.c1, .slice v.a2 D.nt v.c2, .bool D.d] 61)).alloc (.cells #[.int .i64 0, .int .i64 0, .slice none 0 0, .slice none 0 0, .bool false] 61)) v D) := h.blw hb0
  have HB : Hid (Blw w ((w.alloc (.cells #[.int .i64 D.at_, .int .i64 D.acc, .slice v.a1 D.nc v.c1, .slice v.a2 D.nt v.c2, .bool D.d] 61)).alloc (.cells #[.int .i64 0, .int .i64 0, .slice none 0 0, .slice none 0 0, .bool false] 61))) := hb0
  have HZ : Hid (w.heap.size + 1 + 1 ≤ ((w.alloc (.cells #[.int .i64 D.at_, .int .i64 D.acc, .slice v.a1 D.nc v.c1, .slice v.a2 D.nt v.c2, .bool D.d] 61)).alloc (.cells #[.int .i64 0, .int .i64 0, .slice none 0 0, .slice none 0 0, .bool false] 61)).heap.size) := by show _ ≤ _; simp
  have HW : Hid (GAt Y w v D) := h
  clear h hb0 r0 r1
  go_enter Try.func122, Try.ntmps122
  go_upto_region 1 with fail
  generalize ((w.alloc (.cells #[.int .i64 D.at_, .int .i64 D.acc, .slice v.a1 D.nc v.c1, .slice v.a2 D.nt v.c2, .bool D.d] 61)).alloc (.cells #[.int .i64 0, .int .i64 0, .slice none 0 0, .slice none 0 0, .bool false] 61)) = w0 at *
  replace R0 : Hid (Row w0.drew w.heap.size 5 (gb v D)) := R0.out.blw (Blw.refl _).drew
  replace R1 : Hid (Row w0.drew (w.heap.size + 1) 5 (fun i => if i = 0 then .int .i64 0 else if i = 1 then .int .i64 0 else if i = 2 then .slice none 0 0 else if i = 3 then .slice none 0 0 else .bool false)) := R1.out.blw (Blw.refl _).drew
  replace HA : Hid (GAt Y w0.drew v D) := HA.out.blw (Blw.refl _).drew
  replace HB : Hid (Blw w w0.drew) := HB.out.drew
  replace HZ : Hid (w.heap.size + 1 + 1 ≤ w0.drew.heap.size) := by have := HZ.out; show _ ≤ _; simpa using this
  refine wp_region_noPanic ?_
  refine wp_region_held_drew (S := fun w' => w'.cell? ⟨w.heap.size, 0, none⟩ = some (.int .i64 D.at_) ∧ w'.cell? ⟨w.heap.size, 1, none⟩ = some (.int .i64 D.acc) ∧ w'.cell? ⟨w.heap.size, 2, none⟩ = some (.slice v.a1 D.nc v.c1) ∧ w'.cell? ⟨w.heap.size, 3, none⟩ = some (.slice v.a2 D.nt v.c2) ∧ w'.cell? ⟨w.heap.size, 4, none⟩ = some (.bool D.d)) (by kernel_rfl) (get5 R0.out) (fun hB => ?_)
  clear hB
  generalize w0.drew = wd at *
  refine wpAnyH_take (i := 0) (oi := { dst := some 3, op := Op.fieldAddr 61 (Operand.tmp 1) 0, type := 0, pos := _, after := #[], guard := none }) (v := (.pointer (some ⟨w.heap.size, 0, none⟩))) rfl (by kernel_rfl) (by kernel_rfl) (by kernel_rfl) (fun _ _ _ h => h) (Or.inl ⟨by rfl, fun w' hS => by (try dsimp only at hS); go_simp⟩) (get5 R0.out) ?_
  simp only [Act.put, List.setIfInBounds_toArray, List.set_cons_zero, List.set_cons_succ]
  refine wpAnyH_take (i := 2) (oi := { dst := some 5, op := Op.fieldAddr 61 (Operand.tmp 1) 1, type := 0, pos := _, after := #[], guard := none }) (v := (.pointer (some ⟨w.heap.size, 1, none⟩))) rfl (by kernel_rfl) (by kernel_rfl) (by kernel_rfl) (fun _ _ _ h => h) (Or.inl ⟨by rfl, fun w' hS => by (try dsimp only at hS); go_simp⟩) (get5 R0.out) ?_
  simp only [Act.put, List.setIfInBounds_toArray, List.set_cons_zero, List.set_cons_succ]
  refine wpAnyH_take (i := 5) (oi := { dst := some 8, op := Op.fieldAddr 61 (Operand.tmp 1) 2, type := 0, pos := _, after := #[], guard := none }) (v := (.pointer (some ⟨w.heap.size, 2, none⟩))) rfl (by kernel_rfl) (by kernel_rfl) (by kernel_rfl) (fun _ _ _ h => h) (Or.inl ⟨by rfl, fun w' hS => by (try dsimp only at hS); go_simp⟩) (get5 R0.out) ?_
  simp only [Act.put, List.setIfInBounds_toArray, List.set_cons_zero, List.set_cons_succ]
  refine wpAnyH_take (i := 9) (oi := { dst := some 12, op := Op.fieldAddr 61 (Operand.tmp 1) 3, type := 0, pos := _, after := #[], guard := none }) (v := (.pointer (some ⟨w.heap.size, 3, none⟩))) rfl (by kernel_rfl) (by kernel_rfl) (by kernel_rfl) (fun _ _ _ h => h) (Or.inl ⟨by rfl, fun w' hS => by (try dsimp only at hS); go_simp⟩) (get5 R0.out) ?_
  simp only [Act.put, List.setIfInBounds_toArray, List.set_cons_zero, List.set_cons_succ]
  refine wpAnyH_take (i := 12) (oi := { dst := some 15, op := Op.fieldAddr 61 (Operand.tmp 1) 4, type := 0, pos := _, after := #[], guard := none }) (v := (.pointer (some ⟨w.heap.size, 4, none⟩))) rfl (by kernel_rfl) (by kernel_rfl) (by kernel_rfl) (fun _ _ _ h => h) (Or.inl ⟨by rfl, fun w' hS => by (try dsimp only at hS); go_simp⟩) (get5 R0.out) ?_
  simp only [Act.put, List.setIfInBounds_toArray, List.set_cons_zero, List.set_cons_succ]
  refine wpAnyH_take (i := 1) (oi := { dst := some 4, op := Op.load 3 (Operand.tmp 3), type := 3, pos := _, after := #[{ on := 0, ground := Ground.data }], guard := none }) (v := (.int .i64 D.at_)) rfl (by kernel_rfl) (by kernel_rfl) (by kernel_rfl) (fun _ _ _ h => h) (Or.inl ⟨by rfl, fun w' hS => by (try dsimp only at hS); go_simp⟩) (get5 R0.out) ?_
  simp only [Act.put, List.setIfInBounds_toArray, List.set_cons_zero, List.set_cons_succ]
  refine wpAnyH_take (i := 3) (oi := { dst := some 6, op := Op.load 3 (Operand.tmp 5), type := 3, pos := _, after := #[{ on := 2, ground := Ground.data }], guard := none }) (v := (.int .i64 D.acc)) rfl (by kernel_rfl) (by kernel_rfl) (by kernel_rfl) (fun _ _ _ h => h) (Or.inl ⟨by rfl, fun w' hS => by (try dsimp only at hS); go_simp⟩) (get5 R0.out) ?_
  simp only [Act.put, List.setIfInBounds_toArray, List.set_cons_zero, List.set_cons_succ]
  refine wpAnyH_take (i := 6) (oi := { dst := some 9, op := Op.load 26 (Operand.tmp 8), type := 26, pos := _, after := #[{ on := 5, ground := Ground.data }], guard := none }) (v := (.slice v.a1 D.nc v.c1)) rfl (by kernel_rfl) (by kernel_rfl) (by kernel_rfl) (fun _ _ _ h => h) (Or.inl ⟨by rfl, fun w' hS => by (try dsimp only at hS); go_simp⟩) (get5 R0.out) ?_
  simp only [Act.put, List.setIfInBounds_toArray, List.set_cons_zero, List.set_cons_succ]
  refine wpAnyH_take (i := 10) (oi := { dst := some 13, op := Op.load 26 (Operand.tmp 12), type := 26, pos := _, after := #[{ on := 9, ground := Ground.data }], guard := none }) (v := (.slice v.a2 D.nt v.c2)) rfl (by kernel_rfl) (by kernel_rfl) (by kernel_rfl) (fun _ _ _ h => h) (Or.inl ⟨by rfl, fun w' hS => by (try dsimp only at hS); go_simp⟩) (get5 R0.out) ?_
  simp only [Act.put, List.setIfInBounds_toArray, List.set_cons_zero, List.set_cons_succ]
  refine wpAnyH_take (i := 13) (oi := { dst := some 16, op := Op.load 4 (Operand.tmp 15), type := 4, pos := _, after := #[{ on := 12, ground := Ground.data }], guard := none }) (v := (.bool D.d)) rfl (by kernel_rfl) (by kernel_rfl) (by kernel_rfl) (fun _ _ _ h => h) (Or.inl ⟨by rfl, fun w' hS => by (try dsimp only at hS); go_simp⟩) (get5 R0.out) ?_
  simp only [Act.put, List.setIfInBounds_toArray, List.set_cons_zero, List.set_cons_succ]
  refine wpAnyH_ready (rs := [4, 8]) (by kernel_rfl) (by simp) ?_
  refine AllReadyH.cons (o := { dst := some 7, op := Op.buildSlice 26 0 #[], type := 26, pos := _, after := #[], guard := none }) rfl (fun K hK => ?_) (AllReadyH.cons (o := { dst := some 11, op := Op.buildSlice 26 0 #[], type := 26, pos := _, after := #[], guard := none }) rfl (fun K hK => ?_) AllReadyH.nil)
  · go_simp
    have o0 := HZ.out
    have hA : Blw wd (wd.alloc (.cells #[] 3)) := (Blw.refl _).alloc _
    have hE : (wd.alloc (.cells #[] 3)).heap[wd.heap.size]? = some (.cells #[] 3 (0, 0)) := heap_alloc_new wd _
    have hS : wd.heap.size < (wd.alloc (.cells #[] 3)).heap.size := by simp
    generalize (wd.alloc (.cells #[] 3)) = w1 at *
    replace R0 : Hid (Row w1 w.heap.size 5 (gb v D)) := R0.out.blw hA
    replace R1 : Hid (Row w1 (w.heap.size + 1) 5 (fun i => if i = 0 then .int .i64 0 else if i = 1 then .int .i64 0 else if i = 2 then .slice none 0 0 else if i = 3 then .slice none 0 0 else .bool false)) := R1.out.blw hA
    replace HB : Hid (Blw w w1) := HB.out.trans hA
    replace HA : Hid (GAt Y w1 v D) := HA.out.blw hA
    have HE1 : Hid (w1.heap[wd.heap.size]? = some (.cells #[] 3 (0, 0))) := hE
    have HZ1 : Hid (wd.heap.size < w1.heap.size) := hS
    clear hA hE hS o0
    refine hK.out _ _ (get5 R0.out) (fun hB => ?_)
    clear hK K hB
    try simp only [Act.put, List.setIfInBounds_toArray, List.set_cons_zero, List.set_cons_succ]
    refine wpAnyH_ready (rs := [7, 8]) (by kernel_rfl) (by simp) ?_
    refine AllReadyH.cons (o := { dst := some 10, op := Op.call { callee := Callee.builtin Builtin.append, args := #[Operand.tmp 7, Operand.tmp 9], argTypes := #[26, 26] }, type := 26, pos := _, after := #[{ on := 4, ground := Ground.data }, { on := 6, ground := Ground.data }], guard := none }) rfl (fun K hK => ?_) (AllReadyH.cons (o := { dst := some 11, op := Op.buildSlice 26 0 #[], type := 26, pos := _, after := #[], guard := none }) rfl (fun K hK => ?_) AllReadyH.nil)
    · have o0 := HZ.out; have o1 := HZ1.out
      obtain ⟨a1, q1, w2, hrun, hbuf, hmod⟩ := clone_at HE1.out HA.out.c n1 v.c1
      refine step_app (.tmp 7) (.tmp 9) 26 (by rfl) ?_
      refine ⟨_, _, hrun, ?_⟩
      clear hrun
      have hs := hmod.size
      clear HE1
      replace R0 : Hid (Row w2 w.heap.size 5 (gb v D)) := R0.out.mod hmod (by omega)
      replace R1 : Hid (Row w2 (w.heap.size + 1) 5 (fun i => if i = 0 then .int .i64 0 else if i = 1 then .int .i64 0 else if i = 2 then .slice none 0 0 else if i = 3 then .slice none 0 0 else .bool false)) := R1.out.mod hmod (by omega)
      replace HB : Hid (Blw w w2) := Mod.blw HB.out hmod (fun i hi => by omega)
      replace HA : Hid (GAt Y w2 v D) := HW.out.blw HB.out
      have HL1 : Hid (BufI (fun b => b = wd.heap.size ∨ (w1.heap.size ≤ b ∧ b < w2.heap.size)) w2 (.slice a1 D.nc q1) D.nc D.c) := hbuf
      have HZ2 : Hid (w1.heap.size ≤ w2.heap.size) := hs
      clear hmod hbuf hs o0 o1
      refine hK.out _ _ (get5 R0.out) (fun hB => ?_)
      clear hK K hB
      try simp only [Act.put, List.setIfInBounds_toArray, List.set_cons_zero, List.set_cons_succ]
      refine wpAnyH_ready (rs := [8]) (by kernel_rfl) (by simp) ?_
      refine AllReadyH.cons (o := { dst := some 11, op := Op.buildSlice 26 0 #[], type := 26, pos := _, after := #[], guard := none }) rfl (fun K hK => ?_) AllReadyH.nil
      go_simp
      have o0 := HZ.out; have o1 := HZ1.out; have o2 := HZ2.out
      have hA : Blw w2 (w2.alloc (.cells #[] 3)) := (Blw.refl _).alloc _
      have hE : (w2.alloc (.cells #[] 3)).heap[w2.heap.size]? = some (.cells #[] 3 (0, 0)) := heap_alloc_new w2 _
      have hS : w2.heap.size < (w2.alloc (.cells #[] 3)).heap.size := by simp
      generalize (w2.alloc (.cells #[] 3)) = w3 at *
      replace R0 : Hid (Row w3 w.heap.size 5 (gb v D)) := R0.out.blw hA
      replace R1 : Hid (Row w3 (w.heap.size + 1) 5 (fun i => if i = 0 then .int .i64 0 else if i = 1 then .int .i64 0 else if i = 2 then .slice none 0 0 else if i = 3 then .slice none 0 0 else .bool false)) := R1.out.blw hA
      replace HB : Hid (Blw w w3) := HB.out.trans hA
      replace HA : Hid (GAt Y w3 v D) := HA.out.blw hA
      replace HL1 : Hid (BufI (fun b => b = wd.heap.size ∨ (w1.heap.size ≤ b ∧ b < w2.heap.size)) w3 (.slice a1 D.nc q1) D.nc D.c) := Buf.blw HL1.out hA
      have HE2 : Hid (w3.heap[w2.heap.size]? = some (.cells #[] 3 (0, 0))) := hE
      have HZ3 : Hid (w2.heap.size < w3.heap.size) := hS
      clear hA hE hS o0 o1 o2
      refine hK.out _ _ (get5 R0.out) (fun hB => ?_)
      clear hK K hB
      try simp only [Act.put, List.setIfInBounds_toArray, List.set_cons_zero, List.set_cons_succ]
      refine wpAnyH_ready (rs := [11]) (by kernel_rfl) (by simp) ?_
      refine AllReadyH.cons (o := { dst := some 14, op := Op.call { callee := Callee.builtin Builtin.append, args := #[Operand.tmp 11, Operand.tmp 13], argTypes := #[26, 26] }, type := 26, pos := _, after := #[{ on := 8, ground := Ground.data }, { on := 10, ground := Ground.data }, { on := 7, ground := Ground.chain }], guard := none }) rfl (fun K hK => ?_) AllReadyH.nil
      have o0 := HZ.out; have o1 := HZ1.out; have o2 := HZ2.out; have o3 := HZ3.out
      obtain ⟨a2, q2, w4, hrun, hbuf, hmod⟩ := clone_at HE2.out HA.out.t n2 v.c2
      refine step_app (.tmp 11) (.tmp 13) 26 (by rfl) ?_
      refine ⟨_, _, hrun, ?_⟩
      clear hrun
      have hs := hmod.size
      clear HE2
      replace R0 : Hid (Row w4 w.heap.size 5 (gb v D)) := R0.out.mod hmod (by omega)
      replace R1 : Hid (Row w4 (w.heap.size + 1) 5 (fun i => if i = 0 then .int .i64 0 else if i = 1 then .int .i64 0 else if i = 2 then .slice none 0 0 else if i = 3 then .slice none 0 0 else .bool false)) := R1.out.mod hmod (by omega)
      replace HB : Hid (Blw w w4) := Mod.blw HB.out hmod (fun i hi => by omega)
      replace HA : Hid (GAt Y w4 v D) := HW.out.blw HB.out
      replace HL1 : Hid (BufI (fun b => b = wd.heap.size ∨ (w1.heap.size ≤ b ∧ b < w2.heap.size)) w4 (.slice a1 D.nc q1) D.nc D.c) := Buf.mod HL1.out hmod (fun b hx => by omega)
      have HL2 : Hid (BufI (fun b => b = w2.heap.size ∨ (w3.heap.size ≤ b ∧ b < w4.heap.size)) w4 (.slice a2 D.nt q2) D.nt D.t) := hbuf
      have HZ4 : Hid (w3.heap.size ≤ w4.heap.size) := hs
      clear hmod hbuf hs o0 o1 o2 o3
      refine hK.out _ _ (get5 R0.out) (fun hB => ?_)
      clear hK K hB
      try simp only [Act.put, List.setIfInBounds_toArray, List.set_cons_zero, List.set_cons_succ]
      refine wpAnyH_take (i := 14) (oi := { dst := some 17, op := Op.build 61 #[(0, Operand.tmp 4), (1, Operand.tmp 6), (2, Operand.tmp 10), (3, Operand.tmp 14), (4, Operand.tmp 16)], type := 61, pos := _, after := #[{ on := 1, ground := Ground.data }, { on := 3, ground := Ground.data }, { on := 7, ground := Ground.data }, { on := 11, ground := Ground.data }, { on := 13, ground := Ground.data }], guard := none }) (v := (.agg #[.int .i64 D.at_, .int .i64 D.acc, .slice a1 D.nc q1, .slice a2 D.nt q2, .bool D.d])) rfl (by kernel_rfl) (by kernel_rfl) (by kernel_rfl) (fun _ _ _ h => h) (Or.inl ⟨by rfl, fun w' hS => by (try dsimp only at hS); go_simp⟩) (get5 R0.out) ?_
      simp only [Act.put, List.setIfInBounds_toArray, List.set_cons_zero, List.set_cons_succ]
      refine wpAnyH_ready (rs := [15]) (by kernel_rfl) (by simp) ?_
      refine AllReadyH.cons (o := { dst := none, op := Op.store 61 (Operand.tmp 2) (Operand.tmp 17), type := 0, pos := _, after := #[{ on := 14, ground := Ground.data }, { on := 11, ground := Ground.chain }, { on := 0, ground := Ground.phase }, { on := 1, ground := Ground.phase }, { on := 2, ground := Ground.phase }, { on := 3, ground := Ground.phase }, { on := 4, ground := Ground.phase }, { on := 5, ground := Ground.phase }, { on := 6, ground := Ground.phase }, { on := 7, ground := Ground.phase }, { on := 8, ground := Ground.phase }, { on := 9, ground := Ground.phase }, { on := 10, ground := Ground.phase }, { on := 11, ground := Ground.phase }, { on := 12, ground := Ground.phase }, { on := 13, ground := Ground.phase }, { on := 14, ground := Ground.phase }], guard := none }) rfl (fun K hK => ?_) AllReadyH.nil
      have o0 := HZ.out; have o1 := HZ1.out; have o2 := HZ2.out; have o3 := HZ3.out; have o4 := HZ4.out
      obtain ⟨t0, t1, t2, t3, t4⟩ := get5 R1.out
      have f0 := R1.out.frozen 0
      have f1 := R1.out.frozen 1
      have f2 := R1.out.frozen 2
      have f3 := R1.out.frozen 3
      have f4 := R1.out.frozen 4
      have m1 := set5_modG w4 (w.heap.size + 1) (.int .i64 D.at_) (.int .i64 D.acc) (.slice a1 D.nc q1) (.slice a2 D.nt q2) (.bool D.d) (X := fun x => x = w.heap.size + 1) rfl
      have h5 := m1.size
      have FIN : Hid (MG (fun x => w.heap.size ≤ x ∧ x < (((((w4.setCell ⟨w.heap.size + 1, 0, none⟩ (.int .i64 D.at_)).setCell ⟨w.heap.size + 1, 1, none⟩ (.int .i64 D.acc)).setCell ⟨w.heap.size + 1, 2, none⟩ (.slice a1 D.nc q1)).setCell ⟨w.heap.size + 1, 3, none⟩ (.slice a2 D.nt q2)).setCell ⟨w.heap.size + 1, 4, none⟩ (.bool D.d)).heap.size) (((((w4.setCell ⟨w.heap.size + 1, 0, none⟩ (.int .i64 D.at_)).setCell ⟨w.heap.size + 1, 1, none⟩ (.int .i64 D.acc)).setCell ⟨w.heap.size + 1, 2, none⟩ (.slice a1 D.nc q1)).setCell ⟨w.heap.size + 1, 3, none⟩ (.slice a2 D.nt q2)).setCell ⟨w.heap.size + 1, 4, none⟩ (.bool D.d)) ⟨a1, a2, q1, q2⟩ D ∧ Blw w (((((w4.setCell ⟨w.heap.size + 1, 0, none⟩ (.int .i64 D.at_)).setCell ⟨w.heap.size + 1, 1, none⟩ (.int .i64 D.acc)).setCell ⟨w.heap.size + 1, 2, none⟩ (.slice a1 D.nc q1)).setCell ⟨w.heap.size + 1, 3, none⟩ (.slice a2 D.nt q2)).setCell ⟨w.heap.size + 1, 4, none⟩ (.bool D.d))) := ⟨⟨(fun b => b = wd.heap.size ∨ (w1.heap.size ≤ b ∧ b < w2.heap.size)), (fun b => b = w2.heap.size ∨ (w3.heap.size ≤ b ∧ b < w4.heap.size)), fun b hb => ⟨⟨by omega, by omega⟩, by omega⟩, fun b hb => ⟨by omega, by omega⟩, (BufI.own' HL1.out (by omega)).mod' m1 (fun b hb => by omega), Buf.mod HL2.out m1 (fun b hb => by omega)⟩, Mod.blw HB.out m1 (fun i hi => by omega)⟩
      clear m1 h5 HL1 HL2 HB HA R1 o0 o1 o2 o3 o4
      have hS0 := get5 R0.out
      go_simp
      refine hK.out _ _ (by simpa [World.cell?_setCell_other] using hS0) (fun hB => ?_)
      clear hK K hB
      try simp only [Act.put, List.setIfInBounds_toArray, List.set_cons_zero, List.set_cons_succ]
      refine wpAnyH_done (by kernel_rfl) ?_ _
      refine NoPanic.normal ?_
      clear R0 HW
      try clear f0 f1 f2 f3 f4
      go_wp2
      refine bodyPost_ret (v := GV.val ⟨a1, a2, q1, q2⟩ D) (by simp [results, Try.results122, go_sem, t0, t1, t2, t3, t4]) rfl ?_
      exact ⟨_, rfl, FIN.out.1, FIN.out.2⟩
    · go_simp
      have o0 := HZ.out; have o1 := HZ1.out
      have hA : Blw w1 (w1.alloc (.cells #[] 3)) := (Blw.refl _).alloc _
      have hE : (w1.alloc (.cells #[] 3)).heap[w1.heap.size]? = some (.cells #[] 3 (0, 0)) := heap_alloc_new w1 _
      have hS : w1.heap.size < (w1.alloc (.cells #[] 3)).heap.size := by simp
      generalize (w1.alloc (.cells #[] 3)) = w2 at *
      replace R0 : Hid (Row w2 w.heap.size 5 (gb v D)) := R0.out.blw hA
      replace R1 : Hid (Row w2 (w.heap.size + 1) 5 (fun i => if i = 0 then .int .i64 0 else if i = 1 then .int .i64 0 else if i = 2 then .slice none 0 0 else if i = 3 then .slice none 0 0 else .bool false)) := R1.out.blw hA
      replace HB : Hid (Blw w w2) := HB.out.trans hA
      replace HA : Hid (GAt Y w2 v D) := HA.out.blw hA
      replace HE1 : Hid (w2.heap[wd.heap.size]? = some (.cells #[] 3 (0, 0))) := (hA.block wd.heap.size (by omega)).trans HE1.out
      have HE2 : Hid (w2.heap[w1.heap.size]? = some (.cells #[] 3 (0, 0))) := hE
      have HZ2 : Hid (w1.heap.size < w2.heap.size) := hS
      clear hA hE hS o0 o1
      refine hK.out _ _ (get5 R0.out) (fun hB => ?_)
      clear hK K hB
      try simp only [Act.put, List.setIfInBounds_toArray, List.set_cons_zero, List.set_cons_succ]
      refine wpAnyH_ready (rs := [7]) (by kernel_rfl) (by simp) ?_
      refine AllReadyH.cons (o := { dst := some 10, op := Op.call { callee := Callee.builtin Builtin.append, args := #[Operand.tmp 7, Operand.tmp 9], argTypes := #[26, 26] }, type := 26, pos := _, after := #[{ on := 4, ground := Ground.data }, { on := 6, ground := Ground.data }], guard := none }) rfl (fun K hK => ?_) AllReadyH.nil
      have o0 := HZ.out; have o1 := HZ1.out; have o2 := HZ2.out
      obtain ⟨a1, q1, w3, hrun, hbuf, hmod⟩ := clone_at HE1.out HA.out.c n1 v.c1
      refine step_app (.tmp 7) (.tmp 9) 26 (by rfl) ?_
      refine ⟨_, _, hrun, ?_⟩
      clear hrun
      have hs := hmod.size
      clear HE1
      replace R0 : Hid (Row w3 w.heap.size 5 (gb v D)) := R0.out.mod hmod (by omega)
      replace R1 : Hid (Row w3 (w.heap.size + 1) 5 (fun i => if i = 0 then .int .i64 0 else if i = 1 then .int .i64 0 else if i = 2 then .slice none 0 0 else if i = 3 then .slice none 0 0 else .bool false)) := R1.out.mod hmod (by omega)
      replace HB : Hid (Blw w w3) := Mod.blw HB.out hmod (fun i hi => by omega)
      replace HA : Hid (GAt Y w3 v D) := HW.out.blw HB.out
      replace HE2 : Hid (w3.heap[w1.heap.size]? = some (.cells #[] 3 (0, 0))) := (hmod.block w1.heap.size (by omega) (by omega)).trans HE2.out
      have HL1 : Hid (BufI (fun b => b = wd.heap.size ∨ (w2.heap.size ≤ b ∧ b < w3.heap.size)) w3 (.slice a1 D.nc q1) D.nc D.c) := hbuf
      have HZ3 : Hid (w2.heap.size ≤ w3.heap.size) := hs
      clear hmod hbuf hs o0 o1 o2
      refine hK.out _ _ (get5 R0.out) (fun hB => ?_)
      clear hK K hB
      try simp only [Act.put, List.setIfInBounds_toArray, List.set_cons_zero, List.set_cons_succ]
      refine wpAnyH_ready (rs := [11]) (by kernel_rfl) (by simp) ?_
      refine AllReadyH.cons (o := { dst := some 14, op := Op.call { callee := Callee.builtin Builtin.append, args := #[Operand.tmp 11, Operand.tmp 13], argTypes := #[26, 26] }, type := 26, pos := _, after := #[{ on := 8, ground := Ground.data }, { on := 10, ground := Ground.data }, { on := 7, ground := Ground.chain }], guard := none }) rfl (fun K hK => ?_) AllReadyH.nil
      have o0 := HZ.out; have o1 := HZ1.out; have o2 := HZ2.out; have o3 := HZ3.out
      obtain ⟨a2, q2, w4, hrun, hbuf, hmod⟩ := clone_at HE2.out HA.out.t n2 v.c2
      refine step_app (.tmp 11) (.tmp 13) 26 (by rfl) ?_
      refine ⟨_, _, hrun, ?_⟩
      clear hrun
      have hs := hmod.size
      clear HE2
      replace R0 : Hid (Row w4 w.heap.size 5 (gb v D)) := R0.out.mod hmod (by omega)
      replace R1 : Hid (Row w4 (w.heap.size + 1) 5 (fun i => if i = 0 then .int .i64 0 else if i = 1 then .int .i64 0 else if i = 2 then .slice none 0 0 else if i = 3 then .slice none 0 0 else .bool false)) := R1.out.mod hmod (by omega)
      replace HB : Hid (Blw w w4) := Mod.blw HB.out hmod (fun i hi => by omega)
      replace HA : Hid (GAt Y w4 v D) := HW.out.blw HB.out
      replace HL1 : Hid (BufI (fun b => b = wd.heap.size ∨ (w2.heap.size ≤ b ∧ b < w3.heap.size)) w4 (.slice a1 D.nc q1) D.nc D.c) := Buf.mod HL1.out hmod (fun b hx => by omega)
      have HL2 : Hid (BufI (fun b => b = w1.heap.size ∨ (w3.heap.size ≤ b ∧ b < w4.heap.size)) w4 (.slice a2 D.nt q2) D.nt D.t) := hbuf
      have HZ4 : Hid (w3.heap.size ≤ w4.heap.size) := hs
      clear hmod hbuf hs o0 o1 o2 o3
      refine hK.out _ _ (get5 R0.out) (fun hB => ?_)
      clear hK K hB
      try simp only [Act.put, List.setIfInBounds_toArray, List.set_cons_zero, List.set_cons_succ]
      refine wpAnyH_take (i := 14) (oi := { dst := some 17, op := Op.build 61 #[(0, Operand.tmp 4), (1, Operand.tmp 6), (2, Operand.tmp 10), (3, Operand.tmp 14), (4, Operand.tmp 16)], type := 61, pos := _, after := #[{ on := 1, ground := Ground.data }, { on := 3, ground := Ground.data }, { on := 7, ground := Ground.data }, { on := 11, ground := Ground.data }, { on := 13, ground := Ground.data }], guard := none }) (v := (.agg #[.int .i64 D.at_, .int .i64 D.acc, .slice a1 D.nc q1, .slice a2 D.nt q2, .bool D.d])) rfl (by kernel_rfl) (by kernel_rfl) (by kernel_rfl) (fun _ _ _ h => h) (Or.inl ⟨by rfl, fun w' hS => by (try dsimp only at hS); go_simp⟩) (get5 R0.out) ?_
      simp only [Act.put, List.setIfInBounds_toArray, List.set_cons_zero, List.set_cons_succ]
      refine wpAnyH_ready (rs := [15]) (by kernel_rfl) (by simp) ?_
      refine AllReadyH.cons (o := { dst := none, op := Op.store 61 (Operand.tmp 2) (Operand.tmp 17), type := 0, pos := _, after := #[{ on := 14, ground := Ground.data }, { on := 11, ground := Ground.chain }, { on := 0, ground := Ground.phase }, { on := 1, ground := Ground.phase }, { on := 2, ground := Ground.phase }, { on := 3, ground := Ground.phase }, { on := 4, ground := Ground.phase }, { on := 5, ground := Ground.phase }, { on := 6, ground := Ground.phase }, { on := 7, ground := Ground.phase }, { on := 8, ground := Ground.phase }, { on := 9, ground := Ground.phase }, { on := 10, ground := Ground.phase }, { on := 11, ground := Ground.phase }, { on := 12, ground := Ground.phase }, { on := 13, ground := Ground.phase }, { on := 14, ground := Ground.phase }], guard := none }) rfl (fun K hK => ?_) AllReadyH.nil
      have o0 := HZ.out; have o1 := HZ1.out; have o2 := HZ2.out; have o3 := HZ3.out; have o4 := HZ4.out
      obtain ⟨t0, t1, t2, t3, t4⟩ := get5 R1.out
      have f0 := R1.out.frozen 0
      have f1 := R1.out.frozen 1
      have f2 := R1.out.frozen 2
      have f3 := R1.out.frozen 3
      have f4 := R1.out.frozen 4
      have m1 := set5_modG w4 (w.heap.size + 1) (.int .i64 D.at_) (.int .i64 D.acc) (.slice a1 D.nc q1) (.slice a2 D.nt q2) (.bool D.d) (X := fun x => x = w.heap.size + 1) rfl
      have h5 := m1.size
      have FIN : Hid (MG (fun x => w.heap.size ≤ x ∧ x < (((((w4.setCell ⟨w.heap.size + 1, 0, none⟩ (.int .i64 D.at_)).setCell ⟨w.heap.size + 1, 1, none⟩ (.int .i64 D.acc)).setCell ⟨w.heap.size + 1, 2, none⟩ (.slice a1 D.nc q1)).setCell ⟨w.heap.size + 1, 3, none⟩ (.slice a2 D.nt q2)).setCell ⟨w.heap.size + 1, 4, none⟩ (.bool D.d)).heap.size) (((((w4.setCell ⟨w.heap.size + 1, 0, none⟩ (.int .i64 D.at_)).setCell ⟨w.heap.size + 1, 1, none⟩ (.int .i64 D.acc)).setCell ⟨w.heap.size + 1, 2, none⟩ (.slice a1 D.nc q1)).setCell ⟨w.heap.size + 1, 3, none⟩ (.slice a2 D.nt q2)).setCell ⟨w.heap.size + 1, 4, none⟩ (.bool D.d)) ⟨a1, a2, q1, q2⟩ D ∧ Blw w (((((w4.setCell ⟨w.heap.size + 1, 0, none⟩ (.int .i64 D.at_)).setCell ⟨w.heap.size + 1, 1, none⟩ (.int .i64 D.acc)).setCell ⟨w.heap.size + 1, 2, none⟩ (.slice a1 D.nc q1)).setCell ⟨w.heap.size + 1, 3, none⟩ (.slice a2 D.nt q2)).setCell ⟨w.heap.size + 1, 4, none⟩ (.bool D.d))) := ⟨⟨(fun b => b = wd.heap.size ∨ (w2.heap.size ≤ b ∧ b < w3.heap.size)), (fun b => b = w1.heap.size ∨ (w3.heap.size ≤ b ∧ b < w4.heap.size)), fun b hb => ⟨⟨by omega, by omega⟩, by omega⟩, fun b hb => ⟨by omega, by omega⟩, (BufI.own' HL1.out (by omega)).mod' m1 (fun b hb => by omega), Buf.mod HL2.out m1 (fun b hb => by omega)⟩, Mod.blw HB.out m1 (fun i hi => by omega)⟩
      clear m1 h5 HL1 HL2 HB HA R1 o0 o1 o2 o3 o4
      have hS0 := get5 R0.out
      go_simp
      refine hK.out _ _ (by simpa [World.cell?_setCell_other] using hS0) (fun hB => ?_)
      clear hK K hB
      try simp only [Act.put, List.setIfInBounds_toArray, List.set_cons_zero, List.set_cons_succ]
      refine wpAnyH_done (by kernel_rfl) ?_ _
      refine NoPanic.normal ?_
      clear R0 HW
      try clear f0 f1 f2 f3 f4
      go_wp2
      refine bodyPost_ret (v := GV.val ⟨a1, a2, q1, q2⟩ D) (by simp [results, Try.results122, go_sem, t0, t1, t2, t3, t4]) rfl ?_
      exact ⟨_, rfl, FIN.out.1, FIN.out.2⟩
  · go_simp
    have o0 := HZ.out
    have hA : Blw wd (wd.alloc (.cells #[] 3)) := (Blw.refl _).alloc _
    have hE : (wd.alloc (.cells #[] 3)).heap[wd.heap.size]? = some (.cells #[] 3 (0, 0)) := heap_alloc_new wd _
    have hS : wd.heap.size < (wd.alloc (.cells #[] 3)).heap.size := by simp
    generalize (wd.alloc (.cells #[] 3)) = w1 at *
    replace R0 : Hid (Row w1 w.heap.size 5 (gb v D)) := R0.out.blw hA
    replace R1 : Hid (Row w1 (w.heap.size + 1) 5 (fun i => if i = 0 then .int .i64 0 else if i = 1 then .int .i64 0 else if i = 2 then .slice none 0 0 else if i = 3 then .slice none 0 0 else .bool false)) := R1.out.blw hA
    replace HB : Hid (Blw w w1) := HB.out.trans hA
    replace HA : Hid (GAt Y w1 v D) := HA.out.blw hA
    have HE2 : Hid (w1.heap[wd.heap.size]? = some (.cells #[] 3 (0, 0))) := hE
    have HZ1 : Hid (wd.heap.size < w1.heap.size) := hS
    clear hA hE hS o0
    refine hK.out _ _ (get5 R0.out) (fun hB => ?_)
    clear hK K hB
    try simp only [Act.put, List.setIfInBounds_toArray, List.set_cons_zero, List.set_cons_succ]
    refine wpAnyH_ready (rs := [4]) (by kernel_rfl) (by simp) ?_
    refine AllReadyH.cons (o := { dst := some 7, op := Op.buildSlice 26 0 #[], type := 26, pos := _, after := #[], guard := none }) rfl (fun K hK => ?_) AllReadyH.nil
    go_simp
    have o0 := HZ.out; have o1 := HZ1.out
    have hA : Blw w1 (w1.alloc (.cells #[] 3)) := (Blw.refl _).alloc _
    have hE : (w1.alloc (.cells #[] 3)).heap[w1.heap.size]? = some (.cells #[] 3 (0, 0)) := heap_alloc_new w1 _
    have hS : w1.heap.size < (w1.alloc (.cells #[] 3)).heap.size := by simp
    generalize (w1.alloc (.cells #[] 3)) = w2 at *
    replace R0 : Hid (Row w2 w.heap.size 5 (gb v D)) := R0.out.blw hA
    replace R1 : Hid (Row w2 (w.heap.size + 1) 5 (fun i => if i = 0 then .int .i64 0 else if i = 1 then .int .i64 0 else if i = 2 then .slice none 0 0 else if i = 3 then .slice none 0 0 else .bool false)) := R1.out.blw hA
    replace HB : Hid (Blw w w2) := HB.out.trans hA
    replace HA : Hid (GAt Y w2 v D) := HA.out.blw hA
    replace HE2 : Hid (w2.heap[wd.heap.size]? = some (.cells #[] 3 (0, 0))) := (hA.block wd.heap.size (by omega)).trans HE2.out
    have HE1 : Hid (w2.heap[w1.heap.size]? = some (.cells #[] 3 (0, 0))) := hE
    have HZ2 : Hid (w1.heap.size < w2.heap.size) := hS
    clear hA hE hS o0 o1
    refine hK.out _ _ (get5 R0.out) (fun hB => ?_)
    clear hK K hB
    try simp only [Act.put, List.setIfInBounds_toArray, List.set_cons_zero, List.set_cons_succ]
    refine wpAnyH_ready (rs := [7]) (by kernel_rfl) (by simp) ?_
    refine AllReadyH.cons (o := { dst := some 10, op := Op.call { callee := Callee.builtin Builtin.append, args := #[Operand.tmp 7, Operand.tmp 9], argTypes := #[26, 26] }, type := 26, pos := _, after := #[{ on := 4, ground := Ground.data }, { on := 6, ground := Ground.data }], guard := none }) rfl (fun K hK => ?_) AllReadyH.nil
    have o0 := HZ.out; have o1 := HZ1.out; have o2 := HZ2.out
    obtain ⟨a1, q1, w3, hrun, hbuf, hmod⟩ := clone_at HE1.out HA.out.c n1 v.c1
    refine step_app (.tmp 7) (.tmp 9) 26 (by rfl) ?_
    refine ⟨_, _, hrun, ?_⟩
    clear hrun
    have hs := hmod.size
    clear HE1
    replace R0 : Hid (Row w3 w.heap.size 5 (gb v D)) := R0.out.mod hmod (by omega)
    replace R1 : Hid (Row w3 (w.heap.size + 1) 5 (fun i => if i = 0 then .int .i64 0 else if i = 1 then .int .i64 0 else if i = 2 then .slice none 0 0 else if i = 3 then .slice none 0 0 else .bool false)) := R1.out.mod hmod (by omega)
    replace HB : Hid (Blw w w3) := Mod.blw HB.out hmod (fun i hi => by omega)
    replace HA : Hid (GAt Y w3 v D) := HW.out.blw HB.out
    replace HE2 : Hid (w3.heap[wd.heap.size]? = some (.cells #[] 3 (0, 0))) := (hmod.block wd.heap.size (by omega) (by omega)).trans HE2.out
    have HL1 : Hid (BufI (fun b => b = w1.heap.size ∨ (w2.heap.size ≤ b ∧ b < w3.heap.size)) w3 (.slice a1 D.nc q1) D.nc D.c) := hbuf
    have HZ3 : Hid (w2.heap.size ≤ w3.heap.size) := hs
    clear hmod hbuf hs o0 o1 o2
    refine hK.out _ _ (get5 R0.out) (fun hB => ?_)
    clear hK K hB
    try simp only [Act.put, List.setIfInBounds_toArray, List.set_cons_zero, List.set_cons_succ]
    refine wpAnyH_ready (rs := [11]) (by kernel_rfl) (by simp) ?_
    refine AllReadyH.cons (o := { dst := some 14, op := Op.call { callee := Callee.builtin Builtin.append, args := #[Operand.tmp 11, Operand.tmp 13], argTypes := #[26, 26] }, type := 26, pos := _, after := #[{ on := 8, ground := Ground.data }, { on := 10, ground := Ground.data }, { on := 7, ground := Ground.chain }], guard := none }) rfl (fun K hK => ?_) AllReadyH.nil
    have o0 := HZ.out; have o1 := HZ1.out; have o2 := HZ2.out; have o3 := HZ3.out
    obtain ⟨a2, q2, w4, hrun, hbuf, hmod⟩ := clone_at HE2.out HA.out.t n2 v.c2
    refine step_app (.tmp 11) (.tmp 13) 26 (by rfl) ?_
    refine ⟨_, _, hrun, ?_⟩
    clear hrun
    have hs := hmod.size
    clear HE2
    replace R0 : Hid (Row w4 w.heap.size 5 (gb v D)) := R0.out.mod hmod (by omega)
    replace R1 : Hid (Row w4 (w.heap.size + 1) 5 (fun i => if i = 0 then .int .i64 0 else if i = 1 then .int .i64 0 else if i = 2 then .slice none 0 0 else if i = 3 then .slice none 0 0 else .bool false)) := R1.out.mod hmod (by omega)
    replace HB : Hid (Blw w w4) := Mod.blw HB.out hmod (fun i hi => by omega)
    replace HA : Hid (GAt Y w4 v D) := HW.out.blw HB.out
    replace HL1 : Hid (BufI (fun b => b = w1.heap.size ∨ (w2.heap.size ≤ b ∧ b < w3.heap.size)) w4 (.slice a1 D.nc q1) D.nc D.c) := Buf.mod HL1.out hmod (fun b hx => by omega)
    have HL2 : Hid (BufI (fun b => b = wd.heap.size ∨ (w3.heap.size ≤ b ∧ b < w4.heap.size)) w4 (.slice a2 D.nt q2) D.nt D.t) := hbuf
    have HZ4 : Hid (w3.heap.size ≤ w4.heap.size) := hs
    clear hmod hbuf hs o0 o1 o2 o3
    refine hK.out _ _ (get5 R0.out) (fun hB => ?_)
    clear hK K hB
    try simp only [Act.put, List.setIfInBounds_toArray, List.set_cons_zero, List.set_cons_succ]
    refine wpAnyH_take (i := 14) (oi := { dst := some 17, op := Op.build 61 #[(0, Operand.tmp 4), (1, Operand.tmp 6), (2, Operand.tmp 10), (3, Operand.tmp 14), (4, Operand.tmp 16)], type := 61, pos := _, after := #[{ on := 1, ground := Ground.data }, { on := 3, ground := Ground.data }, { on := 7, ground := Ground.data }, { on := 11, ground := Ground.data }, { on := 13, ground := Ground.data }], guard := none }) (v := (.agg #[.int .i64 D.at_, .int .i64 D.acc, .slice a1 D.nc q1, .slice a2 D.nt q2, .bool D.d])) rfl (by kernel_rfl) (by kernel_rfl) (by kernel_rfl) (fun _ _ _ h => h) (Or.inl ⟨by rfl, fun w' hS => by (try dsimp only at hS); go_simp⟩) (get5 R0.out) ?_
    simp only [Act.put, List.setIfInBounds_toArray, List.set_cons_zero, List.set_cons_succ]
    refine wpAnyH_ready (rs := [15]) (by kernel_rfl) (by simp) ?_
    refine AllReadyH.cons (o := { dst := none, op := Op.store 61 (Operand.tmp 2) (Operand.tmp 17), type := 0, pos := _, after := #[{ on := 14, ground := Ground.data }, { on := 11, ground := Ground.chain }, { on := 0, ground := Ground.phase }, { on := 1, ground := Ground.phase }, { on := 2, ground := Ground.phase }, { on := 3, ground := Ground.phase }, { on := 4, ground := Ground.phase }, { on := 5, ground := Ground.phase }, { on := 6, ground := Ground.phase }, { on := 7, ground := Ground.phase }, { on := 8, ground := Ground.phase }, { on := 9, ground := Ground.phase }, { on := 10, ground := Ground.phase }, { on := 11, ground := Ground.phase }, { on := 12, ground := Ground.phase }, { on := 13, ground := Ground.phase }, { on := 14, ground := Ground.phase }], guard := none }) rfl (fun K hK => ?_) AllReadyH.nil
    have o0 := HZ.out; have o1 := HZ1.out; have o2 := HZ2.out; have o3 := HZ3.out; have o4 := HZ4.out
    obtain ⟨t0, t1, t2, t3, t4⟩ := get5 R1.out
    have f0 := R1.out.frozen 0
    have f1 := R1.out.frozen 1
    have f2 := R1.out.frozen 2
    have f3 := R1.out.frozen 3
    have f4 := R1.out.frozen 4
    have m1 := set5_modG w4 (w.heap.size + 1) (.int .i64 D.at_) (.int .i64 D.acc) (.slice a1 D.nc q1) (.slice a2 D.nt q2) (.bool D.d) (X := fun x => x = w.heap.size + 1) rfl
    have h5 := m1.size
    have FIN : Hid (MG (fun x => w.heap.size ≤ x ∧ x < (((((w4.setCell ⟨w.heap.size + 1, 0, none⟩ (.int .i64 D.at_)).setCell ⟨w.heap.size + 1, 1, none⟩ (.int .i64 D.acc)).setCell ⟨w.heap.size + 1, 2, none⟩ (.slice a1 D.nc q1)).setCell ⟨w.heap.size + 1, 3, none⟩ (.slice a2 D.nt q2)).setCell ⟨w.heap.size + 1, 4, none⟩ (.bool D.d)).heap.size) (((((w4.setCell ⟨w.heap.size + 1, 0, none⟩ (.int .i64 D.at_)).setCell ⟨w.heap.size + 1, 1, none⟩ (.int .i64 D.acc)).setCell ⟨w.heap.size + 1, 2, none⟩ (.slice a1 D.nc q1)).setCell ⟨w.heap.size + 1, 3, none⟩ (.slice a2 D.nt q2)).setCell ⟨w.heap.size + 1, 4, none⟩ (.bool D.d)) ⟨a1, a2, q1, q2⟩ D ∧ Blw w (((((w4.setCell ⟨w.heap.size + 1, 0, none⟩ (.int .i64 D.at_)).setCell ⟨w.heap.size + 1, 1, none⟩ (.int .i64 D.acc)).setCell ⟨w.heap.size + 1, 2, none⟩ (.slice a1 D.nc q1)).setCell ⟨w.heap.size + 1, 3, none⟩ (.slice a2 D.nt q2)).setCell ⟨w.heap.size + 1, 4, none⟩ (.bool D.d))) := ⟨⟨(fun b => b = w1.heap.size ∨ (w2.heap.size ≤ b ∧ b < w3.heap.size)), (fun b => b = wd.heap.size ∨ (w3.heap.size ≤ b ∧ b < w4.heap.size)), fun b hb => ⟨⟨by omega, by omega⟩, by omega⟩, fun b hb => ⟨by omega, by omega⟩, (BufI.own' HL1.out (by omega)).mod' m1 (fun b hb => by omega), Buf.mod HL2.out m1 (fun b hb => by omega)⟩, Mod.blw HB.out m1 (fun i hi => by omega)⟩
    clear m1 h5 HL1 HL2 HB HA R1 o0 o1 o2 o3 o4
    have hS0 := get5 R0.out
    go_simp
    refine hK.out _ _ (by simpa [World.cell?_setCell_other] using hS0) (fun hB => ?_)
    clear hK K hB
    try simp only [Act.put, List.setIfInBounds_toArray, List.set_cons_zero, List.set_cons_succ]
    refine wpAnyH_done (by kernel_rfl) ?_ _
    refine NoPanic.normal ?_
    clear R0 HW
    try clear f0 f1 f2 f3 f4
    go_wp2
    refine bodyPost_ret (v := GV.val ⟨a1, a2, q1, q2⟩ D) (by simp [results, Try.results122, go_sem, t0, t1, t2, t3, t4]) rfl ?_
    exact ⟨_, rfl, FIN.out.1, FIN.out.2⟩
end Go.Proofs.Ytbpdopcdhnemfaa
/- Guests: the model's step. -/
namespace Go.Proofs.Ytbpdopcdhnemfaa
open Go.RowKit
set_option linter.unusedSimpArgs false
set_option linter.unusedVariables false
theorem fin_sets {X Z : Nat → Prop} {w Wm : World} {v : GV} {D : GD} {z : Nat} (v0 v1 v2 v3 v4 : Value) (h : MG X Wm v D) (hz : ¬ X z) (hM : Mod Z w Wm) (hw : w.heap.size ≤ z) :
    MG X (((((Wm.setCell ⟨z, 0, none⟩ v0).setCell ⟨z, 1, none⟩ v1).setCell ⟨z, 2, none⟩ v2).setCell ⟨z, 3, none⟩ v3).setCell ⟨z, 4, none⟩ v4) v D ∧ Mod Z w (((((Wm.setCell ⟨z, 0, none⟩ v0).setCell ⟨z, 1, none⟩ v1).setCell ⟨z, 2, none⟩ v2).setCell ⟨z, 3, none⟩ v3).setCell ⟨z, 4, none⟩ v4) ∧ Wm.heap.size ≤ (((((Wm.setCell ⟨z, 0, none⟩ v0).setCell ⟨z, 1, none⟩ v1).setCell ⟨z, 2, none⟩ v2).setCell ⟨z, 3, none⟩ v3).setCell ⟨z, 4, none⟩ v4).heap.size := by
  have m1 := set5_modG Wm z v0 v1 v2 v3 v4 (X := fun x => x = z) rfl
  refine ⟨h.mod m1 (fun b hb e => hz (e ▸ hb)), ?_, m1.size⟩
  exact ⟨m1.os.trans hM.os, m1.tape.trans hM.tape, m1.output.trans hM.output, Nat.le_trans hM.size m1.size, fun k hk hx => (m1.block k (Nat.lt_of_lt_of_le hk hM.size) (by omega)).trans (hM.block k hk hx)⟩
theorem Mod.old {X Z : Nat → Prop} {w a b : World} (h : Mod Z w a) (k : Mod X a b) (hx : ∀ x, X x → x < w.heap.size → Z x) : Mod Z w b :=
  ⟨k.os.trans h.os, k.tape.trans h.tape, k.output.trans h.output, Nat.le_trans h.size k.size, fun i hi hz => (k.block i (Nat.lt_of_lt_of_le hi h.size) (fun hh => hz (hx i hh hi))).trans (h.block i hi hz)⟩
set_option maxRecDepth 10000 in
set_option maxHeartbeats 3200000 in
theorem l9Step_end (ao : Option Addr) (cp n : Nat) (F : Nat → Nat → Int) (v : GV) (a : Nat) (acc : Int) (c : Nat → Int) (nt : Nat) (t : Nat → Int) (d : Bool) (X Y : Nat → Prop) (w : World) (hn : n ≤ 16) (ha16 : a ≤ 16) (hacc : wordOK acc) (hnt : nt ≤ 20) (hge : n ≤ a) (hF : KAt 3 Y w ao n F) (hX : ∀ b, X b → b < w.heap.size) (h : MG X w v ⟨(a : Int), acc, 8, c, nt, t, d⟩) :
    Calls Try.prog 126 #[.slice ao n cp, v.val ⟨(a : Int), acc, 8, c, nt, t, d⟩] w fun e w' => ∃ v' : GV, e = .returned (v'.val ⟨(a : Int), acc, 8, c, nt, t, true⟩) ∧ MG (fun b => X b ∨ (w.heap.size ≤ b ∧ b < w'.heap.size)) w' v' ⟨(a : Int), acc, 8, c, nt, t, true⟩ ∧ Mod X w w' := by
  have HB : Hid (Blw w ((w.alloc (.cells #[.int .i64 (a : Int), .int .i64 acc, .slice v.a1 8 v.c1, .slice v.a2 nt v.c2, .bool d] 61)).alloc (.cells #[.int .i64 0, .int .i64 0, .slice none 0 0, .slice none 0 0, .bool false] 61))) := ((Blw.refl _).alloc _).alloc _
  have r1 := row5 (w.alloc (.cells #[.int .i64 (a : Int), .int .i64 acc, .slice v.a1 8 v.c1, .slice v.a2 nt v.c2, .bool d] 61)) (.int .i64 0) (.int .i64 0) (.slice none 0 0) (.slice none 0 0) (.bool false) 61
  rw [World.size_alloc] at r1
  have R0 : Hid (Row ((w.alloc (.cells #[.int .i64 (a : Int), .int .i64 acc, .slice v.a1 8 v.c1, .slice v.a2 nt v.c2, .bool d] 61)).alloc (.cells #[.int .i64 0, .int .i64 0, .slice none 0 0, .slice none 0 0, .bool false] 61)) w.heap.size 5 (fun i => if i = 0 then .int .i64 (a : Int) else if i = 1 then .int .i64 acc else if i = 2 then .slice v.a1 8 v.c1 else if i = 3 then .slice v.a2 nt v.c2 else .bool d)) := (row5 w _ _ _ _ _ 61).blw ((Blw.refl _).alloc _)
  have R1 : Hid (Row ((w.alloc (.cells #[.int .i64 (a : Int), .int .i64 acc, .slice v.a1 8 v.c1, .slice v.a2 nt v.c2, .bool d] 61)).alloc (.cells #[.int .i64 0, .int .i64 0, .slice none 0 0, .slice none 0 0, .bool false] 61)) (w.heap.size + 1) 5 (fun i => if i = 0 then .int .i64 0 else if i = 1 then .int .i64 0 else if i = 2 then .slice none 0 0 else if i = 3 then .slice none 0 0 else .bool false)) := r1
  have HM : Hid (MG X ((w.alloc (.cells #[.int .i64 (a : Int), .int .i64 acc, .slice v.a1 8 v.c1, .slice v.a2 nt v.c2, .bool d] 61)).alloc (.cells #[.int .i64 0, .int .i64 0, .slice none 0 0, .slice none 0 0, .bool false] 61)) v ⟨(a : Int), acc, 8, c, nt, t, d⟩) := h.blw HB.out
  have HF : Hid (KAt 3 Y ((w.alloc (.cells #[.int .i64 (a : Int), .int .i64 acc, .slice v.a1 8 v.c1, .slice v.a2 nt v.c2, .bool d] 61)).alloc (.cells #[.int .i64 0, .int .i64 0, .slice none 0 0, .slice none 0 0, .bool false] 61)) ao n F) := hF.blw HB.out
  have HXX : Hid (∀ b, X b → b < w.heap.size) := hX
  have HSZ : Hid (((w.alloc (.cells #[.int .i64 (a : Int), .int .i64 acc, .slice v.a1 8 v.c1, .slice v.a2 nt v.c2, .bool d] 61)).alloc (.cells #[.int .i64 0, .int .i64 0, .slice none 0 0, .slice none 0 0, .bool false] 61)).heap.size = w.heap.size + 1 + 1) := by show _ = _; simp
  clear h hF hX r1
  go_enter Try.func126, Try.ntmps126
  go_upto_region 1 with fail
  generalize ((w.alloc (.cells #[.int .i64 (a : Int), .int .i64 acc, .slice v.a1 8 v.c1, .slice v.a2 nt v.c2, .bool d] 61)).alloc (.cells #[.int .i64 0, .int .i64 0, .slice none 0 0, .slice none 0 0, .bool false] 61)) = w0 at *
  have hsz := HSZ.out
  obtain ⟨p0, p1, p2, p3, p4⟩ := get5 R0.out
  obtain ⟨t0, t1, t2, t3, t4⟩ := get5 R1.out

  have e0 := R0.out.frozen 0; have e1 := R0.out.frozen 1; have e2 := R0.out.frozen 2; have e3 := R0.out.frozen 3; have e4 := R0.out.frozen 4
  have f0 := R1.out.frozen 0; have f1 := R1.out.frozen 1; have f2 := R1.out.frozen 2; have f3 := R1.out.frozen 3; have f4 := R1.out.frozen 4
  have m0 : Mod X w (w0.setCell ⟨w.heap.size, 4, none⟩ (.bool true)) := Mod.old (HB.out.mod X) (Mod.setCell (X := fun x => x = w.heap.size) _ (p := ⟨w.heap.size, 4, none⟩) rfl _) (fun x hx hl => by omega)
  have FIN := fin_sets (v := v) (D := ⟨(a : Int), acc, 8, c, nt, t, true⟩) (Z := X) (w := w) (Wm := (w0.setCell ⟨w.heap.size, 4, none⟩ (.bool true))) (z := w.heap.size + 1) (.int .i64 (a : Int)) (.int .i64 acc) (.slice v.a1 8 v.c1) (.slice v.a2 nt v.c2) (.bool true) (show MG X (w0.setCell ⟨w.heap.size, 4, none⟩ (.bool true)) v ⟨(a : Int), acc, 8, c, nt, t, true⟩ from ⟨(HM.out.mod (Mod.setCell (X := fun x => x = w.heap.size) _ (p := ⟨w.heap.size, 4, none⟩) rfl _) (fun b hb e => by have := HXX.out b hb; omega)).ex⟩) (fun hx => by have := HXX.out _ hx; omega) m0 (by omega)
  have FF : Hid _ := FIN
  clear m0 FIN HB R0 R1 HM HF HXX HSZ hsz
  go_wp2
  refine bodyPost_ret (v := GV.val v ⟨(a : Int), acc, 8, c, nt, t, true⟩) (by simp [results, Try.results126, go_sem, t0, t1, t2, t3, t4]) rfl ?_
  exact ⟨v, rfl, FF.out.1.mono (fun b hb => Or.inl hb), FF.out.2.1⟩
set_option maxRecDepth 10000 in
set_option maxHeartbeats 3200000 in
theorem l9Step_halt (ao : Option Addr) (cp n : Nat) (F : Nat → Nat → Int) (v : GV) (a : Nat) (acc : Int) (c : Nat → Int) (nt : Nat) (t : Nat → Int) (d : Bool) (X Y : Nat → Prop) (w : World) (hn : n ≤ 16) (ha16 : a ≤ 16) (hacc : wordOK acc) (hnt : nt ≤ 20) (hlt : a < n) (hk : F a 0 = 7) (hF : KAt 3 Y w ao n F) (hX : ∀ b, X b → b < w.heap.size) (h : MG X w v ⟨(a : Int), acc, 8, c, nt, t, d⟩) :
    Calls Try.prog 126 #[.slice ao n cp, v.val ⟨(a : Int), acc, 8, c, nt, t, d⟩] w fun e w' => ∃ v' : GV, e = .returned (v'.val ⟨(a : Int), acc, 8, c, nt, t, true⟩) ∧ MG (fun b => X b ∨ (w.heap.size ≤ b ∧ b < w'.heap.size)) w' v' ⟨(a : Int), acc, 8, c, nt, t, true⟩ ∧ Mod X w w' := by
  have HB : Hid (Blw w ((w.alloc (.cells #[.int .i64 (a : Int), .int .i64 acc, .slice v.a1 8 v.c1, .slice v.a2 nt v.c2, .bool d] 61)).alloc (.cells #[.int .i64 0, .int .i64 0, .slice none 0 0, .slice none 0 0, .bool false] 61))) := ((Blw.refl _).alloc _).alloc _
  have r1 := row5 (w.alloc (.cells #[.int .i64 (a : Int), .int .i64 acc, .slice v.a1 8 v.c1, .slice v.a2 nt v.c2, .bool d] 61)) (.int .i64 0) (.int .i64 0) (.slice none 0 0) (.slice none 0 0) (.bool false) 61
  rw [World.size_alloc] at r1
  have R0 : Hid (Row ((w.alloc (.cells #[.int .i64 (a : Int), .int .i64 acc, .slice v.a1 8 v.c1, .slice v.a2 nt v.c2, .bool d] 61)).alloc (.cells #[.int .i64 0, .int .i64 0, .slice none 0 0, .slice none 0 0, .bool false] 61)) w.heap.size 5 (fun i => if i = 0 then .int .i64 (a : Int) else if i = 1 then .int .i64 acc else if i = 2 then .slice v.a1 8 v.c1 else if i = 3 then .slice v.a2 nt v.c2 else .bool d)) := (row5 w _ _ _ _ _ 61).blw ((Blw.refl _).alloc _)
  have R1 : Hid (Row ((w.alloc (.cells #[.int .i64 (a : Int), .int .i64 acc, .slice v.a1 8 v.c1, .slice v.a2 nt v.c2, .bool d] 61)).alloc (.cells #[.int .i64 0, .int .i64 0, .slice none 0 0, .slice none 0 0, .bool false] 61)) (w.heap.size + 1) 5 (fun i => if i = 0 then .int .i64 0 else if i = 1 then .int .i64 0 else if i = 2 then .slice none 0 0 else if i = 3 then .slice none 0 0 else .bool false)) := r1
  have HM : Hid (MG X ((w.alloc (.cells #[.int .i64 (a : Int), .int .i64 acc, .slice v.a1 8 v.c1, .slice v.a2 nt v.c2, .bool d] 61)).alloc (.cells #[.int .i64 0, .int .i64 0, .slice none 0 0, .slice none 0 0, .bool false] 61)) v ⟨(a : Int), acc, 8, c, nt, t, d⟩) := h.blw HB.out
  have HF : Hid (KAt 3 Y ((w.alloc (.cells #[.int .i64 (a : Int), .int .i64 acc, .slice v.a1 8 v.c1, .slice v.a2 nt v.c2, .bool d] 61)).alloc (.cells #[.int .i64 0, .int .i64 0, .slice none 0 0, .slice none 0 0, .bool false] 61)) ao n F) := hF.blw HB.out
  have HXX : Hid (∀ b, X b → b < w.heap.size) := hX
  have HSZ : Hid (((w.alloc (.cells #[.int .i64 (a : Int), .int .i64 acc, .slice v.a1 8 v.c1, .slice v.a2 nt v.c2, .bool d] 61)).alloc (.cells #[.int .i64 0, .int .i64 0, .slice none 0 0, .slice none 0 0, .bool false] 61)).heap.size = w.heap.size + 1 + 1) := by show _ = _; simp
  clear h hF hX r1
  go_enter Try.func126, Try.ntmps126
  go_upto_region 1 with fail
  generalize ((w.alloc (.cells #[.int .i64 (a : Int), .int .i64 acc, .slice v.a1 8 v.c1, .slice v.a2 nt v.c2, .bool d] 61)).alloc (.cells #[.int .i64 0, .int .i64 0, .slice none 0 0, .slice none 0 0, .bool false] 61)) = w0 at *
  have hsz := HSZ.out
  obtain ⟨p0, p1, p2, p3, p4⟩ := get5 R0.out
  obtain ⟨t0, t1, t2, t3, t4⟩ := get5 R1.out
  obtain ⟨bp, op, rfl, -, gg⟩ := HF.out.2 a (by omega)
  have g0 := gg 0 (by omega)
  have g1 := gg 1 (by omega)
  have g2 := gg 2 (by omega)
  rw [Nat.add_zero] at g0
  clear gg
  have hge : ¬ n ≤ a := by omega
  have hlt' : (a : Int) < n := by omega
  rw [hk] at g0
  clear hk hlt
  have e0 := R0.out.frozen 0; have e1 := R0.out.frozen 1; have e2 := R0.out.frozen 2; have e3 := R0.out.frozen 3; have e4 := R0.out.frozen 4
  have f0 := R1.out.frozen 0; have f1 := R1.out.frozen 1; have f2 := R1.out.frozen 2; have f3 := R1.out.frozen 3; have f4 := R1.out.frozen 4
  have m0 : Mod X w (w0.setCell ⟨w.heap.size, 4, none⟩ (.bool true)) := Mod.old (HB.out.mod X) (Mod.setCell (X := fun x => x = w.heap.size) _ (p := ⟨w.heap.size, 4, none⟩) rfl _) (fun x hx hl => by omega)
  have FIN := fin_sets (v := v) (D := ⟨(a : Int), acc, 8, c, nt, t, true⟩) (Z := X) (w := w) (Wm := (w0.setCell ⟨w.heap.size, 4, none⟩ (.bool true))) (z := w.heap.size + 1) (.int .i64 (a : Int)) (.int .i64 acc) (.slice v.a1 8 v.c1) (.slice v.a2 nt v.c2) (.bool true) (show MG X (w0.setCell ⟨w.heap.size, 4, none⟩ (.bool true)) v ⟨(a : Int), acc, 8, c, nt, t, true⟩ from ⟨(HM.out.mod (Mod.setCell (X := fun x => x = w.heap.size) _ (p := ⟨w.heap.size, 4, none⟩) rfl _) (fun b hb e => by have := HXX.out b hb; omega)).ex⟩) (fun hx => by have := HXX.out _ hx; omega) m0 (by omega)
  have FF : Hid _ := FIN
  clear m0 FIN HB R0 R1 HM HF HXX HSZ hsz
  go_wp2
  refine bodyPost_ret (v := GV.val v ⟨(a : Int), acc, 8, c, nt, t, true⟩) (by simp [results, Try.results126, go_sem, t0, t1, t2, t3, t4]) rfl ?_
  exact ⟨v, rfl, FF.out.1.mono (fun b hb => Or.inl hb), FF.out.2.1⟩
set_option maxRecDepth 10000 in
set_option maxHeartbeats 3200000 in
theorem l9Step_full (ao : Option Addr) (cp n : Nat) (F : Nat → Nat → Int) (v : GV) (a : Nat) (acc : Int) (c : Nat → Int) (nt : Nat) (t : Nat → Int) (d : Bool) (X Y : Nat → Prop) (w : World) (hn : n ≤ 16) (ha16 : a ≤ 16) (hacc : wordOK acc) (hnt : nt ≤ 20) (hlt : a < n) (hk : F a 0 = 6) (h20 : nt = 20) (hF : KAt 3 Y w ao n F) (hX : ∀ b, X b → b < w.heap.size) (h : MG X w v ⟨(a : Int), acc, 8, c, nt, t, d⟩) :
    Calls Try.prog 126 #[.slice ao n cp, v.val ⟨(a : Int), acc, 8, c, nt, t, d⟩] w fun e w' => ∃ v' : GV, e = .returned (v'.val ⟨(a : Int), acc, 8, c, nt, t, true⟩) ∧ MG (fun b => X b ∨ (w.heap.size ≤ b ∧ b < w'.heap.size)) w' v' ⟨(a : Int), acc, 8, c, nt, t, true⟩ ∧ Mod X w w' := by
  have HB : Hid (Blw w ((w.alloc (.cells #[.int .i64 (a : Int), .int .i64 acc, .slice v.a1 8 v.c1, .slice v.a2 nt v.c2, .bool d] 61)).alloc (.cells #[.int .i64 0, .int .i64 0, .slice none 0 0, .slice none 0 0, .bool false] 61))) := ((Blw.refl _).alloc _).alloc _
  have r1 := row5 (w.alloc (.cells #[.int .i64 (a : Int), .int .i64 acc, .slice v.a1 8 v.c1, .slice v.a2 nt v.c2, .bool d] 61)) (.int .i64 0) (.int .i64 0) (.slice none 0 0) (.slice none 0 0) (.bool false) 61
  rw [World.size_alloc] at r1
  have R0 : Hid (Row ((w.alloc (.cells #[.int .i64 (a : Int), .int .i64 acc, .slice v.a1 8 v.c1, .slice v.a2 nt v.c2, .bool d] 61)).alloc (.cells #[.int .i64 0, .int .i64 0, .slice none 0 0, .slice none 0 0, .bool false] 61)) w.heap.size 5 (fun i => if i = 0 then .int .i64 (a : Int) else if i = 1 then .int .i64 acc else if i = 2 then .slice v.a1 8 v.c1 else if i = 3 then .slice v.a2 nt v.c2 else .bool d)) := (row5 w _ _ _ _ _ 61).blw ((Blw.refl _).alloc _)
  have R1 : Hid (Row ((w.alloc (.cells #[.int .i64 (a : Int), .int .i64 acc, .slice v.a1 8 v.c1, .slice v.a2 nt v.c2, .bool d] 61)).alloc (.cells #[.int .i64 0, .int .i64 0, .slice none 0 0, .slice none 0 0, .bool false] 61)) (w.heap.size + 1) 5 (fun i => if i = 0 then .int .i64 0 else if i = 1 then .int .i64 0 else if i = 2 then .slice none 0 0 else if i = 3 then .slice none 0 0 else .bool false)) := r1
  have HM : Hid (MG X ((w.alloc (.cells #[.int .i64 (a : Int), .int .i64 acc, .slice v.a1 8 v.c1, .slice v.a2 nt v.c2, .bool d] 61)).alloc (.cells #[.int .i64 0, .int .i64 0, .slice none 0 0, .slice none 0 0, .bool false] 61)) v ⟨(a : Int), acc, 8, c, nt, t, d⟩) := h.blw HB.out
  have HF : Hid (KAt 3 Y ((w.alloc (.cells #[.int .i64 (a : Int), .int .i64 acc, .slice v.a1 8 v.c1, .slice v.a2 nt v.c2, .bool d] 61)).alloc (.cells #[.int .i64 0, .int .i64 0, .slice none 0 0, .slice none 0 0, .bool false] 61)) ao n F) := hF.blw HB.out
  have HXX : Hid (∀ b, X b → b < w.heap.size) := hX
  have HSZ : Hid (((w.alloc (.cells #[.int .i64 (a : Int), .int .i64 acc, .slice v.a1 8 v.c1, .slice v.a2 nt v.c2, .bool d] 61)).alloc (.cells #[.int .i64 0, .int .i64 0, .slice none 0 0, .slice none 0 0, .bool false] 61)).heap.size = w.heap.size + 1 + 1) := by show _ = _; simp
  clear h hF hX r1
  have Hh20 : Hid (nt = 20) := h20
  clear h20
  go_enter Try.func126, Try.ntmps126
  go_upto_region 1 with fail
  generalize ((w.alloc (.cells #[.int .i64 (a : Int), .int .i64 acc, .slice v.a1 8 v.c1, .slice v.a2 nt v.c2, .bool d] 61)).alloc (.cells #[.int .i64 0, .int .i64 0, .slice none 0 0, .slice none 0 0, .bool false] 61)) = w0 at *
  have hsz := HSZ.out
  obtain ⟨p0, p1, p2, p3, p4⟩ := get5 R0.out
  obtain ⟨t0, t1, t2, t3, t4⟩ := get5 R1.out
  obtain ⟨bp, op, rfl, -, gg⟩ := HF.out.2 a (by omega)
  have g0 := gg 0 (by omega)
  have g1 := gg 1 (by omega)
  have g2 := gg 2 (by omega)
  rw [Nat.add_zero] at g0
  clear gg
  have hge : ¬ n ≤ a := by omega
  have hlt' : (a : Int) < n := by omega
  have d20 : ((nt : Int) == 20) = true := by simp [Hh20.out]
  rw [hk] at g0
  clear hk hlt Hh20
  have e0 := R0.out.frozen 0; have e1 := R0.out.frozen 1; have e2 := R0.out.frozen 2; have e3 := R0.out.frozen 3; have e4 := R0.out.frozen 4
  have f0 := R1.out.frozen 0; have f1 := R1.out.frozen 1; have f2 := R1.out.frozen 2; have f3 := R1.out.frozen 3; have f4 := R1.out.frozen 4
  have m0 : Mod X w (w0.setCell ⟨w.heap.size, 4, none⟩ (.bool true)) := Mod.old (HB.out.mod X) (Mod.setCell (X := fun x => x = w.heap.size) _ (p := ⟨w.heap.size, 4, none⟩) rfl _) (fun x hx hl => by omega)
  have FIN := fin_sets (v := v) (D := ⟨(a : Int), acc, 8, c, nt, t, true⟩) (Z := X) (w := w) (Wm := (w0.setCell ⟨w.heap.size, 4, none⟩ (.bool true))) (z := w.heap.size + 1) (.int .i64 (a : Int)) (.int .i64 acc) (.slice v.a1 8 v.c1) (.slice v.a2 nt v.c2) (.bool true) (show MG X (w0.setCell ⟨w.heap.size, 4, none⟩ (.bool true)) v ⟨(a : Int), acc, 8, c, nt, t, true⟩ from ⟨(HM.out.mod (Mod.setCell (X := fun x => x = w.heap.size) _ (p := ⟨w.heap.size, 4, none⟩) rfl _) (fun b hb e => by have := HXX.out b hb; omega)).ex⟩) (fun hx => by have := HXX.out _ hx; omega) m0 (by omega)
  have FF : Hid _ := FIN
  clear m0 FIN HB R0 R1 HM HF HXX HSZ hsz
  go_wp2
  refine bodyPost_ret (v := GV.val v ⟨(a : Int), acc, 8, c, nt, t, true⟩) (by simp [results, Try.results126, go_sem, t0, t1, t2, t3, t4]) rfl ?_
  exact ⟨v, rfl, FF.out.1.mono (fun b hb => Or.inl hb), FF.out.2.1⟩
end Go.Proofs.Ytbpdopcdhnemfaa
/- Guests: the model's step, where it goes on. -/
namespace Go.Proofs.Ytbpdopcdhnemfaa
open Go.RowKit
set_option linter.unusedSimpArgs false
set_option linter.unusedVariables false
set_option maxRecDepth 10000 in
set_option maxHeartbeats 3200000 in
theorem l9Step_set (ao : Option Addr) (cp n : Nat) (F : Nat → Nat → Int) (v : GV) (a : Nat) (acc : Int) (c : Nat → Int) (nt : Nat) (t : Nat → Int) (d : Bool) (X Y : Nat → Prop) (w : World) (hn : n ≤ 16) (ha16 : a ≤ 16) (hacc : wordOK acc) (hnt : nt ≤ 20) (hlt : a < n) (hk : F a 0 = 1) (hF : KAt 3 Y w ao n F) (hX : ∀ b, X b → b < w.heap.size) (h : MG X w v ⟨(a : Int), acc, 8, c, nt, t, d⟩) :
    Calls Try.prog 126 #[.slice ao n cp, v.val ⟨(a : Int), acc, 8, c, nt, t, d⟩] w fun e w' => ∃ v' : GV, e = .returned (v'.val ⟨(a : Int) + 1, F a 2, 8, c, nt, t, d⟩) ∧ MG (fun b => X b ∨ (w.heap.size ≤ b ∧ b < w'.heap.size)) w' v' ⟨(a : Int) + 1, F a 2, 8, c, nt, t, d⟩ ∧ Mod X w w' := by
  have HB : Hid (Blw w ((w.alloc (.cells #[.int .i64 (a : Int), .int .i64 acc, .slice v.a1 8 v.c1, .slice v.a2 nt v.c2, .bool d] 61)).alloc (.cells #[.int .i64 0, .int .i64 0, .slice none 0 0, .slice none 0 0, .bool false] 61))) := ((Blw.refl _).alloc _).alloc _
  have r1 := row5 (w.alloc (.cells #[.int .i64 (a : Int), .int .i64 acc, .slice v.a1 8 v.c1, .slice v.a2 nt v.c2, .bool d] 61)) (.int .i64 0) (.int .i64 0) (.slice none 0 0) (.slice none 0 0) (.bool false) 61
  rw [World.size_alloc] at r1
  have R0 : Hid (Row ((w.alloc (.cells #[.int .i64 (a : Int), .int .i64 acc, .slice v.a1 8 v.c1, .slice v.a2 nt v.c2, .bool d] 61)).alloc (.cells #[.int .i64 0, .int .i64 0, .slice none 0 0, .slice none 0 0, .bool false] 61)) w.heap.size 5 (fun i => if i = 0 then .int .i64 (a : Int) else if i = 1 then .int .i64 acc else if i = 2 then .slice v.a1 8 v.c1 else if i = 3 then .slice v.a2 nt v.c2 else .bool d)) := (row5 w _ _ _ _ _ 61).blw ((Blw.refl _).alloc _)
  have R1 : Hid (Row ((w.alloc (.cells #[.int .i64 (a : Int), .int .i64 acc, .slice v.a1 8 v.c1, .slice v.a2 nt v.c2, .bool d] 61)).alloc (.cells #[.int .i64 0, .int .i64 0, .slice none 0 0, .slice none 0 0, .bool false] 61)) (w.heap.size + 1) 5 (fun i => if i = 0 then .int .i64 0 else if i = 1 then .int .i64 0 else if i = 2 then .slice none 0 0 else if i = 3 then .slice none 0 0 else .bool false)) := r1
  have HM : Hid (MG X ((w.alloc (.cells #[.int .i64 (a : Int), .int .i64 acc, .slice v.a1 8 v.c1, .slice v.a2 nt v.c2, .bool d] 61)).alloc (.cells #[.int .i64 0, .int .i64 0, .slice none 0 0, .slice none 0 0, .bool false] 61)) v ⟨(a : Int), acc, 8, c, nt, t, d⟩) := h.blw HB.out
  have HF : Hid (KAt 3 Y ((w.alloc (.cells #[.int .i64 (a : Int), .int .i64 acc, .slice v.a1 8 v.c1, .slice v.a2 nt v.c2, .bool d] 61)).alloc (.cells #[.int .i64 0, .int .i64 0, .slice none 0 0, .slice none 0 0, .bool false] 61)) ao n F) := hF.blw HB.out
  have HXX : Hid (∀ b, X b → b < w.heap.size) := hX
  have HSZ : Hid (((w.alloc (.cells #[.int .i64 (a : Int), .int .i64 acc, .slice v.a1 8 v.c1, .slice v.a2 nt v.c2, .bool d] 61)).alloc (.cells #[.int .i64 0, .int .i64 0, .slice none 0 0, .slice none 0 0, .bool false] 61)).heap.size = w.heap.size + 1 + 1) := by show _ = _; simp
  clear h hF hX r1
  go_enter Try.func126, Try.ntmps126
  go_upto_region 1 with fail
  generalize ((w.alloc (.cells #[.int .i64 (a : Int), .int .i64 acc, .slice v.a1 8 v.c1, .slice v.a2 nt v.c2, .bool d] 61)).alloc (.cells #[.int .i64 0, .int .i64 0, .slice none 0 0, .slice none 0 0, .bool false] 61)) = w0 at *
  have hsz := HSZ.out
  obtain ⟨p0, p1, p2, p3, p4⟩ := get5 R0.out
  obtain ⟨t0, t1, t2, t3, t4⟩ := get5 R1.out
  obtain ⟨bp, op, rfl, -, gg⟩ := HF.out.2 a (by omega)
  have g0 := gg 0 (by omega)
  have g1 := gg 1 (by omega)
  have g2 := gg 2 (by omega)
  rw [Nat.add_zero] at g0
  clear gg
  have hge : ¬ n ≤ a := by omega
  have hlt' : (a : Int) < n := by omega
  rw [hk] at g0
  clear hlt
  have hk' := hk
  clear hk
  have q1 := HSZ.out
  have hA : Blw w0 (w0.alloc (.cells #[.int .i64 1, .int .i64 (F a 1), .int .i64 (F a 2)] 170)) := (Blw.refl _).alloc _
  have S0 : Hid (Row (w0.alloc (.cells #[.int .i64 1, .int .i64 (F a 1), .int .i64 (F a 2)] 170)) w.heap.size 5 (fun i => if i = 0 then .int .i64 (a : Int) else if i = 1 then .int .i64 acc else if i = 2 then .slice v.a1 8 v.c1 else if i = 3 then .slice v.a2 nt v.c2 else .bool d)) := R0.out.blw hA
  have S1 : Hid (Row (w0.alloc (.cells #[.int .i64 1, .int .i64 (F a 1), .int .i64 (F a 2)] 170)) (w.heap.size + 1) 5 (fun i => if i = 0 then .int .i64 0 else if i = 1 then .int .i64 0 else if i = 2 then .slice none 0 0 else if i = 3 then .slice none 0 0 else .bool false)) := R1.out.blw hA
  have S3 : Hid (Row (w0.alloc (.cells #[.int .i64 1, .int .i64 (F a 1), .int .i64 (F a 2)] 170)) w0.heap.size 3 (fun i => if i = 0 then .int .i64 1 else if i = 1 then .int .i64 (F a 1) else .int .i64 (F a 2))) := box3 w0 _ _ _ 170
  have SM : Hid (MG X (w0.alloc (.cells #[.int .i64 1, .int .i64 (F a 1), .int .i64 (F a 2)] 170)) v ⟨(a : Int), acc, 8, c, nt, t, d⟩) := HM.out.blw hA
  have SB : Hid (Blw w (w0.alloc (.cells #[.int .i64 1, .int .i64 (F a 1), .int .i64 (F a 2)] 170))) := HB.out.trans hA
  have SZ : Hid (w0.heap.size = w.heap.size + 1 + 1 ∧ (w0.alloc (.cells #[.int .i64 1, .int .i64 (F a 1), .int .i64 (F a 2)] 170)).heap.size = w.heap.size + 1 + 1 + 1) := ⟨q1, by rw [World.size_alloc, q1]⟩
  clear q1 hA hk'
  go_upto_region 5 with fail
  generalize (w0.alloc (.cells #[.int .i64 1, .int .i64 (F a 1), .int .i64 (F a 2)] 170)) = w1 at *
  obtain ⟨qz, qz1⟩ := SZ.out
  rw [qz] at S3
  clear p0 p1 p2 p3 p4 t0 t1 t2 t3 t4 HB R0 R1 HM HF HSZ hsz qz g0 g1 g2 SZ
  obtain ⟨p0, p1, p2, p3, p4⟩ := get5 S0.out
  obtain ⟨t0, t1, t2, t3, t4⟩ := get5 S1.out
  obtain ⟨s0, s1, s2⟩ := get3 S3.out
  have e0 := S0.out.frozen 0; have e1 := S0.out.frozen 1; have e2 := S0.out.frozen 2; have e3 := S0.out.frozen 3; have e4 := S0.out.frozen 4
  have f0 := S1.out.frozen 0; have f1 := S1.out.frozen 1; have f2 := S1.out.frozen 2; have f3 := S1.out.frozen 3; have f4 := S1.out.frozen 4

  have FF : Hid (_ ∧ _ ∧ _) := fin_sets (v := v) (D := ⟨(a : Int) + 1, F a 2, 8, c, nt, t, d⟩) (Z := X) (w := w) (Wm := ((w1.setCell ⟨w.heap.size, 0, none⟩ (.int .i64 ((a : Int) + 1))).setCell ⟨w.heap.size, 1, none⟩ (.int .i64 (F a 2)))) (z := w.heap.size + 1) (.int .i64 ((a : Int) + 1)) (.int .i64 (F a 2)) (.slice v.a1 8 v.c1) (.slice v.a2 nt v.c2) (.bool d) (show MG X ((w1.setCell ⟨w.heap.size, 0, none⟩ (.int .i64 ((a : Int) + 1))).setCell ⟨w.heap.size, 1, none⟩ (.int .i64 (F a 2))) v ⟨(a : Int) + 1, F a 2, 8, c, nt, t, d⟩ from ⟨(MG.mod (MG.mod (SM.out) (Mod.setCell (X := fun x => x = w.heap.size) _ (p := ⟨w.heap.size, 0, none⟩) rfl _) (fun b hb e => by have := HXX.out b hb; omega)) (Mod.setCell (X := fun x => x = w.heap.size) _ (p := ⟨w.heap.size, 1, none⟩) rfl _) (fun b hb e => by have := HXX.out b hb; omega)).ex⟩) (fun hx => by have := HXX.out _ hx; omega) (Mod.old (Mod.old ((SB.out.mod X)) (Mod.setCell (X := fun x => x = w.heap.size) _ (p := ⟨w.heap.size, 0, none⟩) rfl _) (fun x hx hl => by omega)) (Mod.setCell (X := fun x => x = w.heap.size) _ (p := ⟨w.heap.size, 1, none⟩) rfl _) (fun x hx hl => by omega)) (by omega)
  clear SB S0 S1 S3 SM HXX
  go_wp2
  refine bodyPost_ret (v := GV.val v ⟨(a : Int) + 1, F a 2, 8, c, nt, t, d⟩) (by simp [results, Try.results126, go_sem, t0, t1, t2, t3, t4]) rfl ?_
  exact ⟨v, rfl, FF.out.1.mono (fun b hb => Or.inl hb), FF.out.2.1⟩
set_option maxRecDepth 10000 in
set_option maxHeartbeats 3200000 in
theorem l9Step_add (ao : Option Addr) (cp n : Nat) (F : Nat → Nat → Int) (v : GV) (a : Nat) (acc : Int) (c : Nat → Int) (nt : Nat) (t : Nat → Int) (d : Bool) (X Y : Nat → Prop) (w : World) (hn : n ≤ 16) (ha16 : a ≤ 16) (hacc : wordOK acc) (hnt : nt ≤ 20) (hlt : a < n) (hk : F a 0 = 2) (hx : wordOK (F a 2)) (hF : KAt 3 Y w ao n F) (hX : ∀ b, X b → b < w.heap.size) (h : MG X w v ⟨(a : Int), acc, 8, c, nt, t, d⟩) :
    Calls Try.prog 126 #[.slice ao n cp, v.val ⟨(a : Int), acc, 8, c, nt, t, d⟩] w fun e w' => ∃ v' : GV, e = .returned (v'.val ⟨(a : Int) + 1, (acc + F a 2) % 65536, 8, c, nt, t, d⟩) ∧ MG (fun b => X b ∨ (w.heap.size ≤ b ∧ b < w'.heap.size)) w' v' ⟨(a : Int) + 1, (acc + F a 2) % 65536, 8, c, nt, t, d⟩ ∧ Mod X w w' := by
  have HB : Hid (Blw w ((w.alloc (.cells #[.int .i64 (a : Int), .int .i64 acc, .slice v.a1 8 v.c1, .slice v.a2 nt v.c2, .bool d] 61)).alloc (.cells #[.int .i64 0, .int .i64 0, .slice none 0 0, .slice none 0 0, .bool false] 61))) := ((Blw.refl _).alloc _).alloc _
  have r1 := row5 (w.alloc (.cells #[.int .i64 (a : Int), .int .i64 acc, .slice v.a1 8 v.c1, .slice v.a2 nt v.c2, .bool d] 61)) (.int .i64 0) (.int .i64 0) (.slice none 0 0) (.slice none 0 0) (.bool false) 61
  rw [World.size_alloc] at r1
  have R0 : Hid (Row ((w.alloc (.cells #[.int .i64 (a : Int), .int .i64 acc, .slice v.a1 8 v.c1, .slice v.a2 nt v.c2, .bool d] 61)).alloc (.cells #[.int .i64 0, .int .i64 0, .slice none 0 0, .slice none 0 0, .bool false] 61)) w.heap.size 5 (fun i => if i = 0 then .int .i64 (a : Int) else if i = 1 then .int .i64 acc else if i = 2 then .slice v.a1 8 v.c1 else if i = 3 then .slice v.a2 nt v.c2 else .bool d)) := (row5 w _ _ _ _ _ 61).blw ((Blw.refl _).alloc _)
  have R1 : Hid (Row ((w.alloc (.cells #[.int .i64 (a : Int), .int .i64 acc, .slice v.a1 8 v.c1, .slice v.a2 nt v.c2, .bool d] 61)).alloc (.cells #[.int .i64 0, .int .i64 0, .slice none 0 0, .slice none 0 0, .bool false] 61)) (w.heap.size + 1) 5 (fun i => if i = 0 then .int .i64 0 else if i = 1 then .int .i64 0 else if i = 2 then .slice none 0 0 else if i = 3 then .slice none 0 0 else .bool false)) := r1
  have HM : Hid (MG X ((w.alloc (.cells #[.int .i64 (a : Int), .int .i64 acc, .slice v.a1 8 v.c1, .slice v.a2 nt v.c2, .bool d] 61)).alloc (.cells #[.int .i64 0, .int .i64 0, .slice none 0 0, .slice none 0 0, .bool false] 61)) v ⟨(a : Int), acc, 8, c, nt, t, d⟩) := h.blw HB.out
  have HF : Hid (KAt 3 Y ((w.alloc (.cells #[.int .i64 (a : Int), .int .i64 acc, .slice v.a1 8 v.c1, .slice v.a2 nt v.c2, .bool d] 61)).alloc (.cells #[.int .i64 0, .int .i64 0, .slice none 0 0, .slice none 0 0, .bool false] 61)) ao n F) := hF.blw HB.out
  have HXX : Hid (∀ b, X b → b < w.heap.size) := hX
  have HSZ : Hid (((w.alloc (.cells #[.int .i64 (a : Int), .int .i64 acc, .slice v.a1 8 v.c1, .slice v.a2 nt v.c2, .bool d] 61)).alloc (.cells #[.int .i64 0, .int .i64 0, .slice none 0 0, .slice none 0 0, .bool false] 61)).heap.size = w.heap.size + 1 + 1) := by show _ = _; simp
  clear h hF hX r1
  go_enter Try.func126, Try.ntmps126
  go_upto_region 1 with fail
  generalize ((w.alloc (.cells #[.int .i64 (a : Int), .int .i64 acc, .slice v.a1 8 v.c1, .slice v.a2 nt v.c2, .bool d] 61)).alloc (.cells #[.int .i64 0, .int .i64 0, .slice none 0 0, .slice none 0 0, .bool false] 61)) = w0 at *
  have hsz := HSZ.out
  obtain ⟨p0, p1, p2, p3, p4⟩ := get5 R0.out
  obtain ⟨t0, t1, t2, t3, t4⟩ := get5 R1.out
  obtain ⟨bp, op, rfl, -, gg⟩ := HF.out.2 a (by omega)
  have g0 := gg 0 (by omega)
  have g1 := gg 1 (by omega)
  have g2 := gg 2 (by omega)
  rw [Nat.add_zero] at g0
  clear gg
  have hge : ¬ n ≤ a := by omega
  have hlt' : (a : Int) < n := by omega
  rw [hk] at g0
  clear hlt
  have hk' := hk
  clear hk
  have q1 := HSZ.out
  have hA : Blw w0 (w0.alloc (.cells #[.int .i64 2, .int .i64 (F a 1), .int .i64 (F a 2)] 170)) := (Blw.refl _).alloc _
  have S0 : Hid (Row (w0.alloc (.cells #[.int .i64 2, .int .i64 (F a 1), .int .i64 (F a 2)] 170)) w.heap.size 5 (fun i => if i = 0 then .int .i64 (a : Int) else if i = 1 then .int .i64 acc else if i = 2 then .slice v.a1 8 v.c1 else if i = 3 then .slice v.a2 nt v.c2 else .bool d)) := R0.out.blw hA
  have S1 : Hid (Row (w0.alloc (.cells #[.int .i64 2, .int .i64 (F a 1), .int .i64 (F a 2)] 170)) (w.heap.size + 1) 5 (fun i => if i = 0 then .int .i64 0 else if i = 1 then .int .i64 0 else if i = 2 then .slice none 0 0 else if i = 3 then .slice none 0 0 else .bool false)) := R1.out.blw hA
  have S3 : Hid (Row (w0.alloc (.cells #[.int .i64 2, .int .i64 (F a 1), .int .i64 (F a 2)] 170)) w0.heap.size 3 (fun i => if i = 0 then .int .i64 2 else if i = 1 then .int .i64 (F a 1) else .int .i64 (F a 2))) := box3 w0 _ _ _ 170
  have SM : Hid (MG X (w0.alloc (.cells #[.int .i64 2, .int .i64 (F a 1), .int .i64 (F a 2)] 170)) v ⟨(a : Int), acc, 8, c, nt, t, d⟩) := HM.out.blw hA
  have SB : Hid (Blw w (w0.alloc (.cells #[.int .i64 2, .int .i64 (F a 1), .int .i64 (F a 2)] 170))) := HB.out.trans hA
  have SZ : Hid (w0.heap.size = w.heap.size + 1 + 1 ∧ (w0.alloc (.cells #[.int .i64 2, .int .i64 (F a 1), .int .i64 (F a 2)] 170)).heap.size = w.heap.size + 1 + 1 + 1) := ⟨q1, by rw [World.size_alloc, q1]⟩
  clear q1 hA hk'
  go_upto_region 5 with fail
  generalize (w0.alloc (.cells #[.int .i64 2, .int .i64 (F a 1), .int .i64 (F a 2)] 170)) = w1 at *
  obtain ⟨qz, qz1⟩ := SZ.out
  rw [qz] at S3
  clear p0 p1 p2 p3 p4 t0 t1 t2 t3 t4 HB R0 R1 HM HF HSZ hsz qz g0 g1 g2 SZ
  obtain ⟨p0, p1, p2, p3, p4⟩ := get5 S0.out
  obtain ⟨t0, t1, t2, t3, t4⟩ := get5 S1.out
  obtain ⟨s0, s1, s2⟩ := get3 S3.out
  have e0 := S0.out.frozen 0; have e1 := S0.out.frozen 1; have e2 := S0.out.frozen 2; have e3 := S0.out.frozen 3; have e4 := S0.out.frozen 4
  have f0 := S1.out.frozen 0; have f1 := S1.out.frozen 1; have f2 := S1.out.frozen 2; have f3 := S1.out.frozen 3; have f4 := S1.out.frozen 4
  have hx0 := hx.1; have hx1 := hx.2; have hy0 := hacc.1; have hy1 := hacc.2
  have hr : Int.tmod (acc + F a 2) 65536 = (acc + F a 2) % 65536 := Int.tmod_eq_emod_of_nonneg (by omega)
  have FF : Hid (_ ∧ _ ∧ _) := fin_sets (v := v) (D := ⟨(a : Int) + 1, (acc + F a 2) % 65536, 8, c, nt, t, d⟩) (Z := X) (w := w) (Wm := ((w1.setCell ⟨w.heap.size, 0, none⟩ (.int .i64 ((a : Int) + 1))).setCell ⟨w.heap.size, 1, none⟩ (.int .i64 ((acc + F a 2) % 65536)))) (z := w.heap.size + 1) (.int .i64 ((a : Int) + 1)) (.int .i64 ((acc + F a 2) % 65536)) (.slice v.a1 8 v.c1) (.slice v.a2 nt v.c2) (.bool d) (show MG X ((w1.setCell ⟨w.heap.size, 0, none⟩ (.int .i64 ((a : Int) + 1))).setCell ⟨w.heap.size, 1, none⟩ (.int .i64 ((acc + F a 2) % 65536))) v ⟨(a : Int) + 1, (acc + F a 2) % 65536, 8, c, nt, t, d⟩ from ⟨(MG.mod (MG.mod (SM.out) (Mod.setCell (X := fun x => x = w.heap.size) _ (p := ⟨w.heap.size, 0, none⟩) rfl _) (fun b hb e => by have := HXX.out b hb; omega)) (Mod.setCell (X := fun x => x = w.heap.size) _ (p := ⟨w.heap.size, 1, none⟩) rfl _) (fun b hb e => by have := HXX.out b hb; omega)).ex⟩) (fun hx => by have := HXX.out _ hx; omega) (Mod.old (Mod.old ((SB.out.mod X)) (Mod.setCell (X := fun x => x = w.heap.size) _ (p := ⟨w.heap.size, 0, none⟩) rfl _) (fun x hx hl => by omega)) (Mod.setCell (X := fun x => x = w.heap.size) _ (p := ⟨w.heap.size, 1, none⟩) rfl _) (fun x hx hl => by omega)) (by omega)
  clear SB S0 S1 S3 SM HXX
  go_wp2
  refine bodyPost_ret (v := GV.val v ⟨(a : Int) + 1, (acc + F a 2) % 65536, 8, c, nt, t, d⟩) (by simp [results, Try.results126, go_sem, t0, t1, t2, t3, t4]) rfl ?_
  exact ⟨v, rfl, FF.out.1.mono (fun b hb => Or.inl hb), FF.out.2.1⟩
set_option maxRecDepth 10000 in
set_option maxHeartbeats 3200000 in
theorem l9Step_stay (ao : Option Addr) (cp n : Nat) (F : Nat → Nat → Int) (v : GV) (a : Nat) (acc : Int) (c : Nat → Int) (nt : Nat) (t : Nat → Int) (d : Bool) (X Y : Nat → Prop) (w : World) (hn : n ≤ 16) (ha16 : a ≤ 16) (hacc : wordOK acc) (hnt : nt ≤ 20) (hlt : a < n) (hk : F a 0 = 5) (h0 : acc = 0) (hF : KAt 3 Y w ao n F) (hX : ∀ b, X b → b < w.heap.size) (h : MG X w v ⟨(a : Int), acc, 8, c, nt, t, d⟩) :
    Calls Try.prog 126 #[.slice ao n cp, v.val ⟨(a : Int), acc, 8, c, nt, t, d⟩] w fun e w' => ∃ v' : GV, e = .returned (v'.val ⟨(a : Int) + 1, acc, 8, c, nt, t, d⟩) ∧ MG (fun b => X b ∨ (w.heap.size ≤ b ∧ b < w'.heap.size)) w' v' ⟨(a : Int) + 1, acc, 8, c, nt, t, d⟩ ∧ Mod X w w' := by
  have HB : Hid (Blw w ((w.alloc (.cells #[.int .i64 (a : Int), .int .i64 acc, .slice v.a1 8 v.c1, .slice v.a2 nt v.c2, .bool d] 61)).alloc (.cells #[.int .i64 0, .int .i64 0, .slice none 0 0, .slice none 0 0, .bool false] 61))) := ((Blw.refl _).alloc _).alloc _
  have r1 := row5 (w.alloc (.cells #[.int .i64 (a : Int), .int .i64 acc, .slice v.a1 8 v.c1, .slice v.a2 nt v.c2, .bool d] 61)) (.int .i64 0) (.int .i64 0) (.slice none 0 0) (.slice none 0 0) (.bool false) 61
  rw [World.size_alloc] at r1
  have R0 : Hid (Row ((w.alloc (.cells #[.int .i64 (a : Int), .int .i64 acc, .slice v.a1 8 v.c1, .slice v.a2 nt v.c2, .bool d] 61)).alloc (.cells #[.int .i64 0, .int .i64 0, .slice none 0 0, .slice none 0 0, .bool false] 61)) w.heap.size 5 (fun i => if i = 0 then .int .i64 (a : Int) else if i = 1 then .int .i64 acc else if i = 2 then .slice v.a1 8 v.c1 else if i = 3 then .slice v.a2 nt v.c2 else .bool d)) := (row5 w _ _ _ _ _ 61).blw ((Blw.refl _).alloc _)
  have R1 : Hid (Row ((w.alloc (.cells #[.int .i64 (a : Int), .int .i64 acc, .slice v.a1 8 v.c1, .slice v.a2 nt v.c2, .bool d] 61)).alloc (.cells #[.int .i64 0, .int .i64 0, .slice none 0 0, .slice none 0 0, .bool false] 61)) (w.heap.size + 1) 5 (fun i => if i = 0 then .int .i64 0 else if i = 1 then .int .i64 0 else if i = 2 then .slice none 0 0 else if i = 3 then .slice none 0 0 else .bool false)) := r1
  have HM : Hid (MG X ((w.alloc (.cells #[.int .i64 (a : Int), .int .i64 acc, .slice v.a1 8 v.c1, .slice v.a2 nt v.c2, .bool d] 61)).alloc (.cells #[.int .i64 0, .int .i64 0, .slice none 0 0, .slice none 0 0, .bool false] 61)) v ⟨(a : Int), acc, 8, c, nt, t, d⟩) := h.blw HB.out
  have HF : Hid (KAt 3 Y ((w.alloc (.cells #[.int .i64 (a : Int), .int .i64 acc, .slice v.a1 8 v.c1, .slice v.a2 nt v.c2, .bool d] 61)).alloc (.cells #[.int .i64 0, .int .i64 0, .slice none 0 0, .slice none 0 0, .bool false] 61)) ao n F) := hF.blw HB.out
  have HXX : Hid (∀ b, X b → b < w.heap.size) := hX
  have HSZ : Hid (((w.alloc (.cells #[.int .i64 (a : Int), .int .i64 acc, .slice v.a1 8 v.c1, .slice v.a2 nt v.c2, .bool d] 61)).alloc (.cells #[.int .i64 0, .int .i64 0, .slice none 0 0, .slice none 0 0, .bool false] 61)).heap.size = w.heap.size + 1 + 1) := by show _ = _; simp
  clear h hF hX r1
  have Hh0 : Hid (acc = 0) := h0
  clear h0
  go_enter Try.func126, Try.ntmps126
  go_upto_region 1 with fail
  generalize ((w.alloc (.cells #[.int .i64 (a : Int), .int .i64 acc, .slice v.a1 8 v.c1, .slice v.a2 nt v.c2, .bool d] 61)).alloc (.cells #[.int .i64 0, .int .i64 0, .slice none 0 0, .slice none 0 0, .bool false] 61)) = w0 at *
  have hsz := HSZ.out
  obtain ⟨p0, p1, p2, p3, p4⟩ := get5 R0.out
  obtain ⟨t0, t1, t2, t3, t4⟩ := get5 R1.out
  obtain ⟨bp, op, rfl, -, gg⟩ := HF.out.2 a (by omega)
  have g0 := gg 0 (by omega)
  have g1 := gg 1 (by omega)
  have g2 := gg 2 (by omega)
  rw [Nat.add_zero] at g0
  clear gg
  have hge : ¬ n ≤ a := by omega
  have hlt' : (a : Int) < n := by omega
  rw [hk] at g0
  clear hlt
  have hk' := hk
  clear hk
  have q1 := HSZ.out
  have hA : Blw w0 (w0.alloc (.cells #[.int .i64 5, .int .i64 (F a 1), .int .i64 (F a 2)] 170)) := (Blw.refl _).alloc _
  have S0 : Hid (Row (w0.alloc (.cells #[.int .i64 5, .int .i64 (F a 1), .int .i64 (F a 2)] 170)) w.heap.size 5 (fun i => if i = 0 then .int .i64 (a : Int) else if i = 1 then .int .i64 acc else if i = 2 then .slice v.a1 8 v.c1 else if i = 3 then .slice v.a2 nt v.c2 else .bool d)) := R0.out.blw hA
  have S1 : Hid (Row (w0.alloc (.cells #[.int .i64 5, .int .i64 (F a 1), .int .i64 (F a 2)] 170)) (w.heap.size + 1) 5 (fun i => if i = 0 then .int .i64 0 else if i = 1 then .int .i64 0 else if i = 2 then .slice none 0 0 else if i = 3 then .slice none 0 0 else .bool false)) := R1.out.blw hA
  have S3 : Hid (Row (w0.alloc (.cells #[.int .i64 5, .int .i64 (F a 1), .int .i64 (F a 2)] 170)) w0.heap.size 3 (fun i => if i = 0 then .int .i64 5 else if i = 1 then .int .i64 (F a 1) else .int .i64 (F a 2))) := box3 w0 _ _ _ 170
  have SM : Hid (MG X (w0.alloc (.cells #[.int .i64 5, .int .i64 (F a 1), .int .i64 (F a 2)] 170)) v ⟨(a : Int), acc, 8, c, nt, t, d⟩) := HM.out.blw hA
  have SB : Hid (Blw w (w0.alloc (.cells #[.int .i64 5, .int .i64 (F a 1), .int .i64 (F a 2)] 170))) := HB.out.trans hA
  have SZ : Hid (w0.heap.size = w.heap.size + 1 + 1 ∧ (w0.alloc (.cells #[.int .i64 5, .int .i64 (F a 1), .int .i64 (F a 2)] 170)).heap.size = w.heap.size + 1 + 1 + 1) := ⟨q1, by rw [World.size_alloc, q1]⟩
  clear q1 hA hk'
  go_upto_region 5 with fail
  generalize (w0.alloc (.cells #[.int .i64 5, .int .i64 (F a 1), .int .i64 (F a 2)] 170)) = w1 at *
  obtain ⟨qz, qz1⟩ := SZ.out
  rw [qz] at S3
  clear p0 p1 p2 p3 p4 t0 t1 t2 t3 t4 HB R0 R1 HM HF HSZ hsz qz g0 g1 g2 SZ
  obtain ⟨p0, p1, p2, p3, p4⟩ := get5 S0.out
  obtain ⟨t0, t1, t2, t3, t4⟩ := get5 S1.out
  obtain ⟨s0, s1, s2⟩ := get3 S3.out
  have e0 := S0.out.frozen 0; have e1 := S0.out.frozen 1; have e2 := S0.out.frozen 2; have e3 := S0.out.frozen 3; have e4 := S0.out.frozen 4
  have f0 := S1.out.frozen 0; have f1 := S1.out.frozen 1; have f2 := S1.out.frozen 2; have f3 := S1.out.frozen 3; have f4 := S1.out.frozen 4
  have d0 : (acc != 0) = false := by simp [Hh0.out]
  clear Hh0
  have FF : Hid (_ ∧ _ ∧ _) := fin_sets (v := v) (D := ⟨(a : Int) + 1, acc, 8, c, nt, t, d⟩) (Z := X) (w := w) (Wm := (w1.setCell ⟨w.heap.size, 0, none⟩ (.int .i64 ((a : Int) + 1)))) (z := w.heap.size + 1) (.int .i64 ((a : Int) + 1)) (.int .i64 acc) (.slice v.a1 8 v.c1) (.slice v.a2 nt v.c2) (.bool d) (show MG X (w1.setCell ⟨w.heap.size, 0, none⟩ (.int .i64 ((a : Int) + 1))) v ⟨(a : Int) + 1, acc, 8, c, nt, t, d⟩ from ⟨(MG.mod (SM.out) (Mod.setCell (X := fun x => x = w.heap.size) _ (p := ⟨w.heap.size, 0, none⟩) rfl _) (fun b hb e => by have := HXX.out b hb; omega)).ex⟩) (fun hx => by have := HXX.out _ hx; omega) (Mod.old ((SB.out.mod X)) (Mod.setCell (X := fun x => x = w.heap.size) _ (p := ⟨w.heap.size, 0, none⟩) rfl _) (fun x hx hl => by omega)) (by omega)
  clear SB S0 S1 S3 SM HXX
  go_wp2
  refine bodyPost_ret (v := GV.val v ⟨(a : Int) + 1, acc, 8, c, nt, t, d⟩) (by simp [results, Try.results126, go_sem, t0, t1, t2, t3, t4]) rfl ?_
  exact ⟨v, rfl, FF.out.1.mono (fun b hb => Or.inl hb), FF.out.2.1⟩
set_option maxRecDepth 10000 in
set_option maxHeartbeats 3200000 in
theorem l9Step_jump (ao : Option Addr) (cp n : Nat) (F : Nat → Nat → Int) (v : GV) (a : Nat) (acc : Int) (c : Nat → Int) (nt : Nat) (t : Nat → Int) (d : Bool) (X Y : Nat → Prop) (w : World) (hn : n ≤ 16) (ha16 : a ≤ 16) (hacc : wordOK acc) (hnt : nt ≤ 20) (hlt : a < n) (hk : F a 0 = 5) (h0 : ¬ acc = 0) (hF : KAt 3 Y w ao n F) (hX : ∀ b, X b → b < w.heap.size) (h : MG X w v ⟨(a : Int), acc, 8, c, nt, t, d⟩) :
    Calls Try.prog 126 #[.slice ao n cp, v.val ⟨(a : Int), acc, 8, c, nt, t, d⟩] w fun e w' => ∃ v' : GV, e = .returned (v'.val ⟨F a 2, acc, 8, c, nt, t, d⟩) ∧ MG (fun b => X b ∨ (w.heap.size ≤ b ∧ b < w'.heap.size)) w' v' ⟨F a 2, acc, 8, c, nt, t, d⟩ ∧ Mod X w w' := by
  have HB : Hid (Blw w ((w.alloc (.cells #[.int .i64 (a : Int), .int .i64 acc, .slice v.a1 8 v.c1, .slice v.a2 nt v.c2, .bool d] 61)).alloc (.cells #[.int .i64 0, .int .i64 0, .slice none 0 0, .slice none 0 0, .bool false] 61))) := ((Blw.refl _).alloc _).alloc _
  have r1 := row5 (w.alloc (.cells #[.int .i64 (a : Int), .int .i64 acc, .slice v.a1 8 v.c1, .slice v.a2 nt v.c2, .bool d] 61)) (.int .i64 0) (.int .i64 0) (.slice none 0 0) (.slice none 0 0) (.bool false) 61
  rw [World.size_alloc] at r1
  have R0 : Hid (Row ((w.alloc (.cells #[.int .i64 (a : Int), .int .i64 acc, .slice v.a1 8 v.c1, .slice v.a2 nt v.c2, .bool d] 61)).alloc (.cells #[.int .i64 0, .int .i64 0, .slice none 0 0, .slice none 0 0, .bool false] 61)) w.heap.size 5 (fun i => if i = 0 then .int .i64 (a : Int) else if i = 1 then .int .i64 acc else if i = 2 then .slice v.a1 8 v.c1 else if i = 3 then .slice v.a2 nt v.c2 else .bool d)) := (row5 w _ _ _ _ _ 61).blw ((Blw.refl _).alloc _)
  have R1 : Hid (Row ((w.alloc (.cells #[.int .i64 (a : Int), .int .i64 acc, .slice v.a1 8 v.c1, .slice v.a2 nt v.c2, .bool d] 61)).alloc (.cells #[.int .i64 0, .int .i64 0, .slice none 0 0, .slice none 0 0, .bool false] 61)) (w.heap.size + 1) 5 (fun i => if i = 0 then .int .i64 0 else if i = 1 then .int .i64 0 else if i = 2 then .slice none 0 0 else if i = 3 then .slice none 0 0 else .bool false)) := r1
  have HM : Hid (MG X ((w.alloc (.cells #[.int .i64 (a : Int), .int .i64 acc, .slice v.a1 8 v.c1, .slice v.a2 nt v.c2, .bool d] 61)).alloc (.cells #[.int .i64 0, .int .i64 0, .slice none 0 0, .slice none 0 0, .bool false] 61)) v ⟨(a : Int), acc, 8, c, nt, t, d⟩) := h.blw HB.out
  have HF : Hid (KAt 3 Y ((w.alloc (.cells #[.int .i64 (a : Int), .int .i64 acc, .slice v.a1 8 v.c1, .slice v.a2 nt v.c2, .bool d] 61)).alloc (.cells #[.int .i64 0, .int .i64 0, .slice none 0 0, .slice none 0 0, .bool false] 61)) ao n F) := hF.blw HB.out
  have HXX : Hid (∀ b, X b → b < w.heap.size) := hX
  have HSZ : Hid (((w.alloc (.cells #[.int .i64 (a : Int), .int .i64 acc, .slice v.a1 8 v.c1, .slice v.a2 nt v.c2, .bool d] 61)).alloc (.cells #[.int .i64 0, .int .i64 0, .slice none 0 0, .slice none 0 0, .bool false] 61)).heap.size = w.heap.size + 1 + 1) := by show _ = _; simp
  clear h hF hX r1
  have Hh0 : Hid (¬ acc = 0) := h0
  clear h0
  go_enter Try.func126, Try.ntmps126
  go_upto_region 1 with fail
  generalize ((w.alloc (.cells #[.int .i64 (a : Int), .int .i64 acc, .slice v.a1 8 v.c1, .slice v.a2 nt v.c2, .bool d] 61)).alloc (.cells #[.int .i64 0, .int .i64 0, .slice none 0 0, .slice none 0 0, .bool false] 61)) = w0 at *
  have hsz := HSZ.out
  obtain ⟨p0, p1, p2, p3, p4⟩ := get5 R0.out
  obtain ⟨t0, t1, t2, t3, t4⟩ := get5 R1.out
  obtain ⟨bp, op, rfl, -, gg⟩ := HF.out.2 a (by omega)
  have g0 := gg 0 (by omega)
  have g1 := gg 1 (by omega)
  have g2 := gg 2 (by omega)
  rw [Nat.add_zero] at g0
  clear gg
  have hge : ¬ n ≤ a := by omega
  have hlt' : (a : Int) < n := by omega
  rw [hk] at g0
  clear hlt
  have hk' := hk
  clear hk
  have q1 := HSZ.out
  have hA : Blw w0 (w0.alloc (.cells #[.int .i64 5, .int .i64 (F a 1), .int .i64 (F a 2)] 170)) := (Blw.refl _).alloc _
  have S0 : Hid (Row (w0.alloc (.cells #[.int .i64 5, .int .i64 (F a 1), .int .i64 (F a 2)] 170)) w.heap.size 5 (fun i => if i = 0 then .int .i64 (a : Int) else if i = 1 then .int .i64 acc else if i = 2 then .slice v.a1 8 v.c1 else if i = 3 then .slice v.a2 nt v.c2 else .bool d)) := R0.out.blw hA
  have S1 : Hid (Row (w0.alloc (.cells #[.int .i64 5, .int .i64 (F a 1), .int .i64 (F a 2)] 170)) (w.heap.size + 1) 5 (fun i => if i = 0 then .int .i64 0 else if i = 1 then .int .i64 0 else if i = 2 then .slice none 0 0 else if i = 3 then .slice none 0 0 else .bool false)) := R1.out.blw hA
  have S3 : Hid (Row (w0.alloc (.cells #[.int .i64 5, .int .i64 (F a 1), .int .i64 (F a 2)] 170)) w0.heap.size 3 (fun i => if i = 0 then .int .i64 5 else if i = 1 then .int .i64 (F a 1) else .int .i64 (F a 2))) := box3 w0 _ _ _ 170
  have SM : Hid (MG X (w0.alloc (.cells #[.int .i64 5, .int .i64 (F a 1), .int .i64 (F a 2)] 170)) v ⟨(a : Int), acc, 8, c, nt, t, d⟩) := HM.out.blw hA
  have SB : Hid (Blw w (w0.alloc (.cells #[.int .i64 5, .int .i64 (F a 1), .int .i64 (F a 2)] 170))) := HB.out.trans hA
  have SZ : Hid (w0.heap.size = w.heap.size + 1 + 1 ∧ (w0.alloc (.cells #[.int .i64 5, .int .i64 (F a 1), .int .i64 (F a 2)] 170)).heap.size = w.heap.size + 1 + 1 + 1) := ⟨q1, by rw [World.size_alloc, q1]⟩
  clear q1 hA hk'
  go_upto_region 5 with fail
  generalize (w0.alloc (.cells #[.int .i64 5, .int .i64 (F a 1), .int .i64 (F a 2)] 170)) = w1 at *
  obtain ⟨qz, qz1⟩ := SZ.out
  rw [qz] at S3
  clear p0 p1 p2 p3 p4 t0 t1 t2 t3 t4 HB R0 R1 HM HF HSZ hsz qz g0 g1 g2 SZ
  obtain ⟨p0, p1, p2, p3, p4⟩ := get5 S0.out
  obtain ⟨t0, t1, t2, t3, t4⟩ := get5 S1.out
  obtain ⟨s0, s1, s2⟩ := get3 S3.out
  have e0 := S0.out.frozen 0; have e1 := S0.out.frozen 1; have e2 := S0.out.frozen 2; have e3 := S0.out.frozen 3; have e4 := S0.out.frozen 4
  have f0 := S1.out.frozen 0; have f1 := S1.out.frozen 1; have f2 := S1.out.frozen 2; have f3 := S1.out.frozen 3; have f4 := S1.out.frozen 4
  have d0 : (acc != 0) = true := by simp [Hh0.out]
  clear Hh0
  have FF : Hid (_ ∧ _ ∧ _) := fin_sets (v := v) (D := ⟨F a 2, acc, 8, c, nt, t, d⟩) (Z := X) (w := w) (Wm := ((w1.setCell ⟨w.heap.size, 0, none⟩ (.int .i64 ((a : Int) + 1))).setCell ⟨w.heap.size, 0, none⟩ (.int .i64 (F a 2)))) (z := w.heap.size + 1) (.int .i64 (F a 2)) (.int .i64 acc) (.slice v.a1 8 v.c1) (.slice v.a2 nt v.c2) (.bool d) (show MG X ((w1.setCell ⟨w.heap.size, 0, none⟩ (.int .i64 ((a : Int) + 1))).setCell ⟨w.heap.size, 0, none⟩ (.int .i64 (F a 2))) v ⟨F a 2, acc, 8, c, nt, t, d⟩ from ⟨(MG.mod (MG.mod (SM.out) (Mod.setCell (X := fun x => x = w.heap.size) _ (p := ⟨w.heap.size, 0, none⟩) rfl _) (fun b hb e => by have := HXX.out b hb; omega)) (Mod.setCell (X := fun x => x = w.heap.size) _ (p := ⟨w.heap.size, 0, none⟩) rfl _) (fun b hb e => by have := HXX.out b hb; omega)).ex⟩) (fun hx => by have := HXX.out _ hx; omega) (Mod.old (Mod.old ((SB.out.mod X)) (Mod.setCell (X := fun x => x = w.heap.size) _ (p := ⟨w.heap.size, 0, none⟩) rfl _) (fun x hx hl => by omega)) (Mod.setCell (X := fun x => x = w.heap.size) _ (p := ⟨w.heap.size, 0, none⟩) rfl _) (fun x hx hl => by omega)) (by omega)
  clear SB S0 S1 S3 SM HXX
  go_wp2
  refine bodyPost_ret (v := GV.val v ⟨F a 2, acc, 8, c, nt, t, d⟩) (by simp [results, Try.results126, go_sem, t0, t1, t2, t3, t4]) rfl ?_
  exact ⟨v, rfl, FF.out.1.mono (fun b hb => Or.inl hb), FF.out.2.1⟩
end Go.Proofs.Ytbpdopcdhnemfaa
/- Guests: the model's step: load, store, tell. -/
namespace Go.Proofs.Ytbpdopcdhnemfaa
open Go.RowKit
set_option linter.unusedSimpArgs false
set_option linter.unusedVariables false
set_option maxRecDepth 10000 in
set_option maxHeartbeats 3200000 in
theorem l9Step_load (ao : Option Addr) (cp n : Nat) (F : Nat → Nat → Int) (v : GV) (a : Nat) (acc : Int) (c : Nat → Int) (nt : Nat) (t : Nat → Int) (d : Bool) (X Y : Nat → Prop) (w : World) (hn : n ≤ 16) (ha16 : a ≤ 16) (hacc : wordOK acc) (hnt : nt ≤ 20) (q : Nat) (hi : q < 8) (hlt : a < n) (hk : F a 0 = 3) (hai : F a 1 = (q : Int)) (hF : KAt 3 Y w ao n F) (hX : ∀ b, X b → b < w.heap.size) (h : MG X w v ⟨(a : Int), acc, 8, c, nt, t, d⟩) :
    Calls Try.prog 126 #[.slice ao n cp, v.val ⟨(a : Int), acc, 8, c, nt, t, d⟩] w fun e w' => ∃ v' : GV, e = .returned (v'.val ⟨(a : Int) + 1, c q, 8, c, nt, t, d⟩) ∧ MG (fun b => X b ∨ (w.heap.size ≤ b ∧ b < w'.heap.size)) w' v' ⟨(a : Int) + 1, c q, 8, c, nt, t, d⟩ ∧ Mod X w w' := by
  obtain ⟨a1, a2, c1, c2⟩ := v
  obtain ⟨X1, X2, dd1, dd2, hc, ht⟩ := h.ex
  obtain ⟨b1, hxb1, ea, rc⟩ := hc.2 (by show 0 < 8; omega)
  dsimp only at ea
  subst ea
  have RC : Hid (Row w b1 8 (fun i => .int .i64 (c i))) := rc
  have HT : Hid (BufI X2 w (.slice a2 nt c2) nt t) := ht
  have hxb := (dd1 b1 hxb1).1
  have hbl := hX b1 hxb
  have hne : b1 ≠ w.heap.size := by omega
  have hne' : ¬ w.heap.size = b1 := by omega
  clear hc ht rc
  have HB : Hid (Blw w ((w.alloc (.cells #[.int .i64 (a : Int), .int .i64 acc, .slice (some ⟨b1, 0, none⟩) 8 c1, .slice a2 nt c2, .bool d] 61)).alloc (.cells #[.int .i64 0, .int .i64 0, .slice none 0 0, .slice none 0 0, .bool false] 61))) := ((Blw.refl _).alloc _).alloc _
  have r1 := row5 (w.alloc (.cells #[.int .i64 (a : Int), .int .i64 acc, .slice (some ⟨b1, 0, none⟩) 8 c1, .slice a2 nt c2, .bool d] 61)) (.int .i64 0) (.int .i64 0) (.slice none 0 0) (.slice none 0 0) (.bool false) 61
  rw [World.size_alloc] at r1
  have R0 : Hid (Row ((w.alloc (.cells #[.int .i64 (a : Int), .int .i64 acc, .slice (some ⟨b1, 0, none⟩) 8 c1, .slice a2 nt c2, .bool d] 61)).alloc (.cells #[.int .i64 0, .int .i64 0, .slice none 0 0, .slice none 0 0, .bool false] 61)) w.heap.size 5 (fun i => if i = 0 then .int .i64 (a : Int) else if i = 1 then .int .i64 acc else if i = 2 then .slice (some ⟨b1, 0, none⟩) 8 c1 else if i = 3 then .slice a2 nt c2 else .bool d)) := (row5 w _ _ _ _ _ 61).blw ((Blw.refl _).alloc _)
  have R1 : Hid (Row ((w.alloc (.cells #[.int .i64 (a : Int), .int .i64 acc, .slice (some ⟨b1, 0, none⟩) 8 c1, .slice a2 nt c2, .bool d] 61)).alloc (.cells #[.int .i64 0, .int .i64 0, .slice none 0 0, .slice none 0 0, .bool false] 61)) (w.heap.size + 1) 5 (fun i => if i = 0 then .int .i64 0 else if i = 1 then .int .i64 0 else if i = 2 then .slice none 0 0 else if i = 3 then .slice none 0 0 else .bool false)) := r1
  have HM : Hid (MG X ((w.alloc (.cells #[.int .i64 (a : Int), .int .i64 acc, .slice (some ⟨b1, 0, none⟩) 8 c1, .slice a2 nt c2, .bool d] 61)).alloc (.cells #[.int .i64 0, .int .i64 0, .slice none 0 0, .slice none 0 0, .bool false] 61)) ⟨some ⟨b1, 0, none⟩, a2, c1, c2⟩ ⟨(a : Int), acc, 8, c, nt, t, d⟩) := h.blw HB.out
  have HF : Hid (KAt 3 Y ((w.alloc (.cells #[.int .i64 (a : Int), .int .i64 acc, .slice (some ⟨b1, 0, none⟩) 8 c1, .slice a2 nt c2, .bool d] 61)).alloc (.cells #[.int .i64 0, .int .i64 0, .slice none 0 0, .slice none 0 0, .bool false] 61)) ao n F) := hF.blw HB.out
  have HXX : Hid (∀ b, X b → b < w.heap.size) := hX
  have HSZ : Hid (((w.alloc (.cells #[.int .i64 (a : Int), .int .i64 acc, .slice (some ⟨b1, 0, none⟩) 8 c1, .slice a2 nt c2, .bool d] 61)).alloc (.cells #[.int .i64 0, .int .i64 0, .slice none 0 0, .slice none 0 0, .bool false] 61)).heap.size = w.heap.size + 1 + 1) := by show _ = _; simp
  clear h hF hX r1
  go_enter Try.func126, Try.ntmps126
  go_upto_region 1 with fail
  generalize ((w.alloc (.cells #[.int .i64 (a : Int), .int .i64 acc, .slice (some ⟨b1, 0, none⟩) 8 c1, .slice a2 nt c2, .bool d] 61)).alloc (.cells #[.int .i64 0, .int .i64 0, .slice none 0 0, .slice none 0 0, .bool false] 61)) = w0 at *
  have hsz := HSZ.out
  obtain ⟨p0, p1, p2, p3, p4⟩ := get5 R0.out
  obtain ⟨t0, t1, t2, t3, t4⟩ := get5 R1.out
  obtain ⟨bp, op, rfl, -, gg⟩ := HF.out.2 a (by omega)
  have g0 := gg 0 (by omega)
  have g1 := gg 1 (by omega)
  have g2 := gg 2 (by omega)
  rw [Nat.add_zero] at g0
  clear gg
  have hge : ¬ n ≤ a := by omega
  have hlt' : (a : Int) < n := by omega
  rw [hk] at g0
  clear hlt
  have hk' := hk
  clear hk
  rw [hai] at g1
  clear hai
  have q1 := HSZ.out
  have hA : Blw w0 (w0.alloc (.cells #[.int .i64 3, .int .i64 (q : Int), .int .i64 (F a 2)] 170)) := (Blw.refl _).alloc _
  have S0 : Hid (Row (w0.alloc (.cells #[.int .i64 3, .int .i64 (q : Int), .int .i64 (F a 2)] 170)) w.heap.size 5 (fun i => if i = 0 then .int .i64 (a : Int) else if i = 1 then .int .i64 acc else if i = 2 then .slice (some ⟨b1, 0, none⟩) 8 c1 else if i = 3 then .slice a2 nt c2 else .bool d)) := R0.out.blw hA
  have S1 : Hid (Row (w0.alloc (.cells #[.int .i64 3, .int .i64 (q : Int), .int .i64 (F a 2)] 170)) (w.heap.size + 1) 5 (fun i => if i = 0 then .int .i64 0 else if i = 1 then .int .i64 0 else if i = 2 then .slice none 0 0 else if i = 3 then .slice none 0 0 else .bool false)) := R1.out.blw hA
  have S3 : Hid (Row (w0.alloc (.cells #[.int .i64 3, .int .i64 (q : Int), .int .i64 (F a 2)] 170)) w0.heap.size 3 (fun i => if i = 0 then .int .i64 3 else if i = 1 then .int .i64 (q : Int) else .int .i64 (F a 2))) := box3 w0 _ _ _ 170
  have SM : Hid (MG X (w0.alloc (.cells #[.int .i64 3, .int .i64 (q : Int), .int .i64 (F a 2)] 170)) ⟨some ⟨b1, 0, none⟩, a2, c1, c2⟩ ⟨(a : Int), acc, 8, c, nt, t, d⟩) := HM.out.blw hA
  have SB : Hid (Blw w (w0.alloc (.cells #[.int .i64 3, .int .i64 (q : Int), .int .i64 (F a 2)] 170))) := HB.out.trans hA
  have SZ : Hid (w0.heap.size = w.heap.size + 1 + 1 ∧ (w0.alloc (.cells #[.int .i64 3, .int .i64 (q : Int), .int .i64 (F a 2)] 170)).heap.size = w.heap.size + 1 + 1 + 1) := ⟨q1, by rw [World.size_alloc, q1]⟩
  clear q1 hA hk'
  go_upto_region 5 with fail
  generalize (w0.alloc (.cells #[.int .i64 3, .int .i64 (q : Int), .int .i64 (F a 2)] 170)) = w1 at *
  obtain ⟨qz, qz1⟩ := SZ.out
  rw [qz] at S3
  clear p0 p1 p2 p3 p4 t0 t1 t2 t3 t4 HB R0 R1 HM HF HSZ hsz qz g0 g1 g2 SZ
  obtain ⟨p0, p1, p2, p3, p4⟩ := get5 S0.out
  obtain ⟨t0, t1, t2, t3, t4⟩ := get5 S1.out
  obtain ⟨s0, s1, s2⟩ := get3 S3.out
  have e0 := S0.out.frozen 0; have e1 := S0.out.frozen 1; have e2 := S0.out.frozen 2; have e3 := S0.out.frozen 3; have e4 := S0.out.frozen 4
  have f0 := S1.out.frozen 0; have f1 := S1.out.frozen 1; have f2 := S1.out.frozen 2; have f3 := S1.out.frozen 3; have f4 := S1.out.frozen 4
  have rc1 := (RC.out.blw SB.out).cell (i := q) hi
  have frc := (RC.out.blw SB.out).frozen q
  have hi' : (q : Int) < 8 := by omega
  have FF : Hid (_ ∧ _ ∧ _) := fin_sets (v := ⟨some ⟨b1, 0, none⟩, a2, c1, c2⟩) (D := ⟨(a : Int) + 1, c q, 8, c, nt, t, d⟩) (Z := X) (w := w) (Wm := ((w1.setCell ⟨w.heap.size, 0, none⟩ (.int .i64 ((a : Int) + 1))).setCell ⟨w.heap.size, 1, none⟩ (.int .i64 (c q)))) (z := w.heap.size + 1) (.int .i64 ((a : Int) + 1)) (.int .i64 (c q)) (.slice (some ⟨b1, 0, none⟩) 8 c1) (.slice a2 nt c2) (.bool d) (show MG X ((w1.setCell ⟨w.heap.size, 0, none⟩ (.int .i64 ((a : Int) + 1))).setCell ⟨w.heap.size, 1, none⟩ (.int .i64 (c q))) ⟨some ⟨b1, 0, none⟩, a2, c1, c2⟩ ⟨(a : Int) + 1, c q, 8, c, nt, t, d⟩ from ⟨(MG.mod (MG.mod (SM.out) (Mod.setCell (X := fun x => x = w.heap.size) _ (p := ⟨w.heap.size, 0, none⟩) rfl _) (fun b hb e => by have := HXX.out b hb; omega)) (Mod.setCell (X := fun x => x = w.heap.size) _ (p := ⟨w.heap.size, 1, none⟩) rfl _) (fun b hb e => by have := HXX.out b hb; omega)).ex⟩) (fun hx => by have := HXX.out _ hx; omega) (Mod.old (Mod.old ((SB.out.mod X)) (Mod.setCell (X := fun x => x = w.heap.size) _ (p := ⟨w.heap.size, 0, none⟩) rfl _) (fun x hx hl => by omega)) (Mod.setCell (X := fun x => x = w.heap.size) _ (p := ⟨w.heap.size, 1, none⟩) rfl _) (fun x hx hl => by omega)) (by omega)
  clear SB S0 S1 S3 SM HXX RC HT
  go_wp2
  refine bodyPost_ret (v := GV.val (⟨some ⟨b1, 0, none⟩, a2, c1, c2⟩ : GV) ⟨(a : Int) + 1, c q, 8, c, nt, t, d⟩) (by simp [results, Try.results126, go_sem, t0, t1, t2, t3, t4]) rfl ?_
  exact ⟨⟨some ⟨b1, 0, none⟩, a2, c1, c2⟩, rfl, FF.out.1.mono (fun b hb => Or.inl hb), FF.out.2.1⟩
set_option maxRecDepth 10000 in
set_option maxHeartbeats 3200000 in
theorem l9Step_store (ao : Option Addr) (cp n : Nat) (F : Nat → Nat → Int) (v : GV) (a : Nat) (acc : Int) (c : Nat → Int) (nt : Nat) (t : Nat → Int) (d : Bool) (X Y : Nat → Prop) (w : World) (hn : n ≤ 16) (ha16 : a ≤ 16) (hacc : wordOK acc) (hnt : nt ≤ 20) (q : Nat) (hi : q < 8) (hlt : a < n) (hk : F a 0 = 4) (hai : F a 1 = (q : Int)) (hF : KAt 3 Y w ao n F) (hX : ∀ b, X b → b < w.heap.size) (h : MG X w v ⟨(a : Int), acc, 8, c, nt, t, d⟩) :
    Calls Try.prog 126 #[.slice ao n cp, v.val ⟨(a : Int), acc, 8, c, nt, t, d⟩] w fun e w' => ∃ v' : GV, e = .returned (v'.val ⟨(a : Int) + 1, acc, 8, updI c q acc, nt, t, d⟩) ∧ MG (fun b => X b ∨ (w.heap.size ≤ b ∧ b < w'.heap.size)) w' v' ⟨(a : Int) + 1, acc, 8, updI c q acc, nt, t, d⟩ ∧ Mod X w w' := by
  obtain ⟨a1, a2, c1, c2⟩ := v
  obtain ⟨X1, X2, dd1, dd2, hc, ht⟩ := h.ex
  obtain ⟨b1, hxb1, ea, rc⟩ := hc.2 (by show 0 < 8; omega)
  dsimp only at ea
  subst ea
  have RC : Hid (Row w b1 8 (fun i => .int .i64 (c i))) := rc
  have HT : Hid (BufI X2 w (.slice a2 nt c2) nt t) := ht
  have hxb := (dd1 b1 hxb1).1
  have hbl := hX b1 hxb
  have hne : b1 ≠ w.heap.size := by omega
  have hne' : ¬ w.heap.size = b1 := by omega
  clear hc ht rc
  have HB : Hid (Blw w ((w.alloc (.cells #[.int .i64 (a : Int), .int .i64 acc, .slice (some ⟨b1, 0, none⟩) 8 c1, .slice a2 nt c2, .bool d] 61)).alloc (.cells #[.int .i64 0, .int .i64 0, .slice none 0 0, .slice none 0 0, .bool false] 61))) := ((Blw.refl _).alloc _).alloc _
  have r1 := row5 (w.alloc (.cells #[.int .i64 (a : Int), .int .i64 acc, .slice (some ⟨b1, 0, none⟩) 8 c1, .slice a2 nt c2, .bool d] 61)) (.int .i64 0) (.int .i64 0) (.slice none 0 0) (.slice none 0 0) (.bool false) 61
  rw [World.size_alloc] at r1
  have R0 : Hid (Row ((w.alloc (.cells #[.int .i64 (a : Int), .int .i64 acc, .slice (some ⟨b1, 0, none⟩) 8 c1, .slice a2 nt c2, .bool d] 61)).alloc (.cells #[.int .i64 0, .int .i64 0, .slice none 0 0, .slice none 0 0, .bool false] 61)) w.heap.size 5 (fun i => if i = 0 then .int .i64 (a : Int) else if i = 1 then .int .i64 acc else if i = 2 then .slice (some ⟨b1, 0, none⟩) 8 c1 else if i = 3 then .slice a2 nt c2 else .bool d)) := (row5 w _ _ _ _ _ 61).blw ((Blw.refl _).alloc _)
  have R1 : Hid (Row ((w.alloc (.cells #[.int .i64 (a : Int), .int .i64 acc, .slice (some ⟨b1, 0, none⟩) 8 c1, .slice a2 nt c2, .bool d] 61)).alloc (.cells #[.int .i64 0, .int .i64 0, .slice none 0 0, .slice none 0 0, .bool false] 61)) (w.heap.size + 1) 5 (fun i => if i = 0 then .int .i64 0 else if i = 1 then .int .i64 0 else if i = 2 then .slice none 0 0 else if i = 3 then .slice none 0 0 else .bool false)) := r1
  have HM : Hid (MG X ((w.alloc (.cells #[.int .i64 (a : Int), .int .i64 acc, .slice (some ⟨b1, 0, none⟩) 8 c1, .slice a2 nt c2, .bool d] 61)).alloc (.cells #[.int .i64 0, .int .i64 0, .slice none 0 0, .slice none 0 0, .bool false] 61)) ⟨some ⟨b1, 0, none⟩, a2, c1, c2⟩ ⟨(a : Int), acc, 8, c, nt, t, d⟩) := h.blw HB.out
  have HF : Hid (KAt 3 Y ((w.alloc (.cells #[.int .i64 (a : Int), .int .i64 acc, .slice (some ⟨b1, 0, none⟩) 8 c1, .slice a2 nt c2, .bool d] 61)).alloc (.cells #[.int .i64 0, .int .i64 0, .slice none 0 0, .slice none 0 0, .bool false] 61)) ao n F) := hF.blw HB.out
  have HXX : Hid (∀ b, X b → b < w.heap.size) := hX
  have HSZ : Hid (((w.alloc (.cells #[.int .i64 (a : Int), .int .i64 acc, .slice (some ⟨b1, 0, none⟩) 8 c1, .slice a2 nt c2, .bool d] 61)).alloc (.cells #[.int .i64 0, .int .i64 0, .slice none 0 0, .slice none 0 0, .bool false] 61)).heap.size = w.heap.size + 1 + 1) := by show _ = _; simp
  clear h hF hX r1
  go_enter Try.func126, Try.ntmps126
  go_upto_region 1 with fail
  generalize ((w.alloc (.cells #[.int .i64 (a : Int), .int .i64 acc, .slice (some ⟨b1, 0, none⟩) 8 c1, .slice a2 nt c2, .bool d] 61)).alloc (.cells #[.int .i64 0, .int .i64 0, .slice none 0 0, .slice none 0 0, .bool false] 61)) = w0 at *
  have hsz := HSZ.out
  obtain ⟨p0, p1, p2, p3, p4⟩ := get5 R0.out
  obtain ⟨t0, t1, t2, t3, t4⟩ := get5 R1.out
  obtain ⟨bp, op, rfl, -, gg⟩ := HF.out.2 a (by omega)
  have g0 := gg 0 (by omega)
  have g1 := gg 1 (by omega)
  have g2 := gg 2 (by omega)
  rw [Nat.add_zero] at g0
  clear gg
  have hge : ¬ n ≤ a := by omega
  have hlt' : (a : Int) < n := by omega
  rw [hk] at g0
  clear hlt
  have hk' := hk
  clear hk
  rw [hai] at g1
  clear hai
  have q1 := HSZ.out
  have hA : Blw w0 (w0.alloc (.cells #[.int .i64 4, .int .i64 (q : Int), .int .i64 (F a 2)] 170)) := (Blw.refl _).alloc _
  have S0 : Hid (Row (w0.alloc (.cells #[.int .i64 4, .int .i64 (q : Int), .int .i64 (F a 2)] 170)) w.heap.size 5 (fun i => if i = 0 then .int .i64 (a : Int) else if i = 1 then .int .i64 acc else if i = 2 then .slice (some ⟨b1, 0, none⟩) 8 c1 else if i = 3 then .slice a2 nt c2 else .bool d)) := R0.out.blw hA
  have S1 : Hid (Row (w0.alloc (.cells #[.int .i64 4, .int .i64 (q : Int), .int .i64 (F a 2)] 170)) (w.heap.size + 1) 5 (fun i => if i = 0 then .int .i64 0 else if i = 1 then .int .i64 0 else if i = 2 then .slice none 0 0 else if i = 3 then .slice none 0 0 else .bool false)) := R1.out.blw hA
  have S3 : Hid (Row (w0.alloc (.cells #[.int .i64 4, .int .i64 (q : Int), .int .i64 (F a 2)] 170)) w0.heap.size 3 (fun i => if i = 0 then .int .i64 4 else if i = 1 then .int .i64 (q : Int) else .int .i64 (F a 2))) := box3 w0 _ _ _ 170
  have SM : Hid (MG X (w0.alloc (.cells #[.int .i64 4, .int .i64 (q : Int), .int .i64 (F a 2)] 170)) ⟨some ⟨b1, 0, none⟩, a2, c1, c2⟩ ⟨(a : Int), acc, 8, c, nt, t, d⟩) := HM.out.blw hA
  have SB : Hid (Blw w (w0.alloc (.cells #[.int .i64 4, .int .i64 (q : Int), .int .i64 (F a 2)] 170))) := HB.out.trans hA
  have SZ : Hid (w0.heap.size = w.heap.size + 1 + 1 ∧ (w0.alloc (.cells #[.int .i64 4, .int .i64 (q : Int), .int .i64 (F a 2)] 170)).heap.size = w.heap.size + 1 + 1 + 1) := ⟨q1, by rw [World.size_alloc, q1]⟩
  clear q1 hA hk'
  go_upto_region 5 with fail
  generalize (w0.alloc (.cells #[.int .i64 4, .int .i64 (q : Int), .int .i64 (F a 2)] 170)) = w1 at *
  obtain ⟨qz, qz1⟩ := SZ.out
  rw [qz] at S3
  clear p0 p1 p2 p3 p4 t0 t1 t2 t3 t4 HB R0 R1 HM HF HSZ hsz qz g0 g1 g2 SZ
  obtain ⟨p0, p1, p2, p3, p4⟩ := get5 S0.out
  obtain ⟨t0, t1, t2, t3, t4⟩ := get5 S1.out
  obtain ⟨s0, s1, s2⟩ := get3 S3.out
  have e0 := S0.out.frozen 0; have e1 := S0.out.frozen 1; have e2 := S0.out.frozen 2; have e3 := S0.out.frozen 3; have e4 := S0.out.frozen 4
  have f0 := S1.out.frozen 0; have f1 := S1.out.frozen 1; have f2 := S1.out.frozen 2; have f3 := S1.out.frozen 3; have f4 := S1.out.frozen 4
  have rc1 := (RC.out.blw SB.out).cell (i := q) hi
  have frc := (RC.out.blw SB.out).frozen q
  have hi' : (q : Int) < 8 := by omega
  have FF : Hid (_ ∧ _ ∧ _) := fin_sets (v := ⟨some ⟨b1, 0, none⟩, a2, c1, c2⟩) (D := ⟨(a : Int) + 1, acc, 8, updI c q acc, nt, t, d⟩) (Z := X) (w := w) (Wm := ((w1.setCell ⟨w.heap.size, 0, none⟩ (.int .i64 ((a : Int) + 1))).setCell ⟨b1, q, none⟩ (.int .i64 acc))) (z := w.heap.size + 1) (.int .i64 ((a : Int) + 1)) (.int .i64 acc) (.slice (some ⟨b1, 0, none⟩) 8 c1) (.slice a2 nt c2) (.bool d) (show MG X ((w1.setCell ⟨w.heap.size, 0, none⟩ (.int .i64 ((a : Int) + 1))).setCell ⟨b1, q, none⟩ (.int .i64 acc)) ⟨some ⟨b1, 0, none⟩, a2, c1, c2⟩ ⟨(a : Int) + 1, acc, 8, updI c q acc, nt, t, d⟩ from ⟨X1, X2, dd1, dd2, ⟨by show 8 ≤ _; omega, fun _ => ⟨b1, hxb1, rfl, (((RC.out.blw SB.out).mod (Mod.setCell (X := fun x => x = w.heap.size) _ (p := ⟨w.heap.size, 0, none⟩) rfl _) hne).set q (.int .i64 acc)).congr (fun j hj => by by_cases ej : j = q <;> simp [ej, updI])⟩⟩, Buf.mod (Buf.mod (Buf.blw HT.out SB.out) (Mod.setCell (X := fun x => x = w.heap.size) _ (p := ⟨w.heap.size, 0, none⟩) rfl _) (fun b hb e => by have := HXX.out b (dd2 b hb); omega)) (Mod.setCell (X := fun x => x = b1) _ (p := ⟨b1, q, none⟩) rfl _) (fun b hb e => (dd1 b1 hxb1).2 (e ▸ hb))⟩) (fun hx => by have := HXX.out _ hx; omega) (Mod.old (Mod.old ((SB.out.mod X)) (Mod.setCell (X := fun x => x = w.heap.size) _ (p := ⟨w.heap.size, 0, none⟩) rfl _) (fun x hx hl => by omega)) (Mod.setCell (X := fun x => x = b1) _ (p := ⟨b1, q, none⟩) rfl _) (fun x hx hl => hx ▸ hxb)) (by omega)
  clear SB S0 S1 S3 SM HXX RC HT
  go_wp2
  refine bodyPost_ret (v := GV.val (⟨some ⟨b1, 0, none⟩, a2, c1, c2⟩ : GV) ⟨(a : Int) + 1, acc, 8, updI c q acc, nt, t, d⟩) (by simp [results, Try.results126, go_sem, t0, t1, t2, t3, t4]) rfl ?_
  exact ⟨⟨some ⟨b1, 0, none⟩, a2, c1, c2⟩, rfl, FF.out.1.mono (fun b hb => Or.inl hb), FF.out.2.1⟩
set_option maxRecDepth 10000 in
set_option maxHeartbeats 3200000 in
theorem l9Step_tell (ao : Option Addr) (cp n : Nat) (F : Nat → Nat → Int) (v : GV) (a : Nat) (acc : Int) (c : Nat → Int) (nt : Nat) (t : Nat → Int) (d : Bool) (X Y : Nat → Prop) (w : World) (hn : n ≤ 16) (ha16 : a ≤ 16) (hacc : wordOK acc) (hnt : nt ≤ 20) (hlt : a < n) (hk : F a 0 = 6) (h20n : ¬ nt = 20) (hF : KAt 3 Y w ao n F) (hX : ∀ b, X b → b < w.heap.size) (h : MG X w v ⟨(a : Int), acc, 8, c, nt, t, d⟩) :
    Calls Try.prog 126 #[.slice ao n cp, v.val ⟨(a : Int), acc, 8, c, nt, t, d⟩] w fun e w' => ∃ v' : GV, e = .returned (v'.val ⟨(a : Int) + 1, acc, 8, c, nt + 1, updI t nt acc, d⟩) ∧ MG (fun b => X b ∨ (w.heap.size ≤ b ∧ b < w'.heap.size)) w' v' ⟨(a : Int) + 1, acc, 8, c, nt + 1, updI t nt acc, d⟩ ∧ Mod X w w' := by
  have HB : Hid (Blw w ((w.alloc (.cells #[.int .i64 (a : Int), .int .i64 acc, .slice v.a1 8 v.c1, .slice v.a2 nt v.c2, .bool d] 61)).alloc (.cells #[.int .i64 0, .int .i64 0, .slice none 0 0, .slice none 0 0, .bool false] 61))) := ((Blw.refl _).alloc _).alloc _
  have r1 := row5 (w.alloc (.cells #[.int .i64 (a : Int), .int .i64 acc, .slice v.a1 8 v.c1, .slice v.a2 nt v.c2, .bool d] 61)) (.int .i64 0) (.int .i64 0) (.slice none 0 0) (.slice none 0 0) (.bool false) 61
  rw [World.size_alloc] at r1
  have R0 : Hid (Row ((w.alloc (.cells #[.int .i64 (a : Int), .int .i64 acc, .slice v.a1 8 v.c1, .slice v.a2 nt v.c2, .bool d] 61)).alloc (.cells #[.int .i64 0, .int .i64 0, .slice none 0 0, .slice none 0 0, .bool false] 61)) w.heap.size 5 (fun i => if i = 0 then .int .i64 (a : Int) else if i = 1 then .int .i64 acc else if i = 2 then .slice v.a1 8 v.c1 else if i = 3 then .slice v.a2 nt v.c2 else .bool d)) := (row5 w _ _ _ _ _ 61).blw ((Blw.refl _).alloc _)
  have R1 : Hid (Row ((w.alloc (.cells #[.int .i64 (a : Int), .int .i64 acc, .slice v.a1 8 v.c1, .slice v.a2 nt v.c2, .bool d] 61)).alloc (.cells #[.int .i64 0, .int .i64 0, .slice none 0 0, .slice none 0 0, .bool false] 61)) (w.heap.size + 1) 5 (fun i => if i = 0 then .int .i64 0 else if i = 1 then .int .i64 0 else if i = 2 then .slice none 0 0 else if i = 3 then .slice none 0 0 else .bool false)) := r1
  have HM : Hid (MG X ((w.alloc (.cells #[.int .i64 (a : Int), .int .i64 acc, .slice v.a1 8 v.c1, .slice v.a2 nt v.c2, .bool d] 61)).alloc (.cells #[.int .i64 0, .int .i64 0, .slice none 0 0, .slice none 0 0, .bool false] 61)) v ⟨(a : Int), acc, 8, c, nt, t, d⟩) := h.blw HB.out
  have HF : Hid (KAt 3 Y ((w.alloc (.cells #[.int .i64 (a : Int), .int .i64 acc, .slice v.a1 8 v.c1, .slice v.a2 nt v.c2, .bool d] 61)).alloc (.cells #[.int .i64 0, .int .i64 0, .slice none 0 0, .slice none 0 0, .bool false] 61)) ao n F) := hF.blw HB.out
  have HXX : Hid (∀ b, X b → b < w.heap.size) := hX
  have HSZ : Hid (((w.alloc (.cells #[.int .i64 (a : Int), .int .i64 acc, .slice v.a1 8 v.c1, .slice v.a2 nt v.c2, .bool d] 61)).alloc (.cells #[.int .i64 0, .int .i64 0, .slice none 0 0, .slice none 0 0, .bool false] 61)).heap.size = w.heap.size + 1 + 1) := by show _ = _; simp
  clear h hF hX r1
  have Hh20n : Hid (¬ nt = 20) := h20n
  clear h20n
  go_enter Try.func126, Try.ntmps126
  go_upto_region 1 with fail
  generalize ((w.alloc (.cells #[.int .i64 (a : Int), .int .i64 acc, .slice v.a1 8 v.c1, .slice v.a2 nt v.c2, .bool d] 61)).alloc (.cells #[.int .i64 0, .int .i64 0, .slice none 0 0, .slice none 0 0, .bool false] 61)) = w0 at *
  have hsz := HSZ.out
  obtain ⟨p0, p1, p2, p3, p4⟩ := get5 R0.out
  obtain ⟨t0, t1, t2, t3, t4⟩ := get5 R1.out
  obtain ⟨bp, op, rfl, -, gg⟩ := HF.out.2 a (by omega)
  have g0 := gg 0 (by omega)
  have g1 := gg 1 (by omega)
  have g2 := gg 2 (by omega)
  rw [Nat.add_zero] at g0
  clear gg
  have hge : ¬ n ≤ a := by omega
  have hlt' : (a : Int) < n := by omega
  rw [hk] at g0
  clear hlt
  have hk' := hk
  clear hk
  have d20 : ((nt : Int) == 20) = false := by have := Hh20n.out; simp; omega
  clear Hh20n
  have q1 := HSZ.out
  have hA : Blw w0 (w0.alloc (.cells #[.int .i64 6, .int .i64 (F a 1), .int .i64 (F a 2)] 170)) := (Blw.refl _).alloc _
  have S0 : Hid (Row (w0.alloc (.cells #[.int .i64 6, .int .i64 (F a 1), .int .i64 (F a 2)] 170)) w.heap.size 5 (fun i => if i = 0 then .int .i64 (a : Int) else if i = 1 then .int .i64 acc else if i = 2 then .slice v.a1 8 v.c1 else if i = 3 then .slice v.a2 nt v.c2 else .bool d)) := R0.out.blw hA
  have S1 : Hid (Row (w0.alloc (.cells #[.int .i64 6, .int .i64 (F a 1), .int .i64 (F a 2)] 170)) (w.heap.size + 1) 5 (fun i => if i = 0 then .int .i64 0 else if i = 1 then .int .i64 0 else if i = 2 then .slice none 0 0 else if i = 3 then .slice none 0 0 else .bool false)) := R1.out.blw hA
  have S3 : Hid (Row (w0.alloc (.cells #[.int .i64 6, .int .i64 (F a 1), .int .i64 (F a 2)] 170)) w0.heap.size 3 (fun i => if i = 0 then .int .i64 6 else if i = 1 then .int .i64 (F a 1) else .int .i64 (F a 2))) := box3 w0 _ _ _ 170
  have SM : Hid (MG X (w0.alloc (.cells #[.int .i64 6, .int .i64 (F a 1), .int .i64 (F a 2)] 170)) v ⟨(a : Int), acc, 8, c, nt, t, d⟩) := HM.out.blw hA
  have SB : Hid (Blw w (w0.alloc (.cells #[.int .i64 6, .int .i64 (F a 1), .int .i64 (F a 2)] 170))) := HB.out.trans hA
  have SZ : Hid (w0.heap.size = w.heap.size + 1 + 1 ∧ (w0.alloc (.cells #[.int .i64 6, .int .i64 (F a 1), .int .i64 (F a 2)] 170)).heap.size = w.heap.size + 1 + 1 + 1) := ⟨q1, by rw [World.size_alloc, q1]⟩
  clear q1 hA hk'
  go_upto_region 5 with fail
  generalize (w0.alloc (.cells #[.int .i64 6, .int .i64 (F a 1), .int .i64 (F a 2)] 170)) = w1 at *
  obtain ⟨qz, qz1⟩ := SZ.out
  rw [qz] at S3
  clear p0 p1 p2 p3 p4 t0 t1 t2 t3 t4 HB R0 R1 HM HF HSZ hsz qz g0 g1 g2 SZ
  obtain ⟨p0, p1, p2, p3, p4⟩ := get5 S0.out
  obtain ⟨t0, t1, t2, t3, t4⟩ := get5 S1.out
  obtain ⟨s0, s1, s2⟩ := get3 S3.out
  have e0 := S0.out.frozen 0; have e1 := S0.out.frozen 1; have e2 := S0.out.frozen 2; have e3 := S0.out.frozen 3; have e4 := S0.out.frozen 4
  have f0 := S1.out.frozen 0; have f1 := S1.out.frozen 1; have f2 := S1.out.frozen 2; have f3 := S1.out.frozen 3; have f4 := S1.out.frozen 4

  go_upto_region 7 with fail
  have mz : Mod (fun x => x = w.heap.size) w1 (w1.setCell ⟨w.heap.size, 0, none⟩ (.int .i64 ((a : Int) + 1))) := Mod.setCell (X := fun x => x = w.heap.size) _ (p := ⟨w.heap.size, 0, none⟩) rfl _
  have T0 : Row (w1.setCell ⟨w.heap.size, 0, none⟩ (.int .i64 ((a : Int) + 1))) w.heap.size 5 (fun i => if i = 0 then .int .i64 ((a : Int) + 1) else if i = 1 then .int .i64 acc else if i = 2 then .slice v.a1 8 v.c1 else if i = 3 then .slice v.a2 nt v.c2 else .bool d) := (set5 S0.out).1 _
  have T1 : Row (w1.setCell ⟨w.heap.size, 0, none⟩ (.int .i64 ((a : Int) + 1))) (w.heap.size + 1) 5 (fun i => if i = 0 then .int .i64 0 else if i = 1 then .int .i64 0 else if i = 2 then .slice none 0 0 else if i = 3 then .slice none 0 0 else .bool false) := S1.out.mod mz (by omega)
  have TM : MG X (w1.setCell ⟨w.heap.size, 0, none⟩ (.int .i64 ((a : Int) + 1))) v ⟨(a : Int), acc, 8, c, nt, t, d⟩ := SM.out.mod mz (fun b hb e => by have := HXX.out b hb; omega)
  have TMM : Mod X w (w1.setCell ⟨w.heap.size, 0, none⟩ (.int .i64 ((a : Int) + 1))) := Mod.old (SB.out.mod X) mz (fun x hx hl => by omega)
  have hs2 := mz.size
  clear mz SM SB S0 S1 S3 p0 p1 p2 p3 p4 t0 t1 t2 t3 t4 s0 s1 s2 e0 e1 e2 e3 e4 f0 f1 f2 f3 f4
  generalize (w1.setCell ⟨w.heap.size, 0, none⟩ (.int .i64 ((a : Int) + 1))) = w2 at *
  obtain ⟨X1, X2, dd1, dd2, hc, ht0⟩ := TM.ex
  have ht : BufI X2 w2 (.slice v.a2 nt v.c2) nt t := ht0
  clear ht0
  have hA : Blw w2 (w2.alloc (.cells #[.int .i64 acc] 3)) := (Blw.refl _).alloc _
  obtain ⟨a', cap', w3, hrun, hbuf, hmod⟩ := BufI.append (Buf.blw ht hA) 1 (one_ints w2 acc) (by show nt + 1 ≤ _; omega) 26
  have hown : ∀ b, (Value.slice v.a2 nt v.c2).ownBlock = some b → X2 b := ht.2
  have hs3 := hmod.size
  rw [World.size_alloc] at hs3
  have HRN : Hid _ := hrun
  have nz : ∀ b, X2 b → b < w.heap.size := fun b hb => HXX.out b (dd2 b hb)
  have U0 : Row w3 w.heap.size 5 (fun i => if i = 0 then .int .i64 ((a : Int) + 1) else if i = 1 then .int .i64 acc else if i = 2 then .slice v.a1 8 v.c1 else if i = 3 then .slice v.a2 nt v.c2 else .bool d) := (T0.blw hA).mod hmod (fun e => by have := nz _ (hown _ e); omega)
  have U1 : Row w3 (w.heap.size + 1) 5 (fun i => if i = 0 then .int .i64 0 else if i = 1 then .int .i64 0 else if i = 2 then .slice none 0 0 else if i = 3 then .slice none 0 0 else .bool false) := (T1.blw hA).mod hmod (fun e => by have := nz _ (hown _ e); omega)
  have UM : Mod X w w3 := Mod.old (Mod.old TMM (hA.mod (fun _ => False)) (fun x hx => hx.elim)) hmod (fun x hx hl => dd2 _ (hown _ hx))
  have UG : MG (fun b => X b ∨ (w2.heap.size ≤ b ∧ b < w3.heap.size)) w3 ⟨v.a1, a', v.c1, cap'⟩ ⟨(a : Int) + 1, acc, 8, c, nt + 1, updI t nt acc, d⟩ := ⟨X1, fun b => X2 b ∨ (w2.heap.size ≤ b ∧ b < w3.heap.size), fun b hb => ⟨Or.inl (dd1 b hb).1, fun hh => by
      rcases hh with hh | hh
      · exact (dd1 b hb).2 hh
      · have := HXX.out b (dd1 b hb).1; omega⟩, fun b hb => hb.imp (dd2 b) id, (hc.blw hA).mod' hmod (fun b hb e => (dd1 b hb).2 (hown _ e)), (Buf.congr hbuf (fun i hi => by
      show Value.int .i64 (icat nt t (fun _ => acc) i) = Value.int .i64 (updI t nt acc i)
      unfold icat updI
      rcases Nat.lt_trichotomy i nt with e | e | e
      · rw [if_pos e, if_neg (by omega)]
      · rw [if_neg (by omega), if_pos e]
      · exfalso; have : i < (nt + 1) * 1 := hi; omega)).mono (fun b hb => by
      rcases hb with ⟨hb | hb, hb2⟩
      · exact Or.inl hb
      · rw [World.size_alloc] at hb
        right; exact ⟨by omega, hb2⟩)⟩
  obtain ⟨p0, p1, p2, p3, p4⟩ := get5 T0
  obtain ⟨r0, r1, r2, r3, r4⟩ := get5 (T0.blw hA)
  obtain ⟨s0, s1, s2, s3, s4⟩ := get5 U0
  obtain ⟨t0, t1, t2, t3, t4⟩ := get5 U1
  have e0 := U0.frozen 0; have e1 := U0.frozen 1; have e2 := U0.frozen 2; have e3 := U0.frozen 3; have e4 := U0.frozen 4
  have f0 := U1.frozen 0; have f1 := U1.frozen 1; have f2 := U1.frozen 2; have f3 := U1.frozen 3; have f4 := U1.frozen 4
  have mz3 : Mod (fun x => x = w.heap.size) w3 (w3.setCell ⟨w.heap.size, 3, none⟩ (.slice a' (nt + 1) cap')) := Mod.setCell (X := fun x => x = w.heap.size) _ (p := ⟨w.heap.size, 3, none⟩) rfl _
  have FF : Hid (_ ∧ _ ∧ _) := fin_sets (v := (⟨v.a1, a', v.c1, cap'⟩ : GV)) (D := ⟨(a : Int) + 1, acc, 8, c, nt + 1, updI t nt acc, d⟩) (Z := X) (w := w) (Wm := (w3.setCell ⟨w.heap.size, 3, none⟩ (.slice a' (nt + 1) cap'))) (z := w.heap.size + 1) (.int .i64 ((a : Int) + 1)) (.int .i64 acc) (.slice v.a1 8 v.c1) (.slice a' (nt + 1) cap') (.bool d) (UG.mod mz3 (fun b hb e => by have := fun hx => HXX.out b hx; rcases hb with hb | hb; (have := this hb; omega); omega)) (fun hx => by have := fun hx => HXX.out (w.heap.size + 1) hx; rcases hx with hx | hx; (have := this hx; omega); omega) (Mod.old UM mz3 (fun x hx hl => by omega)) (by omega)
  have HS : Hid (w.heap.size ≤ w2.heap.size ∧ w3.heap.size ≤ (w3.setCell ⟨w.heap.size, 3, none⟩ (.slice a' (nt + 1) cap')).heap.size) := ⟨by omega, mz3.size⟩
  clear d20 hrun hbuf hmod hA hown nz U0 U1 UM UG T0 T1 TM TMM mz3 HXX hs2 hs3 hc ht dd1 dd2
  go_wp2_with (first | (at_builtin; refine wpList_app (.tmp 49) (.tmp 52) 26 (by rfl) ?_; refine ⟨_, _, HRN.out, ?_⟩) | fail)
  refine bodyPost_ret (v := GV.val (⟨v.a1, a', v.c1, cap'⟩ : GV) ⟨(a : Int) + 1, acc, 8, c, nt + 1, updI t nt acc, d⟩) (by simp [results, Try.results126, go_sem, t0, t1, t2, t3, t4]) rfl ?_
  have h9 := HS.out
  have h8 := FF.out.2.2
  exact ⟨_, rfl, FF.out.1.mono (fun b hb => hb.imp id (fun hb => ⟨by omega, by omega⟩)), FF.out.2.1⟩
end Go.Proofs.Ytbpdopcdhnemfaa
