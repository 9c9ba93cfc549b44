/- A timer put to its place, as the model does. -/
import Derived.Test.YtkmkidahaagbpaaPut
namespace Go.Proofs.Ytkmkidahaagbpaa
open Go.RowKit
set_option linter.unusedSimpArgs false
set_option linter.unusedVariables false
set_option maxRecDepth 100000 in
set_option maxHeartbeats 1600000 in
theorem l11Place_any (lo g1 g2 : Nat) (now : Int) (R : Rws) (P : Nat → Option Addr) (C : Nat → Nat) (t : Tm) (w : World) (h : OW lo g1 g2 R P C w) (hlo : lo ≤ w.heap.size) (h0 : 0 ≤ now) (h1 : now ≤ 1000000) (h2 : 0 ≤ t.2) (h3 : t.2 ≤ 1000000) (hl : ∀ k, k < 16 → (R k).length ≤ 1000) :
    Calls Try.prog 62 #[.agg #[.int .i64 now, .slice (some ⟨g1, 0, none⟩) 8 8, .slice (some ⟨g2, 0, none⟩) 8 8], .agg #[.int .i64 t.1, .int .i64 t.2]] w fun e w' => e = .returned (.tuple #[]) ∧ ∃ P' C', Hid (OW lo g1 g2 (put now R t) P' C' w' ∧ Mod (fun b => b = g1 ∨ b = g2) w w') := by
  have hb0 : Blw w (w.alloc (.cells #[.int .i64 now, .slice (some ⟨g1, 0, none⟩) 8 8, .slice (some ⟨g2, 0, none⟩) 8 8] 25)) := (Blw.refl _).alloc _
  have r0 := box3 w (.int .i64 now) (.slice (some ⟨g1, 0, none⟩) 8 8) (.slice (some ⟨g2, 0, none⟩) 8 8) 25
  obtain ⟨Wa, hWa⟩ : ∃ Wa, w.alloc (.cells #[.int .i64 now, .slice (some ⟨g1, 0, none⟩) 8 8, .slice (some ⟨g2, 0, none⟩) 8 8] 25) = Wa := ⟨_, rfl⟩
  rw [hWa] at hb0 r0
  have hsa : Wa.heap.size = w.heap.size + 1 := by rw [← hWa, World.size_alloc]
  have hb1 : Blw Wa (Wa.alloc (.cells #[.int .i64 t.1, .int .i64 t.2] 39)) := (Blw.refl _).alloc _
  have r1 := box2 Wa (.int .i64 t.1) (.int .i64 t.2) 39
  have ra := r0.blw hb1
  obtain ⟨W0, hW0⟩ : ∃ W0, Wa.alloc (.cells #[.int .i64 t.1, .int .i64 t.2] 39) = W0 := ⟨_, rfl⟩
  rw [hW0] at hb1 r1 ra
  rw [hsa] at r1
  have HO : Hid (OW lo g1 g2 R P C W0) := (h.blw hb0).blw hb1
  have HB : Hid (Blw w W0) := hb0.trans hb1
  have HA : Hid (Row W0 w.heap.size 3 (t3 (.int .i64 now) (.slice (some ⟨g1, 0, none⟩) 8 8) (.slice (some ⟨g2, 0, none⟩) 8 8))) := ra
  have HT : Hid (Row W0 (w.heap.size + 1) 2 (fun i => if i = 0 then Value.int .i64 t.1 else .int .i64 t.2)) := r1
  have HL : Hid (∀ k, k < 16 → (R k).length ≤ 1000) := hl
  have HLO : Hid (lo ≤ W0.heap.size) := by have h5 := HB.out.size; exact Nat.le_trans hlo h5
  have HNE : Hid (g1 < w.heap.size ∧ g2 < w.heap.size) := ⟨h.n.lt, h.f.lt⟩
  have e1 : Int.tdiv t.2 8 = t.2 / 8 := Int.tdiv_eq_ediv_of_nonneg h2
  have e2 : Int.tdiv now 8 = now / 8 := Int.tdiv_eq_ediv_of_nonneg h0
  obtain ⟨c1, -, -⟩ := get3 ra
  obtain ⟨c0, x1⟩ := get2 r1
  have y1 := x1
  clear h hb0 hb1 hl r0 ra r1 hlo
  by_cases hq : t.2 / 8 = now / 8
  · go_enter Try.func62, Try.ntmps62
    go_upto_region 1 with fail
    try simp only [hWa, hW0, hsa]
    clear hWa hW0 hsa
    obtain ⟨k, hk⟩ : ∃ k : Nat, t.2 % 8 = (k : Int) := ⟨(t.2 % 8).toNat, by omega⟩
    have ek : Int.tmod t.2 8 = (k : Int) := by rw [Int.tmod_eq_emod_of_nonneg h2, hk]
    have hk8 : k < 8 := by omega
    have hk8i : (k : Int) < 8 := by omega
    have hrow : rowOf now t.2 = k := by unfold rowOf; rw [if_pos hq]; omega
    have hput : put now R t = updN R k (ins (R k) t) := by rw [← put_upd, hrow, ins_eq]
    have HPU : Hid (put now R t = updN R k (ins (R k) t)) := hput
    have HCL : Hid (∀ W, Blw W0 W → Calls Try.prog 89 #[.slice (P k) (R k).length (C k), .agg #[.int .i64 t.1, .int .i64 t.2]] W fun e w' => ∃ a' c', e = .returned (.slice a' (ins (R k) t).length c') ∧ Hid (LB (fun b => W.heap.size ≤ b) w' a' c' (ins (R k) t) ∧ Blw W w')) := fun W hb => l11Put_any (P k) (C k) (R k) t _ W (HL.out _ (by omega)) ((HO.out.hr.buf k (by omega)).blw hb)
    obtain ⟨L, hL⟩ : ∃ L, ins (R k) t = L := ⟨_, rfl⟩
    rw [hL] at HCL HPU
    clear hput hrow hL
    go_upto_region 3 with fail
    clear c1 c0 x1 y1
    have hn1 := HO.out.n.lt
    have hn2 := HO.out.f.lt
    have hne := HNE.out
    have F0 : ∀ W, Mod (fun b => b = g1 ∨ b = g2) W0 W → W.cell? ⟨w.heap.size, 1, none⟩ = some (.slice (some ⟨g1, 0, none⟩) 8 8) := fun W hm => (get3 (HA.out.mod hm (fun e => by omega))).2.1
    have F1 : ∀ W, Mod (fun b => b = g1 ∨ b = g2) W0 W → W.cell? ⟨w.heap.size + 1, 0, none⟩ = some (.int .i64 t.1) := fun W hm => (get2 (HT.out.mod hm (fun e => by omega))).1
    have F2 : ∀ W, Mod (fun b => b = g1 ∨ b = g2) W0 W → W.cell? ⟨w.heap.size + 1, 1, none⟩ = some (.int .i64 t.2) := fun W hm => (get2 (HT.out.mod hm (fun e => by omega))).2
    have hbd : Blw W0 W0.drew := (Blw.refl _).drew
    have c7 : W0.drew.cell? ⟨g1, k, none⟩ = some (.slice (P k) (R k).length (C k)) := (HO.out.n.blw hbd).cell hk8
    have hS0 : Mod (fun b => b = g1 ∨ b = g2) W0 W0.drew := hbd.mod _
    refine wp_region_noPanic ?_
    refine wp_region_held_drew (S := (Mod (fun b => b = g1 ∨ b = g2) W0)) (by kernel_rfl) hS0 (fun hB => ?_)
    clear hB
    refine wpAnyH_take (i := 0) (oi := { dst := some 16, op := Op.fieldAddr 25 (Operand.tmp 2) 1, type := 0, pos := _, after := #[], guard := none }) (v := (.pointer (some ⟨w.heap.size, 1, none⟩))) rfl (by kernel_rfl) (by kernel_rfl) (by kernel_rfl) (fun _ _ _ h => h) (Or.inl ⟨by rfl, fun w' hS => by (try dsimp only at hS); go_simp⟩) hS0 ?_
    simp only [Act.put, List.setIfInBounds_toArray, List.set_cons_zero, List.set_cons_succ]
    refine wpAnyH_take (i := 2) (oi := { dst := some 18, op := Op.move (Operand.tmp 4), type := 3, pos := _, after := #[], guard := none }) (v := (.int .i64 (k : Nat))) rfl (by kernel_rfl) (by kernel_rfl) (by kernel_rfl) (fun _ _ _ h => h) (Or.inl ⟨by rfl, fun w' hS => by (try dsimp only at hS); go_simp⟩) hS0 ?_
    simp only [Act.put, List.setIfInBounds_toArray, List.set_cons_zero, List.set_cons_succ]
    refine wpAnyH_take (i := 3) (oi := { dst := some 19, op := Op.fieldAddr 25 (Operand.tmp 2) 1, type := 0, pos := _, after := #[], guard := none }) (v := (.pointer (some ⟨w.heap.size, 1, none⟩))) rfl (by kernel_rfl) (by kernel_rfl) (by kernel_rfl) (fun _ _ _ h => h) (Or.inl ⟨by rfl, fun w' hS => by (try dsimp only at hS); go_simp⟩) hS0 ?_
    simp only [Act.put, List.setIfInBounds_toArray, List.set_cons_zero, List.set_cons_succ]
    refine wpAnyH_take (i := 5) (oi := { dst := some 21, op := Op.move (Operand.tmp 4), type := 3, pos := _, after := #[], guard := none }) (v := (.int .i64 (k : Nat))) rfl (by kernel_rfl) (by kernel_rfl) (by kernel_rfl) (fun _ _ _ h => h) (Or.inl ⟨by rfl, fun w' hS => by (try dsimp only at hS); go_simp⟩) hS0 ?_
    simp only [Act.put, List.setIfInBounds_toArray, List.set_cons_zero, List.set_cons_succ]
    refine wpAnyH_take (i := 8) (oi := { dst := some 24, op := Op.load 39 (Operand.tmp 3), type := 39, pos := _, after := #[], guard := none }) (v := (.agg #[.int .i64 t.1, .int .i64 t.2])) rfl (by kernel_rfl) (by kernel_rfl) (by kernel_rfl) (fun _ _ _ h => h) (Or.inl ⟨by rfl, fun w' hS => by (try dsimp only at hS); go_simp⟩) hS0 ?_
    simp only [Act.put, List.setIfInBounds_toArray, List.set_cons_zero, List.set_cons_succ]
    refine wpAnyH_take (i := 1) (oi := { dst := some 17, op := Op.load 23 (Operand.tmp 16), type := 23, pos := _, after := #[{ on := 0, ground := Ground.data }], guard := none }) (v := (.slice (some ⟨g1, 0, none⟩) 8 8)) rfl (by kernel_rfl) (by kernel_rfl) (by kernel_rfl) (fun _ _ _ h => h) (Or.inl ⟨by rfl, fun w' hS => by (try dsimp only at hS); go_simp⟩) hS0 ?_
    simp only [Act.put, List.setIfInBounds_toArray, List.set_cons_zero, List.set_cons_succ]
    refine wpAnyH_take (i := 4) (oi := { dst := some 20, op := Op.load 23 (Operand.tmp 19), type := 23, pos := _, after := #[{ on := 3, ground := Ground.data }], guard := none }) (v := (.slice (some ⟨g1, 0, none⟩) 8 8)) rfl (by kernel_rfl) (by kernel_rfl) (by kernel_rfl) (fun _ _ _ h => h) (Or.inl ⟨by rfl, fun w' hS => by (try dsimp only at hS); go_simp⟩) hS0 ?_
    simp only [Act.put, List.setIfInBounds_toArray, List.set_cons_zero, List.set_cons_succ]
    refine wpAnyH_take (i := 6) (oi := { dst := some 22, op := Op.indexAddr 23 (Operand.tmp 20) (Operand.tmp 21), type := 0, pos := _, after := #[{ on := 4, ground := Ground.data }, { on := 5, ground := Ground.data }], guard := none }) (v := (.pointer (some ⟨g1, k, none⟩))) rfl (by kernel_rfl) (by kernel_rfl) (by kernel_rfl) (fun _ _ _ h => h) (Or.inl ⟨by rfl, fun w' hS => by (try dsimp only at hS); go_simp⟩) hS0 ?_
    simp only [Act.put, List.setIfInBounds_toArray, List.set_cons_zero, List.set_cons_succ]
    refine wpAnyH_ready (rs := [7]) (by kernel_rfl) (by simp) ?_
    refine AllReadyH.cons (o := { dst := some 23, op := Op.load 31 (Operand.tmp 22), type := 31, pos := _, after := #[{ on := 6, ground := Ground.data }], guard := none }) rfl (fun K hK => ?_) AllReadyH.nil
    go_simp
    refine hK.out _ _ hS0 (fun hB => ?_)
    clear hK K hB
    try simp only [Act.put, List.setIfInBounds_toArray, List.set_cons_zero, List.set_cons_succ]
    refine wpAnyH_ready (rs := [9]) (by kernel_rfl) (by simp) ?_
    refine AllReadyH.cons (o := { dst := some 25, op := Op.call { callee := Callee.value (Operand.func 89), args := #[Operand.tmp 23, Operand.tmp 24], argTypes := #[31, 39] }, type := 31, pos := _, after := #[{ on := 7, ground := Ground.data }, { on := 8, ground := Ground.data }], guard := none }) rfl (fun K hK => ?_) AllReadyH.nil
    go_simp
    refine (HCL.out _ hbd).mono ?_
    rintro e v9 ⟨a9, c9, rfl, hE⟩
    have hbv : Blw W0 v9 := hbd.trans hE.out.2
    have hup := OW.upd1 HO.out hk8 HLO.out hbv (hE.out.1.mono (fun b hb => hb))
    have hfz := HO.out.n.blw hbv
    have hfc := hfz.cell hk8
    have hff := hfz.frozen k
    have ms : Mod (fun b => b = g1 ∨ b = g2) v9 (v9.setCell ⟨g1, k, none⟩ (.slice a9 L.length c9)) := Mod.setCell (X := (fun b => b = g1 ∨ b = g2)) _ (p := ⟨g1, k, none⟩) (Or.inl rfl) _
    have hFIN : Hid (OW lo g1 g2 (put now R t) (updN P k a9) (updN C k c9) (v9.setCell ⟨g1, k, none⟩ (.slice a9 L.length c9)) ∧ Mod (fun b => b = g1 ∨ b = g2) w (v9.setCell ⟨g1, k, none⟩ (.slice a9 L.length c9))) := ⟨by rw [HPU.out]; exact hup, ((HB.out.mod _).trans (hbv.mod _)).trans ms⟩
    clear hup hfz hE c7 HCL HPU HO HA HT HB
    refine hK.out _ _ (hbv.mod _) (fun hB => ?_)
    clear hK K hB
    try simp only [Act.put, List.setIfInBounds_toArray, List.set_cons_zero, List.set_cons_succ]
    refine wpAnyH_take (i := 10) (oi := { dst := some 26, op := Op.indexAddr 23 (Operand.tmp 17) (Operand.tmp 18), type := 0, pos := _, after := #[{ on := 1, ground := Ground.data }, { on := 2, ground := Ground.data }, { on := 0, ground := Ground.phase }, { on := 1, ground := Ground.phase }, { on := 2, ground := Ground.phase }, { on := 3, ground := Ground.phase }, { on := 4, ground := Ground.phase }, { on := 5, ground := Ground.phase }, { on := 6, ground := Ground.phase }, { on := 7, ground := Ground.phase }, { on := 8, ground := Ground.phase }, { on := 9, ground := Ground.phase }], guard := none }) (v := (.pointer (some ⟨g1, k, none⟩))) rfl (by kernel_rfl) (by kernel_rfl) (by kernel_rfl) (fun _ _ _ h => h) (Or.inl ⟨by rfl, fun w' hS => by (try dsimp only at hS); go_simp⟩) (hbv.mod _) ?_
    simp only [Act.put, List.setIfInBounds_toArray, List.set_cons_zero, List.set_cons_succ]
    refine wpAnyH_ready (rs := [11]) (by kernel_rfl) (by simp) ?_
    refine AllReadyH.cons (o := { dst := none, op := Op.store 31 (Operand.tmp 26) (Operand.tmp 25), type := 0, pos := _, after := #[{ on := 10, ground := Ground.data }, { on := 9, ground := Ground.data }, { on := 9, ground := Ground.chain }, { on := 0, ground := Ground.phase }, { on := 1, ground := Ground.phase }, { on := 2, ground := Ground.phase }, { on := 3, ground := Ground.phase }, { on := 4, ground := Ground.phase }, { on := 5, ground := Ground.phase }, { on := 6, ground := Ground.phase }, { on := 7, ground := Ground.phase }, { on := 8, ground := Ground.phase }, { on := 9, ground := Ground.phase }], guard := none }) rfl (fun K hK => ?_) AllReadyH.nil
    go_simp
    refine hK.out _ _ ((hbv.mod _).trans ms) (fun hB => ?_)
    clear hK K hB
    try simp only [Act.put, List.setIfInBounds_toArray, List.set_cons_zero, List.set_cons_succ]
    refine wpAnyH_done (by kernel_rfl) ?_ _
    refine NoPanic.normal ?_
    go_wp2
    first | (refine bodyPost_ret (results_none rfl _ _ _) rfl ?_) | go_end0
    exact ⟨rfl, _, _, hFIN.out⟩
  · go_enter Try.func62, Try.ntmps62
    go_upto_region 1 with fail
    try simp only [hWa, hW0, hsa]
    clear hWa hW0 hsa
    obtain ⟨k, hk⟩ : ∃ k : Nat, t.2 / 8 % 8 = (k : Int) := ⟨(t.2 / 8 % 8).toNat, by omega⟩
    have ek : Int.tmod (t.2 / 8) 8 = (k : Int) := by rw [Int.tmod_eq_emod_of_nonneg (by omega), hk]
    have hk8 : k < 8 := by omega
    have hk8i : (k : Int) < 8 := by omega
    have hrow : rowOf now t.2 = (8 + k) := by unfold rowOf; rw [if_neg hq]; omega
    have hput : put now R t = updN R (8 + k) (ins (R (8 + k)) t) := by rw [← put_upd, hrow, ins_eq]
    have HPU : Hid (put now R t = updN R (8 + k) (ins (R (8 + k)) t)) := hput
    have HCL : Hid (∀ W, Blw W0 W → Calls Try.prog 89 #[.slice (P (8 + k)) (R (8 + k)).length (C (8 + k)), .agg #[.int .i64 t.1, .int .i64 t.2]] W fun e w' => ∃ a' c', e = .returned (.slice a' (ins (R (8 + k)) t).length c') ∧ Hid (LB (fun b => W.heap.size ≤ b) w' a' c' (ins (R (8 + k)) t) ∧ Blw W w')) := fun W hb => l11Put_any (P (8 + k)) (C (8 + k)) (R (8 + k)) t _ W (HL.out _ (by omega)) ((HO.out.hr.buf (8 + k) (by omega)).blw hb)
    obtain ⟨L, hL⟩ : ∃ L, ins (R (8 + k)) t = L := ⟨_, rfl⟩
    rw [hL] at HCL HPU
    clear hput hrow hL
    go_upto_region 5 with fail
    clear c1 c0 x1 y1
    have hn1 := HO.out.n.lt
    have hn2 := HO.out.f.lt
    have hne := HNE.out
    have F0 : ∀ W, Mod (fun b => b = g1 ∨ b = g2) W0 W → W.cell? ⟨w.heap.size, 2, none⟩ = some (.slice (some ⟨g2, 0, none⟩) 8 8) := fun W hm => (get3 (HA.out.mod hm (fun e => by omega))).2.2
    have F1 : ∀ W, Mod (fun b => b = g1 ∨ b = g2) W0 W → W.cell? ⟨w.heap.size + 1, 0, none⟩ = some (.int .i64 t.1) := fun W hm => (get2 (HT.out.mod hm (fun e => by omega))).1
    have F2 : ∀ W, Mod (fun b => b = g1 ∨ b = g2) W0 W → W.cell? ⟨w.heap.size + 1, 1, none⟩ = some (.int .i64 t.2) := fun W hm => (get2 (HT.out.mod hm (fun e => by omega))).2
    have hbd : Blw W0 W0.drew := (Blw.refl _).drew
    have c7 : W0.drew.cell? ⟨g2, k, none⟩ = some (.slice (P (8 + k)) (R (8 + k)).length (C (8 + k))) := (HO.out.f.blw hbd).cell hk8
    have hS0 : Mod (fun b => b = g1 ∨ b = g2) W0 W0.drew := hbd.mod _
    refine wp_region_noPanic ?_
    refine wp_region_held_drew (S := (Mod (fun b => b = g1 ∨ b = g2) W0)) (by kernel_rfl) hS0 (fun hB => ?_)
    clear hB
    refine wpAnyH_take (i := 0) (oi := { dst := some 31, op := Op.fieldAddr 25 (Operand.tmp 2) 2, type := 0, pos := _, after := #[], guard := none }) (v := (.pointer (some ⟨w.heap.size, 2, none⟩))) rfl (by kernel_rfl) (by kernel_rfl) (by kernel_rfl) (fun _ _ _ h => h) (Or.inl ⟨by rfl, fun w' hS => by (try dsimp only at hS); go_simp⟩) hS0 ?_
    simp only [Act.put, List.setIfInBounds_toArray, List.set_cons_zero, List.set_cons_succ]
    refine wpAnyH_take (i := 2) (oi := { dst := some 33, op := Op.move (Operand.tmp 5), type := 3, pos := _, after := #[], guard := none }) (v := (.int .i64 (k : Nat))) rfl (by kernel_rfl) (by kernel_rfl) (by kernel_rfl) (fun _ _ _ h => h) (Or.inl ⟨by rfl, fun w' hS => by (try dsimp only at hS); go_simp⟩) hS0 ?_
    simp only [Act.put, List.setIfInBounds_toArray, List.set_cons_zero, List.set_cons_succ]
    refine wpAnyH_take (i := 3) (oi := { dst := some 34, op := Op.fieldAddr 25 (Operand.tmp 2) 2, type := 0, pos := _, after := #[], guard := none }) (v := (.pointer (some ⟨w.heap.size, 2, none⟩))) rfl (by kernel_rfl) (by kernel_rfl) (by kernel_rfl) (fun _ _ _ h => h) (Or.inl ⟨by rfl, fun w' hS => by (try dsimp only at hS); go_simp⟩) hS0 ?_
    simp only [Act.put, List.setIfInBounds_toArray, List.set_cons_zero, List.set_cons_succ]
    refine wpAnyH_take (i := 5) (oi := { dst := some 36, op := Op.move (Operand.tmp 5), type := 3, pos := _, after := #[], guard := none }) (v := (.int .i64 (k : Nat))) rfl (by kernel_rfl) (by kernel_rfl) (by kernel_rfl) (fun _ _ _ h => h) (Or.inl ⟨by rfl, fun w' hS => by (try dsimp only at hS); go_simp⟩) hS0 ?_
    simp only [Act.put, List.setIfInBounds_toArray, List.set_cons_zero, List.set_cons_succ]
    refine wpAnyH_take (i := 8) (oi := { dst := some 39, op := Op.load 39 (Operand.tmp 3), type := 39, pos := _, after := #[], guard := none }) (v := (.agg #[.int .i64 t.1, .int .i64 t.2])) rfl (by kernel_rfl) (by kernel_rfl) (by kernel_rfl) (fun _ _ _ h => h) (Or.inl ⟨by rfl, fun w' hS => by (try dsimp only at hS); go_simp⟩) hS0 ?_
    simp only [Act.put, List.setIfInBounds_toArray, List.set_cons_zero, List.set_cons_succ]
    refine wpAnyH_take (i := 1) (oi := { dst := some 32, op := Op.load 23 (Operand.tmp 31), type := 23, pos := _, after := #[{ on := 0, ground := Ground.data }], guard := none }) (v := (.slice (some ⟨g2, 0, none⟩) 8 8)) rfl (by kernel_rfl) (by kernel_rfl) (by kernel_rfl) (fun _ _ _ h => h) (Or.inl ⟨by rfl, fun w' hS => by (try dsimp only at hS); go_simp⟩) hS0 ?_
    simp only [Act.put, List.setIfInBounds_toArray, List.set_cons_zero, List.set_cons_succ]
    refine wpAnyH_take (i := 4) (oi := { dst := some 35, op := Op.load 23 (Operand.tmp 34), type := 23, pos := _, after := #[{ on := 3, ground := Ground.data }], guard := none }) (v := (.slice (some ⟨g2, 0, none⟩) 8 8)) rfl (by kernel_rfl) (by kernel_rfl) (by kernel_rfl) (fun _ _ _ h => h) (Or.inl ⟨by rfl, fun w' hS => by (try dsimp only at hS); go_simp⟩) hS0 ?_
    simp only [Act.put, List.setIfInBounds_toArray, List.set_cons_zero, List.set_cons_succ]
    refine wpAnyH_take (i := 6) (oi := { dst := some 37, op := Op.indexAddr 23 (Operand.tmp 35) (Operand.tmp 36), type := 0, pos := _, after := #[{ on := 4, ground := Ground.data }, { on := 5, ground := Ground.data }], guard := none }) (v := (.pointer (some ⟨g2, k, none⟩))) rfl (by kernel_rfl) (by kernel_rfl) (by kernel_rfl) (fun _ _ _ h => h) (Or.inl ⟨by rfl, fun w' hS => by (try dsimp only at hS); go_simp⟩) hS0 ?_
    simp only [Act.put, List.setIfInBounds_toArray, List.set_cons_zero, List.set_cons_succ]
    refine wpAnyH_ready (rs := [7]) (by kernel_rfl) (by simp) ?_
    refine AllReadyH.cons (o := { dst := some 38, op := Op.load 31 (Operand.tmp 37), type := 31, pos := _, after := #[{ on := 6, ground := Ground.data }], guard := none }) rfl (fun K hK => ?_) AllReadyH.nil
    go_simp
    refine hK.out _ _ hS0 (fun hB => ?_)
    clear hK K hB
    try simp only [Act.put, List.setIfInBounds_toArray, List.set_cons_zero, List.set_cons_succ]
    refine wpAnyH_ready (rs := [9]) (by kernel_rfl) (by simp) ?_
    refine AllReadyH.cons (o := { dst := some 40, op := Op.call { callee := Callee.value (Operand.func 89), args := #[Operand.tmp 38, Operand.tmp 39], argTypes := #[31, 39] }, type := 31, pos := _, after := #[{ on := 7, ground := Ground.data }, { on := 8, ground := Ground.data }], guard := none }) rfl (fun K hK => ?_) AllReadyH.nil
    go_simp
    refine (HCL.out _ hbd).mono ?_
    rintro e v9 ⟨a9, c9, rfl, hE⟩
    have hbv : Blw W0 v9 := hbd.trans hE.out.2
    have hup := OW.upd2 HO.out hk8 HLO.out hbv (hE.out.1.mono (fun b hb => hb))
    have hfz := HO.out.f.blw hbv
    have hfc := hfz.cell hk8
    have hff := hfz.frozen k
    have ms : Mod (fun b => b = g1 ∨ b = g2) v9 (v9.setCell ⟨g2, k, none⟩ (.slice a9 L.length c9)) := Mod.setCell (X := (fun b => b = g1 ∨ b = g2)) _ (p := ⟨g2, k, none⟩) (Or.inr rfl) _
    have hFIN : Hid (OW lo g1 g2 (put now R t) (updN P (8 + k) a9) (updN C (8 + k) c9) (v9.setCell ⟨g2, k, none⟩ (.slice a9 L.length c9)) ∧ Mod (fun b => b = g1 ∨ b = g2) w (v9.setCell ⟨g2, k, none⟩ (.slice a9 L.length c9))) := ⟨by rw [HPU.out]; exact hup, ((HB.out.mod _).trans (hbv.mod _)).trans ms⟩
    clear hup hfz hE c7 HCL HPU HO HA HT HB
    refine hK.out _ _ (hbv.mod _) (fun hB => ?_)
    clear hK K hB
    try simp only [Act.put, List.setIfInBounds_toArray, List.set_cons_zero, List.set_cons_succ]
    refine wpAnyH_take (i := 10) (oi := { dst := some 41, op := Op.indexAddr 23 (Operand.tmp 32) (Operand.tmp 33), type := 0, pos := _, after := #[{ on := 1, ground := Ground.data }, { on := 2, ground := Ground.data }, { on := 0, ground := Ground.phase }, { on := 1, ground := Ground.phase }, { on := 2, ground := Ground.phase }, { on := 3, ground := Ground.phase }, { on := 4, ground := Ground.phase }, { on := 5, ground := Ground.phase }, { on := 6, ground := Ground.phase }, { on := 7, ground := Ground.phase }, { on := 8, ground := Ground.phase }, { on := 9, ground := Ground.phase }], guard := none }) (v := (.pointer (some ⟨g2, k, none⟩))) rfl (by kernel_rfl) (by kernel_rfl) (by kernel_rfl) (fun _ _ _ h => h) (Or.inl ⟨by rfl, fun w' hS => by (try dsimp only at hS); go_simp⟩) (hbv.mod _) ?_
    simp only [Act.put, List.setIfInBounds_toArray, List.set_cons_zero, List.set_cons_succ]
    refine wpAnyH_ready (rs := [11]) (by kernel_rfl) (by simp) ?_
    refine AllReadyH.cons (o := { dst := none, op := Op.store 31 (Operand.tmp 41) (Operand.tmp 40), type := 0, pos := _, after := #[{ on := 10, ground := Ground.data }, { on := 9, ground := Ground.data }, { on := 9, ground := Ground.chain }, { on := 0, ground := Ground.phase }, { on := 1, ground := Ground.phase }, { on := 2, ground := Ground.phase }, { on := 3, ground := Ground.phase }, { on := 4, ground := Ground.phase }, { on := 5, ground := Ground.phase }, { on := 6, ground := Ground.phase }, { on := 7, ground := Ground.phase }, { on := 8, ground := Ground.phase }, { on := 9, ground := Ground.phase }], guard := none }) rfl (fun K hK => ?_) AllReadyH.nil
    go_simp
    refine hK.out _ _ ((hbv.mod _).trans ms) (fun hB => ?_)
    clear hK K hB
    try simp only [Act.put, List.setIfInBounds_toArray, List.set_cons_zero, List.set_cons_succ]
    refine wpAnyH_done (by kernel_rfl) ?_ _
    refine NoPanic.normal ?_
    go_wp2
    first | (refine bodyPost_ret (results_none rfl _ _ _) rfl ?_) | go_end0
    exact ⟨rfl, _, _, hFIN.out⟩
end Go.Proofs.Ytkmkidahaagbpaa
