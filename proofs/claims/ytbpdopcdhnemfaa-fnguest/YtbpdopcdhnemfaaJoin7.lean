/- Merged by program, in this order: Ru, Nm, LawB, Eq8, HoldM, Hold, Find, FindI, Walk, Mapped. -/
import Derived.Test.YtbpdopcdhnemfaaJoin6
/- Machines: the program's step and run. -/
namespace Go.Proofs.Ytbpdopcdhnemfaa
open Go.RowKit
set_option linter.unusedSimpArgs false
set_option linter.unusedVariables false
theorem Mod.idd {X : Nat → Prop} {a b : World} (h : Mod X a b) : Mod X a b := h
def stN (n : Nat) (F : Nat → Nat → Int) (D : GD) (st : Nat → Bool) : Nat → Bool := if D.at_ < (n : Int) ∧ F D.at_.toNat 0 = 4 then setS st (F D.at_.toNat 1).toNat else st
theorem stepFin {w w7 : World} {zm n a : Nat} {F : Nat → Nat → Int} {D : GD} {st : Nat → Bool} {p : Value} (ha : D.at_ = (a : Int)) (hlt' : (a : Int) < n) (h : Row w7 zm 41 (mc p (stepG n F D) (if F a 0 = 4 then setS st (F a 1).toNat else st))) (hm : Mod (fun b => b = zm) w w7) :
    Row w7 zm 41 (mc p (stepG n F D) (stN n F D st)) ∧ Mod (fun b => b = zm) w w7 := by
  have e1 : stN n F D st = (if F a 0 = 4 then setS st (F a 1).toNat else st) := by
    unfold stN
    rw [ha, Int.toNat_natCast]
    by_cases e : F a 0 = 4
    · rw [if_pos ⟨hlt', e⟩, if_pos e]
    · rw [if_neg (fun q => e q.2), if_neg e]
  rw [e1]
  exact ⟨h, hm⟩
set_option maxRecDepth 10000 in
set_option maxHeartbeats 3200000 in
theorem step_any (zm zp n : Nat) (F : Nat → Nat → Int) (D : GD) (st : Nat → Bool) (w : World) (hp : progOK n F) (hD : D.Good) (hr : Row w zp n (fun i => iv (F i 0) (F i 1) (F i 2))) (h : Row w zm 41 (mc (.slice (some ⟨zp, 0, none⟩) n n) D st)) :
    Calls Try.prog 125 #[.pointer (some ⟨zm, 0, none⟩)] w fun e w' => (∃ u, e = .returned u) ∧ Row w' zm 41 (mc (.slice (some ⟨zp, 0, none⟩) n n) (stepG n F D) (stN n F D st)) ∧ Mod (fun b => b = zm) w w' := by
  have a0 := hD.a0
  obtain ⟨a, ha⟩ : ∃ a : Nat, D.at_ = a := ⟨D.at_.toNat, by omega⟩
  have HA : Hid (D.at_ = (a : Int)) := ha
  have HD : Hid D.Good := hD
  have HP : Hid (progOK n F) := hp
  have hn := hp.n2
  have ha16 : a ≤ 16 := by have := hD.a1; omega
  have HR : Hid (Row w.drew zp n (fun i => iv (F i 0) (F i 1) (F i 2))) := hr.blw (Blw.refl _).drew
  have HM : Hid (Row w.drew zm 41 (mc (.slice (some ⟨zp, 0, none⟩) n n) D st)) := h.blw (Blw.refl _).drew
  have HB : Hid (Mod (fun b => b = zm) w w.drew) := (Blw.refl w).drew.mod _
  have p0 : w.drew.cell? ⟨zm, 0, none⟩ = some (.slice (some ⟨zp, 0, none⟩) n n) := HM.out.cell (i := 0) (by omega)
  have p1 : w.drew.cell? ⟨zm, 1, none⟩ = some (.int .i64 (a : Int)) := (HM.out.cell (i := 1) (by omega)).trans (by rw [mc_at, ha])
  have hS0 : w.drew.cell? ⟨zm, 0, none⟩ = some (.slice (some ⟨zp, 0, none⟩) n n) ∧ w.drew.cell? ⟨zm, 1, none⟩ = some (.int .i64 (a : Int)) := ⟨p0, p1⟩
  clear hr h hD hp p0 p1 ha a0
  go_enter Try.func125, Try.ntmps125
  go_upto_region 0 with fail
  refine wp_region_noPanic ?_
  refine wp_region_held_drew (S := fun w' => w'.cell? ⟨zm, 0, none⟩ = some (.slice (some ⟨zp, 0, none⟩) n n) ∧ w'.cell? ⟨zm, 1, none⟩ = some (.int .i64 (a : Int))) (by kernel_rfl) hS0 (fun hB => ?_)
  clear hB
  generalize w.drew = wd at *
  refine wpAnyH_take (i := 0) (oi := { dst := some 2, op := Op.move (Operand.tmp 0), type := 211, pos := _, after := #[], guard := none }) (v := (.pointer (some ⟨zm, 0, none⟩))) rfl (by kernel_rfl) (by kernel_rfl) (by kernel_rfl) (fun _ _ _ h => h) (Or.inl ⟨by rfl, fun w' hS => by (try dsimp only at hS); go_simp⟩) hS0 ?_
  simp only [Act.put, List.setIfInBounds_toArray, List.set_cons_zero, List.set_cons_succ]
  refine wpAnyH_take (i := 5) (oi := { dst := some 7, op := Op.move (Operand.tmp 0), type := 211, pos := _, after := #[], guard := none }) (v := (.pointer (some ⟨zm, 0, none⟩))) rfl (by kernel_rfl) (by kernel_rfl) (by kernel_rfl) (fun _ _ _ h => h) (Or.inl ⟨by rfl, fun w' hS => by (try dsimp only at hS); go_simp⟩) hS0 ?_
  simp only [Act.put, List.setIfInBounds_toArray, List.set_cons_zero, List.set_cons_succ]
  refine wpAnyH_take (i := 1) (oi := { dst := some 3, op := Op.nilCheck (Operand.tmp 2), type := 0, pos := _, after := #[{ on := 0, ground := Ground.data }], guard := none }) (v := (.pointer (some ⟨zm, 0, none⟩))) rfl (by kernel_rfl) (by kernel_rfl) (by kernel_rfl) (fun _ _ _ h => h) (Or.inl ⟨by rfl, fun w' hS => by (try dsimp only at hS); go_simp⟩) hS0 ?_
  simp only [Act.put, List.setIfInBounds_toArray, List.set_cons_zero, List.set_cons_succ]
  refine wpAnyH_take (i := 6) (oi := { dst := some 8, op := Op.nilCheck (Operand.tmp 7), type := 0, pos := _, after := #[{ on := 5, ground := Ground.data }], guard := none }) (v := (.pointer (some ⟨zm, 0, none⟩))) rfl (by kernel_rfl) (by kernel_rfl) (by kernel_rfl) (fun _ _ _ h => h) (Or.inl ⟨by rfl, fun w' hS => by (try dsimp only at hS); go_simp⟩) hS0 ?_
  simp only [Act.put, List.setIfInBounds_toArray, List.set_cons_zero, List.set_cons_succ]
  refine wpAnyH_take (i := 2) (oi := { dst := some 4, op := Op.fieldAddr 151 (Operand.tmp 3) 1, type := 0, pos := _, after := #[{ on := 1, ground := Ground.data }], guard := none }) (v := (.pointer (some ⟨zm, 1, none⟩))) rfl (by kernel_rfl) (by kernel_rfl) (by kernel_rfl) (fun _ _ _ h => h) (Or.inl ⟨by rfl, fun w' hS => by (try dsimp only at hS); go_simp⟩) hS0 ?_
  simp only [Act.put, List.setIfInBounds_toArray, List.set_cons_zero, List.set_cons_succ]
  refine wpAnyH_take (i := 7) (oi := { dst := some 9, op := Op.fieldAddr 151 (Operand.tmp 8) 0, type := 0, pos := _, after := #[{ on := 6, ground := Ground.data }], guard := none }) (v := (.pointer (some ⟨zm, 0, none⟩))) rfl (by kernel_rfl) (by kernel_rfl) (by kernel_rfl) (fun _ _ _ h => h) (Or.inl ⟨by rfl, fun w' hS => by (try dsimp only at hS); go_simp⟩) hS0 ?_
  simp only [Act.put, List.setIfInBounds_toArray, List.set_cons_zero, List.set_cons_succ]
  refine wpAnyH_take (i := 3) (oi := { dst := some 5, op := Op.fieldAddr 148 (Operand.tmp 4) 0, type := 0, pos := _, after := #[{ on := 2, ground := Ground.data }], guard := none }) (v := (.pointer (some ⟨zm, 1, none⟩))) rfl (by kernel_rfl) (by kernel_rfl) (by kernel_rfl) (fun _ _ _ h => h) (Or.inl ⟨by rfl, fun w' hS => by (try dsimp only at hS); go_simp⟩) hS0 ?_
  simp only [Act.put, List.setIfInBounds_toArray, List.set_cons_zero, List.set_cons_succ]
  refine wpAnyH_take (i := 8) (oi := { dst := some 10, op := Op.load 144 (Operand.tmp 9), type := 144, pos := _, after := #[{ on := 7, ground := Ground.data }], guard := none }) (v := (.slice (some ⟨zp, 0, none⟩) n n)) rfl (by kernel_rfl) (by kernel_rfl) (by kernel_rfl) (fun _ _ _ h => h) (Or.inl ⟨by rfl, fun w' hS => by (try dsimp only at hS); go_simp⟩) hS0 ?_
  simp only [Act.put, List.setIfInBounds_toArray, List.set_cons_zero, List.set_cons_succ]
  refine wpAnyH_take (i := 4) (oi := { dst := some 6, op := Op.load 3 (Operand.tmp 5), type := 3, pos := _, after := #[{ on := 3, ground := Ground.data }], guard := none }) (v := (.int .i64 (a : Int))) rfl (by kernel_rfl) (by kernel_rfl) (by kernel_rfl) (fun _ _ _ h => h) (Or.inl ⟨by rfl, fun w' hS => by (try dsimp only at hS); go_simp⟩) hS0 ?_
  simp only [Act.put, List.setIfInBounds_toArray, List.set_cons_zero, List.set_cons_succ]
  refine wpAnyH_take (i := 9) (oi := { dst := some 11, op := Op.call { callee := Callee.builtin Builtin.len, args := #[Operand.tmp 10], argTypes := #[144] }, type := 3, pos := _, after := #[{ on := 8, ground := Ground.data }], guard := none }) (v := (.int .i64 (n : Int))) rfl (by kernel_rfl) (by kernel_rfl) (by kernel_rfl) (fun _ _ _ h => h) (Or.inl ⟨by rfl, fun w' hS => by (try dsimp only at hS); go_simp⟩) hS0 ?_
  simp only [Act.put, List.setIfInBounds_toArray, List.set_cons_zero, List.set_cons_succ]
  refine wpAnyH_take (i := 10) (oi := { dst := some 12, op := Op.binOp BinOp.geq 3 (Operand.tmp 6) (Operand.tmp 11) 3, type := 4, pos := _, after := #[{ on := 4, ground := Ground.data }, { on := 9, ground := Ground.data }], guard := none }) (v := (.bool (decide ((a : Int) ≥ (n : Int))))) rfl (by kernel_rfl) (by kernel_rfl) (by kernel_rfl) (fun _ _ _ h => h) (Or.inl ⟨by rfl, fun w' hS => by (try dsimp only at hS); go_simp⟩) hS0 ?_
  simp only [Act.put, List.setIfInBounds_toArray, List.set_cons_zero, List.set_cons_succ]
  refine wpAnyH_done (by kernel_rfl) ?_ _
  refine NoPanic.normal ?_
  by_cases hge : n ≤ a
  · have HS : Hid (stopsAt n F D) := Or.inl (by have := HA.out; omega)
    have f32 := HM.out.frozen 32
    have p32 : wd.cell? ⟨zm, 32, none⟩ = some (.bool D.d) := HM.out.cell (i := 32) (by omega)
    have FIN : Hid (Row (wd.setCell ⟨zm, 32, none⟩ (.bool true)) zm 41 (mc (.slice (some ⟨zp, 0, none⟩) n n) (stepG n F D) (stN n F D st)) ∧ Mod (fun b => b = zm) w (wd.setCell ⟨zm, 32, none⟩ (.bool true))) := by
      have e1 : stN n F D st = st := by unfold stN; rw [if_neg (by rw [HA.out]; omega)]
      have e2 : stepG n F D = { D with d := true } := by unfold stepG; rw [if_pos HS.out]
      rw [e1, e2]
      exact ⟨m_done HM.out, HB.out.trans (m_mod _)⟩
    clear HM HB HR hS0
    go_wp2
    first | refine bodyPost_end (results_none rfl _ _ _) rfl ?_ | refine bodyPost_ret (results_none rfl _ _ _) rfl ?_
    exact ⟨⟨_, rfl⟩, FIN.out.1, FIN.out.2⟩
  have hlt : a < n := by omega
  have hlt' : (a : Int) < n := by omega
  go_upto_region 2 with fail
  clear hS0
  replace HR : Hid (Row wd.drew zp n (fun i => iv (F i 0) (F i 1) (F i 2))) := HR.out.blw (Blw.refl _).drew
  replace HM : Hid (Row wd.drew zm 41 (mc (.slice (some ⟨zp, 0, none⟩) n n) D st)) := HM.out.blw (Blw.refl _).drew
  replace HB : Hid (Mod (fun b => b = zm) w wd.drew) := HB.out.trans ((Blw.refl wd).drew.mod _)
  have q0 : wd.drew.cell? ⟨zm, 0, none⟩ = some (.slice (some ⟨zp, 0, none⟩) n n) := HM.out.cell (i := 0) (by omega)
  have q1 : wd.drew.cell? ⟨zm, 1, none⟩ = some (.int .i64 (a : Int)) := (HM.out.cell (i := 1) (by omega)).trans (by rw [mc_at, HA.out])
  have q2 : wd.drew.cell? ⟨zp, a, none⟩ = some (iv (F a 0) (F a 1) (F a 2)) := HR.out.cell hlt
  refine wp_region_noPanic ?_
  refine wp_region_held_drew (S := fun _ => True) (by kernel_rfl) trivial (fun hB => ?_)
  clear hB
  generalize wd.drew = wd at *
  refine wpAnyH_take (i := 0) (oi := { dst := some 17, op := Op.move (Operand.tmp 0), type := 211, pos := _, after := #[], guard := none }) (v := (.pointer (some ⟨zm, 0, none⟩))) rfl (by kernel_rfl) (by kernel_rfl) (by kernel_rfl) (fun _ _ _ h => h) (Or.inl ⟨by rfl, fun w' hS => by (try dsimp only at hS); go_simp⟩) trivial ?_
  simp only [Act.put, List.setIfInBounds_toArray, List.set_cons_zero, List.set_cons_succ]
  refine wpAnyH_take (i := 1) (oi := { dst := some 18, op := Op.move (Operand.tmp 0), type := 211, pos := _, after := #[], guard := none }) (v := (.pointer (some ⟨zm, 0, none⟩))) rfl (by kernel_rfl) (by kernel_rfl) (by kernel_rfl) (fun _ _ _ h => h) (Or.inl ⟨by rfl, fun w' hS => by (try dsimp only at hS); go_simp⟩) trivial ?_
  simp only [Act.put, List.setIfInBounds_toArray, List.set_cons_zero, List.set_cons_succ]
  refine wpAnyH_take (i := 5) (oi := { dst := some 22, op := Op.move (Operand.tmp 0), type := 211, pos := _, after := #[], guard := none }) (v := (.pointer (some ⟨zm, 0, none⟩))) rfl (by kernel_rfl) (by kernel_rfl) (by kernel_rfl) (fun _ _ _ h => h) (Or.inl ⟨by rfl, fun w' hS => by (try dsimp only at hS); go_simp⟩) trivial ?_
  simp only [Act.put, List.setIfInBounds_toArray, List.set_cons_zero, List.set_cons_succ]
  refine wpAnyH_take (i := 2) (oi := { dst := some 19, op := Op.nilCheck (Operand.tmp 18), type := 0, pos := _, after := #[{ on := 1, ground := Ground.data }], guard := none }) (v := (.pointer (some ⟨zm, 0, none⟩))) rfl (by kernel_rfl) (by kernel_rfl) (by kernel_rfl) (fun _ _ _ h => h) (Or.inl ⟨by rfl, fun w' hS => by (try dsimp only at hS); go_simp⟩) trivial ?_
  simp only [Act.put, List.setIfInBounds_toArray, List.set_cons_zero, List.set_cons_succ]
  refine wpAnyH_take (i := 6) (oi := { dst := some 23, op := Op.nilCheck (Operand.tmp 22), type := 0, pos := _, after := #[{ on := 5, ground := Ground.data }], guard := none }) (v := (.pointer (some ⟨zm, 0, none⟩))) rfl (by kernel_rfl) (by kernel_rfl) (by kernel_rfl) (fun _ _ _ h => h) (Or.inl ⟨by rfl, fun w' hS => by (try dsimp only at hS); go_simp⟩) trivial ?_
  simp only [Act.put, List.setIfInBounds_toArray, List.set_cons_zero, List.set_cons_succ]
  refine wpAnyH_take (i := 3) (oi := { dst := some 20, op := Op.fieldAddr 151 (Operand.tmp 19) 0, type := 0, pos := _, after := #[{ on := 2, ground := Ground.data }], guard := none }) (v := (.pointer (some ⟨zm, 0, none⟩))) rfl (by kernel_rfl) (by kernel_rfl) (by kernel_rfl) (fun _ _ _ h => h) (Or.inl ⟨by rfl, fun w' hS => by (try dsimp only at hS); go_simp⟩) trivial ?_
  simp only [Act.put, List.setIfInBounds_toArray, List.set_cons_zero, List.set_cons_succ]
  refine wpAnyH_take (i := 7) (oi := { dst := some 24, op := Op.fieldAddr 151 (Operand.tmp 23) 1, type := 0, pos := _, after := #[{ on := 6, ground := Ground.data }], guard := none }) (v := (.pointer (some ⟨zm, 1, none⟩))) rfl (by kernel_rfl) (by kernel_rfl) (by kernel_rfl) (fun _ _ _ h => h) (Or.inl ⟨by rfl, fun w' hS => by (try dsimp only at hS); go_simp⟩) trivial ?_
  simp only [Act.put, List.setIfInBounds_toArray, List.set_cons_zero, List.set_cons_succ]
  refine wpAnyH_take (i := 8) (oi := { dst := some 25, op := Op.fieldAddr 148 (Operand.tmp 24) 0, type := 0, pos := _, after := #[{ on := 7, ground := Ground.data }], guard := none }) (v := (.pointer (some ⟨zm, 1, none⟩))) rfl (by kernel_rfl) (by kernel_rfl) (by kernel_rfl) (fun _ _ _ h => h) (Or.inl ⟨by rfl, fun w' hS => by (try dsimp only at hS); go_simp⟩) trivial ?_
  simp only [Act.put, List.setIfInBounds_toArray, List.set_cons_zero, List.set_cons_succ]
  refine wpAnyH_ready (rs := [4, 9]) (by kernel_rfl) (by simp) ?_
  refine AllReadyH.cons (o := { dst := some 21, op := Op.load 144 (Operand.tmp 20), type := 144, pos := _, after := #[{ on := 3, ground := Ground.data }], guard := none }) rfl (fun K hK => ?_) (AllReadyH.cons (o := { dst := some 26, op := Op.load 3 (Operand.tmp 25), type := 3, pos := _, after := #[{ on := 8, ground := Ground.data }], guard := none }) rfl (fun K hK => ?_) AllReadyH.nil)
  · go_simp
    refine hK.out _ _ trivial (fun hB => ?_)
    clear hK K hB
    try simp only [Act.put, List.setIfInBounds_toArray, List.set_cons_zero, List.set_cons_succ]
    refine wpAnyH_ready (rs := [9]) (by kernel_rfl) (by simp) ?_
    refine AllReadyH.cons (o := { dst := some 26, op := Op.load 3 (Operand.tmp 25), type := 3, pos := _, after := #[{ on := 8, ground := Ground.data }], guard := none }) rfl (fun K hK => ?_) AllReadyH.nil
    go_simp
    refine hK.out _ _ trivial (fun hB => ?_)
    clear hK K hB
    try simp only [Act.put, List.setIfInBounds_toArray, List.set_cons_zero, List.set_cons_succ]
    refine wpAnyH_take (i := 10) (oi := { dst := some 27, op := Op.indexAddr 144 (Operand.tmp 21) (Operand.tmp 26), type := 0, pos := _, after := #[{ on := 4, ground := Ground.data }, { on := 9, ground := Ground.data }], guard := none }) (v := (.pointer (some ⟨zp, a, none⟩))) rfl (by kernel_rfl) (by kernel_rfl) (by kernel_rfl) (fun _ _ _ h => h) (Or.inl ⟨by rfl, fun w' hS => by (try dsimp only at hS); go_simp⟩) trivial ?_
    simp only [Act.put, List.setIfInBounds_toArray, List.set_cons_zero, List.set_cons_succ]
    refine wpAnyH_ready (rs := [11]) (by kernel_rfl) (by simp) ?_
    refine AllReadyH.cons (o := { dst := some 28, op := Op.load 214 (Operand.tmp 27), type := 214, pos := _, after := #[{ on := 10, ground := Ground.data }], guard := none }) rfl (fun K hK => ?_) AllReadyH.nil
    go_simp
    refine hK.out _ _ trivial (fun hB => ?_)
    clear hK K hB
    try simp only [Act.put, List.setIfInBounds_toArray, List.set_cons_zero, List.set_cons_succ]
    refine wpAnyH_ready (rs := [12]) (by kernel_rfl) (by simp) ?_
    refine AllReadyH.cons (o := { dst := some 29, op := Op.call { callee := Callee.value (Operand.func 179), args := #[Operand.tmp 17, Operand.tmp 28], argTypes := #[211, 214] }, type := 0, pos := _, after := #[{ on := 0, ground := Ground.data }, { on := 11, ground := Ground.data }], guard := none }) rfl (fun K hK => ?_) AllReadyH.nil
    go_simp
    refine (do_any zm n F (.slice (some ⟨zp, 0, none⟩) n n) D st a _ HP.out HD.out HA.out hlt HM.out).mono ?_
    rintro e w7 ⟨⟨u, rfl⟩, hm7, hmod7⟩
    have FIN : Hid (Row w7 zm 41 (mc (.slice (some ⟨zp, 0, none⟩) n n) (stepG n F D) (stN n F D st)) ∧ Mod (fun b => b = zm) w w7) := stepFin HA.out hlt' hm7 (HB.out.trans hmod7)
    clear hm7 hmod7
    refine hK.out _ _ trivial (fun hB => ?_)
    clear hK K hB
    try simp only [Act.put, List.setIfInBounds_toArray, List.set_cons_zero, List.set_cons_succ]
    refine wpAnyH_done (by kernel_rfl) ?_ _
    refine NoPanic.normal ?_
    clear HM HB HR q0 q1 q2
    go_wp2
    first | refine bodyPost_end (results_none rfl _ _ _) rfl ?_ | refine bodyPost_ret (results_none rfl _ _ _) rfl ?_
    exact ⟨⟨_, rfl⟩, FIN.out.1, FIN.out.2⟩
  · go_simp
    refine hK.out _ _ trivial (fun hB => ?_)
    clear hK K hB
    try simp only [Act.put, List.setIfInBounds_toArray, List.set_cons_zero, List.set_cons_succ]
    refine wpAnyH_ready (rs := [4]) (by kernel_rfl) (by simp) ?_
    refine AllReadyH.cons (o := { dst := some 21, op := Op.load 144 (Operand.tmp 20), type := 144, pos := _, after := #[{ on := 3, ground := Ground.data }], guard := none }) rfl (fun K hK => ?_) AllReadyH.nil
    go_simp
    refine hK.out _ _ trivial (fun hB => ?_)
    clear hK K hB
    try simp only [Act.put, List.setIfInBounds_toArray, List.set_cons_zero, List.set_cons_succ]
    refine wpAnyH_take (i := 10) (oi := { dst := some 27, op := Op.indexAddr 144 (Operand.tmp 21) (Operand.tmp 26), type := 0, pos := _, after := #[{ on := 4, ground := Ground.data }, { on := 9, ground := Ground.data }], guard := none }) (v := (.pointer (some ⟨zp, a, none⟩))) rfl (by kernel_rfl) (by kernel_rfl) (by kernel_rfl) (fun _ _ _ h => h) (Or.inl ⟨by rfl, fun w' hS => by (try dsimp only at hS); go_simp⟩) trivial ?_
    simp only [Act.put, List.setIfInBounds_toArray, List.set_cons_zero, List.set_cons_succ]
    refine wpAnyH_ready (rs := [11]) (by kernel_rfl) (by simp) ?_
    refine AllReadyH.cons (o := { dst := some 28, op := Op.load 214 (Operand.tmp 27), type := 214, pos := _, after := #[{ on := 10, ground := Ground.data }], guard := none }) rfl (fun K hK => ?_) AllReadyH.nil
    go_simp
    refine hK.out _ _ trivial (fun hB => ?_)
    clear hK K hB
    try simp only [Act.put, List.setIfInBounds_toArray, List.set_cons_zero, List.set_cons_succ]
    refine wpAnyH_ready (rs := [12]) (by kernel_rfl) (by simp) ?_
    refine AllReadyH.cons (o := { dst := some 29, op := Op.call { callee := Callee.value (Operand.func 179), args := #[Operand.tmp 17, Operand.tmp 28], argTypes := #[211, 214] }, type := 0, pos := _, after := #[{ on := 0, ground := Ground.data }, { on := 11, ground := Ground.data }], guard := none }) rfl (fun K hK => ?_) AllReadyH.nil
    go_simp
    refine (do_any zm n F (.slice (some ⟨zp, 0, none⟩) n n) D st a _ HP.out HD.out HA.out hlt HM.out).mono ?_
    rintro e w7 ⟨⟨u, rfl⟩, hm7, hmod7⟩
    have FIN : Hid (Row w7 zm 41 (mc (.slice (some ⟨zp, 0, none⟩) n n) (stepG n F D) (stN n F D st)) ∧ Mod (fun b => b = zm) w w7) := stepFin HA.out hlt' hm7 (HB.out.trans hmod7)
    clear hm7 hmod7
    refine hK.out _ _ trivial (fun hB => ?_)
    clear hK K hB
    try simp only [Act.put, List.setIfInBounds_toArray, List.set_cons_zero, List.set_cons_succ]
    refine wpAnyH_done (by kernel_rfl) ?_ _
    refine NoPanic.normal ?_
    clear HM HB HR q0 q1 q2
    go_wp2
    first | refine bodyPost_end (results_none rfl _ _ _) rfl ?_ | refine bodyPost_ret (results_none rfl _ _ _) rfl ?_
    exact ⟨⟨_, rfl⟩, FIN.out.1, FIN.out.2⟩
theorem stN_iff {n : Nat} {F : Nat → Nat → Int} {D : GD} {st : Nat → Bool} (hp : progOK n F) (hD : D.Good) (i : Nat) : stN n F D st i = true ↔ st i = true ∨ storesG n F D i := by
  unfold stN storesG
  by_cases e : D.at_ < (n : Int) ∧ F D.at_.toNat 0 = 4
  · rw [if_pos e]
    have ha0 := hD.a0
    have hi := hp.i D.at_.toNat (by omega)
    have hq : 0 ≤ F D.at_.toNat 1 := by rcases hi with q | q | q | q <;> omega
    unfold setS
    by_cases h : i = (F D.at_.toNat 1).toNat
    · rw [if_pos h]
      exact ⟨fun _ => Or.inr ⟨e.1, e.2, by omega⟩, fun _ => rfl⟩
    · rw [if_neg h]
      exact ⟨Or.inl, fun g => g.elim id (fun g => absurd (by have := g.2.2; omega) h)⟩
  · rw [if_neg e]
    exact ⟨Or.inl, fun g => g.elim id (fun g => absurd ⟨g.1, g.2.1⟩ e)⟩
set_option maxRecDepth 10000 in
set_option maxHeartbeats 3200000 in
theorem run_any (zm zp n k : Nat) (F : Nat → Nat → Int) (D : GD) (st : Nat → Bool) (w : World) (hk : k ≤ 60) (hp : progOK n F) (hD : D.Good) (hne : zm ≠ zp) (hr : Row w zp n (fun i => iv (F i 0) (F i 1) (F i 2))) (h : Row w zm 41 (mc (.slice (some ⟨zp, 0, none⟩) n n) D st)) :
    Calls Try.prog 174 #[.pointer (some ⟨zm, 0, none⟩), .int .i64 (k : Int)] w fun e w' => e = .returned (.int .i64 (manyG n F k D : Int)) ∧ (∃ su, Row w' zm 41 (mc (.slice (some ⟨zp, 0, none⟩) n n) (runG n F k D) su) ∧ ∀ i, su i = true ↔ (st i = true ∨ tchG n F k D i)) ∧ Mod (fun b => b = zm) w w' := by
  have HP : Hid (progOK n F) := hp
  have HR : Hid (Row w zp n (fun i => iv (F i 0) (F i 1) (F i 2))) := hr
  have HM : Hid (Row w zm 41 (mc (.slice (some ⟨zp, 0, none⟩) n n) D st)) := h
  have HD : Hid D.Good := hD
  clear hp hr h hD
  go_enter Try.func174, Try.ntmps174
  go_wp2_with fail
  go_loopw [5] (fun mv wr => ∃ (j : Nat) (E : GD) (su : Nat → Bool), j ≤ k ∧ mv = .int .i64 j ∧ E.Good ∧ Row wr zm 41 (mc (.slice (some ⟨zp, 0, none⟩) n n) E su) ∧ Mod (fun b => b = zm) w wr ∧ runG n F (k - j) E = runG n F k D ∧ manyG n F (k - j) E + j = manyG n F k D ∧ (∀ i, (su i = true ∨ tchG n F (k - j) E i) ↔ (st i = true ∨ tchG n F k D i))) (fun mv _ => k - (intOf mv).toNat)
  case atStart => exact ⟨0, D, st, by omega, rfl, HD.out, HM.out, Mod.refl _ _, rfl, rfl, fun _ => Iff.rfl⟩
  case round =>
    obtain ⟨j, E, su, hj, rfl, hE, hM, hmod, h1, h2, h3⟩ := hrel
    have HE : Hid E.Good := hE
    have HMR : Hid (Row wr zm 41 (mc (.slice (some ⟨zp, 0, none⟩) n n) E su)) := hM
    have HMM : Hid (Mod (fun b => b = zm) w wr) := hmod
    have HI : Hid (runG n F (k - j) E = runG n F k D ∧ manyG n F (k - j) E + j = manyG n F k D ∧ ∀ i, (su i = true ∨ tchG n F (k - j) E i) ↔ (st i = true ∨ tchG n F k D i)) := ⟨h1, h2, h3⟩
    clear hE hM hmod h1 h2 h3
    have p32 : wr.cell? ⟨zm, 32, none⟩ = some (.bool E.d) := HMR.out.cell (i := 32) (by omega)
    have HFIN : Hid ((k ≤ j ∨ E.d = true) → manyG n F k D = j ∧ Row wr zm 41 (mc (.slice (some ⟨zp, 0, none⟩) n n) (runG n F k D) su) ∧ ∀ i, su i = true ↔ (st i = true ∨ tchG n F k D i)) := fun hh => by
      obtain ⟨g1, g2, g3⟩ := HI.out
      have e : runG n F (k - j) E = E ∧ manyG n F (k - j) E = 0 ∧ ∀ i, ¬ tchG n F (k - j) E i := by
        rcases hh with hh | hh
        · rw [show k - j = 0 by omega]; exact ⟨rfl, rfl, fun i => id⟩
        · exact ⟨(runG_done hh _).1, (runG_done hh _).2, fun i => tchG_done hh _ i⟩
      rw [e.1] at g1
      rw [e.2.1] at g2
      refine ⟨by omega, by rw [← g1]; exact HMR.out, fun i => ?_⟩
      rw [← g3 i]
      exact ⟨Or.inl, fun q => q.elim id (fun q => absurd q (e.2.2 i))⟩
    by_cases hlt : j < k
    · have hlt' : (j : Int) < k := by omega
      cases hd : E.d
      · rw [hd] at p32
        have HDD : Hid (E.d = false) := hd
        clear hd
        go_wp2_with fail
        clear p32
        refine (step_any zm zp n F E su _ HP.out HE.out (HR.out.mod HMM.out (fun e => hne e.symm)) HMR.out).mono ?_
        rintro e w2 ⟨⟨u, rfl⟩, hm2, hmod2⟩
        have HN : Hid ((stepG n F E).Good ∧ Row w2 zm 41 (mc (.slice (some ⟨zp, 0, none⟩) n n) (stepG n F E) (stN n F E su)) ∧ Mod (fun b => b = zm) w w2 ∧ runG n F (k - (j + 1)) (stepG n F E) = runG n F k D ∧ manyG n F (k - (j + 1)) (stepG n F E) + (j + 1) = manyG n F k D ∧ ∀ i, (stN n F E su i = true ∨ tchG n F (k - (j + 1)) (stepG n F E) i) ↔ (st i = true ∨ tchG n F k D i)) := by
          obtain ⟨g1, g2, g3⟩ := HI.out
          have e1 : k - j = (k - (j + 1)) + 1 := by omega
          rw [e1] at g1 g2 g3
          rw [(runG_next HDD.out _).1] at g1
          rw [(runG_next HDD.out _).2] at g2
          refine ⟨stepG_good HP.out HE.out, hm2, HMM.out.trans hmod2, g1, by omega, fun i => ?_⟩
          rw [← g3 i, stN_iff HP.out HE.out]
          show _ ↔ su i = true ∨ (E.d = false ∧ (storesG n F E i ∨ tchG n F (k - (j + 1)) (stepG n F E) i))
          rw [or_assoc]
          exact ⟨fun q => q.imp id (fun q => ⟨HDD.out, q⟩), fun q => q.imp id (fun q => q.2)⟩
        clear hm2 hmod2 HI HFIN HMR HMM HDD
        go_wp2
        go_roundw
        case rel => exact ⟨j + 1, _, _, by omega, by go_num, HN.out.1, HN.out.2.1, HN.out.2.2.1, HN.out.2.2.2.1, HN.out.2.2.2.2.1, HN.out.2.2.2.2.2⟩
        case measure => simp [intOf]; omega
      · rw [hd] at p32
        have HF : Hid (manyG n F k D = j ∧ Row wr zm 41 (mc (.slice (some ⟨zp, 0, none⟩) n n) (runG n F k D) su) ∧ ∀ i, su i = true ↔ (st i = true ∨ tchG n F k D i)) := HFIN.out (Or.inr hd)
        clear hd HI HFIN HMR
        go_wp2
        go_ret
        exact ⟨ret_int (by have := HF.out.1; omega), ⟨su, HF.out.2⟩, HMM.out⟩
    · have HF : Hid (manyG n F k D = j ∧ Row wr zm 41 (mc (.slice (some ⟨zp, 0, none⟩) n n) (runG n F k D) su) ∧ ∀ i, su i = true ↔ (st i = true ∨ tchG n F k D i)) := HFIN.out (Or.inl (by omega))
      have hge : ¬ (j : Int) < k := by omega
      clear HI HFIN HMR p32
      go_wp2
      go_ret
      exact ⟨ret_int (by have := HF.out.1; omega), ⟨su, HF.out.2⟩, HMM.out⟩
end Go.Proofs.Ytbpdopcdhnemfaa
/- Machines: made and run by the program; NewGuest, StepGuest, RunGuest, TouchedBy. -/
namespace Go.Proofs.Ytbpdopcdhnemfaa
open Go.RowKit
set_option linter.unusedSimpArgs false
set_option linter.unusedVariables false
theorem mz_one (i : Nat) : (mz i).oneCell' = true := by
  unfold mz mcf
  split
  · rfl
  · split
    · exact hcf_one _ _ _ _ _ _ _
    · rfl
theorem mc1 (zp n : Nat) (D : GD) (st : Nat → Bool) (i : Nat) : (mc (.slice (some ⟨zp, 0, none⟩) n n) D st i).oneCell' = true := mc_one rfl D st i
set_option maxRecDepth 10000 in
set_option maxHeartbeats 3200000 in
theorem newMachine_any (ao : Option Addr) (cp n : Nat) (F : Nat → Nat → Int) (v : GV) (D : GD) (X Y : Nat → Prop) (w : World) (hF : KAt 3 X w ao n F) (h : GAt Y w v D) (hY : ∀ b, Y b → b < w.heap.size) :
    Calls Try.prog 124 #[.slice ao n cp, v.val D] w fun e w' => ((∃ zp, progOK n F ∧ D.Good ∧ e = .returned (.tuple #[.agg (lst 41 (mc (.slice (some ⟨zp, 0, none⟩) n n) D fF)).toArray, .bool true]) ∧ Row w' zp n (fun i => iv (F i 0) (F i 1) (F i 2))) ∨ (¬ (progOK n F ∧ D.Good) ∧ e = .returned (.tuple #[.agg (lst 41 mz).toArray, .bool false]))) ∧ Blw w w' := by
  have HB : Hid (Blw w (w.alloc (.cells #[.int .i64 D.at_, .int .i64 D.acc, .slice v.a1 D.nc v.c1, .slice v.a2 D.nt v.c2, .bool D.d] 61))) := (Blw.refl _).alloc _
  have R0 : Hid (Row (w.alloc (.cells #[.int .i64 D.at_, .int .i64 D.acc, .slice v.a1 D.nc v.c1, .slice v.a2 D.nt v.c2, .bool D.d] 61)) w.heap.size 5 (gb v D)) := row5 w _ _ _ _ _ 61
  have HW : Hid (GAt Y w v D ∧ KAt 3 X w ao n F) := ⟨h, hF⟩
  have HYY : Hid (∀ b, Y b → b < w.heap.size) := hY
  clear h hF hY
  go_enter Try.func124, Try.ntmps124
  go_upto_region 1 with (first | (refine alloc_big rfl 151 rfl 41 mz zeroM ?_; intro w1 RZ hb1 hz1) | fail)
  rw [World.size_alloc] at RZ hz1
  have HZ : Hid (Row w1 (w.heap.size + 1) 41 mz) := RZ
  replace R0 : Hid (Row w1 w.heap.size 5 (gb v D)) := R0.out.blw hb1
  replace HB : Hid (Blw w w1) := HB.out.trans hb1
  have HS1 : Hid (w1.heap.size = w.heap.size + 1 + 1) := hz1
  clear RZ hb1 hz1
  try simp only [World.size_alloc]
  go_wp2_with fail
  refine (holdProgram_any ao cp n F X _ (HW.out.2.blw HB.out)).mono ?_
  rintro e w2 ⟨⟨zp, hp, rfl, hpr, hzp⟩ | ⟨hp, rfl⟩, hb⟩
  case inr =>
    have HN : Hid (¬ (progOK n F ∧ D.Good)) := fun g => hp g.1
    have HRZ := HZ.out.blw hb
    replace HB : Hid (Blw w w2) := HB.out.trans hb
    clear hp hb R0 HW HYY HZ
    go_wp2_with (first | (refine wpList_buildTo rfl 151 _ rfl _ rfl (lst 41 mz).toArray (by kernel_rfl) ?_) | (refine store_big rfl 151 _ _ rfl (w.heap.size + 1) 41 mz mz rfl rfl wdM HRZ (fun i _ => mz_one i) ?_; intro wz RZ9 hm9 hs9) | fail)
    have HF9 : Hid (Row wz (w.heap.size + 1) 41 mz ∧ Blw w wz) := ⟨RZ9, Mod.blw HB.out hm9 (fun i hi => by omega)⟩
    refine bodyPost_ret (v := .tuple #[.agg (lst 41 mz).toArray, .bool false]) (by rw [results_cell_tmp rfl]; simp [asAddr, Result.andThen, run_load_big wdM HF9.out.1.cells]) rfl ⟨Or.inr ⟨HN.out, rfl⟩, HF9.out.2⟩
  have HP : Hid (progOK n F) := hp
  have HPR : Hid (Row w2 zp n (fun i => iv (F i 0) (F i 1) (F i 2)) ∧ w.heap.size + 1 + 1 ≤ zp) := ⟨hpr, by have := HS1.out; omega⟩
  replace HZ : Hid (Row w2 (w.heap.size + 1) 41 mz) := HZ.out.blw hb
  replace R0 : Hid (Row w2 w.heap.size 5 (gb v D)) := R0.out.blw hb
  replace HB : Hid (Blw w w2) := HB.out.trans hb
  have HS2 : Hid (w.heap.size + 1 + 1 ≤ w2.heap.size) := by have := hb.size; have := HS1.out; show _ ≤ _; omega
  clear hp hpr hzp hb HS1
  obtain ⟨p0, p1, p2, p3, p4⟩ := get5 R0.out
  go_wp2_with fail
  clear p0 p1 p2 p3 p4
  have hyy : ∀ b, Y b → b < w2.heap.size := fun b hb => Nat.lt_of_lt_of_le (HYY.out b hb) HB.out.size
  refine (holdGuest_any v D Y _ (HW.out.1.blw HB.out) hyy).mono ?_
  rintro e w3 ⟨⟨hg, rfl⟩ | ⟨hg, rfl⟩, hb⟩
  case inr =>
    have HN : Hid (¬ (progOK n F ∧ D.Good)) := fun g => hg g.2
    replace HZ : Hid (Row w3 (w.heap.size + 1) 41 mz) := HZ.out.blw hb
    replace HB : Hid (Blw w w3) := HB.out.trans hb
    have HS3 : Hid (w.heap.size + 1 + 1 ≤ w3.heap.size) := Nat.le_trans HS2.out hb.size
    clear hg hb R0 HW HYY hyy HPR
    go_upto_region 5 with (first | (refine alloc_big rfl 148 rfl 32 hz zeroH ?_; intro wa RA hba hsa) | (refine store_big rfl 148 _ _ rfl _ 32 hz hz rfl rfl wdH RA (fun i _ => hcf_one _ _ _ _ _ _ i) ?_; intro wb RB hmb hsb) | fail)
    have hs3 := HS3.out
    have HRZ : Row wb (w.heap.size + 1) 41 mz := (HZ.out.blw hba).mod hmb (by omega)
    replace HB : Hid (Blw w wb) := Mod.blw (HB.out.trans hba) hmb (fun i hi => by omega)
    clear HZ RA hba hsa RB hmb hsb hs3
    go_wp2_with (first | (refine wpList_buildTo rfl 151 _ rfl _ rfl (lst 41 mz).toArray (by kernel_rfl) ?_) | (refine store_big rfl 151 _ _ rfl (w.heap.size + 1) 41 mz mz rfl rfl wdM HRZ (fun i _ => mz_one i) ?_; intro wz RZ9 hm9 hs9) | fail)
    have HF9 : Hid (Row wz (w.heap.size + 1) 41 mz ∧ Blw w wz) := ⟨RZ9, Mod.blw HB.out hm9 (fun i hi => by omega)⟩
    refine bodyPost_ret (v := .tuple #[.agg (lst 41 mz).toArray, .bool false]) (by rw [results_cell_tmp rfl]; simp [asAddr, Result.andThen, run_load_big wdM HF9.out.1.cells]) rfl ⟨Or.inr ⟨HN.out, rfl⟩, HF9.out.2⟩
  have HG : Hid D.Good := hg
  replace HZ : Hid (Row w3 (w.heap.size + 1) 41 mz) := HZ.out.blw hb
  replace HB : Hid (Blw w w3) := HB.out.trans hb
  have HS3 : Hid (w.heap.size + 1 + 1 ≤ w3.heap.size) := Nat.le_trans HS2.out hb.size
  replace HPR : Hid (Row w3 zp n (fun i => iv (F i 0) (F i 1) (F i 2)) ∧ w.heap.size + 1 + 1 ≤ zp) := ⟨HPR.out.1.blw hb, HPR.out.2⟩
  clear hg hb R0 HW HYY hyy
  go_upto_region 5 with (first | (refine alloc_big rfl 148 rfl 32 hz zeroH ?_; intro wa RA hba hsa) | (refine store_big rfl 148 _ _ rfl _ 32 (hc D) hz rfl rfl wdH RA (fun i _ => hc_one _ i) ?_; intro wb RB hmb hsb) | fail)
  have hs3 := HS3.out
  have HRZ : Row wb (w.heap.size + 1) 41 mz := (HZ.out.blw hba).mod hmb (by omega)
  have HPR2 : Hid (Row wb zp n (fun i => iv (F i 0) (F i 1) (F i 2)) ∧ w.heap.size + 1 + 1 ≤ zp) := ⟨(HPR.out.1.blw hba).mod hmb (by have := HPR.out.1.lt; omega), HPR.out.2⟩
  replace HB : Hid (Blw w wb) := Mod.blw (HB.out.trans hba) hmb (fun i hi => by omega)
  have hcl := RB.cells
  clear HZ RA hba hsa RB hmb hsb hs3 HPR HS3 HS2
  generalize w3.heap.size = zh at *
  go_wp2_with (first | (refine load_big rfl 148 _ rfl _ _ 32 rfl (hc D) wdH hcl ?_) | (refine wpList_buildTo rfl 151 _ rfl _ rfl (lst 41 (mc (.slice (some ⟨zp, 0, none⟩) n n) D fF)).toArray (by kernel_rfl) ?_) | (refine store_big rfl 151 _ _ rfl (w.heap.size + 1) 41 (mc (.slice (some ⟨zp, 0, none⟩) n n) D fF) mz rfl rfl wdM HRZ (fun i _ => mc1 zp n D fF i) ?_; intro wz RZ9 hm9 hs9) | fail)
  have HF9 : Hid (Row wz (w.heap.size + 1) 41 (mc (.slice (some ⟨zp, 0, none⟩) n n) D fF) ∧ Blw w wz ∧ Row wz zp n (fun i => iv (F i 0) (F i 1) (F i 2))) := ⟨RZ9, Mod.blw HB.out hm9 (fun i hi => by omega), HPR2.out.1.mod hm9 (by have := HPR2.out.2; omega)⟩
  refine bodyPost_ret (v := .tuple #[.agg (lst 41 (mc (.slice (some ⟨zp, 0, none⟩) n n) D fF)).toArray, .bool true]) (by rw [results_cell_tmp rfl]; simp [asAddr, Result.andThen, run_load_big wdM HF9.out.1.cells]) rfl ⟨Or.inl ⟨zp, HP.out, HG.out, rfl, HF9.out.2.2⟩, HF9.out.2.1⟩
theorem results_cell3 {fn : Func} {p a b : Tmp} {ty : TypeId} (h : fn.results = #[.cell p ty, .tmp a, .tmp b]) (tmps : Array Value) (P : Program) (w : World) :
    (results fn tmps).run P w = ((asAddr (tmps.getD p undef)).run P w).andThen fun x w₁ => ((loadVar ty x).run P w₁).andThen fun v w₂ => .ok (.tuple #[v, tmps.getD a undef, tmps.getD b undef]) w₂ := by
  simp only [results, h]
  simp [Sem.run_bind, Result.andThen]
set_option maxRecDepth 10000 in
set_option maxHeartbeats 3200000 in
theorem runMachine_any (ao : Option Addr) (cp n : Nat) (F : Nat → Nat → Int) (v : GV) (D : GD) (k : Int) (X Y : Nat → Prop) (w : World) (hF : KAt 3 X w ao n F) (h : GAt Y w v D) (hY : ∀ b, Y b → b < w.heap.size) :
    Calls Try.prog 114 #[.slice ao n cp, v.val D, .int .i64 k] w fun e w' => ((∃ zp su, (progOK n F ∧ D.Good ∧ stepsOK k) ∧ e = .returned (.tuple #[.agg (lst 41 (mc (.slice (some ⟨zp, 0, none⟩) n n) (runG n F k.toNat D) su)).toArray, .int .i64 (manyG n F k.toNat D : Int), .bool true]) ∧ (∀ i, su i = true ↔ tchG n F k.toNat D i)) ∨ (¬ (progOK n F ∧ D.Good ∧ stepsOK k) ∧ e = .returned (.tuple #[.agg (lst 41 mz).toArray, .int .i64 0, .bool false]))) ∧ Blw w w' := by
  have HB : Hid (Blw w (w.alloc (.cells #[.int .i64 D.at_, .int .i64 D.acc, .slice v.a1 D.nc v.c1, .slice v.a2 D.nt v.c2, .bool D.d] 61))) := (Blw.refl _).alloc _
  have R0 : Hid (Row (w.alloc (.cells #[.int .i64 D.at_, .int .i64 D.acc, .slice v.a1 D.nc v.c1, .slice v.a2 D.nt v.c2, .bool D.d] 61)) w.heap.size 5 (gb v D)) := row5 w _ _ _ _ _ 61
  have HW : Hid (GAt Y w v D ∧ KAt 3 X w ao n F) := ⟨h, hF⟩
  have HYY : Hid (∀ b, Y b → b < w.heap.size) := hY
  clear h hF hY
  go_enter Try.func114, Try.ntmps114
  go_upto_region 1 with (first | (refine alloc_big rfl 151 rfl 41 mz zeroM ?_; intro w1 RZ hb1 hz1) | fail)
  rw [World.size_alloc] at RZ hz1
  have HZ : Hid (Row w1 (w.heap.size + 1) 41 mz) := RZ
  replace R0 : Hid (Row w1 w.heap.size 5 (gb v D)) := R0.out.blw hb1
  replace HB : Hid (Blw w w1) := HB.out.trans hb1
  have HS1 : Hid (w1.heap.size = w.heap.size + 1 + 1) := hz1
  clear RZ hb1 hz1
  try simp only [World.size_alloc]
  obtain ⟨p0, p1, p2, p3, p4⟩ := get5 R0.out
  go_wp2_with fail
  clear p0 p1 p2 p3 p4
  have hyy : ∀ b, Y b → b < w1.heap.size := fun b hb => Nat.lt_of_lt_of_le (HYY.out b hb) HB.out.size
  refine (newMachine_any ao cp n F v D X Y _ (HW.out.2.blw HB.out) (HW.out.1.blw HB.out) hyy).mono ?_
  rintro e w2 ⟨⟨zp, hp, hg, rfl, hpr⟩ | ⟨hp, rfl⟩, hb⟩
  case inr =>
    have HN : Hid (¬ (progOK n F ∧ D.Good ∧ stepsOK k)) := fun g => hp ⟨g.1, g.2.1⟩
    have HS3 : Hid (w.heap.size + 1 + 1 ≤ w2.heap.size) := by have := hb.size; have := HS1.out; show _ ≤ _; omega
    replace HZ : Hid (Row w2 (w.heap.size + 1) 41 mz) := HZ.out.blw hb
    replace HB : Hid (Blw w w2) := HB.out.trans hb
    clear hp hb R0 HW HYY hyy HS1
    go_upto_region 2 with (first | (refine alloc_big rfl 151 rfl 41 mz zeroM ?_; intro wa RA hba hsa) | (refine store_big rfl 151 _ _ rfl _ 41 mz mz rfl rfl wdM RA (fun i _ => mz_one i) ?_; intro wb RB hmb hsb) | fail)
    have hs3 := HS3.out
    have HRZ : Row wb (w.heap.size + 1) 41 mz := (HZ.out.blw hba).mod hmb (by omega)
    replace HB : Hid (Blw w wb) := Mod.blw (HB.out.trans hba) hmb (fun i hi => by omega)
    clear HZ RA hba hsa RB hmb hsb hs3
    go_wp2_with (first | (refine wpList_buildTo rfl 151 _ rfl _ rfl (lst 41 mz).toArray (by kernel_rfl) ?_) | (refine store_big rfl 151 _ _ rfl (w.heap.size + 1) 41 mz mz rfl rfl wdM HRZ (fun i _ => mz_one i) ?_; intro wz RZ9 hm9 hs9) | fail)
    have HF9 : Hid (Row wz (w.heap.size + 1) 41 mz ∧ Blw w wz) := ⟨RZ9, Mod.blw HB.out hm9 (fun i hi => by omega)⟩
    refine bodyPost_ret (v := .tuple #[.agg (lst 41 mz).toArray, .int .i64 0, .bool false]) (by rw [results_cell3 rfl]; simp [asAddr, Result.andThen, run_load_big wdM HF9.out.1.cells]) rfl ⟨Or.inr ⟨HN.out, rfl⟩, HF9.out.2⟩
  have HPG : Hid (progOK n F ∧ D.Good) := ⟨hp, hg⟩
  have HS3 : Hid (w.heap.size + 1 + 1 ≤ w2.heap.size ∧ zp < w2.heap.size) := ⟨by have := hb.size; have := HS1.out; omega, hpr.lt⟩
  replace HZ : Hid (Row w2 (w.heap.size + 1) 41 mz) := HZ.out.blw hb
  replace HB : Hid (Blw w w2) := HB.out.trans hb
  have HPR : Hid (Row w2 zp n (fun i => iv (F i 0) (F i 1) (F i 2))) := hpr
  clear hp hg hb hpr R0 HW HYY hyy HS1
  go_upto_region 2 with (first | (refine alloc_big rfl 151 rfl 41 mz zeroM ?_; intro wa RA hba hsa) | (refine store_big rfl 151 _ _ rfl _ 41 (mc (.slice (some ⟨zp, 0, none⟩) n n) D fF) mz rfl rfl wdM RA (fun i _ => mc1 zp n D fF i) ?_; intro wb RB hmb hsb) | fail)
  have hs3 := HS3.out
  have HRZ : Hid (Row wb (w.heap.size + 1) 41 mz) := (HZ.out.blw hba).mod hmb (by omega)
  have HM : Hid (Row wb w2.heap.size 41 (mc (.slice (some ⟨zp, 0, none⟩) n n) D fF)) := RB
  replace HPR : Hid (Row wb zp n (fun i => iv (F i 0) (F i 1) (F i 2))) := (HPR.out.blw hba).mod hmb (by omega)
  replace HB : Hid (Blw w wb) := Mod.blw (HB.out.trans hba) hmb (fun i hi => by omega)
  have HNE : Hid (w2.heap.size ≠ zp ∧ w.heap.size + 1 + 1 ≤ w2.heap.size) := ⟨by omega, hs3.1⟩
  clear HZ RA hba hsa RB hmb hsb hs3 HS3
  generalize w2.heap.size = zm at *
  go_wp2_with fail
  refine (isSteps_any k _).mono ?_
  rintro e wb ⟨r, rfl, hr, rfl⟩
  have H1 : Hid (r = true ↔ stepsOK k) := hr
  clear hr
  cases r
  · have HN : Hid (¬ (progOK n F ∧ D.Good ∧ stepsOK k)) := fun g => by have := H1.out.2 g.2.2; cases this
    have HRZ' := HRZ.out
    clear HPR HM HNE HPG
    go_wp2_with (first | (refine wpList_buildTo rfl 151 _ rfl _ rfl (lst 41 mz).toArray (by kernel_rfl) ?_) | (refine store_big rfl 151 _ _ rfl (w.heap.size + 1) 41 mz mz rfl rfl wdM HRZ' (fun i _ => mz_one i) ?_; intro wz RZ9 hm9 hs9) | fail)
    have HF9 : Hid (Row wz (w.heap.size + 1) 41 mz ∧ Blw w wz) := ⟨RZ9, Mod.blw HB.out hm9 (fun i hi => by omega)⟩
    refine bodyPost_ret (v := .tuple #[.agg (lst 41 mz).toArray, .int .i64 0, .bool false]) (by rw [results_cell3 rfl]; simp [asAddr, Result.andThen, run_load_big wdM HF9.out.1.cells]) rfl ⟨Or.inr ⟨HN.out, rfl⟩, HF9.out.2⟩
  have HS : Hid (stepsOK k) := H1.out.1 (by first | rfl | trivial)
  obtain ⟨kn, hkn⟩ : ∃ m : Nat, k = m := ⟨k.toNat, by have := HS.out.1; omega⟩
  subst hkn
  have hk60 : kn ≤ 60 := by have := HS.out.2; omega
  clear H1
  go_wp2_with fail
  refine (run_any zm zp n kn F D fF _ hk60 HPG.out.1 HPG.out.2 HNE.out.1 HPR.out HM.out).mono ?_
  rintro e w4 ⟨rfl, ⟨su, hm4, hsu⟩, hmod4⟩
  have hne := HNE.out
  have HSU : Hid (∀ i, su i = true ↔ tchG n F kn D i) := fun i => by rw [hsu i]; simp [fF]
  have HRZ4 : Row w4 (w.heap.size + 1) 41 mz := HRZ.out.mod hmod4 (by omega)
  replace HB : Hid (Blw w w4) := Mod.blw HB.out hmod4 (fun i hi => by omega)
  have hcl := hm4.cells
  clear HRZ HM HPR hm4 hsu hmod4 hne HNE
  go_wp2_with (first | (refine load_big rfl 151 _ rfl _ _ 41 rfl (mc (.slice (some ⟨zp, 0, none⟩) n n) (runG n F kn D) su) wdM hcl ?_) | (refine store_big rfl 151 _ _ rfl (w.heap.size + 1) 41 (mc (.slice (some ⟨zp, 0, none⟩) n n) (runG n F kn D) su) mz rfl rfl wdM HRZ4 (fun i _ => mc1 zp n _ su i) ?_; intro wz RZ9 hm9 hs9) | fail)
  have HF9 : Hid (Row wz (w.heap.size + 1) 41 (mc (.slice (some ⟨zp, 0, none⟩) n n) (runG n F kn D) su) ∧ Blw w wz) := ⟨RZ9, Mod.blw HB.out hm9 (fun i hi => by omega)⟩
  refine bodyPost_ret (v := .tuple #[.agg (lst 41 (mc (.slice (some ⟨zp, 0, none⟩) n n) (runG n F kn D) su)).toArray, .int .i64 (manyG n F kn D : Int), .bool true]) (by rw [results_cell3 rfl]; simp [asAddr, Result.andThen, run_load_big wdM HF9.out.1.cells]) rfl ⟨Or.inl ⟨zp, su, ⟨HPG.out.1, HPG.out.2, HS.out⟩, by simp, by simpa using HSU.out⟩, HF9.out.2⟩
end Go.Proofs.Ytbpdopcdhnemfaa
/- What stands in a law on tables. -/
namespace Go.Proofs.Ytbpdopcdhnemfaa
open Go.RowKit
set_option linter.unusedSimpArgs false
set_option linter.unusedVariables false
/-- A book in its own box at z, all in blocks of X. -/
structure BB (X : Nat → Prop) (z : Nat) (b : BV) (B B' : BD) (w : World) : Prop where
  own : BookOwn (fun x => X x ∧ x ≠ z) w b B'
  box : Row w z 2 (fun i => if i = 0 then .slice b.a1 B.n b.c1 else .slice b.a2 B.D.n b.c2)
theorem BB.st {X : Nat → Prop} {z : Nat} {b : BV} {B B' : BD} {w : World} (h : BB X z b B B' w) (hz : X z) (hX : ∀ b, X b → b < w.heap.size) : St X (BB X z b B B') w :=
  ⟨hX, fun Z w' hm hx => ⟨h.own.mod hm (fun b hb => hx b hb.1), h.box.mod hm (hx z hz)⟩⟩
/-- The argument of a law on a book: it, and its box at z. -/
structure ArgB (n z : Nat) (b : BV) (B : BD) (w : World) : Prop where
  at_ : BookAt (fun x => x < n) w b B
  box : Row w z 2 (fun i => if i = 0 then .slice b.a1 B.n b.c1 else .slice b.a2 B.D.n b.c2)
theorem ArgB.st {n z a : Nat} {b : BV} {B : BD} {w : World} (h : ArgB n z b B w) (hn : n ≤ a) (hz : z < a) (ha : a ≤ w.heap.size) : St (fun x => x < a) (ArgB n z b B) w :=
  ⟨fun x hx => by omega, fun Z w' hm hx => ⟨h.at_.mod hm (fun b hb => hx b (by omega)), h.box.mod hm (hx z hz)⟩⟩
/-- What answers a book and a bool. -/
def GivesB (out : BD → Bool → Prop) (w : World) : Ending → World → Prop := fun e w' =>
  ∃ (b : BV) (R : BD) (r : Bool), e = .returned (.tuple #[b.val R, .bool r]) ∧ out R r ∧ R.n + (R.D.n + R.D.tot) ≤ 1048576 ∧ BookOwn (fun x => w.heap.size ≤ x ∧ x < w'.heap.size) w' b R ∧ Blw w w'
def GivesI (out : Nat → (Nat → Int) → Bool → Prop) (w : World) : Ending → World → Prop := fun e w' =>
  ∃ (ao : Option Addr) (n c : Nat) (f : Nat → Int) (r : Bool), e = .returned (.tuple #[.slice ao n c, .bool r]) ∧ out n f r ∧ n ≤ 1048576 ∧ IntsOwn (fun x => w.heap.size ≤ x ∧ x < w'.heap.size) w' ao n f ∧ Blw w w'
/-- A boxed answer. -/
theorem boxed {w W : World} {b : BV} {R : BD} (hb : Blw w W) (own : BookOwn (fun x => w.heap.size ≤ x ∧ x < W.heap.size) W b R) {lo : Nat} (hlo : lo ≤ w.heap.size) :
    BB (fun x => lo ≤ x ∧ x < W.heap.size + 1) W.heap.size b R R (W.alloc (.cells #[.slice b.a1 R.n b.c1, .slice b.a2 R.D.n b.c2] 29)) :=
  ⟨(own.blw ((Blw.refl _).alloc _)).mono (fun x hx => ⟨⟨by omega, by omega⟩, by omega⟩), box2 W _ _ 29⟩
end Go.Proofs.Ytbpdopcdhnemfaa
/- Arrays of leaves held against the empty one. -/
namespace Go.Proofs.Ytbpdopcdhnemfaa
open Go.RowKit
set_option linter.unusedSimpArgs false
set_option linter.unusedVariables false
theorem part73 (w : World) (f g : Nat → Int) (i : Nat) (hi : i < 4) : (part 189 (eight f g) (i * 2)).run Try.prog w = .ok (.agg #[.int .i64 (f i), .int .i64 (g i)]) w := by
  match i, hi with
  | 0, _ => exact (show (part 189 (eight f g) 0).run Try.prog w = .ok (.agg #[.int .i64 (f 0), .int .i64 (g 0)]) w by kernel_rfl)
  | 1, _ => exact (show (part 189 (eight f g) 2).run Try.prog w = .ok (.agg #[.int .i64 (f 1), .int .i64 (g 1)]) w by kernel_rfl)
  | 2, _ => exact (show (part 189 (eight f g) 4).run Try.prog w = .ok (.agg #[.int .i64 (f 2), .int .i64 (g 2)]) w by kernel_rfl)
  | 3, _ => exact (show (part 189 (eight f g) 6).run Try.prog w = .ok (.agg #[.int .i64 (f 3), .int .i64 (g 3)]) w by kernel_rfl)
theorem size73 (w : World) : (sizeOf 189).run Try.prog w = .ok 2 w := by kernel_rfl
theorem pairEq (d : Nat) (a b a' b' : Int) (w : World) : (Op.equalIn (d + 2) 189 (.agg #[.int .i64 a, .int .i64 b]) (.agg #[.int .i64 a', .int .i64 b'])).run Try.prog w = .ok ((a == a') && (b == b')) w := by
  have u : Try.prog.underlying 189 = some (.struct (Try.prog.fieldsOf 189)) := by kernel_rfl
  have hp : Try.prog.stoodInHeld 189 = false := by kernel_rfl
  have hf : (Try.prog.fieldsOf 189).map (fun f => (f.name, f.type, f.offset)) = #[("Page", 3, 0), ("May", 3, 1)] := by kernel_rfl
  have p0 : ∀ w, (part 3 #[Value.int .i64 a, .int .i64 b] 0).run Try.prog w = .ok (.int .i64 a) w := fun w => by kernel_rfl
  have p1 : ∀ w, (part 3 #[Value.int .i64 a, .int .i64 b] 1).run Try.prog w = .ok (.int .i64 b) w := fun w => by kernel_rfl
  have q0 : ∀ w, (part 3 #[Value.int .i64 a', .int .i64 b'] 0).run Try.prog w = .ok (.int .i64 a') w := fun w => by kernel_rfl
  have q1 : ∀ w, (part 3 #[Value.int .i64 a', .int .i64 b'] 1).run Try.prog w = .ok (.int .i64 b') w := fun w => by kernel_rfl
  have H : ∀ x y w, (Op.equalIn (d + 1) 3 (.int .i64 x) (.int .i64 y)).run Try.prog w = .ok (x == y) w := fun x y w => run_equalIn_int w d 3 .i64 .i64 x y Try.underlying3
  by_cases h0 : a = a' <;> by_cases h1 : b = b' <;> simp [go_sem, h0, h1]
set_option maxHeartbeats 3200000 in
theorem eqArr8 (d : Nat) (f g f' g' : Nat → Int) (w : World) (H : ∀ a b a' b' w, (Op.equalIn d 189 (.agg #[.int .i64 a, .int .i64 b]) (.agg #[.int .i64 a', .int .i64 b'])).run Try.prog w = .ok ((a == a') && (b == b')) w) :
    (Op.equalIn (d + 1) 202 (.agg (eight f g)) (.agg (eight f' g'))).run Try.prog w = .ok (((f 0 == f' 0) && (g 0 == g' 0)) && (((f 1 == f' 1) && (g 1 == g' 1)) && (((f 2 == f' 2) && (g 2 == g' 2)) && ((f 3 == f' 3) && (g 3 == g' 3))))) w := by
  have p0 : ∀ w, (part 189 (eight f g) 0).run Try.prog w = .ok (.agg #[.int .i64 (f 0), .int .i64 (g 0)]) w := fun w => part73 w f g 0 (by omega)
  have q0 : ∀ w, (part 189 (eight f' g') 0).run Try.prog w = .ok (.agg #[.int .i64 (f' 0), .int .i64 (g' 0)]) w := fun w => part73 w f' g' 0 (by omega)
  have p1 : ∀ w, (part 189 (eight f g) 2).run Try.prog w = .ok (.agg #[.int .i64 (f 1), .int .i64 (g 1)]) w := fun w => part73 w f g 1 (by omega)
  have q1 : ∀ w, (part 189 (eight f' g') 2).run Try.prog w = .ok (.agg #[.int .i64 (f' 1), .int .i64 (g' 1)]) w := fun w => part73 w f' g' 1 (by omega)
  have p2 : ∀ w, (part 189 (eight f g) 4).run Try.prog w = .ok (.agg #[.int .i64 (f 2), .int .i64 (g 2)]) w := fun w => part73 w f g 2 (by omega)
  have q2 : ∀ w, (part 189 (eight f' g') 4).run Try.prog w = .ok (.agg #[.int .i64 (f' 2), .int .i64 (g' 2)]) w := fun w => part73 w f' g' 2 (by omega)
  have p3 : ∀ w, (part 189 (eight f g) 6).run Try.prog w = .ok (.agg #[.int .i64 (f 3), .int .i64 (g 3)]) w := fun w => part73 w f g 3 (by omega)
  have q3 : ∀ w, (part 189 (eight f' g') 6).run Try.prog w = .ok (.agg #[.int .i64 (f' 3), .int .i64 (g' 3)]) w := fun w => part73 w f' g' 3 (by omega)
  generalize eight f g = xs at *
  generalize eight f' g' = ys at *
  simp only [Op.equalIn, Sem.run_bind, run_underlying Try.underlying202, Result.andThen_ok, size73]
  generalize h0 : ((f 0 == f' 0) && (g 0 == g' 0)) = b0 at *
  generalize h1 : ((f 1 == f' 1) && (g 1 == g' 1)) = b1 at *
  generalize h2 : ((f 2 == f' 2) && (g 2 == g' 2)) = b2 at *
  generalize h3 : ((f 3 == f' 3) && (g 3 == g' 3)) = b3 at *
  have e0 := fun w => H (f 0) (g 0) (f' 0) (g' 0) w
  have e1 := fun w => H (f 1) (g 1) (f' 1) (g' 1) w
  have e2 := fun w => H (f 2) (g 2) (f' 2) (g' 2) w
  have e3 := fun w => H (f 3) (g 3) (f' 3) (g' 3) w
  rw [h0] at e0
  rw [h1] at e1
  rw [h2] at e2
  rw [h3] at e3
  clear H h0 h1 h2 h3
  cases b0 <;> cases b1 <;> cases b2 <;> cases b3 <;> simp [Sem.run_bind, p0, p1, p2, p3, q0, q1, q2, q3, e0, e1, e2, e3, List.range']
theorem neq8_same (f g : Nat → Int) (h : isZero8 f g) (w : World) : (binOp .neq 202 (.agg (eight f g)) (.agg (eight zf zf))).run Try.prog w = .ok (.bool false) w := by
  rw [run_neq_struct, eqArr8 9999 f g zf zf w (fun a b a' b' w => pairEq 9997 a b a' b' w), (h 0 (by omega)).1, (h 0 (by omega)).2, (h 1 (by omega)).1, (h 1 (by omega)).2, (h 2 (by omega)).1, (h 2 (by omega)).2, (h 3 (by omega)).1, (h 3 (by omega)).2]
  rfl
theorem neq8_other (f g : Nat → Int) (h : ¬ isZero8 f g) (w : World) : (binOp .neq 202 (.agg (eight f g)) (.agg (eight zf zf))).run Try.prog w = .ok (.bool true) w := by
  rw [run_neq_struct, eqArr8 9999 f g zf zf w (fun a b a' b' w => pairEq 9997 a b a' b' w)]
  have : (((f 0 == zf 0) && (g 0 == zf 0)) && (((f 1 == zf 1) && (g 1 == zf 1)) && (((f 2 == zf 2) && (g 2 == zf 2)) && ((f 3 == zf 3) && (g 3 == zf 3))))) = false := by
    rw [Bool.eq_false_iff]
    intro hh
    simp at hh
    refine h fun j hj => ?_
    match j, hj with
    | 0, _ => exact hh.1
    | 1, _ => exact hh.2.1
    | 2, _ => exact hh.2.2.1
    | 3, _ => exact hh.2.2.2
  rw [this]
  rfl
end Go.Proofs.Ytbpdopcdhnemfaa
/- The program's tables, held as values. -/
namespace Go.Proofs.Ytbpdopcdhnemfaa
open Go.RowKit
set_option linter.unusedSimpArgs false
set_option linter.unusedVariables false
theorem standWell_any (c : Nat → Int) (zl kn : Nat) (p m : Nat → Nat → Int) (w : World) (hkn : kn ≤ 4) (h : Row w zl (kn * 8) (lc p m)) :
    Calls Try.prog 168 #[.agg (held5 c zl kn)] w fun e w' => ∃ r, e = .returned (.bool r) ∧ (r = true ↔ swOK c kn p m) ∧ Blw w w' := standWell_of (fun f g h w => neq8_same f g h w) (fun f g h w => neq8_other f g h w) c zl kn p m w hkn h
theorem tinfo101 : (Try.prog.info? 202).map (fun i => (i.zero, i.size, i.bytes)) = some (some (.agg #[.int .i64 0, .int .i64 0, .int .i64 0, .int .i64 0, .int .i64 0, .int .i64 0, .int .i64 0, .int .i64 0]), 8, 64) := by kernel_rfl
theorem mk8 (n : Nat) (hn : n ≤ 4) (w : World) : (Instr.makeSlice 134 (.int .i64 n) (.int .i64 n)).run Try.prog w = .ok (.slice (some ⟨w.heap.size, 0, none⟩) n n) (w.alloc (.cells (madeCells #[.int .i64 0, .int .i64 0, .int .i64 0, .int .i64 0, .int .i64 0, .int .i64 0, .int .i64 0, .int .i64 0] (n * 8)) 202)) := by
  obtain ⟨i0, hi, hz0, hz1, hz2⟩ := info_parts tinfo101
  have h := run_make (P := Try.prog) w 134 202 i0 (.agg #[.int .i64 0, .int .i64 0, .int .i64 0, .int .i64 0, .int .i64 0, .int .i64 0, .int .i64 0, .int .i64 0]) Try.underlying134 hi hz0 .i64 .i64 (n : Int) (n : Int) (by omega) (Int.le_refl _) (by rw [hz2]; omega) (by omega)
  simpa [hz1, Value.cells] using h
theorem Row.made8 (w : World) (z : Value) (n : Nat) (t : TypeId) : Row (w.alloc (.cells (madeCells #[z, z, z, z, z, z, z, z] n) t)) w.heap.size n (fun _ => z) := by
  refine ⟨_, t, heap_alloc_new _ _, by simp [madeCells], fun i hi => ?_⟩
  have h2 : i % 8 = 0 ∨ i % 8 = 1 ∨ i % 8 = 2 ∨ i % 8 = 3 ∨ i % 8 = 4 ∨ i % 8 = 5 ∨ i % 8 = 6 ∨ i % 8 = 7 := by omega
  rcases h2 with h2 | h2 | h2 | h2 | h2 | h2 | h2 | h2 <;> simp [madeCells, hi, h2]
def upTo (j : Nat) (p : Nat → Nat → Int) : Nat → Nat → Int := fun k t => if k < j then p k t else 0
abbrev set8 (w : World) (z o : Nat) (f g : Nat → Int) : World := (((((((w.setCell ⟨z, o, none⟩ (.int .i64 (f 0))).setCell ⟨z, o + 1, none⟩ (.int .i64 (g 0))).setCell ⟨z, o + 2, none⟩ (.int .i64 (f 1))).setCell ⟨z, o + 3, none⟩ (.int .i64 (g 1))).setCell ⟨z, o + 4, none⟩ (.int .i64 (f 2))).setCell ⟨z, o + 5, none⟩ (.int .i64 (g 2))).setCell ⟨z, o + 6, none⟩ (.int .i64 (f 3))).setCell ⟨z, o + 7, none⟩ (.int .i64 (g 3))
theorem set8_mod (w : World) (z o : Nat) (f g : Nat → Int) : Mod (fun x => x = z) w (set8 w z o f g) :=
  (((((((Mod.setCell (X := fun x => x = z) _ (p := ⟨z, o, none⟩) rfl _).trans (Mod.setCell (X := fun x => x = z) _ (p := ⟨z, o + 1, none⟩) rfl _)).trans (Mod.setCell (X := fun x => x = z) _ (p := ⟨z, o + 2, none⟩) rfl _)).trans (Mod.setCell (X := fun x => x = z) _ (p := ⟨z, o + 3, none⟩) rfl _)).trans (Mod.setCell (X := fun x => x = z) _ (p := ⟨z, o + 4, none⟩) rfl _)).trans (Mod.setCell (X := fun x => x = z) _ (p := ⟨z, o + 5, none⟩) rfl _)).trans (Mod.setCell (X := fun x => x = z) _ (p := ⟨z, o + 6, none⟩) rfl _)).trans (Mod.setCell (X := fun x => x = z) _ (p := ⟨z, o + 7, none⟩) rfl _)
theorem row_set8 {w : World} {z n : Nat} {F : Nat → Value} (r : Row w z n F) (o : Nat) (f g : Nat → Int) : Row (set8 w z o f g) z n (fun i => if o ≤ i ∧ i < o + 8 then (if (i - o) % 2 = 0 then .int .i64 (f ((i - o) / 2)) else .int .i64 (g ((i - o) / 2))) else F i) := by
  refine ((((((((r.set o _).set (o + 1) _).set (o + 2) _).set (o + 3) _).set (o + 4) _).set (o + 5) _).set (o + 6) _).set (o + 7) _).congr (fun i hi => ?_)
  by_cases h : o ≤ i ∧ i < o + 8
  · rw [if_pos h]
    obtain ⟨t, rfl⟩ : ∃ t, i = o + t := ⟨i - o, by omega⟩
    have ht : t = 0 ∨ t = 1 ∨ t = 2 ∨ t = 3 ∨ t = 4 ∨ t = 5 ∨ t = 6 ∨ t = 7 := by omega
    rcases ht with rfl | rfl | rfl | rfl | rfl | rfl | rfl | rfl <;> simp
  · rw [if_neg h]
    have e0 : ¬ i = o := by omega
    have e1 : ¬ i = o + 1 := by omega
    have e2 : ¬ i = o + 2 := by omega
    have e3 : ¬ i = o + 3 := by omega
    have e4 : ¬ i = o + 4 := by omega
    have e5 : ¬ i = o + 5 := by omega
    have e6 : ¬ i = o + 6 := by omega
    have e7 : ¬ i = o + 7 := by omega
    simp [e0, e1, e2, e3, e4, e5, e6, e7]
theorem lc_step {w : World} {z n : Nat} {p m : Nat → Nat → Int} {j : Nat} (r : Row w z (n * 8) (lc (upTo j p) (upTo j m))) : Row (set8 w z (j * 8) (p j) (m j)) z (n * 8) (lc (upTo (j + 1) p) (upTo (j + 1) m)) :=
  (row_set8 r (j * 8) (p j) (m j)).congr (fun i hi => by
    unfold lc upTo
    by_cases h : j * 8 ≤ i ∧ i < j * 8 + 8
    · rw [if_pos h]
      have e1 : i / 8 = j := by omega
      have e2 : (i - j * 8) % 2 = i % 2 := by omega
      have e3 : (i - j * 8) / 2 = i % 8 / 2 := by omega
      have e4 : j < j + 1 := by omega
      simp only [e1, e2, e3, e4, if_true]
    · rw [if_neg h]
      have e5 : (i / 8 < j + 1) = (i / 8 < j) := propext ⟨fun q => by omega, fun q => by omega⟩
      simp only [e5])
theorem good_sw {n kn : Nat} {c : Nat → Int} {len : Nat → Nat} {p m : Nat → Nat → Int} (hn : n = 4) (hk : 1 ≤ kn ∧ kn ≤ 4) (hl : ∀ i, i < kn → listOK ⟨kn, len, p, m⟩ i) : BD.Good ⟨n, c, ⟨kn, len, p, m⟩⟩ ↔ swOK c kn p m := by
  subst hn
  refine good_parts.trans ?_
  constructor
  · rintro ⟨h1, h2, h3, -⟩
    refine ⟨h2, fun k hkk hnl j hj => ?_⟩
    have hm := h3 k hkk hnl j (by show j < len k; have h6 : len k = 4 := (h1 k hkk).1; omega)
    have hlf := (h1 k hkk).2 j hj
    have hm' : ¬ 0 < m k j := hm
    have hlf' : leafOK (p k j) (m k j) := hlf
    unfold leafOK at hlf'
    omega
  · rintro ⟨h2, h3⟩
    refine ⟨hl, h2, fun k hkk hnl j hj => ?_, rfl, hk.1, hk.2⟩
    have := (h3 k hkk hnl j (by have h4 := (hl k hkk).1; have h5 : j < len k := hj; have h6 : len k = 4 := h4; omega)).2
    show ¬ 0 < m k j
    omega
theorem list_ls {kn : Nat} {len : Nat → Nat} {p m : Nat → Nat → Int} {i : Nat} : listOK ⟨kn, len, p, m⟩ i ↔ lsOK (len i) (p i) (m i) := Iff.rfl
theorem set5_blw {w W : World} {z : Nat} (h : Blw w W) (hz : w.heap.size ≤ z) (v0 v1 v2 v3 v4 : Value) : Blw w (((((W.setCell ⟨z, 0, none⟩ v0).setCell ⟨z, 1, none⟩ v1).setCell ⟨z, 2, none⟩ v2).setCell ⟨z, 3, none⟩ v3).setCell ⟨z, 4, none⟩ v4) :=
  ((((h.setCell hz _).setCell hz _).setCell hz _).setCell hz _).setCell hz _
def zrow (v : Value) : Nat → Value := fun i => if i < 4 then .int .i64 0 else v
theorem zrow5 (w : World) (v : Value) (t : TypeId) : Row (w.alloc (.cells #[.int .i64 0, .int .i64 0, .int .i64 0, .int .i64 0, v] t)) w.heap.size 5 (zrow v) :=
  (row5 w (.int .i64 0) (.int .i64 0) (.int .i64 0) (.int .i64 0) v t).congr (fun i hi => by
    match i, hi with
    | 0, _ => rfl
    | 1, _ => rfl
    | 2, _ => rfl
    | 3, _ => rfl
    | 4, _ => rfl)
theorem zget {w : World} {B : Nat} {v : Value} (r : Row w B 5 (zrow v)) : w.cell? ⟨B, 0, none⟩ = some (.int .i64 0) ∧ w.cell? ⟨B, 1, none⟩ = some (.int .i64 0) ∧ w.cell? ⟨B, 2, none⟩ = some (.int .i64 0) ∧ w.cell? ⟨B, 3, none⟩ = some (.int .i64 0) ∧ w.cell? ⟨B, 4, none⟩ = some v :=
  ⟨r.cell (i := 0) (by omega), r.cell (i := 1) (by omega), r.cell (i := 2) (by omega), r.cell (i := 3) (by omega), r.cell (i := 4) (by omega)⟩
abbrev zero5 : Array Value := #[.int .i64 0, .int .i64 0, .int .i64 0, .int .i64 0, .slice none 0 0]
end Go.Proofs.Ytbpdopcdhnemfaa
/- The program's tables, held as values. -/
namespace Go.Proofs.Ytbpdopcdhnemfaa
open Go.RowKit
set_option linter.unusedSimpArgs false
set_option linter.unusedVariables false
set_option maxRecDepth 10000 in
set_option maxHeartbeats 6400000 in
theorem hold_any (b : BV) (B : BD) (Y : Nat → Prop) (w : World) (h : BookAt Y w b B) (hY : ∀ x, Y x → x < w.heap.size) :
    Calls Try.prog 103 #[b.val B] w fun e w' => ((∃ zl, B.Good ∧ e = .returned (.tuple #[.agg (held5 B.c zl B.D.n), .bool true]) ∧ Row w' zl (B.D.n * 8) (lc B.D.p B.D.m) ∧ w.heap.size ≤ zl) ∨ (¬ B.Good ∧ e = .returned (.tuple #[.agg zero5, .bool false]))) ∧ Blw w w' := by
  obtain ⟨n, c, ⟨kn, len, p, m⟩⟩ := B
  obtain ⟨a1, a2, q1, q2⟩ := b
  simp only [BV.val] at *
  have hn := h.c.1
  have hk := h.l.1
  dsimp only at hn hk
  have HC : Hid (IntsAt Y w a1 n c) := h.c
  have HL : Hid (PSAt Y w a2 ⟨kn, len, p, m⟩) := h.l
  clear h
  by_cases h4 : n = 4
  case neg =>
    have hb1 : Blw w ((w.alloc (.cells #[.slice a1 n q1, .slice a2 kn q2] 29)).alloc (.cells #[.int .i64 0, .int .i64 0, .int .i64 0, .int .i64 0, .slice none 0 0] 136)) := ((Blw.refl _).alloc _).alloc _
    have rA := (box2 w (.slice a1 n q1) (.slice a2 kn q2) 29).blw ((Blw.refl _).alloc (.cells #[.int .i64 0, .int .i64 0, .int .i64 0, .int .i64 0, .slice none 0 0] 136))
    have rR := zrow5 (w.alloc (.cells #[.slice a1 n q1, .slice a2 kn q2] 29)) (.slice none 0 0) 136
    rw [World.size_alloc] at rR
    obtain ⟨p0, p1⟩ := get2 rA
    obtain ⟨t0, t1, t2, t3, t4⟩ := zget rR
    have f0 := rR.frozen 0; have f1 := rR.frozen 1; have f2 := rR.frozen 2; have f3 := rR.frozen 3; have f4 := rR.frozen 4
    go_enter Try.func103, Try.ntmps103
    have HN : Hid (¬ BD.Good ⟨n, c, ⟨kn, len, p, m⟩⟩) := fun g => h4 g.n
    have d4 : ((n : Int) != 4) = true := by simp; omega
    clear h4 rA rR
    go_wp2
    refine bodyPost_ret (v := .tuple #[.agg zero5, .bool false]) (by simp [results, Try.results103, go_sem, t0, t1, t2, t3, t4]) rfl ?_
    refine ⟨Or.inr ⟨HN.out, rfl⟩, ?_⟩
    first | exact hb1 | exact set5_blw hb1 (by omega) _ _ _ _ _
  subst h4
  have hb1 : Blw w ((w.alloc (.cells #[.slice a1 4 q1, .slice a2 kn q2] 29)).alloc (.cells #[.int .i64 0, .int .i64 0, .int .i64 0, .int .i64 0, .slice none 0 0] 136)) := ((Blw.refl _).alloc _).alloc _
  have rA := (box2 w (.slice a1 4 q1) (.slice a2 kn q2) 29).blw ((Blw.refl _).alloc (.cells #[.int .i64 0, .int .i64 0, .int .i64 0, .int .i64 0, .slice none 0 0] 136))
  have rR := zrow5 (w.alloc (.cells #[.slice a1 4 q1, .slice a2 kn q2] 29)) (.slice none 0 0) 136
  rw [World.size_alloc] at rR
  obtain ⟨p0, p1⟩ := get2 rA
  obtain ⟨t0, t1, t2, t3, t4⟩ := zget rR
  have f0 := rR.frozen 0; have f1 := rR.frozen 1; have f2 := rR.frozen 2; have f3 := rR.frozen 3; have f4 := rR.frozen 4
  go_enter Try.func103, Try.ntmps103
  go_wp2_with fail
  refine (isCnt_any (kn : Int) _).mono ?_
  rintro e w' ⟨r, rfl, hr, hw⟩
  subst hw
  have HR : Hid (r = true ↔ cntOK (kn : Int)) := hr
  clear hr
  cases r
  · have HN : Hid (¬ BD.Good ⟨4, c, ⟨kn, len, p, m⟩⟩) := fun g => by have := HR.out.2 ⟨by have := g.k.1; dsimp only at this; omega, by have := g.k.2; dsimp only at this; omega⟩; simp at this
    clear HR rA rR
    go_wp2
    refine bodyPost_ret (v := .tuple #[.agg zero5, .bool false]) (by simp [results, Try.results103, go_sem, t0, t1, t2, t3, t4]) rfl ?_
    refine ⟨Or.inr ⟨HN.out, rfl⟩, ?_⟩
    first | exact hb1 | exact set5_blw hb1 (by omega) _ _ _ _ _
  have hcnt : 1 ≤ kn ∧ kn ≤ 4 := by have := HR.out.1 (by first | rfl | trivial); unfold cntOK at this; omega
  have HK : Hid (1 ≤ kn ∧ kn ≤ 4) := hcnt
  have hk4 : kn ≤ 4 := hcnt.2
  have hmk := mk8 kn hk4
  have H4 : Hid ((4 : Nat) = 4) := rfl
  clear HR hcnt
  have hb3 : Blw ((w.alloc (.cells #[.slice a1 4 q1, .slice a2 kn q2] 29)).alloc (.cells #[.int .i64 0, .int .i64 0, .int .i64 0, .int .i64 0, .slice none 0 0] 136)) ((((w.alloc (.cells #[.slice a1 4 q1, .slice a2 kn q2] 29)).alloc (.cells #[.int .i64 0, .int .i64 0, .int .i64 0, .int .i64 0, .slice none 0 0] 136)).alloc (.cells (madeCells #[.int .i64 0, .int .i64 0, .int .i64 0, .int .i64 0, .int .i64 0, .int .i64 0, .int .i64 0, .int .i64 0] (kn * 8)) 202)).alloc (.cells #[.int .i64 0, .int .i64 0, .int .i64 0, .int .i64 0, .slice (some ⟨w.heap.size + 1 + 1, 0, none⟩) kn kn] 136)) := ((Blw.refl _).alloc _).alloc _
  have rL := (Row.made8 ((w.alloc (.cells #[.slice a1 4 q1, .slice a2 kn q2] 29)).alloc (.cells #[.int .i64 0, .int .i64 0, .int .i64 0, .int .i64 0, .slice none 0 0] 136)) (.int .i64 0) (kn * 8) 202).blw ((Blw.refl _).alloc (.cells #[.int .i64 0, .int .i64 0, .int .i64 0, .int .i64 0, .slice (some ⟨w.heap.size + 1 + 1, 0, none⟩) kn kn] 136))
  have rH := zrow5 (((w.alloc (.cells #[.slice a1 4 q1, .slice a2 kn q2] 29)).alloc (.cells #[.int .i64 0, .int .i64 0, .int .i64 0, .int .i64 0, .slice none 0 0] 136)).alloc (.cells (madeCells #[.int .i64 0, .int .i64 0, .int .i64 0, .int .i64 0, .int .i64 0, .int .i64 0, .int .i64 0, .int .i64 0] (kn * 8)) 202)) (.slice (some ⟨w.heap.size + 1 + 1, 0, none⟩) kn kn) 136
  have sz1 : ((w.alloc (.cells #[.slice a1 4 q1, .slice a2 kn q2] 29)).alloc (.cells #[.int .i64 0, .int .i64 0, .int .i64 0, .int .i64 0, .slice none 0 0] 136)).heap.size = w.heap.size + 1 + 1 := by simp
  have sz2 : (((w.alloc (.cells #[.slice a1 4 q1, .slice a2 kn q2] 29)).alloc (.cells #[.int .i64 0, .int .i64 0, .int .i64 0, .int .i64 0, .slice none 0 0] 136)).alloc (.cells (madeCells #[.int .i64 0, .int .i64 0, .int .i64 0, .int .i64 0, .int .i64 0, .int .i64 0, .int .i64 0, .int .i64 0] (kn * 8)) 202)).heap.size = w.heap.size + 1 + 1 + 1 := by simp
  rw [sz1] at rL
  rw [sz2] at rH
  have sz3 : ((((w.alloc (.cells #[.slice a1 4 q1, .slice a2 kn q2] 29)).alloc (.cells #[.int .i64 0, .int .i64 0, .int .i64 0, .int .i64 0, .slice none 0 0] 136)).alloc (.cells (madeCells #[.int .i64 0, .int .i64 0, .int .i64 0, .int .i64 0, .int .i64 0, .int .i64 0, .int .i64 0, .int .i64 0] (kn * 8)) 202)).alloc (.cells #[.int .i64 0, .int .i64 0, .int .i64 0, .int .i64 0, .slice (some ⟨w.heap.size + 1 + 1, 0, none⟩) kn kn] 136)).heap.size = w.heap.size + 1 + 1 + 1 + 1 := by simp
  have pA := rA.blw hb3
  have pR := rR.blw hb3
  obtain ⟨o0, o1⟩ := get2 pA
  go_wp2_with fail
  clear hmk t0 t1 t2 t3 t4 f0 f1 f2 f3 f4 p0 p1 rA rR o0 o1 sz1 sz2
  replace hb3 := hb1.trans hb3
  clear hb1
  generalize ((((w.alloc (.cells #[.slice a1 4 q1, .slice a2 kn q2] 29)).alloc (.cells #[.int .i64 0, .int .i64 0, .int .i64 0, .int .i64 0, .slice none 0 0] 136)).alloc (.cells (madeCells #[.int .i64 0, .int .i64 0, .int .i64 0, .int .i64 0, .int .i64 0, .int .i64 0, .int .i64 0, .int .i64 0] (kn * 8)) 202)).alloc (.cells #[.int .i64 0, .int .i64 0, .int .i64 0, .int .i64 0, .slice (some ⟨w.heap.size + 1 + 1, 0, none⟩) kn kn] 136)) = w3 at *
  have HB3 : Hid (Blw w w3) := hb3
  have HA : Hid (Row w3 w.heap.size 2 (fun i => if i = 0 then .slice a1 4 q1 else .slice a2 kn q2)) := pA
  have HRR : Hid (Row w3 (w.heap.size + 1) 5 (zrow (.slice none 0 0))) := pR
  have HH : Hid (Row w3 (w.heap.size + 1 + 1 + 1) 5 (zrow (.slice (some ⟨w.heap.size + 1 + 1, 0, none⟩) kn kn))) := rH
  have HRL : Hid (Row w3 (w.heap.size + 1 + 1) (kn * 8) (lc (upTo 0 p) (upTo 0 m))) := rL.congr (fun i hi => by unfold lc upTo; simp)
  have HSZ : Hid (w3.heap.size = w.heap.size + 1 + 1 + 1 + 1) := sz3
  replace HC : Hid (IntsAt Y w3 a1 4 c) := HC.out.blw hb3
  replace HL : Hid (PSAt Y w3 a2 ⟨kn, len, p, m⟩) := HL.out.blw hb3
  clear hb3 rL rH pA pR sz3
  go_loopw [28] (fun i wr => ∃ j : Nat, j ≤ kn ∧ i = .int .i64 j ∧ (∀ i, i < j → listOK ⟨kn, len, p, m⟩ i) ∧ Row wr (w.heap.size + 1 + 1) (kn * 8) (lc (upTo j p) (upTo j m)) ∧ Mod (fun x => x = w.heap.size + 1 + 1) w3 wr) (fun i _ => kn - (intOf i).toNat)
  case atStart => exact ⟨0, Nat.zero_le _, rfl, fun t ht => absurd ht (Nat.not_lt_zero _), HRL.out, Mod.refl _ _⟩
  case round =>
    obtain ⟨j, hj, rfl, hok, hrl, hm⟩ := hrel
    have HO : Hid (∀ i, i < j → listOK ⟨kn, len, p, m⟩ i) := hok
    have HM : Hid (Mod (fun x => x = w.heap.size + 1 + 1) w3 wr) := hm
    have HRW : Hid (Row wr (w.heap.size + 1 + 1) (kn * 8) (lc (upTo j p) (upTo j m))) := hrl
    have HBW : Hid (Blw w wr) := Mod.blw HB3.out hm (fun i hi => by omega)
    clear hok hm hrl HRL
    by_cases hlt : j < kn
    · have hlt' : (j : Int) < (kn : Int) := by omega
      obtain ⟨bb, oo, aa, cc, ea, -, g1, g2⟩ := (HL.out.mod HM.out (fun x hx e => by have := hY x hx; omega)).2 j hlt
      dsimp only at g1 g2
      subst ea
      have G2 : Hid (UndosAt Y wr aa (len j) (p j) (m j)) := g2
      clear g2
      have HHW : Hid (Row wr (w.heap.size + 1 + 1 + 1) 5 (zrow (.slice (some ⟨w.heap.size + 1 + 1, 0, none⟩) kn kn))) := HH.out.mod HM.out (by omega)
      have P4 : ∀ w', Row w' (w.heap.size + 1 + 1 + 1) 5 (zrow (.slice (some ⟨w.heap.size + 1 + 1, 0, none⟩) kn kn)) → w'.cell? ⟨w.heap.size + 1 + 1 + 1, 4, none⟩ = some (.slice (some ⟨w.heap.size + 1 + 1, 0, none⟩) kn kn) := fun w' hh => (zget hh).2.2.2.2
      go_upto_region 8 with fail
      clear g1
      refine wp_region_noPanic ?_
      refine wp_region_held_drew (S := fun w' => Row w' (w.heap.size + 1 + 1 + 1) 5 (zrow (.slice (some ⟨w.heap.size + 1 + 1, 0, none⟩) kn kn))) (by kernel_rfl) (HHW.out.blw (Blw.refl _).drew) (fun hB => ?_)
      clear hB
      replace HHW := HHW.out.blw (Blw.refl _).drew
      replace HRW := HRW.out.blw (Blw.refl _).drew
      replace G2 := G2.out.blw (Blw.refl _).drew
      have HWD : Hid (Blw wr wr.drew) := (Blw.refl _).drew
      generalize wr.drew = wd at *
      have HHD : Hid (Row wd (w.heap.size + 1 + 1 + 1) 5 (zrow (.slice (some ⟨w.heap.size + 1 + 1, 0, none⟩) kn kn))) := HHW
      have HRD : Hid (Row wd (w.heap.size + 1 + 1) (kn * 8) (lc (upTo j p) (upTo j m))) := HRW
      have GD : Hid (UndosAt Y wd aa (len j) (p j) (m j)) := G2
      clear HHW HRW G2
      refine wpAnyH_take (i := 0) (oi := { dst := some 34, op := Op.fieldAddr 136 (Operand.tmp 4) 1, type := 0, pos := _, after := #[], guard := none }) (v := (.pointer (some ⟨w.heap.size + 1 + 1 + 1, 4, none⟩))) rfl (by kernel_rfl) (by kernel_rfl) (by kernel_rfl) (fun _ _ _ h => h) (Or.inl ⟨by rfl, fun w' hS => by (try dsimp only at hS); go_simp⟩) HHD.out ?_
      simp only [Act.put, List.setIfInBounds_toArray, List.set_cons_zero, List.set_cons_succ]
      refine wpAnyH_take (i := 1) (oi := { dst := some 35, op := Op.load 134 (Operand.tmp 34), type := 134, pos := _, after := #[{ on := 0, ground := Ground.data }], guard := none }) (v := (.slice (some ⟨w.heap.size + 1 + 1, 0, none⟩) kn kn)) rfl (by kernel_rfl) (by kernel_rfl) (by kernel_rfl) (fun _ _ _ h => h) (Or.inl ⟨by rfl, fun w' hS => by (try dsimp only at hS); go_simp⟩) HHD.out ?_
      simp only [Act.put, List.setIfInBounds_toArray, List.set_cons_zero, List.set_cons_succ]
      refine wpAnyH_take (i := 2) (oi := { dst := some 36, op := Op.move (Operand.tmp 5), type := 3, pos := _, after := #[], guard := none }) (v := (.int .i64 j)) rfl (by kernel_rfl) (by kernel_rfl) (by kernel_rfl) (fun _ _ _ h => h) (Or.inl ⟨by rfl, fun w' hS => by (try dsimp only at hS); go_simp⟩) HHD.out ?_
      simp only [Act.put, List.setIfInBounds_toArray, List.set_cons_zero, List.set_cons_succ]
      refine wpAnyH_take (i := 3) (oi := { dst := some 37, op := Op.move (Operand.tmp 6), type := 186, pos := _, after := #[], guard := none }) (v := (.slice aa (len j) cc)) rfl (by kernel_rfl) (by kernel_rfl) (by kernel_rfl) (fun _ _ _ h => h) (Or.inl ⟨by rfl, fun w' hS => by (try dsimp only at hS); go_simp⟩) HHD.out ?_
      simp only [Act.put, List.setIfInBounds_toArray, List.set_cons_zero, List.set_cons_succ]
      refine wpAnyH_ready (rs := [4]) (by kernel_rfl) (by simp) ?_
      refine AllReadyH.cons (o := { dst := some 38, op := Op.call { callee := Callee.value (Operand.func 167), args := #[Operand.tmp 37], argTypes := #[186] }, type := 203, pos := _, after := #[{ on := 3, ground := Ground.data }], guard := none }) rfl (fun K hK => ?_) AllReadyH.nil
      go_simp
      refine (holdLeaves_any aa cc (len j) (p j) (m j) Y _ GD.out).mono ?_
      rintro e w1 ⟨hres, hb1⟩
      have HH1 : Hid (Row w1 (w.heap.size + 1 + 1 + 1) 5 (zrow (.slice (some ⟨w.heap.size + 1 + 1, 0, none⟩) kn kn))) := HHD.out.blw hb1
      have HR1 : Hid (Row w1 (w.heap.size + 1 + 1) (kn * 8) (lc (upTo j p) (upTo j m))) := HRD.out.blw hb1
      have HB1 : Hid (Blw wr w1) := HWD.out.trans hb1
      have HS1 : Hid (w.heap.size + 1 + 1 + 1 < w1.heap.size) := HH1.out.lt
      clear hb1 HHD HRD GD HWD
      rcases hres with ⟨hls, rfl⟩ | ⟨hls, rfl⟩
      · skip
        have HLS : Hid (lsOK (len j) (p j) (m j)) := hls
        clear hls
        refine hK.out _ _ HH1.out (fun hB => ?_)
        clear hK K hB
        try simp only [Act.put, List.setIfInBounds_toArray, List.set_cons_zero, List.set_cons_succ]
        refine wpAnyH_take (i := 5) (oi := { dst := some 33, op := Op.move (Operand.tmp 38), type := 203, pos := _, after := #[{ on := 4, ground := Ground.data }], guard := none }) (v := (.tuple #[(.agg #[.int .i64 (p j 0), .int .i64 (m j 0), .int .i64 (p j 1), .int .i64 (m j 1), .int .i64 (p j 2), .int .i64 (m j 2), .int .i64 (p j 3), .int .i64 (m j 3)]), .bool true])) rfl (by kernel_rfl) (by kernel_rfl) (by kernel_rfl) (fun _ _ _ h => h) (Or.inl ⟨by rfl, fun w' hS => by (try dsimp only at hS); go_simp⟩) HH1.out ?_
        simp only [Act.put, List.setIfInBounds_toArray, List.set_cons_zero, List.set_cons_succ]
        refine wpAnyH_take (i := 6) (oi := { dst := some 39, op := Op.extract (Operand.tmp 33) 0, type := 202, pos := _, after := #[{ on := 5, ground := Ground.data }], guard := none }) (v := (.agg #[.int .i64 (p j 0), .int .i64 (m j 0), .int .i64 (p j 1), .int .i64 (m j 1), .int .i64 (p j 2), .int .i64 (m j 2), .int .i64 (p j 3), .int .i64 (m j 3)])) rfl (by kernel_rfl) (by kernel_rfl) (by kernel_rfl) (fun _ _ _ h => h) (Or.inl ⟨by rfl, fun w' hS => by (try dsimp only at hS); go_simp⟩) HH1.out ?_
        simp only [Act.put, List.setIfInBounds_toArray, List.set_cons_zero, List.set_cons_succ]
        refine wpAnyH_take (i := 7) (oi := { dst := some 40, op := Op.extract (Operand.tmp 33) 1, type := 4, pos := _, after := #[{ on := 5, ground := Ground.data }, { on := 9, ground := Ground.gcOnly Departure.lateStores }], guard := none }) (v := (.bool true)) rfl (by kernel_rfl) (by kernel_rfl) (by kernel_rfl) (fun _ _ _ h => h) (Or.inl ⟨by rfl, fun w' hS => by (try dsimp only at hS); go_simp⟩) HH1.out ?_
        simp only [Act.put, List.setIfInBounds_toArray, List.set_cons_zero, List.set_cons_succ]
        refine wpAnyH_take (i := 8) (oi := { dst := some 41, op := Op.indexAddr 134 (Operand.tmp 35) (Operand.tmp 36), type := 0, pos := _, after := #[{ on := 1, ground := Ground.data }, { on := 2, ground := Ground.data }, { on := 0, ground := Ground.phase }, { on := 1, ground := Ground.phase }, { on := 2, ground := Ground.phase }, { on := 3, ground := Ground.phase }, { on := 4, ground := Ground.phase }, { on := 5, ground := Ground.phase }, { on := 6, ground := Ground.phase }, { on := 7, ground := Ground.textOnly Departure.lateStores }], guard := none }) (v := (.pointer (some ⟨w.heap.size + 1 + 1, j * 8, none⟩))) rfl (by kernel_rfl) (by kernel_rfl) (by kernel_rfl) (fun _ _ _ h => h) (Or.inl ⟨by rfl, fun w' hS => by (try dsimp only at hS); go_simp⟩) HH1.out ?_
        simp only [Act.put, List.setIfInBounds_toArray, List.set_cons_zero, List.set_cons_succ]
        refine wpAnyH_ready (rs := [9]) (by kernel_rfl) (by simp) ?_
        refine AllReadyH.cons (o := { dst := none, op := Op.store 202 (Operand.tmp 41) (Operand.tmp 39), type := 0, pos := _, after := #[{ on := 8, ground := Ground.data }, { on := 6, ground := Ground.data }, { on := 4, ground := Ground.chain }, { on := 0, ground := Ground.phase }, { on := 1, ground := Ground.phase }, { on := 2, ground := Ground.phase }, { on := 3, ground := Ground.phase }, { on := 4, ground := Ground.phase }, { on := 5, ground := Ground.phase }, { on := 6, ground := Ground.phase }, { on := 7, ground := Ground.textOnly Departure.lateStores }], guard := none }) rfl (fun K hK => ?_) AllReadyH.nil
        obtain ⟨z0, z1, z2, z3, z4, z5, z6, z7⟩ := lc8 HR1.out hlt
        have f0 := HR1.out.frozen (j * 8); have f1 := HR1.out.frozen (j * 8 + 1); have f2 := HR1.out.frozen (j * 8 + 2); have f3 := HR1.out.frozen (j * 8 + 3); have f4 := HR1.out.frozen (j * 8 + 4); have f5 := HR1.out.frozen (j * 8 + 5); have f6 := HR1.out.frozen (j * 8 + 6); have f7 := HR1.out.frozen (j * 8 + 7)
        have MS : Hid (Mod (fun x => x = w.heap.size + 1 + 1) w1 (set8 w1 (w.heap.size + 1 + 1) (j * 8) (p j) (m j))) := set8_mod _ _ _ _ _
        have HH2 : Hid (Row (set8 w1 (w.heap.size + 1 + 1) (j * 8) (p j) (m j)) (w.heap.size + 1 + 1 + 1) 5 (zrow (.slice (some ⟨w.heap.size + 1 + 1, 0, none⟩) kn kn))) := HH1.out.mod MS.out (by omega)
        have HRN : Hid (Row (set8 w1 (w.heap.size + 1 + 1) (j * 8) (p j) (m j)) (w.heap.size + 1 + 1) (kn * 8) (lc (upTo (j + 1) p) (upTo (j + 1) m))) := lc_step HR1.out
        go_simp
        refine hK.out _ _ HH2.out (fun hB => ?_)
        clear hK K hB z0 z1 z2 z3 z4 z5 z6 z7 f0 f1 f2 f3 f4 f5 f6 f7
        try simp only [Act.put, List.setIfInBounds_toArray, List.set_cons_zero, List.set_cons_succ]
        refine wpAnyH_take (i := 10) (oi := { dst := some 7, op := Op.assign (Operand.tmp 40), type := 4, pos := _, after := #[{ on := 7, ground := Ground.data }, { on := 9, ground := Ground.chain }, { on := 0, ground := Ground.phase }, { on := 1, ground := Ground.phase }, { on := 2, ground := Ground.phase }, { on := 3, ground := Ground.phase }, { on := 4, ground := Ground.phase }, { on := 5, ground := Ground.phase }, { on := 6, ground := Ground.phase }, { on := 7, ground := Ground.phase }, { on := 8, ground := Ground.phase }, { on := 9, ground := Ground.phase }], guard := none }) (v := (.bool true)) rfl (by kernel_rfl) (by kernel_rfl) (by kernel_rfl) (fun _ _ _ h => h) (Or.inl ⟨by rfl, fun w' hS => by (try dsimp only at hS); go_simp⟩) HH2.out ?_
        simp only [Act.put, List.setIfInBounds_toArray, List.set_cons_zero, List.set_cons_succ]
        refine wpAnyH_done (by kernel_rfl) ?_ _
        refine NoPanic.normal ?_
        have HMN : Hid (Mod (fun x => x = w.heap.size + 1 + 1) w3 (set8 w1 (w.heap.size + 1 + 1) (j * 8) (p j) (m j))) := (HM.out.trans (HB1.out.mod _)).trans MS.out
        have HON : Hid (∀ i, i < j + 1 → listOK ⟨kn, len, p, m⟩ i) := fun i hi => by
          by_cases e : i = j
          · subst e; exact HLS.out
          · exact HO.out i (by omega)
        clear HM HO HH1 HR1 HB1 HH2 MS HLS HBW
        obtain ⟨w5, hw5⟩ : ∃ w5, w5 = set8 w1 (w.heap.size + 1 + 1) (j * 8) (p j) (m j) := ⟨_, rfl⟩
        rw [← hw5] at HMN HRN
        simp only [set8] at hw5
        rw [← hw5]
        clear hw5
        go_wp2
        go_roundw
        case rel => exact ⟨j + 1, by omega, by go_num, HON.out, HRN.out, HMN.out⟩
        case measure => simp [intOf]; omega
      · skip
        have HLS : Hid (¬ lsOK (len j) (p j) (m j)) := hls
        clear hls
        refine hK.out _ _ HH1.out (fun hB => ?_)
        clear hK K hB
        try simp only [Act.put, List.setIfInBounds_toArray, List.set_cons_zero, List.set_cons_succ]
        refine wpAnyH_take (i := 5) (oi := { dst := some 33, op := Op.move (Operand.tmp 38), type := 203, pos := _, after := #[{ on := 4, ground := Ground.data }], guard := none }) (v := (.tuple #[(.agg #[.int .i64 (0), .int .i64 (0), .int .i64 (0), .int .i64 (0), .int .i64 (0), .int .i64 (0), .int .i64 (0), .int .i64 (0)]), .bool false])) rfl (by kernel_rfl) (by kernel_rfl) (by kernel_rfl) (fun _ _ _ h => h) (Or.inl ⟨by rfl, fun w' hS => by (try dsimp only at hS); go_simp⟩) HH1.out ?_
        simp only [Act.put, List.setIfInBounds_toArray, List.set_cons_zero, List.set_cons_succ]
        refine wpAnyH_take (i := 6) (oi := { dst := some 39, op := Op.extract (Operand.tmp 33) 0, type := 202, pos := _, after := #[{ on := 5, ground := Ground.data }], guard := none }) (v := (.agg #[.int .i64 (0), .int .i64 (0), .int .i64 (0), .int .i64 (0), .int .i64 (0), .int .i64 (0), .int .i64 (0), .int .i64 (0)])) rfl (by kernel_rfl) (by kernel_rfl) (by kernel_rfl) (fun _ _ _ h => h) (Or.inl ⟨by rfl, fun w' hS => by (try dsimp only at hS); go_simp⟩) HH1.out ?_
        simp only [Act.put, List.setIfInBounds_toArray, List.set_cons_zero, List.set_cons_succ]
        refine wpAnyH_take (i := 7) (oi := { dst := some 40, op := Op.extract (Operand.tmp 33) 1, type := 4, pos := _, after := #[{ on := 5, ground := Ground.data }, { on := 9, ground := Ground.gcOnly Departure.lateStores }], guard := none }) (v := (.bool false)) rfl (by kernel_rfl) (by kernel_rfl) (by kernel_rfl) (fun _ _ _ h => h) (Or.inl ⟨by rfl, fun w' hS => by (try dsimp only at hS); go_simp⟩) HH1.out ?_
        simp only [Act.put, List.setIfInBounds_toArray, List.set_cons_zero, List.set_cons_succ]
        refine wpAnyH_take (i := 8) (oi := { dst := some 41, op := Op.indexAddr 134 (Operand.tmp 35) (Operand.tmp 36), type := 0, pos := _, after := #[{ on := 1, ground := Ground.data }, { on := 2, ground := Ground.data }, { on := 0, ground := Ground.phase }, { on := 1, ground := Ground.phase }, { on := 2, ground := Ground.phase }, { on := 3, ground := Ground.phase }, { on := 4, ground := Ground.phase }, { on := 5, ground := Ground.phase }, { on := 6, ground := Ground.phase }, { on := 7, ground := Ground.textOnly Departure.lateStores }], guard := none }) (v := (.pointer (some ⟨w.heap.size + 1 + 1, j * 8, none⟩))) rfl (by kernel_rfl) (by kernel_rfl) (by kernel_rfl) (fun _ _ _ h => h) (Or.inl ⟨by rfl, fun w' hS => by (try dsimp only at hS); go_simp⟩) HH1.out ?_
        simp only [Act.put, List.setIfInBounds_toArray, List.set_cons_zero, List.set_cons_succ]
        refine wpAnyH_ready (rs := [9]) (by kernel_rfl) (by simp) ?_
        refine AllReadyH.cons (o := { dst := none, op := Op.store 202 (Operand.tmp 41) (Operand.tmp 39), type := 0, pos := _, after := #[{ on := 8, ground := Ground.data }, { on := 6, ground := Ground.data }, { on := 4, ground := Ground.chain }, { on := 0, ground := Ground.phase }, { on := 1, ground := Ground.phase }, { on := 2, ground := Ground.phase }, { on := 3, ground := Ground.phase }, { on := 4, ground := Ground.phase }, { on := 5, ground := Ground.phase }, { on := 6, ground := Ground.phase }, { on := 7, ground := Ground.textOnly Departure.lateStores }], guard := none }) rfl (fun K hK => ?_) AllReadyH.nil
        obtain ⟨z0, z1, z2, z3, z4, z5, z6, z7⟩ := lc8 HR1.out hlt
        have f0 := HR1.out.frozen (j * 8); have f1 := HR1.out.frozen (j * 8 + 1); have f2 := HR1.out.frozen (j * 8 + 2); have f3 := HR1.out.frozen (j * 8 + 3); have f4 := HR1.out.frozen (j * 8 + 4); have f5 := HR1.out.frozen (j * 8 + 5); have f6 := HR1.out.frozen (j * 8 + 6); have f7 := HR1.out.frozen (j * 8 + 7)
        have MS : Hid (Mod (fun x => x = w.heap.size + 1 + 1) w1 (set8 w1 (w.heap.size + 1 + 1) (j * 8) (zf) (zf))) := set8_mod _ _ _ _ _
        have HH2 : Hid (Row (set8 w1 (w.heap.size + 1 + 1) (j * 8) (zf) (zf)) (w.heap.size + 1 + 1 + 1) 5 (zrow (.slice (some ⟨w.heap.size + 1 + 1, 0, none⟩) kn kn))) := HH1.out.mod MS.out (by omega)
        go_simp
        refine hK.out _ _ HH2.out (fun hB => ?_)
        clear hK K hB z0 z1 z2 z3 z4 z5 z6 z7 f0 f1 f2 f3 f4 f5 f6 f7
        try simp only [Act.put, List.setIfInBounds_toArray, List.set_cons_zero, List.set_cons_succ]
        refine wpAnyH_take (i := 10) (oi := { dst := some 7, op := Op.assign (Operand.tmp 40), type := 4, pos := _, after := #[{ on := 7, ground := Ground.data }, { on := 9, ground := Ground.chain }, { on := 0, ground := Ground.phase }, { on := 1, ground := Ground.phase }, { on := 2, ground := Ground.phase }, { on := 3, ground := Ground.phase }, { on := 4, ground := Ground.phase }, { on := 5, ground := Ground.phase }, { on := 6, ground := Ground.phase }, { on := 7, ground := Ground.phase }, { on := 8, ground := Ground.phase }, { on := 9, ground := Ground.phase }], guard := none }) (v := (.bool false)) rfl (by kernel_rfl) (by kernel_rfl) (by kernel_rfl) (fun _ _ _ h => h) (Or.inl ⟨by rfl, fun w' hS => by (try dsimp only at hS); go_simp⟩) HH2.out ?_
        simp only [Act.put, List.setIfInBounds_toArray, List.set_cons_zero, List.set_cons_succ]
        refine wpAnyH_done (by kernel_rfl) ?_ _
        refine NoPanic.normal ?_
        have HN : Hid (¬ BD.Good ⟨4, c, ⟨kn, len, p, m⟩⟩) := fun g => HLS.out (g.leaf j hlt)
        have HRZ := (((HRR.out.mod HM.out (by omega)).blw HB1.out).mod MS.out (by omega))
        have HBF : Hid (Blw w (set8 w1 (w.heap.size + 1 + 1) (j * 8) zf zf)) := Mod.blw (HBW.out.trans HB1.out) MS.out (fun i hi => by omega)
        clear HM HO HH1 HR1 HB1 HH2 MS HLS HBW HRR
        obtain ⟨w5, hw5⟩ : ∃ w5, w5 = set8 w1 (w.heap.size + 1 + 1) (j * 8) zf zf := ⟨_, rfl⟩
        rw [← hw5] at HRZ HBF
        simp only [set8, zf] at hw5
        rw [← hw5]
        clear hw5
        obtain ⟨t0, t1, t2, t3, t4⟩ := zget HRZ
        have f0 := HRZ.frozen 0; have f1 := HRZ.frozen 1; have f2 := HRZ.frozen 2; have f3 := HRZ.frozen 3; have f4 := HRZ.frozen 4
        clear HRZ
        go_wp2
        refine bodyPost_ret (v := .tuple #[.agg zero5, .bool false]) (by simp [results, Try.results103, go_sem, t0, t1, t2, t3, t4]) rfl ?_
        refine ⟨Or.inr ⟨HN.out, rfl⟩, ?_⟩
        exact set5_blw HBF.out (by omega) _ _ _ _ _
    · obtain rfl : j = kn := by omega
      obtain ⟨bb, oo, ea, -, -⟩ := HC.out.2 0 (by omega)
      subst ea
      have HLF : Hid (Row wr (w.heap.size + 1 + 1) (j * 8) (lc p m)) := HRW.out.congr (fun i hi => by
        have e1 : i / 8 < j := by omega
        unfold lc upTo
        simp only [e1, if_true])
      have HHW : Hid (Row wr (w.heap.size + 1 + 1 + 1) 5 (zrow (.slice (some ⟨w.heap.size + 1 + 1, 0, none⟩) j j))) := HH.out.mod HM.out (by omega)
      have HAW : Hid (Row wr w.heap.size 2 (fun i => if i = 0 then .slice (some ⟨bb, oo, none⟩) 4 q1 else .slice a2 j q2)) := HA.out.mod HM.out (by omega)
      have HRZ : Hid (Row wr (w.heap.size + 1) 5 (zrow (.slice none 0 0))) := HRR.out.mod HM.out (by omega)
      have HCW : Hid (IntsAt Y wr (some ⟨bb, oo, none⟩) 4 c) := HC.out.mod HM.out (fun x hx e => by have := hY x hx; omega)
      have HLO : Hid (∀ i, i < j → listOK ⟨j, len, p, m⟩ i) := HO.out
      clear HO HM HRW HC HL HH HA HRR HB3 hlt
      go_upto_region 12 with fail
      refine wp_region_noPanic ?_
      have P0 : ∀ w', Row w' w.heap.size 2 (fun i => if i = 0 then .slice (some ⟨bb, oo, none⟩) 4 q1 else .slice a2 j q2) → w'.cell? ⟨w.heap.size, 0, none⟩ = some (.slice (some ⟨bb, oo, none⟩) 4 q1) := fun w' hh => (get2 hh).1
      refine wp_region_held_drew (S := fun w' => Row w' w.heap.size 2 (fun i => if i = 0 then .slice (some ⟨bb, oo, none⟩) 4 q1 else .slice a2 j q2)) (by kernel_rfl) (HAW.out.blw (Blw.refl _).drew) (fun hB => ?_)
      clear hB
      have HWD : Hid (Blw wr wr.drew) := (Blw.refl _).drew
      replace HLF : Hid (Row wr.drew (w.heap.size + 1 + 1) (j * 8) (lc p m)) := HLF.out.blw HWD.out
      replace HHW : Hid (Row wr.drew (w.heap.size + 1 + 1 + 1) 5 (zrow (.slice (some ⟨w.heap.size + 1 + 1, 0, none⟩) j j))) := HHW.out.blw HWD.out
      replace HAW : Hid (Row wr.drew w.heap.size 2 (fun i => if i = 0 then .slice (some ⟨bb, oo, none⟩) 4 q1 else .slice a2 j q2)) := HAW.out.blw HWD.out
      replace HRZ : Hid (Row wr.drew (w.heap.size + 1) 5 (zrow (.slice none 0 0))) := HRZ.out.blw HWD.out
      replace HCW : Hid (IntsAt Y wr.drew (some ⟨bb, oo, none⟩) 4 c) := HCW.out.blw HWD.out
      replace HBW : Hid (Blw w wr.drew) := HBW.out.trans HWD.out
      clear HWD
      generalize wr.drew = wd at *
      refine wpAnyH_take (i := 0) (oi := { dst := some 46, op := Op.fieldAddr 136 (Operand.tmp 4) 0, type := 0, pos := _, after := #[], guard := none }) (v := (.pointer (some ⟨w.heap.size + 1 + 1 + 1, 0, none⟩))) rfl (by kernel_rfl) (by kernel_rfl) (by kernel_rfl) (fun _ _ _ h => h) (Or.inl ⟨by rfl, fun w' hS => by (try dsimp only at hS); go_simp⟩) HAW.out ?_
      simp only [Act.put, List.setIfInBounds_toArray, List.set_cons_zero, List.set_cons_succ]
      refine wpAnyH_take (i := 1) (oi := { dst := some 47, op := Op.slice 133 (Operand.tmp 46) none none none, type := 26, pos := _, after := #[{ on := 0, ground := Ground.data }], guard := none }) (v := (.slice (some ⟨w.heap.size + 1 + 1 + 1, 0, none⟩) 4 4)) rfl (by kernel_rfl) (by kernel_rfl) (by kernel_rfl) (fun _ _ _ h => h) (Or.inl ⟨by rfl, fun w' hS => by (try dsimp only at hS); go_simp⟩) HAW.out ?_
      simp only [Act.put, List.setIfInBounds_toArray, List.set_cons_zero, List.set_cons_succ]
      refine wpAnyH_take (i := 2) (oi := { dst := some 48, op := Op.fieldAddr 29 (Operand.tmp 1) 0, type := 0, pos := _, after := #[], guard := none }) (v := (.pointer (some ⟨w.heap.size, 0, none⟩))) rfl (by kernel_rfl) (by kernel_rfl) (by kernel_rfl) (fun _ _ _ h => h) (Or.inl ⟨by rfl, fun w' hS => by (try dsimp only at hS); go_simp⟩) HAW.out ?_
      simp only [Act.put, List.setIfInBounds_toArray, List.set_cons_zero, List.set_cons_succ]
      refine wpAnyH_take (i := 3) (oi := { dst := some 49, op := Op.load 26 (Operand.tmp 48), type := 26, pos := _, after := #[{ on := 2, ground := Ground.data }], guard := none }) (v := (.slice (some ⟨bb, oo, none⟩) 4 q1)) rfl (by kernel_rfl) (by kernel_rfl) (by kernel_rfl) (fun _ _ _ h => h) (Or.inl ⟨by rfl, fun w' hS => by (try dsimp only at hS); go_simp⟩) HAW.out ?_
      simp only [Act.put, List.setIfInBounds_toArray, List.set_cons_zero, List.set_cons_succ]
      refine wpAnyH_ready (rs := [4]) (by kernel_rfl) (by simp) ?_
      refine AllReadyH.cons (o := { dst := some 50, op := Op.call { callee := Callee.builtin Builtin.copy, args := #[Operand.tmp 47, Operand.tmp 49], argTypes := #[26, 26] }, type := 3, pos := _, after := #[{ on := 1, ground := Ground.data }, { on := 3, ground := Ground.data }], guard := none }) rfl (fun K hK => ?_) AllReadyH.nil
      obtain ⟨w6, hcp, hr6, hm6, -⟩ := run_copy_fn (P := Try.prog) wd 26 26 3 3 (w.heap.size + 1 + 1 + 1) 0 4 4 ⟨bb, oo, none⟩ 4 q1 4 (ic c) 5 (zrow (.slice (some ⟨w.heap.size + 1 + 1, 0, none⟩) j j)) Try.underlying26 (by kernel_rfl) rfl (fun t ht => by
        obtain ⟨b', o', e', -, hh⟩ := HCW.out.2 t ht
        cases e'
        rw [Addr.add_mid]
        exact hh) (fun t ht => rfl) HHW.out (by omega)
      have HR6 : Hid (Row w6 (w.heap.size + 1 + 1 + 1) 5 (row5f c (.slice (some ⟨w.heap.size + 1 + 1, 0, none⟩) j j))) := hr6.congr (fun i hi => by
        match i, hi with
        | 0, _ => rfl
        | 1, _ => rfl
        | 2, _ => rfl
        | 3, _ => rfl
        | 4, _ => rfl)
      have HA6 : Hid (Row w6 w.heap.size 2 (fun i => if i = 0 then .slice (some ⟨bb, oo, none⟩) 4 q1 else .slice a2 j q2)) := HAW.out.mod hm6 (by omega)
      have HL6 : Hid (Row w6 (w.heap.size + 1 + 1) (j * 8) (lc p m)) := HLF.out.mod hm6 (by omega)
      have HZ6 : Hid (Row w6 (w.heap.size + 1) 5 (zrow (.slice none 0 0))) := HRZ.out.mod hm6 (by omega)
      have HB6 : Hid (Blw w w6) := Mod.blw HBW.out hm6 (fun i hi => by omega)
      clear hr6 hm6 HAW HLF HRZ HBW HHW HCW
      go_simp
      refine hK.out _ _ HA6.out (fun hB => ?_)
      clear hK K hB hcp P0
      try simp only [Act.put, List.setIfInBounds_toArray, List.set_cons_zero, List.set_cons_succ]
      refine wpAnyH_done (by kernel_rfl) ?_ _
      refine NoPanic.normal ?_
      obtain ⟨s0, s1, s2, s3, s4⟩ := get5 HR6.out
      go_wp2_with fail
      clear s0 s1 s2 s3 s4
      refine (standWell_any c (w.heap.size + 1 + 1) j p m _ hk4 HL6.out).mono ?_
      rintro e w7 ⟨r, rfl, hr, hb7⟩
      have HGS : Hid (r = true ↔ BD.Good ⟨4, c, ⟨j, len, p, m⟩⟩) := hr.trans (good_sw rfl HK.out HLO.out).symm
      have HZ7 : Hid (Row w7 (w.heap.size + 1) 5 (zrow (.slice none 0 0))) := HZ6.out.blw hb7
      have HR7 : Hid (Row w7 (w.heap.size + 1 + 1 + 1) 5 (row5f c (.slice (some ⟨w.heap.size + 1 + 1, 0, none⟩) j j))) := HR6.out.blw hb7
      have HL7 : Hid (Row w7 (w.heap.size + 1 + 1) (j * 8) (lc p m)) := HL6.out.blw hb7
      have HB7 : Hid (Blw w w7) := HB6.out.trans hb7
      clear hr hb7 HZ6 HR6 HL6 HB6 HA6
      obtain ⟨t0, t1, t2, t3, t4⟩ := zget HZ7.out
      have f0 := HZ7.out.frozen 0; have f1 := HZ7.out.frozen 1; have f2 := HZ7.out.frozen 2; have f3 := HZ7.out.frozen 3; have f4 := HZ7.out.frozen 4
      cases r
      · have HN : Hid (¬ BD.Good ⟨4, c, ⟨j, len, p, m⟩⟩) := fun g => by have := HGS.out.2 g; simp at this
        clear HGS HL7 HR7
        go_wp2
        refine bodyPost_ret (v := .tuple #[.agg zero5, .bool false]) (by simp [results, Try.results103, go_sem, t0, t1, t2, t3, t4]) rfl ?_
        refine ⟨Or.inr ⟨HN.out, rfl⟩, ?_⟩
        exact set5_blw HB7.out (by omega) _ _ _ _ _
      · have HY : Hid (BD.Good ⟨4, c, ⟨j, len, p, m⟩⟩) := HGS.out.1 (by first | rfl | trivial)
        obtain ⟨s0, s1, s2, s3, s4⟩ := get5 HR7.out
        clear HGS HR7
        go_wp2
        refine bodyPost_ret (v := .tuple #[.agg (held5 c (w.heap.size + 1 + 1) j), .bool true]) (by simp [results, Try.results103, go_sem, t0, t1, t2, t3, t4]) rfl ?_
        refine ⟨Or.inl ⟨w.heap.size + 1 + 1, HY.out, rfl, ?_, by omega⟩, ?_⟩
        · exact ((((HL7.out.setOther (a := ⟨w.heap.size + 1, 0, none⟩) (by show w.heap.size + 1 + 1 ≠ w.heap.size + 1; omega) _).setOther (a := ⟨w.heap.size + 1, 1, none⟩) (by show w.heap.size + 1 + 1 ≠ w.heap.size + 1; omega) _).setOther (a := ⟨w.heap.size + 1, 2, none⟩) (by show w.heap.size + 1 + 1 ≠ w.heap.size + 1; omega) _).setOther (a := ⟨w.heap.size + 1, 3, none⟩) (by show w.heap.size + 1 + 1 ≠ w.heap.size + 1; omega) _).setOther (a := ⟨w.heap.size + 1, 4, none⟩) (by show w.heap.size + 1 + 1 ≠ w.heap.size + 1; omega) _
        · exact set5_blw HB7.out (by omega) _ _ _ _ _
end Go.Proofs.Ytbpdopcdhnemfaa
/- The leaf at a place: the model's and the program's. -/
namespace Go.Proofs.Ytbpdopcdhnemfaa
open Go.RowKit
set_option linter.unusedSimpArgs false
set_option linter.unusedVariables false
def lfP (c : Nat → Int) (p : Nat → Nat → Int) (a : Nat) : Int := if 0 ≤ c (a / 4) then p (c (a / 4)).toNat (a % 4) else 0
theorem lfP_yes {c : Nat → Int} {p : Nat → Nat → Int} {a q : Nat} (h : c (a / 4) = (q : Int)) : lfP c p a = p q (a % 4) := by
  unfold lfP; rw [h, if_pos (by omega), Int.toNat_natCast]
theorem lfP_no {c : Nat → Int} {p : Nat → Nat → Int} {a : Nat} (h : ¬ 0 ≤ c (a / 4)) : lfP c p a = 0 := by unfold lfP; rw [if_neg h]
theorem set2w_blw {w W : World} {z : Nat} (h : Blw w W) (hz : w.heap.size ≤ z) (v0 v1 : Value) : Blw w ((W.setCell ⟨z, 0, none⟩ v0).setCell ⟨z, 1, none⟩ v1) := (h.setCell hz _).setCell hz _
set_option maxRecDepth 10000 in
set_option maxHeartbeats 3200000 in
theorem l6Find_any (b : BV) (c : Nat → Int) (kn : Nat) (len : Nat → Nat) (p m : Nat → Nat → Int) (a : Nat) (Y : Nat → Prop) (w : World) (g : BD.Good ⟨4, c, ⟨kn, len, p, m⟩⟩) (ha : a < 16) (h : BookAt Y w b ⟨4, c, ⟨kn, len, p, m⟩⟩) :
    Calls Try.prog 152 #[b.val ⟨4, c, ⟨kn, len, p, m⟩⟩, .int .i64 a] w fun e w' => e = .returned (.agg #[.int .i64 (lfP c p a), .int .i64 (lfP c m a)]) ∧ Blw w w' := by
  obtain ⟨a1, a2, q1, q2⟩ := b
  simp only [BV.val] at *
  have hb0 : Blw w ((w.alloc (.cells #[.slice a1 4 q1, .slice a2 kn q2] 29)).alloc (.cells #[.int .i64 0, .int .i64 0] 189)) := ((Blw.refl _).alloc _).alloc _
  have rA := (box2 w (.slice a1 4 q1) (.slice a2 kn q2) 29).blw ((Blw.refl _).alloc (.cells #[.int .i64 0, .int .i64 0] 189))
  have rR := box2 (w.alloc (.cells #[.slice a1 4 q1, .slice a2 kn q2] 29)) (.int .i64 0) (.int .i64 0) 189
  rw [World.size_alloc] at rR
  have hd : Int.tdiv (a : Int) 4 = ((a / 4 : Nat) : Int) := by rw [Int.tdiv_eq_ediv_of_nonneg (by omega)]; rfl
  have hr : Int.tmod (a : Int) 4 = ((a % 4 : Nat) : Int) := by rw [Int.tmod_eq_emod_of_nonneg (by omega)]; rfl
  have hd4 : a / 4 < 4 := by omega
  have hr4 : a % 4 < 4 := by omega
  have HC : Hid (IntsAt Y ((w.alloc (.cells #[.slice a1 4 q1, .slice a2 kn q2] 29)).alloc (.cells #[.int .i64 0, .int .i64 0] 189)) a1 4 c) := h.c.blw hb0
  have HL : Hid (PSAt Y ((w.alloc (.cells #[.slice a1 4 q1, .slice a2 kn q2] 29)).alloc (.cells #[.int .i64 0, .int .i64 0] 189)) a2 ⟨kn, len, p, m⟩) := h.l.blw hb0
  have hkn := h.l.1
  dsimp only at hkn
  clear h
  obtain ⟨bb, oo, ea, -, g1⟩ := HC.out.2 (a / 4) hd4
  subst ea
  clear HC
  have htop := g.top (a / 4) hd4
  dsimp only at htop
  have HGL : Hid (∀ i, i < kn → len i = 4) := fun i hi => (g.leaf i hi).1
  obtain ⟨p0, p1⟩ := get2 rA
  obtain ⟨t0, t1⟩ := get2 rR
  have f0 := rR.frozen 0
  have f1 := rR.frozen 1
  clear g
  have hd4' : ((a / 4 : Nat) : Int) < 4 := by omega
  have hr4' : ((a % 4 : Nat) : Int) < 4 := by omega
  by_cases h0 : 0 ≤ c (a / 4)
  · obtain ⟨q, hq⟩ : ∃ q : Nat, c (a / 4) = q := ⟨(c (a / 4)).toNat, by omega⟩
    have hqk : q < kn := by omega
    have hqk' : (q : Int) < (kn : Int) := by omega
    have E1 : Hid (lfP c p a = p q (a % 4)) := lfP_yes hq
    have E2 : Hid (lfP c m a = m q (a % 4)) := lfP_yes hq
    obtain ⟨b2, o2, aa, cc, ea, -, g2, g3⟩ := HL.out.2 q hqk
    dsimp only at g2 g3
    rw [HGL.out q hqk] at g2 g3
    subst ea
    obtain ⟨b3, o3, ea, -, g4, g5⟩ := g3.2 (a % 4) hr4
    subst ea
    rw [hq] at g1
    have HB : Hid (Blw w ((w.alloc (.cells #[.slice (some ⟨bb, oo, none⟩) 4 q1, .slice (some ⟨b2, o2, none⟩) kn q2] 29)).alloc (.cells #[.int .i64 0, .int .i64 0] 189))) := hb0
    clear h0 htop hq HL HGL g3 rA rR hb0
    generalize a / 4 = x at *
    generalize a % 4 = y at *
    go_enter Try.func152, Try.ntmps152
    go_wp2
    refine bodyPost_ret (v := .agg #[.int .i64 (p q y), .int .i64 (m q y)]) (by simp [results, Try.results152, go_sem, t0, t1]) rfl ?_
    refine ⟨by rw [E1.out, E2.out], ?_⟩
    first | exact ((Blw.refl _).alloc _).alloc _ | exact set2w_blw HB.out (by omega) _ _
  · have E1 : Hid (lfP c p a = 0) := lfP_no h0
    have E2 : Hid (lfP c m a = 0) := lfP_no h0
    have h0' : c (a / 4) < 0 := by omega
    clear h0 htop HL HGL rA rR
    generalize a / 4 = x at *
    generalize a % 4 = y at *
    generalize hcx : c x = cx at *
    go_enter Try.func152, Try.ntmps152
    go_wp2
    refine bodyPost_ret (v := .agg #[.int .i64 0, .int .i64 0]) (by simp [results, Try.results152, go_sem, t0, t1]) rfl ?_
    refine ⟨by rw [E1.out, E2.out], ?_⟩
    first | exact hb0 | exact ((Blw.refl _).alloc _).alloc _ | exact set2w_blw hb0 (by omega) _ _
end Go.Proofs.Ytbpdopcdhnemfaa
/- The leaf at a place: the program's. -/
namespace Go.Proofs.Ytbpdopcdhnemfaa
open Go.RowKit
set_option linter.unusedSimpArgs false
set_option linter.unusedVariables false
theorem row5_top {w : World} {z : Nat} {c : Nat → Int} {v : Value} (r : Row w z 5 (row5f c v)) {i : Nat} (hi : i < 4) : w.cell? ⟨z, i, none⟩ = some (.int .i64 (c i)) := by
  rw [r.cell (i := i) (by omega)]
  match i, hi with
  | 0, _ => rfl
  | 1, _ => rfl
  | 2, _ => rfl
  | 3, _ => rfl
theorem lc_at {w : World} {z n : Nat} {p m : Nat → Nat → Int} (r : Row w z (n * 8) (lc p m)) {k t : Nat} (hk : k < n) (ht : t < 4) : w.cell? ⟨z, k * 8 + t * 2, none⟩ = some (.int .i64 (p k t)) ∧ w.cell? ⟨z, k * 8 + t * 2 + 1, none⟩ = some (.int .i64 (m k t)) := by
  refine ⟨?_, ?_⟩
  · rw [r.cell (i := k * 8 + t * 2) (by omega)]
    unfold lc
    rw [if_pos (by omega), show (k * 8 + t * 2) / 8 = k by omega, show (k * 8 + t * 2) % 8 / 2 = t by omega]
  · rw [r.cell (i := k * 8 + t * 2 + 1) (by omega)]
    unfold lc
    rw [if_neg (by omega), show (k * 8 + t * 2 + 1) / 8 = k by omega, show (k * 8 + t * 2 + 1) % 8 / 2 = t by omega]
set_option maxRecDepth 10000 in
set_option maxHeartbeats 3200000 in
theorem leafAt_any (c : Nat → Int) (zl kn : Nat) (p m : Nat → Nat → Int) (a : Nat) (w : World) (hk : kn ≤ 4) (ht : ∀ i, i < 4 → -1 ≤ c i ∧ c i ≤ (kn : Int) - 1) (ha : a < 16) (h : Row w zl (kn * 8) (lc p m)) :
    Calls Try.prog 169 #[.agg (held5 c zl kn), .int .i64 a] w fun e w' => e = .returned (.agg #[.int .i64 (lfP c p a), .int .i64 (lfP c m a)]) ∧ Blw w w' := by
  have hb0 : Blw w ((w.alloc (.cells (held5 c zl kn) 136)).alloc (.cells #[.int .i64 0, .int .i64 0] 189)) := ((Blw.refl _).alloc _).alloc _
  have rA : Row ((w.alloc (.cells (held5 c zl kn) 136)).alloc (.cells #[.int .i64 0, .int .i64 0] 189)) w.heap.size 5 (row5f c (.slice (some ⟨zl, 0, none⟩) kn kn)) := (row5 w (.int .i64 (c 0)) (.int .i64 (c 1)) (.int .i64 (c 2)) (.int .i64 (c 3)) (.slice (some ⟨zl, 0, none⟩) kn kn) 136).blw ((Blw.refl _).alloc (.cells #[.int .i64 0, .int .i64 0] 189))
  have rR := box2 (w.alloc (.cells (held5 c zl kn) 136)) (.int .i64 0) (.int .i64 0) 189
  rw [World.size_alloc] at rR
  have rL := h.blw hb0
  have hd : Int.tdiv (a : Int) 4 = ((a / 4 : Nat) : Int) := by rw [Int.tdiv_eq_ediv_of_nonneg (by omega)]; rfl
  have hr : Int.tmod (a : Int) 4 = ((a % 4 : Nat) : Int) := by rw [Int.tmod_eq_emod_of_nonneg (by omega)]; rfl
  have hd4 : a / 4 < 4 := by omega
  have hr4 : a % 4 < 4 := by omega
  have g1 := row5_top rA hd4
  obtain ⟨-, -, -, -, g9⟩ := get5 rA
  have htop := ht (a / 4) hd4
  obtain ⟨t0, t1⟩ := get2 rR
  have f0 := rR.frozen 0
  have f1 := rR.frozen 1
  have hd4' : ((a / 4 : Nat) : Int) < 4 := by omega
  have hr4' : ((a % 4 : Nat) : Int) < 4 := by omega
  clear ht h rA rR
  by_cases h0 : 0 ≤ c (a / 4)
  · obtain ⟨q, hq⟩ : ∃ q : Nat, c (a / 4) = q := ⟨(c (a / 4)).toNat, by omega⟩
    have hqk : q < kn := by omega
    have hqk' : (q : Int) < (kn : Int) := by omega
    have E1 : Hid (lfP c p a = p q (a % 4)) := lfP_yes hq
    have E2 : Hid (lfP c m a = m q (a % 4)) := lfP_yes hq
    obtain ⟨g4, g5⟩ := lc_at rL hqk hr4
    have dq : ((q : Int) == -1) = false := by simp
    rw [hq] at g1
    clear h0 htop hq rL
    generalize a / 4 = x at *
    generalize a % 4 = y at *
    go_enter Try.func169, Try.ntmps169
    go_wp2
    refine bodyPost_ret (v := .agg #[.int .i64 (p q y), .int .i64 (m q y)]) (by simp [results, Try.results169, go_sem, t0, t1]) rfl ?_
    refine ⟨by rw [E1.out, E2.out], ?_⟩
    first | exact ((Blw.refl _).alloc _).alloc _ | exact set2w_blw hb0 (by omega) _ _
  · have E1 : Hid (lfP c p a = 0) := lfP_no h0
    have E2 : Hid (lfP c m a = 0) := lfP_no h0
    have hcm : c (a / 4) = -1 := by omega
    rw [hcm] at g1
    clear h0 htop rL hcm
    generalize a / 4 = x at *
    generalize a % 4 = y at *
    go_enter Try.func169, Try.ntmps169
    go_wp2
    refine bodyPost_ret (v := .agg #[.int .i64 0, .int .i64 0]) (by simp [results, Try.results169, go_sem, t0, t1]) rfl ?_
    refine ⟨by rw [E1.out, E2.out], ?_⟩
    first | exact hb0 | exact ((Blw.refl _).alloc _).alloc _ | exact set2w_blw hb0 (by omega) _ _
end Go.Proofs.Ytbpdopcdhnemfaa
/- WalkTo: the model's, the program's, and the law. -/
namespace Go.Proofs.Ytbpdopcdhnemfaa
open Go.RowKit
set_option linter.unusedSimpArgs false
set_option linter.unusedVariables false
def wtOK (B : BD) (a k : Int) : Prop := B.Good ∧ pgOK a ∧ mayOK k
/-- What a leaf may has all of k. -/
def hasMay (y k : Int) : Prop := bits .and .i64 y k = k
def wtOut (B : BD) (a k x y : Int) (r : Bool) : Prop := (¬ wtOK B a k ∧ x = 0 ∧ y = 0 ∧ r = false) ∨ (wtOK B a k ∧ y = lfP B.c B.D.m a.toNat ∧ ((hasMay (lfP B.c B.D.m a.toNat) k ∧ x = lfP B.c B.D.p a.toNat ∧ r = true) ∨ (¬ hasMay (lfP B.c B.D.m a.toNat) k ∧ x = 0 ∧ r = false)))
theorem wtOut_same {B : BD} {a k x y x' y' : Int} {r r' : Bool} (h : wtOut B a k x y r) (j : wtOut B a k x' y' r') : x = x' ∧ y = y' ∧ r = r' := by
  rcases h with ⟨g, rfl, rfl, rfl⟩ | ⟨g, rfl, h⟩
  · rcases j with ⟨_, rfl, rfl, rfl⟩ | ⟨g', _⟩
    · exact ⟨rfl, rfl, rfl⟩
    · exact absurd g' g
  · rcases j with ⟨g', _⟩ | ⟨_, rfl, j⟩
    · exact absurd g g'
    · rcases h with ⟨q, rfl, rfl⟩ | ⟨q, rfl, rfl⟩ <;> rcases j with ⟨q', rfl, rfl⟩ | ⟨q', rfl, rfl⟩
      · exact ⟨rfl, rfl, rfl⟩
      · exact absurd q q'
      · exact absurd q' q
      · exact ⟨rfl, rfl, rfl⟩
set_option maxHeartbeats 400000 in
theorem l6At_any (n : Int) (w : World) : Calls Try.prog 106 #[.int .i64 n] w fun e w' => ∃ r, e = .returned (.bool r) ∧ (r = true ↔ pgOK n) ∧ w' = w := by
  go_enter Try.func106, Try.ntmps106
  go_wp2_with fail
  refine (l1In_any n 0 15 _).mono ?_
  rintro e w' ⟨r, rfl, hr, hw⟩
  subst hw
  have HR : Hid (r = true ↔ pgOK n) := hr
  clear hr
  go_wp2
  go_ret
  exact ⟨r, rfl, HR.out, rfl⟩
set_option maxHeartbeats 3200000 in
theorem specWalk_any (b : BV) (B : BD) (a k : Int) (Y : Nat → Prop) (w : World) (hn : B.n ≤ 1048576) (h : BookAt Y w b B) :
    Calls Try.prog 90 #[b.val B, .int .i64 a, .int .i64 k] w fun e w' => ∃ x y r, e = .returned (.tuple #[.int .i64 x, .int .i64 y, .bool r]) ∧ wtOut B a k x y r ∧ Blw w w' := by
  have hb0 : Blw w (w.alloc (.cells #[.slice b.a1 B.n b.c1, .slice b.a2 B.D.n b.c2] 29)) := (Blw.refl _).alloc _
  have r0 := box2 w (.slice b.a1 B.n b.c1) (.slice b.a2 B.D.n b.c2) 29
  have HA : Hid (BookAt Y (w.alloc (.cells #[.slice b.a1 B.n b.c1, .slice b.a2 B.D.n b.c2] 29)) b B) := h.blw hb0
  clear h
  go_enter Try.func90, Try.ntmps90
  go_wp2_with fail
  refine (specGood_any b B Y _ hn HA.out).mono ?_
  rintro e w1 ⟨r, rfl, hr, hb1⟩
  have HT : Hid (r = true ↔ B.Good) := hr
  have HB : Hid (Blw w w1) := hb0.trans hb1
  have HR0 : Hid (Row w1 w.heap.size 2 (fun i => if i = 0 then .slice b.a1 B.n b.c1 else .slice b.a2 B.D.n b.c2)) := r0.blw hb1
  replace HA : Hid (BookAt Y w1 b B) := HA.out.blw hb1
  clear hr hb0 hb1 r0
  cases r
  · have HN : Hid (¬ B.Good) := fun g => by have := HT.out.2 g; simp at this
    clear HT
    go_wp2
    exact bodyPost_ret (v := .tuple #[.int .i64 0, .int .i64 0, .bool false]) (by simp [results, Try.results90, go_sem]) rfl ⟨_, _, _, rfl, Or.inl ⟨fun q => HN.out q.1, rfl, rfl, rfl⟩, HB.out⟩
  have HG : Hid (B.Good) := HT.out.1 (by first | rfl | trivial)
  clear HT
  go_wp2_with fail
  refine (l6At_any a _).mono ?_
  rintro e w1 ⟨r, rfl, hr, rfl⟩
  have HT : Hid (r = true ↔ pgOK a) := hr
  clear hr
  cases r
  · have HN : Hid (¬ pgOK a) := fun g => by have := HT.out.2 g; simp at this
    clear HT
    go_wp2
    exact bodyPost_ret (v := .tuple #[.int .i64 0, .int .i64 0, .bool false]) (by simp [results, Try.results90, go_sem]) rfl ⟨_, _, _, rfl, Or.inl ⟨fun q => HN.out q.2.1, rfl, rfl, rfl⟩, HB.out⟩
  have H1 : Hid (pgOK a) := HT.out.1 (by first | rfl | trivial)
  clear HT
  go_wp2_with fail
  refine (l1In_any k 1 3 _).mono ?_
  rintro e w1 ⟨r, rfl, hr, rfl⟩
  have HT : Hid (r = true ↔ (1 ≤ k ∧ k ≤ 3)) := hr
  clear hr
  cases r
  · have HN : Hid (¬ (1 ≤ k ∧ k ≤ 3)) := fun g => by have := HT.out.2 g; simp at this
    clear HT
    go_wp2
    exact bodyPost_ret (v := .tuple #[.int .i64 0, .int .i64 0, .bool false]) (by simp [results, Try.results90, go_sem]) rfl ⟨_, _, _, rfl, Or.inl ⟨fun q => HN.out q.2.2, rfl, rfl, rfl⟩, HB.out⟩
  have H2 : Hid (mayOK k) := HT.out.1 (by first | rfl | trivial)
  clear HT
  obtain ⟨n, c, ⟨kn, len, p, m⟩⟩ := B
  obtain ⟨a1, a2, q1, q2⟩ := b
  have hn4 : n = 4 := HG.out.n
  subst hn4
  simp only [BV.val] at *
  obtain ⟨x, hx, hx16⟩ : ∃ x : Nat, a = x ∧ x < 16 := ⟨a.toNat, by have := H1.out; unfold pgOK at this; omega, by have := H1.out; unfold pgOK at this; omega⟩
  subst hx
  obtain ⟨p0, p1⟩ := get2 HR0.out
  go_wp2_with fail
  clear p0 p1
  refine (l6Find_any ⟨a1, a2, q1, q2⟩ c kn len p m x Y _ HG.out hx16 HA.out).mono ?_
  rintro e w2 ⟨rfl, hb2⟩
  have hA : Blw w2 (w2.alloc (.cells #[.int .i64 (lfP c p x), .int .i64 (lfP c m x)] 189)) := (Blw.refl _).alloc _
  obtain ⟨l0, l1⟩ := get2 (box2 w2 (.int .i64 (lfP c p x)) (.int .i64 (lfP c m x)) 189)
  have L0 : ∀ w', Blw (w2.alloc (.cells #[.int .i64 (lfP c p x), .int .i64 (lfP c m x)] 189)) w' → w'.cell? ⟨w2.heap.size, 0, none⟩ = some (.int .i64 (lfP c p x)) := fun w' hh => hh.cell l0
  have L1 : ∀ w', Blw (w2.alloc (.cells #[.int .i64 (lfP c p x), .int .i64 (lfP c m x)] 189)) w' → w'.cell? ⟨w2.heap.size, 1, none⟩ = some (.int .i64 (lfP c m x)) := fun w' hh => hh.cell l1
  have HW : Hid (Blw w (w2.alloc (.cells #[.int .i64 (lfP c p x), .int .i64 (lfP c m x)] 189))) := (HB.out.trans hb2).trans hA
  have OKK : Hid (wtOK ⟨4, c, ⟨kn, len, p, m⟩⟩ (x : Int) k) := ⟨HG.out, H1.out, H2.out⟩
  clear hb2 hA
  by_cases hm : hasMay (lfP c m x) k
  · have HM : Hid (hasMay (lfP c m x) k) := hm
    have d1 : (bits .and .i64 (lfP c m x) k != k) = false := by rw [show bits .and .i64 (lfP c m x) k = k from hm]; simp
    clear hm
    go_wp2_with fail
    go_quiet (fail)
    go_wp2
    exact bodyPost_ret (v := .tuple #[.int .i64 (lfP c p x), .int .i64 (lfP c m x), .bool true]) (by simp [results, Try.results90, go_sem]) rfl ⟨_, _, _, rfl, Or.inr ⟨OKK.out, by rw [Int.toNat_natCast], Or.inl ⟨by rw [Int.toNat_natCast]; exact HM.out, by rw [Int.toNat_natCast], rfl⟩⟩, HW.out.drewN _⟩
  · have HM : Hid (¬ hasMay (lfP c m x) k) := hm
    have d1 : (bits .and .i64 (lfP c m x) k != k) = true := by simp; exact hm
    clear hm
    go_wp2_with fail
    go_quiet (fail)
    go_wp2
    exact bodyPost_ret (v := .tuple #[.int .i64 0, .int .i64 (lfP c m x), .bool false]) (by simp [results, Try.results90, go_sem]) rfl ⟨_, _, _, rfl, Or.inr ⟨OKK.out, by rw [Int.toNat_natCast], Or.inr ⟨by rw [Int.toNat_natCast]; exact HM.out, rfl, rfl⟩⟩, HW.out.drewN _⟩
/-- What a look-up in a held table tells. -/
def luOut (c : Nat → Int) (p m : Nat → Nat → Int) (a : Nat) (k x y : Int) (r : Bool) : Prop :=
  y = lfP c m a ∧ ((hasMay (lfP c m a) k ∧ x = lfP c p a ∧ r = true) ∨ (¬ hasMay (lfP c m a) k ∧ x = 0 ∧ r = false))
set_option maxHeartbeats 3200000 in
theorem lookUp_any (c : Nat → Int) (zl kn : Nat) (p m : Nat → Nat → Int) (a : Nat) (k : Int) (w : World) (hk : kn ≤ 4) (ht : ∀ i, i < 4 → -1 ≤ c i ∧ c i ≤ (kn : Int) - 1) (ha : a < 16) (h : Row w zl (kn * 8) (lc p m)) :
    Calls Try.prog 105 #[.agg (held5 c zl kn), .int .i64 a, .int .i64 k] w fun e w' => ∃ x y r, e = .returned (.tuple #[.int .i64 x, .int .i64 y, .bool r]) ∧ luOut c p m a k x y r ∧ Blw w w' := by
  have hA : Blw w (w.alloc (.cells (held5 c zl kn) 136)) := (Blw.refl _).alloc _
  have HR5 : Hid (Row (w.alloc (.cells (held5 c zl kn) 136)) w.heap.size 5 (row5f c (.slice (some ⟨zl, 0, none⟩) kn kn))) := row5 w (.int .i64 (c 0)) (.int .i64 (c 1)) (.int .i64 (c 2)) (.int .i64 (c 3)) (.slice (some ⟨zl, 0, none⟩) kn kn) 136
  have HRL : Hid (Row (w.alloc (.cells (held5 c zl kn) 136)) zl (kn * 8) (lc p m)) := h.blw hA
  have HB : Hid (Blw w (w.alloc (.cells (held5 c zl kn) 136))) := hA
  have HTT : Hid (∀ i, i < 4 → -1 ≤ c i ∧ c i ≤ (kn : Int) - 1) := ht
  clear h hA ht
  go_enter Try.func105, Try.ntmps105
  obtain ⟨p0, p1, p2, p3, p4⟩ := get5 HR5.out
  go_wp2_with fail
  clear p0 p1 p2 p3 p4
  refine (leafAt_any c zl kn p m a _ hk HTT.out ha HRL.out).mono ?_
  rintro e w3 ⟨rfl, hb2⟩
  have hA : Blw w3 (w3.alloc (.cells #[.int .i64 (lfP c p a), .int .i64 (lfP c m a)] 189)) := (Blw.refl _).alloc _
  obtain ⟨l0, l1⟩ := get2 (box2 w3 (.int .i64 (lfP c p a)) (.int .i64 (lfP c m a)) 189)
  have L0 : ∀ w', Blw (w3.alloc (.cells #[.int .i64 (lfP c p a), .int .i64 (lfP c m a)] 189)) w' → w'.cell? ⟨w3.heap.size, 0, none⟩ = some (.int .i64 (lfP c p a)) := fun w' hh => hh.cell l0
  have L1 : ∀ w', Blw (w3.alloc (.cells #[.int .i64 (lfP c p a), .int .i64 (lfP c m a)] 189)) w' → w'.cell? ⟨w3.heap.size, 1, none⟩ = some (.int .i64 (lfP c m a)) := fun w' hh => hh.cell l1
  have HW : Hid (Blw w (w3.alloc (.cells #[.int .i64 (lfP c p a), .int .i64 (lfP c m a)] 189))) := (HB.out.trans hb2).trans hA
  clear hb2 hA
  by_cases hm : hasMay (lfP c m a) k
  · have HM : Hid (hasMay (lfP c m a) k) := hm
    have d1 : (bits .and .i64 (lfP c m a) k != k) = false := by rw [show bits .and .i64 (lfP c m a) k = k from hm]; simp
    clear hm
    go_wp2_with fail
    go_quiet (fail)
    go_wp2
    exact bodyPost_ret (v := .tuple #[.int .i64 (lfP c p a), .int .i64 (lfP c m a), .bool true]) (by simp [results, Try.results105, go_sem]) rfl ⟨_, _, _, rfl, ⟨rfl, Or.inl ⟨HM.out, rfl, rfl⟩⟩, by first | exact HW.out.drewN _ | exact HW.out | exact HW.out.drew⟩
  · have HM : Hid (¬ hasMay (lfP c m a) k) := hm
    have d1 : (bits .and .i64 (lfP c m a) k != k) = true := by simp; exact hm
    clear hm
    go_wp2_with fail
    go_quiet (fail)
    go_wp2
    exact bodyPost_ret (v := .tuple #[.int .i64 0, .int .i64 (lfP c m a), .bool false]) (by simp [results, Try.results105, go_sem]) rfl ⟨_, _, _, rfl, ⟨rfl, Or.inr ⟨HM.out, rfl, rfl⟩⟩, by first | exact HW.out.drewN _ | exact HW.out | exact HW.out.drew⟩
set_option maxHeartbeats 3200000 in
theorem implWalk_any (b : BV) (B : BD) (a k : Int) (Y : Nat → Prop) (w : World) (h : BookAt Y w b B) (hY : ∀ x, Y x → x < w.heap.size) :
    Calls Try.prog 28 #[b.val B, .int .i64 a, .int .i64 k] w fun e w' => ∃ x y r, e = .returned (.tuple #[.int .i64 x, .int .i64 y, .bool r]) ∧ wtOut B a k x y r ∧ Blw w w' := by
  have hb0 : Blw w (w.alloc (.cells #[.slice b.a1 B.n b.c1, .slice b.a2 B.D.n b.c2] 29)) := (Blw.refl _).alloc _
  have HA : Hid (BookAt Y (w.alloc (.cells #[.slice b.a1 B.n b.c1, .slice b.a2 B.D.n b.c2] 29)) b B) := h.blw hb0
  clear h
  go_enter Try.func28, Try.ntmps28
  go_wp2_with fail
  refine (hold_any b B Y _ HA.out (fun x hx => by have := hY x hx; simp; omega)).mono ?_
  rintro e w1 ⟨h1, hb1⟩
  replace hb1 := hb0.trans hb1
  clear hb0 HA
  rcases h1 with ⟨z, hg, rfl, hrow, -⟩ | ⟨hg, rfl⟩
  case inr =>
    have HG : Hid (¬ B.Good) := hg
    have HB : Hid (Blw w (w1.alloc (.cells zero5 136))) := hb1.alloc _
    clear hg hb1
    go_wp2
    exact bodyPost_ret (v := .tuple #[.int .i64 0, .int .i64 0, .bool false]) (by simp [results, Try.results28, go_sem]) rfl ⟨_, _, _, rfl, Or.inl ⟨fun q => HG.out q.1, rfl, rfl, rfl⟩, HB.out⟩
  have HG : Hid B.Good := hg
  have hA : Blw w1 (w1.alloc (.cells (held5 B.c z B.D.n) 136)) := (Blw.refl _).alloc _
  have HR5 : Hid (Row (w1.alloc (.cells (held5 B.c z B.D.n) 136)) w1.heap.size 5 (row5f B.c (.slice (some ⟨z, 0, none⟩) B.D.n B.D.n))) := row5 w1 (.int .i64 (B.c 0)) (.int .i64 (B.c 1)) (.int .i64 (B.c 2)) (.int .i64 (B.c 3)) (.slice (some ⟨z, 0, none⟩) B.D.n B.D.n) 136
  have HB : Hid (Blw w (w1.alloc (.cells (held5 B.c z B.D.n) 136))) := hb1.trans hA
  have HRL : Hid (Row (w1.alloc (.cells (held5 B.c z B.D.n) 136)) z (B.D.n * 8) (lc B.D.p B.D.m)) := hrow.blw hA
  clear hg hA hb1 hrow
  go_wp2_with fail
  generalize w1.heap.size = z9 at *
  generalize w1.alloc (.cells (held5 B.c z B.D.n) 136) = w2 at *
  refine (isPlace_any a _).mono ?_
  rintro e w2 ⟨r, rfl, hr, rfl⟩
  have HT : Hid (r = true ↔ pgOK a) := hr
  clear hr
  cases r
  · have HN : Hid (¬ pgOK a) := fun g => by have := HT.out.2 g; simp at this
    clear HT
    go_wp2
    exact bodyPost_ret (v := .tuple #[.int .i64 0, .int .i64 0, .bool false]) (by simp [results, Try.results28, go_sem]) rfl ⟨_, _, _, rfl, Or.inl ⟨fun q => HN.out q.2.1, rfl, rfl, rfl⟩, HB.out⟩
  have H1 : Hid (pgOK a) := HT.out.1 (by first | rfl | trivial)
  clear HT
  go_wp2_with fail
  refine (isMay_any k _).mono ?_
  rintro e w2 ⟨r, rfl, hr, rfl⟩
  have HT : Hid (r = true ↔ mayOK k) := hr
  clear hr
  cases r
  · have HN : Hid (¬ mayOK k) := fun g => by have := HT.out.2 g; simp at this
    clear HT
    go_wp2
    exact bodyPost_ret (v := .tuple #[.int .i64 0, .int .i64 0, .bool false]) (by simp [results, Try.results28, go_sem]) rfl ⟨_, _, _, rfl, Or.inl ⟨fun q => HN.out q.2.2, rfl, rfl, rfl⟩, HB.out⟩
  have H2 : Hid (mayOK k) := HT.out.1 (by first | rfl | trivial)
  clear HT
  obtain ⟨n, c, ⟨kn, len, p, m⟩⟩ := B
  obtain ⟨a1, a2, q1, q2⟩ := b
  have hn4 : n = 4 := HG.out.n
  subst hn4
  have hk4 : kn ≤ 4 := HG.out.k.2
  simp only [BV.val] at *
  obtain ⟨x, hx, hx16⟩ : ∃ x : Nat, a = x ∧ x < 16 := ⟨a.toNat, by have := H1.out; unfold pgOK at this; omega, by have := H1.out; unfold pgOK at this; omega⟩
  subst hx
  obtain ⟨p0, p1, p2, p3, p4⟩ := get5 HR5.out
  go_wp2_with fail
  clear p0 p1 p2 p3 p4
  refine (lookUp_any c z kn p m x k _ hk4 (fun i hi => HG.out.top i hi) hx16 HRL.out).mono ?_
  rintro e w3 ⟨x3, y3, r3, rfl, hl, hb3⟩
  have FIN : Hid (∃ x' y' r', (Ending.returned (.tuple #[.int .i64 x3, .int .i64 y3, .bool r3])) = .returned (.tuple #[.int .i64 x', .int .i64 y', .bool r']) ∧ wtOut ⟨4, c, ⟨kn, len, p, m⟩⟩ (x : Int) k x' y' r' ∧ Blw w w3) :=
    ⟨x3, y3, r3, rfl, Or.inr ⟨⟨HG.out, H1.out, H2.out⟩, by rw [Int.toNat_natCast]; exact hl.1, by rw [Int.toNat_natCast]; exact hl.2⟩, HB.out.trans hb3⟩
  clear hl hb3 HB HRL HR5
  go_wp2
  exact bodyPost_ret (v := .tuple #[.int .i64 x3, .int .i64 y3, .bool r3]) (by simp [results, Try.results28, go_sem]) rfl FIN.out
end Go.Proofs.Ytbpdopcdhnemfaa
/- Lists of places that are gathered, and MappedIn. -/
namespace Go.Proofs.Ytbpdopcdhnemfaa
open Go.RowKit
set_option linter.unusedSimpArgs false
set_option linter.unusedVariables false
def lf (L : List Nat) : Nat → Int := fun i => (L.getD i 0 : Nat)
def pk (p : Nat → Bool) (j : Nat) : List Nat := (List.range j).filter p
theorem pk_len (p : Nat → Bool) (j : Nat) : (pk p j).length ≤ j := by
  have := List.length_filter_le p (List.range j)
  simpa [pk] using this
theorem pk_yes {p : Nat → Bool} {j : Nat} (h : p j = true) : pk p (j + 1) = pk p j ++ [j] := by
  unfold pk; rw [List.range_succ, List.filter_append]; simp [h]
theorem pk_no {p : Nat → Bool} {j : Nat} (h : p j = false) : pk p (j + 1) = pk p j := by
  unfold pk; rw [List.range_succ, List.filter_append]; simp [h]
/-- The slice holds the list. -/
def BufL (X : Nat → Prop) (w : World) (v : Value) (L : List Nat) : Prop := BufI X w v L.length (lf L)
theorem BufL.nil (X : Nat → Prop) (w : World) : BufL X w (.slice none 0 0) [] := Buf.nil _ _ _ _ _
theorem BufL.push {X : Nat → Prop} {W : World} {v : Value} {L : List Nat} (h : BufL X W v L) (hn : L.length ≤ 1048576) (x : Nat) :
    ∃ ao' cap w', (Builtin.append_ #[26, 26] 26 #[v, .slice (some ⟨W.heap.size, 0, none⟩) 1 1]).run Try.prog (W.alloc (.cells #[.int .i64 x] 3)) = .ok (.slice ao' (L.length + 1) cap) w' ∧ BufL (fun b => (X b ∨ W.heap.size < b) ∧ b < w'.heap.size) w' (.slice ao' (L.length + 1) cap) (L ++ [x]) ∧ Mod (fun b => v.ownBlock = some b) W w' := by
  obtain ⟨a, cap, w', h1, h2, h3⟩ := pushI h hn (x : Int)
  refine ⟨a, cap, w', h1, ?_, h3⟩
  unfold BufL
  rw [List.length_append, List.length_singleton]
  refine Buf.congr h2 (fun i hi => ?_)
  simp only [ic, snoc', lf]
  by_cases e : i = L.length
  · subst e; simp
  · have : i < L.length := by omega
    rw [if_neg e, List.getD_eq_getElem?_getD, List.getD_eq_getElem?_getD, List.getElem?_append_left this]
/-- What stands while places are gathered into a new list. -/
structure Gath (w wr : World) (v : Value) (L : List Nat) : Prop where
  buf : BufL (fun x => w.heap.size ≤ x ∧ x < wr.heap.size) wr v L
  blw : Blw w wr
theorem Gath.push {w wr : World} {v : Value} {L : List Nat} (h : Gath w wr v L) (hn : L.length ≤ 1048576) (x : Nat) :
    ∃ ao' cap w', (Builtin.append_ #[26, 26] 26 #[v, .slice (some ⟨wr.heap.size, 0, none⟩) 1 1]).run Try.prog (wr.alloc (.cells #[.int .i64 x] 3)) = .ok (.slice ao' (L.length + 1) cap) w' ∧ Gath w w' (.slice ao' (L.length + 1) cap) (L ++ [x]) := by
  obtain ⟨a, cap, w', h1, h2, h3⟩ := h.buf.push hn x
  have hs := h.blw.size
  have hx : ∀ b, v.ownBlock = some b → w.heap.size ≤ b := fun b hb => (h.buf.2 b hb).1
  refine ⟨a, cap, w', h1, ⟨Buf.mono h2 (fun b hb => ⟨?_, hb.2⟩), Mod.blw h.blw h3 (fun b hb => hx b hb)⟩⟩
  rcases hb.1 with h | h
  · exact h.1
  · omega
theorem Gath.go {w wr w' : World} {v : Value} {L : List Nat} (h : Gath w wr v L) (hb : Blw wr w') : Gath w w' v L :=
  ⟨(Buf.blw h.buf hb).mono (fun x hx => ⟨hx.1, Nat.lt_of_lt_of_le hx.2 hb.size⟩), h.blw.trans hb⟩
theorem Gath.own {w wr : World} {v : Value} {L : List Nat} (h : Gath w wr v L) (hn : L.length ≤ 1048576) : ∃ ao cap, v = .slice ao L.length cap ∧ IntsOwn (fun x => w.heap.size ≤ x ∧ x < wr.heap.size) wr ao L.length (lf L) := BufI.own h.buf (by omega)
theorem IntsAt.st {Y : Nat → Prop} {W : World} {ao : Option Addr} {n : Nat} {f : Nat → Int} (h : IntsAt Y W ao n f) (hY : ∀ b, Y b → b < W.heap.size) : St Y (fun W => IntsAt Y W ao n f) W :=
  ⟨hY, fun _ _ hm hx => h.mod hm hx⟩
theorem IntsOwn.st {Y : Nat → Prop} {W : World} {ao : Option Addr} {n : Nat} {f : Nat → Int} (h : IntsOwn Y W ao n f) (hY : ∀ b, Y b → b < W.heap.size) : St Y (fun W => IntsOwn Y W ao n f) W :=
  ⟨hY, fun _ _ hm hx => h.mod hm hx⟩
theorem zero_givesI {out : Nat → (Nat → Int) → Bool → Prop} {w w1 : World} (ho : out 0 (fun _ => 0) false) (hb : Blw w w1) : GivesI out w (.returned (.tuple #[.slice none 0 0, .bool false])) w1 :=
  ⟨none, 0, 0, fun _ => 0, false, rfl, ho, by omega, IntsOwn.nil _ _ _ _, hb⟩
theorem fieldMay (x y : Int) (w : World) : (Instr.field 189 (.agg #[.int .i64 x, .int .i64 y]) 1).run Try.prog w = .ok (.int .i64 y) w := by kernel_rfl
def mpP (c : Nat → Int) (m : Nat → Nat → Int) : Nat → Bool := fun a => decide (0 < lfP c m a)
def miOut (B : BD) (n : Nat) (f : Nat → Int) (r : Bool) : Prop := (B.Good ∧ n = (pk (mpP B.c B.D.m) 16).length ∧ f = lf (pk (mpP B.c B.D.m) 16) ∧ r = true) ∨ (¬ B.Good ∧ n = 0 ∧ r = false)
theorem miOut_same {B : BD} {n n' : Nat} {f f' : Nat → Int} {r r' : Bool} (h : miOut B n f r) (k : miOut B n' f' r') : (n = n' ∧ ∀ i, i < n → f i = f' i) ∧ r = r' := by
  rcases h with ⟨g, rfl, rfl, rfl⟩ | ⟨g, rfl, rfl⟩
  · rcases k with ⟨_, rfl, rfl, rfl⟩ | ⟨g', _, _⟩
    · exact ⟨⟨rfl, fun _ _ => rfl⟩, rfl⟩
    · exact absurd g g'
  · rcases k with ⟨g', _⟩ | ⟨_, rfl, rfl⟩
    · exact absurd g' g
    · exact ⟨⟨rfl, fun i hi => absurd hi (Nat.not_lt_zero _)⟩, rfl⟩
end Go.Proofs.Ytbpdopcdhnemfaa
