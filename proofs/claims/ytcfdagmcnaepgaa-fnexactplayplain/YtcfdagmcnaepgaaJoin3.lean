/- Merged by program, in this order: NewS, LawNew, Walk, LawWalk. -/
import Derived.Test.YtcfdagmcnaepgaaJoin2
/- New tables: the model's. -/
namespace Go.Proofs.Ytcfdagmcnaepgaa
open Go.RowKit
set_option linter.unusedSimpArgs false
set_option linter.unusedVariables false
theorem mkU4 (w : World) : (Instr.makeSlice 83 (.int .i64 4) (.int .i64 4)).run Try.prog w = .ok (.slice (some ⟨w.heap.size, 0, none⟩) 4 4) (w.alloc (.cells (madeCells #[.int .i64 0, .int .i64 0] 8) 78)) := mkUndos 4 (by omega) w
theorem uc_zero : uc (fun _ => 0) (fun _ => 0) = fun _ => Value.int .i64 0 := by
  funext i
  unfold uc
  split <;> rfl
theorem row_m1 (w : World) (t : TypeId) : Row (w.alloc (.cells #[.int .i64 (-1), .int .i64 (-1), .int .i64 (-1), .int .i64 (-1)] t)) w.heap.size 4 (fun _ => .int .i64 (-1)) :=
  ⟨_, t, heap_alloc_new _ _, by simp, fun i hi => by
    match i, hi with
    | 0, _ => rfl
    | 1, _ => rfl
    | 2, _ => rfl
    | 3, _ => rfl⟩
set_option maxRecDepth 10000 in
set_option maxHeartbeats 3200000 in
theorem specNew_any (k : Int) (w : World) : Calls Try.prog 33 #[.int .i64 k] w (GivesB (resT (cntOK k) (newB k)) w) := by
  have hb0 : Blw w (w.alloc (.cells #[.slice none 0 0, .slice none 0 0] 26)) := (Blw.refl _).alloc _
  have r0 := box2 w (.slice none 0 0) (.slice none 0 0) 26
  have hsz : (w.alloc (.cells #[.slice none 0 0, .slice none 0 0] 26)).heap.size = w.heap.size + 1 := by simp
  go_enter Try.func33, Try.ntmps33
  go_wp2_with fail
  revert hb0 r0 hsz
  generalize w.alloc (.cells #[.slice none 0 0, .slice none 0 0] 26) = w0
  intro hb0 r0 hsz
  refine (l1In_any k 1 4 _).mono ?_
  rintro e w0 ⟨r, rfl, hr, rfl⟩
  have HT : Hid (r = true ↔ cntOK k) := hr
  clear hr
  obtain ⟨t0, t1⟩ := get2 r0
  have f0 := r0.frozen 0
  have f1 := r0.frozen 1
  cases r
  · have HN : Hid (¬ cntOK k) := fun g => by have := HT.out.2 g; simp at this
    clear HT r0
    go_wp2
    exact bodyPost_ret (v := .tuple #[BV.zero.val BD.zero, .bool false]) (by simp [results, Try.results33, go_sem, t0, t1]) rfl (zero_givesT (z := w.heap.size) (Nat.le_refl _) (Or.inr ⟨HN.out, rfl, rfl⟩) hb0)
  have hc : cntOK k := HT.out.1 (by first | rfl | trivial)
  clear HT t0 t1 f0 f1
  obtain ⟨kn, hk, hk1, hk4⟩ : ∃ kn : Nat, k = kn ∧ 1 ≤ kn ∧ kn ≤ 4 := ⟨k.toNat, by unfold cntOK at hc; omega, by unfold cntOK at hc; omega, by unfold cntOK at hc; omega⟩
  subst hk
  have HC : Hid (cntOK (kn : Int)) := hc
  have hA1 : Blw w0 (w0.alloc (.cells #[.int .i64 (-1), .int .i64 (-1), .int .i64 (-1), .int .i64 (-1)] 3)) := (Blw.refl _).alloc _
  have hA2 : Blw (w0.alloc (.cells #[.int .i64 (-1), .int .i64 (-1), .int .i64 (-1), .int .i64 (-1)] 3)) ((w0.alloc (.cells #[.int .i64 (-1), .int .i64 (-1), .int .i64 (-1), .int .i64 (-1)] 3)).alloc (.cells #[.slice (some ⟨w0.heap.size, 0, none⟩) 4 4, .slice none 0 0] 26)) := (Blw.refl _).alloc _
  have hR4 := (row_m1 w0 3).blw hA2
  have hBX := box2 (w0.alloc (.cells #[.int .i64 (-1), .int .i64 (-1), .int .i64 (-1), .int .i64 (-1)] 3)) (.slice (some ⟨w0.heap.size, 0, none⟩) 4 4) (.slice none 0 0) 26
  rw [World.size_alloc] at hBX
  have hB := hb0.trans (hA1.trans hA2)
  have hR := r0.blw (hA1.trans hA2)
  have HZ : Hid (w0.heap.size = w.heap.size + 1) := hsz
  clear hc hb0 r0 hA1 hA2 hsz
  go_wp2_with fail
  revert hR4 hBX hB hR
  generalize ((w0.alloc (.cells #[.int .i64 (-1), .int .i64 (-1), .int .i64 (-1), .int .i64 (-1)] 3)).alloc (.cells #[.slice (some ⟨w0.heap.size, 0, none⟩) 4 4, .slice none 0 0] 26)) = W
  intro hR4 hBX hB hR
  go_loopw [0] (fun i wr => ∃ j : Nat, j ≤ kn ∧ i = .int .i64 ((kn : Int) - j) ∧ ∃ v A C ZB Z, Row wr (w0.heap.size + 1) 2 (fun i => if i = 0 then .slice (some ⟨w0.heap.size, 0, none⟩) 4 4 else v) ∧ Tl (w0.heap.size + 1 + 1) wr v j A C zz zz ZB Z ∧ Row wr w0.heap.size 4 (fun _ => .int .i64 (-1)) ∧ Row wr w.heap.size 2 (fun i => if i = 0 then .slice none 0 0 else .slice none 0 0) ∧ Blw w wr) (fun i _ => (intOf i).toNat)
  case atStart => exact ⟨0, Nat.zero_le _, by go_num, _, _, _, _, _, hBX, Tl.nil _ _ _ _, hR4, hR, hB⟩
  case round =>
    clear hR4 hBX hB hR
    obtain ⟨j, hj, rfl, v, A, C, ZB, Z, hbx, htl, hr4, hr, hb⟩ := hrel
    have HR4 : Hid (Row wr w0.heap.size 4 (fun _ => .int .i64 (-1))) := hr4
    have HR : Hid (Row wr w.heap.size 2 (fun i => if i = 0 then .slice none 0 0 else .slice none 0 0)) := hr
    have HB : Hid (Blw w wr) := hb
    have HTL : Hid (Tl (w0.heap.size + 1 + 1) wr v j A C zz zz ZB Z) := htl
    have HBX : Hid (Row wr (w0.heap.size + 1) 2 (fun i => if i = 0 then .slice (some ⟨w0.heap.size, 0, none⟩) 4 4 else v)) := hbx
    clear hr4 hr hb htl hbx
    by_cases hlt : j < kn
    · have hlt' : (kn : Int) - j > 0 := by omega
      go_upto_region 6 with fail
      replace HR4 : Hid (Row wr.drew w0.heap.size 4 (fun _ => .int .i64 (-1))) := HR4.out.blw (Blw.refl _).drew
      replace HR : Hid (Row wr.drew w.heap.size 2 (fun i => if i = 0 then .slice none 0 0 else .slice none 0 0)) := HR.out.blw (Blw.refl _).drew
      replace HB : Hid (Blw w wr.drew) := HB.out.drew
      replace HTL : Hid (Tl (w0.heap.size + 1 + 1) wr.drew v j A C zz zz ZB Z) := HTL.out.go (Blw.refl _).drew
      replace HBX : Hid (Row wr.drew (w0.heap.size + 1) 2 (fun i => if i = 0 then .slice (some ⟨w0.heap.size, 0, none⟩) 4 4 else v)) := HBX.out.blw (Blw.refl _).drew
      have P1 : ∀ w', Row w' (w0.heap.size + 1) 2 (fun i => if i = 0 then .slice (some ⟨w0.heap.size, 0, none⟩) 4 4 else v) → w'.cell? ⟨w0.heap.size + 1, 1, none⟩ = some v := fun w' hh => (get2 hh).2
      have hmk := mkU4
      have pa := P1 _ HBX.out
      have pb := P1 _ (HBX.out.blw ((Blw.refl wr.drew).alloc (.cells (madeCells #[.int .i64 0, .int .i64 0] 8) 78)))
      have pc := P1 _ (HBX.out.blw (((Blw.refl wr.drew).alloc (.cells (madeCells #[.int .i64 0, .int .i64 0] 8) 78)).alloc (.cells #[.slice (some ⟨wr.drew.heap.size, 0, none⟩) 4 4] 83)))
      refine wp_region_noPanic ?_
      refine wp_region_held_drew (S := fun _ => True) (by kernel_rfl) trivial (fun hB => ?_)
      clear hB
      generalize wr.drew = wd at *
      refine wpAnyH_take (i := 0) (oi := { dst := some 15, op := Op.fieldAddr 26 (Operand.tmp 4) 1, type := 0, pos := _, after := #[], guard := none }) (v := (.pointer (some ⟨w0.heap.size + 1, 1, none⟩))) rfl (by kernel_rfl) (by kernel_rfl) (by kernel_rfl) (fun _ _ _ h => h) (Or.inl ⟨by rfl, fun w' hS => by (try dsimp only at hS); go_simp⟩) trivial ?_
      simp only [Act.put, List.setIfInBounds_toArray, List.set_cons_zero, List.set_cons_succ]
      refine wpAnyH_ready (rs := [1, 2]) (by kernel_rfl) (by simp) ?_
      refine AllReadyH.cons (o := { dst := some 16, op := Op.load 24 (Operand.tmp 15), type := 24, pos := _, after := #[{ on := 0, ground := Ground.data }], guard := none }) rfl (fun K hK => ?_) (AllReadyH.cons (o := { dst := some 17, op := Op.makeSlice 83 (Operand.const (Value.int IntKind.i64 4)) (Operand.const (Value.int IntKind.i64 4)), type := 83, pos := _, after := #[], guard := none }) rfl (fun K hK => ?_) AllReadyH.nil)
      · go_simp
        refine hK.out _ _ trivial (fun hB => ?_)
        clear hK K hB
        try simp only [Act.put, List.setIfInBounds_toArray, List.set_cons_zero, List.set_cons_succ]
        refine wpAnyH_ready (rs := [2]) (by kernel_rfl) (by simp) ?_
        refine AllReadyH.cons (o := { dst := some 17, op := Op.makeSlice 83 (Operand.const (Value.int IntKind.i64 4)) (Operand.const (Value.int IntKind.i64 4)), type := 83, pos := _, after := #[], guard := none }) rfl (fun K hK => ?_) AllReadyH.nil
        go_simp
        refine hK.out _ _ trivial (fun hB => ?_)
        clear hK K hB
        try simp only [Act.put, List.setIfInBounds_toArray, List.set_cons_zero, List.set_cons_succ]
        refine wpAnyH_ready (rs := [3]) (by kernel_rfl) (by simp) ?_
        refine AllReadyH.cons (o := { dst := some 18, op := Op.buildSlice 24 1 #[(0, Operand.tmp 17)], type := 24, pos := _, after := #[{ on := 2, ground := Ground.data }], guard := none }) rfl (fun K hK => ?_) AllReadyH.nil
        go_simp
        refine hK.out _ _ trivial (fun hB => ?_)
        clear hK K hB
        try simp only [Act.put, List.setIfInBounds_toArray, List.set_cons_zero, List.set_cons_succ]
        refine wpAnyH_ready (rs := [4]) (by kernel_rfl) (by simp) ?_
        refine AllReadyH.cons (o := { dst := some 19, op := Op.call { callee := Callee.builtin Builtin.append, args := #[Operand.tmp 16, Operand.tmp 18], argTypes := #[24, 24] }, type := 24, pos := _, after := #[{ on := 1, ground := Ground.data }, { on := 3, ground := Ground.data }], guard := none }) rfl (fun K hK => ?_) AllReadyH.nil
        refine step_app (.tmp 16) (.tmp 18) 24 (by rfl) ?_
        obtain ⟨ao', cap', w2, ZB', hrun, htl2, hM⟩ := Tl.push (w1 := wd.alloc (.cells (madeCells #[.int .i64 0, .int .i64 0] 8) 78)) (s0 := wd.heap.size) (ao := some ⟨wd.heap.size, 0, none⟩) (cap := 4) HTL.out ((Blw.refl _).alloc _) (by have := HBX.out.lt; omega) (Nat.le_refl _) (by simp) ⟨by omega, fun _ => ⟨wd.heap.size, ⟨Nat.le_refl _, by simp⟩, rfl, (Row.made2 wd (.int .i64 0) 8 78).congr (fun i hi => by simp [uc])⟩⟩ (by omega)
        rw [World.size_alloc] at hrun
        refine ⟨_, _, hrun, ?_⟩
        have hbA : Blw wd (wd.alloc (.cells (madeCells #[.int .i64 0, .int .i64 0] 8) 78)) := (Blw.refl _).alloc _
        have hM2 := (hbA.mod ZB).trans hM
        have hzb : ∀ x, ZB x → w0.heap.size + 1 + 1 ≤ x := fun x hx => (HTL.out.zb x hx).1
        have r4' := HR4.out.mod hM2 (fun h => by have := hzb _ h; omega)
        have r0' := HR.out.mod hM2 (fun h => by have := hzb _ h; have := HZ.out; omega)
        have b' := Mod.blw HB.out hM2 (fun i hi => by have := hzb _ hi; have := HZ.out; omega)
        have hS3 := HBX.out.mod hM2 (fun h => by have := hzb _ h; omega)
        have ms : Mod (fun x => x = w0.heap.size + 1) w2 (w2.setCell ⟨w0.heap.size + 1, 1, none⟩ (.slice ao' (j + 1) cap')) := Mod.setCell (X := fun x => x = w0.heap.size + 1) _ (p := ⟨w0.heap.size + 1, 1, none⟩) rfl _
        have f1 := hS3.frozen 1
        have p1 := (get2 hS3).2
        refine hK.out _ _ trivial (fun hB => ?_)
        clear hK K hB
        try simp only [Act.put, List.setIfInBounds_toArray, List.set_cons_zero, List.set_cons_succ]
        refine wpAnyH_take (i := 5) (oi := { dst := some 20, op := Op.fieldAddr 26 (Operand.tmp 4) 1, type := 0, pos := _, after := #[{ on := 0, ground := Ground.phase }, { on := 1, ground := Ground.phase }, { on := 2, ground := Ground.phase }, { on := 3, ground := Ground.phase }, { on := 4, ground := Ground.phase }], guard := none }) (v := (.pointer (some ⟨w0.heap.size + 1, 1, none⟩))) rfl (by kernel_rfl) (by kernel_rfl) (by kernel_rfl) (fun _ _ _ h => h) (Or.inl ⟨by rfl, fun w' hS => by (try dsimp only at hS); go_simp⟩) trivial ?_
        simp only [Act.put, List.setIfInBounds_toArray, List.set_cons_zero, List.set_cons_succ]
        refine wpAnyH_ready (rs := [6]) (by kernel_rfl) (by simp) ?_
        refine AllReadyH.cons (o := { dst := none, op := Op.store 24 (Operand.tmp 20) (Operand.tmp 19), type := 0, pos := _, after := #[{ on := 5, ground := Ground.data }, { on := 4, ground := Ground.data }, { on := 4, ground := Ground.chain }, { on := 0, ground := Ground.phase }, { on := 1, ground := Ground.phase }, { on := 2, ground := Ground.phase }, { on := 3, ground := Ground.phase }, { on := 4, ground := Ground.phase }], guard := none }) rfl (fun K hK => ?_) AllReadyH.nil
        go_simp
        refine hK.out _ _ trivial (fun hB => ?_)
        clear hK K hB
        try simp only [Act.put, List.setIfInBounds_toArray, List.set_cons_zero, List.set_cons_succ]
        refine wpAnyH_done (by kernel_rfl) ?_ _
        refine NoPanic.normal ?_
        have HN : Hid (∃ v A C ZB Z, Row (w2.setCell ⟨w0.heap.size + 1, 1, none⟩ (.slice ao' (j + 1) cap')) (w0.heap.size + 1) 2 (fun i => if i = 0 then .slice (some ⟨w0.heap.size, 0, none⟩) 4 4 else v) ∧ Tl (w0.heap.size + 1 + 1) (w2.setCell ⟨w0.heap.size + 1, 1, none⟩ (.slice ao' (j + 1) cap')) v (j + 1) A C zz zz ZB Z ∧ Row (w2.setCell ⟨w0.heap.size + 1, 1, none⟩ (.slice ao' (j + 1) cap')) w0.heap.size 4 (fun _ => .int .i64 (-1)) ∧ Row (w2.setCell ⟨w0.heap.size + 1, 1, none⟩ (.slice ao' (j + 1) cap')) w.heap.size 2 (fun i => if i = 0 then .slice none 0 0 else .slice none 0 0) ∧ Blw w (w2.setCell ⟨w0.heap.size + 1, 1, none⟩ (.slice ao' (j + 1) cap'))) :=
          ⟨_, _, _, _, _, set2_1 hS3 (.slice ao' (j + 1) cap'), htl2.mod ms (fun x hx => by omega), r4'.mod ms (by omega), r0'.mod ms (by have := HZ.out; omega), Mod.blw b' ms (fun i hi => by have := HZ.out; omega)⟩
        clear hS3 htl2 r4' r0' b' ms HR4 HR HB HTL HBX P1 hmk pa pb pc hM hM2 hbA hzb f1 p1 hrun
        have e1 : (kn : Int) - j - 1 = (kn : Int) - ((j + 1 : Nat) : Int) := by omega
        go_wp2
        go_roundw
        case rel => exact ⟨j + 1, by omega, by go_num, HN.out⟩
        case measure => simp [intOf]; omega
      · go_simp
        refine hK.out _ _ trivial (fun hB => ?_)
        clear hK K hB
        try simp only [Act.put, List.setIfInBounds_toArray, List.set_cons_zero, List.set_cons_succ]
        refine wpAnyH_ready (rs := [1, 3]) (by kernel_rfl) (by simp) ?_
        refine AllReadyH.cons (o := { dst := some 16, op := Op.load 24 (Operand.tmp 15), type := 24, pos := _, after := #[{ on := 0, ground := Ground.data }], guard := none }) rfl (fun K hK => ?_) (AllReadyH.cons (o := { dst := some 18, op := Op.buildSlice 24 1 #[(0, Operand.tmp 17)], type := 24, pos := _, after := #[{ on := 2, ground := Ground.data }], guard := none }) rfl (fun K hK => ?_) AllReadyH.nil)
        · go_simp
          refine hK.out _ _ trivial (fun hB => ?_)
          clear hK K hB
          try simp only [Act.put, List.setIfInBounds_toArray, List.set_cons_zero, List.set_cons_succ]
          refine wpAnyH_ready (rs := [3]) (by kernel_rfl) (by simp) ?_
          refine AllReadyH.cons (o := { dst := some 18, op := Op.buildSlice 24 1 #[(0, Operand.tmp 17)], type := 24, pos := _, after := #[{ on := 2, ground := Ground.data }], guard := none }) rfl (fun K hK => ?_) AllReadyH.nil
          go_simp
          refine hK.out _ _ trivial (fun hB => ?_)
          clear hK K hB
          try simp only [Act.put, List.setIfInBounds_toArray, List.set_cons_zero, List.set_cons_succ]
          refine wpAnyH_ready (rs := [4]) (by kernel_rfl) (by simp) ?_
          refine AllReadyH.cons (o := { dst := some 19, op := Op.call { callee := Callee.builtin Builtin.append, args := #[Operand.tmp 16, Operand.tmp 18], argTypes := #[24, 24] }, type := 24, pos := _, after := #[{ on := 1, ground := Ground.data }, { on := 3, ground := Ground.data }], guard := none }) rfl (fun K hK => ?_) AllReadyH.nil
          refine step_app (.tmp 16) (.tmp 18) 24 (by rfl) ?_
          obtain ⟨ao', cap', w2, ZB', hrun, htl2, hM⟩ := Tl.push (w1 := wd.alloc (.cells (madeCells #[.int .i64 0, .int .i64 0] 8) 78)) (s0 := wd.heap.size) (ao := some ⟨wd.heap.size, 0, none⟩) (cap := 4) HTL.out ((Blw.refl _).alloc _) (by have := HBX.out.lt; omega) (Nat.le_refl _) (by simp) ⟨by omega, fun _ => ⟨wd.heap.size, ⟨Nat.le_refl _, by simp⟩, rfl, (Row.made2 wd (.int .i64 0) 8 78).congr (fun i hi => by simp [uc])⟩⟩ (by omega)
          rw [World.size_alloc] at hrun
          refine ⟨_, _, hrun, ?_⟩
          have hbA : Blw wd (wd.alloc (.cells (madeCells #[.int .i64 0, .int .i64 0] 8) 78)) := (Blw.refl _).alloc _
          have hM2 := (hbA.mod ZB).trans hM
          have hzb : ∀ x, ZB x → w0.heap.size + 1 + 1 ≤ x := fun x hx => (HTL.out.zb x hx).1
          have r4' := HR4.out.mod hM2 (fun h => by have := hzb _ h; omega)
          have r0' := HR.out.mod hM2 (fun h => by have := hzb _ h; have := HZ.out; omega)
          have b' := Mod.blw HB.out hM2 (fun i hi => by have := hzb _ hi; have := HZ.out; omega)
          have hS3 := HBX.out.mod hM2 (fun h => by have := hzb _ h; omega)
          have ms : Mod (fun x => x = w0.heap.size + 1) w2 (w2.setCell ⟨w0.heap.size + 1, 1, none⟩ (.slice ao' (j + 1) cap')) := Mod.setCell (X := fun x => x = w0.heap.size + 1) _ (p := ⟨w0.heap.size + 1, 1, none⟩) rfl _
          have f1 := hS3.frozen 1
          have p1 := (get2 hS3).2
          refine hK.out _ _ trivial (fun hB => ?_)
          clear hK K hB
          try simp only [Act.put, List.setIfInBounds_toArray, List.set_cons_zero, List.set_cons_succ]
          refine wpAnyH_take (i := 5) (oi := { dst := some 20, op := Op.fieldAddr 26 (Operand.tmp 4) 1, type := 0, pos := _, after := #[{ on := 0, ground := Ground.phase }, { on := 1, ground := Ground.phase }, { on := 2, ground := Ground.phase }, { on := 3, ground := Ground.phase }, { on := 4, ground := Ground.phase }], guard := none }) (v := (.pointer (some ⟨w0.heap.size + 1, 1, none⟩))) rfl (by kernel_rfl) (by kernel_rfl) (by kernel_rfl) (fun _ _ _ h => h) (Or.inl ⟨by rfl, fun w' hS => by (try dsimp only at hS); go_simp⟩) trivial ?_
          simp only [Act.put, List.setIfInBounds_toArray, List.set_cons_zero, List.set_cons_succ]
          refine wpAnyH_ready (rs := [6]) (by kernel_rfl) (by simp) ?_
          refine AllReadyH.cons (o := { dst := none, op := Op.store 24 (Operand.tmp 20) (Operand.tmp 19), type := 0, pos := _, after := #[{ on := 5, ground := Ground.data }, { on := 4, ground := Ground.data }, { on := 4, ground := Ground.chain }, { on := 0, ground := Ground.phase }, { on := 1, ground := Ground.phase }, { on := 2, ground := Ground.phase }, { on := 3, ground := Ground.phase }, { on := 4, ground := Ground.phase }], guard := none }) rfl (fun K hK => ?_) AllReadyH.nil
          go_simp
          refine hK.out _ _ trivial (fun hB => ?_)
          clear hK K hB
          try simp only [Act.put, List.setIfInBounds_toArray, List.set_cons_zero, List.set_cons_succ]
          refine wpAnyH_done (by kernel_rfl) ?_ _
          refine NoPanic.normal ?_
          have HN : Hid (∃ v A C ZB Z, Row (w2.setCell ⟨w0.heap.size + 1, 1, none⟩ (.slice ao' (j + 1) cap')) (w0.heap.size + 1) 2 (fun i => if i = 0 then .slice (some ⟨w0.heap.size, 0, none⟩) 4 4 else v) ∧ Tl (w0.heap.size + 1 + 1) (w2.setCell ⟨w0.heap.size + 1, 1, none⟩ (.slice ao' (j + 1) cap')) v (j + 1) A C zz zz ZB Z ∧ Row (w2.setCell ⟨w0.heap.size + 1, 1, none⟩ (.slice ao' (j + 1) cap')) w0.heap.size 4 (fun _ => .int .i64 (-1)) ∧ Row (w2.setCell ⟨w0.heap.size + 1, 1, none⟩ (.slice ao' (j + 1) cap')) w.heap.size 2 (fun i => if i = 0 then .slice none 0 0 else .slice none 0 0) ∧ Blw w (w2.setCell ⟨w0.heap.size + 1, 1, none⟩ (.slice ao' (j + 1) cap'))) :=
            ⟨_, _, _, _, _, set2_1 hS3 (.slice ao' (j + 1) cap'), htl2.mod ms (fun x hx => by omega), r4'.mod ms (by omega), r0'.mod ms (by have := HZ.out; omega), Mod.blw b' ms (fun i hi => by have := HZ.out; omega)⟩
          clear hS3 htl2 r4' r0' b' ms HR4 HR HB HTL HBX P1 hmk pa pb pc hM hM2 hbA hzb f1 p1 hrun
          have e1 : (kn : Int) - j - 1 = (kn : Int) - ((j + 1 : Nat) : Int) := by omega
          go_wp2
          go_roundw
          case rel => exact ⟨j + 1, by omega, by go_num, HN.out⟩
          case measure => simp [intOf]; omega
        · go_simp
          refine hK.out _ _ trivial (fun hB => ?_)
          clear hK K hB
          try simp only [Act.put, List.setIfInBounds_toArray, List.set_cons_zero, List.set_cons_succ]
          refine wpAnyH_ready (rs := [1]) (by kernel_rfl) (by simp) ?_
          refine AllReadyH.cons (o := { dst := some 16, op := Op.load 24 (Operand.tmp 15), type := 24, pos := _, after := #[{ on := 0, ground := Ground.data }], guard := none }) rfl (fun K hK => ?_) AllReadyH.nil
          go_simp
          refine hK.out _ _ trivial (fun hB => ?_)
          clear hK K hB
          try simp only [Act.put, List.setIfInBounds_toArray, List.set_cons_zero, List.set_cons_succ]
          refine wpAnyH_ready (rs := [4]) (by kernel_rfl) (by simp) ?_
          refine AllReadyH.cons (o := { dst := some 19, op := Op.call { callee := Callee.builtin Builtin.append, args := #[Operand.tmp 16, Operand.tmp 18], argTypes := #[24, 24] }, type := 24, pos := _, after := #[{ on := 1, ground := Ground.data }, { on := 3, ground := Ground.data }], guard := none }) rfl (fun K hK => ?_) AllReadyH.nil
          refine step_app (.tmp 16) (.tmp 18) 24 (by rfl) ?_
          obtain ⟨ao', cap', w2, ZB', hrun, htl2, hM⟩ := Tl.push (w1 := wd.alloc (.cells (madeCells #[.int .i64 0, .int .i64 0] 8) 78)) (s0 := wd.heap.size) (ao := some ⟨wd.heap.size, 0, none⟩) (cap := 4) HTL.out ((Blw.refl _).alloc _) (by have := HBX.out.lt; omega) (Nat.le_refl _) (by simp) ⟨by omega, fun _ => ⟨wd.heap.size, ⟨Nat.le_refl _, by simp⟩, rfl, (Row.made2 wd (.int .i64 0) 8 78).congr (fun i hi => by simp [uc])⟩⟩ (by omega)
          rw [World.size_alloc] at hrun
          refine ⟨_, _, hrun, ?_⟩
          have hbA : Blw wd (wd.alloc (.cells (madeCells #[.int .i64 0, .int .i64 0] 8) 78)) := (Blw.refl _).alloc _
          have hM2 := (hbA.mod ZB).trans hM
          have hzb : ∀ x, ZB x → w0.heap.size + 1 + 1 ≤ x := fun x hx => (HTL.out.zb x hx).1
          have r4' := HR4.out.mod hM2 (fun h => by have := hzb _ h; omega)
          have r0' := HR.out.mod hM2 (fun h => by have := hzb _ h; have := HZ.out; omega)
          have b' := Mod.blw HB.out hM2 (fun i hi => by have := hzb _ hi; have := HZ.out; omega)
          have hS3 := HBX.out.mod hM2 (fun h => by have := hzb _ h; omega)
          have ms : Mod (fun x => x = w0.heap.size + 1) w2 (w2.setCell ⟨w0.heap.size + 1, 1, none⟩ (.slice ao' (j + 1) cap')) := Mod.setCell (X := fun x => x = w0.heap.size + 1) _ (p := ⟨w0.heap.size + 1, 1, none⟩) rfl _
          have f1 := hS3.frozen 1
          have p1 := (get2 hS3).2
          refine hK.out _ _ trivial (fun hB => ?_)
          clear hK K hB
          try simp only [Act.put, List.setIfInBounds_toArray, List.set_cons_zero, List.set_cons_succ]
          refine wpAnyH_take (i := 5) (oi := { dst := some 20, op := Op.fieldAddr 26 (Operand.tmp 4) 1, type := 0, pos := _, after := #[{ on := 0, ground := Ground.phase }, { on := 1, ground := Ground.phase }, { on := 2, ground := Ground.phase }, { on := 3, ground := Ground.phase }, { on := 4, ground := Ground.phase }], guard := none }) (v := (.pointer (some ⟨w0.heap.size + 1, 1, none⟩))) rfl (by kernel_rfl) (by kernel_rfl) (by kernel_rfl) (fun _ _ _ h => h) (Or.inl ⟨by rfl, fun w' hS => by (try dsimp only at hS); go_simp⟩) trivial ?_
          simp only [Act.put, List.setIfInBounds_toArray, List.set_cons_zero, List.set_cons_succ]
          refine wpAnyH_ready (rs := [6]) (by kernel_rfl) (by simp) ?_
          refine AllReadyH.cons (o := { dst := none, op := Op.store 24 (Operand.tmp 20) (Operand.tmp 19), type := 0, pos := _, after := #[{ on := 5, ground := Ground.data }, { on := 4, ground := Ground.data }, { on := 4, ground := Ground.chain }, { on := 0, ground := Ground.phase }, { on := 1, ground := Ground.phase }, { on := 2, ground := Ground.phase }, { on := 3, ground := Ground.phase }, { on := 4, ground := Ground.phase }], guard := none }) rfl (fun K hK => ?_) AllReadyH.nil
          go_simp
          refine hK.out _ _ trivial (fun hB => ?_)
          clear hK K hB
          try simp only [Act.put, List.setIfInBounds_toArray, List.set_cons_zero, List.set_cons_succ]
          refine wpAnyH_done (by kernel_rfl) ?_ _
          refine NoPanic.normal ?_
          have HN : Hid (∃ v A C ZB Z, Row (w2.setCell ⟨w0.heap.size + 1, 1, none⟩ (.slice ao' (j + 1) cap')) (w0.heap.size + 1) 2 (fun i => if i = 0 then .slice (some ⟨w0.heap.size, 0, none⟩) 4 4 else v) ∧ Tl (w0.heap.size + 1 + 1) (w2.setCell ⟨w0.heap.size + 1, 1, none⟩ (.slice ao' (j + 1) cap')) v (j + 1) A C zz zz ZB Z ∧ Row (w2.setCell ⟨w0.heap.size + 1, 1, none⟩ (.slice ao' (j + 1) cap')) w0.heap.size 4 (fun _ => .int .i64 (-1)) ∧ Row (w2.setCell ⟨w0.heap.size + 1, 1, none⟩ (.slice ao' (j + 1) cap')) w.heap.size 2 (fun i => if i = 0 then .slice none 0 0 else .slice none 0 0) ∧ Blw w (w2.setCell ⟨w0.heap.size + 1, 1, none⟩ (.slice ao' (j + 1) cap'))) :=
            ⟨_, _, _, _, _, set2_1 hS3 (.slice ao' (j + 1) cap'), htl2.mod ms (fun x hx => by omega), r4'.mod ms (by omega), r0'.mod ms (by have := HZ.out; omega), Mod.blw b' ms (fun i hi => by have := HZ.out; omega)⟩
          clear hS3 htl2 r4' r0' b' ms HR4 HR HB HTL HBX P1 hmk pa pb pc hM hM2 hbA hzb f1 p1 hrun
          have e1 : (kn : Int) - j - 1 = (kn : Int) - ((j + 1 : Nat) : Int) := by omega
          go_wp2
          go_roundw
          case rel => exact ⟨j + 1, by omega, by go_num, HN.out⟩
          case measure => simp [intOf]; omega
    · obtain rfl : j = kn := by omega
      obtain ⟨ao, cap, rfl, own⟩ := HTL.out.ps (by omega)
      have hz := HZ.out
      have FIN : Hid _ := fin_givesT (out := resT (cntOK (j : Int)) (newB (j : Int))) (w := w) (W := wr) (z := w.heap.size) (b := ⟨some ⟨w0.heap.size, 0, none⟩, ao, 4, cap⟩) (R := newB (j : Int)) (Nat.le_refl _) (Or.inl ⟨HC.out, rfl, rfl⟩) (tot4 (c := fun _ => -1) (p := zz) (m := zz) hk4) HB.out
        (⟨fun x => x = w0.heap.size, fun x => w0.heap.size + 1 + 1 ≤ x ∧ x < wr.heap.size, fun x hx => ⟨⟨by omega, by have := HR4.out.lt; omega⟩, by omega⟩, fun x hx => ⟨by omega, hx.2⟩, ⟨by show 4 ≤ _; omega, fun _ => ⟨_, rfl, rfl, HR4.out⟩⟩, own⟩ : BookOwn (fun x => w.heap.size < x ∧ x < wr.heap.size) wr ⟨some ⟨w0.heap.size, 0, none⟩, ao, 4, cap⟩ (newB (j : Int))) (fun x hx => ⟨by omega, by omega, hx.2⟩)
      obtain ⟨t0, t1⟩ := get2 HR.out
      obtain ⟨s0, s1⟩ := get2 HBX.out
      have f0 := HR.out.frozen 0
      have f1 := HR.out.frozen 1
      clear own HTL HR4 HR HB HBX hz
      go_wp2
      exact bodyPost_ret (v := .tuple #[(BV.mk (some ⟨w0.heap.size, 0, none⟩) ao 4 cap).val (newB (j : Int)), .bool true]) (by simp [results, Try.results33, go_sem, t0, t1]) rfl FIN.out
end Go.Proofs.Ytcfdagmcnaepgaa
/- The law on NewTable. -/
namespace Go.Proofs.Ytcfdagmcnaepgaa
open Go.RowKit
set_option linter.unusedSimpArgs false
set_option linter.unusedVariables false
set_option maxRecDepth 10000 in
set_option maxHeartbeats 3200000 in
theorem lawNewP (k : Int) (w : World) : Calls Try.prog 5 #[.int .i64 k] w fun e w' => e = .returned (.bool true) ∧ Blw w w' := by
  go_enter Try.func5, Try.ntmps5
  go_wp2_with fail
  refine (specNew_any k _).mono ?_
  rintro e w1 ⟨b1, R, r, rfl, ho, hs, own1, hb1⟩
  have HO : Hid (resT (cntOK k) (newB k) R r) := ho
  have HS : Hid (R.n + (R.D.n + R.D.tot) ≤ 1048576) := hs
  have hA1 : Blw w1 (w1.alloc (.cells #[.slice b1.a1 R.n b1.c1, .slice b1.a2 R.D.n b1.c2] 26)) := (Blw.refl _).alloc _
  have H1 : Hid (St (fun x => x < w1.heap.size + 1) (BB (fun x => x < w1.heap.size + 1) w1.heap.size b1 R R) (w1.alloc (.cells #[.slice b1.a1 R.n b1.c1, .slice b1.a2 R.D.n b1.c2] 26))) := BB.st ⟨(own1.blw hA1).mono (fun x hx => ⟨by omega, by omega⟩), box2 w1 _ _ 26⟩ (by omega) (fun x hx => by simp; omega)
  have HB : Hid (Blw w (w1.alloc (.cells #[.slice b1.a1 R.n b1.c1, .slice b1.a2 R.D.n b1.c2] 26))) := hb1.trans hA1
  have HZ1 : Hid (w.heap.size ≤ w1.heap.size) := hb1.size
  clear own1 hb1 hA1 ho hs
  go_wp2_with fail
  refine (implNew_any k _).mono ?_
  rintro e w2 ⟨b2, R2, r2, rfl, ho2, -, own2, hb2⟩
  obtain ⟨eR, er⟩ := resT_same ho2 HO.out
  subst eR er
  have hA2 : Blw w2 (w2.alloc (.cells #[.slice b2.a1 R2.n b2.c1, .slice b2.a2 R2.D.n b2.c2] 26)) := (Blw.refl _).alloc _
  have hz2 := hb2.size
  rw [World.size_alloc] at hz2 own2
  have H2 : Hid (St (fun x => w1.heap.size + 1 ≤ x ∧ x < w2.heap.size + 1) (BB (fun x => w1.heap.size + 1 ≤ x ∧ x < w2.heap.size + 1) w2.heap.size b2 R2 R2) (w2.alloc (.cells #[.slice b2.a1 R2.n b2.c1, .slice b2.a2 R2.D.n b2.c2] 26))) := BB.st ⟨(own2.blw hA2).mono (fun x hx => ⟨⟨by omega, by omega⟩, by omega⟩), box2 w2 _ _ 26⟩ ⟨hz2, by omega⟩ (fun x hx => by simp; omega)
  replace H1 : Hid (St (fun x => x < w1.heap.size + 1) (BB (fun x => x < w1.heap.size + 1) w1.heap.size b1 R2 R2) (w2.alloc (.cells #[.slice b2.a1 R2.n b2.c1, .slice b2.a2 R2.D.n b2.c2] 26))) := H1.out.blw (hb2.trans hA2)
  replace HB : Hid (Blw w (w2.alloc (.cells #[.slice b2.a1 R2.n b2.c1, .slice b2.a2 R2.D.n b2.c2] 26))) := HB.out.trans (hb2.trans hA2)
  have HZ2 : Hid (w1.heap.size + 1 ≤ w2.heap.size) := hz2
  clear own2 hb2 hA2 hz2 ho2
  have hne : (r2 != r2) = false := by simp
  obtain ⟨s0, s1⟩ := get2 H1.out.out.box
  go_wp2_with fail
  clear s0 s1
  refine (eqBook_same b2 b1 R2 _ H2.out.out.own.at H1.out.out.own.at).mono ?_
  rintro e w3 ⟨rfl, hb3⟩
  replace H1 : Hid (St _ _ w3) := H1.out.blw hb3
  replace H2 : Hid (St _ _ w3) := H2.out.blw hb3
  replace HB : Hid (Blw w w3) := HB.out.trans hb3
  clear hb3
  have HZ1' := HZ1
  generalize w1.heap.size = z1 at *
  generalize w2.heap.size = z2 at *
  clear w1 w2
  obtain ⟨p0, p1⟩ := get2 H2.out.out.box
  go_wp2_with fail
  clear p0 p1
  refine (markBook_any b2 R2 _ _ HS.out (fun x hx => H2.out.1 x hx.1) H2.out.out.own).mono ?_
  rintro e w4 ⟨rfl, own4, hm4⟩
  have bx4 := H2.out.out.box.mod hm4 (fun hh => hh.2 rfl)
  have h4 := hm4.size
  have hz := HZ2.out
  have hz1 := HZ1.out
  replace HB : Hid (Blw w w4) := Mod.blw HB.out hm4 (fun i hi => by omega)
  replace H1 : Hid (St _ _ w4) := H1.out.mod hm4 (fun x hx hh => by have h1 : x < z1 + 1 := hx; omega)
  replace H2 : Hid (St (fun x => z1 + 1 ≤ x ∧ x < z2 + 1) (BB (fun x => z1 + 1 ≤ x ∧ x < z2 + 1) z2 b2 R2 (R2.marked 1)) w4) := BB.st ⟨own4, bx4⟩ ⟨hz, by omega⟩ (fun x hx => Nat.lt_of_lt_of_le (H2.out.1 x hx) h4)
  have htR : R2.total ≤ 2097152 := by have := HS.out; unfold BD.total; omega
  have k1 : ¬ (1 + (R2.total : Int) < 0) := by omega
  have k2 : ((1 + (R2.total : Int)) != (1 + (R2.total : Int))) = false := by simp
  clear own4 hm4 bx4 h4 hz hz1
  obtain ⟨p0, p1⟩ := get2 H2.out.out.box
  go_wp2_with fail
  clear p0 p1
  refine (heldBook_any b2 R2 _ _ HS.out H2.out.out.own).mono ?_
  rintro e w5 ⟨rfl, hb5⟩
  replace H1 : Hid (St _ _ w5) := H1.out.blw hb5
  replace H2 : Hid (St _ _ w5) := H2.out.blw hb5
  replace HB : Hid (Blw w w5) := HB.out.trans hb5
  clear hb5
  go_wp2_with fail
  refine (implNew_any k _).mono ?_
  rintro e w6 ⟨b6, R6, r6, rfl, ho6, -, own6, hb6⟩
  obtain ⟨eR, er⟩ := resT_same ho6 HO.out
  subst eR er
  have hA6 : Blw w6 (w6.alloc (.cells #[.slice b6.a1 R6.n b6.c1, .slice b6.a2 R6.D.n b6.c2] 26)) := (Blw.refl _).alloc _
  replace H1 : Hid (St _ _ (w6.alloc (.cells #[.slice b6.a1 R6.n b6.c1, .slice b6.a2 R6.D.n b6.c2] 26))) := H1.out.blw (hb6.trans hA6)
  replace H2 : Hid (St _ _ (w6.alloc (.cells #[.slice b6.a1 R6.n b6.c1, .slice b6.a2 R6.D.n b6.c2] 26))) := H2.out.blw (hb6.trans hA6)
  replace HB : Hid (Blw w (w6.alloc (.cells #[.slice b6.a1 R6.n b6.c1, .slice b6.a2 R6.D.n b6.c2] 26))) := HB.out.trans (hb6.trans hA6)
  have H6 : Hid (BookOwn _ (w6.alloc (.cells #[.slice b6.a1 R6.n b6.c1, .slice b6.a2 R6.D.n b6.c2] 26)) b6 R6) := own6.blw hA6
  clear own6 hb6 hA6 ho6
  obtain ⟨s0, s1⟩ := get2 H1.out.out.box
  go_wp2_with fail
  clear s0 s1
  refine (eqBook_same b6 b1 R6 _ H6.out.at H1.out.out.own.at).mono ?_
  rintro e w7 ⟨rfl, hb7⟩
  replace H2 : Hid (St _ _ w7) := H2.out.blw hb7
  replace HB : Hid (Blw w w7) := HB.out.trans hb7
  clear hb7 H6 H1
  obtain ⟨p0, p1⟩ := get2 H2.out.out.box
  go_wp2_with fail
  clear p0 p1
  refine (heldBook_any b2 R6 _ _ HS.out H2.out.out.own).mono ?_
  rintro e w8 ⟨rfl, hb8⟩
  replace HB : Hid (Blw w w8) := HB.out.trans hb8
  clear hb8
  go_wp2
  go_ret
  exact ⟨rfl, HB.out⟩
end Go.Proofs.Ytcfdagmcnaepgaa
/- WalkTo: the model's, the program's, and the law. -/
namespace Go.Proofs.Ytcfdagmcnaepgaa
open Go.RowKit
set_option linter.unusedSimpArgs false
set_option linter.unusedVariables false
def wtOK (B : BD) (a k : Int) : Prop := B.Good ∧ pgOK a ∧ mayOK k
/-- What a leaf may has all of k. -/
def hasMay (y k : Int) : Prop := bits .and .i64 y k = k
def wtOut (B : BD) (a k x y : Int) (r : Bool) : Prop := (¬ wtOK B a k ∧ x = 0 ∧ y = 0 ∧ r = false) ∨ (wtOK B a k ∧ y = lfP B.c B.D.m a.toNat ∧ ((hasMay (lfP B.c B.D.m a.toNat) k ∧ x = lfP B.c B.D.p a.toNat ∧ r = true) ∨ (¬ hasMay (lfP B.c B.D.m a.toNat) k ∧ x = 0 ∧ r = false)))
theorem wtOut_same {B : BD} {a k x y x' y' : Int} {r r' : Bool} (h : wtOut B a k x y r) (j : wtOut B a k x' y' r') : x = x' ∧ y = y' ∧ r = r' := by
  rcases h with ⟨g, rfl, rfl, rfl⟩ | ⟨g, rfl, h⟩
  · rcases j with ⟨_, rfl, rfl, rfl⟩ | ⟨g', _⟩
    · exact ⟨rfl, rfl, rfl⟩
    · exact absurd g' g
  · rcases j with ⟨g', _⟩ | ⟨_, rfl, j⟩
    · exact absurd g g'
    · rcases h with ⟨q, rfl, rfl⟩ | ⟨q, rfl, rfl⟩ <;> rcases j with ⟨q', rfl, rfl⟩ | ⟨q', rfl, rfl⟩
      · exact ⟨rfl, rfl, rfl⟩
      · exact absurd q q'
      · exact absurd q' q
      · exact ⟨rfl, rfl, rfl⟩
set_option maxHeartbeats 400000 in
theorem l6At_any (n : Int) (w : World) : Calls Try.prog 56 #[.int .i64 n] w fun e w' => ∃ r, e = .returned (.bool r) ∧ (r = true ↔ pgOK n) ∧ w' = w := by
  go_enter Try.func56, Try.ntmps56
  go_wp2_with fail
  refine (l1In_any n 0 15 _).mono ?_
  rintro e w' ⟨r, rfl, hr, hw⟩
  subst hw
  have HR : Hid (r = true ↔ pgOK n) := hr
  clear hr
  go_wp2
  go_ret
  exact ⟨r, rfl, HR.out, rfl⟩
set_option maxHeartbeats 3200000 in
theorem specWalk_any (b : BV) (B : BD) (a k : Int) (Y : Nat → Prop) (w : World) (hn : B.n ≤ 1048576) (h : BookAt Y w b B) :
    Calls Try.prog 18 #[b.val B, .int .i64 a, .int .i64 k] w fun e w' => ∃ x y r, e = .returned (.tuple #[.int .i64 x, .int .i64 y, .bool r]) ∧ wtOut B a k x y r ∧ Blw w w' := by
  have hb0 : Blw w (w.alloc (.cells #[.slice b.a1 B.n b.c1, .slice b.a2 B.D.n b.c2] 26)) := (Blw.refl _).alloc _
  have r0 := box2 w (.slice b.a1 B.n b.c1) (.slice b.a2 B.D.n b.c2) 26
  have HA : Hid (BookAt Y (w.alloc (.cells #[.slice b.a1 B.n b.c1, .slice b.a2 B.D.n b.c2] 26)) b B) := h.blw hb0
  clear h
  go_enter Try.func18, Try.ntmps18
  go_wp2_with fail
  refine (specGood_any b B Y _ hn HA.out).mono ?_
  rintro e w1 ⟨r, rfl, hr, hb1⟩
  have HT : Hid (r = true ↔ B.Good) := hr
  have HB : Hid (Blw w w1) := hb0.trans hb1
  have HR0 : Hid (Row w1 w.heap.size 2 (fun i => if i = 0 then .slice b.a1 B.n b.c1 else .slice b.a2 B.D.n b.c2)) := r0.blw hb1
  replace HA : Hid (BookAt Y w1 b B) := HA.out.blw hb1
  clear hr hb0 hb1 r0
  cases r
  · have HN : Hid (¬ B.Good) := fun g => by have := HT.out.2 g; simp at this
    clear HT
    go_wp2
    exact bodyPost_ret (v := .tuple #[.int .i64 0, .int .i64 0, .bool false]) (by simp [results, Try.results18, go_sem]) rfl ⟨_, _, _, rfl, Or.inl ⟨fun q => HN.out q.1, rfl, rfl, rfl⟩, HB.out⟩
  have HG : Hid (B.Good) := HT.out.1 (by first | rfl | trivial)
  clear HT
  go_wp2_with fail
  refine (l6At_any a _).mono ?_
  rintro e w1 ⟨r, rfl, hr, rfl⟩
  have HT : Hid (r = true ↔ pgOK a) := hr
  clear hr
  cases r
  · have HN : Hid (¬ pgOK a) := fun g => by have := HT.out.2 g; simp at this
    clear HT
    go_wp2
    exact bodyPost_ret (v := .tuple #[.int .i64 0, .int .i64 0, .bool false]) (by simp [results, Try.results18, go_sem]) rfl ⟨_, _, _, rfl, Or.inl ⟨fun q => HN.out q.2.1, rfl, rfl, rfl⟩, HB.out⟩
  have H1 : Hid (pgOK a) := HT.out.1 (by first | rfl | trivial)
  clear HT
  go_wp2_with fail
  refine (l1In_any k 1 3 _).mono ?_
  rintro e w1 ⟨r, rfl, hr, rfl⟩
  have HT : Hid (r = true ↔ (1 ≤ k ∧ k ≤ 3)) := hr
  clear hr
  cases r
  · have HN : Hid (¬ (1 ≤ k ∧ k ≤ 3)) := fun g => by have := HT.out.2 g; simp at this
    clear HT
    go_wp2
    exact bodyPost_ret (v := .tuple #[.int .i64 0, .int .i64 0, .bool false]) (by simp [results, Try.results18, go_sem]) rfl ⟨_, _, _, rfl, Or.inl ⟨fun q => HN.out q.2.2, rfl, rfl, rfl⟩, HB.out⟩
  have H2 : Hid (mayOK k) := HT.out.1 (by first | rfl | trivial)
  clear HT
  obtain ⟨n, c, ⟨kn, len, p, m⟩⟩ := B
  obtain ⟨a1, a2, q1, q2⟩ := b
  have hn4 : n = 4 := HG.out.n
  subst hn4
  simp only [BV.val] at *
  obtain ⟨x, hx, hx16⟩ : ∃ x : Nat, a = x ∧ x < 16 := ⟨a.toNat, by have := H1.out; unfold pgOK at this; omega, by have := H1.out; unfold pgOK at this; omega⟩
  subst hx
  obtain ⟨p0, p1⟩ := get2 HR0.out
  go_wp2_with fail
  clear p0 p1
  refine (l6Find_any ⟨a1, a2, q1, q2⟩ c kn len p m x Y _ HG.out hx16 HA.out).mono ?_
  rintro e w2 ⟨rfl, hb2⟩
  have hA : Blw w2 (w2.alloc (.cells #[.int .i64 (lfP c p x), .int .i64 (lfP c m x)] 78)) := (Blw.refl _).alloc _
  obtain ⟨l0, l1⟩ := get2 (box2 w2 (.int .i64 (lfP c p x)) (.int .i64 (lfP c m x)) 78)
  have L0 : ∀ w', Blw (w2.alloc (.cells #[.int .i64 (lfP c p x), .int .i64 (lfP c m x)] 78)) w' → w'.cell? ⟨w2.heap.size, 0, none⟩ = some (.int .i64 (lfP c p x)) := fun w' hh => hh.cell l0
  have L1 : ∀ w', Blw (w2.alloc (.cells #[.int .i64 (lfP c p x), .int .i64 (lfP c m x)] 78)) w' → w'.cell? ⟨w2.heap.size, 1, none⟩ = some (.int .i64 (lfP c m x)) := fun w' hh => hh.cell l1
  have HW : Hid (Blw w (w2.alloc (.cells #[.int .i64 (lfP c p x), .int .i64 (lfP c m x)] 78))) := (HB.out.trans hb2).trans hA
  have OKK : Hid (wtOK ⟨4, c, ⟨kn, len, p, m⟩⟩ (x : Int) k) := ⟨HG.out, H1.out, H2.out⟩
  clear hb2 hA
  by_cases hm : hasMay (lfP c m x) k
  · have HM : Hid (hasMay (lfP c m x) k) := hm
    have d1 : (bits .and .i64 (lfP c m x) k != k) = false := by rw [show bits .and .i64 (lfP c m x) k = k from hm]; simp
    clear hm
    go_wp2_with fail
    go_quiet (fail)
    go_wp2
    exact bodyPost_ret (v := .tuple #[.int .i64 (lfP c p x), .int .i64 (lfP c m x), .bool true]) (by simp [results, Try.results18, go_sem]) rfl ⟨_, _, _, rfl, Or.inr ⟨OKK.out, by rw [Int.toNat_natCast], Or.inl ⟨by rw [Int.toNat_natCast]; exact HM.out, by rw [Int.toNat_natCast], rfl⟩⟩, HW.out.drewN _⟩
  · have HM : Hid (¬ hasMay (lfP c m x) k) := hm
    have d1 : (bits .and .i64 (lfP c m x) k != k) = true := by simp; exact hm
    clear hm
    go_wp2_with fail
    go_quiet (fail)
    go_wp2
    exact bodyPost_ret (v := .tuple #[.int .i64 0, .int .i64 (lfP c m x), .bool false]) (by simp [results, Try.results18, go_sem]) rfl ⟨_, _, _, rfl, Or.inr ⟨OKK.out, by rw [Int.toNat_natCast], Or.inr ⟨by rw [Int.toNat_natCast]; exact HM.out, rfl, rfl⟩⟩, HW.out.drewN _⟩
/-- What a look-up in a held table tells. -/
def luOut (c : Nat → Int) (p m : Nat → Nat → Int) (a : Nat) (k x y : Int) (r : Bool) : Prop :=
  y = lfP c m a ∧ ((hasMay (lfP c m a) k ∧ x = lfP c p a ∧ r = true) ∨ (¬ hasMay (lfP c m a) k ∧ x = 0 ∧ r = false))
set_option maxHeartbeats 3200000 in
theorem lookUp_any (c : Nat → Int) (zl kn : Nat) (p m : Nat → Nat → Int) (a : Nat) (k : Int) (w : World) (hk : kn ≤ 4) (ht : ∀ i, i < 4 → -1 ≤ c i ∧ c i ≤ (kn : Int) - 1) (ha : a < 16) (h : Row w zl (kn * 8) (lc p m)) :
    Calls Try.prog 65 #[.agg (held5 c zl kn), .int .i64 a, .int .i64 k] w fun e w' => ∃ x y r, e = .returned (.tuple #[.int .i64 x, .int .i64 y, .bool r]) ∧ luOut c p m a k x y r ∧ Blw w w' := by
  have hA : Blw w (w.alloc (.cells (held5 c zl kn) 87)) := (Blw.refl _).alloc _
  have HR5 : Hid (Row (w.alloc (.cells (held5 c zl kn) 87)) w.heap.size 5 (row5f c (.slice (some ⟨zl, 0, none⟩) kn kn))) := row5 w (.int .i64 (c 0)) (.int .i64 (c 1)) (.int .i64 (c 2)) (.int .i64 (c 3)) (.slice (some ⟨zl, 0, none⟩) kn kn) 87
  have HRL : Hid (Row (w.alloc (.cells (held5 c zl kn) 87)) zl (kn * 8) (lc p m)) := h.blw hA
  have HB : Hid (Blw w (w.alloc (.cells (held5 c zl kn) 87))) := hA
  have HTT : Hid (∀ i, i < 4 → -1 ≤ c i ∧ c i ≤ (kn : Int) - 1) := ht
  clear h hA ht
  go_enter Try.func65, Try.ntmps65
  obtain ⟨p0, p1, p2, p3, p4⟩ := get5 HR5.out
  go_wp2_with fail
  clear p0 p1 p2 p3 p4
  refine (leafAt_any c zl kn p m a _ hk HTT.out ha HRL.out).mono ?_
  rintro e w3 ⟨rfl, hb2⟩
  have hA : Blw w3 (w3.alloc (.cells #[.int .i64 (lfP c p a), .int .i64 (lfP c m a)] 78)) := (Blw.refl _).alloc _
  obtain ⟨l0, l1⟩ := get2 (box2 w3 (.int .i64 (lfP c p a)) (.int .i64 (lfP c m a)) 78)
  have L0 : ∀ w', Blw (w3.alloc (.cells #[.int .i64 (lfP c p a), .int .i64 (lfP c m a)] 78)) w' → w'.cell? ⟨w3.heap.size, 0, none⟩ = some (.int .i64 (lfP c p a)) := fun w' hh => hh.cell l0
  have L1 : ∀ w', Blw (w3.alloc (.cells #[.int .i64 (lfP c p a), .int .i64 (lfP c m a)] 78)) w' → w'.cell? ⟨w3.heap.size, 1, none⟩ = some (.int .i64 (lfP c m a)) := fun w' hh => hh.cell l1
  have HW : Hid (Blw w (w3.alloc (.cells #[.int .i64 (lfP c p a), .int .i64 (lfP c m a)] 78))) := (HB.out.trans hb2).trans hA
  clear hb2 hA
  by_cases hm : hasMay (lfP c m a) k
  · have HM : Hid (hasMay (lfP c m a) k) := hm
    have d1 : (bits .and .i64 (lfP c m a) k != k) = false := by rw [show bits .and .i64 (lfP c m a) k = k from hm]; simp
    clear hm
    go_wp2_with fail
    go_quiet (fail)
    go_wp2
    exact bodyPost_ret (v := .tuple #[.int .i64 (lfP c p a), .int .i64 (lfP c m a), .bool true]) (by simp [results, Try.results65, go_sem]) rfl ⟨_, _, _, rfl, ⟨rfl, Or.inl ⟨HM.out, rfl, rfl⟩⟩, by first | exact HW.out.drewN _ | exact HW.out | exact HW.out.drew⟩
  · have HM : Hid (¬ hasMay (lfP c m a) k) := hm
    have d1 : (bits .and .i64 (lfP c m a) k != k) = true := by simp; exact hm
    clear hm
    go_wp2_with fail
    go_quiet (fail)
    go_wp2
    exact bodyPost_ret (v := .tuple #[.int .i64 0, .int .i64 (lfP c m a), .bool false]) (by simp [results, Try.results65, go_sem]) rfl ⟨_, _, _, rfl, ⟨rfl, Or.inr ⟨HM.out, rfl, rfl⟩⟩, by first | exact HW.out.drewN _ | exact HW.out | exact HW.out.drew⟩
set_option maxHeartbeats 3200000 in
theorem implWalk_any (b : BV) (B : BD) (a k : Int) (Y : Nat → Prop) (w : World) (h : BookAt Y w b B) (hY : ∀ x, Y x → x < w.heap.size) :
    Calls Try.prog 14 #[b.val B, .int .i64 a, .int .i64 k] w fun e w' => ∃ x y r, e = .returned (.tuple #[.int .i64 x, .int .i64 y, .bool r]) ∧ wtOut B a k x y r ∧ Blw w w' := by
  have hb0 : Blw w (w.alloc (.cells #[.slice b.a1 B.n b.c1, .slice b.a2 B.D.n b.c2] 26)) := (Blw.refl _).alloc _
  have HA : Hid (BookAt Y (w.alloc (.cells #[.slice b.a1 B.n b.c1, .slice b.a2 B.D.n b.c2] 26)) b B) := h.blw hb0
  clear h
  go_enter Try.func14, Try.ntmps14
  go_wp2_with fail
  refine (hold_any b B Y _ HA.out (fun x hx => by have := hY x hx; simp; omega)).mono ?_
  rintro e w1 ⟨h1, hb1⟩
  replace hb1 := hb0.trans hb1
  clear hb0 HA
  rcases h1 with ⟨z, hg, rfl, hrow, -⟩ | ⟨hg, rfl⟩
  case inr =>
    have HG : Hid (¬ B.Good) := hg
    have HB : Hid (Blw w (w1.alloc (.cells zero5 87))) := hb1.alloc _
    clear hg hb1
    go_wp2
    exact bodyPost_ret (v := .tuple #[.int .i64 0, .int .i64 0, .bool false]) (by simp [results, Try.results14, go_sem]) rfl ⟨_, _, _, rfl, Or.inl ⟨fun q => HG.out q.1, rfl, rfl, rfl⟩, HB.out⟩
  have HG : Hid B.Good := hg
  have hA : Blw w1 (w1.alloc (.cells (held5 B.c z B.D.n) 87)) := (Blw.refl _).alloc _
  have HR5 : Hid (Row (w1.alloc (.cells (held5 B.c z B.D.n) 87)) w1.heap.size 5 (row5f B.c (.slice (some ⟨z, 0, none⟩) B.D.n B.D.n))) := row5 w1 (.int .i64 (B.c 0)) (.int .i64 (B.c 1)) (.int .i64 (B.c 2)) (.int .i64 (B.c 3)) (.slice (some ⟨z, 0, none⟩) B.D.n B.D.n) 87
  have HB : Hid (Blw w (w1.alloc (.cells (held5 B.c z B.D.n) 87))) := hb1.trans hA
  have HRL : Hid (Row (w1.alloc (.cells (held5 B.c z B.D.n) 87)) z (B.D.n * 8) (lc B.D.p B.D.m)) := hrow.blw hA
  clear hg hA hb1 hrow
  go_wp2_with fail
  generalize w1.heap.size = z9 at *
  generalize w1.alloc (.cells (held5 B.c z B.D.n) 87) = w2 at *
  refine (isPlace_any a _).mono ?_
  rintro e w2 ⟨r, rfl, hr, rfl⟩
  have HT : Hid (r = true ↔ pgOK a) := hr
  clear hr
  cases r
  · have HN : Hid (¬ pgOK a) := fun g => by have := HT.out.2 g; simp at this
    clear HT
    go_wp2
    exact bodyPost_ret (v := .tuple #[.int .i64 0, .int .i64 0, .bool false]) (by simp [results, Try.results14, go_sem]) rfl ⟨_, _, _, rfl, Or.inl ⟨fun q => HN.out q.2.1, rfl, rfl, rfl⟩, HB.out⟩
  have H1 : Hid (pgOK a) := HT.out.1 (by first | rfl | trivial)
  clear HT
  go_wp2_with fail
  refine (isMay_any k _).mono ?_
  rintro e w2 ⟨r, rfl, hr, rfl⟩
  have HT : Hid (r = true ↔ mayOK k) := hr
  clear hr
  cases r
  · have HN : Hid (¬ mayOK k) := fun g => by have := HT.out.2 g; simp at this
    clear HT
    go_wp2
    exact bodyPost_ret (v := .tuple #[.int .i64 0, .int .i64 0, .bool false]) (by simp [results, Try.results14, go_sem]) rfl ⟨_, _, _, rfl, Or.inl ⟨fun q => HN.out q.2.2, rfl, rfl, rfl⟩, HB.out⟩
  have H2 : Hid (mayOK k) := HT.out.1 (by first | rfl | trivial)
  clear HT
  obtain ⟨n, c, ⟨kn, len, p, m⟩⟩ := B
  obtain ⟨a1, a2, q1, q2⟩ := b
  have hn4 : n = 4 := HG.out.n
  subst hn4
  have hk4 : kn ≤ 4 := HG.out.k.2
  simp only [BV.val] at *
  obtain ⟨x, hx, hx16⟩ : ∃ x : Nat, a = x ∧ x < 16 := ⟨a.toNat, by have := H1.out; unfold pgOK at this; omega, by have := H1.out; unfold pgOK at this; omega⟩
  subst hx
  obtain ⟨p0, p1, p2, p3, p4⟩ := get5 HR5.out
  go_wp2_with fail
  clear p0 p1 p2 p3 p4
  refine (lookUp_any c z kn p m x k _ hk4 (fun i hi => HG.out.top i hi) hx16 HRL.out).mono ?_
  rintro e w3 ⟨x3, y3, r3, rfl, hl, hb3⟩
  have FIN : Hid (∃ x' y' r', (Ending.returned (.tuple #[.int .i64 x3, .int .i64 y3, .bool r3])) = .returned (.tuple #[.int .i64 x', .int .i64 y', .bool r']) ∧ wtOut ⟨4, c, ⟨kn, len, p, m⟩⟩ (x : Int) k x' y' r' ∧ Blw w w3) :=
    ⟨x3, y3, r3, rfl, Or.inr ⟨⟨HG.out, H1.out, H2.out⟩, by rw [Int.toNat_natCast]; exact hl.1, by rw [Int.toNat_natCast]; exact hl.2⟩, HB.out.trans hb3⟩
  clear hl hb3 HB HRL HR5
  go_wp2
  exact bodyPost_ret (v := .tuple #[.int .i64 x3, .int .i64 y3, .bool r3]) (by simp [results, Try.results14, go_sem]) rfl FIN.out
end Go.Proofs.Ytcfdagmcnaepgaa
/- The law on WalkTo. -/
namespace Go.Proofs.Ytcfdagmcnaepgaa
open Go.RowKit
set_option linter.unusedSimpArgs false
set_option linter.unusedVariables false
set_option maxHeartbeats 3200000 in
theorem lawWalkP (b : BV) (B : BD) (a k : Int) (w : World) (h : BookAt (fun x => x < w.heap.size) w b B) : Calls Try.prog 6 #[b.val B, .int .i64 a, .int .i64 k] w fun e w' => e = .returned (.bool true) ∧ Blw w w' := by
  have hb0 : Blw w (w.alloc (.cells #[.slice b.a1 B.n b.c1, .slice b.a2 B.D.n b.c2] 56)) := (Blw.refl _).alloc _
  have HA : Hid (St (fun x => x < w.heap.size + 1) (ArgB w.heap.size w.heap.size b B) (w.alloc (.cells #[.slice b.a1 B.n b.c1, .slice b.a2 B.D.n b.c2] 56))) := ArgB.st ⟨h.blw hb0, box2 w _ _ 56⟩ (by omega) (by omega) (by simp)
  clear h
  go_enter Try.func6, Try.ntmps6
  go_wp2_with fail
  refine (szBook_any b B _ _ HA.out.out.at_).mono ?_
  rintro e w1 ⟨r, rfl, hr, hb1⟩
  replace HA : Hid (St (fun x => x < w.heap.size + 1) (ArgB w.heap.size w.heap.size b B) w1) := HA.out.blw hb1
  replace hb1 := hb0.trans hb1
  clear hb0
  rcases hr with rfl | ⟨q0, q1⟩
  · go_wp2
    go_ret
    exact ⟨rfl, hb1⟩
  have hS : B.n + (B.D.n + B.D.tot) ≤ 1048576 := by omega
  have HS : Hid (B.n + (B.D.n + B.D.tot) ≤ 1048576) := hS
  obtain ⟨p0, p1⟩ := get2 HA.out.out.box
  clear q1 hS
  go_wp2_with fail
  clear p0 p1
  refine (toBook_any b B _ _ HS.out HA.out.out.at_).mono ?_
  rintro e w2 ⟨b2, rfl, own2, hb2⟩
  replace HA : Hid (St (fun x => x < w.heap.size + 1) (ArgB w.heap.size w.heap.size b B) w2) := HA.out.blw hb2
  replace hb2 := hb1.trans hb2
  clear hb1
  go_wp2_with fail
  refine (specWalk_any b2 B a k _ _ (by have := HS.out; omega) own2.at).mono ?_
  rintro e w3 ⟨n3, m3, r3, rfl, hr3, hb3⟩
  replace HA : Hid (St (fun x => x < w.heap.size + 1) (ArgB w.heap.size w.heap.size b B) w3) := HA.out.blw hb3
  replace hb3 := hb2.trans hb3
  have HR3 : Hid (wtOut B a k n3 m3 r3) := hr3
  clear hb2 own2 hr3
  obtain ⟨p0, p1⟩ := get2 HA.out.out.box
  go_wp2_with fail
  clear p0 p1
  refine (toBook_any b B _ _ HS.out HA.out.out.at_).mono ?_
  rintro e w4 ⟨b4, rfl, own4, hb4⟩
  have hA : Blw w4 (w4.alloc (.cells #[.slice b4.a1 B.n b4.c1, .slice b4.a2 B.D.n b4.c2] 26)) := (Blw.refl _).alloc _
  have HBB : Hid (BB (fun x => w3.heap.size ≤ x ∧ x < w4.heap.size + 1) w4.heap.size b4 B B (w4.alloc (.cells #[.slice b4.a1 B.n b4.c1, .slice b4.a2 B.D.n b4.c2] 26))) := boxed hb4 own4 (Nat.le_refl _)
  replace HA : Hid (St (fun x => x < w.heap.size + 1) (ArgB w.heap.size w.heap.size b B) (w4.alloc (.cells #[.slice b4.a1 B.n b4.c1, .slice b4.a2 B.D.n b4.c2] 26))) := HA.out.blw (hb4.trans hA)
  replace hb4 := (hb3.trans hb4).trans hA
  clear hb3 own4 hA
  go_wp2_with fail
  refine (implWalk_any b4 B a k (fun x => (w3.heap.size ≤ x ∧ x < w4.heap.size + 1) ∧ x ≠ w4.heap.size) _ HBB.out.own.at (fun x hx => by simp; omega)).mono ?_
  rintro e w5 ⟨n5, m5, r5, rfl, hr5, hb5⟩
  obtain ⟨en, em, er⟩ := wtOut_same hr5 HR3.out
  subst en em er
  have HB5 : Hid (BB (fun x => w3.heap.size ≤ x ∧ x < w4.heap.size + 1) w4.heap.size b4 B B w5) := ⟨HBB.out.own.blw hb5, HBB.out.box.blw hb5⟩
  replace HA : Hid (St (fun x => x < w.heap.size + 1) (ArgB w.heap.size w.heap.size b B) w5) := HA.out.blw hb5
  have HW : Hid (Blw w w5) := hb4.trans hb5
  clear hb4 hb5 hr5 HR3 HBB
  have hne : (r5 != r5) = false := by simp
  have hnn : (n5 != n5) = false := by simp
  have hnm : (m5 != m5) = false := by simp
  generalize w3.heap.size = z3 at *
  generalize w4.heap.size = z4 at *
  clear w1 w2 w3 w4
  go_upto_region 10 with fail
  go_cut [56] from 52 to 56 (fun c wx => c = .bool false ∧ Blw w5 wx)
  case first =>
    have A0 : ∀ w', Blw w5 w' → w'.cell? ⟨w.heap.size, 0, none⟩ = some (.slice b.a1 B.n b.c1) := fun w' hh => (get2 (HA.out.blw hh).out.box).1
    have A1 : ∀ w', Blw w5 w' → w'.cell? ⟨w.heap.size, 1, none⟩ = some (.slice b.a2 B.D.n b.c2) := fun w' hh => (get2 (HA.out.blw hh).out.box).2
    have B0 : ∀ w', Blw w5 w' → w'.cell? ⟨z4, 0, none⟩ = some (.slice b4.a1 B.n b4.c1) := fun w' hh => (get2 (HB5.out.box.blw hh)).1
    have B1 : ∀ w', Blw w5 w' → w'.cell? ⟨z4, 1, none⟩ = some (.slice b4.a2 B.D.n b4.c2) := fun w' hh => (get2 (HB5.out.box.blw hh)).2
    go_region_held3 (fun w' => Blw w5 w') ((first | exact (Blw.refl _).drew | assumption | exact Blw.trans (by assumption) (by assumption))) (first
      | (go_at_call 39; refine (toBook_any b B _ _ HS.out (HA.out.blw (by assumption)).out.at_).mono ?_; rintro e w7 ⟨b6, rfl, o6, hb7⟩)
      | (go_at_call 35; refine (eqBook_same b4 b6 B _ (HB5.out.own.blw (by assumption)).at o6.at).mono ?_; rintro e w8 ⟨rfl, hb8⟩))
    all_goals go_wp2_with fail
    all_goals go_meet
    all_goals exact ⟨rfl, by assumption⟩
  case rest =>
    obtain ⟨rfl, hb7⟩ := hcut
    go_wp2
    go_ret
    exact ⟨rfl, HW.out.trans hb7⟩
end Go.Proofs.Ytcfdagmcnaepgaa
