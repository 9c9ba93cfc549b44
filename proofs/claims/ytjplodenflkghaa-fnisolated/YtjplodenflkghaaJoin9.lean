/- Merged by program, in this order: NewS, SpecMp, FlatS. -/
import Derived.Test.YtjplodenflkghaaJoin8
/- New tables: the model's. -/
namespace Go.Proofs.Ytjplodenflkghaa
open Go.RowKit
set_option linter.unusedSimpArgs false
set_option linter.unusedVariables false
theorem mkU4 (w : World) : (Instr.makeSlice 147 (.int .i64 4) (.int .i64 4)).run Try.prog w = .ok (.slice (some ⟨w.heap.size, 0, none⟩) 4 4) (w.alloc (.cells (madeCells #[.int .i64 0, .int .i64 0] 8) 144)) := mkUndos 4 (by omega) w
theorem uc_zero : uc (fun _ => 0) (fun _ => 0) = fun _ => Value.int .i64 0 := by
  funext i
  unfold uc
  split <;> rfl
theorem row_m1 (w : World) (t : TypeId) : Row (w.alloc (.cells #[.int .i64 (-1), .int .i64 (-1), .int .i64 (-1), .int .i64 (-1)] t)) w.heap.size 4 (fun _ => .int .i64 (-1)) :=
  ⟨_, t, heap_alloc_new _ _, by simp, fun i hi => by
    match i, hi with
    | 0, _ => rfl
    | 1, _ => rfl
    | 2, _ => rfl
    | 3, _ => rfl⟩
set_option maxRecDepth 10000 in
set_option maxHeartbeats 3200000 in
theorem specNew_any (k : Int) (w : World) : Calls Try.prog 84 #[.int .i64 k] w (GivesB (resT (cntOK k) (newB k)) w) := by
  have hb0 : Blw w (w.alloc (.cells #[.slice none 0 0, .slice none 0 0] 29)) := (Blw.refl _).alloc _
  have r0 := box2 w (.slice none 0 0) (.slice none 0 0) 29
  have hsz : (w.alloc (.cells #[.slice none 0 0, .slice none 0 0] 29)).heap.size = w.heap.size + 1 := by simp
  go_enter Try.func84, Try.ntmps84
  go_wp2_with fail
  revert hb0 r0 hsz
  generalize w.alloc (.cells #[.slice none 0 0, .slice none 0 0] 29) = w0
  intro hb0 r0 hsz
  refine (l1In_any k 1 4 _).mono ?_
  rintro e w0 ⟨r, rfl, hr, rfl⟩
  have HT : Hid (r = true ↔ cntOK k) := hr
  clear hr
  obtain ⟨t0, t1⟩ := get2 r0
  have f0 := r0.frozen 0
  have f1 := r0.frozen 1
  cases r
  · have HN : Hid (¬ cntOK k) := fun g => by have := HT.out.2 g; simp at this
    clear HT r0
    go_wp2
    exact bodyPost_ret (v := .tuple #[BV.zero.val BD.zero, .bool false]) (by simp [results, Try.results84, go_sem, t0, t1]) rfl (zero_givesT (z := w.heap.size) (Nat.le_refl _) (Or.inr ⟨HN.out, rfl, rfl⟩) hb0)
  have hc : cntOK k := HT.out.1 (by first | rfl | trivial)
  clear HT t0 t1 f0 f1
  obtain ⟨kn, hk, hk1, hk4⟩ : ∃ kn : Nat, k = kn ∧ 1 ≤ kn ∧ kn ≤ 4 := ⟨k.toNat, by unfold cntOK at hc; omega, by unfold cntOK at hc; omega, by unfold cntOK at hc; omega⟩
  subst hk
  have HC : Hid (cntOK (kn : Int)) := hc
  have hA1 : Blw w0 (w0.alloc (.cells #[.int .i64 (-1), .int .i64 (-1), .int .i64 (-1), .int .i64 (-1)] 3)) := (Blw.refl _).alloc _
  have hA2 : Blw (w0.alloc (.cells #[.int .i64 (-1), .int .i64 (-1), .int .i64 (-1), .int .i64 (-1)] 3)) ((w0.alloc (.cells #[.int .i64 (-1), .int .i64 (-1), .int .i64 (-1), .int .i64 (-1)] 3)).alloc (.cells #[.slice (some ⟨w0.heap.size, 0, none⟩) 4 4, .slice none 0 0] 29)) := (Blw.refl _).alloc _
  have hR4 := (row_m1 w0 3).blw hA2
  have hBX := box2 (w0.alloc (.cells #[.int .i64 (-1), .int .i64 (-1), .int .i64 (-1), .int .i64 (-1)] 3)) (.slice (some ⟨w0.heap.size, 0, none⟩) 4 4) (.slice none 0 0) 29
  rw [World.size_alloc] at hBX
  have hB := hb0.trans (hA1.trans hA2)
  have hR := r0.blw (hA1.trans hA2)
  have HZ : Hid (w0.heap.size = w.heap.size + 1) := hsz
  clear hc hb0 r0 hA1 hA2 hsz
  go_wp2_with fail
  revert hR4 hBX hB hR
  generalize ((w0.alloc (.cells #[.int .i64 (-1), .int .i64 (-1), .int .i64 (-1), .int .i64 (-1)] 3)).alloc (.cells #[.slice (some ⟨w0.heap.size, 0, none⟩) 4 4, .slice none 0 0] 29)) = W
  intro hR4 hBX hB hR
  go_loopw [0] (fun i wr => ∃ j : Nat, j ≤ kn ∧ i = .int .i64 ((kn : Int) - j) ∧ ∃ v A C ZB Z, Row wr (w0.heap.size + 1) 2 (fun i => if i = 0 then .slice (some ⟨w0.heap.size, 0, none⟩) 4 4 else v) ∧ Tl (w0.heap.size + 1 + 1) wr v j A C zz zz ZB Z ∧ Row wr w0.heap.size 4 (fun _ => .int .i64 (-1)) ∧ Row wr w.heap.size 2 (fun i => if i = 0 then .slice none 0 0 else .slice none 0 0) ∧ Blw w wr) (fun i _ => (intOf i).toNat)
  case atStart => exact ⟨0, Nat.zero_le _, by go_num, _, _, _, _, _, hBX, Tl.nil _ _ _ _, hR4, hR, hB⟩
  case round =>
    clear hR4 hBX hB hR
    obtain ⟨j, hj, rfl, v, A, C, ZB, Z, hbx, htl, hr4, hr, hb⟩ := hrel
    have HR4 : Hid (Row wr w0.heap.size 4 (fun _ => .int .i64 (-1))) := hr4
    have HR : Hid (Row wr w.heap.size 2 (fun i => if i = 0 then .slice none 0 0 else .slice none 0 0)) := hr
    have HB : Hid (Blw w wr) := hb
    have HTL : Hid (Tl (w0.heap.size + 1 + 1) wr v j A C zz zz ZB Z) := htl
    have HBX : Hid (Row wr (w0.heap.size + 1) 2 (fun i => if i = 0 then .slice (some ⟨w0.heap.size, 0, none⟩) 4 4 else v)) := hbx
    clear hr4 hr hb htl hbx
    by_cases hlt : j < kn
    · have hlt' : (kn : Int) - j > 0 := by omega
      go_upto_region 6 with fail
      replace HR4 : Hid (Row wr.drew w0.heap.size 4 (fun _ => .int .i64 (-1))) := HR4.out.blw (Blw.refl _).drew
      replace HR : Hid (Row wr.drew w.heap.size 2 (fun i => if i = 0 then .slice none 0 0 else .slice none 0 0)) := HR.out.blw (Blw.refl _).drew
      replace HB : Hid (Blw w wr.drew) := HB.out.drew
      replace HTL : Hid (Tl (w0.heap.size + 1 + 1) wr.drew v j A C zz zz ZB Z) := HTL.out.go (Blw.refl _).drew
      replace HBX : Hid (Row wr.drew (w0.heap.size + 1) 2 (fun i => if i = 0 then .slice (some ⟨w0.heap.size, 0, none⟩) 4 4 else v)) := HBX.out.blw (Blw.refl _).drew
      have P1 : ∀ w', Row w' (w0.heap.size + 1) 2 (fun i => if i = 0 then .slice (some ⟨w0.heap.size, 0, none⟩) 4 4 else v) → w'.cell? ⟨w0.heap.size + 1, 1, none⟩ = some v := fun w' hh => (get2 hh).2
      have hmk := mkU4
      have pa := P1 _ HBX.out
      have pb := P1 _ (HBX.out.blw ((Blw.refl wr.drew).alloc (.cells (madeCells #[.int .i64 0, .int .i64 0] 8) 144)))
      have pc := P1 _ (HBX.out.blw (((Blw.refl wr.drew).alloc (.cells (madeCells #[.int .i64 0, .int .i64 0] 8) 144)).alloc (.cells #[.slice (some ⟨wr.drew.heap.size, 0, none⟩) 4 4] 147)))
      refine wp_region_noPanic ?_
      refine wp_region_held_drew (S := fun _ => True) (by kernel_rfl) trivial (fun hB => ?_)
      clear hB
      generalize wr.drew = wd at *
      refine wpAnyH_take (i := 0) (oi := { dst := some 15, op := Op.fieldAddr 29 (Operand.tmp 4) 1, type := 0, pos := _, after := #[], guard := none }) (v := (.pointer (some ⟨w0.heap.size + 1, 1, none⟩))) rfl (by kernel_rfl) (by kernel_rfl) (by kernel_rfl) (fun _ _ _ h => h) (Or.inl ⟨by rfl, fun w' hS => by (try dsimp only at hS); go_simp⟩) trivial ?_
      simp only [Act.put, List.setIfInBounds_toArray, List.set_cons_zero, List.set_cons_succ]
      refine wpAnyH_ready (rs := [1, 2]) (by kernel_rfl) (by simp) ?_
      refine AllReadyH.cons (o := { dst := some 16, op := Op.load 27 (Operand.tmp 15), type := 27, pos := _, after := #[{ on := 0, ground := Ground.data }], guard := none }) rfl (fun K hK => ?_) (AllReadyH.cons (o := { dst := some 17, op := Op.makeSlice 147 (Operand.const (Value.int IntKind.i64 4)) (Operand.const (Value.int IntKind.i64 4)), type := 147, pos := _, after := #[], guard := none }) rfl (fun K hK => ?_) AllReadyH.nil)
      · go_simp
        refine hK.out _ _ trivial (fun hB => ?_)
        clear hK K hB
        try simp only [Act.put, List.setIfInBounds_toArray, List.set_cons_zero, List.set_cons_succ]
        refine wpAnyH_ready (rs := [2]) (by kernel_rfl) (by simp) ?_
        refine AllReadyH.cons (o := { dst := some 17, op := Op.makeSlice 147 (Operand.const (Value.int IntKind.i64 4)) (Operand.const (Value.int IntKind.i64 4)), type := 147, pos := _, after := #[], guard := none }) rfl (fun K hK => ?_) AllReadyH.nil
        go_simp
        refine hK.out _ _ trivial (fun hB => ?_)
        clear hK K hB
        try simp only [Act.put, List.setIfInBounds_toArray, List.set_cons_zero, List.set_cons_succ]
        refine wpAnyH_ready (rs := [3]) (by kernel_rfl) (by simp) ?_
        refine AllReadyH.cons (o := { dst := some 18, op := Op.buildSlice 27 1 #[(0, Operand.tmp 17)], type := 27, pos := _, after := #[{ on := 2, ground := Ground.data }], guard := none }) rfl (fun K hK => ?_) AllReadyH.nil
        go_simp
        refine hK.out _ _ trivial (fun hB => ?_)
        clear hK K hB
        try simp only [Act.put, List.setIfInBounds_toArray, List.set_cons_zero, List.set_cons_succ]
        refine wpAnyH_ready (rs := [4]) (by kernel_rfl) (by simp) ?_
        refine AllReadyH.cons (o := { dst := some 19, op := Op.call { callee := Callee.builtin Builtin.append, args := #[Operand.tmp 16, Operand.tmp 18], argTypes := #[27, 27] }, type := 27, pos := _, after := #[{ on := 1, ground := Ground.data }, { on := 3, ground := Ground.data }], guard := none }) rfl (fun K hK => ?_) AllReadyH.nil
        refine step_app (.tmp 16) (.tmp 18) 27 (by rfl) ?_
        obtain ⟨ao', cap', w2, ZB', hrun, htl2, hM⟩ := Tl.push (w1 := wd.alloc (.cells (madeCells #[.int .i64 0, .int .i64 0] 8) 144)) (s0 := wd.heap.size) (ao := some ⟨wd.heap.size, 0, none⟩) (cap := 4) HTL.out ((Blw.refl _).alloc _) (by have := HBX.out.lt; omega) (Nat.le_refl _) (by simp) ⟨by omega, fun _ => ⟨wd.heap.size, ⟨Nat.le_refl _, by simp⟩, rfl, (Row.made2 wd (.int .i64 0) 8 144).congr (fun i hi => by simp [uc])⟩⟩ (by omega)
        rw [World.size_alloc] at hrun
        refine ⟨_, _, hrun, ?_⟩
        have hbA : Blw wd (wd.alloc (.cells (madeCells #[.int .i64 0, .int .i64 0] 8) 144)) := (Blw.refl _).alloc _
        have hM2 := (hbA.mod ZB).trans hM
        have hzb : ∀ x, ZB x → w0.heap.size + 1 + 1 ≤ x := fun x hx => (HTL.out.zb x hx).1
        have r4' := HR4.out.mod hM2 (fun h => by have := hzb _ h; omega)
        have r0' := HR.out.mod hM2 (fun h => by have := hzb _ h; have := HZ.out; omega)
        have b' := Mod.blw HB.out hM2 (fun i hi => by have := hzb _ hi; have := HZ.out; omega)
        have hS3 := HBX.out.mod hM2 (fun h => by have := hzb _ h; omega)
        have ms : Mod (fun x => x = w0.heap.size + 1) w2 (w2.setCell ⟨w0.heap.size + 1, 1, none⟩ (.slice ao' (j + 1) cap')) := Mod.setCell (X := fun x => x = w0.heap.size + 1) _ (p := ⟨w0.heap.size + 1, 1, none⟩) rfl _
        have f1 := hS3.frozen 1
        have p1 := (get2 hS3).2
        refine hK.out _ _ trivial (fun hB => ?_)
        clear hK K hB
        try simp only [Act.put, List.setIfInBounds_toArray, List.set_cons_zero, List.set_cons_succ]
        refine wpAnyH_take (i := 5) (oi := { dst := some 20, op := Op.fieldAddr 29 (Operand.tmp 4) 1, type := 0, pos := _, after := #[{ on := 0, ground := Ground.phase }, { on := 1, ground := Ground.phase }, { on := 2, ground := Ground.phase }, { on := 3, ground := Ground.phase }, { on := 4, ground := Ground.phase }], guard := none }) (v := (.pointer (some ⟨w0.heap.size + 1, 1, none⟩))) rfl (by kernel_rfl) (by kernel_rfl) (by kernel_rfl) (fun _ _ _ h => h) (Or.inl ⟨by rfl, fun w' hS => by (try dsimp only at hS); go_simp⟩) trivial ?_
        simp only [Act.put, List.setIfInBounds_toArray, List.set_cons_zero, List.set_cons_succ]
        refine wpAnyH_ready (rs := [6]) (by kernel_rfl) (by simp) ?_
        refine AllReadyH.cons (o := { dst := none, op := Op.store 27 (Operand.tmp 20) (Operand.tmp 19), type := 0, pos := _, after := #[{ on := 5, ground := Ground.data }, { on := 4, ground := Ground.data }, { on := 4, ground := Ground.chain }, { on := 0, ground := Ground.phase }, { on := 1, ground := Ground.phase }, { on := 2, ground := Ground.phase }, { on := 3, ground := Ground.phase }, { on := 4, ground := Ground.phase }], guard := none }) rfl (fun K hK => ?_) AllReadyH.nil
        go_simp
        refine hK.out _ _ trivial (fun hB => ?_)
        clear hK K hB
        try simp only [Act.put, List.setIfInBounds_toArray, List.set_cons_zero, List.set_cons_succ]
        refine wpAnyH_done (by kernel_rfl) ?_ _
        refine NoPanic.normal ?_
        have HN : Hid (∃ v A C ZB Z, Row (w2.setCell ⟨w0.heap.size + 1, 1, none⟩ (.slice ao' (j + 1) cap')) (w0.heap.size + 1) 2 (fun i => if i = 0 then .slice (some ⟨w0.heap.size, 0, none⟩) 4 4 else v) ∧ Tl (w0.heap.size + 1 + 1) (w2.setCell ⟨w0.heap.size + 1, 1, none⟩ (.slice ao' (j + 1) cap')) v (j + 1) A C zz zz ZB Z ∧ Row (w2.setCell ⟨w0.heap.size + 1, 1, none⟩ (.slice ao' (j + 1) cap')) w0.heap.size 4 (fun _ => .int .i64 (-1)) ∧ Row (w2.setCell ⟨w0.heap.size + 1, 1, none⟩ (.slice ao' (j + 1) cap')) w.heap.size 2 (fun i => if i = 0 then .slice none 0 0 else .slice none 0 0) ∧ Blw w (w2.setCell ⟨w0.heap.size + 1, 1, none⟩ (.slice ao' (j + 1) cap'))) :=
          ⟨_, _, _, _, _, set2_1 hS3 (.slice ao' (j + 1) cap'), htl2.mod ms (fun x hx => by omega), r4'.mod ms (by omega), r0'.mod ms (by have := HZ.out; omega), Mod.blw b' ms (fun i hi => by have := HZ.out; omega)⟩
        clear hS3 htl2 r4' r0' b' ms HR4 HR HB HTL HBX P1 hmk pa pb pc hM hM2 hbA hzb f1 p1 hrun
        have e1 : (kn : Int) - j - 1 = (kn : Int) - ((j + 1 : Nat) : Int) := by omega
        go_wp2
        go_roundw
        case rel => exact ⟨j + 1, by omega, by go_num, HN.out⟩
        case measure => simp [intOf]; omega
      · go_simp
        refine hK.out _ _ trivial (fun hB => ?_)
        clear hK K hB
        try simp only [Act.put, List.setIfInBounds_toArray, List.set_cons_zero, List.set_cons_succ]
        refine wpAnyH_ready (rs := [1, 3]) (by kernel_rfl) (by simp) ?_
        refine AllReadyH.cons (o := { dst := some 16, op := Op.load 27 (Operand.tmp 15), type := 27, pos := _, after := #[{ on := 0, ground := Ground.data }], guard := none }) rfl (fun K hK => ?_) (AllReadyH.cons (o := { dst := some 18, op := Op.buildSlice 27 1 #[(0, Operand.tmp 17)], type := 27, pos := _, after := #[{ on := 2, ground := Ground.data }], guard := none }) rfl (fun K hK => ?_) AllReadyH.nil)
        · go_simp
          refine hK.out _ _ trivial (fun hB => ?_)
          clear hK K hB
          try simp only [Act.put, List.setIfInBounds_toArray, List.set_cons_zero, List.set_cons_succ]
          refine wpAnyH_ready (rs := [3]) (by kernel_rfl) (by simp) ?_
          refine AllReadyH.cons (o := { dst := some 18, op := Op.buildSlice 27 1 #[(0, Operand.tmp 17)], type := 27, pos := _, after := #[{ on := 2, ground := Ground.data }], guard := none }) rfl (fun K hK => ?_) AllReadyH.nil
          go_simp
          refine hK.out _ _ trivial (fun hB => ?_)
          clear hK K hB
          try simp only [Act.put, List.setIfInBounds_toArray, List.set_cons_zero, List.set_cons_succ]
          refine wpAnyH_ready (rs := [4]) (by kernel_rfl) (by simp) ?_
          refine AllReadyH.cons (o := { dst := some 19, op := Op.call { callee := Callee.builtin Builtin.append, args := #[Operand.tmp 16, Operand.tmp 18], argTypes := #[27, 27] }, type := 27, pos := _, after := #[{ on := 1, ground := Ground.data }, { on := 3, ground := Ground.data }], guard := none }) rfl (fun K hK => ?_) AllReadyH.nil
          refine step_app (.tmp 16) (.tmp 18) 27 (by rfl) ?_
          obtain ⟨ao', cap', w2, ZB', hrun, htl2, hM⟩ := Tl.push (w1 := wd.alloc (.cells (madeCells #[.int .i64 0, .int .i64 0] 8) 144)) (s0 := wd.heap.size) (ao := some ⟨wd.heap.size, 0, none⟩) (cap := 4) HTL.out ((Blw.refl _).alloc _) (by have := HBX.out.lt; omega) (Nat.le_refl _) (by simp) ⟨by omega, fun _ => ⟨wd.heap.size, ⟨Nat.le_refl _, by simp⟩, rfl, (Row.made2 wd (.int .i64 0) 8 144).congr (fun i hi => by simp [uc])⟩⟩ (by omega)
          rw [World.size_alloc] at hrun
          refine ⟨_, _, hrun, ?_⟩
          have hbA : Blw wd (wd.alloc (.cells (madeCells #[.int .i64 0, .int .i64 0] 8) 144)) := (Blw.refl _).alloc _
          have hM2 := (hbA.mod ZB).trans hM
          have hzb : ∀ x, ZB x → w0.heap.size + 1 + 1 ≤ x := fun x hx => (HTL.out.zb x hx).1
          have r4' := HR4.out.mod hM2 (fun h => by have := hzb _ h; omega)
          have r0' := HR.out.mod hM2 (fun h => by have := hzb _ h; have := HZ.out; omega)
          have b' := Mod.blw HB.out hM2 (fun i hi => by have := hzb _ hi; have := HZ.out; omega)
          have hS3 := HBX.out.mod hM2 (fun h => by have := hzb _ h; omega)
          have ms : Mod (fun x => x = w0.heap.size + 1) w2 (w2.setCell ⟨w0.heap.size + 1, 1, none⟩ (.slice ao' (j + 1) cap')) := Mod.setCell (X := fun x => x = w0.heap.size + 1) _ (p := ⟨w0.heap.size + 1, 1, none⟩) rfl _
          have f1 := hS3.frozen 1
          have p1 := (get2 hS3).2
          refine hK.out _ _ trivial (fun hB => ?_)
          clear hK K hB
          try simp only [Act.put, List.setIfInBounds_toArray, List.set_cons_zero, List.set_cons_succ]
          refine wpAnyH_take (i := 5) (oi := { dst := some 20, op := Op.fieldAddr 29 (Operand.tmp 4) 1, type := 0, pos := _, after := #[{ on := 0, ground := Ground.phase }, { on := 1, ground := Ground.phase }, { on := 2, ground := Ground.phase }, { on := 3, ground := Ground.phase }, { on := 4, ground := Ground.phase }], guard := none }) (v := (.pointer (some ⟨w0.heap.size + 1, 1, none⟩))) rfl (by kernel_rfl) (by kernel_rfl) (by kernel_rfl) (fun _ _ _ h => h) (Or.inl ⟨by rfl, fun w' hS => by (try dsimp only at hS); go_simp⟩) trivial ?_
          simp only [Act.put, List.setIfInBounds_toArray, List.set_cons_zero, List.set_cons_succ]
          refine wpAnyH_ready (rs := [6]) (by kernel_rfl) (by simp) ?_
          refine AllReadyH.cons (o := { dst := none, op := Op.store 27 (Operand.tmp 20) (Operand.tmp 19), type := 0, pos := _, after := #[{ on := 5, ground := Ground.data }, { on := 4, ground := Ground.data }, { on := 4, ground := Ground.chain }, { on := 0, ground := Ground.phase }, { on := 1, ground := Ground.phase }, { on := 2, ground := Ground.phase }, { on := 3, ground := Ground.phase }, { on := 4, ground := Ground.phase }], guard := none }) rfl (fun K hK => ?_) AllReadyH.nil
          go_simp
          refine hK.out _ _ trivial (fun hB => ?_)
          clear hK K hB
          try simp only [Act.put, List.setIfInBounds_toArray, List.set_cons_zero, List.set_cons_succ]
          refine wpAnyH_done (by kernel_rfl) ?_ _
          refine NoPanic.normal ?_
          have HN : Hid (∃ v A C ZB Z, Row (w2.setCell ⟨w0.heap.size + 1, 1, none⟩ (.slice ao' (j + 1) cap')) (w0.heap.size + 1) 2 (fun i => if i = 0 then .slice (some ⟨w0.heap.size, 0, none⟩) 4 4 else v) ∧ Tl (w0.heap.size + 1 + 1) (w2.setCell ⟨w0.heap.size + 1, 1, none⟩ (.slice ao' (j + 1) cap')) v (j + 1) A C zz zz ZB Z ∧ Row (w2.setCell ⟨w0.heap.size + 1, 1, none⟩ (.slice ao' (j + 1) cap')) w0.heap.size 4 (fun _ => .int .i64 (-1)) ∧ Row (w2.setCell ⟨w0.heap.size + 1, 1, none⟩ (.slice ao' (j + 1) cap')) w.heap.size 2 (fun i => if i = 0 then .slice none 0 0 else .slice none 0 0) ∧ Blw w (w2.setCell ⟨w0.heap.size + 1, 1, none⟩ (.slice ao' (j + 1) cap'))) :=
            ⟨_, _, _, _, _, set2_1 hS3 (.slice ao' (j + 1) cap'), htl2.mod ms (fun x hx => by omega), r4'.mod ms (by omega), r0'.mod ms (by have := HZ.out; omega), Mod.blw b' ms (fun i hi => by have := HZ.out; omega)⟩
          clear hS3 htl2 r4' r0' b' ms HR4 HR HB HTL HBX P1 hmk pa pb pc hM hM2 hbA hzb f1 p1 hrun
          have e1 : (kn : Int) - j - 1 = (kn : Int) - ((j + 1 : Nat) : Int) := by omega
          go_wp2
          go_roundw
          case rel => exact ⟨j + 1, by omega, by go_num, HN.out⟩
          case measure => simp [intOf]; omega
        · go_simp
          refine hK.out _ _ trivial (fun hB => ?_)
          clear hK K hB
          try simp only [Act.put, List.setIfInBounds_toArray, List.set_cons_zero, List.set_cons_succ]
          refine wpAnyH_ready (rs := [1]) (by kernel_rfl) (by simp) ?_
          refine AllReadyH.cons (o := { dst := some 16, op := Op.load 27 (Operand.tmp 15), type := 27, pos := _, after := #[{ on := 0, ground := Ground.data }], guard := none }) rfl (fun K hK => ?_) AllReadyH.nil
          go_simp
          refine hK.out _ _ trivial (fun hB => ?_)
          clear hK K hB
          try simp only [Act.put, List.setIfInBounds_toArray, List.set_cons_zero, List.set_cons_succ]
          refine wpAnyH_ready (rs := [4]) (by kernel_rfl) (by simp) ?_
          refine AllReadyH.cons (o := { dst := some 19, op := Op.call { callee := Callee.builtin Builtin.append, args := #[Operand.tmp 16, Operand.tmp 18], argTypes := #[27, 27] }, type := 27, pos := _, after := #[{ on := 1, ground := Ground.data }, { on := 3, ground := Ground.data }], guard := none }) rfl (fun K hK => ?_) AllReadyH.nil
          refine step_app (.tmp 16) (.tmp 18) 27 (by rfl) ?_
          obtain ⟨ao', cap', w2, ZB', hrun, htl2, hM⟩ := Tl.push (w1 := wd.alloc (.cells (madeCells #[.int .i64 0, .int .i64 0] 8) 144)) (s0 := wd.heap.size) (ao := some ⟨wd.heap.size, 0, none⟩) (cap := 4) HTL.out ((Blw.refl _).alloc _) (by have := HBX.out.lt; omega) (Nat.le_refl _) (by simp) ⟨by omega, fun _ => ⟨wd.heap.size, ⟨Nat.le_refl _, by simp⟩, rfl, (Row.made2 wd (.int .i64 0) 8 144).congr (fun i hi => by simp [uc])⟩⟩ (by omega)
          rw [World.size_alloc] at hrun
          refine ⟨_, _, hrun, ?_⟩
          have hbA : Blw wd (wd.alloc (.cells (madeCells #[.int .i64 0, .int .i64 0] 8) 144)) := (Blw.refl _).alloc _
          have hM2 := (hbA.mod ZB).trans hM
          have hzb : ∀ x, ZB x → w0.heap.size + 1 + 1 ≤ x := fun x hx => (HTL.out.zb x hx).1
          have r4' := HR4.out.mod hM2 (fun h => by have := hzb _ h; omega)
          have r0' := HR.out.mod hM2 (fun h => by have := hzb _ h; have := HZ.out; omega)
          have b' := Mod.blw HB.out hM2 (fun i hi => by have := hzb _ hi; have := HZ.out; omega)
          have hS3 := HBX.out.mod hM2 (fun h => by have := hzb _ h; omega)
          have ms : Mod (fun x => x = w0.heap.size + 1) w2 (w2.setCell ⟨w0.heap.size + 1, 1, none⟩ (.slice ao' (j + 1) cap')) := Mod.setCell (X := fun x => x = w0.heap.size + 1) _ (p := ⟨w0.heap.size + 1, 1, none⟩) rfl _
          have f1 := hS3.frozen 1
          have p1 := (get2 hS3).2
          refine hK.out _ _ trivial (fun hB => ?_)
          clear hK K hB
          try simp only [Act.put, List.setIfInBounds_toArray, List.set_cons_zero, List.set_cons_succ]
          refine wpAnyH_take (i := 5) (oi := { dst := some 20, op := Op.fieldAddr 29 (Operand.tmp 4) 1, type := 0, pos := _, after := #[{ on := 0, ground := Ground.phase }, { on := 1, ground := Ground.phase }, { on := 2, ground := Ground.phase }, { on := 3, ground := Ground.phase }, { on := 4, ground := Ground.phase }], guard := none }) (v := (.pointer (some ⟨w0.heap.size + 1, 1, none⟩))) rfl (by kernel_rfl) (by kernel_rfl) (by kernel_rfl) (fun _ _ _ h => h) (Or.inl ⟨by rfl, fun w' hS => by (try dsimp only at hS); go_simp⟩) trivial ?_
          simp only [Act.put, List.setIfInBounds_toArray, List.set_cons_zero, List.set_cons_succ]
          refine wpAnyH_ready (rs := [6]) (by kernel_rfl) (by simp) ?_
          refine AllReadyH.cons (o := { dst := none, op := Op.store 27 (Operand.tmp 20) (Operand.tmp 19), type := 0, pos := _, after := #[{ on := 5, ground := Ground.data }, { on := 4, ground := Ground.data }, { on := 4, ground := Ground.chain }, { on := 0, ground := Ground.phase }, { on := 1, ground := Ground.phase }, { on := 2, ground := Ground.phase }, { on := 3, ground := Ground.phase }, { on := 4, ground := Ground.phase }], guard := none }) rfl (fun K hK => ?_) AllReadyH.nil
          go_simp
          refine hK.out _ _ trivial (fun hB => ?_)
          clear hK K hB
          try simp only [Act.put, List.setIfInBounds_toArray, List.set_cons_zero, List.set_cons_succ]
          refine wpAnyH_done (by kernel_rfl) ?_ _
          refine NoPanic.normal ?_
          have HN : Hid (∃ v A C ZB Z, Row (w2.setCell ⟨w0.heap.size + 1, 1, none⟩ (.slice ao' (j + 1) cap')) (w0.heap.size + 1) 2 (fun i => if i = 0 then .slice (some ⟨w0.heap.size, 0, none⟩) 4 4 else v) ∧ Tl (w0.heap.size + 1 + 1) (w2.setCell ⟨w0.heap.size + 1, 1, none⟩ (.slice ao' (j + 1) cap')) v (j + 1) A C zz zz ZB Z ∧ Row (w2.setCell ⟨w0.heap.size + 1, 1, none⟩ (.slice ao' (j + 1) cap')) w0.heap.size 4 (fun _ => .int .i64 (-1)) ∧ Row (w2.setCell ⟨w0.heap.size + 1, 1, none⟩ (.slice ao' (j + 1) cap')) w.heap.size 2 (fun i => if i = 0 then .slice none 0 0 else .slice none 0 0) ∧ Blw w (w2.setCell ⟨w0.heap.size + 1, 1, none⟩ (.slice ao' (j + 1) cap'))) :=
            ⟨_, _, _, _, _, set2_1 hS3 (.slice ao' (j + 1) cap'), htl2.mod ms (fun x hx => by omega), r4'.mod ms (by omega), r0'.mod ms (by have := HZ.out; omega), Mod.blw b' ms (fun i hi => by have := HZ.out; omega)⟩
          clear hS3 htl2 r4' r0' b' ms HR4 HR HB HTL HBX P1 hmk pa pb pc hM hM2 hbA hzb f1 p1 hrun
          have e1 : (kn : Int) - j - 1 = (kn : Int) - ((j + 1 : Nat) : Int) := by omega
          go_wp2
          go_roundw
          case rel => exact ⟨j + 1, by omega, by go_num, HN.out⟩
          case measure => simp [intOf]; omega
    · obtain rfl : j = kn := by omega
      obtain ⟨ao, cap, rfl, own⟩ := HTL.out.ps (by omega)
      have hz := HZ.out
      have FIN : Hid _ := fin_givesT (out := resT (cntOK (j : Int)) (newB (j : Int))) (w := w) (W := wr) (z := w.heap.size) (b := ⟨some ⟨w0.heap.size, 0, none⟩, ao, 4, cap⟩) (R := newB (j : Int)) (Nat.le_refl _) (Or.inl ⟨HC.out, rfl, rfl⟩) (tot4 (c := fun _ => -1) (p := zz) (m := zz) hk4) HB.out
        (⟨fun x => x = w0.heap.size, fun x => w0.heap.size + 1 + 1 ≤ x ∧ x < wr.heap.size, fun x hx => ⟨⟨by omega, by have := HR4.out.lt; omega⟩, by omega⟩, fun x hx => ⟨by omega, hx.2⟩, ⟨by show 4 ≤ _; omega, fun _ => ⟨_, rfl, rfl, HR4.out⟩⟩, own⟩ : BookOwn (fun x => w.heap.size < x ∧ x < wr.heap.size) wr ⟨some ⟨w0.heap.size, 0, none⟩, ao, 4, cap⟩ (newB (j : Int))) (fun x hx => ⟨by omega, by omega, hx.2⟩)
      obtain ⟨t0, t1⟩ := get2 HR.out
      obtain ⟨s0, s1⟩ := get2 HBX.out
      have f0 := HR.out.frozen 0
      have f1 := HR.out.frozen 1
      clear own HTL HR4 HR HB HBX hz
      go_wp2
      exact bodyPost_ret (v := .tuple #[(BV.mk (some ⟨w0.heap.size, 0, none⟩) ao 4 cap).val (newB (j : Int)), .bool true]) (by simp [results, Try.results84, go_sem, t0, t1]) rfl FIN.out
end Go.Proofs.Ytjplodenflkghaa
/- MapPage: the model's. -/
namespace Go.Proofs.Ytjplodenflkghaa
open Go.RowKit
set_option linter.unusedSimpArgs false
set_option linter.unusedVariables false
theorem has_step {c : Nat → Int} {k : Nat} (h : ∀ k', k' < k → hasLine 4 c (k' : Int)) (h1 : hasLine 4 c (k : Int)) : ∀ k', k' < k + 1 → hasLine 4 c (k' : Int) := fun k' hk => by
  by_cases e : k' = k
  · subst e; exact h1
  · exact h k' (by omega)
set_option maxRecDepth 10000 in
set_option maxHeartbeats 6400000 in
theorem specMap_any (b : BV) (B : BD) (a g y : Int) (Y : Nat → Prop) (w : World) (hn : B.n ≤ 1048576) (h : BookAt Y w b B) :
    Calls Try.prog 115 #[b.val B, .int .i64 a, .int .i64 g, .int .i64 y] w (GivesB (chOut B a (fun _ oy => oy = 0 ∧ pgOK g ∧ mayOK y) (fun _ => g) y) w) := by
  have hA1 : Blw w (w.alloc (.cells #[.slice b.a1 B.n b.c1, .slice b.a2 B.D.n b.c2] 29)) := (Blw.refl _).alloc _
  have hA2 : Blw (w.alloc (.cells #[.slice b.a1 B.n b.c1, .slice b.a2 B.D.n b.c2] 29)) ((w.alloc (.cells #[.slice b.a1 B.n b.c1, .slice b.a2 B.D.n b.c2] 29)).alloc (.cells #[.slice none 0 0, .slice none 0 0] 29)) := (Blw.refl _).alloc _
  have HB : Hid (Blw w ((w.alloc (.cells #[.slice b.a1 B.n b.c1, .slice b.a2 B.D.n b.c2] 29)).alloc (.cells #[.slice none 0 0, .slice none 0 0] 29))) := hA1.trans hA2
  have rR := box2 (w.alloc (.cells #[.slice b.a1 B.n b.c1, .slice b.a2 B.D.n b.c2] 29)) (.slice none 0 0) (.slice none 0 0) 29
  rw [World.size_alloc] at rR
  have HR : Hid (Row ((w.alloc (.cells #[.slice b.a1 B.n b.c1, .slice b.a2 B.D.n b.c2] 29)).alloc (.cells #[.slice none 0 0, .slice none 0 0] 29)) (w.heap.size + 1) 2 (fun i => if i = 0 then .slice none 0 0 else .slice none 0 0)) := rR
  have HA : Hid (BookAt Y ((w.alloc (.cells #[.slice b.a1 B.n b.c1, .slice b.a2 B.D.n b.c2] 29)).alloc (.cells #[.slice none 0 0, .slice none 0 0] 29)) b B) := h.blw (hA1.trans hA2)
  have HA0 : Hid (Row ((w.alloc (.cells #[.slice b.a1 B.n b.c1, .slice b.a2 B.D.n b.c2] 29)).alloc (.cells #[.slice none 0 0, .slice none 0 0] 29)) w.heap.size 2 (fun i => if i = 0 then .slice b.a1 B.n b.c1 else .slice b.a2 B.D.n b.c2)) := (box2 w _ _ 29).blw hA2
  have HSZ : Hid (w.heap.size + 1 + 1 = ((w.alloc (.cells #[.slice b.a1 B.n b.c1, .slice b.a2 B.D.n b.c2] 29)).alloc (.cells #[.slice none 0 0, .slice none 0 0] 29)).heap.size) := by show _ = _; simp
  clear hA1 hA2 rR h
  go_enter Try.func115, Try.ntmps115
  obtain ⟨p0, p1⟩ := get2 HA0.out
  go_wp2_with fail
  clear p0 p1
  generalize ((w.alloc (.cells #[.slice b.a1 B.n b.c1, .slice b.a2 B.D.n b.c2] 29)).alloc (.cells #[.slice none 0 0, .slice none 0 0] 29)) = w0 at *
  refine (specGood_any b B Y _ hn HA.out).mono ?_
  rintro e w1 ⟨r, rfl, hr, hb1⟩
  have HT : Hid (r = true ↔ B.Good) := hr
  replace HSZ : Hid (w.heap.size + 1 + 1 ≤ w1.heap.size) := by have := HSZ.out; have := hb1.size; show _ ≤ _; omega
  replace HB : Hid (Blw w w1) := HB.out.trans hb1
  replace HR : Hid (Row w1 (w.heap.size + 1) 2 (fun i => if i = 0 then .slice none 0 0 else .slice none 0 0)) := HR.out.blw hb1
  replace HA0 : Hid (Row w1 w.heap.size 2 (fun i => if i = 0 then .slice b.a1 B.n b.c1 else .slice b.a2 B.D.n b.c2)) := HA0.out.blw hb1
  replace HA : Hid (BookAt Y w1 b B) := HA.out.blw hb1
  clear hr hb1
  cases r
  · have HN : Hid (¬ B.Good) := fun g => by have := HT.out.2 g; simp at this
    clear HT
    obtain ⟨t0, t1⟩ := get2 HR.out
    have f0 := HR.out.frozen 0
    have f1 := HR.out.frozen 1
    clear HR HA0
    go_wp2
    exact bodyPost_ret (v := .tuple #[BV.zero.val BD.zero, .bool false]) (by simp [results, Try.results115, go_sem, t0, t1]) rfl (zero_givesT (z := w.heap.size + 1) (by omega) (Or.inr ⟨fun q => HN.out q.1, rfl, rfl⟩) HB.out)
  have HG : Hid (B.Good) := HT.out.1 (by first | rfl | trivial)
  clear HT
  go_wp2_with fail
  refine (l6At_any a _).mono ?_
  rintro e w1 ⟨r, rfl, hr, rfl⟩
  have HT : Hid (r = true ↔ pgOK a) := hr
  clear hr
  cases r
  · have HN : Hid (¬ pgOK a) := fun g => by have := HT.out.2 g; simp at this
    clear HT
    obtain ⟨t0, t1⟩ := get2 HR.out
    have f0 := HR.out.frozen 0
    have f1 := HR.out.frozen 1
    clear HR HA0
    go_wp2
    exact bodyPost_ret (v := .tuple #[BV.zero.val BD.zero, .bool false]) (by simp [results, Try.results115, go_sem, t0, t1]) rfl (zero_givesT (z := w.heap.size + 1) (by omega) (Or.inr ⟨fun q => HN.out q.2.1, rfl, rfl⟩) HB.out)
  have H1 : Hid (pgOK a) := HT.out.1 (by first | rfl | trivial)
  clear HT
  go_wp2_with fail
  refine (l1In_any g 0 15 _).mono ?_
  rintro e w1 ⟨r, rfl, hr, rfl⟩
  have HT : Hid (r = true ↔ (0 ≤ g ∧ g ≤ 15)) := hr
  clear hr
  cases r
  · have HN : Hid (¬ (0 ≤ g ∧ g ≤ 15)) := fun g => by have := HT.out.2 g; simp at this
    clear HT
    obtain ⟨t0, t1⟩ := get2 HR.out
    have f0 := HR.out.frozen 0
    have f1 := HR.out.frozen 1
    clear HR HA0
    go_wp2
    exact bodyPost_ret (v := .tuple #[BV.zero.val BD.zero, .bool false]) (by simp [results, Try.results115, go_sem, t0, t1]) rfl (zero_givesT (z := w.heap.size + 1) (by omega) (Or.inr ⟨fun q => HN.out q.2.2.1.2.1, rfl, rfl⟩) HB.out)
  have H2 : Hid (pgOK g) := HT.out.1 (by first | rfl | trivial)
  clear HT
  go_wp2_with fail
  refine (l1In_any y 1 3 _).mono ?_
  rintro e w1 ⟨r, rfl, hr, rfl⟩
  have HT : Hid (r = true ↔ (1 ≤ y ∧ y ≤ 3)) := hr
  clear hr
  cases r
  · have HN : Hid (¬ (1 ≤ y ∧ y ≤ 3)) := fun g => by have := HT.out.2 g; simp at this
    clear HT
    obtain ⟨t0, t1⟩ := get2 HR.out
    have f0 := HR.out.frozen 0
    have f1 := HR.out.frozen 1
    clear HR HA0
    go_wp2
    exact bodyPost_ret (v := .tuple #[BV.zero.val BD.zero, .bool false]) (by simp [results, Try.results115, go_sem, t0, t1]) rfl (zero_givesT (z := w.heap.size + 1) (by omega) (Or.inr ⟨fun q => HN.out q.2.2.1.2.2, rfl, rfl⟩) HB.out)
  have H3 : Hid (mayOK y) := HT.out.1 (by first | rfl | trivial)
  clear HT
  obtain ⟨n, c, ⟨kn, len, p, m⟩⟩ := B
  obtain ⟨a1, a2, q1, q2⟩ := b
  have hn4 : n = 4 := HG.out.n
  subst hn4
  have hk4 : kn ≤ 4 := HG.out.k.2
  have hk1 : 0 < kn := HG.out.k.1
  simp only [BV.val] at *
  obtain ⟨x, hx, hx16⟩ : ∃ x : Nat, a = x ∧ x < 16 := ⟨a.toNat, by have := H1.out; unfold pgOK at this; omega, by have := H1.out; unfold pgOK at this; omega⟩
  subst hx
  have HN0 : Hid (0 ≤ lfP c m x) := lf_nonneg HG.out hx16
  obtain ⟨p0, p1⟩ := get2 HA0.out
  have hfm := fieldMay (lfP c p x) (lfP c m x)
  go_wp2_with fail
  clear p0 p1
  refine (l6Find_any ⟨a1, a2, q1, q2⟩ c kn len p m x Y _ HG.out hx16 HA.out).mono ?_
  rintro e w2 ⟨rfl, hb2⟩
  replace HB : Hid (Blw w w2) := HB.out.trans hb2
  replace HSZ : Hid (w.heap.size + 1 + 1 ≤ w2.heap.size) := by have := HSZ.out; have := hb2.size; show _ ≤ _; omega
  replace HR : Hid (Row w2 (w.heap.size + 1) 2 (fun i => if i = 0 then .slice none 0 0 else .slice none 0 0)) := HR.out.blw hb2
  replace HA0 : Hid (Row w2 w.heap.size 2 (fun i => if i = 0 then .slice a1 4 q1 else .slice a2 kn q2)) := HA0.out.blw hb2
  replace HA : Hid (BookAt Y w2 ⟨a1, a2, q1, q2⟩ ⟨4, c, ⟨kn, len, p, m⟩⟩) := HA.out.blw hb2
  clear hb2
  by_cases h0 : 0 < lfP c m x
  · have HN : Hid (0 < lfP c m x) := h0
    have d1 : decide (lfP c m x > 0) = true := by simp; omega
    clear h0
    obtain ⟨t0, t1⟩ := get2 HR.out
    have f0 := HR.out.frozen 0
    have f1 := HR.out.frozen 1
    clear HR HA0
    go_wp2
    exact bodyPost_ret (v := .tuple #[BV.zero.val BD.zero, .bool false]) (by simp [results, Try.results115, go_sem, t0, t1]) rfl (zero_givesT (z := w.heap.size + 1) (by omega) (Or.inr ⟨fun q => by have h1 := q.2.2.1.1; rw [Int.toNat_natCast] at h1; have h2 := HN.out; have h3 : lfP c m x = 0 := h1; omega, rfl, rfl⟩) HB.out)
  have HN : Hid (lfP c m x = 0) := by have := HN0.out; show _ = _; omega
  have d1 : decide (lfP c m x > 0) = false := by simp; omega
  clear h0
  obtain ⟨p0, p1⟩ := get2 HA0.out
  go_wp2_with fail
  clear p0 p1 hfm
  refine (l6Own_any ⟨a1, a2, q1, q2⟩ c kn len p m Y _ hk4 (fun i hi => (HG.out.leaf i hi).1) HA.out).mono ?_
  rintro e w3 ⟨b3, rfl, own, hb3⟩
  have hs3 := HSZ.out
  have hs4 := hb3.size
  obtain ⟨bt, bl, c1, c2, A, C, Z, X, rfl, hOT⟩ := OT.make (lo := w.heap.size + 1 + 1) hk1 (own.mono (fun x hx => ⟨by omega, hx.2⟩)) (by omega)
  have hA3 : Blw w3 (w3.alloc (.cells #[.slice (some ⟨bt, 0, none⟩) 4 c1, .slice (some ⟨bl, 0, none⟩) kn c2] 29)) := (Blw.refl _).alloc _
  have HOT : Hid (OT (w.heap.size + 1 + 1) w3.heap.size (w3.alloc (.cells #[.slice (some ⟨bt, 0, none⟩) 4 c1, .slice (some ⟨bl, 0, none⟩) kn c2] 29)) bt bl c1 c2 c kn p m A C Z X) := hOT
  replace HB : Hid (Blw w (w3.alloc (.cells #[.slice (some ⟨bt, 0, none⟩) 4 c1, .slice (some ⟨bl, 0, none⟩) kn c2] 29))) := HB.out.trans (hb3.trans hA3)
  replace HR : Hid (Row (w3.alloc (.cells #[.slice (some ⟨bt, 0, none⟩) 4 c1, .slice (some ⟨bl, 0, none⟩) kn c2] 29)) (w.heap.size + 1) 2 (fun i => if i = 0 then .slice none 0 0 else .slice none 0 0)) := HR.out.blw (hb3.trans hA3)
  have hd : Int.tdiv (x : Int) 4 = ((x / 4 : Nat) : Int) := by rw [Int.tdiv_eq_ediv_of_nonneg (by omega)]; rfl
  have hr : Int.tmod (x : Int) 4 = ((x % 4 : Nat) : Int) := by rw [Int.tmod_eq_emod_of_nonneg (by omega)]; rfl
  have hd4 : x / 4 < 4 := by omega
  have hr4 : x % 4 < 4 := by omega
  have hd4' : ((x / 4 : Nat) : Int) < 4 := by omega
  have hr4' : ((x % 4 : Nat) : Int) < 4 := by omega
  have htop := HG.out.top (x / 4) hd4
  dsimp only at htop
  clear own hb3 hA3 hs3 hs4 hOT HA HA0
  have HOUT : Hid (∀ q, goes c kn (x / 4) q → chOut ⟨4, c, ⟨kn, len, p, m⟩⟩ (x : Int) (fun _ oy => oy = 0 ∧ pgOK g ∧ mayOK y) (fun _ => g) y ⟨4, upd c (x / 4) q, ⟨kn, fun _ => 4, upd2 p q (x % 4) g, upd2 m q (x % 4) y⟩⟩ true) := by
    intro q hq
    refine Or.inl ⟨⟨HG.out, H1.out, by rw [Int.toNat_natCast]; exact ⟨HN.out, H2.out, H3.out⟩, q, by rw [Int.toNat_natCast]; exact hq⟩, ⟨q, by rw [Int.toNat_natCast]; exact hq, ?_⟩, rfl⟩
    rw [Int.toNat_natCast]
    unfold chB
    dsimp only
    rw [topsOf_no (nz8 hr4 H3.out (upd2_at _ _ _ _))]
  have HNO : Hid (¬ (∃ q, goes c kn (x / 4) q) → ¬ chOK ⟨4, c, ⟨kn, len, p, m⟩⟩ (x : Int) (fun _ oy => oy = 0 ∧ pgOK g ∧ mayOK y)) := fun hno q => hno (by have h1 := q.2.2.2; rw [Int.toNat_natCast] at h1; exact h1)
  clear HN HN0 H2
  go_upto_region 4 with fail
  generalize w3.alloc (.cells #[.slice (some ⟨bt, 0, none⟩) 4 c1, .slice (some ⟨bl, 0, none⟩) kn c2] 29) = W at *
  generalize w3.heap.size = zb at *
  generalize x / 4 = t at *
  generalize x % 4 = j at *
  go_wp2_with fail
  go_loopw [12] (fun i wr => ∃ k : Nat, k ≤ kn ∧ i = .int .i64 k ∧ ∃ c', OT (w.heap.size + 1 + 1) zb wr bt bl c1 c2 c' kn p m A C Z X ∧ ((c' = c ∧ c t = -1 ∧ ∀ k', k' < k → hasLine 4 c (k' : Int)) ∨ ∃ q : Nat, q < kn ∧ goes c kn t q ∧ c' = upd c t q) ∧ Blw w wr ∧ Row wr (w.heap.size + 1) 2 (fun i => if i = 0 then .slice none 0 0 else .slice none 0 0)) (fun i _ => kn - (intOf i).toNat)
  case atStart =>
    refine ⟨0, Nat.zero_le _, rfl, c, HOT.out, ?_, HB.out, HR.out⟩
    by_cases h0 : 0 ≤ c t
    · obtain ⟨q, hq⟩ : ∃ q : Nat, c t = q := ⟨(c t).toNat, by omega⟩
      exact Or.inr ⟨q, by omega, Or.inl hq, (upd_self hq).symm⟩
    · exact Or.inl ⟨rfl, by omega, fun k' hk' => absurd hk' (Nat.not_lt_zero _)⟩
  case round =>
    clear HOT HB HR
    obtain ⟨k, hk, rfl, c', hot, hst, hb, hrr⟩ := hrel
    have HOT : Hid (OT (w.heap.size + 1 + 1) zb wr bt bl c1 c2 c' kn p m A C Z X) := hot
    have HB : Hid (Blw w wr) := hb
    have HR : Hid (Row wr (w.heap.size + 1) 2 (fun i => if i = 0 then .slice none 0 0 else .slice none 0 0)) := hrr
    clear hot hb hrr
    have x0 := (get2 HOT.out.box).1
    have x1 := (get2 HOT.out.box).2
    have tp := HOT.out.top.cell hd4
    rcases hst with ⟨rfl, hc, hall⟩ | ⟨q, hqk, hgo, rfl⟩
    · have HALL : Hid (∀ k', k' < k → hasLine 4 c' (k' : Int)) := hall
      have HC : Hid (c' t = -1) := hc
      rw [hc] at tp
      clear hc hall
      by_cases hlt : k < kn
      · have hlt' : (k : Int) < (kn : Int) := by omega
        go_wp2_with fail
        refine (l1Has_any (some ⟨bt, 0, none⟩) c1 4 c' _ _ (k : Int) HOT.out.topAt).mono ?_
        rintro e wr ⟨r, rfl, hr5, rfl⟩
        have HT : Hid (r = true ↔ hasLine 4 c' (k : Int)) := hr5
        clear hr5
        cases r
        · have HGO : Hid (goes c' kn t k) := Or.inr ⟨HC.out, hlt, fun g => by have := HT.out.2 g; simp at this, HALL.out⟩
          have f0 := HOT.out.top.frozen t
          have ms : Mod (fun x => x = bt) wr (wr.setCell ⟨bt, t, none⟩ (.int .i64 k)) := Mod.setCell (X := fun x => x = bt) _ (p := ⟨bt, t, none⟩) rfl _
          have hb := HOT.out.nb
          replace HOT : Hid (OT (w.heap.size + 1 + 1) zb (wr.setCell ⟨bt, t, none⟩ (.int .i64 k)) bt bl c1 c2 (upd c' t k) kn p m A C Z X) := HOT.out.setTop t k
          replace HB : Hid (Blw w (wr.setCell ⟨bt, t, none⟩ (.int .i64 k))) := Mod.blw HB.out ms (fun i hi => by omega)
          replace HR : Hid (Row (wr.setCell ⟨bt, t, none⟩ (.int .i64 k)) (w.heap.size + 1) 2 (fun i => if i = 0 then .slice none 0 0 else .slice none 0 0)) := HR.out.mod ms (by omega)
          clear ms hb HT HALL HC
          go_wp2
          go_roundw
          case rel => exact ⟨k + 1, by omega, by go_num, upd c' t k, HOT.out, Or.inr ⟨k, hlt, HGO.out, rfl⟩, HB.out, HR.out⟩
          case measure => simp [intOf]; omega
        · have HN : Hid (∀ k', k' < k + 1 → hasLine 4 c' (k' : Int)) := has_step HALL.out (HT.out.1 (by first | rfl | trivial))
          clear HT HALL
          go_wp2
          go_roundw
          case rel => exact ⟨k + 1, by omega, by go_num, c', HOT.out, Or.inl ⟨rfl, HC.out, HN.out⟩, HB.out, HR.out⟩
          case measure => simp [intOf]; omega
      · obtain rfl : k = kn := by omega
        have HNN : Hid (¬ chOK ⟨4, c', ⟨k, len, p, m⟩⟩ (x : Int) (fun _ oy => oy = 0 ∧ pgOK g ∧ mayOK y)) := HNO.out (show ¬ ∃ q, goes c' k t q from fun ⟨q, g⟩ => by
          rcases g with g | ⟨-, g1, g2, -⟩
          · have := HC.out; omega
          · exact g2 (HALL.out q g1))
        obtain ⟨t0, t1⟩ := get2 HR.out
        have f0 := HR.out.frozen 0
        have f1 := HR.out.frozen 1
        clear HR HALL HC HOT HOUT HNO
        go_wp2
        exact bodyPost_ret (v := .tuple #[BV.zero.val BD.zero, .bool false]) (by simp [results, Try.results115, go_sem, t0, t1]) rfl (zero_givesT (z := w.heap.size + 1) (by omega) (Or.inr ⟨HNN.out, rfl, rfl⟩) HB.out)
    · rw [upd_at] at tp
      have hqk' : (q : Int) < (kn : Int) := by omega
      have HGO : Hid (goes c kn t q) := hgo
      replace HOUT : Hid (chOut ⟨4, c, ⟨kn, len, p, m⟩⟩ (x : Int) (fun _ oy => oy = 0 ∧ pgOK g ∧ mayOK y) (fun _ => g) y ⟨4, upd c t q, ⟨kn, fun _ => 4, upd2 p q j g, upd2 m q j y⟩⟩ true) := HOUT.out q HGO.out
      clear hgo HNO
      have hk' : (k : Int) ≤ (kn : Int) := by omega
      by_cases hlt : k < kn
      · have hlt' : (k : Int) < (kn : Int) := by omega
        go_upto_region 12 with fail
        clear x0 x1 tp
        generalize wr = W at *
        replace HOT : Hid (OT (w.heap.size + 1 + 1) zb W.drew bt bl c1 c2 (upd c t q) kn p m A C Z X) := HOT.out.go (Blw.refl _).drew
        replace HB : Hid (Blw w W.drew) := HB.out.drew
        replace HR : Hid (Row W.drew (w.heap.size + 1) 2 (fun i => if i = 0 then .slice none 0 0 else .slice none 0 0)) := HR.out.blw (Blw.refl _).drew
        obtain ⟨gb, ea, n1, n2, n3, hlo, hr8, hs2, -⟩ := HOT.out.leaf hqk hr4
        have x0 := (get2 HOT.out.box).1
        have x1 := (get2 HOT.out.box).2
        have tp := HOT.out.top.cell hd4
        rw [upd_at] at tp
        have ls := HOT.out.ls.row.cell hqk
        dsimp only at ls
        rw [ea] at ls
        have f0 := hr8.frozen (j * 2)
        have f1 := hr8.frozen (j * 2 + 1)
        have l0 : W.drew.cell? ⟨gb, j * 2, none⟩ = some (.int .i64 (p q j)) := by rw [hr8.cell (i := j * 2) (by omega), (uc_at _ _ j).1]
        have l1 : W.drew.cell? ⟨gb, j * 2 + 1, none⟩ = some (.int .i64 (m q j)) := by rw [hr8.cell (i := j * 2 + 1) (by omega), (uc_at _ _ j).2]
        have HOTF : Hid (OT (w.heap.size + 1 + 1) zb ((W.drew.setCell ⟨gb, j * 2, none⟩ (.int .i64 g)).setCell ⟨gb, j * 2 + 1, none⟩ (.int .i64 y)) bt bl c1 c2 (upd c t q) kn (upd2 p q j g) (upd2 m q j y) A C Z X) := hs2 g y
        have ms : Mod (fun x => x = gb) W.drew ((W.drew.setCell ⟨gb, j * 2, none⟩ (.int .i64 g)).setCell ⟨gb, j * 2 + 1, none⟩ (.int .i64 y)) := (Mod.setCell (X := fun x => x = gb) _ (p := ⟨gb, j * 2, none⟩) rfl _).trans (Mod.setCell (X := fun x => x = gb) _ (p := ⟨gb, j * 2 + 1, none⟩) rfl _)
        have HB' : Hid (Blw w ((W.drew.setCell ⟨gb, j * 2, none⟩ (.int .i64 g)).setCell ⟨gb, j * 2 + 1, none⟩ (.int .i64 y))) := Mod.blw HB.out ms (fun i hi => by omega)
        have HR' : Hid (Row ((W.drew.setCell ⟨gb, j * 2, none⟩ (.int .i64 g)).setCell ⟨gb, j * 2 + 1, none⟩ (.int .i64 y)) (w.heap.size + 1) 2 (fun i => if i = 0 then .slice none 0 0 else .slice none 0 0)) := HR.out.mod ms (by omega)
        clear hs2 hr8 ms HOT HB HR ea hlo
        have hwt : IntKind.i64.wrap ((t : Nat) : Int) = t := by rw [IntKind.wrap_i64]; omega
        have hwj : IntKind.i64.wrap ((j : Nat) : Int) = j := by rw [IntKind.wrap_i64]; omega
        have hS0 := And.intro x0 (And.intro x1 (And.intro tp ls))
        refine wp_region_noPanic ?_
        refine wp_region_held_drew (S := fun (w' : World) => w'.cell? ⟨zb, 0, none⟩ = some (.slice (some ⟨bt, 0, none⟩) 4 c1) ∧ w'.cell? ⟨zb, 1, none⟩ = some (.slice (some ⟨bl, 0, none⟩) kn c2) ∧ w'.cell? ⟨bt, t, none⟩ = some (.int .i64 q) ∧ w'.cell? ⟨bl, q, none⟩ = some (.slice (some ⟨gb, 0, none⟩) 4 (C q))) (by kernel_rfl) hS0 (fun hB => ?_)
        clear hB
        generalize W.drew = wd at *
        refine wpAnyH_take (i := 0) (oi := { dst := some 75, op := Op.fieldAddr 29 (Operand.tmp 10) 1, type := 0, pos := _, after := #[], guard := none }) (v := (.pointer (some ⟨zb, 1, none⟩))) rfl (by kernel_rfl) (by kernel_rfl) (by kernel_rfl) (fun _ _ _ h => h) (Or.inl ⟨by rfl, fun w' hS => by (try dsimp only at hS); go_simp⟩) hS0 ?_
        simp only [Act.put, List.setIfInBounds_toArray, List.set_cons_zero, List.set_cons_succ]
        refine wpAnyH_take (i := 2) (oi := { dst := some 77, op := Op.fieldAddr 29 (Operand.tmp 10) 0, type := 0, pos := _, after := #[], guard := none }) (v := (.pointer (some ⟨zb, 0, none⟩))) rfl (by kernel_rfl) (by kernel_rfl) (by kernel_rfl) (fun _ _ _ h => h) (Or.inl ⟨by rfl, fun w' hS => by (try dsimp only at hS); go_simp⟩) hS0 ?_
        simp only [Act.put, List.setIfInBounds_toArray, List.set_cons_zero, List.set_cons_succ]
        refine wpAnyH_take (i := 4) (oi := { dst := some 79, op := Op.move (Operand.tmp 11), type := 3, pos := _, after := #[], guard := none }) (v := (.int .i64 t)) rfl (by kernel_rfl) (by kernel_rfl) (by kernel_rfl) (fun _ _ _ h => h) (Or.inl ⟨by rfl, fun w' hS => by (try dsimp only at hS); go_simp⟩) hS0 ?_
        simp only [Act.put, List.setIfInBounds_toArray, List.set_cons_zero, List.set_cons_succ]
        refine wpAnyH_take (i := 9) (oi := { dst := some 84, op := Op.move (Operand.tmp 1), type := 3, pos := _, after := #[], guard := none }) (v := (.int .i64 x)) rfl (by kernel_rfl) (by kernel_rfl) (by kernel_rfl) (fun _ _ _ h => h) (Or.inl ⟨by rfl, fun w' hS => by (try dsimp only at hS); go_simp⟩) hS0 ?_
        simp only [Act.put, List.setIfInBounds_toArray, List.set_cons_zero, List.set_cons_succ]
        refine wpAnyH_take (i := 11) (oi := { dst := some 86, op := Op.move (Operand.tmp 2), type := 3, pos := _, after := #[], guard := none }) (v := (.int .i64 g)) rfl (by kernel_rfl) (by kernel_rfl) (by kernel_rfl) (fun _ _ _ h => h) (Or.inl ⟨by rfl, fun w' hS => by (try dsimp only at hS); go_simp⟩) hS0 ?_
        simp only [Act.put, List.setIfInBounds_toArray, List.set_cons_zero, List.set_cons_succ]
        refine wpAnyH_take (i := 12) (oi := { dst := some 87, op := Op.move (Operand.tmp 3), type := 3, pos := _, after := #[], guard := none }) (v := (.int .i64 y)) rfl (by kernel_rfl) (by kernel_rfl) (by kernel_rfl) (fun _ _ _ h => h) (Or.inl ⟨by rfl, fun w' hS => by (try dsimp only at hS); go_simp⟩) hS0 ?_
        simp only [Act.put, List.setIfInBounds_toArray, List.set_cons_zero, List.set_cons_succ]
        refine wpAnyH_take (i := 1) (oi := { dst := some 76, op := Op.load 27 (Operand.tmp 75), type := 27, pos := _, after := #[{ on := 0, ground := Ground.data }], guard := none }) (v := (.slice (some ⟨bl, 0, none⟩) kn c2)) rfl (by kernel_rfl) (by kernel_rfl) (by kernel_rfl) (fun _ _ _ h => h) (Or.inl ⟨by rfl, fun w' hS => by (try dsimp only at hS); go_simp⟩) hS0 ?_
        simp only [Act.put, List.setIfInBounds_toArray, List.set_cons_zero, List.set_cons_succ]
        refine wpAnyH_take (i := 3) (oi := { dst := some 78, op := Op.load 26 (Operand.tmp 77), type := 26, pos := _, after := #[{ on := 2, ground := Ground.data }], guard := none }) (v := (.slice (some ⟨bt, 0, none⟩) 4 c1)) rfl (by kernel_rfl) (by kernel_rfl) (by kernel_rfl) (fun _ _ _ h => h) (Or.inl ⟨by rfl, fun w' hS => by (try dsimp only at hS); go_simp⟩) hS0 ?_
        simp only [Act.put, List.setIfInBounds_toArray, List.set_cons_zero, List.set_cons_succ]
        refine wpAnyH_take (i := 10) (oi := { dst := some 85, op := Op.binOp BinOp.rem 3 (Operand.tmp 84) (Operand.const (Value.int IntKind.i64 4)) 3, type := 3, pos := _, after := #[{ on := 9, ground := Ground.data }], guard := none }) (v := (.int .i64 j)) rfl (by kernel_rfl) (by kernel_rfl) (by kernel_rfl) (fun _ _ _ h => h) (Or.inl ⟨by rfl, fun w' hS => by (try dsimp only at hS); go_simp⟩) hS0 ?_
        simp only [Act.put, List.setIfInBounds_toArray, List.set_cons_zero, List.set_cons_succ]
        refine wpAnyH_take (i := 13) (oi := { dst := some 88, op := Op.build 144 #[(0, Operand.tmp 86), (1, Operand.tmp 87)], type := 144, pos := _, after := #[{ on := 11, ground := Ground.data }, { on := 12, ground := Ground.data }], guard := none }) (v := (.agg #[.int .i64 g, .int .i64 y])) rfl (by kernel_rfl) (by kernel_rfl) (by kernel_rfl) (fun _ _ _ h => h) (Or.inl ⟨by rfl, fun w' hS => by (try dsimp only at hS); go_simp⟩) hS0 ?_
        simp only [Act.put, List.setIfInBounds_toArray, List.set_cons_zero, List.set_cons_succ]
        refine wpAnyH_take (i := 5) (oi := { dst := some 80, op := Op.indexAddr 26 (Operand.tmp 78) (Operand.tmp 79), type := 0, pos := _, after := #[{ on := 3, ground := Ground.data }, { on := 4, ground := Ground.data }], guard := none }) (v := (.pointer (some ⟨bt, t, none⟩))) rfl (by kernel_rfl) (by kernel_rfl) (by kernel_rfl) (fun _ _ _ h => h) (Or.inl ⟨by rfl, fun w' hS => by (try dsimp only at hS); go_simp⟩) hS0 ?_
        simp only [Act.put, List.setIfInBounds_toArray, List.set_cons_zero, List.set_cons_succ]
        refine wpAnyH_take (i := 6) (oi := { dst := some 81, op := Op.load 3 (Operand.tmp 80), type := 3, pos := _, after := #[{ on := 5, ground := Ground.data }], guard := none }) (v := (.int .i64 q)) rfl (by kernel_rfl) (by kernel_rfl) (by kernel_rfl) (fun _ _ _ h => h) (Or.inl ⟨by rfl, fun w' hS => by (try dsimp only at hS); go_simp⟩) hS0 ?_
        simp only [Act.put, List.setIfInBounds_toArray, List.set_cons_zero, List.set_cons_succ]
        refine wpAnyH_take (i := 7) (oi := { dst := some 82, op := Op.indexAddr 27 (Operand.tmp 76) (Operand.tmp 81), type := 0, pos := _, after := #[{ on := 1, ground := Ground.data }, { on := 6, ground := Ground.data }], guard := none }) (v := (.pointer (some ⟨bl, q, none⟩))) rfl (by kernel_rfl) (by kernel_rfl) (by kernel_rfl) (fun _ _ _ h => h) (Or.inl ⟨by rfl, fun w' hS => by (try dsimp only at hS); go_simp⟩) hS0 ?_
        simp only [Act.put, List.setIfInBounds_toArray, List.set_cons_zero, List.set_cons_succ]
        refine wpAnyH_take (i := 8) (oi := { dst := some 83, op := Op.load 147 (Operand.tmp 82), type := 147, pos := _, after := #[{ on := 7, ground := Ground.data }], guard := none }) (v := (.slice (some ⟨gb, 0, none⟩) 4 (C q))) rfl (by kernel_rfl) (by kernel_rfl) (by kernel_rfl) (fun _ _ _ h => h) (Or.inl ⟨by rfl, fun w' hS => by (try dsimp only at hS); go_simp⟩) hS0 ?_
        simp only [Act.put, List.setIfInBounds_toArray, List.set_cons_zero, List.set_cons_succ]
        refine wpAnyH_take (i := 14) (oi := { dst := some 89, op := Op.indexAddr 147 (Operand.tmp 83) (Operand.tmp 85), type := 0, pos := _, after := #[{ on := 8, ground := Ground.data }, { on := 10, ground := Ground.data }, { on := 0, ground := Ground.phase }, { on := 1, ground := Ground.phase }, { on := 2, ground := Ground.phase }, { on := 3, ground := Ground.phase }, { on := 4, ground := Ground.phase }, { on := 5, ground := Ground.phase }, { on := 6, ground := Ground.phase }, { on := 7, ground := Ground.phase }, { on := 8, ground := Ground.phase }, { on := 9, ground := Ground.phase }, { on := 10, ground := Ground.phase }, { on := 11, ground := Ground.phase }, { on := 12, ground := Ground.phase }, { on := 13, ground := Ground.phase }], guard := none }) (v := (.pointer (some ⟨gb, j * 2, none⟩))) rfl (by kernel_rfl) (by kernel_rfl) (by kernel_rfl) (fun _ _ _ h => h) (Or.inl ⟨by rfl, fun w' hS => by (try dsimp only at hS); go_simp⟩) hS0 ?_
        simp only [Act.put, List.setIfInBounds_toArray, List.set_cons_zero, List.set_cons_succ]
        refine wpAnyH_ready (rs := [15]) (by kernel_rfl) (by simp) ?_
        refine AllReadyH.cons (o := { dst := none, op := Op.store 144 (Operand.tmp 89) (Operand.tmp 88), type := 0, pos := _, after := #[{ on := 14, ground := Ground.data }, { on := 13, ground := Ground.data }, { on := 0, ground := Ground.phase }, { on := 1, ground := Ground.phase }, { on := 2, ground := Ground.phase }, { on := 3, ground := Ground.phase }, { on := 4, ground := Ground.phase }, { on := 5, ground := Ground.phase }, { on := 6, ground := Ground.phase }, { on := 7, ground := Ground.phase }, { on := 8, ground := Ground.phase }, { on := 9, ground := Ground.phase }, { on := 10, ground := Ground.phase }, { on := 11, ground := Ground.phase }, { on := 12, ground := Ground.phase }, { on := 13, ground := Ground.phase }], guard := none }) rfl (fun K hK => ?_) AllReadyH.nil
        go_simp
        have mS : Mod (fun x => x = gb) wd ((wd.setCell ⟨gb, j * 2, none⟩ (.int .i64 g)).setCell ⟨gb, j * 2 + 1, none⟩ (.int .i64 y)) := (Mod.setCell (X := fun x => x = gb) _ (p := ⟨gb, j * 2, none⟩) rfl _).trans (Mod.setCell (X := fun x => x = gb) _ (p := ⟨gb, j * 2 + 1, none⟩) rfl _)
        have hSt := And.intro (mS.cell x0 (fun e => n1 e.symm)) (And.intro (mS.cell x1 (fun e => n1 e.symm)) (And.intro (mS.cell tp (fun e => n2 e.symm)) (mS.cell ls (fun e => n3 e.symm))))
        clear mS
        refine hK.out _ _ hSt (fun hB => ?_)
        clear hK K hB
        try simp only [Act.put, List.setIfInBounds_toArray, List.set_cons_zero, List.set_cons_succ]
        refine wpAnyH_done (by kernel_rfl) ?_ _
        refine NoPanic.normal ?_
        clear hSt hS0 x0 x1 tp ls f0 f1 l0 l1
        replace HB : Hid (Blw w ((wd.setCell ⟨gb, j * 2, none⟩ (.int .i64 g)).setCell ⟨gb, j * 2 + 1, none⟩ (.int .i64 y))) := HB'.out
        replace HR : Hid (Row ((wd.setCell ⟨gb, j * 2, none⟩ (.int .i64 g)).setCell ⟨gb, j * 2 + 1, none⟩ (.int .i64 y)) (w.heap.size + 1) 2 (fun i => if i = 0 then .slice none 0 0 else .slice none 0 0)) := HR'.out
        clear HB' HR'
        generalize ((wd.setCell ⟨gb, j * 2, none⟩ (.int .i64 g)).setCell ⟨gb, j * 2 + 1, none⟩ (.int .i64 y)) = WF at *
        generalize upd c t q = cF at *
        generalize upd2 p q j g = pF at *
        generalize upd2 m q j y = mF at *
        have hzr := HR.out.lt
        have hzb := HOTF.out.nb.2.2
        have FIN : Hid _ := fin_givesT (out := chOut ⟨4, c, ⟨kn, len, p, m⟩⟩ (x : Int) (fun _ oy => oy = 0 ∧ pgOK g ∧ mayOK y) (fun _ => g) y) (w := w) (W := WF) (z := w.heap.size + 1) (b := ⟨some ⟨bt, 0, none⟩, some ⟨bl, 0, none⟩, c1, c2⟩) (R := ⟨4, cF, ⟨kn, fun _ => 4, pF, mF⟩⟩) (by omega) HOUT.out (tot4 (c := c) hk4) HB.out (HOTF.out.own hk4) (fun x hx => ⟨by omega, by omega, hx.2⟩)
        obtain ⟨t0, t1⟩ := get2 HR.out
        obtain ⟨s0, s1⟩ := get2 HOTF.out.box
        have f0 := HR.out.frozen 0
        have f1 := HR.out.frozen 1
        clear HR HB HOTF HOUT hzr hzb
        go_wp2
        exact bodyPost_ret (v := .tuple #[(BV.mk (some ⟨bt, 0, none⟩) (some ⟨bl, 0, none⟩) c1 c2).val ⟨4, cF, ⟨kn, fun _ => 4, pF, mF⟩⟩, .bool true]) (by simp [results, Try.results115, go_sem, t0, t1]) rfl FIN.out
      · have hlt' : ¬ (k : Int) < (kn : Int) := by omega
        go_upto_region 12 with fail
        clear x0 x1 tp
        generalize wr = W at *
        replace HOT : Hid (OT (w.heap.size + 1 + 1) zb W.drew bt bl c1 c2 (upd c t q) kn p m A C Z X) := HOT.out.go (Blw.refl _).drew
        replace HB : Hid (Blw w W.drew) := HB.out.drew
        replace HR : Hid (Row W.drew (w.heap.size + 1) 2 (fun i => if i = 0 then .slice none 0 0 else .slice none 0 0)) := HR.out.blw (Blw.refl _).drew
        obtain ⟨gb, ea, n1, n2, n3, hlo, hr8, hs2, -⟩ := HOT.out.leaf hqk hr4
        have x0 := (get2 HOT.out.box).1
        have x1 := (get2 HOT.out.box).2
        have tp := HOT.out.top.cell hd4
        rw [upd_at] at tp
        have ls := HOT.out.ls.row.cell hqk
        dsimp only at ls
        rw [ea] at ls
        have f0 := hr8.frozen (j * 2)
        have f1 := hr8.frozen (j * 2 + 1)
        have l0 : W.drew.cell? ⟨gb, j * 2, none⟩ = some (.int .i64 (p q j)) := by rw [hr8.cell (i := j * 2) (by omega), (uc_at _ _ j).1]
        have l1 : W.drew.cell? ⟨gb, j * 2 + 1, none⟩ = some (.int .i64 (m q j)) := by rw [hr8.cell (i := j * 2 + 1) (by omega), (uc_at _ _ j).2]
        have HOTF : Hid (OT (w.heap.size + 1 + 1) zb ((W.drew.setCell ⟨gb, j * 2, none⟩ (.int .i64 g)).setCell ⟨gb, j * 2 + 1, none⟩ (.int .i64 y)) bt bl c1 c2 (upd c t q) kn (upd2 p q j g) (upd2 m q j y) A C Z X) := hs2 g y
        have ms : Mod (fun x => x = gb) W.drew ((W.drew.setCell ⟨gb, j * 2, none⟩ (.int .i64 g)).setCell ⟨gb, j * 2 + 1, none⟩ (.int .i64 y)) := (Mod.setCell (X := fun x => x = gb) _ (p := ⟨gb, j * 2, none⟩) rfl _).trans (Mod.setCell (X := fun x => x = gb) _ (p := ⟨gb, j * 2 + 1, none⟩) rfl _)
        have HB' : Hid (Blw w ((W.drew.setCell ⟨gb, j * 2, none⟩ (.int .i64 g)).setCell ⟨gb, j * 2 + 1, none⟩ (.int .i64 y))) := Mod.blw HB.out ms (fun i hi => by omega)
        have HR' : Hid (Row ((W.drew.setCell ⟨gb, j * 2, none⟩ (.int .i64 g)).setCell ⟨gb, j * 2 + 1, none⟩ (.int .i64 y)) (w.heap.size + 1) 2 (fun i => if i = 0 then .slice none 0 0 else .slice none 0 0)) := HR.out.mod ms (by omega)
        clear hs2 hr8 ms HOT HB HR ea hlo
        have hwt : IntKind.i64.wrap ((t : Nat) : Int) = t := by rw [IntKind.wrap_i64]; omega
        have hwj : IntKind.i64.wrap ((j : Nat) : Int) = j := by rw [IntKind.wrap_i64]; omega
        have hS0 := And.intro x0 (And.intro x1 (And.intro tp ls))
        refine wp_region_noPanic ?_
        refine wp_region_held_drew (S := fun (w' : World) => w'.cell? ⟨zb, 0, none⟩ = some (.slice (some ⟨bt, 0, none⟩) 4 c1) ∧ w'.cell? ⟨zb, 1, none⟩ = some (.slice (some ⟨bl, 0, none⟩) kn c2) ∧ w'.cell? ⟨bt, t, none⟩ = some (.int .i64 q) ∧ w'.cell? ⟨bl, q, none⟩ = some (.slice (some ⟨gb, 0, none⟩) 4 (C q))) (by kernel_rfl) hS0 (fun hB => ?_)
        clear hB
        generalize W.drew = wd at *
        refine wpAnyH_take (i := 0) (oi := { dst := some 75, op := Op.fieldAddr 29 (Operand.tmp 10) 1, type := 0, pos := _, after := #[], guard := none }) (v := (.pointer (some ⟨zb, 1, none⟩))) rfl (by kernel_rfl) (by kernel_rfl) (by kernel_rfl) (fun _ _ _ h => h) (Or.inl ⟨by rfl, fun w' hS => by (try dsimp only at hS); go_simp⟩) hS0 ?_
        simp only [Act.put, List.setIfInBounds_toArray, List.set_cons_zero, List.set_cons_succ]
        refine wpAnyH_take (i := 2) (oi := { dst := some 77, op := Op.fieldAddr 29 (Operand.tmp 10) 0, type := 0, pos := _, after := #[], guard := none }) (v := (.pointer (some ⟨zb, 0, none⟩))) rfl (by kernel_rfl) (by kernel_rfl) (by kernel_rfl) (fun _ _ _ h => h) (Or.inl ⟨by rfl, fun w' hS => by (try dsimp only at hS); go_simp⟩) hS0 ?_
        simp only [Act.put, List.setIfInBounds_toArray, List.set_cons_zero, List.set_cons_succ]
        refine wpAnyH_take (i := 4) (oi := { dst := some 79, op := Op.move (Operand.tmp 11), type := 3, pos := _, after := #[], guard := none }) (v := (.int .i64 t)) rfl (by kernel_rfl) (by kernel_rfl) (by kernel_rfl) (fun _ _ _ h => h) (Or.inl ⟨by rfl, fun w' hS => by (try dsimp only at hS); go_simp⟩) hS0 ?_
        simp only [Act.put, List.setIfInBounds_toArray, List.set_cons_zero, List.set_cons_succ]
        refine wpAnyH_take (i := 9) (oi := { dst := some 84, op := Op.move (Operand.tmp 1), type := 3, pos := _, after := #[], guard := none }) (v := (.int .i64 x)) rfl (by kernel_rfl) (by kernel_rfl) (by kernel_rfl) (fun _ _ _ h => h) (Or.inl ⟨by rfl, fun w' hS => by (try dsimp only at hS); go_simp⟩) hS0 ?_
        simp only [Act.put, List.setIfInBounds_toArray, List.set_cons_zero, List.set_cons_succ]
        refine wpAnyH_take (i := 11) (oi := { dst := some 86, op := Op.move (Operand.tmp 2), type := 3, pos := _, after := #[], guard := none }) (v := (.int .i64 g)) rfl (by kernel_rfl) (by kernel_rfl) (by kernel_rfl) (fun _ _ _ h => h) (Or.inl ⟨by rfl, fun w' hS => by (try dsimp only at hS); go_simp⟩) hS0 ?_
        simp only [Act.put, List.setIfInBounds_toArray, List.set_cons_zero, List.set_cons_succ]
        refine wpAnyH_take (i := 12) (oi := { dst := some 87, op := Op.move (Operand.tmp 3), type := 3, pos := _, after := #[], guard := none }) (v := (.int .i64 y)) rfl (by kernel_rfl) (by kernel_rfl) (by kernel_rfl) (fun _ _ _ h => h) (Or.inl ⟨by rfl, fun w' hS => by (try dsimp only at hS); go_simp⟩) hS0 ?_
        simp only [Act.put, List.setIfInBounds_toArray, List.set_cons_zero, List.set_cons_succ]
        refine wpAnyH_take (i := 1) (oi := { dst := some 76, op := Op.load 27 (Operand.tmp 75), type := 27, pos := _, after := #[{ on := 0, ground := Ground.data }], guard := none }) (v := (.slice (some ⟨bl, 0, none⟩) kn c2)) rfl (by kernel_rfl) (by kernel_rfl) (by kernel_rfl) (fun _ _ _ h => h) (Or.inl ⟨by rfl, fun w' hS => by (try dsimp only at hS); go_simp⟩) hS0 ?_
        simp only [Act.put, List.setIfInBounds_toArray, List.set_cons_zero, List.set_cons_succ]
        refine wpAnyH_take (i := 3) (oi := { dst := some 78, op := Op.load 26 (Operand.tmp 77), type := 26, pos := _, after := #[{ on := 2, ground := Ground.data }], guard := none }) (v := (.slice (some ⟨bt, 0, none⟩) 4 c1)) rfl (by kernel_rfl) (by kernel_rfl) (by kernel_rfl) (fun _ _ _ h => h) (Or.inl ⟨by rfl, fun w' hS => by (try dsimp only at hS); go_simp⟩) hS0 ?_
        simp only [Act.put, List.setIfInBounds_toArray, List.set_cons_zero, List.set_cons_succ]
        refine wpAnyH_take (i := 10) (oi := { dst := some 85, op := Op.binOp BinOp.rem 3 (Operand.tmp 84) (Operand.const (Value.int IntKind.i64 4)) 3, type := 3, pos := _, after := #[{ on := 9, ground := Ground.data }], guard := none }) (v := (.int .i64 j)) rfl (by kernel_rfl) (by kernel_rfl) (by kernel_rfl) (fun _ _ _ h => h) (Or.inl ⟨by rfl, fun w' hS => by (try dsimp only at hS); go_simp⟩) hS0 ?_
        simp only [Act.put, List.setIfInBounds_toArray, List.set_cons_zero, List.set_cons_succ]
        refine wpAnyH_take (i := 13) (oi := { dst := some 88, op := Op.build 144 #[(0, Operand.tmp 86), (1, Operand.tmp 87)], type := 144, pos := _, after := #[{ on := 11, ground := Ground.data }, { on := 12, ground := Ground.data }], guard := none }) (v := (.agg #[.int .i64 g, .int .i64 y])) rfl (by kernel_rfl) (by kernel_rfl) (by kernel_rfl) (fun _ _ _ h => h) (Or.inl ⟨by rfl, fun w' hS => by (try dsimp only at hS); go_simp⟩) hS0 ?_
        simp only [Act.put, List.setIfInBounds_toArray, List.set_cons_zero, List.set_cons_succ]
        refine wpAnyH_take (i := 5) (oi := { dst := some 80, op := Op.indexAddr 26 (Operand.tmp 78) (Operand.tmp 79), type := 0, pos := _, after := #[{ on := 3, ground := Ground.data }, { on := 4, ground := Ground.data }], guard := none }) (v := (.pointer (some ⟨bt, t, none⟩))) rfl (by kernel_rfl) (by kernel_rfl) (by kernel_rfl) (fun _ _ _ h => h) (Or.inl ⟨by rfl, fun w' hS => by (try dsimp only at hS); go_simp⟩) hS0 ?_
        simp only [Act.put, List.setIfInBounds_toArray, List.set_cons_zero, List.set_cons_succ]
        refine wpAnyH_take (i := 6) (oi := { dst := some 81, op := Op.load 3 (Operand.tmp 80), type := 3, pos := _, after := #[{ on := 5, ground := Ground.data }], guard := none }) (v := (.int .i64 q)) rfl (by kernel_rfl) (by kernel_rfl) (by kernel_rfl) (fun _ _ _ h => h) (Or.inl ⟨by rfl, fun w' hS => by (try dsimp only at hS); go_simp⟩) hS0 ?_
        simp only [Act.put, List.setIfInBounds_toArray, List.set_cons_zero, List.set_cons_succ]
        refine wpAnyH_take (i := 7) (oi := { dst := some 82, op := Op.indexAddr 27 (Operand.tmp 76) (Operand.tmp 81), type := 0, pos := _, after := #[{ on := 1, ground := Ground.data }, { on := 6, ground := Ground.data }], guard := none }) (v := (.pointer (some ⟨bl, q, none⟩))) rfl (by kernel_rfl) (by kernel_rfl) (by kernel_rfl) (fun _ _ _ h => h) (Or.inl ⟨by rfl, fun w' hS => by (try dsimp only at hS); go_simp⟩) hS0 ?_
        simp only [Act.put, List.setIfInBounds_toArray, List.set_cons_zero, List.set_cons_succ]
        refine wpAnyH_take (i := 8) (oi := { dst := some 83, op := Op.load 147 (Operand.tmp 82), type := 147, pos := _, after := #[{ on := 7, ground := Ground.data }], guard := none }) (v := (.slice (some ⟨gb, 0, none⟩) 4 (C q))) rfl (by kernel_rfl) (by kernel_rfl) (by kernel_rfl) (fun _ _ _ h => h) (Or.inl ⟨by rfl, fun w' hS => by (try dsimp only at hS); go_simp⟩) hS0 ?_
        simp only [Act.put, List.setIfInBounds_toArray, List.set_cons_zero, List.set_cons_succ]
        refine wpAnyH_take (i := 14) (oi := { dst := some 89, op := Op.indexAddr 147 (Operand.tmp 83) (Operand.tmp 85), type := 0, pos := _, after := #[{ on := 8, ground := Ground.data }, { on := 10, ground := Ground.data }, { on := 0, ground := Ground.phase }, { on := 1, ground := Ground.phase }, { on := 2, ground := Ground.phase }, { on := 3, ground := Ground.phase }, { on := 4, ground := Ground.phase }, { on := 5, ground := Ground.phase }, { on := 6, ground := Ground.phase }, { on := 7, ground := Ground.phase }, { on := 8, ground := Ground.phase }, { on := 9, ground := Ground.phase }, { on := 10, ground := Ground.phase }, { on := 11, ground := Ground.phase }, { on := 12, ground := Ground.phase }, { on := 13, ground := Ground.phase }], guard := none }) (v := (.pointer (some ⟨gb, j * 2, none⟩))) rfl (by kernel_rfl) (by kernel_rfl) (by kernel_rfl) (fun _ _ _ h => h) (Or.inl ⟨by rfl, fun w' hS => by (try dsimp only at hS); go_simp⟩) hS0 ?_
        simp only [Act.put, List.setIfInBounds_toArray, List.set_cons_zero, List.set_cons_succ]
        refine wpAnyH_ready (rs := [15]) (by kernel_rfl) (by simp) ?_
        refine AllReadyH.cons (o := { dst := none, op := Op.store 144 (Operand.tmp 89) (Operand.tmp 88), type := 0, pos := _, after := #[{ on := 14, ground := Ground.data }, { on := 13, ground := Ground.data }, { on := 0, ground := Ground.phase }, { on := 1, ground := Ground.phase }, { on := 2, ground := Ground.phase }, { on := 3, ground := Ground.phase }, { on := 4, ground := Ground.phase }, { on := 5, ground := Ground.phase }, { on := 6, ground := Ground.phase }, { on := 7, ground := Ground.phase }, { on := 8, ground := Ground.phase }, { on := 9, ground := Ground.phase }, { on := 10, ground := Ground.phase }, { on := 11, ground := Ground.phase }, { on := 12, ground := Ground.phase }, { on := 13, ground := Ground.phase }], guard := none }) rfl (fun K hK => ?_) AllReadyH.nil
        go_simp
        have mS : Mod (fun x => x = gb) wd ((wd.setCell ⟨gb, j * 2, none⟩ (.int .i64 g)).setCell ⟨gb, j * 2 + 1, none⟩ (.int .i64 y)) := (Mod.setCell (X := fun x => x = gb) _ (p := ⟨gb, j * 2, none⟩) rfl _).trans (Mod.setCell (X := fun x => x = gb) _ (p := ⟨gb, j * 2 + 1, none⟩) rfl _)
        have hSt := And.intro (mS.cell x0 (fun e => n1 e.symm)) (And.intro (mS.cell x1 (fun e => n1 e.symm)) (And.intro (mS.cell tp (fun e => n2 e.symm)) (mS.cell ls (fun e => n3 e.symm))))
        clear mS
        refine hK.out _ _ hSt (fun hB => ?_)
        clear hK K hB
        try simp only [Act.put, List.setIfInBounds_toArray, List.set_cons_zero, List.set_cons_succ]
        refine wpAnyH_done (by kernel_rfl) ?_ _
        refine NoPanic.normal ?_
        clear hSt hS0 x0 x1 tp ls f0 f1 l0 l1
        replace HB : Hid (Blw w ((wd.setCell ⟨gb, j * 2, none⟩ (.int .i64 g)).setCell ⟨gb, j * 2 + 1, none⟩ (.int .i64 y))) := HB'.out
        replace HR : Hid (Row ((wd.setCell ⟨gb, j * 2, none⟩ (.int .i64 g)).setCell ⟨gb, j * 2 + 1, none⟩ (.int .i64 y)) (w.heap.size + 1) 2 (fun i => if i = 0 then .slice none 0 0 else .slice none 0 0)) := HR'.out
        clear HB' HR'
        generalize ((wd.setCell ⟨gb, j * 2, none⟩ (.int .i64 g)).setCell ⟨gb, j * 2 + 1, none⟩ (.int .i64 y)) = WF at *
        generalize upd c t q = cF at *
        generalize upd2 p q j g = pF at *
        generalize upd2 m q j y = mF at *
        have hzr := HR.out.lt
        have hzb := HOTF.out.nb.2.2
        have FIN : Hid _ := fin_givesT (out := chOut ⟨4, c, ⟨kn, len, p, m⟩⟩ (x : Int) (fun _ oy => oy = 0 ∧ pgOK g ∧ mayOK y) (fun _ => g) y) (w := w) (W := WF) (z := w.heap.size + 1) (b := ⟨some ⟨bt, 0, none⟩, some ⟨bl, 0, none⟩, c1, c2⟩) (R := ⟨4, cF, ⟨kn, fun _ => 4, pF, mF⟩⟩) (by omega) HOUT.out (tot4 (c := c) hk4) HB.out (HOTF.out.own hk4) (fun x hx => ⟨by omega, by omega, hx.2⟩)
        obtain ⟨t0, t1⟩ := get2 HR.out
        obtain ⟨s0, s1⟩ := get2 HOTF.out.box
        have f0 := HR.out.frozen 0
        have f1 := HR.out.frozen 1
        clear HR HB HOTF HOUT hzr hzb
        go_wp2
        exact bodyPost_ret (v := .tuple #[(BV.mk (some ⟨bt, 0, none⟩) (some ⟨bl, 0, none⟩) c1 c2).val ⟨4, cF, ⟨kn, fun _ => 4, pF, mF⟩⟩, .bool true]) (by simp [results, Try.results115, go_sem, t0, t1]) rfl FIN.out
end Go.Proofs.Ytjplodenflkghaa
/- Flat tables: the model's FlatOf. -/
namespace Go.Proofs.Ytjplodenflkghaa
open Go.RowKit
set_option linter.unusedSimpArgs false
set_option linter.unusedVariables false
theorem row2F {w : World} {z : Nat} {u v a b : Value} (h : Row w z 2 (fun i => if i = 0 then u else v)) : Row ((w.setCell ⟨z, 0, none⟩ a).setCell ⟨z, 1, none⟩ b) z 2 (fun i => if i = 0 then a else b) :=
  ((h.set 0 a).set 1 b).congr fun i hi => by
    match i, hi with
    | 0, _ => rfl
    | 1, _ => rfl
/-- What the model's loop stands on. -/
structure FS (Y : Nat → Prop) (v : NV) (D : ND) (w wr : World) (zt : Nat) (b : BV) (B : BD) : Prop where
  arg : Row wr w.heap.size 4 (nb v D)
  res : Row wr (w.heap.size + 1) 2 (fun i => if i = 0 then .slice none 0 0 else .slice none 0 0)
  box : Row wr zt 2 (fun i => if i = 0 then .slice b.a1 B.n b.c1 else .slice b.a2 B.D.n b.c2)
  own : BookOwn (fun x => w.heap.size + 1 < x ∧ x < wr.heap.size ∧ x ≠ zt) wr b B
  at_ : NAt Y wr v D
  blw : Blw w wr
  lo : w.heap.size + 1 < zt
theorem FS.go {Y : Nat → Prop} {v : NV} {D : ND} {w wr w' : World} {zt : Nat} {b : BV} {B : BD} (h : FS Y v D w wr zt b B) (hb : Blw wr w') : FS Y v D w w' zt b B := by
  have := hb.size
  exact ⟨h.arg.blw hb, h.res.blw hb, h.box.blw hb, (h.own.blw hb).mono (fun x hx => by omega), h.at_.blw hb, h.blw.trans hb, h.lo⟩
theorem FS.set {Y : Nat → Prop} {v : NV} {D : ND} {w wr : World} {zt : Nat} {b b3 : BV} {B R : BD} {X : Nat → Prop} (h : FS Y v D w wr zt b B) (hY : ∀ x, Y x → x < w.heap.size) (own : BookOwn X wr b3 R) (hX : ∀ x, X x → w.heap.size + 1 < x ∧ x < wr.heap.size ∧ x ≠ zt) :
    FS Y v D w ((wr.setCell ⟨zt, 0, none⟩ (.slice b3.a1 R.n b3.c1)).setCell ⟨zt, 1, none⟩ (.slice b3.a2 R.D.n b3.c2)) zt b3 R := by
  have hm := set2_mod (X := fun x => x = zt) wr rfl (.slice b3.a1 R.n b3.c1) (.slice b3.a2 R.D.n b3.c2)
  have hs := hm.size
  have lo := h.lo
  exact ⟨h.arg.mod hm (by omega), h.res.mod hm (by omega), row2F h.box, (own.mod hm (fun x hx e => (hX x hx).2.2 e)).mono (fun x hx => by have := hX x hx; omega), h.at_.mod hm (fun x hx e => by have := hY x hx; omega), Mod.blw h.blw hm (fun i hi => by omega), lo⟩
set_option maxRecDepth 10000 in
set_option maxHeartbeats 3200000 in
theorem specFlat_any (v : NV) (D : ND) (Y : Nat → Prop) (w : World) (hg : D.G.n ≤ 1048576) (hh : D.H.n ≤ 1048576) (hY : ∀ x, Y x → x < w.heap.size) (h : NAt Y w v D) :
    Calls Try.prog 39 #[v.val D] w (GivesB (foOut D) w) := by
  have hA1 : Blw w (w.alloc (.cells #[.slice v.g.a1 D.G.n v.g.c1, .slice v.g.a2 D.G.D.n v.g.c2, .slice v.h.a1 D.H.n v.h.c1, .slice v.h.a2 D.H.D.n v.h.c2] 60)) := (Blw.refl _).alloc _
  have hA2 : Blw (w.alloc (.cells #[.slice v.g.a1 D.G.n v.g.c1, .slice v.g.a2 D.G.D.n v.g.c2, .slice v.h.a1 D.H.n v.h.c1, .slice v.h.a2 D.H.D.n v.h.c2] 60)) ((w.alloc (.cells #[.slice v.g.a1 D.G.n v.g.c1, .slice v.g.a2 D.G.D.n v.g.c2, .slice v.h.a1 D.H.n v.h.c1, .slice v.h.a2 D.H.D.n v.h.c2] 60)).alloc (.cells #[.slice none 0 0, .slice none 0 0] 29)) := (Blw.refl _).alloc _
  have rz := box2 (w.alloc (.cells #[.slice v.g.a1 D.G.n v.g.c1, .slice v.g.a2 D.G.D.n v.g.c2, .slice v.h.a1 D.H.n v.h.c1, .slice v.h.a2 D.H.D.n v.h.c2] 60)) (.slice none 0 0) (.slice none 0 0) 29
  rw [World.size_alloc] at rz
  have HZ : Hid (Row ((w.alloc (.cells #[.slice v.g.a1 D.G.n v.g.c1, .slice v.g.a2 D.G.D.n v.g.c2, .slice v.h.a1 D.H.n v.h.c1, .slice v.h.a2 D.H.D.n v.h.c2] 60)).alloc (.cells #[.slice none 0 0, .slice none 0 0] 29)) (w.heap.size + 1) 2 (fun i => if i = 0 then .slice none 0 0 else .slice none 0 0)) := rz
  have HR : Hid (Row ((w.alloc (.cells #[.slice v.g.a1 D.G.n v.g.c1, .slice v.g.a2 D.G.D.n v.g.c2, .slice v.h.a1 D.H.n v.h.c1, .slice v.h.a2 D.H.D.n v.h.c2] 60)).alloc (.cells #[.slice none 0 0, .slice none 0 0] 29)) w.heap.size 4 (nb v D)) := (box4 w _ _ _ _ 60).blw hA2
  have HN : Hid (NAt Y ((w.alloc (.cells #[.slice v.g.a1 D.G.n v.g.c1, .slice v.g.a2 D.G.D.n v.g.c2, .slice v.h.a1 D.H.n v.h.c1, .slice v.h.a2 D.H.D.n v.h.c2] 60)).alloc (.cells #[.slice none 0 0, .slice none 0 0] 29)) v D) := h.blw (hA1.trans hA2)
  have HB : Hid (Blw w ((w.alloc (.cells #[.slice v.g.a1 D.G.n v.g.c1, .slice v.g.a2 D.G.D.n v.g.c2, .slice v.h.a1 D.H.n v.h.c1, .slice v.h.a2 D.H.D.n v.h.c2] 60)).alloc (.cells #[.slice none 0 0, .slice none 0 0] 29))) := hA1.trans hA2
  have HSZ : Hid (w.heap.size + 1 + 1 = ((w.alloc (.cells #[.slice v.g.a1 D.G.n v.g.c1, .slice v.g.a2 D.G.D.n v.g.c2, .slice v.h.a1 D.H.n v.h.c1, .slice v.h.a2 D.H.D.n v.h.c2] 60)).alloc (.cells #[.slice none 0 0, .slice none 0 0] 29)).heap.size) := by show _ = _; simp
  have HYY : Hid (∀ x, Y x → x < w.heap.size) := hY
  clear hA1 hA2 rz h hY
  go_enter Try.func39, Try.ntmps39
  obtain ⟨p0, p1, p2, p3⟩ := get4 HR.out
  go_wp2_with fail
  clear p0 p1 p2 p3
  generalize ((w.alloc (.cells #[.slice v.g.a1 D.G.n v.g.c1, .slice v.g.a2 D.G.D.n v.g.c2, .slice v.h.a1 D.H.n v.h.c1, .slice v.h.a2 D.H.D.n v.h.c2] 60)).alloc (.cells #[.slice none 0 0, .slice none 0 0] 29)) = w0 at *
  refine (specGoodN_any v D Y _ hg hh HN.out).mono ?_
  rintro e w1 ⟨r, rfl, hr, hb1⟩
  have HT : Hid (r = true ↔ D.Good) := hr
  replace HSZ : Hid (w.heap.size + 1 + 1 ≤ w1.heap.size) := by have := HSZ.out; have := hb1.size; show _ ≤ _; omega
  replace HN : Hid (NAt Y w1 v D) := HN.out.blw hb1
  replace HR : Hid (Row w1 w.heap.size 4 (nb v D)) := HR.out.blw hb1
  replace HZ : Hid (Row w1 (w.heap.size + 1) 2 (fun i => if i = 0 then .slice none 0 0 else .slice none 0 0)) := HZ.out.blw hb1
  replace HB : Hid (Blw w w1) := HB.out.trans hb1
  clear hb1 hr
  cases r
  · have HNG : Hid (¬ D.Good) := fun g => by have := HT.out.2 g; simp at this
    obtain ⟨t0, t1⟩ := get2 HZ.out
    have f0 := HZ.out.frozen 0; have f1 := HZ.out.frozen 1
    clear HT HN HR HZ
    go_wp2
    exact bodyPost_ret (v := .tuple #[BV.zero.val BD.zero, .bool false]) (by simp [results, Try.results39, go_sem, t0, t1]) rfl (zero_givesT (z := w.heap.size + 1) (by omega) (Or.inr ⟨HNG.out, rfl, rfl⟩) HB.out)
  have HG : Hid D.Good := HT.out.1 (by first | rfl | trivial)
  clear HT
  go_wp2_with fail
  refine (specNew_any 4 _).mono ?_
  rintro e w2 ⟨b2, R2, r2, rfl, ho, hs2, own2, hb2⟩
  have HE2 : Hid (R2 = newB 4) := by
    rcases ho with ⟨_, e2, _⟩ | ⟨hn, _, _⟩
    · exact e2
    · exact absurd (by unfold cntOK; omega) hn
  have hA : Blw w2 (w2.alloc (.cells #[.slice b2.a1 R2.n b2.c1, .slice b2.a2 R2.D.n b2.c2] 29)) := (Blw.refl _).alloc _
  have hs12 := hb2.size
  have hsz := HSZ.out
  have HF0 : Hid (FS Y v D w (w2.alloc (.cells #[.slice b2.a1 R2.n b2.c1, .slice b2.a2 R2.D.n b2.c2] 29)) w2.heap.size b2 R2) := ⟨(HR.out.blw hb2).blw hA, (HZ.out.blw hb2).blw hA, box2 w2 _ _ 29, (own2.blw hA).mono (fun x hx => ⟨by omega, by simp; omega, by omega⟩), (HN.out.blw hb2).blw hA, (HB.out.trans hb2).trans hA, by omega⟩
  have HFL : Hid (Fl D.G D.H 0 R2) := by rw [HE2.out]; exact .zero
  clear ho hs2 own2 hb2 hA hs12 hsz HR HZ HN HB HSZ HE2
  go_upto_region 4 with fail
  generalize (w2.alloc (.cells #[.slice b2.a1 R2.n b2.c1, .slice b2.a2 R2.D.n b2.c2] 29)) = w3 at *
  generalize w2.heap.size = zt at *
  go_wp2_with fail
  go_loopw [6] (fun i wr => ∃ j : Nat, j ≤ 16 ∧ i = .int .i64 j ∧ ∃ b B, Fl D.G D.H j B ∧ FS Y v D w wr zt b B) (fun i _ => 16 - (intOf i).toNat)
  case atStart => exact ⟨0, by omega, rfl, b2, R2, HFL.out, HF0.out⟩
  case round =>
    obtain ⟨j, hj, rfl, b, B, hF, hS⟩ := hrel
    clear HF0 HFL
    have HF : Hid (Fl D.G D.H j B) := hF
    have HS : Hid (FS Y v D w wr zt b B) := hS
    clear hF hS
    go_wp2_with fail
    refine (l6At_any (j : Int) _).mono ?_
    rintro e wr ⟨r, rfl, hr, rfl⟩
    have HRR : Hid (r = true ↔ pgOK (j : Int)) := hr
    clear hr
    by_cases hlt : j < 16
    case neg =>
      obtain rfl : j = 16 := by omega
      obtain rfl : r = false := by
        cases r
        · rfl
        · have := HRR.out.1 rfl; unfold pgOK at this; omega
      have OK : Hid (FlOK D.G D.H 16 B) := HF.out.ok HG.out (by omega)
      have FIN : Hid _ := fin_givesT (out := foOut D) (w := w) (W := wr) (z := w.heap.size + 1) (b := b) (R := B) (by omega) (Or.inl ⟨HG.out, HF.out, rfl⟩) (by rw [HF.out.form]; exact small4 (by omega)) HS.out.blw HS.out.own (fun x hx => ⟨by omega, by omega, hx.2.1⟩)
      obtain ⟨t0, t1⟩ := get2 HS.out.res
      have f0 := HS.out.res.frozen 0; have f1 := HS.out.res.frozen 1
      obtain ⟨s0, s1⟩ := get2 HS.out.box
      clear HS HF HRR OK
      go_wp2
      exact bodyPost_ret (v := .tuple #[b.val B, .bool true]) (by simp [results, Try.results39, go_sem, t0, t1]) rfl FIN.out
    obtain rfl : r = true := HRR.out.2 ⟨by omega, by omega⟩
    clear HRR
    have hgp := leafs HG.out.g hlt
    have hgh := leafs HG.out.h (a := (gP D.G j).toNat) (by omega)
    obtain ⟨y, hy⟩ : ∃ y : Nat, gP D.G j = y := ⟨(gP D.G j).toNat, by omega⟩
    have hy16 : y < 16 := by omega
    have HYP : Hid (gP D.G j = (y : Int)) := hy
    have hyn : (gP D.G j).toNat = y := by rw [hy, Int.toNat_natCast]
    have HFX : Hid (gP D.H y = fX D.G D.H j) := by show _ = gP D.H (gP D.G j).toNat; rw [hyn]
    have HFY : Hid (bits .and .i64 (gM D.G j) (gM D.H y) = fY D.G D.H j) := by
      show _ = bits .and .i64 (gM D.H (gP D.G j).toNat) (gM D.G j)
      rw [hyn] at hgh ⊢
      exact (and_ok hgp.2.1 hgh.2.1).1
    have HM0 : Hid (gM D.G j = 0 → fY D.G D.H j = 0) := fun e0 => by
      rw [← HFY.out, e0]
      rw [hyn] at hgh
      rcases (show gM D.H y = 0 ∨ gM D.H y = 1 ∨ gM D.H y = 2 ∨ gM D.H y = 3 by omega) with q | q | q | q <;> rw [q] <;> decide
    clear hgp hgh hy hyn
    obtain ⟨p0, p1, p2, p3⟩ := get4 HS.out.arg
    go_wp2_with fail
    clear p0 p1 p2 p3
    refine (l6FindB_any v.g D.G j Y _ HG.out.g hlt HS.out.at_.g).mono ?_
    rintro e w4 ⟨rfl, hb4⟩
    have hA : Blw w4 (w4.alloc (.cells #[.int .i64 (gP D.G j), .int .i64 (gM D.G j)] 144)) := (Blw.refl _).alloc _
    have HL1 : Hid (Row (w4.alloc (.cells #[.int .i64 (gP D.G j), .int .i64 (gM D.G j)] 144)) w4.heap.size 2 (fun i => if i = 0 then .int .i64 (gP D.G j) else .int .i64 (gM D.G j))) := box2 w4 _ _ 144
    replace HS : Hid (FS Y v D w (w4.alloc (.cells #[.int .i64 (gP D.G j), .int .i64 (gM D.G j)] 144)) zt b B) := (HS.out.go hb4).go hA
    clear hb4 hA
    go_upto_region 8 with fail
    generalize (w4.alloc (.cells #[.int .i64 (gP D.G j), .int .i64 (gM D.G j)] 144)) = w5 at *
    generalize w4.heap.size = zl1 at *
    obtain ⟨q0, q1⟩ := get2 HL1.out
    by_cases hd : gM D.G j = 0
    · have e1 : (gM D.G j == 0) = true := by simp [hd]
      have HN1 : Hid (∃ b B, Fl D.G D.H (j + 1) B ∧ FS Y v D w w5 zt b B) := ⟨b, B, .skip HF.out (HM0.out hd), HS.out⟩
      clear hd HS HF HL1
      go_wp2
      go_roundw
      case rel => exact ⟨j + 1, by omega, by go_num, HN1.out⟩
      case measure => simp [intOf]; omega
    have e1 : (gM D.G j == 0) = false := by simp [hd]
    clear hd
    rw [HYP.out] at q0
    obtain ⟨p0, p1, p2, p3⟩ := get4 HS.out.arg
    go_wp2_with fail
    clear p0 p1 p2 p3 q0 q1 e1
    refine (l6FindB_any v.h D.H y Y _ HG.out.h hy16 HS.out.at_.h).mono ?_
    rintro e w6 ⟨rfl, hb6⟩
    have hA : Blw w6 (w6.alloc (.cells #[.int .i64 (gP D.H y), .int .i64 (gM D.H y)] 144)) := (Blw.refl _).alloc _
    have HL2 : Hid (Row (w6.alloc (.cells #[.int .i64 (gP D.H y), .int .i64 (gM D.H y)] 144)) w6.heap.size 2 (fun i => if i = 0 then .int .i64 (gP D.H y) else .int .i64 (gM D.H y))) := box2 w6 _ _ 144
    replace HS : Hid (FS Y v D w (w6.alloc (.cells #[.int .i64 (gP D.H y), .int .i64 (gM D.H y)] 144)) zt b B) := (HS.out.go hb6).go hA
    replace HL1 : Hid (Row (w6.alloc (.cells #[.int .i64 (gP D.H y), .int .i64 (gM D.H y)] 144)) zl1 2 (fun i => if i = 0 then .int .i64 (gP D.G j) else .int .i64 (gM D.G j))) := (HL1.out.blw hb6).blw hA
    clear hb6 hA
    go_upto_region 10 with fail
    generalize (w6.alloc (.cells #[.int .i64 (gP D.H y), .int .i64 (gM D.H y)] 144)) = w7 at *
    generalize w6.heap.size = zl2 at *
    obtain ⟨q0, q1⟩ := get2 HL1.out
    obtain ⟨r0, r1⟩ := get2 HL2.out
    go_upto_region 11 with fail
    clear q0 q1 r1 HL1
    have hfy := fY_ok HG.out hlt
    have hfx := fX_ok HG.out hlt
    rw [show bits .and .i64 (gM D.G j) (gM D.H y) = fY D.G D.H j from HFY.out]
    by_cases hd : fY D.G D.H j = 0
    · have e1 : decide (fY D.G D.H j > 0) = false := by simp; omega
      have HN1 : Hid (∃ b B, Fl D.G D.H (j + 1) B ∧ FS Y v D w w7 zt b B) := ⟨b, B, .skip HF.out hd, HS.out⟩
      clear hd HS HF HL2 hfy hfx r0
      go_wp2
      go_roundw
      case rel => exact ⟨j + 1, by omega, by go_num, HN1.out⟩
      case measure => simp [intOf]; omega
    have e1 : decide (fY D.G D.H j > 0) = true := by simp; omega
    have OK : Hid (FlOK D.G D.H j B) := HF.out.ok HG.out (by omega)
    have HD : Hid (¬ fY D.G D.H j = 0) := hd
    have HCH : Hid (chOK B (j : Int) (fun _ oy => oy = 0 ∧ pgOK (fX D.G D.H j) ∧ mayOK (fY D.G D.H j))) := ⟨OK.out.good, ⟨by omega, by omega⟩, by
      rw [Int.toNat_natCast]
      exact ⟨(HF.out.free HG.out hlt).1, hfx, by omega, hfy.2⟩, by rw [Int.toNat_natCast]; exact HF.out.can HG.out hlt⟩
    obtain ⟨s0, s1⟩ := get2 HS.out.box
    rw [show gP D.H y = fX D.G D.H j from HFX.out] at r0
    clear hd hfy hfx HL2
    go_wp2_with fail
    clear s0 s1 r0 e1
    refine (specMap_any b B (j : Int) (fX D.G D.H j) (fY D.G D.H j) _ _ (by rw [OK.out.good.n]; omega) HS.out.own.at).mono ?_
    rintro e w8 ⟨b8, R8, r8, rfl, ho, hs8, own8, hb8⟩
    have HO : Hid (∃ q, goes B.c B.D.n (j / 4) q ∧ R8 = chB B j q (fX D.G D.H j) (fY D.G D.H j)) := by
      rcases ho with ⟨_, ⟨q, hq, e⟩, _⟩ | ⟨hn, _, _⟩
      · rw [Int.toNat_natCast] at hq e; exact ⟨q, hq, e⟩
      · exact absurd HCH.out hn
    have hA : Blw w8 (w8.alloc (.cells #[.slice b8.a1 R8.n b8.c1, .slice b8.a2 R8.D.n b8.c2] 29)) := (Blw.refl _).alloc _
    have HL8 : Hid (Row (w8.alloc (.cells #[.slice b8.a1 R8.n b8.c1, .slice b8.a2 R8.D.n b8.c2] 29)) w8.heap.size 2 (fun i => if i = 0 then .slice b8.a1 R8.n b8.c1 else .slice b8.a2 R8.D.n b8.c2)) := box2 w8 _ _ 29
    have hs78 := hb8.size
    have hlo7 := HS.out.box.lt
    have hlo := HS.out.lo
    have hsA : (w8.alloc (.cells #[.slice b8.a1 R8.n b8.c1, .slice b8.a2 R8.D.n b8.c2] 29)).heap.size = w8.heap.size + 1 := by simp
    have HSN : Hid (FS Y v D w (((w8.alloc (.cells #[.slice b8.a1 R8.n b8.c1, .slice b8.a2 R8.D.n b8.c2] 29)).setCell ⟨zt, 0, none⟩ (.slice b8.a1 R8.n b8.c1)).setCell ⟨zt, 1, none⟩ (.slice b8.a2 R8.D.n b8.c2)) zt b8 R8) := ((HS.out.go hb8).go hA).set HYY.out (own8.blw hA) (fun x hx => ⟨by omega, by omega, by omega⟩)
    have HNX : Hid (∃ b B, Fl D.G D.H (j + 1) B ∧ FS Y v D w (((w8.alloc (.cells #[.slice b8.a1 R8.n b8.c1, .slice b8.a2 R8.D.n b8.c2] 29)).setCell ⟨zt, 0, none⟩ (.slice b8.a1 R8.n b8.c1)).setCell ⟨zt, 1, none⟩ (.slice b8.a2 R8.D.n b8.c2)) zt b B) := by
      obtain ⟨q, hq, e⟩ := HO.out
      exact ⟨b8, R8, by rw [e]; exact .put HF.out HD.out hq, HSN.out⟩
    replace HS : Hid (FS Y v D w (w8.alloc (.cells #[.slice b8.a1 R8.n b8.c1, .slice b8.a2 R8.D.n b8.c2] 29)) zt b B) := (HS.out.go hb8).go hA
    clear ho own8 hb8 hA hs78 hlo7 hlo HO HCH HSN hsA hs8
    obtain ⟨s0, s1⟩ := get2 HS.out.box
    have g0 := HS.out.box.frozen 0
    have g1 := HS.out.box.frozen 1
    obtain ⟨u0, u1⟩ := get2 HL8.out
    clear HS HF OK HL8
    go_wp2
    go_roundw
    case rel => exact ⟨j + 1, by omega, by go_num, HNX.out⟩
    case measure => simp [intOf]; omega
end Go.Proofs.Ytjplodenflkghaa
