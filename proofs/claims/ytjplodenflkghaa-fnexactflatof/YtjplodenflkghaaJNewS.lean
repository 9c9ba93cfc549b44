/- New tables: the model's. -/
import Derived.Test.YtjplodenflkghaaJoin3
namespace Go.Proofs.Ytjplodenflkghaa
open Go.RowKit
set_option linter.unusedSimpArgs false
set_option linter.unusedVariables false
theorem mkU4 (w : World) : (Instr.makeSlice 147 (.int .i64 4) (.int .i64 4)).run Try.prog w = .ok (.slice (some ⟨w.heap.size, 0, none⟩) 4 4) (w.alloc (.cells (madeCells #[.int .i64 0, .int .i64 0] 8) 144)) := mkUndos 4 (by omega) w
theorem uc_zero : uc (fun _ => 0) (fun _ => 0) = fun _ => Value.int .i64 0 := by
  funext i
  unfold uc
  split <;> rfl
theorem row_m1 (w : World) (t : TypeId) : Row (w.alloc (.cells #[.int .i64 (-1), .int .i64 (-1), .int .i64 (-1), .int .i64 (-1)] t)) w.heap.size 4 (fun _ => .int .i64 (-1)) :=
  ⟨_, t, heap_alloc_new _ _, by simp, fun i hi => by
    match i, hi with
    | 0, _ => rfl
    | 1, _ => rfl
    | 2, _ => rfl
    | 3, _ => rfl⟩
set_option maxRecDepth 10000 in
set_option maxHeartbeats 3200000 in
theorem specNew_any (k : Int) (w : World) : Calls Try.prog 84 #[.int .i64 k] w (GivesB (resT (cntOK k) (newB k)) w) := by
  have hb0 : Blw w (w.alloc (.cells #[.slice none 0 0, .slice none 0 0] 29)) := (Blw.refl _).alloc _
  have r0 := box2 w (.slice none 0 0) (.slice none 0 0) 29
  have hsz : (w.alloc (.cells #[.slice none 0 0, .slice none 0 0] 29)).heap.size = w.heap.size + 1 := by simp
  go_enter Try.func84, Try.ntmps84
  go_wp2_with fail
  revert hb0 r0 hsz
  generalize w.alloc (.cells #[.slice none 0 0, .slice none 0 0] 29) = w0
  intro hb0 r0 hsz
  refine (l1In_any k 1 4 _).mono ?_
  rintro e w0 ⟨r, rfl, hr, rfl⟩
  have HT : Hid (r = true ↔ cntOK k) := hr
  clear hr
  obtain ⟨t0, t1⟩ := get2 r0
  have f0 := r0.frozen 0
  have f1 := r0.frozen 1
  cases r
  · have HN : Hid (¬ cntOK k) := fun g => by have := HT.out.2 g; simp at this
    clear HT r0
    go_wp2
    exact bodyPost_ret (v := .tuple #[BV.zero.val BD.zero, .bool false]) (by simp [results, Try.results84, go_sem, t0, t1]) rfl (zero_givesT (z := w.heap.size) (Nat.le_refl _) (Or.inr ⟨HN.out, rfl, rfl⟩) hb0)
  have hc : cntOK k := HT.out.1 (by first | rfl | trivial)
  clear HT t0 t1 f0 f1
  obtain ⟨kn, hk, hk1, hk4⟩ : ∃ kn : Nat, k = kn ∧ 1 ≤ kn ∧ kn ≤ 4 := ⟨k.toNat, by unfold cntOK at hc; omega, by unfold cntOK at hc; omega, by unfold cntOK at hc; omega⟩
  subst hk
  have HC : Hid (cntOK (kn : Int)) := hc
  have hA1 : Blw w0 (w0.alloc (.cells #[.int .i64 (-1), .int .i64 (-1), .int .i64 (-1), .int .i64 (-1)] 3)) := (Blw.refl _).alloc _
  have hA2 : Blw (w0.alloc (.cells #[.int .i64 (-1), .int .i64 (-1), .int .i64 (-1), .int .i64 (-1)] 3)) ((w0.alloc (.cells #[.int .i64 (-1), .int .i64 (-1), .int .i64 (-1), .int .i64 (-1)] 3)).alloc (.cells #[.slice (some ⟨w0.heap.size, 0, none⟩) 4 4, .slice none 0 0] 29)) := (Blw.refl _).alloc _
  have hR4 := (row_m1 w0 3).blw hA2
  have hBX := box2 (w0.alloc (.cells #[.int .i64 (-1), .int .i64 (-1), .int .i64 (-1), .int .i64 (-1)] 3)) (.slice (some ⟨w0.heap.size, 0, none⟩) 4 4) (.slice none 0 0) 29
  rw [World.size_alloc] at hBX
  have hB := hb0.trans (hA1.trans hA2)
  have hR := r0.blw (hA1.trans hA2)
  have HZ : Hid (w0.heap.size = w.heap.size + 1) := hsz
  clear hc hb0 r0 hA1 hA2 hsz
  go_wp2_with fail
  revert hR4 hBX hB hR
  generalize ((w0.alloc (.cells #[.int .i64 (-1), .int .i64 (-1), .int .i64 (-1), .int .i64 (-1)] 3)).alloc (.cells #[.slice (some ⟨w0.heap.size, 0, none⟩) 4 4, .slice none 0 0] 29)) = W
  intro hR4 hBX hB hR
  go_loopw [0] (fun i wr => ∃ j : Nat, j ≤ kn ∧ i = .int .i64 ((kn : Int) - j) ∧ ∃ v A C ZB Z, Row wr (w0.heap.size + 1) 2 (fun i => if i = 0 then .slice (some ⟨w0.heap.size, 0, none⟩) 4 4 else v) ∧ Tl (w0.heap.size + 1 + 1) wr v j A C zz zz ZB Z ∧ Row wr w0.heap.size 4 (fun _ => .int .i64 (-1)) ∧ Row wr w.heap.size 2 (fun i => if i = 0 then .slice none 0 0 else .slice none 0 0) ∧ Blw w wr) (fun i _ => (intOf i).toNat)
  case atStart => exact ⟨0, Nat.zero_le _, by go_num, _, _, _, _, _, hBX, Tl.nil _ _ _ _, hR4, hR, hB⟩
  case round =>
    clear hR4 hBX hB hR
    obtain ⟨j, hj, rfl, v, A, C, ZB, Z, hbx, htl, hr4, hr, hb⟩ := hrel
    have HR4 : Hid (Row wr w0.heap.size 4 (fun _ => .int .i64 (-1))) := hr4
    have HR : Hid (Row wr w.heap.size 2 (fun i => if i = 0 then .slice none 0 0 else .slice none 0 0)) := hr
    have HB : Hid (Blw w wr) := hb
    have HTL : Hid (Tl (w0.heap.size + 1 + 1) wr v j A C zz zz ZB Z) := htl
    have HBX : Hid (Row wr (w0.heap.size + 1) 2 (fun i => if i = 0 then .slice (some ⟨w0.heap.size, 0, none⟩) 4 4 else v)) := hbx
    clear hr4 hr hb htl hbx
    by_cases hlt : j < kn
    · have hlt' : (kn : Int) - j > 0 := by omega
      go_upto_region 6 with fail
      replace HR4 : Hid (Row wr.drew w0.heap.size 4 (fun _ => .int .i64 (-1))) := HR4.out.blw (Blw.refl _).drew
      replace HR : Hid (Row wr.drew w.heap.size 2 (fun i => if i = 0 then .slice none 0 0 else .slice none 0 0)) := HR.out.blw (Blw.refl _).drew
      replace HB : Hid (Blw w wr.drew) := HB.out.drew
      replace HTL : Hid (Tl (w0.heap.size + 1 + 1) wr.drew v j A C zz zz ZB Z) := HTL.out.go (Blw.refl _).drew
      replace HBX : Hid (Row wr.drew (w0.heap.size + 1) 2 (fun i => if i = 0 then .slice (some ⟨w0.heap.size, 0, none⟩) 4 4 else v)) := HBX.out.blw (Blw.refl _).drew
      have P1 : ∀ w', Row w' (w0.heap.size + 1) 2 (fun i => if i = 0 then .slice (some ⟨w0.heap.size, 0, none⟩) 4 4 else v) → w'.cell? ⟨w0.heap.size + 1, 1, none⟩ = some v := fun w' hh => (get2 hh).2
      have hmk := mkU4
      have pa := P1 _ HBX.out
      have pb := P1 _ (HBX.out.blw ((Blw.refl wr.drew).alloc (.cells (madeCells #[.int .i64 0, .int .i64 0] 8) 144)))
      have pc := P1 _ (HBX.out.blw (((Blw.refl wr.drew).alloc (.cells (madeCells #[.int .i64 0, .int .i64 0] 8) 144)).alloc (.cells #[.slice (some ⟨wr.drew.heap.size, 0, none⟩) 4 4] 147)))
      refine wp_region_noPanic ?_
      refine wp_region_held_drew (S := fun _ => True) (by kernel_rfl) trivial (fun hB => ?_)
      clear hB
      generalize wr.drew = wd at *
      refine wpAnyH_take (i := 0) (oi := { dst := some 15, op := Op.fieldAddr 29 (Operand.tmp 4) 1, type := 0, pos := _, after := #[], guard := none }) (v := (.pointer (some ⟨w0.heap.size + 1, 1, none⟩))) rfl (by kernel_rfl) (by kernel_rfl) (by kernel_rfl) (fun _ _ _ h => h) (Or.inl ⟨by rfl, fun w' hS => by (try dsimp only at hS); go_simp⟩) trivial ?_
      simp only [Act.put, List.setIfInBounds_toArray, List.set_cons_zero, List.set_cons_succ]
      refine wpAnyH_ready (rs := [1, 2]) (by kernel_rfl) (by simp) ?_
      refine AllReadyH.cons (o := { dst := some 16, op := Op.load 27 (Operand.tmp 15), type := 27, pos := _, after := #[{ on := 0, ground := Ground.data }], guard := none }) rfl (fun K hK => ?_) (AllReadyH.cons (o := { dst := some 17, op := Op.makeSlice 147 (Operand.const (Value.int IntKind.i64 4)) (Operand.const (Value.int IntKind.i64 4)), type := 147, pos := _, after := #[], guard := none }) rfl (fun K hK => ?_) AllReadyH.nil)
      · go_simp
        refine hK.out _ _ trivial (fun hB => ?_)
        clear hK K hB
        try simp only [Act.put, List.setIfInBounds_toArray, List.set_cons_zero, List.set_cons_succ]
        refine wpAnyH_ready (rs := [2]) (by kernel_rfl) (by simp) ?_
        refine AllReadyH.cons (o := { dst := some 17, op := Op.makeSlice 147 (Operand.const (Value.int IntKind.i64 4)) (Operand.const (Value.int IntKind.i64 4)), type := 147, pos := _, after := #[], guard := none }) rfl (fun K hK => ?_) AllReadyH.nil
        go_simp
        refine hK.out _ _ trivial (fun hB => ?_)
        clear hK K hB
        try simp only [Act.put, List.setIfInBounds_toArray, List.set_cons_zero, List.set_cons_succ]
        refine wpAnyH_ready (rs := [3]) (by kernel_rfl) (by simp) ?_
        refine AllReadyH.cons (o := { dst := some 18, op := Op.buildSlice 27 1 #[(0, Operand.tmp 17)], type := 27, pos := _, after := #[{ on := 2, ground := Ground.data }], guard := none }) rfl (fun K hK => ?_) AllReadyH.nil
        go_simp
        refine hK.out _ _ trivial (fun hB => ?_)
        clear hK K hB
        try simp only [Act.put, List.setIfInBounds_toArray, List.set_cons_zero, List.set_cons_succ]
        refine wpAnyH_ready (rs := [4]) (by kernel_rfl) (by simp) ?_
        refine AllReadyH.cons (o := { dst := some 19, op := Op.call { callee := Callee.builtin Builtin.append, args := #[Operand.tmp 16, Operand.tmp 18], argTypes := #[27, 27] }, type := 27, pos := _, after := #[{ on := 1, ground := Ground.data }, { on := 3, ground := Ground.data }], guard := none }) rfl (fun K hK => ?_) AllReadyH.nil
        refine step_app (.tmp 16) (.tmp 18) 27 (by rfl) ?_
        obtain ⟨ao', cap', w2, ZB', hrun, htl2, hM⟩ := Tl.push (w1 := wd.alloc (.cells (madeCells #[.int .i64 0, .int .i64 0] 8) 144)) (s0 := wd.heap.size) (ao := some ⟨wd.heap.size, 0, none⟩) (cap := 4) HTL.out ((Blw.refl _).alloc _) (by have := HBX.out.lt; omega) (Nat.le_refl _) (by simp) ⟨by omega, fun _ => ⟨wd.heap.size, ⟨Nat.le_refl _, by simp⟩, rfl, (Row.made2 wd (.int .i64 0) 8 144).congr (fun i hi => by simp [uc])⟩⟩ (by omega)
        rw [World.size_alloc] at hrun
        refine ⟨_, _, hrun, ?_⟩
        have hbA : Blw wd (wd.alloc (.cells (madeCells #[.int .i64 0, .int .i64 0] 8) 144)) := (Blw.refl _).alloc _
        have hM2 := (hbA.mod ZB).trans hM
        have hzb : ∀ x, ZB x → w0.heap.size + 1 + 1 ≤ x := fun x hx => (HTL.out.zb x hx).1
        have r4' := HR4.out.mod hM2 (fun h => by have := hzb _ h; omega)
        have r0' := HR.out.mod hM2 (fun h => by have := hzb _ h; have := HZ.out; omega)
        have b' := Mod.blw HB.out hM2 (fun i hi => by have := hzb _ hi; have := HZ.out; omega)
        have hS3 := HBX.out.mod hM2 (fun h => by have := hzb _ h; omega)
        have ms : Mod (fun x => x = w0.heap.size + 1) w2 (w2.setCell ⟨w0.heap.size + 1, 1, none⟩ (.slice ao' (j + 1) cap')) := Mod.setCell (X := fun x => x = w0.heap.size + 1) _ (p := ⟨w0.heap.size + 1, 1, none⟩) rfl _
        have f1 := hS3.frozen 1
        have p1 := (get2 hS3).2
        refine hK.out _ _ trivial (fun hB => ?_)
        clear hK K hB
        try simp only [Act.put, List.setIfInBounds_toArray, List.set_cons_zero, List.set_cons_succ]
        refine wpAnyH_take (i := 5) (oi := { dst := some 20, op := Op.fieldAddr 29 (Operand.tmp 4) 1, type := 0, pos := _, after := #[{ on := 0, ground := Ground.phase }, { on := 1, ground := Ground.phase }, { on := 2, ground := Ground.phase }, { on := 3, ground := Ground.phase }, { on := 4, ground := Ground.phase }], guard := none }) (v := (.pointer (some ⟨w0.heap.size + 1, 1, none⟩))) rfl (by kernel_rfl) (by kernel_rfl) (by kernel_rfl) (fun _ _ _ h => h) (Or.inl ⟨by rfl, fun w' hS => by (try dsimp only at hS); go_simp⟩) trivial ?_
        simp only [Act.put, List.setIfInBounds_toArray, List.set_cons_zero, List.set_cons_succ]
        refine wpAnyH_ready (rs := [6]) (by kernel_rfl) (by simp) ?_
        refine AllReadyH.cons (o := { dst := none, op := Op.store 27 (Operand.tmp 20) (Operand.tmp 19), type := 0, pos := _, after := #[{ on := 5, ground := Ground.data }, { on := 4, ground := Ground.data }, { on := 4, ground := Ground.chain }, { on := 0, ground := Ground.phase }, { on := 1, ground := Ground.phase }, { on := 2, ground := Ground.phase }, { on := 3, ground := Ground.phase }, { on := 4, ground := Ground.phase }], guard := none }) rfl (fun K hK => ?_) AllReadyH.nil
        go_simp
        refine hK.out _ _ trivial (fun hB => ?_)
        clear hK K hB
        try simp only [Act.put, List.setIfInBounds_toArray, List.set_cons_zero, List.set_cons_succ]
        refine wpAnyH_done (by kernel_rfl) ?_ _
        refine NoPanic.normal ?_
        have HN : Hid (∃ v A C ZB Z, Row (w2.setCell ⟨w0.heap.size + 1, 1, none⟩ (.slice ao' (j + 1) cap')) (w0.heap.size + 1) 2 (fun i => if i = 0 then .slice (some ⟨w0.heap.size, 0, none⟩) 4 4 else v) ∧ Tl (w0.heap.size + 1 + 1) (w2.setCell ⟨w0.heap.size + 1, 1, none⟩ (.slice ao' (j + 1) cap')) v (j + 1) A C zz zz ZB Z ∧ Row (w2.setCell ⟨w0.heap.size + 1, 1, none⟩ (.slice ao' (j + 1) cap')) w0.heap.size 4 (fun _ => .int .i64 (-1)) ∧ Row (w2.setCell ⟨w0.heap.size + 1, 1, none⟩ (.slice ao' (j + 1) cap')) w.heap.size 2 (fun i => if i = 0 then .slice none 0 0 else .slice none 0 0) ∧ Blw w (w2.setCell ⟨w0.heap.size + 1, 1, none⟩ (.slice ao' (j + 1) cap'))) :=
          ⟨_, _, _, _, _, set2_1 hS3 (.slice ao' (j + 1) cap'), htl2.mod ms (fun x hx => by omega), r4'.mod ms (by omega), r0'.mod ms (by have := HZ.out; omega), Mod.blw b' ms (fun i hi => by have := HZ.out; omega)⟩
        clear hS3 htl2 r4' r0' b' ms HR4 HR HB HTL HBX P1 hmk pa pb pc hM hM2 hbA hzb f1 p1 hrun
        have e1 : (kn : Int) - j - 1 = (kn : Int) - ((j + 1 : Nat) : Int) := by omega
        go_wp2
        go_roundw
        case rel => exact ⟨j + 1, by omega, by go_num, HN.out⟩
        case measure => simp [intOf]; omega
      · go_simp
        refine hK.out _ _ trivial (fun hB => ?_)
        clear hK K hB
        try simp only [Act.put, List.setIfInBounds_toArray, List.set_cons_zero, List.set_cons_succ]
        refine wpAnyH_ready (rs := [1, 3]) (by kernel_rfl) (by simp) ?_
        refine AllReadyH.cons (o := { dst := some 16, op := Op.load 27 (Operand.tmp 15), type := 27, pos := _, after := #[{ on := 0, ground := Ground.data }], guard := none }) rfl (fun K hK => ?_) (AllReadyH.cons (o := { dst := some 18, op := Op.buildSlice 27 1 #[(0, Operand.tmp 17)], type := 27, pos := _, after := #[{ on := 2, ground := Ground.data }], guard := none }) rfl (fun K hK => ?_) AllReadyH.nil)
        · go_simp
          refine hK.out _ _ trivial (fun hB => ?_)
          clear hK K hB
          try simp only [Act.put, List.setIfInBounds_toArray, List.set_cons_zero, List.set_cons_succ]
          refine wpAnyH_ready (rs := [3]) (by kernel_rfl) (by simp) ?_
          refine AllReadyH.cons (o := { dst := some 18, op := Op.buildSlice 27 1 #[(0, Operand.tmp 17)], type := 27, pos := _, after := #[{ on := 2, ground := Ground.data }], guard := none }) rfl (fun K hK => ?_) AllReadyH.nil
          go_simp
          refine hK.out _ _ trivial (fun hB => ?_)
          clear hK K hB
          try simp only [Act.put, List.setIfInBounds_toArray, List.set_cons_zero, List.set_cons_succ]
          refine wpAnyH_ready (rs := [4]) (by kernel_rfl) (by simp) ?_
          refine AllReadyH.cons (o := { dst := some 19, op := Op.call { callee := Callee.builtin Builtin.append, args := #[Operand.tmp 16, Operand.tmp 18], argTypes := #[27, 27] }, type := 27, pos := _, after := #[{ on := 1, ground := Ground.data }, { on := 3, ground := Ground.data }], guard := none }) rfl (fun K hK => ?_) AllReadyH.nil
          refine step_app (.tmp 16) (.tmp 18) 27 (by rfl) ?_
          obtain ⟨ao', cap', w2, ZB', hrun, htl2, hM⟩ := Tl.push (w1 := wd.alloc (.cells (madeCells #[.int .i64 0, .int .i64 0] 8) 144)) (s0 := wd.heap.size) (ao := some ⟨wd.heap.size, 0, none⟩) (cap := 4) HTL.out ((Blw.refl _).alloc _) (by have := HBX.out.lt; omega) (Nat.le_refl _) (by simp) ⟨by omega, fun _ => ⟨wd.heap.size, ⟨Nat.le_refl _, by simp⟩, rfl, (Row.made2 wd (.int .i64 0) 8 144).congr (fun i hi => by simp [uc])⟩⟩ (by omega)
          rw [World.size_alloc] at hrun
          refine ⟨_, _, hrun, ?_⟩
          have hbA : Blw wd (wd.alloc (.cells (madeCells #[.int .i64 0, .int .i64 0] 8) 144)) := (Blw.refl _).alloc _
          have hM2 := (hbA.mod ZB).trans hM
          have hzb : ∀ x, ZB x → w0.heap.size + 1 + 1 ≤ x := fun x hx => (HTL.out.zb x hx).1
          have r4' := HR4.out.mod hM2 (fun h => by have := hzb _ h; omega)
          have r0' := HR.out.mod hM2 (fun h => by have := hzb _ h; have := HZ.out; omega)
          have b' := Mod.blw HB.out hM2 (fun i hi => by have := hzb _ hi; have := HZ.out; omega)
          have hS3 := HBX.out.mod hM2 (fun h => by have := hzb _ h; omega)
          have ms : Mod (fun x => x = w0.heap.size + 1) w2 (w2.setCell ⟨w0.heap.size + 1, 1, none⟩ (.slice ao' (j + 1) cap')) := Mod.setCell (X := fun x => x = w0.heap.size + 1) _ (p := ⟨w0.heap.size + 1, 1, none⟩) rfl _
          have f1 := hS3.frozen 1
          have p1 := (get2 hS3).2
          refine hK.out _ _ trivial (fun hB => ?_)
          clear hK K hB
          try simp only [Act.put, List.setIfInBounds_toArray, List.set_cons_zero, List.set_cons_succ]
          refine wpAnyH_take (i := 5) (oi := { dst := some 20, op := Op.fieldAddr 29 (Operand.tmp 4) 1, type := 0, pos := _, after := #[{ on := 0, ground := Ground.phase }, { on := 1, ground := Ground.phase }, { on := 2, ground := Ground.phase }, { on := 3, ground := Ground.phase }, { on := 4, ground := Ground.phase }], guard := none }) (v := (.pointer (some ⟨w0.heap.size + 1, 1, none⟩))) rfl (by kernel_rfl) (by kernel_rfl) (by kernel_rfl) (fun _ _ _ h => h) (Or.inl ⟨by rfl, fun w' hS => by (try dsimp only at hS); go_simp⟩) trivial ?_
          simp only [Act.put, List.setIfInBounds_toArray, List.set_cons_zero, List.set_cons_succ]
          refine wpAnyH_ready (rs := [6]) (by kernel_rfl) (by simp) ?_
          refine AllReadyH.cons (o := { dst := none, op := Op.store 27 (Operand.tmp 20) (Operand.tmp 19), type := 0, pos := _, after := #[{ on := 5, ground := Ground.data }, { on := 4, ground := Ground.data }, { on := 4, ground := Ground.chain }, { on := 0, ground := Ground.phase }, { on := 1, ground := Ground.phase }, { on := 2, ground := Ground.phase }, { on := 3, ground := Ground.phase }, { on := 4, ground := Ground.phase }], guard := none }) rfl (fun K hK => ?_) AllReadyH.nil
          go_simp
          refine hK.out _ _ trivial (fun hB => ?_)
          clear hK K hB
          try simp only [Act.put, List.setIfInBounds_toArray, List.set_cons_zero, List.set_cons_succ]
          refine wpAnyH_done (by kernel_rfl) ?_ _
          refine NoPanic.normal ?_
          have HN : Hid (∃ v A C ZB Z, Row (w2.setCell ⟨w0.heap.size + 1, 1, none⟩ (.slice ao' (j + 1) cap')) (w0.heap.size + 1) 2 (fun i => if i = 0 then .slice (some ⟨w0.heap.size, 0, none⟩) 4 4 else v) ∧ Tl (w0.heap.size + 1 + 1) (w2.setCell ⟨w0.heap.size + 1, 1, none⟩ (.slice ao' (j + 1) cap')) v (j + 1) A C zz zz ZB Z ∧ Row (w2.setCell ⟨w0.heap.size + 1, 1, none⟩ (.slice ao' (j + 1) cap')) w0.heap.size 4 (fun _ => .int .i64 (-1)) ∧ Row (w2.setCell ⟨w0.heap.size + 1, 1, none⟩ (.slice ao' (j + 1) cap')) w.heap.size 2 (fun i => if i = 0 then .slice none 0 0 else .slice none 0 0) ∧ Blw w (w2.setCell ⟨w0.heap.size + 1, 1, none⟩ (.slice ao' (j + 1) cap'))) :=
            ⟨_, _, _, _, _, set2_1 hS3 (.slice ao' (j + 1) cap'), htl2.mod ms (fun x hx => by omega), r4'.mod ms (by omega), r0'.mod ms (by have := HZ.out; omega), Mod.blw b' ms (fun i hi => by have := HZ.out; omega)⟩
          clear hS3 htl2 r4' r0' b' ms HR4 HR HB HTL HBX P1 hmk pa pb pc hM hM2 hbA hzb f1 p1 hrun
          have e1 : (kn : Int) - j - 1 = (kn : Int) - ((j + 1 : Nat) : Int) := by omega
          go_wp2
          go_roundw
          case rel => exact ⟨j + 1, by omega, by go_num, HN.out⟩
          case measure => simp [intOf]; omega
        · go_simp
          refine hK.out _ _ trivial (fun hB => ?_)
          clear hK K hB
          try simp only [Act.put, List.setIfInBounds_toArray, List.set_cons_zero, List.set_cons_succ]
          refine wpAnyH_ready (rs := [1]) (by kernel_rfl) (by simp) ?_
          refine AllReadyH.cons (o := { dst := some 16, op := Op.load 27 (Operand.tmp 15), type := 27, pos := _, after := #[{ on := 0, ground := Ground.data }], guard := none }) rfl (fun K hK => ?_) AllReadyH.nil
          go_simp
          refine hK.out _ _ trivial (fun hB => ?_)
          clear hK K hB
          try simp only [Act.put, List.setIfInBounds_toArray, List.set_cons_zero, List.set_cons_succ]
          refine wpAnyH_ready (rs := [4]) (by kernel_rfl) (by simp) ?_
          refine AllReadyH.cons (o := { dst := some 19, op := Op.call { callee := Callee.builtin Builtin.append, args := #[Operand.tmp 16, Operand.tmp 18], argTypes := #[27, 27] }, type := 27, pos := _, after := #[{ on := 1, ground := Ground.data }, { on := 3, ground := Ground.data }], guard := none }) rfl (fun K hK => ?_) AllReadyH.nil
          refine step_app (.tmp 16) (.tmp 18) 27 (by rfl) ?_
          obtain ⟨ao', cap', w2, ZB', hrun, htl2, hM⟩ := Tl.push (w1 := wd.alloc (.cells (madeCells #[.int .i64 0, .int .i64 0] 8) 144)) (s0 := wd.heap.size) (ao := some ⟨wd.heap.size, 0, none⟩) (cap := 4) HTL.out ((Blw.refl _).alloc _) (by have := HBX.out.lt; omega) (Nat.le_refl _) (by simp) ⟨by omega, fun _ => ⟨wd.heap.size, ⟨Nat.le_refl _, by simp⟩, rfl, (Row.made2 wd (.int .i64 0) 8 144).congr (fun i hi => by simp [uc])⟩⟩ (by omega)
          rw [World.size_alloc] at hrun
          refine ⟨_, _, hrun, ?_⟩
          have hbA : Blw wd (wd.alloc (.cells (madeCells #[.int .i64 0, .int .i64 0] 8) 144)) := (Blw.refl _).alloc _
          have hM2 := (hbA.mod ZB).trans hM
          have hzb : ∀ x, ZB x → w0.heap.size + 1 + 1 ≤ x := fun x hx => (HTL.out.zb x hx).1
          have r4' := HR4.out.mod hM2 (fun h => by have := hzb _ h; omega)
          have r0' := HR.out.mod hM2 (fun h => by have := hzb _ h; have := HZ.out; omega)
          have b' := Mod.blw HB.out hM2 (fun i hi => by have := hzb _ hi; have := HZ.out; omega)
          have hS3 := HBX.out.mod hM2 (fun h => by have := hzb _ h; omega)
          have ms : Mod (fun x => x = w0.heap.size + 1) w2 (w2.setCell ⟨w0.heap.size + 1, 1, none⟩ (.slice ao' (j + 1) cap')) := Mod.setCell (X := fun x => x = w0.heap.size + 1) _ (p := ⟨w0.heap.size + 1, 1, none⟩) rfl _
          have f1 := hS3.frozen 1
          have p1 := (get2 hS3).2
          refine hK.out _ _ trivial (fun hB => ?_)
          clear hK K hB
          try simp only [Act.put, List.setIfInBounds_toArray, List.set_cons_zero, List.set_cons_succ]
          refine wpAnyH_take (i := 5) (oi := { dst := some 20, op := Op.fieldAddr 29 (Operand.tmp 4) 1, type := 0, pos := _, after := #[{ on := 0, ground := Ground.phase }, { on := 1, ground := Ground.phase }, { on := 2, ground := Ground.phase }, { on := 3, ground := Ground.phase }, { on := 4, ground := Ground.phase }], guard := none }) (v := (.pointer (some ⟨w0.heap.size + 1, 1, none⟩))) rfl (by kernel_rfl) (by kernel_rfl) (by kernel_rfl) (fun _ _ _ h => h) (Or.inl ⟨by rfl, fun w' hS => by (try dsimp only at hS); go_simp⟩) trivial ?_
          simp only [Act.put, List.setIfInBounds_toArray, List.set_cons_zero, List.set_cons_succ]
          refine wpAnyH_ready (rs := [6]) (by kernel_rfl) (by simp) ?_
          refine AllReadyH.cons (o := { dst := none, op := Op.store 27 (Operand.tmp 20) (Operand.tmp 19), type := 0, pos := _, after := #[{ on := 5, ground := Ground.data }, { on := 4, ground := Ground.data }, { on := 4, ground := Ground.chain }, { on := 0, ground := Ground.phase }, { on := 1, ground := Ground.phase }, { on := 2, ground := Ground.phase }, { on := 3, ground := Ground.phase }, { on := 4, ground := Ground.phase }], guard := none }) rfl (fun K hK => ?_) AllReadyH.nil
          go_simp
          refine hK.out _ _ trivial (fun hB => ?_)
          clear hK K hB
          try simp only [Act.put, List.setIfInBounds_toArray, List.set_cons_zero, List.set_cons_succ]
          refine wpAnyH_done (by kernel_rfl) ?_ _
          refine NoPanic.normal ?_
          have HN : Hid (∃ v A C ZB Z, Row (w2.setCell ⟨w0.heap.size + 1, 1, none⟩ (.slice ao' (j + 1) cap')) (w0.heap.size + 1) 2 (fun i => if i = 0 then .slice (some ⟨w0.heap.size, 0, none⟩) 4 4 else v) ∧ Tl (w0.heap.size + 1 + 1) (w2.setCell ⟨w0.heap.size + 1, 1, none⟩ (.slice ao' (j + 1) cap')) v (j + 1) A C zz zz ZB Z ∧ Row (w2.setCell ⟨w0.heap.size + 1, 1, none⟩ (.slice ao' (j + 1) cap')) w0.heap.size 4 (fun _ => .int .i64 (-1)) ∧ Row (w2.setCell ⟨w0.heap.size + 1, 1, none⟩ (.slice ao' (j + 1) cap')) w.heap.size 2 (fun i => if i = 0 then .slice none 0 0 else .slice none 0 0) ∧ Blw w (w2.setCell ⟨w0.heap.size + 1, 1, none⟩ (.slice ao' (j + 1) cap'))) :=
            ⟨_, _, _, _, _, set2_1 hS3 (.slice ao' (j + 1) cap'), htl2.mod ms (fun x hx => by omega), r4'.mod ms (by omega), r0'.mod ms (by have := HZ.out; omega), Mod.blw b' ms (fun i hi => by have := HZ.out; omega)⟩
          clear hS3 htl2 r4' r0' b' ms HR4 HR HB HTL HBX P1 hmk pa pb pc hM hM2 hbA hzb f1 p1 hrun
          have e1 : (kn : Int) - j - 1 = (kn : Int) - ((j + 1 : Nat) : Int) := by omega
          go_wp2
          go_roundw
          case rel => exact ⟨j + 1, by omega, by go_num, HN.out⟩
          case measure => simp [intOf]; omega
    · obtain rfl : j = kn := by omega
      obtain ⟨ao, cap, rfl, own⟩ := HTL.out.ps (by omega)
      have hz := HZ.out
      have FIN : Hid _ := fin_givesT (out := resT (cntOK (j : Int)) (newB (j : Int))) (w := w) (W := wr) (z := w.heap.size) (b := ⟨some ⟨w0.heap.size, 0, none⟩, ao, 4, cap⟩) (R := newB (j : Int)) (Nat.le_refl _) (Or.inl ⟨HC.out, rfl, rfl⟩) (tot4 (c := fun _ => -1) (p := zz) (m := zz) hk4) HB.out
        (⟨fun x => x = w0.heap.size, fun x => w0.heap.size + 1 + 1 ≤ x ∧ x < wr.heap.size, fun x hx => ⟨⟨by omega, by have := HR4.out.lt; omega⟩, by omega⟩, fun x hx => ⟨by omega, hx.2⟩, ⟨by show 4 ≤ _; omega, fun _ => ⟨_, rfl, rfl, HR4.out⟩⟩, own⟩ : BookOwn (fun x => w.heap.size < x ∧ x < wr.heap.size) wr ⟨some ⟨w0.heap.size, 0, none⟩, ao, 4, cap⟩ (newB (j : Int))) (fun x hx => ⟨by omega, by omega, hx.2⟩)
      obtain ⟨t0, t1⟩ := get2 HR.out
      obtain ⟨s0, s1⟩ := get2 HBX.out
      have f0 := HR.out.frozen 0
      have f1 := HR.out.frozen 1
      clear own HTL HR4 HR HB HBX hz
      go_wp2
      exact bodyPost_ret (v := .tuple #[(BV.mk (some ⟨w0.heap.size, 0, none⟩) ao 4 cap).val (newB (j : Int)), .bool true]) (by simp [results, Try.results84, go_sem, t0, t1]) rfl FIN.out
end Go.Proofs.Ytjplodenflkghaa
