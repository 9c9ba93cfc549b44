/- Merged by program, in this order: OwnS, OT, MappedJ, SpecPr, SpecMp, SpecUn, TwM. -/
import Derived.Test.YtcfdagmcnaepgaaJoin5
/- The model's copies of tables. -/
namespace Go.Proofs.Ytcfdagmcnaepgaa
open Go.RowKit
set_option linter.unusedSimpArgs false
set_option linter.unusedVariables false
theorem cloneU_run (ao : Option Addr) (n c : Nat) (f g : Nat → Int) (Y : Nat → Prop) (w : World) (hn : n ≤ 1048576) (h : UndosAt Y w ao n f g) :
    ∃ ao' cap w2, (Builtin.append_ #[83, 83] 83 #[.slice (some ⟨w.heap.size, 0, none⟩) 0 0, .slice ao n c]).run Try.prog (w.alloc (.cells #[] 78)) = .ok (.slice ao' n cap) w2 ∧ UndosOwn (fun x => w.heap.size ≤ x ∧ x < w2.heap.size) w2 ao' n f g ∧ Blw w w2 := by
  have hA : Blw w (w.alloc (.cells #[] 78)) := (Blw.refl _).alloc _
  have hE : (w.alloc (.cells #[] 78)).heap[w.heap.size]? = some (.cells #[] 78 (0, 0)) := heap_alloc_new w _
  have hsz : (w.alloc (.cells #[] 78)).heap.size = w.heap.size + 1 := by simp
  obtain ⟨ao', cap, w2, hrun, hB, hM⟩ := BufU.append (Buf.lit (X := fun b => b = w.heap.size) hE 2 rfl (uc (fun _ => 0) (fun _ => 0))) c (h.blw hA) (by omega) 147
  rw [Nat.zero_add] at hrun hB
  rw [hsz] at hB
  obtain ⟨ao2, cap2, e', hO⟩ := BufU.own hB (by omega)
  cases e'
  have s2 := hM.size
  refine ⟨_, _, w2, hrun, (hO.mono (fun x hx => ⟨by omega, hx.2⟩)).congr (fun i hi => by simp [icat]), Mod.blw hA hM (fun i hi => by simp [Value.ownBlock] at hi; omega)⟩
theorem cloneI_run (ao : Option Addr) (n c : Nat) (f : Nat → Int) (Y : Nat → Prop) (w : World) (hn : n ≤ 1048576) (h : IntsAt Y w ao n f) :
    ∃ ao' cap w2, (Builtin.append_ #[23, 23] 23 #[.slice (some ⟨w.heap.size, 0, none⟩) 0 0, .slice ao n c]).run Try.prog (w.alloc (.cells #[] 3)) = .ok (.slice ao' n cap) w2 ∧ IntsOwn (fun x => w.heap.size ≤ x ∧ x < w2.heap.size) w2 ao' n f ∧ Blw w w2 := by
  have hA : Blw w (w.alloc (.cells #[] 3)) := (Blw.refl _).alloc _
  have hE : (w.alloc (.cells #[] 3)).heap[w.heap.size]? = some (.cells #[] 3 (0, 0)) := heap_alloc_new w _
  have hsz : (w.alloc (.cells #[] 3)).heap.size = w.heap.size + 1 := by simp
  obtain ⟨ao', cap, w2, hrun, hB, hM⟩ := BufI.append (Buf.lit (X := fun b => b = w.heap.size) hE 1 rfl (ic (fun _ => 0))) c (h.blw hA) (by omega) 26
  rw [Nat.zero_add] at hrun hB
  rw [hsz] at hB
  obtain ⟨ao2, cap2, e', hO⟩ := BufI.own hB (by omega)
  cases e'
  have s2 := hM.size
  refine ⟨_, _, w2, hrun, (hO.mono (fun x hx => ⟨by omega, hx.2⟩)).congr (fun i hi => by simp [icat]), Mod.blw hA hM (fun i hi => by simp [Value.ownBlock] at hi; omega)⟩
set_option maxRecDepth 10000 in
set_option maxHeartbeats 3200000 in
theorem l6Own_any (b : BV) (c : Nat → Int) (kn : Nat) (len : Nat → Nat) (p m : Nat → Nat → Int) (Y : Nat → Prop) (w : World) (hk : kn ≤ 4) (hlen : ∀ i, i < kn → len i = 4) (h : BookAt Y w b ⟨4, c, ⟨kn, len, p, m⟩⟩) :
    Calls Try.prog 59 #[b.val ⟨4, c, ⟨kn, len, p, m⟩⟩] w fun e w' => ∃ b' : BV, e = .returned (b'.val ⟨4, c, ⟨kn, fun _ => 4, p, m⟩⟩) ∧ BookOwn (fun x => w.heap.size ≤ x ∧ x < w'.heap.size) w' b' ⟨4, c, ⟨kn, fun _ => 4, p, m⟩⟩ ∧ Blw w w' := by
  obtain ⟨a1, a2, q1, q2⟩ := b
  simp only [BV.val] at *
  have hA1 : Blw w (w.alloc (.cells #[.slice a1 4 q1, .slice a2 kn q2] 26)) := (Blw.refl _).alloc _
  have hA2 : Blw (w.alloc (.cells #[.slice a1 4 q1, .slice a2 kn q2] 26)) ((w.alloc (.cells #[.slice a1 4 q1, .slice a2 kn q2] 26)).alloc (.cells #[.slice none 0 0, .slice none 0 0] 26)) := (Blw.refl _).alloc _
  have hb0 := hA1.trans hA2
  have rA := (box2 w (.slice a1 4 q1) (.slice a2 kn q2) 26).blw hA2
  have rR := box2 (w.alloc (.cells #[.slice a1 4 q1, .slice a2 kn q2] 26)) (.slice none 0 0) (.slice none 0 0) 26
  rw [World.size_alloc] at rR
  have hsz : ((w.alloc (.cells #[.slice a1 4 q1, .slice a2 kn q2] 26)).alloc (.cells #[.slice none 0 0, .slice none 0 0] 26)).heap.size = w.heap.size + 1 + 1 := by simp
  have HL : Hid (PSAt Y w a2 ⟨kn, len, p, m⟩) := h.l
  have HC : Hid (IntsAt Y ((w.alloc (.cells #[.slice a1 4 q1, .slice a2 kn q2] 26)).alloc (.cells #[.slice none 0 0, .slice none 0 0] 26)) a1 4 c) := h.c.blw hb0
  have HLEN : Hid (∀ i, i < kn → len i = 4) := hlen
  clear h hA1 hA2 hlen
  go_enter Try.func59, Try.ntmps59
  go_upto_region 1 with fail
  revert hb0 rA rR hsz HC
  generalize ((w.alloc (.cells #[.slice a1 4 q1, .slice a2 kn q2] 26)).alloc (.cells #[.slice none 0 0, .slice none 0 0] 26)) = w0
  intro hb0 rA rR hsz HC
  obtain ⟨ao, cap, w1, hrun, o1, hb1⟩ := cloneI_run a1 4 q1 c Y w0 (by omega) HC.out
  have HRN : Hid _ := hrun
  have hA3 : Blw w1 (w1.alloc (.cells #[.slice ao 4 cap, .slice none 0 0] 26)) := (Blw.refl _).alloc _
  have HBX : Hid (Row (w1.alloc (.cells #[.slice ao 4 cap, .slice none 0 0] 26)) w1.heap.size 2 (fun i => if i = 0 then .slice ao 4 cap else .slice none 0 0)) := box2 w1 _ _ 26
  have HO : Hid (IntsOwn (fun x => w.heap.size + 1 + 1 ≤ x ∧ x < w1.heap.size) (w1.alloc (.cells #[.slice ao 4 cap, .slice none 0 0] 26)) ao 4 c) := (o1.mono (fun x hx => ⟨by omega, hx.2⟩)).blw hA3
  have HB : Hid (Blw w (w1.alloc (.cells #[.slice ao 4 cap, .slice none 0 0] 26))) := hb0.trans (hb1.trans hA3)
  have HR : Hid (Row (w1.alloc (.cells #[.slice ao 4 cap, .slice none 0 0] 26)) (w.heap.size + 1) 2 (fun i => if i = 0 then .slice none 0 0 else .slice none 0 0)) := rR.blw (hb1.trans hA3)
  have HZ : Hid (w.heap.size + 1 + 1 ≤ w1.heap.size) := by have := hb1.size; show _ ≤ _; omega
  have r1 := rA.blw hb1
  have r2 := r1.blw hA3
  obtain ⟨p0, p1⟩ := get2 rA
  obtain ⟨p4, p5⟩ := get2 (rA.blw ((Blw.refl w0).alloc (.cells #[] 3)))
  obtain ⟨p2, p3⟩ := get2 r2
  clear hrun o1 hb1 hA3 hb0 rA rR hsz HC r1 r2
  go_wp2_with (first | (at_builtin; refine wpList_app (.tmp 6) (.tmp 8) 23 (by rfl) ?_; refine ⟨_, _, HRN.out, ?_⟩) | fail)
  clear p0 p1 p2 p3 p4 p5 HRN
  generalize w1.alloc (.cells #[.slice ao 4 cap, .slice none 0 0] 26) = W at *
  generalize w1.heap.size = zt at *
  go_loopw [14] (fun i wr => ∃ j : Nat, j ≤ kn ∧ i = .int .i64 j ∧ ∃ v A C ZB Z, Row wr zt 2 (fun i => if i = 0 then .slice ao 4 cap else v) ∧ Tl (zt + 1) wr v j A C p m ZB Z ∧ IntsOwn (fun x => w.heap.size + 1 + 1 ≤ x ∧ x < zt) wr ao 4 c ∧ Row wr (w.heap.size + 1) 2 (fun i => if i = 0 then .slice none 0 0 else .slice none 0 0) ∧ Blw w wr) (fun i _ => kn - (intOf i).toNat)
  case atStart => exact ⟨0, Nat.zero_le _, rfl, _, _, _, _, _, HBX.out, Tl.nil _ _ _ _, HO.out, HR.out, HB.out⟩
  case round =>
    clear HBX HO HB HR
    obtain ⟨j, hj, rfl, v, A, C, ZB, Z, hbx, htl, ho, hr, hb⟩ := hrel
    have HO : Hid (IntsOwn (fun x => w.heap.size + 1 + 1 ≤ x ∧ x < zt) wr ao 4 c) := ho
    have HR : Hid (Row wr (w.heap.size + 1) 2 (fun i => if i = 0 then .slice none 0 0 else .slice none 0 0)) := hr
    have HB : Hid (Blw w wr) := hb
    have HTL : Hid (Tl (zt + 1) wr v j A C p m ZB Z) := htl
    have HBX : Hid (Row wr zt 2 (fun i => if i = 0 then .slice ao 4 cap else v)) := hbx
    clear ho hr hb htl hbx
    by_cases hlt : j < kn
    · have hlt' : (j : Int) < (kn : Int) := by omega
      have hL := HL.out.blw HB.out
      obtain ⟨bb, oo, aa, cc, ea, hyb, g1, g2⟩ := hL.2 j hlt
      subst ea
      dsimp only at g1 g2
      rw [HLEN.out j hlt] at g1 g2
      have HU : Hid (UndosAt Y wr.drew aa 4 (p j) (m j)) := g2.blw (Blw.refl _).drew
      clear g2 hL
      go_upto_region 5 with fail
      replace HO : Hid (IntsOwn (fun x => w.heap.size + 1 + 1 ≤ x ∧ x < zt) wr.drew ao 4 c) := HO.out.blw (Blw.refl _).drew
      replace HR : Hid (Row wr.drew (w.heap.size + 1) 2 (fun i => if i = 0 then .slice none 0 0 else .slice none 0 0)) := HR.out.blw (Blw.refl _).drew
      replace HB : Hid (Blw w wr.drew) := HB.out.drew
      replace HTL : Hid (Tl (zt + 1) wr.drew v j A C p m ZB Z) := HTL.out.go (Blw.refl _).drew
      replace HBX : Hid (Row wr.drew zt 2 (fun i => if i = 0 then .slice ao 4 cap else v)) := HBX.out.blw (Blw.refl _).drew
      clear g1
      have P1 : ∀ w', Row w' zt 2 (fun i => if i = 0 then .slice ao 4 cap else v) → w'.cell? ⟨zt, 1, none⟩ = some v := fun w' hh => (get2 hh).2
      have pa := P1 _ HBX.out
      have pb := P1 _ (HBX.out.blw ((Blw.refl wr.drew).alloc (.cells #[] 78)))
      obtain ⟨au, cu, w2, hrun, o2, hb2⟩ := cloneU_run aa 4 cc (p j) (m j) Y wr.drew (by omega) HU.out
      have pc := P1 _ (HBX.out.blw hb2)
      have pd := P1 _ (HBX.out.blw (hb2.trans ((Blw.refl w2).alloc (.cells #[.slice au 4 cu] 83))))
      obtain ⟨an, cn, w3, ZB', hrun2, htl2, hM⟩ := HTL.out.push hb2 (by have := HBX.out.lt; omega) (Nat.le_refl _) hb2.size o2 (cap := cu) (by omega)
      have hM2 := (hb2.mod ZB).trans hM
      have hzb : ∀ x, ZB x → zt + 1 ≤ x := fun x hx => (HTL.out.zb x hx).1
      have hzt := HZ.out
      have hS3 := HBX.out.mod hM2 (fun h => by have := hzb _ h; omega)
      have ms : Mod (fun x => x = zt) w3 (w3.setCell ⟨zt, 1, none⟩ (.slice an (j + 1) cn)) := Mod.setCell (X := fun x => x = zt) _ (p := ⟨zt, 1, none⟩) rfl _
      have HN : Hid (∃ v A C ZB Z, Row (w3.setCell ⟨zt, 1, none⟩ (.slice an (j + 1) cn)) zt 2 (fun i => if i = 0 then .slice ao 4 cap else v) ∧ Tl (zt + 1) (w3.setCell ⟨zt, 1, none⟩ (.slice an (j + 1) cn)) v (j + 1) A C p m ZB Z ∧ IntsOwn (fun x => w.heap.size + 1 + 1 ≤ x ∧ x < zt) (w3.setCell ⟨zt, 1, none⟩ (.slice an (j + 1) cn)) ao 4 c ∧ Row (w3.setCell ⟨zt, 1, none⟩ (.slice an (j + 1) cn)) (w.heap.size + 1) 2 (fun i => if i = 0 then .slice none 0 0 else .slice none 0 0) ∧ Blw w (w3.setCell ⟨zt, 1, none⟩ (.slice an (j + 1) cn))) :=
        ⟨_, _, _, _, _, set2_1 hS3 (.slice an (j + 1) cn), htl2.mod ms (fun x hx => by omega), (HO.out.mod hM2 (fun x hx h => by have := hzb _ h; omega)).mod ms (fun x hx => by omega), (HR.out.mod hM2 (fun h => by have := hzb _ h; omega)).mod ms (by omega), Mod.blw (Mod.blw HB.out hM2 (fun i hi => by have := hzb _ hi; omega)) ms (fun i hi => by omega)⟩
      have f1 := hS3.frozen 1
      have p1 := (get2 hS3).2
      have HRN : Hid _ := hrun
      have HRN2 : Hid _ := hrun2
      clear HU o2 hb2 hrun hrun2 htl2 hM hM2 hzb hzt hS3 ms HO HR HB HTL HBX P1
      refine wp_region_noPanic ?_
      refine wp_region_held_drew (S := fun _ => True) (by kernel_rfl) trivial (fun hB => ?_)
      clear hB
      generalize wr.drew = wd at *
      refine wpAnyH_take (i := 0) (oi := { dst := some 18, op := Op.fieldAddr 26 (Operand.tmp 3) 1, type := 0, pos := _, after := #[], guard := none }) (v := (.pointer (some ⟨zt, 1, none⟩))) rfl (by kernel_rfl) (by kernel_rfl) (by kernel_rfl) (fun _ _ _ h => h) (Or.inl ⟨by rfl, fun w' hS => by (try dsimp only at hS); go_simp⟩) trivial ?_
      simp only [Act.put, List.setIfInBounds_toArray, List.set_cons_zero, List.set_cons_succ]
      refine wpAnyH_take (i := 3) (oi := { dst := some 21, op := Op.move (Operand.tmp 5), type := 83, pos := _, after := #[], guard := none }) (v := (.slice aa 4 cc)) rfl (by kernel_rfl) (by kernel_rfl) (by kernel_rfl) (fun _ _ _ h => h) (Or.inl ⟨by rfl, fun w' hS => by (try dsimp only at hS); go_simp⟩) trivial ?_
      simp only [Act.put, List.setIfInBounds_toArray, List.set_cons_zero, List.set_cons_succ]
      refine wpAnyH_ready (rs := [1, 2]) (by kernel_rfl) (by simp) ?_
      refine AllReadyH.cons (o := { dst := some 19, op := Op.load 24 (Operand.tmp 18), type := 24, pos := _, after := #[{ on := 0, ground := Ground.data }], guard := none }) rfl (fun K hK => ?_) (AllReadyH.cons (o := { dst := some 20, op := Op.buildSlice 83 0 #[], type := 83, pos := _, after := #[], guard := none }) rfl (fun K hK => ?_) AllReadyH.nil)
      · go_simp
        refine hK.out _ _ trivial (fun hB => ?_)
        clear hK K hB
        try simp only [Act.put, List.setIfInBounds_toArray, List.set_cons_zero, List.set_cons_succ]
        refine wpAnyH_ready (rs := [2]) (by kernel_rfl) (by simp) ?_
        refine AllReadyH.cons (o := { dst := some 20, op := Op.buildSlice 83 0 #[], type := 83, pos := _, after := #[], guard := none }) rfl (fun K hK => ?_) AllReadyH.nil
        go_simp
        refine hK.out _ _ trivial (fun hB => ?_)
        clear hK K hB
        try simp only [Act.put, List.setIfInBounds_toArray, List.set_cons_zero, List.set_cons_succ]
        refine wpAnyH_ready (rs := [4]) (by kernel_rfl) (by simp) ?_
        refine AllReadyH.cons (o := { dst := some 22, op := Op.call { callee := Callee.builtin Builtin.append, args := #[Operand.tmp 20, Operand.tmp 21], argTypes := #[83, 83] }, type := 83, pos := _, after := #[{ on := 2, ground := Ground.data }, { on := 3, ground := Ground.data }], guard := none }) rfl (fun K hK => ?_) AllReadyH.nil
        refine step_app (.tmp 20) (.tmp 21) 83 (by rfl) ?_
        refine ⟨_, _, HRN.out, ?_⟩
        refine hK.out _ _ trivial (fun hB => ?_)
        clear hK K hB
        try simp only [Act.put, List.setIfInBounds_toArray, List.set_cons_zero, List.set_cons_succ]
        refine wpAnyH_ready (rs := [5]) (by kernel_rfl) (by simp) ?_
        refine AllReadyH.cons (o := { dst := some 23, op := Op.buildSlice 24 1 #[(0, Operand.tmp 22)], type := 24, pos := _, after := #[{ on := 4, ground := Ground.data }], guard := none }) rfl (fun K hK => ?_) AllReadyH.nil
        go_simp
        refine hK.out _ _ trivial (fun hB => ?_)
        clear hK K hB
        try simp only [Act.put, List.setIfInBounds_toArray, List.set_cons_zero, List.set_cons_succ]
        refine wpAnyH_ready (rs := [6]) (by kernel_rfl) (by simp) ?_
        refine AllReadyH.cons (o := { dst := some 24, op := Op.call { callee := Callee.builtin Builtin.append, args := #[Operand.tmp 19, Operand.tmp 23], argTypes := #[24, 24] }, type := 24, pos := _, after := #[{ on := 1, ground := Ground.data }, { on := 5, ground := Ground.data }, { on := 4, ground := Ground.chain }], guard := none }) rfl (fun K hK => ?_) AllReadyH.nil
        refine step_app (.tmp 19) (.tmp 23) 24 (by rfl) ?_
        refine ⟨_, _, HRN2.out, ?_⟩
        refine hK.out _ _ trivial (fun hB => ?_)
        clear hK K hB
        try simp only [Act.put, List.setIfInBounds_toArray, List.set_cons_zero, List.set_cons_succ]
        refine wpAnyH_take (i := 7) (oi := { dst := some 25, op := Op.fieldAddr 26 (Operand.tmp 3) 1, type := 0, pos := _, after := #[{ on := 0, ground := Ground.phase }, { on := 1, ground := Ground.phase }, { on := 2, ground := Ground.phase }, { on := 3, ground := Ground.phase }, { on := 4, ground := Ground.phase }, { on := 5, ground := Ground.phase }, { on := 6, ground := Ground.phase }], guard := none }) (v := (.pointer (some ⟨zt, 1, none⟩))) rfl (by kernel_rfl) (by kernel_rfl) (by kernel_rfl) (fun _ _ _ h => h) (Or.inl ⟨by rfl, fun w' hS => by (try dsimp only at hS); go_simp⟩) trivial ?_
        simp only [Act.put, List.setIfInBounds_toArray, List.set_cons_zero, List.set_cons_succ]
        refine wpAnyH_ready (rs := [8]) (by kernel_rfl) (by simp) ?_
        refine AllReadyH.cons (o := { dst := none, op := Op.store 24 (Operand.tmp 25) (Operand.tmp 24), type := 0, pos := _, after := #[{ on := 7, ground := Ground.data }, { on := 6, ground := Ground.data }, { on := 6, ground := Ground.chain }, { on := 0, ground := Ground.phase }, { on := 1, ground := Ground.phase }, { on := 2, ground := Ground.phase }, { on := 3, ground := Ground.phase }, { on := 4, ground := Ground.phase }, { on := 5, ground := Ground.phase }, { on := 6, ground := Ground.phase }], guard := none }) rfl (fun K hK => ?_) AllReadyH.nil
        go_simp
        refine hK.out _ _ trivial (fun hB => ?_)
        clear hK K hB
        try simp only [Act.put, List.setIfInBounds_toArray, List.set_cons_zero, List.set_cons_succ]
        refine wpAnyH_done (by kernel_rfl) ?_ _
        refine NoPanic.normal ?_
        clear pa pb pc pd f1 p1 HRN HRN2
        go_wp2
        go_roundw
        case rel => exact ⟨j + 1, by omega, by go_num, HN.out⟩
        case measure => simp [intOf]; omega
      · go_simp
        refine hK.out _ _ trivial (fun hB => ?_)
        clear hK K hB
        try simp only [Act.put, List.setIfInBounds_toArray, List.set_cons_zero, List.set_cons_succ]
        refine wpAnyH_ready (rs := [1, 4]) (by kernel_rfl) (by simp) ?_
        refine AllReadyH.cons (o := { dst := some 19, op := Op.load 24 (Operand.tmp 18), type := 24, pos := _, after := #[{ on := 0, ground := Ground.data }], guard := none }) rfl (fun K hK => ?_) (AllReadyH.cons (o := { dst := some 22, op := Op.call { callee := Callee.builtin Builtin.append, args := #[Operand.tmp 20, Operand.tmp 21], argTypes := #[83, 83] }, type := 83, pos := _, after := #[{ on := 2, ground := Ground.data }, { on := 3, ground := Ground.data }], guard := none }) rfl (fun K hK => ?_) AllReadyH.nil)
        · go_simp
          refine hK.out _ _ trivial (fun hB => ?_)
          clear hK K hB
          try simp only [Act.put, List.setIfInBounds_toArray, List.set_cons_zero, List.set_cons_succ]
          refine wpAnyH_ready (rs := [4]) (by kernel_rfl) (by simp) ?_
          refine AllReadyH.cons (o := { dst := some 22, op := Op.call { callee := Callee.builtin Builtin.append, args := #[Operand.tmp 20, Operand.tmp 21], argTypes := #[83, 83] }, type := 83, pos := _, after := #[{ on := 2, ground := Ground.data }, { on := 3, ground := Ground.data }], guard := none }) rfl (fun K hK => ?_) AllReadyH.nil
          refine step_app (.tmp 20) (.tmp 21) 83 (by rfl) ?_
          refine ⟨_, _, HRN.out, ?_⟩
          refine hK.out _ _ trivial (fun hB => ?_)
          clear hK K hB
          try simp only [Act.put, List.setIfInBounds_toArray, List.set_cons_zero, List.set_cons_succ]
          refine wpAnyH_ready (rs := [5]) (by kernel_rfl) (by simp) ?_
          refine AllReadyH.cons (o := { dst := some 23, op := Op.buildSlice 24 1 #[(0, Operand.tmp 22)], type := 24, pos := _, after := #[{ on := 4, ground := Ground.data }], guard := none }) rfl (fun K hK => ?_) AllReadyH.nil
          go_simp
          refine hK.out _ _ trivial (fun hB => ?_)
          clear hK K hB
          try simp only [Act.put, List.setIfInBounds_toArray, List.set_cons_zero, List.set_cons_succ]
          refine wpAnyH_ready (rs := [6]) (by kernel_rfl) (by simp) ?_
          refine AllReadyH.cons (o := { dst := some 24, op := Op.call { callee := Callee.builtin Builtin.append, args := #[Operand.tmp 19, Operand.tmp 23], argTypes := #[24, 24] }, type := 24, pos := _, after := #[{ on := 1, ground := Ground.data }, { on := 5, ground := Ground.data }, { on := 4, ground := Ground.chain }], guard := none }) rfl (fun K hK => ?_) AllReadyH.nil
          refine step_app (.tmp 19) (.tmp 23) 24 (by rfl) ?_
          refine ⟨_, _, HRN2.out, ?_⟩
          refine hK.out _ _ trivial (fun hB => ?_)
          clear hK K hB
          try simp only [Act.put, List.setIfInBounds_toArray, List.set_cons_zero, List.set_cons_succ]
          refine wpAnyH_take (i := 7) (oi := { dst := some 25, op := Op.fieldAddr 26 (Operand.tmp 3) 1, type := 0, pos := _, after := #[{ on := 0, ground := Ground.phase }, { on := 1, ground := Ground.phase }, { on := 2, ground := Ground.phase }, { on := 3, ground := Ground.phase }, { on := 4, ground := Ground.phase }, { on := 5, ground := Ground.phase }, { on := 6, ground := Ground.phase }], guard := none }) (v := (.pointer (some ⟨zt, 1, none⟩))) rfl (by kernel_rfl) (by kernel_rfl) (by kernel_rfl) (fun _ _ _ h => h) (Or.inl ⟨by rfl, fun w' hS => by (try dsimp only at hS); go_simp⟩) trivial ?_
          simp only [Act.put, List.setIfInBounds_toArray, List.set_cons_zero, List.set_cons_succ]
          refine wpAnyH_ready (rs := [8]) (by kernel_rfl) (by simp) ?_
          refine AllReadyH.cons (o := { dst := none, op := Op.store 24 (Operand.tmp 25) (Operand.tmp 24), type := 0, pos := _, after := #[{ on := 7, ground := Ground.data }, { on := 6, ground := Ground.data }, { on := 6, ground := Ground.chain }, { on := 0, ground := Ground.phase }, { on := 1, ground := Ground.phase }, { on := 2, ground := Ground.phase }, { on := 3, ground := Ground.phase }, { on := 4, ground := Ground.phase }, { on := 5, ground := Ground.phase }, { on := 6, ground := Ground.phase }], guard := none }) rfl (fun K hK => ?_) AllReadyH.nil
          go_simp
          refine hK.out _ _ trivial (fun hB => ?_)
          clear hK K hB
          try simp only [Act.put, List.setIfInBounds_toArray, List.set_cons_zero, List.set_cons_succ]
          refine wpAnyH_done (by kernel_rfl) ?_ _
          refine NoPanic.normal ?_
          clear pa pb pc pd f1 p1 HRN HRN2
          go_wp2
          go_roundw
          case rel => exact ⟨j + 1, by omega, by go_num, HN.out⟩
          case measure => simp [intOf]; omega
        · refine step_app (.tmp 20) (.tmp 21) 83 (by rfl) ?_
          refine ⟨_, _, HRN.out, ?_⟩
          refine hK.out _ _ trivial (fun hB => ?_)
          clear hK K hB
          try simp only [Act.put, List.setIfInBounds_toArray, List.set_cons_zero, List.set_cons_succ]
          refine wpAnyH_ready (rs := [1, 5]) (by kernel_rfl) (by simp) ?_
          refine AllReadyH.cons (o := { dst := some 19, op := Op.load 24 (Operand.tmp 18), type := 24, pos := _, after := #[{ on := 0, ground := Ground.data }], guard := none }) rfl (fun K hK => ?_) (AllReadyH.cons (o := { dst := some 23, op := Op.buildSlice 24 1 #[(0, Operand.tmp 22)], type := 24, pos := _, after := #[{ on := 4, ground := Ground.data }], guard := none }) rfl (fun K hK => ?_) AllReadyH.nil)
          · go_simp
            refine hK.out _ _ trivial (fun hB => ?_)
            clear hK K hB
            try simp only [Act.put, List.setIfInBounds_toArray, List.set_cons_zero, List.set_cons_succ]
            refine wpAnyH_ready (rs := [5]) (by kernel_rfl) (by simp) ?_
            refine AllReadyH.cons (o := { dst := some 23, op := Op.buildSlice 24 1 #[(0, Operand.tmp 22)], type := 24, pos := _, after := #[{ on := 4, ground := Ground.data }], guard := none }) rfl (fun K hK => ?_) AllReadyH.nil
            go_simp
            refine hK.out _ _ trivial (fun hB => ?_)
            clear hK K hB
            try simp only [Act.put, List.setIfInBounds_toArray, List.set_cons_zero, List.set_cons_succ]
            refine wpAnyH_ready (rs := [6]) (by kernel_rfl) (by simp) ?_
            refine AllReadyH.cons (o := { dst := some 24, op := Op.call { callee := Callee.builtin Builtin.append, args := #[Operand.tmp 19, Operand.tmp 23], argTypes := #[24, 24] }, type := 24, pos := _, after := #[{ on := 1, ground := Ground.data }, { on := 5, ground := Ground.data }, { on := 4, ground := Ground.chain }], guard := none }) rfl (fun K hK => ?_) AllReadyH.nil
            refine step_app (.tmp 19) (.tmp 23) 24 (by rfl) ?_
            refine ⟨_, _, HRN2.out, ?_⟩
            refine hK.out _ _ trivial (fun hB => ?_)
            clear hK K hB
            try simp only [Act.put, List.setIfInBounds_toArray, List.set_cons_zero, List.set_cons_succ]
            refine wpAnyH_take (i := 7) (oi := { dst := some 25, op := Op.fieldAddr 26 (Operand.tmp 3) 1, type := 0, pos := _, after := #[{ on := 0, ground := Ground.phase }, { on := 1, ground := Ground.phase }, { on := 2, ground := Ground.phase }, { on := 3, ground := Ground.phase }, { on := 4, ground := Ground.phase }, { on := 5, ground := Ground.phase }, { on := 6, ground := Ground.phase }], guard := none }) (v := (.pointer (some ⟨zt, 1, none⟩))) rfl (by kernel_rfl) (by kernel_rfl) (by kernel_rfl) (fun _ _ _ h => h) (Or.inl ⟨by rfl, fun w' hS => by (try dsimp only at hS); go_simp⟩) trivial ?_
            simp only [Act.put, List.setIfInBounds_toArray, List.set_cons_zero, List.set_cons_succ]
            refine wpAnyH_ready (rs := [8]) (by kernel_rfl) (by simp) ?_
            refine AllReadyH.cons (o := { dst := none, op := Op.store 24 (Operand.tmp 25) (Operand.tmp 24), type := 0, pos := _, after := #[{ on := 7, ground := Ground.data }, { on := 6, ground := Ground.data }, { on := 6, ground := Ground.chain }, { on := 0, ground := Ground.phase }, { on := 1, ground := Ground.phase }, { on := 2, ground := Ground.phase }, { on := 3, ground := Ground.phase }, { on := 4, ground := Ground.phase }, { on := 5, ground := Ground.phase }, { on := 6, ground := Ground.phase }], guard := none }) rfl (fun K hK => ?_) AllReadyH.nil
            go_simp
            refine hK.out _ _ trivial (fun hB => ?_)
            clear hK K hB
            try simp only [Act.put, List.setIfInBounds_toArray, List.set_cons_zero, List.set_cons_succ]
            refine wpAnyH_done (by kernel_rfl) ?_ _
            refine NoPanic.normal ?_
            clear pa pb pc pd f1 p1 HRN HRN2
            go_wp2
            go_roundw
            case rel => exact ⟨j + 1, by omega, by go_num, HN.out⟩
            case measure => simp [intOf]; omega
          · go_simp
            refine hK.out _ _ trivial (fun hB => ?_)
            clear hK K hB
            try simp only [Act.put, List.setIfInBounds_toArray, List.set_cons_zero, List.set_cons_succ]
            refine wpAnyH_ready (rs := [1]) (by kernel_rfl) (by simp) ?_
            refine AllReadyH.cons (o := { dst := some 19, op := Op.load 24 (Operand.tmp 18), type := 24, pos := _, after := #[{ on := 0, ground := Ground.data }], guard := none }) rfl (fun K hK => ?_) AllReadyH.nil
            go_simp
            refine hK.out _ _ trivial (fun hB => ?_)
            clear hK K hB
            try simp only [Act.put, List.setIfInBounds_toArray, List.set_cons_zero, List.set_cons_succ]
            refine wpAnyH_ready (rs := [6]) (by kernel_rfl) (by simp) ?_
            refine AllReadyH.cons (o := { dst := some 24, op := Op.call { callee := Callee.builtin Builtin.append, args := #[Operand.tmp 19, Operand.tmp 23], argTypes := #[24, 24] }, type := 24, pos := _, after := #[{ on := 1, ground := Ground.data }, { on := 5, ground := Ground.data }, { on := 4, ground := Ground.chain }], guard := none }) rfl (fun K hK => ?_) AllReadyH.nil
            refine step_app (.tmp 19) (.tmp 23) 24 (by rfl) ?_
            refine ⟨_, _, HRN2.out, ?_⟩
            refine hK.out _ _ trivial (fun hB => ?_)
            clear hK K hB
            try simp only [Act.put, List.setIfInBounds_toArray, List.set_cons_zero, List.set_cons_succ]
            refine wpAnyH_take (i := 7) (oi := { dst := some 25, op := Op.fieldAddr 26 (Operand.tmp 3) 1, type := 0, pos := _, after := #[{ on := 0, ground := Ground.phase }, { on := 1, ground := Ground.phase }, { on := 2, ground := Ground.phase }, { on := 3, ground := Ground.phase }, { on := 4, ground := Ground.phase }, { on := 5, ground := Ground.phase }, { on := 6, ground := Ground.phase }], guard := none }) (v := (.pointer (some ⟨zt, 1, none⟩))) rfl (by kernel_rfl) (by kernel_rfl) (by kernel_rfl) (fun _ _ _ h => h) (Or.inl ⟨by rfl, fun w' hS => by (try dsimp only at hS); go_simp⟩) trivial ?_
            simp only [Act.put, List.setIfInBounds_toArray, List.set_cons_zero, List.set_cons_succ]
            refine wpAnyH_ready (rs := [8]) (by kernel_rfl) (by simp) ?_
            refine AllReadyH.cons (o := { dst := none, op := Op.store 24 (Operand.tmp 25) (Operand.tmp 24), type := 0, pos := _, after := #[{ on := 7, ground := Ground.data }, { on := 6, ground := Ground.data }, { on := 6, ground := Ground.chain }, { on := 0, ground := Ground.phase }, { on := 1, ground := Ground.phase }, { on := 2, ground := Ground.phase }, { on := 3, ground := Ground.phase }, { on := 4, ground := Ground.phase }, { on := 5, ground := Ground.phase }, { on := 6, ground := Ground.phase }], guard := none }) rfl (fun K hK => ?_) AllReadyH.nil
            go_simp
            refine hK.out _ _ trivial (fun hB => ?_)
            clear hK K hB
            try simp only [Act.put, List.setIfInBounds_toArray, List.set_cons_zero, List.set_cons_succ]
            refine wpAnyH_done (by kernel_rfl) ?_ _
            refine NoPanic.normal ?_
            clear pa pb pc pd f1 p1 HRN HRN2
            go_wp2
            go_roundw
            case rel => exact ⟨j + 1, by omega, by go_num, HN.out⟩
            case measure => simp [intOf]; omega
    · obtain rfl : j = kn := by omega
      obtain ⟨al, cl, rfl, own⟩ := HTL.out.ps (by omega)
      have hzt := HZ.out
      have hlt2 := HBX.out.lt
      have own' : BookOwn (fun x => w.heap.size + 1 < x ∧ x < wr.heap.size) wr ⟨ao, al, cap, cl⟩ ⟨4, c, ⟨j, fun _ => 4, p, m⟩⟩ := ⟨fun x => w.heap.size + 1 + 1 ≤ x ∧ x < zt, fun x => zt + 1 ≤ x ∧ x < wr.heap.size, fun x hx => ⟨⟨by omega, by omega⟩, by omega⟩, fun x hx => ⟨by omega, hx.2⟩, HO.out, own⟩
      have hm := set2_mod (X := fun x => x = w.heap.size + 1) wr rfl (.slice ao 4 cap) (.slice al j cl)
      have hs := hm.size
      have FIN : Hid (∃ b' : BV, Ending.returned ((BV.mk ao al cap cl).val ⟨4, c, ⟨j, fun _ => 4, p, m⟩⟩) = .returned (b'.val ⟨4, c, ⟨j, fun _ => 4, p, m⟩⟩) ∧ BookOwn (fun x => w.heap.size ≤ x ∧ x < ((wr.setCell ⟨w.heap.size + 1, 0, none⟩ (.slice ao 4 cap)).setCell ⟨w.heap.size + 1, 1, none⟩ (.slice al j cl)).heap.size) ((wr.setCell ⟨w.heap.size + 1, 0, none⟩ (.slice ao 4 cap)).setCell ⟨w.heap.size + 1, 1, none⟩ (.slice al j cl)) b' ⟨4, c, ⟨j, fun _ => 4, p, m⟩⟩ ∧ Blw w ((wr.setCell ⟨w.heap.size + 1, 0, none⟩ (.slice ao 4 cap)).setCell ⟨w.heap.size + 1, 1, none⟩ (.slice al j cl))) :=
        ⟨_, rfl, (own'.mod hm (fun x hx => by omega)).mono (fun x hx => by omega), set2_blw HB.out (by omega) _ _⟩
      obtain ⟨t0, t1⟩ := get2 HR.out
      obtain ⟨s0, s1⟩ := get2 HBX.out
      have f0 := HR.out.frozen 0
      have f1 := HR.out.frozen 1
      clear own own' hm hs HTL HO HR HB HBX hzt hlt2
      go_wp2
      exact bodyPost_ret (v := .agg #[.slice ao 4 cap, .slice al j cl]) (by simp [results, Try.results59, go_sem, t0, t1]) rfl FIN.out
end Go.Proofs.Ytcfdagmcnaepgaa
/- A table of the model's own that is changed. -/
namespace Go.Proofs.Ytcfdagmcnaepgaa
open Go.RowKit
set_option linter.unusedSimpArgs false
set_option linter.unusedVariables false
theorem psin_leaf {X : Nat → Prop} {W : World} {bl kn : Nat} {A : Nat → Option Addr} {C : Nat → Nat} {p m : Nat → Nat → Int} {Z : Nat → Nat → Prop} (h : PSIn X W bl A C ⟨kn, fun _ => 4, p, m⟩ Z) {q j : Nat} (hq : q < kn) (hj : j < 4) :
    ∃ gb, A q = some ⟨gb, 0, none⟩ ∧ X gb ∧ gb ≠ bl ∧ Row W gb 8 (uc (p q) (m q)) ∧ (∀ x y : Int, PSIn X ((W.setCell ⟨gb, j * 2, none⟩ (.int .i64 x)).setCell ⟨gb, j * 2 + 1, none⟩ (.int .i64 y)) bl A C ⟨kn, fun _ => 4, upd2 p q j x, upd2 m q j y⟩ Z) ∧ (∀ y : Int, PSIn X (W.setCell ⟨gb, j * 2 + 1, none⟩ (.int .i64 y)) bl A C ⟨kn, fun _ => 4, p, upd2 m q j y⟩ Z) := by
  obtain ⟨gb, hz, ea, hr⟩ := (h.own q hq).2 (by show 0 < 4; omega)
  have hr8 : Row W gb 8 (uc (p q) (m q)) := hr
  have hs := h.sub q hq gb hz
  have hoth : ∀ i, i < kn → i ≠ q → ¬ Z i gb := fun i hi hne hzi => h.dis i q hi hq hne gb hzi hz
  refine ⟨gb, ea, hs.1, hs.2, hr8, fun x y => ?_, fun y => ?_⟩
  · have hm : Mod (fun k => k = gb) W ((W.setCell ⟨gb, j * 2, none⟩ (.int .i64 x)).setCell ⟨gb, j * 2 + 1, none⟩ (.int .i64 y)) := (Mod.setCell (X := fun k => k = gb) _ (p := ⟨gb, j * 2, none⟩) rfl _).trans (Mod.setCell (X := fun k => k = gb) _ (p := ⟨gb, j * 2 + 1, none⟩) rfl _)
    refine ⟨h.row.mod hm (fun e => hs.2 e.symm), fun i hi => ?_, h.sub, h.dis, h.hb⟩
    by_cases e : i = q
    · subst e
      refine ⟨by show 4 ≤ _; omega, fun _ => ⟨gb, hz, ea, ?_⟩⟩
      refine (((hr8.set (j * 2) (.int .i64 x)).set (j * 2 + 1) (.int .i64 y)).congr (fun k hk => ?_) : Row _ gb (4 * 2) _)
      show (if k = j * 2 + 1 then _ else if k = j * 2 then _ else _) = uc (upd2 p i j x i) (upd2 m i j y i) k
      unfold uc upd2
      by_cases e1 : k = j * 2 + 1
      · have h1 : ¬ k % 2 = 0 := by omega
        have h2 : k / 2 = j := by omega
        simp [e1, h1, h2]
        omega
      · by_cases e2 : k = j * 2
        · simp [e2]
        · simp only [e1, e2, if_false]
          have h2 : ¬ k / 2 = j := by omega
          simp [h2]
    · refine (((h.own i hi).mod hm (fun b hb e2 => hoth i hi e (e2 ▸ hb))).congr (fun k hk => ?_))
      simp [upd2, e]
  · have hm : Mod (fun k => k = gb) W (W.setCell ⟨gb, j * 2 + 1, none⟩ (.int .i64 y)) := Mod.setCell (X := fun k => k = gb) _ (p := ⟨gb, j * 2 + 1, none⟩) rfl _
    refine ⟨h.row.mod hm (fun e => hs.2 e.symm), fun i hi => ?_, h.sub, h.dis, h.hb⟩
    by_cases e : i = q
    · subst e
      refine ⟨by show 4 ≤ _; omega, fun _ => ⟨gb, hz, ea, ?_⟩⟩
      refine ((hr8.set (j * 2 + 1) (.int .i64 y)).congr (fun k hk => ?_) : Row _ gb (4 * 2) _)
      show (if k = j * 2 + 1 then _ else _) = uc (p i) (upd2 m i j y i) k
      unfold uc upd2
      by_cases e1 : k = j * 2 + 1
      · have h1 : ¬ k % 2 = 0 := by omega
        have h2 : k / 2 = j := by omega
        simp [e1, h1, h2]
        omega
      · by_cases h3 : k % 2 = 0
        · simp [e1, h3]
        · have h2 : ¬ k / 2 = j := by omega
          simp [e1, h2, h3]
    · refine (((h.own i hi).mod hm (fun b hb e2 => hoth i hi e (e2 ▸ hb))).congr (fun k hk => ?_))
      simp [upd2, e]
/-- A table of one's own in a box at zb. -/
structure OT (lo zb : Nat) (W : World) (bt bl c1 c2 : Nat) (c : Nat → Int) (kn : Nat) (p m : Nat → Nat → Int) (A : Nat → Option Addr) (C : Nat → Nat) (Z : Nat → Nat → Prop) (X : Nat → Prop) : Prop where
  box : Row W zb 2 (fun i => if i = 0 then .slice (some ⟨bt, 0, none⟩) 4 c1 else .slice (some ⟨bl, 0, none⟩) kn c2)
  top : Row W bt 4 (fun i => .int .i64 (c i))
  ls : PSIn X W bl A C ⟨kn, fun _ => 4, p, m⟩ Z
  nx : ∀ x, X x → lo ≤ x ∧ x < W.heap.size ∧ x ≠ zb ∧ x ≠ bt
  nb : bt ≠ zb ∧ lo ≤ bt ∧ lo ≤ zb
theorem OT.mod {Q : Nat → Prop} {lo zb : Nat} {W W' : World} {bt bl c1 c2 : Nat} {c : Nat → Int} {kn : Nat} {p m : Nat → Nat → Int} {A : Nat → Option Addr} {C : Nat → Nat} {Z : Nat → Nat → Prop} {X : Nat → Prop} (h : OT lo zb W bt bl c1 c2 c kn p m A C Z X) (hm : Mod Q W W') (hq : ∀ x, lo ≤ x → ¬ Q x) : OT lo zb W' bt bl c1 c2 c kn p m A C Z X :=
  ⟨h.box.mod hm (hq _ h.nb.2.2), h.top.mod hm (hq _ h.nb.2.1), h.ls.mod hm (fun x hx => hq _ (h.nx x hx).1), fun x hx => by have := h.nx x hx; have := hm.size; omega, h.nb⟩
theorem OT.go {lo zb : Nat} {W W' : World} {bt bl c1 c2 : Nat} {c : Nat → Int} {kn : Nat} {p m : Nat → Nat → Int} {A : Nat → Option Addr} {C : Nat → Nat} {Z : Nat → Nat → Prop} {X : Nat → Prop} (h : OT lo zb W bt bl c1 c2 c kn p m A C Z X) (hb : Blw W W') : OT lo zb W' bt bl c1 c2 c kn p m A C Z X := h.mod (hb.mod (fun _ => False)) (fun _ _ => id)
theorem OT.make {lo : Nat} {W : World} {b : BV} {c : Nat → Int} {kn : Nat} {p m : Nat → Nat → Int} (hk : 0 < kn) (h : BookOwn (fun x => lo ≤ x ∧ x < W.heap.size) W b ⟨4, c, ⟨kn, fun _ => 4, p, m⟩⟩) (hlo : lo ≤ W.heap.size) :
    ∃ bt bl c1 c2 A C Z X, b = ⟨some ⟨bt, 0, none⟩, some ⟨bl, 0, none⟩, c1, c2⟩ ∧ OT lo W.heap.size (W.alloc (.cells #[.slice (some ⟨bt, 0, none⟩) 4 c1, .slice (some ⟨bl, 0, none⟩) kn c2] 26)) bt bl c1 c2 c kn p m A C Z X := by
  obtain ⟨a1, a2, c1, c2⟩ := b
  obtain ⟨X1, X2, d1, d2, hc, hl⟩ := h.ex
  obtain ⟨bt, hbt, e1, hr⟩ := hc.2 (by show 0 < 4; omega)
  obtain ⟨bl, A, C, Z, e2, hp⟩ := hl.2 hk
  dsimp only at e1 e2
  subst e1 e2
  have hA : Blw W (W.alloc (.cells #[.slice (some ⟨bt, 0, none⟩) 4 c1, .slice (some ⟨bl, 0, none⟩) kn c2] 26)) := (Blw.refl _).alloc _
  refine ⟨bt, bl, c1, c2, A, C, Z, X2, rfl, box2 W _ _ 26, hr.blw hA, hp.mod (hA.mod (fun _ => False)) (fun _ _ => id), fun x hx => ?_, ?_⟩
  · have := d2 x hx
    rw [World.size_alloc]
    refine ⟨by omega, by omega, by omega, fun e => (d1 bt hbt).2 (e ▸ hx)⟩
  · have := (d1 bt hbt).1
    omega
theorem OT.own {lo zb : Nat} {W : World} {bt bl c1 c2 : Nat} {c : Nat → Int} {kn : Nat} {p m : Nat → Nat → Int} {A : Nat → Option Addr} {C : Nat → Nat} {Z : Nat → Nat → Prop} {X : Nat → Prop} (h : OT lo zb W bt bl c1 c2 c kn p m A C Z X) (hk : kn ≤ 4) : BookOwn (fun x => lo ≤ x ∧ x < W.heap.size) W ⟨some ⟨bt, 0, none⟩, some ⟨bl, 0, none⟩, c1, c2⟩ ⟨4, c, ⟨kn, fun _ => 4, p, m⟩⟩ :=
  ⟨fun x => x = bt, X, fun x hx => ⟨by have := h.nb; have := h.top.lt; omega, fun hX => by have := (h.nx x hX).2.2.2; omega⟩, fun x hx => by have := h.nx x hx; omega, ⟨by show 4 ≤ _; omega, fun _ => ⟨bt, rfl, rfl, h.top⟩⟩, ⟨by show kn ≤ _; omega, fun _ => ⟨bl, A, C, Z, rfl, h.ls⟩⟩⟩
theorem OT.setTop {lo zb : Nat} {W : World} {bt bl c1 c2 : Nat} {c : Nat → Int} {kn : Nat} {p m : Nat → Nat → Int} {A : Nat → Option Addr} {C : Nat → Nat} {Z : Nat → Nat → Prop} {X : Nat → Prop} (h : OT lo zb W bt bl c1 c2 c kn p m A C Z X) (t : Nat) (v : Int) : OT lo zb (W.setCell ⟨bt, t, none⟩ (.int .i64 v)) bt bl c1 c2 (upd c t v) kn p m A C Z X := by
  have hm : Mod (fun k => k = bt) W (W.setCell ⟨bt, t, none⟩ (.int .i64 v)) := Mod.setCell (X := fun k => k = bt) _ (p := ⟨bt, t, none⟩) rfl _
  refine ⟨h.box.mod hm (fun e => h.nb.1 e.symm), (h.top.set t _).congr (fun i hi => ?_), h.ls.mod hm (fun x hx e => (h.nx x hx).2.2.2 e), fun x hx => by have := h.nx x hx; have := hm.size; omega, h.nb⟩
  unfold upd
  split <;> rfl
theorem OT.leaf {lo zb : Nat} {W : World} {bt bl c1 c2 : Nat} {c : Nat → Int} {kn : Nat} {p m : Nat → Nat → Int} {A : Nat → Option Addr} {C : Nat → Nat} {Z : Nat → Nat → Prop} {X : Nat → Prop} (h : OT lo zb W bt bl c1 c2 c kn p m A C Z X) {q j : Nat} (hq : q < kn) (hj : j < 4) :
    ∃ gb, A q = some ⟨gb, 0, none⟩ ∧ gb ≠ zb ∧ gb ≠ bt ∧ gb ≠ bl ∧ lo ≤ gb ∧ Row W gb 8 (uc (p q) (m q)) ∧ (∀ x y : Int, OT lo zb ((W.setCell ⟨gb, j * 2, none⟩ (.int .i64 x)).setCell ⟨gb, j * 2 + 1, none⟩ (.int .i64 y)) bt bl c1 c2 c kn (upd2 p q j x) (upd2 m q j y) A C Z X) ∧ (∀ y : Int, OT lo zb (W.setCell ⟨gb, j * 2 + 1, none⟩ (.int .i64 y)) bt bl c1 c2 c kn p (upd2 m q j y) A C Z X) := by
  obtain ⟨gb, ea, hX, hne, hr, h1, h2⟩ := psin_leaf h.ls hq hj
  have hn := h.nx gb hX
  refine ⟨gb, ea, hn.2.2.1, hn.2.2.2, hne, hn.1, hr, fun x y => ?_, fun y => ?_⟩
  · have hm : Mod (fun k => k = gb) W ((W.setCell ⟨gb, j * 2, none⟩ (.int .i64 x)).setCell ⟨gb, j * 2 + 1, none⟩ (.int .i64 y)) := (Mod.setCell (X := fun k => k = gb) _ (p := ⟨gb, j * 2, none⟩) rfl _).trans (Mod.setCell (X := fun k => k = gb) _ (p := ⟨gb, j * 2 + 1, none⟩) rfl _)
    exact ⟨h.box.mod hm (fun e => hn.2.2.1 e.symm), h.top.mod hm (fun e => hn.2.2.2 e.symm), h1 x y, fun x hx => by have := h.nx x hx; have := hm.size; omega, h.nb⟩
  · have hm : Mod (fun k => k = gb) W (W.setCell ⟨gb, j * 2 + 1, none⟩ (.int .i64 y)) := Mod.setCell (X := fun k => k = gb) _ (p := ⟨gb, j * 2 + 1, none⟩) rfl _
    exact ⟨h.box.mod hm (fun e => hn.2.2.1 e.symm), h.top.mod hm (fun e => hn.2.2.2 e.symm), h2 y, fun x hx => by have := h.nx x hx; have := hm.size; omega, h.nb⟩
theorem OT.topAt {lo zb : Nat} {W : World} {bt bl c1 c2 : Nat} {c : Nat → Int} {kn : Nat} {p m : Nat → Nat → Int} {A : Nat → Option Addr} {C : Nat → Nat} {Z : Nat → Nat → Prop} {X : Nat → Prop} (h : OT lo zb W bt bl c1 c2 c kn p m A C Z X) : IntsAt (fun x => x = bt) W (some ⟨bt, 0, none⟩) 4 c :=
  ⟨by omega, fun i hi => ⟨bt, 0, rfl, rfl, by rw [Nat.zero_add]; exact h.top.cell hi⟩⟩
end Go.Proofs.Ytcfdagmcnaepgaa
/- MappedIn: the program's, and the law. -/
namespace Go.Proofs.Ytcfdagmcnaepgaa
open Go.RowKit
set_option linter.unusedSimpArgs false
set_option linter.unusedVariables false
theorem lf_nonneg {n kn : Nat} {c : Nat → Int} {len : Nat → Nat} {p m : Nat → Nat → Int} (g : BD.Good ⟨n, c, ⟨kn, len, p, m⟩⟩) {a : Nat} (ha : a < 16) : 0 ≤ lfP c m a := by
  unfold lfP
  by_cases h : 0 ≤ c (a / 4)
  · rw [if_pos h]
    have hn : n = 4 := g.n
    have ht := g.top (a / 4) (by show a / 4 < n; omega)
    have ht' : c (a / 4) ≤ (kn : Int) - 1 := ht.2
    have := ((g.leaf (c (a / 4)).toNat (by show _ < kn; omega)).2 (a % 4) (by omega)).2.1.1
    exact this
  · rw [if_neg h]; omega
set_option maxRecDepth 10000 in
set_option maxHeartbeats 3200000 in
theorem implMapped_any (b : BV) (B : BD) (Y : Nat → Prop) (w : World) (h : BookAt Y w b B) (hY : ∀ x, Y x → x < w.heap.size) :
    Calls Try.prog 24 #[b.val B] w (GivesI (miOut B) w) := by
  have hb0 : Blw w (w.alloc (.cells #[.slice b.a1 B.n b.c1, .slice b.a2 B.D.n b.c2] 26)) := (Blw.refl _).alloc _
  have HA : Hid (BookAt Y (w.alloc (.cells #[.slice b.a1 B.n b.c1, .slice b.a2 B.D.n b.c2] 26)) b B) := h.blw hb0
  clear h
  go_enter Try.func24, Try.ntmps24
  go_wp2_with fail
  refine (hold_any b B Y _ HA.out (fun x hx => by have := hY x hx; simp; omega)).mono ?_
  rintro e w1 ⟨h1, hb1⟩
  replace hb1 := hb0.trans hb1
  clear hb0 HA
  rcases h1 with ⟨z, hg, rfl, hrow, -⟩ | ⟨hg, rfl⟩
  case inr =>
    have HG : Hid (¬ B.Good) := hg
    clear hg
    go_wp2
    exact bodyPost_ret (v := .tuple #[.slice none 0 0, .bool false]) (by simp [results, Try.results24, go_sem]) rfl (zero_givesI (Or.inr ⟨HG.out, rfl, rfl⟩) (hb1.alloc _))
  have HG : Hid B.Good := hg
  obtain ⟨n, c, ⟨kn, len, p, m⟩⟩ := B
  dsimp only at hrow
  have hn4 : n = 4 := HG.out.n
  subst hn4
  have hk4 : kn ≤ 4 := HG.out.k.2
  have hA : Blw w1 (w1.alloc (.cells (held5 c z kn) 87)) := (Blw.refl _).alloc _
  have hA2 : Blw (w1.alloc (.cells (held5 c z kn) 87)) ((w1.alloc (.cells (held5 c z kn) 87)).alloc (.cells #[.slice none 0 0] 23)) := (Blw.refl _).alloc _
  have hr5 : Row (w1.alloc (.cells (held5 c z kn) 87)) w1.heap.size 5 (row5f c (.slice (some ⟨z, 0, none⟩) kn kn)) := row5 w1 (.int .i64 (c 0)) (.int .i64 (c 1)) (.int .i64 (c 2)) (.int .i64 (c 3)) (.slice (some ⟨z, 0, none⟩) kn kn) 87
  have HR5 : Hid (Row ((w1.alloc (.cells (held5 c z kn) 87)).alloc (.cells #[.slice none 0 0] 23)) w1.heap.size 5 (row5f c (.slice (some ⟨z, 0, none⟩) kn kn))) := hr5.blw hA2
  have HRL : Hid (Row (w1.alloc (.cells (held5 c z kn) 87)) z (kn * 8) (lc p m)) := hrow.blw hA
  have hbx := box1 (w1.alloc (.cells (held5 c z kn) 87)) (.slice none 0 0) 23
  rw [World.size_alloc] at hbx
  have HBX : Hid (Row ((w1.alloc (.cells (held5 c z kn) 87)).alloc (.cells #[.slice none 0 0] 23)) (w1.heap.size + 1) 1 (fun _ => .slice none 0 0)) := hbx
  have HB1 : Hid (Blw w (w1.alloc (.cells (held5 c z kn) 87))) := hb1.trans hA
  have HA2 : Hid (Blw (w1.alloc (.cells (held5 c z kn) 87)) ((w1.alloc (.cells (held5 c z kn) 87)).alloc (.cells #[.slice none 0 0] 23))) := hA2
  have HSZ : Hid ((w1.alloc (.cells (held5 c z kn) 87)).heap.size = w1.heap.size + 1) := by show _ = _; simp
  obtain ⟨p0, p1, p2, p3, p4⟩ := get5 HR5.out
  clear hg hA hA2 hr5 hrow hbx hb1
  go_wp2_with fail
  clear p0 p1 p2 p3 p4
  refine (walkMapped_any c z kn p m (w1.heap.size + 1) (w1.alloc (.cells (held5 c z kn) 87)) _ hk4 (fun i hi => HG.out.top i hi) (fun a ha => lf_nonneg HG.out ha) HRL.out HA2.out (by rw [HSZ.out]; omega) HBX.out).mono ?_
  rintro e w2 ⟨⟨u, rfl⟩, v, zk, F, hGB⟩
  have hle := pk_len (mpP c m) 16
  obtain ⟨ao, cap, rfl, own⟩ := BufI.own hGB.buf (by omega)
  have g0 := hGB.box.cell (i := 0) (by omega)
  have FIN : Hid (GivesI (miOut ⟨4, c, ⟨kn, len, p, m⟩⟩) w (.returned (.tuple #[.slice ao (pk (mpP c m) 16).length cap, .bool true])) w2) := ⟨_, _, cap, _, true, rfl, Or.inl ⟨HG.out, rfl, rfl, rfl⟩, by omega, own.mono (fun x hx => ⟨Nat.le_trans HB1.out.size hx.1, hx.2.1⟩), HB1.out.trans hGB.blw⟩
  clear hGB own hle HB1 HA2 HR5 HRL HBX HSZ
  go_wp2
  exact bodyPost_ret (v := .tuple #[.slice ao (pk (mpP c m) 16).length cap, .bool true]) (by simp [results, Try.results24, go_sem]) rfl FIN.out
end Go.Proofs.Ytcfdagmcnaepgaa
/- ProtectPage: the model's. -/
namespace Go.Proofs.Ytcfdagmcnaepgaa
open Go.RowKit
set_option linter.unusedSimpArgs false
set_option linter.unusedVariables false
theorem nz8 {f g : Nat → Int} {j : Nat} {y : Int} (hj : j < 4) (hy : mayOK y) (hg : g j = y) : ¬ isZero8 f g := fun h => by
  have := (h j hj).2
  unfold mayOK at hy
  omega
theorem upd2_self {p : Nat → Nat → Int} {q j : Nat} {v : Int} (h : p q j = v) : upd2 p q j v = p := by
  funext a b; unfold upd2; split
  · next e => rw [e.1, e.2, h]
  · rfl
theorem upd2_at (p : Nat → Nat → Int) (q j : Nat) (v : Int) : upd2 p q j v q j = v := by unfold upd2; rw [if_pos ⟨rfl, rfl⟩]
theorem lf_top {c : Nat → Int} {kn x : Nat} {m : Nat → Nat → Int} (h : ¬ lfP c m x = 0) (ht : -1 ≤ c (x / 4) ∧ c (x / 4) ≤ (kn : Int) - 1) : ∃ q : Nat, c (x / 4) = q ∧ q < kn := by
  have h0 : 0 ≤ c (x / 4) := Decidable.byContradiction fun h1 => h (lfP_no h1)
  exact ⟨(c (x / 4)).toNat, by omega, by omega⟩
set_option maxRecDepth 10000 in
set_option maxHeartbeats 6400000 in
theorem specProt_any (b : BV) (B : BD) (a y : Int) (Y : Nat → Prop) (w : World) (hn : B.n ≤ 1048576) (h : BookAt Y w b B) :
    Calls Try.prog 21 #[b.val B, .int .i64 a, .int .i64 y] w (GivesB (chOut B a (fun _ oy => ¬ oy = 0 ∧ mayOK y) (fun o => o) y) w) := by
  have hA1 : Blw w (w.alloc (.cells #[.slice b.a1 B.n b.c1, .slice b.a2 B.D.n b.c2] 26)) := (Blw.refl _).alloc _
  have hA2 : Blw (w.alloc (.cells #[.slice b.a1 B.n b.c1, .slice b.a2 B.D.n b.c2] 26)) ((w.alloc (.cells #[.slice b.a1 B.n b.c1, .slice b.a2 B.D.n b.c2] 26)).alloc (.cells #[.slice none 0 0, .slice none 0 0] 26)) := (Blw.refl _).alloc _
  have HB : Hid (Blw w ((w.alloc (.cells #[.slice b.a1 B.n b.c1, .slice b.a2 B.D.n b.c2] 26)).alloc (.cells #[.slice none 0 0, .slice none 0 0] 26))) := hA1.trans hA2
  have rR := box2 (w.alloc (.cells #[.slice b.a1 B.n b.c1, .slice b.a2 B.D.n b.c2] 26)) (.slice none 0 0) (.slice none 0 0) 26
  rw [World.size_alloc] at rR
  have HR : Hid (Row ((w.alloc (.cells #[.slice b.a1 B.n b.c1, .slice b.a2 B.D.n b.c2] 26)).alloc (.cells #[.slice none 0 0, .slice none 0 0] 26)) (w.heap.size + 1) 2 (fun i => if i = 0 then .slice none 0 0 else .slice none 0 0)) := rR
  have HA : Hid (BookAt Y ((w.alloc (.cells #[.slice b.a1 B.n b.c1, .slice b.a2 B.D.n b.c2] 26)).alloc (.cells #[.slice none 0 0, .slice none 0 0] 26)) b B) := h.blw (hA1.trans hA2)
  have HA0 : Hid (Row ((w.alloc (.cells #[.slice b.a1 B.n b.c1, .slice b.a2 B.D.n b.c2] 26)).alloc (.cells #[.slice none 0 0, .slice none 0 0] 26)) w.heap.size 2 (fun i => if i = 0 then .slice b.a1 B.n b.c1 else .slice b.a2 B.D.n b.c2)) := (box2 w _ _ 26).blw hA2
  have HSZ : Hid (w.heap.size + 1 + 1 = ((w.alloc (.cells #[.slice b.a1 B.n b.c1, .slice b.a2 B.D.n b.c2] 26)).alloc (.cells #[.slice none 0 0, .slice none 0 0] 26)).heap.size) := by show _ = _; simp
  clear hA1 hA2 rR h
  go_enter Try.func21, Try.ntmps21
  obtain ⟨p0, p1⟩ := get2 HA0.out
  go_wp2_with fail
  clear p0 p1
  generalize ((w.alloc (.cells #[.slice b.a1 B.n b.c1, .slice b.a2 B.D.n b.c2] 26)).alloc (.cells #[.slice none 0 0, .slice none 0 0] 26)) = w0 at *
  refine (specGood_any b B Y _ hn HA.out).mono ?_
  rintro e w1 ⟨r, rfl, hr, hb1⟩
  have HT : Hid (r = true ↔ B.Good) := hr
  replace HSZ : Hid (w.heap.size + 1 + 1 ≤ w1.heap.size) := by have := HSZ.out; have := hb1.size; show _ ≤ _; omega
  replace HB : Hid (Blw w w1) := HB.out.trans hb1
  replace HR : Hid (Row w1 (w.heap.size + 1) 2 (fun i => if i = 0 then .slice none 0 0 else .slice none 0 0)) := HR.out.blw hb1
  replace HA0 : Hid (Row w1 w.heap.size 2 (fun i => if i = 0 then .slice b.a1 B.n b.c1 else .slice b.a2 B.D.n b.c2)) := HA0.out.blw hb1
  replace HA : Hid (BookAt Y w1 b B) := HA.out.blw hb1
  clear hr hb1
  cases r
  · have HN : Hid (¬ B.Good) := fun g => by have := HT.out.2 g; simp at this
    clear HT
    obtain ⟨t0, t1⟩ := get2 HR.out
    have f0 := HR.out.frozen 0
    have f1 := HR.out.frozen 1
    clear HR HA0
    go_wp2
    exact bodyPost_ret (v := .tuple #[BV.zero.val BD.zero, .bool false]) (by simp [results, Try.results21, go_sem, t0, t1]) rfl (zero_givesT (z := w.heap.size + 1) (by omega) (Or.inr ⟨fun q => HN.out q.1, rfl, rfl⟩) HB.out)
  have HG : Hid (B.Good) := HT.out.1 (by first | rfl | trivial)
  clear HT
  go_wp2_with fail
  refine (l6At_any a _).mono ?_
  rintro e w1 ⟨r, rfl, hr, rfl⟩
  have HT : Hid (r = true ↔ pgOK a) := hr
  clear hr
  cases r
  · have HN : Hid (¬ pgOK a) := fun g => by have := HT.out.2 g; simp at this
    clear HT
    obtain ⟨t0, t1⟩ := get2 HR.out
    have f0 := HR.out.frozen 0
    have f1 := HR.out.frozen 1
    clear HR HA0
    go_wp2
    exact bodyPost_ret (v := .tuple #[BV.zero.val BD.zero, .bool false]) (by simp [results, Try.results21, go_sem, t0, t1]) rfl (zero_givesT (z := w.heap.size + 1) (by omega) (Or.inr ⟨fun q => HN.out q.2.1, rfl, rfl⟩) HB.out)
  have H1 : Hid (pgOK a) := HT.out.1 (by first | rfl | trivial)
  clear HT
  go_wp2_with fail
  refine (l1In_any y 1 3 _).mono ?_
  rintro e w1 ⟨r, rfl, hr, rfl⟩
  have HT : Hid (r = true ↔ (1 ≤ y ∧ y ≤ 3)) := hr
  clear hr
  cases r
  · have HN : Hid (¬ (1 ≤ y ∧ y ≤ 3)) := fun g => by have := HT.out.2 g; simp at this
    clear HT
    obtain ⟨t0, t1⟩ := get2 HR.out
    have f0 := HR.out.frozen 0
    have f1 := HR.out.frozen 1
    clear HR HA0
    go_wp2
    exact bodyPost_ret (v := .tuple #[BV.zero.val BD.zero, .bool false]) (by simp [results, Try.results21, go_sem, t0, t1]) rfl (zero_givesT (z := w.heap.size + 1) (by omega) (Or.inr ⟨fun q => HN.out q.2.2.1.2, rfl, rfl⟩) HB.out)
  have H2 : Hid (mayOK y) := HT.out.1 (by first | rfl | trivial)
  clear HT
  obtain ⟨n, c, ⟨kn, len, p, m⟩⟩ := B
  obtain ⟨a1, a2, q1, q2⟩ := b
  have hn4 : n = 4 := HG.out.n
  subst hn4
  have hk4 : kn ≤ 4 := HG.out.k.2
  have hk1 : 0 < kn := HG.out.k.1
  simp only [BV.val] at *
  obtain ⟨x, hx, hx16⟩ : ∃ x : Nat, a = x ∧ x < 16 := ⟨a.toNat, by have := H1.out; unfold pgOK at this; omega, by have := H1.out; unfold pgOK at this; omega⟩
  subst hx
  have HN0 : Hid (0 ≤ lfP c m x) := lf_nonneg HG.out hx16
  obtain ⟨p0, p1⟩ := get2 HA0.out
  have hfm := fieldMay (lfP c p x) (lfP c m x)
  go_wp2_with fail
  clear p0 p1
  refine (l6Find_any ⟨a1, a2, q1, q2⟩ c kn len p m x Y _ HG.out hx16 HA.out).mono ?_
  rintro e w2 ⟨rfl, hb2⟩
  replace HB : Hid (Blw w w2) := HB.out.trans hb2
  replace HSZ : Hid (w.heap.size + 1 + 1 ≤ w2.heap.size) := by have := HSZ.out; have := hb2.size; show _ ≤ _; omega
  replace HR : Hid (Row w2 (w.heap.size + 1) 2 (fun i => if i = 0 then .slice none 0 0 else .slice none 0 0)) := HR.out.blw hb2
  replace HA0 : Hid (Row w2 w.heap.size 2 (fun i => if i = 0 then .slice a1 4 q1 else .slice a2 kn q2)) := HA0.out.blw hb2
  replace HA : Hid (BookAt Y w2 ⟨a1, a2, q1, q2⟩ ⟨4, c, ⟨kn, len, p, m⟩⟩) := HA.out.blw hb2
  clear hb2
  by_cases h0 : lfP c m x = 0
  · have HN : Hid (lfP c m x = 0) := h0
    have d1 : (lfP c m x == 0) = true := by simp [h0]
    clear h0
    obtain ⟨t0, t1⟩ := get2 HR.out
    have f0 := HR.out.frozen 0
    have f1 := HR.out.frozen 1
    clear HR HA0
    go_wp2
    exact bodyPost_ret (v := .tuple #[BV.zero.val BD.zero, .bool false]) (by simp [results, Try.results21, go_sem, t0, t1]) rfl (zero_givesT (z := w.heap.size + 1) (by omega) (Or.inr ⟨fun q => q.2.2.1.1 (by rw [Int.toNat_natCast]; exact HN.out), rfl, rfl⟩) HB.out)
  have HN : Hid (¬ lfP c m x = 0) := h0
  have d1 : (lfP c m x == 0) = false := by simp [h0]
  clear h0
  obtain ⟨p0, p1⟩ := get2 HA0.out
  go_wp2_with fail
  clear p0 p1 hfm
  refine (l6Own_any ⟨a1, a2, q1, q2⟩ c kn len p m Y _ hk4 (fun i hi => (HG.out.leaf i hi).1) HA.out).mono ?_
  rintro e w3 ⟨b3, rfl, own, hb3⟩
  have hs3 := HSZ.out
  have hs4 := hb3.size
  obtain ⟨bt, bl, c1, c2, A, C, Z, X, rfl, hOT⟩ := OT.make (lo := w.heap.size + 1 + 1) hk1 (own.mono (fun x hx => ⟨by omega, hx.2⟩)) (by omega)
  have hA3 : Blw w3 (w3.alloc (.cells #[.slice (some ⟨bt, 0, none⟩) 4 c1, .slice (some ⟨bl, 0, none⟩) kn c2] 26)) := (Blw.refl _).alloc _
  have HOT : Hid (OT (w.heap.size + 1 + 1) w3.heap.size (w3.alloc (.cells #[.slice (some ⟨bt, 0, none⟩) 4 c1, .slice (some ⟨bl, 0, none⟩) kn c2] 26)) bt bl c1 c2 c kn p m A C Z X) := hOT
  replace HB : Hid (Blw w (w3.alloc (.cells #[.slice (some ⟨bt, 0, none⟩) 4 c1, .slice (some ⟨bl, 0, none⟩) kn c2] 26))) := HB.out.trans (hb3.trans hA3)
  replace HR : Hid (Row (w3.alloc (.cells #[.slice (some ⟨bt, 0, none⟩) 4 c1, .slice (some ⟨bl, 0, none⟩) kn c2] 26)) (w.heap.size + 1) 2 (fun i => if i = 0 then .slice none 0 0 else .slice none 0 0)) := HR.out.blw (hb3.trans hA3)
  have hd : Int.tdiv (x : Int) 4 = ((x / 4 : Nat) : Int) := by rw [Int.tdiv_eq_ediv_of_nonneg (by omega)]; rfl
  have hr : Int.tmod (x : Int) 4 = ((x % 4 : Nat) : Int) := by rw [Int.tmod_eq_emod_of_nonneg (by omega)]; rfl
  have hd4 : x / 4 < 4 := by omega
  have hr4 : x % 4 < 4 := by omega
  have hd4' : ((x / 4 : Nat) : Int) < 4 := by omega
  have hr4' : ((x % 4 : Nat) : Int) < 4 := by omega
  have htop := HG.out.top (x / 4) hd4
  dsimp only at htop
  clear own hb3 hA3 hs3 hs4 hOT HA HA0
  obtain ⟨q, hcq, hqk⟩ := lf_top HN.out htop
  have HCQ : Hid (c (x / 4) = q) := hcq
  have hqk' : (q : Int) < (kn : Int) := by omega
  have HOUT : Hid (chOut ⟨4, c, ⟨kn, len, p, m⟩⟩ (x : Int) (fun _ oy => ¬ oy = 0 ∧ mayOK y) (fun o => o) y ⟨4, c, ⟨kn, fun _ => 4, p, upd2 m q (x % 4) y⟩⟩ true) := by
    refine Or.inl ⟨⟨HG.out, H1.out, by rw [Int.toNat_natCast]; exact ⟨HN.out, H2.out⟩, q, by rw [Int.toNat_natCast]; exact Or.inl hcq⟩, ⟨q, by rw [Int.toNat_natCast]; exact Or.inl hcq, ?_⟩, rfl⟩
    rw [Int.toNat_natCast]
    unfold chB
    dsimp only
    rw [topsOf_no (nz8 hr4 H2.out (upd2_at _ _ _ _)), upd_self hcq, upd2_self (lfP_yes hcq).symm]
  clear hcq htop HN HN0
  go_upto_region 4 with fail
  generalize w3.alloc (.cells #[.slice (some ⟨bt, 0, none⟩) 4 c1, .slice (some ⟨bl, 0, none⟩) kn c2] 26) = W at *
  generalize w3.heap.size = zb at *
  generalize x / 4 = t at *
  generalize x % 4 = j at *
  replace HOT : Hid (OT (w.heap.size + 1 + 1) zb W.drew bt bl c1 c2 c kn p m A C Z X) := HOT.out.go (Blw.refl _).drew
  replace HB : Hid (Blw w W.drew) := HB.out.drew
  replace HR : Hid (Row W.drew (w.heap.size + 1) 2 (fun i => if i = 0 then .slice none 0 0 else .slice none 0 0)) := HR.out.blw (Blw.refl _).drew
  obtain ⟨gb, ea, n1, n2, n3, hlo, hr8, hs2, hs1⟩ := HOT.out.leaf hqk hr4
  have bx := HOT.out.box
  have tp := HOT.out.top.cell hd4
  rw [HCQ.out] at tp
  have ls := HOT.out.ls.row.cell hqk
  dsimp only at ls
  rw [ea] at ls
  have f1 := hr8.frozen (j * 2 + 1)
  have l1 : W.drew.cell? ⟨gb, j * 2 + 1, none⟩ = some (.int .i64 (m q j)) := by rw [hr8.cell (i := j * 2 + 1) (by omega), (uc_at _ _ j).2]
  obtain ⟨x0, x1⟩ := get2 bx
  have HOTF : Hid (OT (w.heap.size + 1 + 1) zb (W.drew.setCell ⟨gb, j * 2 + 1, none⟩ (.int .i64 y)) bt bl c1 c2 c kn p (upd2 m q j y) A C Z X) := hs1 y
  have ms : Mod (fun x => x = gb) W.drew (W.drew.setCell ⟨gb, j * 2 + 1, none⟩ (.int .i64 y)) := Mod.setCell (X := fun x => x = gb) _ (p := ⟨gb, j * 2 + 1, none⟩) rfl _
  have HB' : Hid (Blw w (W.drew.setCell ⟨gb, j * 2 + 1, none⟩ (.int .i64 y))) := Mod.blw HB.out ms (fun i hi => by omega)
  have HR' : Hid (Row (W.drew.setCell ⟨gb, j * 2 + 1, none⟩ (.int .i64 y)) (w.heap.size + 1) 2 (fun i => if i = 0 then .slice none 0 0 else .slice none 0 0)) := HR.out.mod ms (by omega)
  clear hs1 hs2 hr8 ms bx HOT HB HR ea hlo
  have hwt : IntKind.i64.wrap ((t : Nat) : Int) = t := by rw [IntKind.wrap_i64]; omega
  have hwj : IntKind.i64.wrap ((j : Nat) : Int) = j := by rw [IntKind.wrap_i64]; omega
  have hS0 := And.intro x0 (And.intro x1 (And.intro tp ls))
  refine wp_region_noPanic ?_
  refine wp_region_held_drew (S := fun (w' : World) => w'.cell? ⟨zb, 0, none⟩ = some (.slice (some ⟨bt, 0, none⟩) 4 c1) ∧ w'.cell? ⟨zb, 1, none⟩ = some (.slice (some ⟨bl, 0, none⟩) kn c2) ∧ w'.cell? ⟨bt, t, none⟩ = some (.int .i64 q) ∧ w'.cell? ⟨bl, q, none⟩ = some (.slice (some ⟨gb, 0, none⟩) 4 (C q))) (by kernel_rfl) hS0 (fun hB => ?_)
  clear hB
  generalize W.drew = wd at *
  refine wpAnyH_take (i := 0) (oi := { dst := some 32, op := Op.fieldAddr 26 (Operand.tmp 8) 1, type := 0, pos := _, after := #[], guard := none }) (v := (.pointer (some ⟨zb, 1, none⟩))) rfl (by kernel_rfl) (by kernel_rfl) (by kernel_rfl) (fun _ _ _ h => h) (Or.inl ⟨by rfl, fun w' hS => by (try dsimp only at hS); go_simp⟩) hS0 ?_
  simp only [Act.put, List.setIfInBounds_toArray, List.set_cons_zero, List.set_cons_succ]
  refine wpAnyH_take (i := 2) (oi := { dst := some 34, op := Op.fieldAddr 26 (Operand.tmp 8) 0, type := 0, pos := _, after := #[], guard := none }) (v := (.pointer (some ⟨zb, 0, none⟩))) rfl (by kernel_rfl) (by kernel_rfl) (by kernel_rfl) (fun _ _ _ h => h) (Or.inl ⟨by rfl, fun w' hS => by (try dsimp only at hS); go_simp⟩) hS0 ?_
  simp only [Act.put, List.setIfInBounds_toArray, List.set_cons_zero, List.set_cons_succ]
  refine wpAnyH_take (i := 4) (oi := { dst := some 36, op := Op.move (Operand.tmp 1), type := 3, pos := _, after := #[], guard := none }) (v := (.int .i64 x)) rfl (by kernel_rfl) (by kernel_rfl) (by kernel_rfl) (fun _ _ _ h => h) (Or.inl ⟨by rfl, fun w' hS => by (try dsimp only at hS); go_simp⟩) hS0 ?_
  simp only [Act.put, List.setIfInBounds_toArray, List.set_cons_zero, List.set_cons_succ]
  refine wpAnyH_take (i := 10) (oi := { dst := some 42, op := Op.move (Operand.tmp 1), type := 3, pos := _, after := #[], guard := none }) (v := (.int .i64 x)) rfl (by kernel_rfl) (by kernel_rfl) (by kernel_rfl) (fun _ _ _ h => h) (Or.inl ⟨by rfl, fun w' hS => by (try dsimp only at hS); go_simp⟩) hS0 ?_
  simp only [Act.put, List.setIfInBounds_toArray, List.set_cons_zero, List.set_cons_succ]
  refine wpAnyH_take (i := 12) (oi := { dst := some 44, op := Op.move (Operand.tmp 2), type := 3, pos := _, after := #[], guard := none }) (v := (.int .i64 y)) rfl (by kernel_rfl) (by kernel_rfl) (by kernel_rfl) (fun _ _ _ h => h) (Or.inl ⟨by rfl, fun w' hS => by (try dsimp only at hS); go_simp⟩) hS0 ?_
  simp only [Act.put, List.setIfInBounds_toArray, List.set_cons_zero, List.set_cons_succ]
  refine wpAnyH_take (i := 1) (oi := { dst := some 33, op := Op.load 24 (Operand.tmp 32), type := 24, pos := _, after := #[{ on := 0, ground := Ground.data }], guard := none }) (v := (.slice (some ⟨bl, 0, none⟩) kn c2)) rfl (by kernel_rfl) (by kernel_rfl) (by kernel_rfl) (fun _ _ _ h => h) (Or.inl ⟨by rfl, fun w' hS => by (try dsimp only at hS); go_simp⟩) hS0 ?_
  simp only [Act.put, List.setIfInBounds_toArray, List.set_cons_zero, List.set_cons_succ]
  refine wpAnyH_take (i := 3) (oi := { dst := some 35, op := Op.load 23 (Operand.tmp 34), type := 23, pos := _, after := #[{ on := 2, ground := Ground.data }], guard := none }) (v := (.slice (some ⟨bt, 0, none⟩) 4 c1)) rfl (by kernel_rfl) (by kernel_rfl) (by kernel_rfl) (fun _ _ _ h => h) (Or.inl ⟨by rfl, fun w' hS => by (try dsimp only at hS); go_simp⟩) hS0 ?_
  simp only [Act.put, List.setIfInBounds_toArray, List.set_cons_zero, List.set_cons_succ]
  refine wpAnyH_take (i := 5) (oi := { dst := some 37, op := Op.binOp BinOp.quo 3 (Operand.tmp 36) (Operand.const (Value.int IntKind.i64 4)) 3, type := 3, pos := _, after := #[{ on := 4, ground := Ground.data }], guard := none }) (v := (.int .i64 t)) rfl (by kernel_rfl) (by kernel_rfl) (by kernel_rfl) (fun _ _ _ h => h) (Or.inl ⟨by rfl, fun w' hS => by (try dsimp only at hS); go_simp⟩) hS0 ?_
  simp only [Act.put, List.setIfInBounds_toArray, List.set_cons_zero, List.set_cons_succ]
  refine wpAnyH_take (i := 11) (oi := { dst := some 43, op := Op.binOp BinOp.rem 3 (Operand.tmp 42) (Operand.const (Value.int IntKind.i64 4)) 3, type := 3, pos := _, after := #[{ on := 10, ground := Ground.data }], guard := none }) (v := (.int .i64 j)) rfl (by kernel_rfl) (by kernel_rfl) (by kernel_rfl) (fun _ _ _ h => h) (Or.inl ⟨by rfl, fun w' hS => by (try dsimp only at hS); go_simp⟩) hS0 ?_
  simp only [Act.put, List.setIfInBounds_toArray, List.set_cons_zero, List.set_cons_succ]
  refine wpAnyH_take (i := 6) (oi := { dst := some 38, op := Op.indexAddr 23 (Operand.tmp 35) (Operand.tmp 37), type := 0, pos := _, after := #[{ on := 3, ground := Ground.data }, { on := 5, ground := Ground.data }], guard := none }) (v := (.pointer (some ⟨bt, t, none⟩))) rfl (by kernel_rfl) (by kernel_rfl) (by kernel_rfl) (fun _ _ _ h => h) (Or.inl ⟨by rfl, fun w' hS => by (try dsimp only at hS); go_simp⟩) hS0 ?_
  simp only [Act.put, List.setIfInBounds_toArray, List.set_cons_zero, List.set_cons_succ]
  refine wpAnyH_take (i := 7) (oi := { dst := some 39, op := Op.load 3 (Operand.tmp 38), type := 3, pos := _, after := #[{ on := 6, ground := Ground.data }], guard := none }) (v := (.int .i64 q)) rfl (by kernel_rfl) (by kernel_rfl) (by kernel_rfl) (fun _ _ _ h => h) (Or.inl ⟨by rfl, fun w' hS => by (try dsimp only at hS); go_simp⟩) hS0 ?_
  simp only [Act.put, List.setIfInBounds_toArray, List.set_cons_zero, List.set_cons_succ]
  refine wpAnyH_take (i := 8) (oi := { dst := some 40, op := Op.indexAddr 24 (Operand.tmp 33) (Operand.tmp 39), type := 0, pos := _, after := #[{ on := 1, ground := Ground.data }, { on := 7, ground := Ground.data }], guard := none }) (v := (.pointer (some ⟨bl, q, none⟩))) rfl (by kernel_rfl) (by kernel_rfl) (by kernel_rfl) (fun _ _ _ h => h) (Or.inl ⟨by rfl, fun w' hS => by (try dsimp only at hS); go_simp⟩) hS0 ?_
  simp only [Act.put, List.setIfInBounds_toArray, List.set_cons_zero, List.set_cons_succ]
  refine wpAnyH_take (i := 9) (oi := { dst := some 41, op := Op.load 83 (Operand.tmp 40), type := 83, pos := _, after := #[{ on := 8, ground := Ground.data }], guard := none }) (v := (.slice (some ⟨gb, 0, none⟩) 4 (C q))) rfl (by kernel_rfl) (by kernel_rfl) (by kernel_rfl) (fun _ _ _ h => h) (Or.inl ⟨by rfl, fun w' hS => by (try dsimp only at hS); go_simp⟩) hS0 ?_
  simp only [Act.put, List.setIfInBounds_toArray, List.set_cons_zero, List.set_cons_succ]
  refine wpAnyH_take (i := 13) (oi := { dst := some 45, op := Op.indexAddr 83 (Operand.tmp 41) (Operand.tmp 43), type := 0, pos := _, after := #[{ on := 9, ground := Ground.data }, { on := 11, ground := Ground.data }, { on := 0, ground := Ground.phase }, { on := 1, ground := Ground.phase }, { on := 2, ground := Ground.phase }, { on := 3, ground := Ground.phase }, { on := 4, ground := Ground.phase }, { on := 5, ground := Ground.phase }, { on := 6, ground := Ground.phase }, { on := 7, ground := Ground.phase }, { on := 8, ground := Ground.phase }, { on := 9, ground := Ground.phase }, { on := 10, ground := Ground.phase }, { on := 11, ground := Ground.phase }, { on := 12, ground := Ground.phase }], guard := none }) (v := (.pointer (some ⟨gb, j * 2, none⟩))) rfl (by kernel_rfl) (by kernel_rfl) (by kernel_rfl) (fun _ _ _ h => h) (Or.inl ⟨by rfl, fun w' hS => by (try dsimp only at hS); go_simp⟩) hS0 ?_
  simp only [Act.put, List.setIfInBounds_toArray, List.set_cons_zero, List.set_cons_succ]
  refine wpAnyH_take (i := 14) (oi := { dst := some 46, op := Op.fieldAddr 78 (Operand.tmp 45) 1, type := 0, pos := _, after := #[{ on := 13, ground := Ground.data }, { on := 0, ground := Ground.phase }, { on := 1, ground := Ground.phase }, { on := 2, ground := Ground.phase }, { on := 3, ground := Ground.phase }, { on := 4, ground := Ground.phase }, { on := 5, ground := Ground.phase }, { on := 6, ground := Ground.phase }, { on := 7, ground := Ground.phase }, { on := 8, ground := Ground.phase }, { on := 9, ground := Ground.phase }, { on := 10, ground := Ground.phase }, { on := 11, ground := Ground.phase }, { on := 12, ground := Ground.phase }], guard := none }) (v := (.pointer (some ⟨gb, j * 2 + 1, none⟩))) rfl (by kernel_rfl) (by kernel_rfl) (by kernel_rfl) (fun _ _ _ h => h) (Or.inl ⟨by rfl, fun w' hS => by (try dsimp only at hS); go_simp⟩) hS0 ?_
  simp only [Act.put, List.setIfInBounds_toArray, List.set_cons_zero, List.set_cons_succ]
  refine wpAnyH_ready (rs := [15]) (by kernel_rfl) (by simp) ?_
  refine AllReadyH.cons (o := { dst := none, op := Op.store 3 (Operand.tmp 46) (Operand.tmp 44), type := 0, pos := _, after := #[{ on := 14, ground := Ground.data }, { on := 12, ground := Ground.data }, { on := 0, ground := Ground.phase }, { on := 1, ground := Ground.phase }, { on := 2, ground := Ground.phase }, { on := 3, ground := Ground.phase }, { on := 4, ground := Ground.phase }, { on := 5, ground := Ground.phase }, { on := 6, ground := Ground.phase }, { on := 7, ground := Ground.phase }, { on := 8, ground := Ground.phase }, { on := 9, ground := Ground.phase }, { on := 10, ground := Ground.phase }, { on := 11, ground := Ground.phase }, { on := 12, ground := Ground.phase }], guard := none }) rfl (fun K hK => ?_) AllReadyH.nil
  go_simp
  have mS : Mod (fun x => x = gb) wd (wd.setCell ⟨gb, j * 2 + 1, none⟩ (.int .i64 y)) := Mod.setCell (X := fun x => x = gb) _ (p := ⟨gb, j * 2 + 1, none⟩) rfl _
  have hSt := And.intro (mS.cell x0 (fun e => n1 e.symm)) (And.intro (mS.cell x1 (fun e => n1 e.symm)) (And.intro (mS.cell tp (fun e => n2 e.symm)) (mS.cell ls (fun e => n3 e.symm))))
  clear mS
  refine hK.out _ _ hSt (fun hB => ?_)
  clear hK K hB
  try simp only [Act.put, List.setIfInBounds_toArray, List.set_cons_zero, List.set_cons_succ]
  refine wpAnyH_done (by kernel_rfl) ?_ _
  refine NoPanic.normal ?_
  clear hSt hS0 x0 x1 tp ls f1 l1
  replace HB : Hid (Blw w (wd.setCell ⟨gb, j * 2 + 1, none⟩ (.int .i64 y))) := HB'.out
  replace HR : Hid (Row (wd.setCell ⟨gb, j * 2 + 1, none⟩ (.int .i64 y)) (w.heap.size + 1) 2 (fun i => if i = 0 then .slice none 0 0 else .slice none 0 0)) := HR'.out
  clear HB' HR'
  generalize wd.setCell ⟨gb, j * 2 + 1, none⟩ (.int .i64 y) = WF at *
  have hzr := HR.out.lt
  have hzb := HOTF.out.nb.2.2
  have FIN : Hid _ := fin_givesT (out := chOut ⟨4, c, ⟨kn, len, p, m⟩⟩ (x : Int) (fun _ oy => ¬ oy = 0 ∧ mayOK y) (fun o => o) y) (w := w) (W := WF) (z := w.heap.size + 1) (b := ⟨some ⟨bt, 0, none⟩, some ⟨bl, 0, none⟩, c1, c2⟩) (R := ⟨4, c, ⟨kn, fun _ => 4, p, upd2 m q j y⟩⟩) (by omega) HOUT.out (tot4 (c := c) hk4) HB.out (HOTF.out.own hk4) (fun x hx => ⟨by omega, by omega, hx.2⟩)
  obtain ⟨t0, t1⟩ := get2 HR.out
  obtain ⟨s0, s1⟩ := get2 HOTF.out.box
  have f0 := HR.out.frozen 0
  have f1 := HR.out.frozen 1
  clear HR HB HOTF HOUT hzr hzb
  go_wp2
  exact bodyPost_ret (v := .tuple #[(BV.mk (some ⟨bt, 0, none⟩) (some ⟨bl, 0, none⟩) c1 c2).val ⟨4, c, ⟨kn, fun _ => 4, p, upd2 m q j y⟩⟩, .bool true]) (by simp [results, Try.results21, go_sem, t0, t1]) rfl FIN.out
end Go.Proofs.Ytcfdagmcnaepgaa
/- MapPage: the model's. -/
namespace Go.Proofs.Ytcfdagmcnaepgaa
open Go.RowKit
set_option linter.unusedSimpArgs false
set_option linter.unusedVariables false
theorem has_step {c : Nat → Int} {k : Nat} (h : ∀ k', k' < k → hasLine 4 c (k' : Int)) (h1 : hasLine 4 c (k : Int)) : ∀ k', k' < k + 1 → hasLine 4 c (k' : Int) := fun k' hk => by
  by_cases e : k' = k
  · subst e; exact h1
  · exact h k' (by omega)
set_option maxRecDepth 10000 in
set_option maxHeartbeats 6400000 in
theorem specMap_any (b : BV) (B : BD) (a g y : Int) (Y : Nat → Prop) (w : World) (hn : B.n ≤ 1048576) (h : BookAt Y w b B) :
    Calls Try.prog 10 #[b.val B, .int .i64 a, .int .i64 g, .int .i64 y] w (GivesB (chOut B a (fun _ oy => oy = 0 ∧ pgOK g ∧ mayOK y) (fun _ => g) y) w) := by
  have hA1 : Blw w (w.alloc (.cells #[.slice b.a1 B.n b.c1, .slice b.a2 B.D.n b.c2] 26)) := (Blw.refl _).alloc _
  have hA2 : Blw (w.alloc (.cells #[.slice b.a1 B.n b.c1, .slice b.a2 B.D.n b.c2] 26)) ((w.alloc (.cells #[.slice b.a1 B.n b.c1, .slice b.a2 B.D.n b.c2] 26)).alloc (.cells #[.slice none 0 0, .slice none 0 0] 26)) := (Blw.refl _).alloc _
  have HB : Hid (Blw w ((w.alloc (.cells #[.slice b.a1 B.n b.c1, .slice b.a2 B.D.n b.c2] 26)).alloc (.cells #[.slice none 0 0, .slice none 0 0] 26))) := hA1.trans hA2
  have rR := box2 (w.alloc (.cells #[.slice b.a1 B.n b.c1, .slice b.a2 B.D.n b.c2] 26)) (.slice none 0 0) (.slice none 0 0) 26
  rw [World.size_alloc] at rR
  have HR : Hid (Row ((w.alloc (.cells #[.slice b.a1 B.n b.c1, .slice b.a2 B.D.n b.c2] 26)).alloc (.cells #[.slice none 0 0, .slice none 0 0] 26)) (w.heap.size + 1) 2 (fun i => if i = 0 then .slice none 0 0 else .slice none 0 0)) := rR
  have HA : Hid (BookAt Y ((w.alloc (.cells #[.slice b.a1 B.n b.c1, .slice b.a2 B.D.n b.c2] 26)).alloc (.cells #[.slice none 0 0, .slice none 0 0] 26)) b B) := h.blw (hA1.trans hA2)
  have HA0 : Hid (Row ((w.alloc (.cells #[.slice b.a1 B.n b.c1, .slice b.a2 B.D.n b.c2] 26)).alloc (.cells #[.slice none 0 0, .slice none 0 0] 26)) w.heap.size 2 (fun i => if i = 0 then .slice b.a1 B.n b.c1 else .slice b.a2 B.D.n b.c2)) := (box2 w _ _ 26).blw hA2
  have HSZ : Hid (w.heap.size + 1 + 1 = ((w.alloc (.cells #[.slice b.a1 B.n b.c1, .slice b.a2 B.D.n b.c2] 26)).alloc (.cells #[.slice none 0 0, .slice none 0 0] 26)).heap.size) := by show _ = _; simp
  clear hA1 hA2 rR h
  go_enter Try.func10, Try.ntmps10
  obtain ⟨p0, p1⟩ := get2 HA0.out
  go_wp2_with fail
  clear p0 p1
  generalize ((w.alloc (.cells #[.slice b.a1 B.n b.c1, .slice b.a2 B.D.n b.c2] 26)).alloc (.cells #[.slice none 0 0, .slice none 0 0] 26)) = w0 at *
  refine (specGood_any b B Y _ hn HA.out).mono ?_
  rintro e w1 ⟨r, rfl, hr, hb1⟩
  have HT : Hid (r = true ↔ B.Good) := hr
  replace HSZ : Hid (w.heap.size + 1 + 1 ≤ w1.heap.size) := by have := HSZ.out; have := hb1.size; show _ ≤ _; omega
  replace HB : Hid (Blw w w1) := HB.out.trans hb1
  replace HR : Hid (Row w1 (w.heap.size + 1) 2 (fun i => if i = 0 then .slice none 0 0 else .slice none 0 0)) := HR.out.blw hb1
  replace HA0 : Hid (Row w1 w.heap.size 2 (fun i => if i = 0 then .slice b.a1 B.n b.c1 else .slice b.a2 B.D.n b.c2)) := HA0.out.blw hb1
  replace HA : Hid (BookAt Y w1 b B) := HA.out.blw hb1
  clear hr hb1
  cases r
  · have HN : Hid (¬ B.Good) := fun g => by have := HT.out.2 g; simp at this
    clear HT
    obtain ⟨t0, t1⟩ := get2 HR.out
    have f0 := HR.out.frozen 0
    have f1 := HR.out.frozen 1
    clear HR HA0
    go_wp2
    exact bodyPost_ret (v := .tuple #[BV.zero.val BD.zero, .bool false]) (by simp [results, Try.results10, go_sem, t0, t1]) rfl (zero_givesT (z := w.heap.size + 1) (by omega) (Or.inr ⟨fun q => HN.out q.1, rfl, rfl⟩) HB.out)
  have HG : Hid (B.Good) := HT.out.1 (by first | rfl | trivial)
  clear HT
  go_wp2_with fail
  refine (l6At_any a _).mono ?_
  rintro e w1 ⟨r, rfl, hr, rfl⟩
  have HT : Hid (r = true ↔ pgOK a) := hr
  clear hr
  cases r
  · have HN : Hid (¬ pgOK a) := fun g => by have := HT.out.2 g; simp at this
    clear HT
    obtain ⟨t0, t1⟩ := get2 HR.out
    have f0 := HR.out.frozen 0
    have f1 := HR.out.frozen 1
    clear HR HA0
    go_wp2
    exact bodyPost_ret (v := .tuple #[BV.zero.val BD.zero, .bool false]) (by simp [results, Try.results10, go_sem, t0, t1]) rfl (zero_givesT (z := w.heap.size + 1) (by omega) (Or.inr ⟨fun q => HN.out q.2.1, rfl, rfl⟩) HB.out)
  have H1 : Hid (pgOK a) := HT.out.1 (by first | rfl | trivial)
  clear HT
  go_wp2_with fail
  refine (l1In_any g 0 15 _).mono ?_
  rintro e w1 ⟨r, rfl, hr, rfl⟩
  have HT : Hid (r = true ↔ (0 ≤ g ∧ g ≤ 15)) := hr
  clear hr
  cases r
  · have HN : Hid (¬ (0 ≤ g ∧ g ≤ 15)) := fun g => by have := HT.out.2 g; simp at this
    clear HT
    obtain ⟨t0, t1⟩ := get2 HR.out
    have f0 := HR.out.frozen 0
    have f1 := HR.out.frozen 1
    clear HR HA0
    go_wp2
    exact bodyPost_ret (v := .tuple #[BV.zero.val BD.zero, .bool false]) (by simp [results, Try.results10, go_sem, t0, t1]) rfl (zero_givesT (z := w.heap.size + 1) (by omega) (Or.inr ⟨fun q => HN.out q.2.2.1.2.1, rfl, rfl⟩) HB.out)
  have H2 : Hid (pgOK g) := HT.out.1 (by first | rfl | trivial)
  clear HT
  go_wp2_with fail
  refine (l1In_any y 1 3 _).mono ?_
  rintro e w1 ⟨r, rfl, hr, rfl⟩
  have HT : Hid (r = true ↔ (1 ≤ y ∧ y ≤ 3)) := hr
  clear hr
  cases r
  · have HN : Hid (¬ (1 ≤ y ∧ y ≤ 3)) := fun g => by have := HT.out.2 g; simp at this
    clear HT
    obtain ⟨t0, t1⟩ := get2 HR.out
    have f0 := HR.out.frozen 0
    have f1 := HR.out.frozen 1
    clear HR HA0
    go_wp2
    exact bodyPost_ret (v := .tuple #[BV.zero.val BD.zero, .bool false]) (by simp [results, Try.results10, go_sem, t0, t1]) rfl (zero_givesT (z := w.heap.size + 1) (by omega) (Or.inr ⟨fun q => HN.out q.2.2.1.2.2, rfl, rfl⟩) HB.out)
  have H3 : Hid (mayOK y) := HT.out.1 (by first | rfl | trivial)
  clear HT
  obtain ⟨n, c, ⟨kn, len, p, m⟩⟩ := B
  obtain ⟨a1, a2, q1, q2⟩ := b
  have hn4 : n = 4 := HG.out.n
  subst hn4
  have hk4 : kn ≤ 4 := HG.out.k.2
  have hk1 : 0 < kn := HG.out.k.1
  simp only [BV.val] at *
  obtain ⟨x, hx, hx16⟩ : ∃ x : Nat, a = x ∧ x < 16 := ⟨a.toNat, by have := H1.out; unfold pgOK at this; omega, by have := H1.out; unfold pgOK at this; omega⟩
  subst hx
  have HN0 : Hid (0 ≤ lfP c m x) := lf_nonneg HG.out hx16
  obtain ⟨p0, p1⟩ := get2 HA0.out
  have hfm := fieldMay (lfP c p x) (lfP c m x)
  go_wp2_with fail
  clear p0 p1
  refine (l6Find_any ⟨a1, a2, q1, q2⟩ c kn len p m x Y _ HG.out hx16 HA.out).mono ?_
  rintro e w2 ⟨rfl, hb2⟩
  replace HB : Hid (Blw w w2) := HB.out.trans hb2
  replace HSZ : Hid (w.heap.size + 1 + 1 ≤ w2.heap.size) := by have := HSZ.out; have := hb2.size; show _ ≤ _; omega
  replace HR : Hid (Row w2 (w.heap.size + 1) 2 (fun i => if i = 0 then .slice none 0 0 else .slice none 0 0)) := HR.out.blw hb2
  replace HA0 : Hid (Row w2 w.heap.size 2 (fun i => if i = 0 then .slice a1 4 q1 else .slice a2 kn q2)) := HA0.out.blw hb2
  replace HA : Hid (BookAt Y w2 ⟨a1, a2, q1, q2⟩ ⟨4, c, ⟨kn, len, p, m⟩⟩) := HA.out.blw hb2
  clear hb2
  by_cases h0 : 0 < lfP c m x
  · have HN : Hid (0 < lfP c m x) := h0
    have d1 : decide (lfP c m x > 0) = true := by simp; omega
    clear h0
    obtain ⟨t0, t1⟩ := get2 HR.out
    have f0 := HR.out.frozen 0
    have f1 := HR.out.frozen 1
    clear HR HA0
    go_wp2
    exact bodyPost_ret (v := .tuple #[BV.zero.val BD.zero, .bool false]) (by simp [results, Try.results10, go_sem, t0, t1]) rfl (zero_givesT (z := w.heap.size + 1) (by omega) (Or.inr ⟨fun q => by have h1 := q.2.2.1.1; rw [Int.toNat_natCast] at h1; have h2 := HN.out; have h3 : lfP c m x = 0 := h1; omega, rfl, rfl⟩) HB.out)
  have HN : Hid (lfP c m x = 0) := by have := HN0.out; show _ = _; omega
  have d1 : decide (lfP c m x > 0) = false := by simp; omega
  clear h0
  obtain ⟨p0, p1⟩ := get2 HA0.out
  go_wp2_with fail
  clear p0 p1 hfm
  refine (l6Own_any ⟨a1, a2, q1, q2⟩ c kn len p m Y _ hk4 (fun i hi => (HG.out.leaf i hi).1) HA.out).mono ?_
  rintro e w3 ⟨b3, rfl, own, hb3⟩
  have hs3 := HSZ.out
  have hs4 := hb3.size
  obtain ⟨bt, bl, c1, c2, A, C, Z, X, rfl, hOT⟩ := OT.make (lo := w.heap.size + 1 + 1) hk1 (own.mono (fun x hx => ⟨by omega, hx.2⟩)) (by omega)
  have hA3 : Blw w3 (w3.alloc (.cells #[.slice (some ⟨bt, 0, none⟩) 4 c1, .slice (some ⟨bl, 0, none⟩) kn c2] 26)) := (Blw.refl _).alloc _
  have HOT : Hid (OT (w.heap.size + 1 + 1) w3.heap.size (w3.alloc (.cells #[.slice (some ⟨bt, 0, none⟩) 4 c1, .slice (some ⟨bl, 0, none⟩) kn c2] 26)) bt bl c1 c2 c kn p m A C Z X) := hOT
  replace HB : Hid (Blw w (w3.alloc (.cells #[.slice (some ⟨bt, 0, none⟩) 4 c1, .slice (some ⟨bl, 0, none⟩) kn c2] 26))) := HB.out.trans (hb3.trans hA3)
  replace HR : Hid (Row (w3.alloc (.cells #[.slice (some ⟨bt, 0, none⟩) 4 c1, .slice (some ⟨bl, 0, none⟩) kn c2] 26)) (w.heap.size + 1) 2 (fun i => if i = 0 then .slice none 0 0 else .slice none 0 0)) := HR.out.blw (hb3.trans hA3)
  have hd : Int.tdiv (x : Int) 4 = ((x / 4 : Nat) : Int) := by rw [Int.tdiv_eq_ediv_of_nonneg (by omega)]; rfl
  have hr : Int.tmod (x : Int) 4 = ((x % 4 : Nat) : Int) := by rw [Int.tmod_eq_emod_of_nonneg (by omega)]; rfl
  have hd4 : x / 4 < 4 := by omega
  have hr4 : x % 4 < 4 := by omega
  have hd4' : ((x / 4 : Nat) : Int) < 4 := by omega
  have hr4' : ((x % 4 : Nat) : Int) < 4 := by omega
  have htop := HG.out.top (x / 4) hd4
  dsimp only at htop
  clear own hb3 hA3 hs3 hs4 hOT HA HA0
  have HOUT : Hid (∀ q, goes c kn (x / 4) q → chOut ⟨4, c, ⟨kn, len, p, m⟩⟩ (x : Int) (fun _ oy => oy = 0 ∧ pgOK g ∧ mayOK y) (fun _ => g) y ⟨4, upd c (x / 4) q, ⟨kn, fun _ => 4, upd2 p q (x % 4) g, upd2 m q (x % 4) y⟩⟩ true) := by
    intro q hq
    refine Or.inl ⟨⟨HG.out, H1.out, by rw [Int.toNat_natCast]; exact ⟨HN.out, H2.out, H3.out⟩, q, by rw [Int.toNat_natCast]; exact hq⟩, ⟨q, by rw [Int.toNat_natCast]; exact hq, ?_⟩, rfl⟩
    rw [Int.toNat_natCast]
    unfold chB
    dsimp only
    rw [topsOf_no (nz8 hr4 H3.out (upd2_at _ _ _ _))]
  have HNO : Hid (¬ (∃ q, goes c kn (x / 4) q) → ¬ chOK ⟨4, c, ⟨kn, len, p, m⟩⟩ (x : Int) (fun _ oy => oy = 0 ∧ pgOK g ∧ mayOK y)) := fun hno q => hno (by have h1 := q.2.2.2; rw [Int.toNat_natCast] at h1; exact h1)
  clear HN HN0 H2
  go_upto_region 4 with fail
  generalize w3.alloc (.cells #[.slice (some ⟨bt, 0, none⟩) 4 c1, .slice (some ⟨bl, 0, none⟩) kn c2] 26) = W at *
  generalize w3.heap.size = zb at *
  generalize x / 4 = t at *
  generalize x % 4 = j at *
  go_wp2_with fail
  go_loopw [12] (fun i wr => ∃ k : Nat, k ≤ kn ∧ i = .int .i64 k ∧ ∃ c', OT (w.heap.size + 1 + 1) zb wr bt bl c1 c2 c' kn p m A C Z X ∧ ((c' = c ∧ c t = -1 ∧ ∀ k', k' < k → hasLine 4 c (k' : Int)) ∨ ∃ q : Nat, q < kn ∧ goes c kn t q ∧ c' = upd c t q) ∧ Blw w wr ∧ Row wr (w.heap.size + 1) 2 (fun i => if i = 0 then .slice none 0 0 else .slice none 0 0)) (fun i _ => kn - (intOf i).toNat)
  case atStart =>
    refine ⟨0, Nat.zero_le _, rfl, c, HOT.out, ?_, HB.out, HR.out⟩
    by_cases h0 : 0 ≤ c t
    · obtain ⟨q, hq⟩ : ∃ q : Nat, c t = q := ⟨(c t).toNat, by omega⟩
      exact Or.inr ⟨q, by omega, Or.inl hq, (upd_self hq).symm⟩
    · exact Or.inl ⟨rfl, by omega, fun k' hk' => absurd hk' (Nat.not_lt_zero _)⟩
  case round =>
    clear HOT HB HR
    obtain ⟨k, hk, rfl, c', hot, hst, hb, hrr⟩ := hrel
    have HOT : Hid (OT (w.heap.size + 1 + 1) zb wr bt bl c1 c2 c' kn p m A C Z X) := hot
    have HB : Hid (Blw w wr) := hb
    have HR : Hid (Row wr (w.heap.size + 1) 2 (fun i => if i = 0 then .slice none 0 0 else .slice none 0 0)) := hrr
    clear hot hb hrr
    have x0 := (get2 HOT.out.box).1
    have x1 := (get2 HOT.out.box).2
    have tp := HOT.out.top.cell hd4
    rcases hst with ⟨rfl, hc, hall⟩ | ⟨q, hqk, hgo, rfl⟩
    · have HALL : Hid (∀ k', k' < k → hasLine 4 c' (k' : Int)) := hall
      have HC : Hid (c' t = -1) := hc
      rw [hc] at tp
      clear hc hall
      by_cases hlt : k < kn
      · have hlt' : (k : Int) < (kn : Int) := by omega
        go_wp2_with fail
        refine (l1Has_any (some ⟨bt, 0, none⟩) c1 4 c' _ _ (k : Int) HOT.out.topAt).mono ?_
        rintro e wr ⟨r, rfl, hr5, rfl⟩
        have HT : Hid (r = true ↔ hasLine 4 c' (k : Int)) := hr5
        clear hr5
        cases r
        · have HGO : Hid (goes c' kn t k) := Or.inr ⟨HC.out, hlt, fun g => by have := HT.out.2 g; simp at this, HALL.out⟩
          have f0 := HOT.out.top.frozen t
          have ms : Mod (fun x => x = bt) wr (wr.setCell ⟨bt, t, none⟩ (.int .i64 k)) := Mod.setCell (X := fun x => x = bt) _ (p := ⟨bt, t, none⟩) rfl _
          have hb := HOT.out.nb
          replace HOT : Hid (OT (w.heap.size + 1 + 1) zb (wr.setCell ⟨bt, t, none⟩ (.int .i64 k)) bt bl c1 c2 (upd c' t k) kn p m A C Z X) := HOT.out.setTop t k
          replace HB : Hid (Blw w (wr.setCell ⟨bt, t, none⟩ (.int .i64 k))) := Mod.blw HB.out ms (fun i hi => by omega)
          replace HR : Hid (Row (wr.setCell ⟨bt, t, none⟩ (.int .i64 k)) (w.heap.size + 1) 2 (fun i => if i = 0 then .slice none 0 0 else .slice none 0 0)) := HR.out.mod ms (by omega)
          clear ms hb HT HALL HC
          go_wp2
          go_roundw
          case rel => exact ⟨k + 1, by omega, by go_num, upd c' t k, HOT.out, Or.inr ⟨k, hlt, HGO.out, rfl⟩, HB.out, HR.out⟩
          case measure => simp [intOf]; omega
        · have HN : Hid (∀ k', k' < k + 1 → hasLine 4 c' (k' : Int)) := has_step HALL.out (HT.out.1 (by first | rfl | trivial))
          clear HT HALL
          go_wp2
          go_roundw
          case rel => exact ⟨k + 1, by omega, by go_num, c', HOT.out, Or.inl ⟨rfl, HC.out, HN.out⟩, HB.out, HR.out⟩
          case measure => simp [intOf]; omega
      · obtain rfl : k = kn := by omega
        have HNN : Hid (¬ chOK ⟨4, c', ⟨k, len, p, m⟩⟩ (x : Int) (fun _ oy => oy = 0 ∧ pgOK g ∧ mayOK y)) := HNO.out (show ¬ ∃ q, goes c' k t q from fun ⟨q, g⟩ => by
          rcases g with g | ⟨-, g1, g2, -⟩
          · have := HC.out; omega
          · exact g2 (HALL.out q g1))
        obtain ⟨t0, t1⟩ := get2 HR.out
        have f0 := HR.out.frozen 0
        have f1 := HR.out.frozen 1
        clear HR HALL HC HOT HOUT HNO
        go_wp2
        exact bodyPost_ret (v := .tuple #[BV.zero.val BD.zero, .bool false]) (by simp [results, Try.results10, go_sem, t0, t1]) rfl (zero_givesT (z := w.heap.size + 1) (by omega) (Or.inr ⟨HNN.out, rfl, rfl⟩) HB.out)
    · rw [upd_at] at tp
      have hqk' : (q : Int) < (kn : Int) := by omega
      have HGO : Hid (goes c kn t q) := hgo
      replace HOUT : Hid (chOut ⟨4, c, ⟨kn, len, p, m⟩⟩ (x : Int) (fun _ oy => oy = 0 ∧ pgOK g ∧ mayOK y) (fun _ => g) y ⟨4, upd c t q, ⟨kn, fun _ => 4, upd2 p q j g, upd2 m q j y⟩⟩ true) := HOUT.out q HGO.out
      clear hgo HNO
      have hk' : (k : Int) ≤ (kn : Int) := by omega
      by_cases hlt : k < kn
      · have hlt' : (k : Int) < (kn : Int) := by omega
        go_upto_region 12 with fail
        clear x0 x1 tp
        generalize wr = W at *
        replace HOT : Hid (OT (w.heap.size + 1 + 1) zb W.drew bt bl c1 c2 (upd c t q) kn p m A C Z X) := HOT.out.go (Blw.refl _).drew
        replace HB : Hid (Blw w W.drew) := HB.out.drew
        replace HR : Hid (Row W.drew (w.heap.size + 1) 2 (fun i => if i = 0 then .slice none 0 0 else .slice none 0 0)) := HR.out.blw (Blw.refl _).drew
        obtain ⟨gb, ea, n1, n2, n3, hlo, hr8, hs2, -⟩ := HOT.out.leaf hqk hr4
        have x0 := (get2 HOT.out.box).1
        have x1 := (get2 HOT.out.box).2
        have tp := HOT.out.top.cell hd4
        rw [upd_at] at tp
        have ls := HOT.out.ls.row.cell hqk
        dsimp only at ls
        rw [ea] at ls
        have f0 := hr8.frozen (j * 2)
        have f1 := hr8.frozen (j * 2 + 1)
        have l0 : W.drew.cell? ⟨gb, j * 2, none⟩ = some (.int .i64 (p q j)) := by rw [hr8.cell (i := j * 2) (by omega), (uc_at _ _ j).1]
        have l1 : W.drew.cell? ⟨gb, j * 2 + 1, none⟩ = some (.int .i64 (m q j)) := by rw [hr8.cell (i := j * 2 + 1) (by omega), (uc_at _ _ j).2]
        have HOTF : Hid (OT (w.heap.size + 1 + 1) zb ((W.drew.setCell ⟨gb, j * 2, none⟩ (.int .i64 g)).setCell ⟨gb, j * 2 + 1, none⟩ (.int .i64 y)) bt bl c1 c2 (upd c t q) kn (upd2 p q j g) (upd2 m q j y) A C Z X) := hs2 g y
        have ms : Mod (fun x => x = gb) W.drew ((W.drew.setCell ⟨gb, j * 2, none⟩ (.int .i64 g)).setCell ⟨gb, j * 2 + 1, none⟩ (.int .i64 y)) := (Mod.setCell (X := fun x => x = gb) _ (p := ⟨gb, j * 2, none⟩) rfl _).trans (Mod.setCell (X := fun x => x = gb) _ (p := ⟨gb, j * 2 + 1, none⟩) rfl _)
        have HB' : Hid (Blw w ((W.drew.setCell ⟨gb, j * 2, none⟩ (.int .i64 g)).setCell ⟨gb, j * 2 + 1, none⟩ (.int .i64 y))) := Mod.blw HB.out ms (fun i hi => by omega)
        have HR' : Hid (Row ((W.drew.setCell ⟨gb, j * 2, none⟩ (.int .i64 g)).setCell ⟨gb, j * 2 + 1, none⟩ (.int .i64 y)) (w.heap.size + 1) 2 (fun i => if i = 0 then .slice none 0 0 else .slice none 0 0)) := HR.out.mod ms (by omega)
        clear hs2 hr8 ms HOT HB HR ea hlo
        have hwt : IntKind.i64.wrap ((t : Nat) : Int) = t := by rw [IntKind.wrap_i64]; omega
        have hwj : IntKind.i64.wrap ((j : Nat) : Int) = j := by rw [IntKind.wrap_i64]; omega
        have hS0 := And.intro x0 (And.intro x1 (And.intro tp ls))
        refine wp_region_noPanic ?_
        refine wp_region_held_drew (S := fun (w' : World) => w'.cell? ⟨zb, 0, none⟩ = some (.slice (some ⟨bt, 0, none⟩) 4 c1) ∧ w'.cell? ⟨zb, 1, none⟩ = some (.slice (some ⟨bl, 0, none⟩) kn c2) ∧ w'.cell? ⟨bt, t, none⟩ = some (.int .i64 q) ∧ w'.cell? ⟨bl, q, none⟩ = some (.slice (some ⟨gb, 0, none⟩) 4 (C q))) (by kernel_rfl) hS0 (fun hB => ?_)
        clear hB
        generalize W.drew = wd at *
        refine wpAnyH_take (i := 0) (oi := { dst := some 75, op := Op.fieldAddr 26 (Operand.tmp 10) 1, type := 0, pos := _, after := #[], guard := none }) (v := (.pointer (some ⟨zb, 1, none⟩))) rfl (by kernel_rfl) (by kernel_rfl) (by kernel_rfl) (fun _ _ _ h => h) (Or.inl ⟨by rfl, fun w' hS => by (try dsimp only at hS); go_simp⟩) hS0 ?_
        simp only [Act.put, List.setIfInBounds_toArray, List.set_cons_zero, List.set_cons_succ]
        refine wpAnyH_take (i := 2) (oi := { dst := some 77, op := Op.fieldAddr 26 (Operand.tmp 10) 0, type := 0, pos := _, after := #[], guard := none }) (v := (.pointer (some ⟨zb, 0, none⟩))) rfl (by kernel_rfl) (by kernel_rfl) (by kernel_rfl) (fun _ _ _ h => h) (Or.inl ⟨by rfl, fun w' hS => by (try dsimp only at hS); go_simp⟩) hS0 ?_
        simp only [Act.put, List.setIfInBounds_toArray, List.set_cons_zero, List.set_cons_succ]
        refine wpAnyH_take (i := 4) (oi := { dst := some 79, op := Op.move (Operand.tmp 11), type := 3, pos := _, after := #[], guard := none }) (v := (.int .i64 t)) rfl (by kernel_rfl) (by kernel_rfl) (by kernel_rfl) (fun _ _ _ h => h) (Or.inl ⟨by rfl, fun w' hS => by (try dsimp only at hS); go_simp⟩) hS0 ?_
        simp only [Act.put, List.setIfInBounds_toArray, List.set_cons_zero, List.set_cons_succ]
        refine wpAnyH_take (i := 9) (oi := { dst := some 84, op := Op.move (Operand.tmp 1), type := 3, pos := _, after := #[], guard := none }) (v := (.int .i64 x)) rfl (by kernel_rfl) (by kernel_rfl) (by kernel_rfl) (fun _ _ _ h => h) (Or.inl ⟨by rfl, fun w' hS => by (try dsimp only at hS); go_simp⟩) hS0 ?_
        simp only [Act.put, List.setIfInBounds_toArray, List.set_cons_zero, List.set_cons_succ]
        refine wpAnyH_take (i := 11) (oi := { dst := some 86, op := Op.move (Operand.tmp 2), type := 3, pos := _, after := #[], guard := none }) (v := (.int .i64 g)) rfl (by kernel_rfl) (by kernel_rfl) (by kernel_rfl) (fun _ _ _ h => h) (Or.inl ⟨by rfl, fun w' hS => by (try dsimp only at hS); go_simp⟩) hS0 ?_
        simp only [Act.put, List.setIfInBounds_toArray, List.set_cons_zero, List.set_cons_succ]
        refine wpAnyH_take (i := 12) (oi := { dst := some 87, op := Op.move (Operand.tmp 3), type := 3, pos := _, after := #[], guard := none }) (v := (.int .i64 y)) rfl (by kernel_rfl) (by kernel_rfl) (by kernel_rfl) (fun _ _ _ h => h) (Or.inl ⟨by rfl, fun w' hS => by (try dsimp only at hS); go_simp⟩) hS0 ?_
        simp only [Act.put, List.setIfInBounds_toArray, List.set_cons_zero, List.set_cons_succ]
        refine wpAnyH_take (i := 1) (oi := { dst := some 76, op := Op.load 24 (Operand.tmp 75), type := 24, pos := _, after := #[{ on := 0, ground := Ground.data }], guard := none }) (v := (.slice (some ⟨bl, 0, none⟩) kn c2)) rfl (by kernel_rfl) (by kernel_rfl) (by kernel_rfl) (fun _ _ _ h => h) (Or.inl ⟨by rfl, fun w' hS => by (try dsimp only at hS); go_simp⟩) hS0 ?_
        simp only [Act.put, List.setIfInBounds_toArray, List.set_cons_zero, List.set_cons_succ]
        refine wpAnyH_take (i := 3) (oi := { dst := some 78, op := Op.load 23 (Operand.tmp 77), type := 23, pos := _, after := #[{ on := 2, ground := Ground.data }], guard := none }) (v := (.slice (some ⟨bt, 0, none⟩) 4 c1)) rfl (by kernel_rfl) (by kernel_rfl) (by kernel_rfl) (fun _ _ _ h => h) (Or.inl ⟨by rfl, fun w' hS => by (try dsimp only at hS); go_simp⟩) hS0 ?_
        simp only [Act.put, List.setIfInBounds_toArray, List.set_cons_zero, List.set_cons_succ]
        refine wpAnyH_take (i := 10) (oi := { dst := some 85, op := Op.binOp BinOp.rem 3 (Operand.tmp 84) (Operand.const (Value.int IntKind.i64 4)) 3, type := 3, pos := _, after := #[{ on := 9, ground := Ground.data }], guard := none }) (v := (.int .i64 j)) rfl (by kernel_rfl) (by kernel_rfl) (by kernel_rfl) (fun _ _ _ h => h) (Or.inl ⟨by rfl, fun w' hS => by (try dsimp only at hS); go_simp⟩) hS0 ?_
        simp only [Act.put, List.setIfInBounds_toArray, List.set_cons_zero, List.set_cons_succ]
        refine wpAnyH_take (i := 13) (oi := { dst := some 88, op := Op.build 78 #[(0, Operand.tmp 86), (1, Operand.tmp 87)], type := 78, pos := _, after := #[{ on := 11, ground := Ground.data }, { on := 12, ground := Ground.data }], guard := none }) (v := (.agg #[.int .i64 g, .int .i64 y])) rfl (by kernel_rfl) (by kernel_rfl) (by kernel_rfl) (fun _ _ _ h => h) (Or.inl ⟨by rfl, fun w' hS => by (try dsimp only at hS); go_simp⟩) hS0 ?_
        simp only [Act.put, List.setIfInBounds_toArray, List.set_cons_zero, List.set_cons_succ]
        refine wpAnyH_take (i := 5) (oi := { dst := some 80, op := Op.indexAddr 23 (Operand.tmp 78) (Operand.tmp 79), type := 0, pos := _, after := #[{ on := 3, ground := Ground.data }, { on := 4, ground := Ground.data }], guard := none }) (v := (.pointer (some ⟨bt, t, none⟩))) rfl (by kernel_rfl) (by kernel_rfl) (by kernel_rfl) (fun _ _ _ h => h) (Or.inl ⟨by rfl, fun w' hS => by (try dsimp only at hS); go_simp⟩) hS0 ?_
        simp only [Act.put, List.setIfInBounds_toArray, List.set_cons_zero, List.set_cons_succ]
        refine wpAnyH_take (i := 6) (oi := { dst := some 81, op := Op.load 3 (Operand.tmp 80), type := 3, pos := _, after := #[{ on := 5, ground := Ground.data }], guard := none }) (v := (.int .i64 q)) rfl (by kernel_rfl) (by kernel_rfl) (by kernel_rfl) (fun _ _ _ h => h) (Or.inl ⟨by rfl, fun w' hS => by (try dsimp only at hS); go_simp⟩) hS0 ?_
        simp only [Act.put, List.setIfInBounds_toArray, List.set_cons_zero, List.set_cons_succ]
        refine wpAnyH_take (i := 7) (oi := { dst := some 82, op := Op.indexAddr 24 (Operand.tmp 76) (Operand.tmp 81), type := 0, pos := _, after := #[{ on := 1, ground := Ground.data }, { on := 6, ground := Ground.data }], guard := none }) (v := (.pointer (some ⟨bl, q, none⟩))) rfl (by kernel_rfl) (by kernel_rfl) (by kernel_rfl) (fun _ _ _ h => h) (Or.inl ⟨by rfl, fun w' hS => by (try dsimp only at hS); go_simp⟩) hS0 ?_
        simp only [Act.put, List.setIfInBounds_toArray, List.set_cons_zero, List.set_cons_succ]
        refine wpAnyH_take (i := 8) (oi := { dst := some 83, op := Op.load 83 (Operand.tmp 82), type := 83, pos := _, after := #[{ on := 7, ground := Ground.data }], guard := none }) (v := (.slice (some ⟨gb, 0, none⟩) 4 (C q))) rfl (by kernel_rfl) (by kernel_rfl) (by kernel_rfl) (fun _ _ _ h => h) (Or.inl ⟨by rfl, fun w' hS => by (try dsimp only at hS); go_simp⟩) hS0 ?_
        simp only [Act.put, List.setIfInBounds_toArray, List.set_cons_zero, List.set_cons_succ]
        refine wpAnyH_take (i := 14) (oi := { dst := some 89, op := Op.indexAddr 83 (Operand.tmp 83) (Operand.tmp 85), type := 0, pos := _, after := #[{ on := 8, ground := Ground.data }, { on := 10, ground := Ground.data }, { on := 0, ground := Ground.phase }, { on := 1, ground := Ground.phase }, { on := 2, ground := Ground.phase }, { on := 3, ground := Ground.phase }, { on := 4, ground := Ground.phase }, { on := 5, ground := Ground.phase }, { on := 6, ground := Ground.phase }, { on := 7, ground := Ground.phase }, { on := 8, ground := Ground.phase }, { on := 9, ground := Ground.phase }, { on := 10, ground := Ground.phase }, { on := 11, ground := Ground.phase }, { on := 12, ground := Ground.phase }, { on := 13, ground := Ground.phase }], guard := none }) (v := (.pointer (some ⟨gb, j * 2, none⟩))) rfl (by kernel_rfl) (by kernel_rfl) (by kernel_rfl) (fun _ _ _ h => h) (Or.inl ⟨by rfl, fun w' hS => by (try dsimp only at hS); go_simp⟩) hS0 ?_
        simp only [Act.put, List.setIfInBounds_toArray, List.set_cons_zero, List.set_cons_succ]
        refine wpAnyH_ready (rs := [15]) (by kernel_rfl) (by simp) ?_
        refine AllReadyH.cons (o := { dst := none, op := Op.store 78 (Operand.tmp 89) (Operand.tmp 88), type := 0, pos := _, after := #[{ on := 14, ground := Ground.data }, { on := 13, ground := Ground.data }, { on := 0, ground := Ground.phase }, { on := 1, ground := Ground.phase }, { on := 2, ground := Ground.phase }, { on := 3, ground := Ground.phase }, { on := 4, ground := Ground.phase }, { on := 5, ground := Ground.phase }, { on := 6, ground := Ground.phase }, { on := 7, ground := Ground.phase }, { on := 8, ground := Ground.phase }, { on := 9, ground := Ground.phase }, { on := 10, ground := Ground.phase }, { on := 11, ground := Ground.phase }, { on := 12, ground := Ground.phase }, { on := 13, ground := Ground.phase }], guard := none }) rfl (fun K hK => ?_) AllReadyH.nil
        go_simp
        have mS : Mod (fun x => x = gb) wd ((wd.setCell ⟨gb, j * 2, none⟩ (.int .i64 g)).setCell ⟨gb, j * 2 + 1, none⟩ (.int .i64 y)) := (Mod.setCell (X := fun x => x = gb) _ (p := ⟨gb, j * 2, none⟩) rfl _).trans (Mod.setCell (X := fun x => x = gb) _ (p := ⟨gb, j * 2 + 1, none⟩) rfl _)
        have hSt := And.intro (mS.cell x0 (fun e => n1 e.symm)) (And.intro (mS.cell x1 (fun e => n1 e.symm)) (And.intro (mS.cell tp (fun e => n2 e.symm)) (mS.cell ls (fun e => n3 e.symm))))
        clear mS
        refine hK.out _ _ hSt (fun hB => ?_)
        clear hK K hB
        try simp only [Act.put, List.setIfInBounds_toArray, List.set_cons_zero, List.set_cons_succ]
        refine wpAnyH_done (by kernel_rfl) ?_ _
        refine NoPanic.normal ?_
        clear hSt hS0 x0 x1 tp ls f0 f1 l0 l1
        replace HB : Hid (Blw w ((wd.setCell ⟨gb, j * 2, none⟩ (.int .i64 g)).setCell ⟨gb, j * 2 + 1, none⟩ (.int .i64 y))) := HB'.out
        replace HR : Hid (Row ((wd.setCell ⟨gb, j * 2, none⟩ (.int .i64 g)).setCell ⟨gb, j * 2 + 1, none⟩ (.int .i64 y)) (w.heap.size + 1) 2 (fun i => if i = 0 then .slice none 0 0 else .slice none 0 0)) := HR'.out
        clear HB' HR'
        generalize ((wd.setCell ⟨gb, j * 2, none⟩ (.int .i64 g)).setCell ⟨gb, j * 2 + 1, none⟩ (.int .i64 y)) = WF at *
        generalize upd c t q = cF at *
        generalize upd2 p q j g = pF at *
        generalize upd2 m q j y = mF at *
        have hzr := HR.out.lt
        have hzb := HOTF.out.nb.2.2
        have FIN : Hid _ := fin_givesT (out := chOut ⟨4, c, ⟨kn, len, p, m⟩⟩ (x : Int) (fun _ oy => oy = 0 ∧ pgOK g ∧ mayOK y) (fun _ => g) y) (w := w) (W := WF) (z := w.heap.size + 1) (b := ⟨some ⟨bt, 0, none⟩, some ⟨bl, 0, none⟩, c1, c2⟩) (R := ⟨4, cF, ⟨kn, fun _ => 4, pF, mF⟩⟩) (by omega) HOUT.out (tot4 (c := c) hk4) HB.out (HOTF.out.own hk4) (fun x hx => ⟨by omega, by omega, hx.2⟩)
        obtain ⟨t0, t1⟩ := get2 HR.out
        obtain ⟨s0, s1⟩ := get2 HOTF.out.box
        have f0 := HR.out.frozen 0
        have f1 := HR.out.frozen 1
        clear HR HB HOTF HOUT hzr hzb
        go_wp2
        exact bodyPost_ret (v := .tuple #[(BV.mk (some ⟨bt, 0, none⟩) (some ⟨bl, 0, none⟩) c1 c2).val ⟨4, cF, ⟨kn, fun _ => 4, pF, mF⟩⟩, .bool true]) (by simp [results, Try.results10, go_sem, t0, t1]) rfl FIN.out
      · have hlt' : ¬ (k : Int) < (kn : Int) := by omega
        go_upto_region 12 with fail
        clear x0 x1 tp
        generalize wr = W at *
        replace HOT : Hid (OT (w.heap.size + 1 + 1) zb W.drew bt bl c1 c2 (upd c t q) kn p m A C Z X) := HOT.out.go (Blw.refl _).drew
        replace HB : Hid (Blw w W.drew) := HB.out.drew
        replace HR : Hid (Row W.drew (w.heap.size + 1) 2 (fun i => if i = 0 then .slice none 0 0 else .slice none 0 0)) := HR.out.blw (Blw.refl _).drew
        obtain ⟨gb, ea, n1, n2, n3, hlo, hr8, hs2, -⟩ := HOT.out.leaf hqk hr4
        have x0 := (get2 HOT.out.box).1
        have x1 := (get2 HOT.out.box).2
        have tp := HOT.out.top.cell hd4
        rw [upd_at] at tp
        have ls := HOT.out.ls.row.cell hqk
        dsimp only at ls
        rw [ea] at ls
        have f0 := hr8.frozen (j * 2)
        have f1 := hr8.frozen (j * 2 + 1)
        have l0 : W.drew.cell? ⟨gb, j * 2, none⟩ = some (.int .i64 (p q j)) := by rw [hr8.cell (i := j * 2) (by omega), (uc_at _ _ j).1]
        have l1 : W.drew.cell? ⟨gb, j * 2 + 1, none⟩ = some (.int .i64 (m q j)) := by rw [hr8.cell (i := j * 2 + 1) (by omega), (uc_at _ _ j).2]
        have HOTF : Hid (OT (w.heap.size + 1 + 1) zb ((W.drew.setCell ⟨gb, j * 2, none⟩ (.int .i64 g)).setCell ⟨gb, j * 2 + 1, none⟩ (.int .i64 y)) bt bl c1 c2 (upd c t q) kn (upd2 p q j g) (upd2 m q j y) A C Z X) := hs2 g y
        have ms : Mod (fun x => x = gb) W.drew ((W.drew.setCell ⟨gb, j * 2, none⟩ (.int .i64 g)).setCell ⟨gb, j * 2 + 1, none⟩ (.int .i64 y)) := (Mod.setCell (X := fun x => x = gb) _ (p := ⟨gb, j * 2, none⟩) rfl _).trans (Mod.setCell (X := fun x => x = gb) _ (p := ⟨gb, j * 2 + 1, none⟩) rfl _)
        have HB' : Hid (Blw w ((W.drew.setCell ⟨gb, j * 2, none⟩ (.int .i64 g)).setCell ⟨gb, j * 2 + 1, none⟩ (.int .i64 y))) := Mod.blw HB.out ms (fun i hi => by omega)
        have HR' : Hid (Row ((W.drew.setCell ⟨gb, j * 2, none⟩ (.int .i64 g)).setCell ⟨gb, j * 2 + 1, none⟩ (.int .i64 y)) (w.heap.size + 1) 2 (fun i => if i = 0 then .slice none 0 0 else .slice none 0 0)) := HR.out.mod ms (by omega)
        clear hs2 hr8 ms HOT HB HR ea hlo
        have hwt : IntKind.i64.wrap ((t : Nat) : Int) = t := by rw [IntKind.wrap_i64]; omega
        have hwj : IntKind.i64.wrap ((j : Nat) : Int) = j := by rw [IntKind.wrap_i64]; omega
        have hS0 := And.intro x0 (And.intro x1 (And.intro tp ls))
        refine wp_region_noPanic ?_
        refine wp_region_held_drew (S := fun (w' : World) => w'.cell? ⟨zb, 0, none⟩ = some (.slice (some ⟨bt, 0, none⟩) 4 c1) ∧ w'.cell? ⟨zb, 1, none⟩ = some (.slice (some ⟨bl, 0, none⟩) kn c2) ∧ w'.cell? ⟨bt, t, none⟩ = some (.int .i64 q) ∧ w'.cell? ⟨bl, q, none⟩ = some (.slice (some ⟨gb, 0, none⟩) 4 (C q))) (by kernel_rfl) hS0 (fun hB => ?_)
        clear hB
        generalize W.drew = wd at *
        refine wpAnyH_take (i := 0) (oi := { dst := some 75, op := Op.fieldAddr 26 (Operand.tmp 10) 1, type := 0, pos := _, after := #[], guard := none }) (v := (.pointer (some ⟨zb, 1, none⟩))) rfl (by kernel_rfl) (by kernel_rfl) (by kernel_rfl) (fun _ _ _ h => h) (Or.inl ⟨by rfl, fun w' hS => by (try dsimp only at hS); go_simp⟩) hS0 ?_
        simp only [Act.put, List.setIfInBounds_toArray, List.set_cons_zero, List.set_cons_succ]
        refine wpAnyH_take (i := 2) (oi := { dst := some 77, op := Op.fieldAddr 26 (Operand.tmp 10) 0, type := 0, pos := _, after := #[], guard := none }) (v := (.pointer (some ⟨zb, 0, none⟩))) rfl (by kernel_rfl) (by kernel_rfl) (by kernel_rfl) (fun _ _ _ h => h) (Or.inl ⟨by rfl, fun w' hS => by (try dsimp only at hS); go_simp⟩) hS0 ?_
        simp only [Act.put, List.setIfInBounds_toArray, List.set_cons_zero, List.set_cons_succ]
        refine wpAnyH_take (i := 4) (oi := { dst := some 79, op := Op.move (Operand.tmp 11), type := 3, pos := _, after := #[], guard := none }) (v := (.int .i64 t)) rfl (by kernel_rfl) (by kernel_rfl) (by kernel_rfl) (fun _ _ _ h => h) (Or.inl ⟨by rfl, fun w' hS => by (try dsimp only at hS); go_simp⟩) hS0 ?_
        simp only [Act.put, List.setIfInBounds_toArray, List.set_cons_zero, List.set_cons_succ]
        refine wpAnyH_take (i := 9) (oi := { dst := some 84, op := Op.move (Operand.tmp 1), type := 3, pos := _, after := #[], guard := none }) (v := (.int .i64 x)) rfl (by kernel_rfl) (by kernel_rfl) (by kernel_rfl) (fun _ _ _ h => h) (Or.inl ⟨by rfl, fun w' hS => by (try dsimp only at hS); go_simp⟩) hS0 ?_
        simp only [Act.put, List.setIfInBounds_toArray, List.set_cons_zero, List.set_cons_succ]
        refine wpAnyH_take (i := 11) (oi := { dst := some 86, op := Op.move (Operand.tmp 2), type := 3, pos := _, after := #[], guard := none }) (v := (.int .i64 g)) rfl (by kernel_rfl) (by kernel_rfl) (by kernel_rfl) (fun _ _ _ h => h) (Or.inl ⟨by rfl, fun w' hS => by (try dsimp only at hS); go_simp⟩) hS0 ?_
        simp only [Act.put, List.setIfInBounds_toArray, List.set_cons_zero, List.set_cons_succ]
        refine wpAnyH_take (i := 12) (oi := { dst := some 87, op := Op.move (Operand.tmp 3), type := 3, pos := _, after := #[], guard := none }) (v := (.int .i64 y)) rfl (by kernel_rfl) (by kernel_rfl) (by kernel_rfl) (fun _ _ _ h => h) (Or.inl ⟨by rfl, fun w' hS => by (try dsimp only at hS); go_simp⟩) hS0 ?_
        simp only [Act.put, List.setIfInBounds_toArray, List.set_cons_zero, List.set_cons_succ]
        refine wpAnyH_take (i := 1) (oi := { dst := some 76, op := Op.load 24 (Operand.tmp 75), type := 24, pos := _, after := #[{ on := 0, ground := Ground.data }], guard := none }) (v := (.slice (some ⟨bl, 0, none⟩) kn c2)) rfl (by kernel_rfl) (by kernel_rfl) (by kernel_rfl) (fun _ _ _ h => h) (Or.inl ⟨by rfl, fun w' hS => by (try dsimp only at hS); go_simp⟩) hS0 ?_
        simp only [Act.put, List.setIfInBounds_toArray, List.set_cons_zero, List.set_cons_succ]
        refine wpAnyH_take (i := 3) (oi := { dst := some 78, op := Op.load 23 (Operand.tmp 77), type := 23, pos := _, after := #[{ on := 2, ground := Ground.data }], guard := none }) (v := (.slice (some ⟨bt, 0, none⟩) 4 c1)) rfl (by kernel_rfl) (by kernel_rfl) (by kernel_rfl) (fun _ _ _ h => h) (Or.inl ⟨by rfl, fun w' hS => by (try dsimp only at hS); go_simp⟩) hS0 ?_
        simp only [Act.put, List.setIfInBounds_toArray, List.set_cons_zero, List.set_cons_succ]
        refine wpAnyH_take (i := 10) (oi := { dst := some 85, op := Op.binOp BinOp.rem 3 (Operand.tmp 84) (Operand.const (Value.int IntKind.i64 4)) 3, type := 3, pos := _, after := #[{ on := 9, ground := Ground.data }], guard := none }) (v := (.int .i64 j)) rfl (by kernel_rfl) (by kernel_rfl) (by kernel_rfl) (fun _ _ _ h => h) (Or.inl ⟨by rfl, fun w' hS => by (try dsimp only at hS); go_simp⟩) hS0 ?_
        simp only [Act.put, List.setIfInBounds_toArray, List.set_cons_zero, List.set_cons_succ]
        refine wpAnyH_take (i := 13) (oi := { dst := some 88, op := Op.build 78 #[(0, Operand.tmp 86), (1, Operand.tmp 87)], type := 78, pos := _, after := #[{ on := 11, ground := Ground.data }, { on := 12, ground := Ground.data }], guard := none }) (v := (.agg #[.int .i64 g, .int .i64 y])) rfl (by kernel_rfl) (by kernel_rfl) (by kernel_rfl) (fun _ _ _ h => h) (Or.inl ⟨by rfl, fun w' hS => by (try dsimp only at hS); go_simp⟩) hS0 ?_
        simp only [Act.put, List.setIfInBounds_toArray, List.set_cons_zero, List.set_cons_succ]
        refine wpAnyH_take (i := 5) (oi := { dst := some 80, op := Op.indexAddr 23 (Operand.tmp 78) (Operand.tmp 79), type := 0, pos := _, after := #[{ on := 3, ground := Ground.data }, { on := 4, ground := Ground.data }], guard := none }) (v := (.pointer (some ⟨bt, t, none⟩))) rfl (by kernel_rfl) (by kernel_rfl) (by kernel_rfl) (fun _ _ _ h => h) (Or.inl ⟨by rfl, fun w' hS => by (try dsimp only at hS); go_simp⟩) hS0 ?_
        simp only [Act.put, List.setIfInBounds_toArray, List.set_cons_zero, List.set_cons_succ]
        refine wpAnyH_take (i := 6) (oi := { dst := some 81, op := Op.load 3 (Operand.tmp 80), type := 3, pos := _, after := #[{ on := 5, ground := Ground.data }], guard := none }) (v := (.int .i64 q)) rfl (by kernel_rfl) (by kernel_rfl) (by kernel_rfl) (fun _ _ _ h => h) (Or.inl ⟨by rfl, fun w' hS => by (try dsimp only at hS); go_simp⟩) hS0 ?_
        simp only [Act.put, List.setIfInBounds_toArray, List.set_cons_zero, List.set_cons_succ]
        refine wpAnyH_take (i := 7) (oi := { dst := some 82, op := Op.indexAddr 24 (Operand.tmp 76) (Operand.tmp 81), type := 0, pos := _, after := #[{ on := 1, ground := Ground.data }, { on := 6, ground := Ground.data }], guard := none }) (v := (.pointer (some ⟨bl, q, none⟩))) rfl (by kernel_rfl) (by kernel_rfl) (by kernel_rfl) (fun _ _ _ h => h) (Or.inl ⟨by rfl, fun w' hS => by (try dsimp only at hS); go_simp⟩) hS0 ?_
        simp only [Act.put, List.setIfInBounds_toArray, List.set_cons_zero, List.set_cons_succ]
        refine wpAnyH_take (i := 8) (oi := { dst := some 83, op := Op.load 83 (Operand.tmp 82), type := 83, pos := _, after := #[{ on := 7, ground := Ground.data }], guard := none }) (v := (.slice (some ⟨gb, 0, none⟩) 4 (C q))) rfl (by kernel_rfl) (by kernel_rfl) (by kernel_rfl) (fun _ _ _ h => h) (Or.inl ⟨by rfl, fun w' hS => by (try dsimp only at hS); go_simp⟩) hS0 ?_
        simp only [Act.put, List.setIfInBounds_toArray, List.set_cons_zero, List.set_cons_succ]
        refine wpAnyH_take (i := 14) (oi := { dst := some 89, op := Op.indexAddr 83 (Operand.tmp 83) (Operand.tmp 85), type := 0, pos := _, after := #[{ on := 8, ground := Ground.data }, { on := 10, ground := Ground.data }, { on := 0, ground := Ground.phase }, { on := 1, ground := Ground.phase }, { on := 2, ground := Ground.phase }, { on := 3, ground := Ground.phase }, { on := 4, ground := Ground.phase }, { on := 5, ground := Ground.phase }, { on := 6, ground := Ground.phase }, { on := 7, ground := Ground.phase }, { on := 8, ground := Ground.phase }, { on := 9, ground := Ground.phase }, { on := 10, ground := Ground.phase }, { on := 11, ground := Ground.phase }, { on := 12, ground := Ground.phase }, { on := 13, ground := Ground.phase }], guard := none }) (v := (.pointer (some ⟨gb, j * 2, none⟩))) rfl (by kernel_rfl) (by kernel_rfl) (by kernel_rfl) (fun _ _ _ h => h) (Or.inl ⟨by rfl, fun w' hS => by (try dsimp only at hS); go_simp⟩) hS0 ?_
        simp only [Act.put, List.setIfInBounds_toArray, List.set_cons_zero, List.set_cons_succ]
        refine wpAnyH_ready (rs := [15]) (by kernel_rfl) (by simp) ?_
        refine AllReadyH.cons (o := { dst := none, op := Op.store 78 (Operand.tmp 89) (Operand.tmp 88), type := 0, pos := _, after := #[{ on := 14, ground := Ground.data }, { on := 13, ground := Ground.data }, { on := 0, ground := Ground.phase }, { on := 1, ground := Ground.phase }, { on := 2, ground := Ground.phase }, { on := 3, ground := Ground.phase }, { on := 4, ground := Ground.phase }, { on := 5, ground := Ground.phase }, { on := 6, ground := Ground.phase }, { on := 7, ground := Ground.phase }, { on := 8, ground := Ground.phase }, { on := 9, ground := Ground.phase }, { on := 10, ground := Ground.phase }, { on := 11, ground := Ground.phase }, { on := 12, ground := Ground.phase }, { on := 13, ground := Ground.phase }], guard := none }) rfl (fun K hK => ?_) AllReadyH.nil
        go_simp
        have mS : Mod (fun x => x = gb) wd ((wd.setCell ⟨gb, j * 2, none⟩ (.int .i64 g)).setCell ⟨gb, j * 2 + 1, none⟩ (.int .i64 y)) := (Mod.setCell (X := fun x => x = gb) _ (p := ⟨gb, j * 2, none⟩) rfl _).trans (Mod.setCell (X := fun x => x = gb) _ (p := ⟨gb, j * 2 + 1, none⟩) rfl _)
        have hSt := And.intro (mS.cell x0 (fun e => n1 e.symm)) (And.intro (mS.cell x1 (fun e => n1 e.symm)) (And.intro (mS.cell tp (fun e => n2 e.symm)) (mS.cell ls (fun e => n3 e.symm))))
        clear mS
        refine hK.out _ _ hSt (fun hB => ?_)
        clear hK K hB
        try simp only [Act.put, List.setIfInBounds_toArray, List.set_cons_zero, List.set_cons_succ]
        refine wpAnyH_done (by kernel_rfl) ?_ _
        refine NoPanic.normal ?_
        clear hSt hS0 x0 x1 tp ls f0 f1 l0 l1
        replace HB : Hid (Blw w ((wd.setCell ⟨gb, j * 2, none⟩ (.int .i64 g)).setCell ⟨gb, j * 2 + 1, none⟩ (.int .i64 y))) := HB'.out
        replace HR : Hid (Row ((wd.setCell ⟨gb, j * 2, none⟩ (.int .i64 g)).setCell ⟨gb, j * 2 + 1, none⟩ (.int .i64 y)) (w.heap.size + 1) 2 (fun i => if i = 0 then .slice none 0 0 else .slice none 0 0)) := HR'.out
        clear HB' HR'
        generalize ((wd.setCell ⟨gb, j * 2, none⟩ (.int .i64 g)).setCell ⟨gb, j * 2 + 1, none⟩ (.int .i64 y)) = WF at *
        generalize upd c t q = cF at *
        generalize upd2 p q j g = pF at *
        generalize upd2 m q j y = mF at *
        have hzr := HR.out.lt
        have hzb := HOTF.out.nb.2.2
        have FIN : Hid _ := fin_givesT (out := chOut ⟨4, c, ⟨kn, len, p, m⟩⟩ (x : Int) (fun _ oy => oy = 0 ∧ pgOK g ∧ mayOK y) (fun _ => g) y) (w := w) (W := WF) (z := w.heap.size + 1) (b := ⟨some ⟨bt, 0, none⟩, some ⟨bl, 0, none⟩, c1, c2⟩) (R := ⟨4, cF, ⟨kn, fun _ => 4, pF, mF⟩⟩) (by omega) HOUT.out (tot4 (c := c) hk4) HB.out (HOTF.out.own hk4) (fun x hx => ⟨by omega, by omega, hx.2⟩)
        obtain ⟨t0, t1⟩ := get2 HR.out
        obtain ⟨s0, s1⟩ := get2 HOTF.out.box
        have f0 := HR.out.frozen 0
        have f1 := HR.out.frozen 1
        clear HR HB HOTF HOUT hzr hzb
        go_wp2
        exact bodyPost_ret (v := .tuple #[(BV.mk (some ⟨bt, 0, none⟩) (some ⟨bl, 0, none⟩) c1 c2).val ⟨4, cF, ⟨kn, fun _ => 4, pF, mF⟩⟩, .bool true]) (by simp [results, Try.results10, go_sem, t0, t1]) rfl FIN.out
end Go.Proofs.Ytcfdagmcnaepgaa
/- UnmapPage: the model's. -/
namespace Go.Proofs.Ytcfdagmcnaepgaa
open Go.RowKit
set_option linter.unusedSimpArgs false
set_option linter.unusedVariables false
theorem zero_noMay {kn q j : Nat} {c : Nat → Int} {len : Nat → Nat} {p m : Nat → Nat → Int} (g : BD.Good ⟨4, c, ⟨kn, len, p, m⟩⟩) (hq : q < kn) : isZero8 (upd2 p q j 0 q) (upd2 m q j 0 q) ↔ noMay (upd2 m q j 0 q) 4 := by
  constructor
  · intro h i hi
    rw [(h i hi).2]; omega
  · intro h i hi
    have hm := h i hi
    unfold upd2 at *
    by_cases e : i = j
    · simp [e]
    · have e2 : ¬ (q = q ∧ i = j) := fun k => e k.2
      rw [if_neg e2] at hm
      rw [if_neg e2, if_neg e2]
      have hl := (g.leaf q hq).2 i hi
      have hl' : leafOK (p q i) (m q i) := hl
      unfold leafOK at hl'
      omega
set_option maxRecDepth 10000 in
set_option maxHeartbeats 6400000 in
theorem specUnmap_any (b : BV) (B : BD) (a : Int) (Y : Nat → Prop) (w : World) (hn : B.n ≤ 1048576) (h : BookAt Y w b B) :
    Calls Try.prog 23 #[b.val B, .int .i64 a] w (GivesB (chOut B a (fun _ oy => ¬ oy = 0) (fun _ => 0) 0) w) := by
  have hA1 : Blw w (w.alloc (.cells #[.slice b.a1 B.n b.c1, .slice b.a2 B.D.n b.c2] 26)) := (Blw.refl _).alloc _
  have hA2 : Blw (w.alloc (.cells #[.slice b.a1 B.n b.c1, .slice b.a2 B.D.n b.c2] 26)) ((w.alloc (.cells #[.slice b.a1 B.n b.c1, .slice b.a2 B.D.n b.c2] 26)).alloc (.cells #[.slice none 0 0, .slice none 0 0] 26)) := (Blw.refl _).alloc _
  have HB : Hid (Blw w ((w.alloc (.cells #[.slice b.a1 B.n b.c1, .slice b.a2 B.D.n b.c2] 26)).alloc (.cells #[.slice none 0 0, .slice none 0 0] 26))) := hA1.trans hA2
  have rR := box2 (w.alloc (.cells #[.slice b.a1 B.n b.c1, .slice b.a2 B.D.n b.c2] 26)) (.slice none 0 0) (.slice none 0 0) 26
  rw [World.size_alloc] at rR
  have HR : Hid (Row ((w.alloc (.cells #[.slice b.a1 B.n b.c1, .slice b.a2 B.D.n b.c2] 26)).alloc (.cells #[.slice none 0 0, .slice none 0 0] 26)) (w.heap.size + 1) 2 (fun i => if i = 0 then .slice none 0 0 else .slice none 0 0)) := rR
  have HA : Hid (BookAt Y ((w.alloc (.cells #[.slice b.a1 B.n b.c1, .slice b.a2 B.D.n b.c2] 26)).alloc (.cells #[.slice none 0 0, .slice none 0 0] 26)) b B) := h.blw (hA1.trans hA2)
  have HA0 : Hid (Row ((w.alloc (.cells #[.slice b.a1 B.n b.c1, .slice b.a2 B.D.n b.c2] 26)).alloc (.cells #[.slice none 0 0, .slice none 0 0] 26)) w.heap.size 2 (fun i => if i = 0 then .slice b.a1 B.n b.c1 else .slice b.a2 B.D.n b.c2)) := (box2 w _ _ 26).blw hA2
  have HSZ : Hid (w.heap.size + 1 + 1 = ((w.alloc (.cells #[.slice b.a1 B.n b.c1, .slice b.a2 B.D.n b.c2] 26)).alloc (.cells #[.slice none 0 0, .slice none 0 0] 26)).heap.size) := by show _ = _; simp
  clear hA1 hA2 rR h
  go_enter Try.func23, Try.ntmps23
  obtain ⟨p0, p1⟩ := get2 HA0.out
  go_wp2_with fail
  clear p0 p1
  generalize ((w.alloc (.cells #[.slice b.a1 B.n b.c1, .slice b.a2 B.D.n b.c2] 26)).alloc (.cells #[.slice none 0 0, .slice none 0 0] 26)) = w0 at *
  refine (specGood_any b B Y _ hn HA.out).mono ?_
  rintro e w1 ⟨r, rfl, hr, hb1⟩
  have HT : Hid (r = true ↔ B.Good) := hr
  replace HSZ : Hid (w.heap.size + 1 + 1 ≤ w1.heap.size) := by have := HSZ.out; have := hb1.size; show _ ≤ _; omega
  replace HB : Hid (Blw w w1) := HB.out.trans hb1
  replace HR : Hid (Row w1 (w.heap.size + 1) 2 (fun i => if i = 0 then .slice none 0 0 else .slice none 0 0)) := HR.out.blw hb1
  replace HA0 : Hid (Row w1 w.heap.size 2 (fun i => if i = 0 then .slice b.a1 B.n b.c1 else .slice b.a2 B.D.n b.c2)) := HA0.out.blw hb1
  replace HA : Hid (BookAt Y w1 b B) := HA.out.blw hb1
  clear hr hb1
  cases r
  · have HN : Hid (¬ B.Good) := fun g => by have := HT.out.2 g; simp at this
    clear HT
    obtain ⟨t0, t1⟩ := get2 HR.out
    have f0 := HR.out.frozen 0
    have f1 := HR.out.frozen 1
    clear HR HA0
    go_wp2
    exact bodyPost_ret (v := .tuple #[BV.zero.val BD.zero, .bool false]) (by simp [results, Try.results23, go_sem, t0, t1]) rfl (zero_givesT (z := w.heap.size + 1) (by omega) (Or.inr ⟨fun q => HN.out q.1, rfl, rfl⟩) HB.out)
  have HG : Hid (B.Good) := HT.out.1 (by first | rfl | trivial)
  clear HT
  go_wp2_with fail
  refine (l6At_any a _).mono ?_
  rintro e w1 ⟨r, rfl, hr, rfl⟩
  have HT : Hid (r = true ↔ pgOK a) := hr
  clear hr
  cases r
  · have HN : Hid (¬ pgOK a) := fun g => by have := HT.out.2 g; simp at this
    clear HT
    obtain ⟨t0, t1⟩ := get2 HR.out
    have f0 := HR.out.frozen 0
    have f1 := HR.out.frozen 1
    clear HR HA0
    go_wp2
    exact bodyPost_ret (v := .tuple #[BV.zero.val BD.zero, .bool false]) (by simp [results, Try.results23, go_sem, t0, t1]) rfl (zero_givesT (z := w.heap.size + 1) (by omega) (Or.inr ⟨fun q => HN.out q.2.1, rfl, rfl⟩) HB.out)
  have H1 : Hid (pgOK a) := HT.out.1 (by first | rfl | trivial)
  clear HT
  obtain ⟨n, c, ⟨kn, len, p, m⟩⟩ := B
  obtain ⟨a1, a2, q1, q2⟩ := b
  have hn4 : n = 4 := HG.out.n
  subst hn4
  have hk4 : kn ≤ 4 := HG.out.k.2
  have hk1 : 0 < kn := HG.out.k.1
  simp only [BV.val] at *
  obtain ⟨x, hx, hx16⟩ : ∃ x : Nat, a = x ∧ x < 16 := ⟨a.toNat, by have := H1.out; unfold pgOK at this; omega, by have := H1.out; unfold pgOK at this; omega⟩
  subst hx
  have HN0 : Hid (0 ≤ lfP c m x) := lf_nonneg HG.out hx16
  obtain ⟨p0, p1⟩ := get2 HA0.out
  have hfm := fieldMay (lfP c p x) (lfP c m x)
  go_wp2_with fail
  clear p0 p1
  refine (l6Find_any ⟨a1, a2, q1, q2⟩ c kn len p m x Y _ HG.out hx16 HA.out).mono ?_
  rintro e w2 ⟨rfl, hb2⟩
  replace HB : Hid (Blw w w2) := HB.out.trans hb2
  replace HSZ : Hid (w.heap.size + 1 + 1 ≤ w2.heap.size) := by have := HSZ.out; have := hb2.size; show _ ≤ _; omega
  replace HR : Hid (Row w2 (w.heap.size + 1) 2 (fun i => if i = 0 then .slice none 0 0 else .slice none 0 0)) := HR.out.blw hb2
  replace HA0 : Hid (Row w2 w.heap.size 2 (fun i => if i = 0 then .slice a1 4 q1 else .slice a2 kn q2)) := HA0.out.blw hb2
  replace HA : Hid (BookAt Y w2 ⟨a1, a2, q1, q2⟩ ⟨4, c, ⟨kn, len, p, m⟩⟩) := HA.out.blw hb2
  clear hb2
  by_cases h0 : lfP c m x = 0
  · have HN : Hid (lfP c m x = 0) := h0
    have d1 : (lfP c m x == 0) = true := by simp [h0]
    clear h0
    obtain ⟨t0, t1⟩ := get2 HR.out
    have f0 := HR.out.frozen 0
    have f1 := HR.out.frozen 1
    clear HR HA0
    go_wp2
    exact bodyPost_ret (v := .tuple #[BV.zero.val BD.zero, .bool false]) (by simp [results, Try.results23, go_sem, t0, t1]) rfl (zero_givesT (z := w.heap.size + 1) (by omega) (Or.inr ⟨fun q => q.2.2.1 (by rw [Int.toNat_natCast]; exact HN.out), rfl, rfl⟩) HB.out)
  have HN : Hid (¬ lfP c m x = 0) := h0
  have d1 : (lfP c m x == 0) = false := by simp [h0]
  clear h0
  obtain ⟨p0, p1⟩ := get2 HA0.out
  go_wp2_with fail
  clear p0 p1 hfm
  refine (l6Own_any ⟨a1, a2, q1, q2⟩ c kn len p m Y _ hk4 (fun i hi => (HG.out.leaf i hi).1) HA.out).mono ?_
  rintro e w3 ⟨b3, rfl, own, hb3⟩
  have hs3 := HSZ.out
  have hs4 := hb3.size
  obtain ⟨bt, bl, c1, c2, A, C, Z, X, rfl, hOT⟩ := OT.make (lo := w.heap.size + 1 + 1) hk1 (own.mono (fun x hx => ⟨by omega, hx.2⟩)) (by omega)
  have hA3 : Blw w3 (w3.alloc (.cells #[.slice (some ⟨bt, 0, none⟩) 4 c1, .slice (some ⟨bl, 0, none⟩) kn c2] 26)) := (Blw.refl _).alloc _
  have HOT : Hid (OT (w.heap.size + 1 + 1) w3.heap.size (w3.alloc (.cells #[.slice (some ⟨bt, 0, none⟩) 4 c1, .slice (some ⟨bl, 0, none⟩) kn c2] 26)) bt bl c1 c2 c kn p m A C Z X) := hOT
  replace HB : Hid (Blw w (w3.alloc (.cells #[.slice (some ⟨bt, 0, none⟩) 4 c1, .slice (some ⟨bl, 0, none⟩) kn c2] 26))) := HB.out.trans (hb3.trans hA3)
  replace HR : Hid (Row (w3.alloc (.cells #[.slice (some ⟨bt, 0, none⟩) 4 c1, .slice (some ⟨bl, 0, none⟩) kn c2] 26)) (w.heap.size + 1) 2 (fun i => if i = 0 then .slice none 0 0 else .slice none 0 0)) := HR.out.blw (hb3.trans hA3)
  have hd : Int.tdiv (x : Int) 4 = ((x / 4 : Nat) : Int) := by rw [Int.tdiv_eq_ediv_of_nonneg (by omega)]; rfl
  have hr : Int.tmod (x : Int) 4 = ((x % 4 : Nat) : Int) := by rw [Int.tmod_eq_emod_of_nonneg (by omega)]; rfl
  have hd4 : x / 4 < 4 := by omega
  have hr4 : x % 4 < 4 := by omega
  have hd4' : ((x / 4 : Nat) : Int) < 4 := by omega
  have hr4' : ((x % 4 : Nat) : Int) < 4 := by omega
  have htop := HG.out.top (x / 4) hd4
  dsimp only at htop
  clear own hb3 hA3 hs3 hs4 hOT HA HA0
  obtain ⟨q, hcq, hqk⟩ := lf_top HN.out htop
  have HCQ : Hid (c (x / 4) = q) := hcq
  have hqk' : (q : Int) < (kn : Int) := by omega
  have HZM : Hid (isZero8 (upd2 p q (x % 4) 0 q) (upd2 m q (x % 4) 0 q) ↔ noMay (upd2 m q (x % 4) 0 q) 4) := zero_noMay HG.out hqk
  have HOUT : Hid (∀ c', c' = topsOf c (x / 4) q (upd2 p q (x % 4) 0 q) (upd2 m q (x % 4) 0 q) → chOut ⟨4, c, ⟨kn, len, p, m⟩⟩ (x : Int) (fun _ oy => ¬ oy = 0) (fun _ => 0) 0 ⟨4, c', ⟨kn, fun _ => 4, upd2 p q (x % 4) 0, upd2 m q (x % 4) 0⟩⟩ true) := by
    rintro c' rfl
    refine Or.inl ⟨⟨HG.out, H1.out, by rw [Int.toNat_natCast]; exact HN.out, q, by rw [Int.toNat_natCast]; exact Or.inl hcq⟩, ⟨q, by rw [Int.toNat_natCast]; exact Or.inl hcq, ?_⟩, rfl⟩
    rw [Int.toNat_natCast]
    rfl
  clear hcq htop HN HN0
  go_upto_region 4 with fail
  generalize w3.alloc (.cells #[.slice (some ⟨bt, 0, none⟩) 4 c1, .slice (some ⟨bl, 0, none⟩) kn c2] 26) = W at *
  generalize w3.heap.size = zb at *
  obtain ⟨gb, ea, n1, n2, n3, hlo, hr8, hs2, -⟩ := HOT.out.leaf hqk hr4
  generalize x / 4 = t at *
  generalize x % 4 = j at *
  obtain ⟨x0, x1⟩ := get2 HOT.out.box
  have tp := HOT.out.top.cell hd4
  rw [HCQ.out] at tp
  have ls := HOT.out.ls.row.cell hqk
  dsimp only at ls
  rw [ea] at ls
  have f0 := hr8.frozen (j * 2)
  have f1 := hr8.frozen (j * 2 + 1)
  have l0 : W.cell? ⟨gb, j * 2, none⟩ = some (.int .i64 (p q j)) := by rw [hr8.cell (i := j * 2) (by omega), (uc_at _ _ j).1]
  have l1 : W.cell? ⟨gb, j * 2 + 1, none⟩ = some (.int .i64 (m q j)) := by rw [hr8.cell (i := j * 2 + 1) (by omega), (uc_at _ _ j).2]
  have HOTF : Hid (OT (w.heap.size + 1 + 1) zb ((W.setCell ⟨gb, j * 2, none⟩ (.int .i64 0)).setCell ⟨gb, j * 2 + 1, none⟩ (.int .i64 0)) bt bl c1 c2 c kn (upd2 p q j 0) (upd2 m q j 0) A C Z X) := hs2 0 0
  have ms : Mod (fun x => x = gb) W ((W.setCell ⟨gb, j * 2, none⟩ (.int .i64 0)).setCell ⟨gb, j * 2 + 1, none⟩ (.int .i64 0)) := (Mod.setCell (X := fun x => x = gb) _ (p := ⟨gb, j * 2, none⟩) rfl _).trans (Mod.setCell (X := fun x => x = gb) _ (p := ⟨gb, j * 2 + 1, none⟩) rfl _)
  replace HB : Hid (Blw w ((W.setCell ⟨gb, j * 2, none⟩ (.int .i64 0)).setCell ⟨gb, j * 2 + 1, none⟩ (.int .i64 0))) := Mod.blw HB.out ms (fun i hi => by omega)
  replace HR : Hid (Row ((W.setCell ⟨gb, j * 2, none⟩ (.int .i64 0)).setCell ⟨gb, j * 2 + 1, none⟩ (.int .i64 0)) (w.heap.size + 1) 2 (fun i => if i = 0 then .slice none 0 0 else .slice none 0 0)) := HR.out.mod ms (by omega)
  have EA : Hid (A q = some ⟨gb, 0, none⟩) := ea
  clear hs2 hr8 ms HOT ea hlo
  go_upto_region 7 with fail
  clear x0 x1 tp ls f0 f1 l0 l1
  generalize ((W.setCell ⟨gb, j * 2, none⟩ (.int .i64 0)).setCell ⟨gb, j * 2 + 1, none⟩ (.int .i64 0)) = W2 at *
  generalize upd2 p q j 0 = p' at *
  generalize upd2 m q j 0 = m' at *
  obtain ⟨x0, x1⟩ := get2 HOTF.out.box
  have ls := HOTF.out.ls.row.cell hqk
  dsimp only at ls
  rw [EA.out] at ls
  go_wp2_with fail
  clear x0 x1 ls
  refine (l6Empty_any _ _ 4 (p' q) (m' q) _ _ (by have h1 := (HOTF.out.ls.own q hqk).at; dsimp only at h1; rw [EA.out] at h1; exact h1)).mono ?_
  rintro e W3 ⟨r, rfl, hr3, hb3⟩
  replace HOTF : Hid (OT (w.heap.size + 1 + 1) zb W3 bt bl c1 c2 c kn p' m' A C Z X) := HOTF.out.go hb3
  replace HB : Hid (Blw w W3) := HB.out.trans hb3
  replace HR : Hid (Row W3 (w.heap.size + 1) 2 (fun i => if i = 0 then .slice none 0 0 else .slice none 0 0)) := HR.out.blw hb3
  have HRZ : Hid (r = true ↔ isZero8 (p' q) (m' q)) := hr3.trans HZM.out.symm
  clear hr3 hb3 HZM
  cases r
  · have hc' : c = topsOf c t q (p' q) (m' q) := by rw [topsOf_no (fun g => by have := HRZ.out.2 g; simp at this), upd_self HCQ.out]
    replace HOUT : Hid (chOut ⟨4, c, ⟨kn, len, p, m⟩⟩ (x : Int) (fun _ oy => ¬ oy = 0) (fun _ => 0) 0 ⟨4, c, ⟨kn, fun _ => 4, p', m'⟩⟩ true) := HOUT.out c hc'
    clear hc' HRZ HCQ
    have hzr := HR.out.lt
    have hzb := HOTF.out.nb.2.2
    have FIN : Hid _ := fin_givesT (out := chOut ⟨4, c, ⟨kn, len, p, m⟩⟩ (x : Int) (fun _ oy => ¬ oy = 0) (fun _ => 0) 0) (w := w) (W := W3) (z := w.heap.size + 1) (b := ⟨some ⟨bt, 0, none⟩, some ⟨bl, 0, none⟩, c1, c2⟩) (R := ⟨4, c, ⟨kn, fun _ => 4, p', m'⟩⟩) (by omega) HOUT.out (tot4 (c := c) hk4) HB.out (HOTF.out.own hk4) (fun x hx => ⟨by omega, by omega, hx.2⟩)
    obtain ⟨t0, t1⟩ := get2 HR.out
    obtain ⟨s0, s1⟩ := get2 HOTF.out.box
    have f0 := HR.out.frozen 0
    have f1 := HR.out.frozen 1
    clear HR HB HOTF HOUT hzr hzb
    go_wp2
    exact bodyPost_ret (v := .tuple #[(BV.mk (some ⟨bt, 0, none⟩) (some ⟨bl, 0, none⟩) c1 c2).val ⟨4, c, ⟨kn, fun _ => 4, p', m'⟩⟩, .bool true]) (by simp [results, Try.results23, go_sem, t0, t1]) rfl FIN.out
  · have hc' : upd c t (-1) = topsOf c t q (p' q) (m' q) := by rw [topsOf_yes (HRZ.out.1 (by first | rfl | trivial))]
    replace HOUT : Hid (chOut ⟨4, c, ⟨kn, len, p, m⟩⟩ (x : Int) (fun _ oy => ¬ oy = 0) (fun _ => 0) 0 ⟨4, upd c t (-1), ⟨kn, fun _ => 4, p', m'⟩⟩ true) := HOUT.out _ hc'
    clear hc' HRZ
    obtain ⟨x0, x1⟩ := get2 HOTF.out.box
    have tp := HOTF.out.top.cell hd4
    have f0 := HOTF.out.top.frozen t
    have ms : Mod (fun x => x = bt) W3 (W3.setCell ⟨bt, t, none⟩ (.int .i64 (-1))) := Mod.setCell (X := fun x => x = bt) _ (p := ⟨bt, t, none⟩) rfl _
    have hb := HOTF.out.nb
    replace HOTF : Hid (OT (w.heap.size + 1 + 1) zb (W3.setCell ⟨bt, t, none⟩ (.int .i64 (-1))) bt bl c1 c2 (upd c t (-1)) kn p' m' A C Z X) := HOTF.out.setTop t (-1)
    replace HB : Hid (Blw w (W3.setCell ⟨bt, t, none⟩ (.int .i64 (-1)))) := Mod.blw HB.out ms (fun i hi => by omega)
    replace HR : Hid (Row (W3.setCell ⟨bt, t, none⟩ (.int .i64 (-1))) (w.heap.size + 1) 2 (fun i => if i = 0 then .slice none 0 0 else .slice none 0 0)) := HR.out.mod ms (by omega)
    clear ms hb HCQ
    go_upto_region 9 with fail
    clear x0 x1 tp f0
    generalize W3.setCell ⟨bt, t, none⟩ (.int .i64 (-1)) = W4 at *
    have hzr := HR.out.lt
    have hzb := HOTF.out.nb.2.2
    have FIN : Hid _ := fin_givesT (out := chOut ⟨4, c, ⟨kn, len, p, m⟩⟩ (x : Int) (fun _ oy => ¬ oy = 0) (fun _ => 0) 0) (w := w) (W := W4) (z := w.heap.size + 1) (b := ⟨some ⟨bt, 0, none⟩, some ⟨bl, 0, none⟩, c1, c2⟩) (R := ⟨4, upd c t (-1), ⟨kn, fun _ => 4, p', m'⟩⟩) (by omega) HOUT.out (tot4 (c := c) hk4) HB.out (HOTF.out.own hk4) (fun x hx => ⟨by omega, by omega, hx.2⟩)
    obtain ⟨t0, t1⟩ := get2 HR.out
    obtain ⟨s0, s1⟩ := get2 HOTF.out.box
    have f0 := HR.out.frozen 0
    have f1 := HR.out.frozen 1
    clear HR HB HOTF HOUT hzr hzb
    go_wp2
    exact bodyPost_ret (v := .tuple #[(BV.mk (some ⟨bt, 0, none⟩) (some ⟨bl, 0, none⟩) c1 c2).val ⟨4, upd c t (-1), ⟨kn, fun _ => 4, p', m'⟩⟩, .bool true]) (by simp [results, Try.results23, go_sem, t0, t1]) rfl FIN.out
end Go.Proofs.Ytcfdagmcnaepgaa
/- Tables that are drawn. -/
namespace Go.Proofs.Ytcfdagmcnaepgaa
open Go.RowKit
set_option linter.unusedSimpArgs false
set_option linter.unusedVariables false
theorem Mod.newer' {X Z : Nat → Prop} {a b c : World} (h : Mod X a b) (k : Mod Z b c) (hz : ∀ i, Z i → a.heap.size ≤ i) : Mod X a c :=
  ⟨k.os.trans h.os, k.tape.trans h.tape, k.output.trans h.output, Nat.le_trans h.size k.size, fun i hi hx => (k.block i (Nat.lt_of_lt_of_le hi h.size) (fun e => by have := hz i e; omega)).trans (h.block i hi hx)⟩
abbrev bx2 (b : BV) (n k : Nat) : Nat → Value := fun i => if i = 0 then .slice b.a1 n b.c1 else .slice b.a2 k b.c2
abbrev T4 (c : Nat → Int) (kn : Nat) (p m : Nat → Nat → Int) : BD := ⟨4, c, ⟨kn, fun _ => 4, p, m⟩⟩
/-- A table that is being drawn: its box at zs; no block of E is its own. -/
structure TA (Y : Nat → Prop) (w wr : World) (C k zs : Nat) (E : Nat → Prop) (b : BV) (c : Nat → Int) (kn : Nat) (p m : Nat → Nat → Int) : Prop where
  mod : Mod (fun b => b = C) w wr
  cur : Cur Y wr C k
  out : Row wr w.heap.size 2 (fun i => if i = 0 then .slice none 0 0 else .slice none 0 0)
  zl : w.heap.size < zs ∧ zs < wr.heap.size
  box : Row wr zs 2 (bx2 b 4 kn)
  own : BookOwn (fun x => w.heap.size < x ∧ x < wr.heap.size ∧ x ≠ zs ∧ ¬ E x) wr b (T4 c kn p m)
  kn : 1 ≤ kn ∧ kn ≤ 4
def NoE : Nat → Prop := fun _ => False
def OnE (z : Nat) : Nat → Prop := fun x => x = z
def Tw (Y : Nat → Prop) (w wr : World) (C k zs : Nat) : Prop := ∃ b c kn p m, TA Y w wr C k zs NoE b c kn p m
theorem TA.go {Y : Nat → Prop} {w wr : World} {C k zs : Nat} {E : Nat → Prop} {b : BV} {c : Nat → Int} {kn : Nat} {p m : Nat → Nat → Int} {w1 : World} {k' : Nat} (hC : C < w.heap.size) (h : TA Y w wr C k zs E b c kn p m) (hc : Cur Y w1 C k') (hm : Mod (fun b => b = C) wr w1) : TA Y w w1 C k' zs E b c kn p m := by
  have hs := hm.size
  have hz := h.zl
  exact ⟨h.mod.trans hm, hc, h.out.mod hm (by omega), by omega, h.box.mod hm (by omega), (h.own.mod hm (fun x hx e => by omega)).mono (fun x hx => ⟨hx.1, by omega, hx.2.2⟩), h.kn⟩
theorem TA.blw {Y : Nat → Prop} {w wr : World} {C k zs : Nat} {E : Nat → Prop} {b : BV} {c : Nat → Int} {kn : Nat} {p m : Nat → Nat → Int} {w1 : World} (h : TA Y w wr C k zs E b c kn p m) (hb : Blw wr w1) : TA Y w w1 C k zs E b c kn p m := by
  have hs := hb.size
  have hz := h.zl
  exact ⟨h.mod.trans (hb.mod _), h.cur.blw hb, h.out.blw hb, by omega, h.box.blw hb, (h.own.blw hb).mono (fun x hx => ⟨hx.1, by omega, hx.2.2⟩), h.kn⟩
theorem TA.le {Y : Nat → Prop} {w wr : World} {C k zs : Nat} {E : Nat → Prop} {b : BV} {c : Nat → Int} {kn : Nat} {p m : Nat → Nat → Int} {k' : Nat} (h : TA Y w wr C k zs E b c kn p m) (hk : k ≤ k') : TA Y w wr C k' zs E b c kn p m := ⟨h.mod, h.cur.le hk, h.out, h.zl, h.box, h.own, h.kn⟩
theorem TA.free {Y : Nat → Prop} {w wr : World} {C k zs : Nat} {E : Nat → Prop} {b : BV} {c : Nat → Int} {kn : Nat} {p m : Nat → Nat → Int} (h : TA Y w wr C k zs E b c kn p m) : TA Y w wr C k zs NoE b c kn p m := ⟨h.mod, h.cur, h.out, h.zl, h.box, h.own.mono (fun x hx => ⟨hx.1, hx.2.1, hx.2.2.1, id⟩), h.kn⟩
/-- A new block, not of the table's own. -/
theorem TA.alloc {Y : Nat → Prop} {w wr : World} {C k zs : Nat} {E : Nat → Prop} {b : BV} {c : Nat → Int} {kn : Nat} {p m : Nat → Nat → Int} (h : TA Y w wr C k zs E b c kn p m) (o : Obj) : TA Y w (wr.alloc o) C k zs (OnE wr.heap.size) b c kn p m := by
  have hb : Blw wr (wr.alloc o) := (Blw.refl _).alloc _
  have hz := h.zl
  exact ⟨h.mod.trans (hb.mod _), h.cur.blw hb, h.out.blw hb, by rw [World.size_alloc]; omega, h.box.blw hb, (h.own.blw hb).mono (fun x hx => ⟨hx.1, by rw [World.size_alloc]; omega, hx.2.2.1, fun e => by have e' : x = wr.heap.size := e; omega⟩), h.kn⟩
/-- A new table, its box at zb. -/
def Got (Y : Nat → Prop) (w : World) (C k zs : Nat) (b : BV) (c : Nat → Int) (kn : Nat) (p m : Nat → Nat → Int) (v1 v2 : Value) (wx : World) : Prop :=
  ∃ (zb : Nat) (b3 : BV) (R : BD) (r : Bool), v1 = .pointer (some ⟨zb, 0, none⟩) ∧ v2 = .bool r ∧ TA Y w wx C k zs NoE b c kn p m ∧ Row wx zb 2 (bx2 b3 R.n R.D.n) ∧ zb ≠ zs ∧ w.heap.size < zb ∧ (r = true → ∃ c' p' m', R = T4 c' kn p' m') ∧ BookOwn (fun x => w.heap.size < x ∧ x < wx.heap.size ∧ x ≠ zs) wx b3 R
theorem row2_set {w : World} {z : Nat} {u v a b : Value} (h : Row w z 2 (fun i => if i = 0 then u else v)) : Row ((w.setCell ⟨z, 0, none⟩ a).setCell ⟨z, 1, none⟩ b) z 2 (fun i => if i = 0 then a else b) :=
  ((h.set 0 _).set 1 _).congr (fun i hi => by
    match i, hi with
    | 0, _ => rfl
    | 1, _ => rfl)
theorem got_fin {Y : Nat → Prop} {w W : World} {C k zs : Nat} {b : BV} {c : Nat → Int} {kn : Nat} {p m : Nat → Nat → Int} {zb : Nat} {b3 : BV} {R : BD} {r : Bool} (hC : C < w.heap.size) (hY : ∀ x, Y x → x < w.heap.size) (h : TA Y w W C k zs (OnE zb) b c kn p m) (hz : Row W zb 2 (fun i => if i = 0 then .slice none 0 0 else .slice none 0 0)) (hzb : zb ≠ zs ∧ w.heap.size < zb) (hr : r = true → ∃ c' p' m', R = T4 c' kn p' m') (own : BookOwn (fun x => w.heap.size < x ∧ x < W.heap.size ∧ x ≠ zs ∧ ¬ OnE zb x) W b3 R) :
    Got Y w C k zs b c kn p m (.pointer (some ⟨zb, 0, none⟩)) (.bool r) ((W.setCell ⟨zb, 0, none⟩ (.slice b3.a1 R.n b3.c1)).setCell ⟨zb, 1, none⟩ (.slice b3.a2 R.D.n b3.c2)) := by
  have ms := set2_mod (X := fun x => x = zb) W rfl (.slice b3.a1 R.n b3.c1) (.slice b3.a2 R.D.n b3.c2)
  have hs := ms.size
  have hzl := h.zl
  refine ⟨zb, b3, R, r, rfl, rfl, ⟨h.mod.newer' ms (fun i hi => by omega), h.cur.mod ms (by omega) (fun x hx e => by have := hY x hx; omega), h.out.mod ms (by omega), by omega, h.box.mod ms (by omega), (h.own.mod ms (fun x hx e => hx.2.2.2 e)).mono (fun x hx => ⟨hx.1, by omega, hx.2.2.1, id⟩), h.kn⟩, row2_set hz, hzb.1, hzb.2, hr, (own.mod ms (fun x hx e => hx.2.2.2 e)).mono (fun x hx => ⟨hx.1, by omega, hx.2.2.1⟩)⟩
theorem got_yes {Y : Nat → Prop} {w wx : World} {C k zs : Nat} {b : BV} {c : Nat → Int} {kn : Nat} {p m : Nat → Nat → Int} {b3 : BV} {R : BD} (hC : C < w.heap.size) (hY : ∀ x, Y x → x < w.heap.size) (h : TA Y w wx C k zs NoE b c kn p m) (hn : ∃ c' p' m', R = T4 c' kn p' m') (own : BookOwn (fun x => w.heap.size < x ∧ x < wx.heap.size ∧ x ≠ zs) wx b3 R) :
    Tw Y w ((wx.setCell ⟨zs, 0, none⟩ (.slice b3.a1 R.n b3.c1)).setCell ⟨zs, 1, none⟩ (.slice b3.a2 R.D.n b3.c2)) C k zs := by
  obtain ⟨c', p', m', rfl⟩ := hn
  show Tw Y w ((wx.setCell ⟨zs, 0, none⟩ (.slice b3.a1 4 b3.c1)).setCell ⟨zs, 1, none⟩ (.slice b3.a2 kn b3.c2)) C k zs
  have ms := set2_mod (X := fun x => x = zs) wx rfl (.slice b3.a1 4 b3.c1) (.slice b3.a2 kn b3.c2)
  have hs := ms.size
  have hzl := h.zl
  exact ⟨b3, c', kn, p', m', ⟨h.mod.newer' ms (fun i hi => by omega), h.cur.mod ms (by omega) (fun x hx e => by have := hY x hx; omega), h.out.mod ms (by omega), by omega, row2_set h.box, (own.mod ms (fun x hx e => by omega)).mono (fun x hx => ⟨hx.1, by omega, hx.2.2, id⟩), h.kn⟩⟩
theorem TA.put {Y : Nat → Prop} {w W W2 : World} {C k zs : Nat} {b : BV} {c : Nat → Int} {kn : Nat} {p m : Nat → Nat → Int} {y : Nat} {c' : Nat → Int} {p' m' : Nat → Nat → Int} (h : TA Y w W C k zs NoE b c kn p m) (hC : C < w.heap.size) (hY : ∀ x, Y x → x < w.heap.size) (hy : w.heap.size < y ∧ y < W.heap.size ∧ y ≠ zs) (ms : Mod (fun x => x = y) W W2) (own : BookOwn (fun x => w.heap.size < x ∧ x < W.heap.size ∧ x ≠ zs ∧ ¬ NoE x) W2 b (T4 c' kn p' m')) : TA Y w W2 C k zs NoE b c' kn p' m' := by
  have hs := ms.size
  have hzl := h.zl
  exact ⟨h.mod.newer' ms (fun i hi => by omega), h.cur.mod ms (by omega) (fun x hx e => by have := hY x hx; omega), h.out.mod ms (by omega), by omega, h.box.mod ms (by omega), own.mono (fun x hx => ⟨hx.1, by omega, hx.2.2⟩), h.kn⟩
theorem tw_fin {Y : Nat → Prop} {w W : World} {C k zs : Nat} {b : BV} {c : Nat → Int} {kn : Nat} {p m : Nat → Nat → Int} {K : Nat} (hC : C < w.heap.size) (hY : ∀ x, Y x → x < w.heap.size) (h : TA Y w W C k zs NoE b c kn p m) (hk : k ≤ K) :
    BookOwn (fun x => w.heap.size < x ∧ x < ((W.setCell ⟨w.heap.size, 0, none⟩ (.slice b.a1 4 b.c1)).setCell ⟨w.heap.size, 1, none⟩ (.slice b.a2 kn b.c2)).heap.size) ((W.setCell ⟨w.heap.size, 0, none⟩ (.slice b.a1 4 b.c1)).setCell ⟨w.heap.size, 1, none⟩ (.slice b.a2 kn b.c2)) b (T4 c kn p m) ∧ Cur Y ((W.setCell ⟨w.heap.size, 0, none⟩ (.slice b.a1 4 b.c1)).setCell ⟨w.heap.size, 1, none⟩ (.slice b.a2 kn b.c2)) C K ∧ Mod (fun b => b = C) w ((W.setCell ⟨w.heap.size, 0, none⟩ (.slice b.a1 4 b.c1)).setCell ⟨w.heap.size, 1, none⟩ (.slice b.a2 kn b.c2)) := by
  have ms := set2_mod (X := fun x => x = w.heap.size) W rfl (.slice b.a1 4 b.c1) (.slice b.a2 kn b.c2)
  have hs := ms.size
  have hzl := h.zl
  exact ⟨(h.own.mod ms (fun x hx e => by omega)).mono (fun x hx => by omega), (h.cur.mod ms (by omega) (fun x hx e => by have := hY x hx; omega)).le hk, h.mod.newer' ms (fun i hi => by omega)⟩
theorem ch_shape {c : Nat → Int} {kn : Nat} {p m : Nat → Nat → Int} {a : Int} {P : Int → Int → Prop} {G : Int → Int} {y : Int} {R : BD} {r : Bool} (h : chOut (T4 c kn p m) a P G y R r) : r = true → ∃ c' p' m', R = T4 c' kn p' m' := by
  intro e
  rcases h with ⟨_, ⟨q, _, rfl⟩, _⟩ | ⟨_, _, e2⟩
  · exact ⟨_, _, _, rfl⟩
  · rw [e2] at e; cases e
theorem wrap1 (x : Nat) (h : (x : Int) < 1000) : IntKind.i64.wrap (1 + (x : Int)) = 1 + (x : Int) := by rw [IntKind.wrap_i64] <;> omega
theorem table_owned {X : Nat → Prop} {w : World} {b : BV} {c : Nat → Int} {kn : Nat} {p m : Nat → Nat → Int} (h : BookOwn X w b (T4 c kn p m)) (x : Int) :
    ∃ y, b.a1 = some ⟨y, 0, none⟩ ∧ X y ∧ w.cell? ⟨y, 0, none⟩ = some (.int .i64 (c 0)) ∧ w.frozen? ⟨y, 0, none⟩ = false ∧ BookOwn X (w.setCell ⟨y, 0, none⟩ (.int .i64 x)) b (T4 (upd c 0 x) kn p m) := by
  obtain ⟨X1, X2, d1, d2, hc, hl⟩ := h.ex
  obtain ⟨y, hy, ea, r⟩ := hc.2 (by show 0 < 4; omega)
  have nm : Mod (fun z => z = y) w (w.setCell ⟨y, 0, none⟩ (.int .i64 x)) := Mod.setCell (X := fun z => z = y) _ (p := ⟨y, 0, none⟩) rfl _
  refine ⟨y, ea, (d1 y hy).1, r.cell (i := 0) (by show 0 < 4; omega), r.frozen 0, X1, X2, d1, d2, ⟨by show 4 ≤ _; omega, fun _ => ⟨y, hy, ea, (r.set 0 _).congr (fun i hi => ?_)⟩⟩, hl.mod nm (fun z hz e => by subst e; exact (d1 z hy).2 hz)⟩
  by_cases e : i = 0
  · subst e; simp [upd]
  · simp [e, upd]
theorem table_leaf {X : Nat → Prop} {w : World} {b : BV} {c : Nat → Int} {kn : Nat} {p m : Nat → Nat → Int} (hk : 1 ≤ kn) (h : BookOwn X w b (T4 c kn p m)) :
    ∃ bl A C gb, b.a2 = some ⟨bl, 0, none⟩ ∧ w.cell? ⟨bl, 0, none⟩ = some (.slice (some ⟨gb, 0, none⟩) 4 C) ∧ X gb ∧ X bl ∧ gb ≠ bl ∧ A = gb ∧ w.cell? ⟨gb, 0, none⟩ = some (.int .i64 (p 0 0)) ∧ w.cell? ⟨gb, 1, none⟩ = some (.int .i64 (m 0 0)) ∧ w.frozen? ⟨gb, 0, none⟩ = false ∧ w.frozen? ⟨gb, 1, none⟩ = false ∧ ∀ x y : Int, BookOwn X ((w.setCell ⟨gb, 0, none⟩ (.int .i64 x)).setCell ⟨gb, 1, none⟩ (.int .i64 y)) b (T4 c kn (upd2 p 0 0 x) (upd2 m 0 0 y)) := by
  obtain ⟨X1, X2, d1, d2, hc, hl⟩ := h.ex
  obtain ⟨bl, A, Cc, Z, ea, hp⟩ := hl.2 hk
  obtain ⟨gb, eA, hX, hne, hr8, hs2, -⟩ := psin_leaf (q := 0) (j := 0) hp (by show 0 < kn; omega) (by omega)
  have c0 := hp.row.cell (i := 0) (by show 0 < kn; omega)
  dsimp only at c0
  rw [eA] at c0
  refine ⟨bl, gb, Cc 0, gb, ea, c0, d2 gb hX, d2 bl hp.hb, hne, rfl, by rw [hr8.cell (i := 0) (by omega)]; exact congrArg some (uc_at (p 0) (m 0) 0).1, by rw [hr8.cell (i := 1) (by omega)]; exact congrArg some (uc_at (p 0) (m 0) 0).2, hr8.frozen 0, hr8.frozen 1, fun x y => ?_⟩
  have nm : Mod (fun z => z = gb) w ((w.setCell ⟨gb, 0, none⟩ (.int .i64 x)).setCell ⟨gb, 1, none⟩ (.int .i64 y)) := set2_mod (X := fun z => z = gb) w rfl _ _
  exact ⟨X1, X2, d1, d2, ⟨hc.1, fun h0 => let ⟨g, hg, e, r⟩ := hc.2 h0; ⟨g, hg, e, r.mod nm (fun e2 => (d1 g hg).2 (e2 ▸ hX))⟩⟩, ⟨hl.1, fun _ => ⟨bl, A, Cc, Z, ea, hs2 x y⟩⟩⟩
end Go.Proofs.Ytcfdagmcnaepgaa
