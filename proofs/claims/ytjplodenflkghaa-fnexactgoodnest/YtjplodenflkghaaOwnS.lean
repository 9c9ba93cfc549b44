/- The model's copies of tables. -/
import Derived.Test.YtjplodenflkghaaNewI
namespace Go.Proofs.Ytjplodenflkghaa
open Go.RowKit
set_option linter.unusedSimpArgs false
set_option linter.unusedVariables false
theorem cloneU_run (ao : Option Addr) (n c : Nat) (f g : Nat → Int) (Y : Nat → Prop) (w : World) (hn : n ≤ 1048576) (h : UndosAt Y w ao n f g) :
    ∃ ao' cap w2, (Builtin.append_ #[147, 147] 147 #[.slice (some ⟨w.heap.size, 0, none⟩) 0 0, .slice ao n c]).run Try.prog (w.alloc (.cells #[] 144)) = .ok (.slice ao' n cap) w2 ∧ UndosOwn (fun x => w.heap.size ≤ x ∧ x < w2.heap.size) w2 ao' n f g ∧ Blw w w2 := by
  have hA : Blw w (w.alloc (.cells #[] 144)) := (Blw.refl _).alloc _
  have hE : (w.alloc (.cells #[] 144)).heap[w.heap.size]? = some (.cells #[] 144 (0, 0)) := heap_alloc_new w _
  have hsz : (w.alloc (.cells #[] 144)).heap.size = w.heap.size + 1 := by simp
  obtain ⟨ao', cap, w2, hrun, hB, hM⟩ := BufU.append (Buf.lit (X := fun b => b = w.heap.size) hE 2 rfl (uc (fun _ => 0) (fun _ => 0))) c (h.blw hA) (by omega) 147
  rw [Nat.zero_add] at hrun hB
  rw [hsz] at hB
  obtain ⟨ao2, cap2, e', hO⟩ := BufU.own hB (by omega)
  cases e'
  have s2 := hM.size
  refine ⟨_, _, w2, hrun, (hO.mono (fun x hx => ⟨by omega, hx.2⟩)).congr (fun i hi => by simp [icat]), Mod.blw hA hM (fun i hi => by simp [Value.ownBlock] at hi; omega)⟩
theorem cloneI_run (ao : Option Addr) (n c : Nat) (f : Nat → Int) (Y : Nat → Prop) (w : World) (hn : n ≤ 1048576) (h : IntsAt Y w ao n f) :
    ∃ ao' cap w2, (Builtin.append_ #[26, 26] 26 #[.slice (some ⟨w.heap.size, 0, none⟩) 0 0, .slice ao n c]).run Try.prog (w.alloc (.cells #[] 3)) = .ok (.slice ao' n cap) w2 ∧ IntsOwn (fun x => w.heap.size ≤ x ∧ x < w2.heap.size) w2 ao' n f ∧ Blw w w2 := by
  have hA : Blw w (w.alloc (.cells #[] 3)) := (Blw.refl _).alloc _
  have hE : (w.alloc (.cells #[] 3)).heap[w.heap.size]? = some (.cells #[] 3 (0, 0)) := heap_alloc_new w _
  have hsz : (w.alloc (.cells #[] 3)).heap.size = w.heap.size + 1 := by simp
  obtain ⟨ao', cap, w2, hrun, hB, hM⟩ := BufI.append (Buf.lit (X := fun b => b = w.heap.size) hE 1 rfl (ic (fun _ => 0))) c (h.blw hA) (by omega) 26
  rw [Nat.zero_add] at hrun hB
  rw [hsz] at hB
  obtain ⟨ao2, cap2, e', hO⟩ := BufI.own hB (by omega)
  cases e'
  have s2 := hM.size
  refine ⟨_, _, w2, hrun, (hO.mono (fun x hx => ⟨by omega, hx.2⟩)).congr (fun i hi => by simp [icat]), Mod.blw hA hM (fun i hi => by simp [Value.ownBlock] at hi; omega)⟩
set_option maxRecDepth 10000 in
set_option maxHeartbeats 3200000 in
theorem l6Own_any (b : BV) (c : Nat → Int) (kn : Nat) (len : Nat → Nat) (p m : Nat → Nat → Int) (Y : Nat → Prop) (w : World) (hk : kn ≤ 4) (hlen : ∀ i, i < kn → len i = 4) (h : BookAt Y w b ⟨4, c, ⟨kn, len, p, m⟩⟩) :
    Calls Try.prog 108 #[b.val ⟨4, c, ⟨kn, len, p, m⟩⟩] w fun e w' => ∃ b' : BV, e = .returned (b'.val ⟨4, c, ⟨kn, fun _ => 4, p, m⟩⟩) ∧ BookOwn (fun x => w.heap.size ≤ x ∧ x < w'.heap.size) w' b' ⟨4, c, ⟨kn, fun _ => 4, p, m⟩⟩ ∧ Blw w w' := by
  obtain ⟨a1, a2, q1, q2⟩ := b
  simp only [BV.val] at *
  have hA1 : Blw w (w.alloc (.cells #[.slice a1 4 q1, .slice a2 kn q2] 29)) := (Blw.refl _).alloc _
  have hA2 : Blw (w.alloc (.cells #[.slice a1 4 q1, .slice a2 kn q2] 29)) ((w.alloc (.cells #[.slice a1 4 q1, .slice a2 kn q2] 29)).alloc (.cells #[.slice none 0 0, .slice none 0 0] 29)) := (Blw.refl _).alloc _
  have hb0 := hA1.trans hA2
  have rA := (box2 w (.slice a1 4 q1) (.slice a2 kn q2) 29).blw hA2
  have rR := box2 (w.alloc (.cells #[.slice a1 4 q1, .slice a2 kn q2] 29)) (.slice none 0 0) (.slice none 0 0) 29
  rw [World.size_alloc] at rR
  have hsz : ((w.alloc (.cells #[.slice a1 4 q1, .slice a2 kn q2] 29)).alloc (.cells #[.slice none 0 0, .slice none 0 0] 29)).heap.size = w.heap.size + 1 + 1 := by simp
  have HL : Hid (PSAt Y w a2 ⟨kn, len, p, m⟩) := h.l
  have HC : Hid (IntsAt Y ((w.alloc (.cells #[.slice a1 4 q1, .slice a2 kn q2] 29)).alloc (.cells #[.slice none 0 0, .slice none 0 0] 29)) a1 4 c) := h.c.blw hb0
  have HLEN : Hid (∀ i, i < kn → len i = 4) := hlen
  clear h hA1 hA2 hlen
  go_enter Try.func108, Try.ntmps108
  go_upto_region 1 with fail
  revert hb0 rA rR hsz HC
  generalize ((w.alloc (.cells #[.slice a1 4 q1, .slice a2 kn q2] 29)).alloc (.cells #[.slice none 0 0, .slice none 0 0] 29)) = w0
  intro hb0 rA rR hsz HC
  obtain ⟨ao, cap, w1, hrun, o1, hb1⟩ := cloneI_run a1 4 q1 c Y w0 (by omega) HC.out
  have HRN : Hid _ := hrun
  have hA3 : Blw w1 (w1.alloc (.cells #[.slice ao 4 cap, .slice none 0 0] 29)) := (Blw.refl _).alloc _
  have HBX : Hid (Row (w1.alloc (.cells #[.slice ao 4 cap, .slice none 0 0] 29)) w1.heap.size 2 (fun i => if i = 0 then .slice ao 4 cap else .slice none 0 0)) := box2 w1 _ _ 29
  have HO : Hid (IntsOwn (fun x => w.heap.size + 1 + 1 ≤ x ∧ x < w1.heap.size) (w1.alloc (.cells #[.slice ao 4 cap, .slice none 0 0] 29)) ao 4 c) := (o1.mono (fun x hx => ⟨by omega, hx.2⟩)).blw hA3
  have HB : Hid (Blw w (w1.alloc (.cells #[.slice ao 4 cap, .slice none 0 0] 29))) := hb0.trans (hb1.trans hA3)
  have HR : Hid (Row (w1.alloc (.cells #[.slice ao 4 cap, .slice none 0 0] 29)) (w.heap.size + 1) 2 (fun i => if i = 0 then .slice none 0 0 else .slice none 0 0)) := rR.blw (hb1.trans hA3)
  have HZ : Hid (w.heap.size + 1 + 1 ≤ w1.heap.size) := by have := hb1.size; show _ ≤ _; omega
  have r1 := rA.blw hb1
  have r2 := r1.blw hA3
  obtain ⟨p0, p1⟩ := get2 rA
  obtain ⟨p4, p5⟩ := get2 (rA.blw ((Blw.refl w0).alloc (.cells #[] 3)))
  obtain ⟨p2, p3⟩ := get2 r2
  clear hrun o1 hb1 hA3 hb0 rA rR hsz HC r1 r2
  go_wp2_with (first | (at_builtin; refine wpList_app (.tmp 6) (.tmp 8) 26 (by rfl) ?_; refine ⟨_, _, HRN.out, ?_⟩) | fail)
  clear p0 p1 p2 p3 p4 p5 HRN
  generalize w1.alloc (.cells #[.slice ao 4 cap, .slice none 0 0] 29) = W at *
  generalize w1.heap.size = zt at *
  go_loopw [14] (fun i wr => ∃ j : Nat, j ≤ kn ∧ i = .int .i64 j ∧ ∃ v A C ZB Z, Row wr zt 2 (fun i => if i = 0 then .slice ao 4 cap else v) ∧ Tl (zt + 1) wr v j A C p m ZB Z ∧ IntsOwn (fun x => w.heap.size + 1 + 1 ≤ x ∧ x < zt) wr ao 4 c ∧ Row wr (w.heap.size + 1) 2 (fun i => if i = 0 then .slice none 0 0 else .slice none 0 0) ∧ Blw w wr) (fun i _ => kn - (intOf i).toNat)
  case atStart => exact ⟨0, Nat.zero_le _, rfl, _, _, _, _, _, HBX.out, Tl.nil _ _ _ _, HO.out, HR.out, HB.out⟩
  case round =>
    clear HBX HO HB HR
    obtain ⟨j, hj, rfl, v, A, C, ZB, Z, hbx, htl, ho, hr, hb⟩ := hrel
    have HO : Hid (IntsOwn (fun x => w.heap.size + 1 + 1 ≤ x ∧ x < zt) wr ao 4 c) := ho
    have HR : Hid (Row wr (w.heap.size + 1) 2 (fun i => if i = 0 then .slice none 0 0 else .slice none 0 0)) := hr
    have HB : Hid (Blw w wr) := hb
    have HTL : Hid (Tl (zt + 1) wr v j A C p m ZB Z) := htl
    have HBX : Hid (Row wr zt 2 (fun i => if i = 0 then .slice ao 4 cap else v)) := hbx
    clear ho hr hb htl hbx
    by_cases hlt : j < kn
    · have hlt' : (j : Int) < (kn : Int) := by omega
      have hL := HL.out.blw HB.out
      obtain ⟨bb, oo, aa, cc, ea, hyb, g1, g2⟩ := hL.2 j hlt
      subst ea
      dsimp only at g1 g2
      rw [HLEN.out j hlt] at g1 g2
      have HU : Hid (UndosAt Y wr.drew aa 4 (p j) (m j)) := g2.blw (Blw.refl _).drew
      clear g2 hL
      go_upto_region 5 with fail
      replace HO : Hid (IntsOwn (fun x => w.heap.size + 1 + 1 ≤ x ∧ x < zt) wr.drew ao 4 c) := HO.out.blw (Blw.refl _).drew
      replace HR : Hid (Row wr.drew (w.heap.size + 1) 2 (fun i => if i = 0 then .slice none 0 0 else .slice none 0 0)) := HR.out.blw (Blw.refl _).drew
      replace HB : Hid (Blw w wr.drew) := HB.out.drew
      replace HTL : Hid (Tl (zt + 1) wr.drew v j A C p m ZB Z) := HTL.out.go (Blw.refl _).drew
      replace HBX : Hid (Row wr.drew zt 2 (fun i => if i = 0 then .slice ao 4 cap else v)) := HBX.out.blw (Blw.refl _).drew
      clear g1
      have P1 : ∀ w', Row w' zt 2 (fun i => if i = 0 then .slice ao 4 cap else v) → w'.cell? ⟨zt, 1, none⟩ = some v := fun w' hh => (get2 hh).2
      have pa := P1 _ HBX.out
      have pb := P1 _ (HBX.out.blw ((Blw.refl wr.drew).alloc (.cells #[] 144)))
      obtain ⟨au, cu, w2, hrun, o2, hb2⟩ := cloneU_run aa 4 cc (p j) (m j) Y wr.drew (by omega) HU.out
      have pc := P1 _ (HBX.out.blw hb2)
      have pd := P1 _ (HBX.out.blw (hb2.trans ((Blw.refl w2).alloc (.cells #[.slice au 4 cu] 147))))
      obtain ⟨an, cn, w3, ZB', hrun2, htl2, hM⟩ := HTL.out.push hb2 (by have := HBX.out.lt; omega) (Nat.le_refl _) hb2.size o2 (cap := cu) (by omega)
      have hM2 := (hb2.mod ZB).trans hM
      have hzb : ∀ x, ZB x → zt + 1 ≤ x := fun x hx => (HTL.out.zb x hx).1
      have hzt := HZ.out
      have hS3 := HBX.out.mod hM2 (fun h => by have := hzb _ h; omega)
      have ms : Mod (fun x => x = zt) w3 (w3.setCell ⟨zt, 1, none⟩ (.slice an (j + 1) cn)) := Mod.setCell (X := fun x => x = zt) _ (p := ⟨zt, 1, none⟩) rfl _
      have HN : Hid (∃ v A C ZB Z, Row (w3.setCell ⟨zt, 1, none⟩ (.slice an (j + 1) cn)) zt 2 (fun i => if i = 0 then .slice ao 4 cap else v) ∧ Tl (zt + 1) (w3.setCell ⟨zt, 1, none⟩ (.slice an (j + 1) cn)) v (j + 1) A C p m ZB Z ∧ IntsOwn (fun x => w.heap.size + 1 + 1 ≤ x ∧ x < zt) (w3.setCell ⟨zt, 1, none⟩ (.slice an (j + 1) cn)) ao 4 c ∧ Row (w3.setCell ⟨zt, 1, none⟩ (.slice an (j + 1) cn)) (w.heap.size + 1) 2 (fun i => if i = 0 then .slice none 0 0 else .slice none 0 0) ∧ Blw w (w3.setCell ⟨zt, 1, none⟩ (.slice an (j + 1) cn))) :=
        ⟨_, _, _, _, _, set2_1 hS3 (.slice an (j + 1) cn), htl2.mod ms (fun x hx => by omega), (HO.out.mod hM2 (fun x hx h => by have := hzb _ h; omega)).mod ms (fun x hx => by omega), (HR.out.mod hM2 (fun h => by have := hzb _ h; omega)).mod ms (by omega), Mod.blw (Mod.blw HB.out hM2 (fun i hi => by have := hzb _ hi; omega)) ms (fun i hi => by omega)⟩
      have f1 := hS3.frozen 1
      have p1 := (get2 hS3).2
      have HRN : Hid _ := hrun
      have HRN2 : Hid _ := hrun2
      clear HU o2 hb2 hrun hrun2 htl2 hM hM2 hzb hzt hS3 ms HO HR HB HTL HBX P1
      refine wp_region_noPanic ?_
      refine wp_region_held_drew (S := fun _ => True) (by kernel_rfl) trivial (fun hB => ?_)
      clear hB
      generalize wr.drew = wd at *
      refine wpAnyH_take (i := 0) (oi := { dst := some 18, op := Op.fieldAddr 29 (Operand.tmp 3) 1, type := 0, pos := _, after := #[], guard := none }) (v := (.pointer (some ⟨zt, 1, none⟩))) rfl (by kernel_rfl) (by kernel_rfl) (by kernel_rfl) (fun _ _ _ h => h) (Or.inl ⟨by rfl, fun w' hS => by (try dsimp only at hS); go_simp⟩) trivial ?_
      simp only [Act.put, List.setIfInBounds_toArray, List.set_cons_zero, List.set_cons_succ]
      refine wpAnyH_take (i := 3) (oi := { dst := some 21, op := Op.move (Operand.tmp 5), type := 147, pos := _, after := #[], guard := none }) (v := (.slice aa 4 cc)) rfl (by kernel_rfl) (by kernel_rfl) (by kernel_rfl) (fun _ _ _ h => h) (Or.inl ⟨by rfl, fun w' hS => by (try dsimp only at hS); go_simp⟩) trivial ?_
      simp only [Act.put, List.setIfInBounds_toArray, List.set_cons_zero, List.set_cons_succ]
      refine wpAnyH_ready (rs := [1, 2]) (by kernel_rfl) (by simp) ?_
      refine AllReadyH.cons (o := { dst := some 19, op := Op.load 27 (Operand.tmp 18), type := 27, pos := _, after := #[{ on := 0, ground := Ground.data }], guard := none }) rfl (fun K hK => ?_) (AllReadyH.cons (o := { dst := some 20, op := Op.buildSlice 147 0 #[], type := 147, pos := _, after := #[], guard := none }) rfl (fun K hK => ?_) AllReadyH.nil)
      · go_simp
        refine hK.out _ _ trivial (fun hB => ?_)
        clear hK K hB
        try simp only [Act.put, List.setIfInBounds_toArray, List.set_cons_zero, List.set_cons_succ]
        refine wpAnyH_ready (rs := [2]) (by kernel_rfl) (by simp) ?_
        refine AllReadyH.cons (o := { dst := some 20, op := Op.buildSlice 147 0 #[], type := 147, pos := _, after := #[], guard := none }) rfl (fun K hK => ?_) AllReadyH.nil
        go_simp
        refine hK.out _ _ trivial (fun hB => ?_)
        clear hK K hB
        try simp only [Act.put, List.setIfInBounds_toArray, List.set_cons_zero, List.set_cons_succ]
        refine wpAnyH_ready (rs := [4]) (by kernel_rfl) (by simp) ?_
        refine AllReadyH.cons (o := { dst := some 22, op := Op.call { callee := Callee.builtin Builtin.append, args := #[Operand.tmp 20, Operand.tmp 21], argTypes := #[147, 147] }, type := 147, pos := _, after := #[{ on := 2, ground := Ground.data }, { on := 3, ground := Ground.data }], guard := none }) rfl (fun K hK => ?_) AllReadyH.nil
        refine step_app (.tmp 20) (.tmp 21) 147 (by rfl) ?_
        refine ⟨_, _, HRN.out, ?_⟩
        refine hK.out _ _ trivial (fun hB => ?_)
        clear hK K hB
        try simp only [Act.put, List.setIfInBounds_toArray, List.set_cons_zero, List.set_cons_succ]
        refine wpAnyH_ready (rs := [5]) (by kernel_rfl) (by simp) ?_
        refine AllReadyH.cons (o := { dst := some 23, op := Op.buildSlice 27 1 #[(0, Operand.tmp 22)], type := 27, pos := _, after := #[{ on := 4, ground := Ground.data }], guard := none }) rfl (fun K hK => ?_) AllReadyH.nil
        go_simp
        refine hK.out _ _ trivial (fun hB => ?_)
        clear hK K hB
        try simp only [Act.put, List.setIfInBounds_toArray, List.set_cons_zero, List.set_cons_succ]
        refine wpAnyH_ready (rs := [6]) (by kernel_rfl) (by simp) ?_
        refine AllReadyH.cons (o := { dst := some 24, op := Op.call { callee := Callee.builtin Builtin.append, args := #[Operand.tmp 19, Operand.tmp 23], argTypes := #[27, 27] }, type := 27, pos := _, after := #[{ on := 1, ground := Ground.data }, { on := 5, ground := Ground.data }, { on := 4, ground := Ground.chain }], guard := none }) rfl (fun K hK => ?_) AllReadyH.nil
        refine step_app (.tmp 19) (.tmp 23) 27 (by rfl) ?_
        refine ⟨_, _, HRN2.out, ?_⟩
        refine hK.out _ _ trivial (fun hB => ?_)
        clear hK K hB
        try simp only [Act.put, List.setIfInBounds_toArray, List.set_cons_zero, List.set_cons_succ]
        refine wpAnyH_take (i := 7) (oi := { dst := some 25, op := Op.fieldAddr 29 (Operand.tmp 3) 1, type := 0, pos := _, after := #[{ on := 0, ground := Ground.phase }, { on := 1, ground := Ground.phase }, { on := 2, ground := Ground.phase }, { on := 3, ground := Ground.phase }, { on := 4, ground := Ground.phase }, { on := 5, ground := Ground.phase }, { on := 6, ground := Ground.phase }], guard := none }) (v := (.pointer (some ⟨zt, 1, none⟩))) rfl (by kernel_rfl) (by kernel_rfl) (by kernel_rfl) (fun _ _ _ h => h) (Or.inl ⟨by rfl, fun w' hS => by (try dsimp only at hS); go_simp⟩) trivial ?_
        simp only [Act.put, List.setIfInBounds_toArray, List.set_cons_zero, List.set_cons_succ]
        refine wpAnyH_ready (rs := [8]) (by kernel_rfl) (by simp) ?_
        refine AllReadyH.cons (o := { dst := none, op := Op.store 27 (Operand.tmp 25) (Operand.tmp 24), type := 0, pos := _, after := #[{ on := 7, ground := Ground.data }, { on := 6, ground := Ground.data }, { on := 6, ground := Ground.chain }, { on := 0, ground := Ground.phase }, { on := 1, ground := Ground.phase }, { on := 2, ground := Ground.phase }, { on := 3, ground := Ground.phase }, { on := 4, ground := Ground.phase }, { on := 5, ground := Ground.phase }, { on := 6, ground := Ground.phase }], guard := none }) rfl (fun K hK => ?_) AllReadyH.nil
        go_simp
        refine hK.out _ _ trivial (fun hB => ?_)
        clear hK K hB
        try simp only [Act.put, List.setIfInBounds_toArray, List.set_cons_zero, List.set_cons_succ]
        refine wpAnyH_done (by kernel_rfl) ?_ _
        refine NoPanic.normal ?_
        clear pa pb pc pd f1 p1 HRN HRN2
        go_wp2
        go_roundw
        case rel => exact ⟨j + 1, by omega, by go_num, HN.out⟩
        case measure => simp [intOf]; omega
      · go_simp
        refine hK.out _ _ trivial (fun hB => ?_)
        clear hK K hB
        try simp only [Act.put, List.setIfInBounds_toArray, List.set_cons_zero, List.set_cons_succ]
        refine wpAnyH_ready (rs := [1, 4]) (by kernel_rfl) (by simp) ?_
        refine AllReadyH.cons (o := { dst := some 19, op := Op.load 27 (Operand.tmp 18), type := 27, pos := _, after := #[{ on := 0, ground := Ground.data }], guard := none }) rfl (fun K hK => ?_) (AllReadyH.cons (o := { dst := some 22, op := Op.call { callee := Callee.builtin Builtin.append, args := #[Operand.tmp 20, Operand.tmp 21], argTypes := #[147, 147] }, type := 147, pos := _, after := #[{ on := 2, ground := Ground.data }, { on := 3, ground := Ground.data }], guard := none }) rfl (fun K hK => ?_) AllReadyH.nil)
        · go_simp
          refine hK.out _ _ trivial (fun hB => ?_)
          clear hK K hB
          try simp only [Act.put, List.setIfInBounds_toArray, List.set_cons_zero, List.set_cons_succ]
          refine wpAnyH_ready (rs := [4]) (by kernel_rfl) (by simp) ?_
          refine AllReadyH.cons (o := { dst := some 22, op := Op.call { callee := Callee.builtin Builtin.append, args := #[Operand.tmp 20, Operand.tmp 21], argTypes := #[147, 147] }, type := 147, pos := _, after := #[{ on := 2, ground := Ground.data }, { on := 3, ground := Ground.data }], guard := none }) rfl (fun K hK => ?_) AllReadyH.nil
          refine step_app (.tmp 20) (.tmp 21) 147 (by rfl) ?_
          refine ⟨_, _, HRN.out, ?_⟩
          refine hK.out _ _ trivial (fun hB => ?_)
          clear hK K hB
          try simp only [Act.put, List.setIfInBounds_toArray, List.set_cons_zero, List.set_cons_succ]
          refine wpAnyH_ready (rs := [5]) (by kernel_rfl) (by simp) ?_
          refine AllReadyH.cons (o := { dst := some 23, op := Op.buildSlice 27 1 #[(0, Operand.tmp 22)], type := 27, pos := _, after := #[{ on := 4, ground := Ground.data }], guard := none }) rfl (fun K hK => ?_) AllReadyH.nil
          go_simp
          refine hK.out _ _ trivial (fun hB => ?_)
          clear hK K hB
          try simp only [Act.put, List.setIfInBounds_toArray, List.set_cons_zero, List.set_cons_succ]
          refine wpAnyH_ready (rs := [6]) (by kernel_rfl) (by simp) ?_
          refine AllReadyH.cons (o := { dst := some 24, op := Op.call { callee := Callee.builtin Builtin.append, args := #[Operand.tmp 19, Operand.tmp 23], argTypes := #[27, 27] }, type := 27, pos := _, after := #[{ on := 1, ground := Ground.data }, { on := 5, ground := Ground.data }, { on := 4, ground := Ground.chain }], guard := none }) rfl (fun K hK => ?_) AllReadyH.nil
          refine step_app (.tmp 19) (.tmp 23) 27 (by rfl) ?_
          refine ⟨_, _, HRN2.out, ?_⟩
          refine hK.out _ _ trivial (fun hB => ?_)
          clear hK K hB
          try simp only [Act.put, List.setIfInBounds_toArray, List.set_cons_zero, List.set_cons_succ]
          refine wpAnyH_take (i := 7) (oi := { dst := some 25, op := Op.fieldAddr 29 (Operand.tmp 3) 1, type := 0, pos := _, after := #[{ on := 0, ground := Ground.phase }, { on := 1, ground := Ground.phase }, { on := 2, ground := Ground.phase }, { on := 3, ground := Ground.phase }, { on := 4, ground := Ground.phase }, { on := 5, ground := Ground.phase }, { on := 6, ground := Ground.phase }], guard := none }) (v := (.pointer (some ⟨zt, 1, none⟩))) rfl (by kernel_rfl) (by kernel_rfl) (by kernel_rfl) (fun _ _ _ h => h) (Or.inl ⟨by rfl, fun w' hS => by (try dsimp only at hS); go_simp⟩) trivial ?_
          simp only [Act.put, List.setIfInBounds_toArray, List.set_cons_zero, List.set_cons_succ]
          refine wpAnyH_ready (rs := [8]) (by kernel_rfl) (by simp) ?_
          refine AllReadyH.cons (o := { dst := none, op := Op.store 27 (Operand.tmp 25) (Operand.tmp 24), type := 0, pos := _, after := #[{ on := 7, ground := Ground.data }, { on := 6, ground := Ground.data }, { on := 6, ground := Ground.chain }, { on := 0, ground := Ground.phase }, { on := 1, ground := Ground.phase }, { on := 2, ground := Ground.phase }, { on := 3, ground := Ground.phase }, { on := 4, ground := Ground.phase }, { on := 5, ground := Ground.phase }, { on := 6, ground := Ground.phase }], guard := none }) rfl (fun K hK => ?_) AllReadyH.nil
          go_simp
          refine hK.out _ _ trivial (fun hB => ?_)
          clear hK K hB
          try simp only [Act.put, List.setIfInBounds_toArray, List.set_cons_zero, List.set_cons_succ]
          refine wpAnyH_done (by kernel_rfl) ?_ _
          refine NoPanic.normal ?_
          clear pa pb pc pd f1 p1 HRN HRN2
          go_wp2
          go_roundw
          case rel => exact ⟨j + 1, by omega, by go_num, HN.out⟩
          case measure => simp [intOf]; omega
        · refine step_app (.tmp 20) (.tmp 21) 147 (by rfl) ?_
          refine ⟨_, _, HRN.out, ?_⟩
          refine hK.out _ _ trivial (fun hB => ?_)
          clear hK K hB
          try simp only [Act.put, List.setIfInBounds_toArray, List.set_cons_zero, List.set_cons_succ]
          refine wpAnyH_ready (rs := [1, 5]) (by kernel_rfl) (by simp) ?_
          refine AllReadyH.cons (o := { dst := some 19, op := Op.load 27 (Operand.tmp 18), type := 27, pos := _, after := #[{ on := 0, ground := Ground.data }], guard := none }) rfl (fun K hK => ?_) (AllReadyH.cons (o := { dst := some 23, op := Op.buildSlice 27 1 #[(0, Operand.tmp 22)], type := 27, pos := _, after := #[{ on := 4, ground := Ground.data }], guard := none }) rfl (fun K hK => ?_) AllReadyH.nil)
          · go_simp
            refine hK.out _ _ trivial (fun hB => ?_)
            clear hK K hB
            try simp only [Act.put, List.setIfInBounds_toArray, List.set_cons_zero, List.set_cons_succ]
            refine wpAnyH_ready (rs := [5]) (by kernel_rfl) (by simp) ?_
            refine AllReadyH.cons (o := { dst := some 23, op := Op.buildSlice 27 1 #[(0, Operand.tmp 22)], type := 27, pos := _, after := #[{ on := 4, ground := Ground.data }], guard := none }) rfl (fun K hK => ?_) AllReadyH.nil
            go_simp
            refine hK.out _ _ trivial (fun hB => ?_)
            clear hK K hB
            try simp only [Act.put, List.setIfInBounds_toArray, List.set_cons_zero, List.set_cons_succ]
            refine wpAnyH_ready (rs := [6]) (by kernel_rfl) (by simp) ?_
            refine AllReadyH.cons (o := { dst := some 24, op := Op.call { callee := Callee.builtin Builtin.append, args := #[Operand.tmp 19, Operand.tmp 23], argTypes := #[27, 27] }, type := 27, pos := _, after := #[{ on := 1, ground := Ground.data }, { on := 5, ground := Ground.data }, { on := 4, ground := Ground.chain }], guard := none }) rfl (fun K hK => ?_) AllReadyH.nil
            refine step_app (.tmp 19) (.tmp 23) 27 (by rfl) ?_
            refine ⟨_, _, HRN2.out, ?_⟩
            refine hK.out _ _ trivial (fun hB => ?_)
            clear hK K hB
            try simp only [Act.put, List.setIfInBounds_toArray, List.set_cons_zero, List.set_cons_succ]
            refine wpAnyH_take (i := 7) (oi := { dst := some 25, op := Op.fieldAddr 29 (Operand.tmp 3) 1, type := 0, pos := _, after := #[{ on := 0, ground := Ground.phase }, { on := 1, ground := Ground.phase }, { on := 2, ground := Ground.phase }, { on := 3, ground := Ground.phase }, { on := 4, ground := Ground.phase }, { on := 5, ground := Ground.phase }, { on := 6, ground := Ground.phase }], guard := none }) (v := (.pointer (some ⟨zt, 1, none⟩))) rfl (by kernel_rfl) (by kernel_rfl) (by kernel_rfl) (fun _ _ _ h => h) (Or.inl ⟨by rfl, fun w' hS => by (try dsimp only at hS); go_simp⟩) trivial ?_
            simp only [Act.put, List.setIfInBounds_toArray, List.set_cons_zero, List.set_cons_succ]
            refine wpAnyH_ready (rs := [8]) (by kernel_rfl) (by simp) ?_
            refine AllReadyH.cons (o := { dst := none, op := Op.store 27 (Operand.tmp 25) (Operand.tmp 24), type := 0, pos := _, after := #[{ on := 7, ground := Ground.data }, { on := 6, ground := Ground.data }, { on := 6, ground := Ground.chain }, { on := 0, ground := Ground.phase }, { on := 1, ground := Ground.phase }, { on := 2, ground := Ground.phase }, { on := 3, ground := Ground.phase }, { on := 4, ground := Ground.phase }, { on := 5, ground := Ground.phase }, { on := 6, ground := Ground.phase }], guard := none }) rfl (fun K hK => ?_) AllReadyH.nil
            go_simp
            refine hK.out _ _ trivial (fun hB => ?_)
            clear hK K hB
            try simp only [Act.put, List.setIfInBounds_toArray, List.set_cons_zero, List.set_cons_succ]
            refine wpAnyH_done (by kernel_rfl) ?_ _
            refine NoPanic.normal ?_
            clear pa pb pc pd f1 p1 HRN HRN2
            go_wp2
            go_roundw
            case rel => exact ⟨j + 1, by omega, by go_num, HN.out⟩
            case measure => simp [intOf]; omega
          · go_simp
            refine hK.out _ _ trivial (fun hB => ?_)
            clear hK K hB
            try simp only [Act.put, List.setIfInBounds_toArray, List.set_cons_zero, List.set_cons_succ]
            refine wpAnyH_ready (rs := [1]) (by kernel_rfl) (by simp) ?_
            refine AllReadyH.cons (o := { dst := some 19, op := Op.load 27 (Operand.tmp 18), type := 27, pos := _, after := #[{ on := 0, ground := Ground.data }], guard := none }) rfl (fun K hK => ?_) AllReadyH.nil
            go_simp
            refine hK.out _ _ trivial (fun hB => ?_)
            clear hK K hB
            try simp only [Act.put, List.setIfInBounds_toArray, List.set_cons_zero, List.set_cons_succ]
            refine wpAnyH_ready (rs := [6]) (by kernel_rfl) (by simp) ?_
            refine AllReadyH.cons (o := { dst := some 24, op := Op.call { callee := Callee.builtin Builtin.append, args := #[Operand.tmp 19, Operand.tmp 23], argTypes := #[27, 27] }, type := 27, pos := _, after := #[{ on := 1, ground := Ground.data }, { on := 5, ground := Ground.data }, { on := 4, ground := Ground.chain }], guard := none }) rfl (fun K hK => ?_) AllReadyH.nil
            refine step_app (.tmp 19) (.tmp 23) 27 (by rfl) ?_
            refine ⟨_, _, HRN2.out, ?_⟩
            refine hK.out _ _ trivial (fun hB => ?_)
            clear hK K hB
            try simp only [Act.put, List.setIfInBounds_toArray, List.set_cons_zero, List.set_cons_succ]
            refine wpAnyH_take (i := 7) (oi := { dst := some 25, op := Op.fieldAddr 29 (Operand.tmp 3) 1, type := 0, pos := _, after := #[{ on := 0, ground := Ground.phase }, { on := 1, ground := Ground.phase }, { on := 2, ground := Ground.phase }, { on := 3, ground := Ground.phase }, { on := 4, ground := Ground.phase }, { on := 5, ground := Ground.phase }, { on := 6, ground := Ground.phase }], guard := none }) (v := (.pointer (some ⟨zt, 1, none⟩))) rfl (by kernel_rfl) (by kernel_rfl) (by kernel_rfl) (fun _ _ _ h => h) (Or.inl ⟨by rfl, fun w' hS => by (try dsimp only at hS); go_simp⟩) trivial ?_
            simp only [Act.put, List.setIfInBounds_toArray, List.set_cons_zero, List.set_cons_succ]
            refine wpAnyH_ready (rs := [8]) (by kernel_rfl) (by simp) ?_
            refine AllReadyH.cons (o := { dst := none, op := Op.store 27 (Operand.tmp 25) (Operand.tmp 24), type := 0, pos := _, after := #[{ on := 7, ground := Ground.data }, { on := 6, ground := Ground.data }, { on := 6, ground := Ground.chain }, { on := 0, ground := Ground.phase }, { on := 1, ground := Ground.phase }, { on := 2, ground := Ground.phase }, { on := 3, ground := Ground.phase }, { on := 4, ground := Ground.phase }, { on := 5, ground := Ground.phase }, { on := 6, ground := Ground.phase }], guard := none }) rfl (fun K hK => ?_) AllReadyH.nil
            go_simp
            refine hK.out _ _ trivial (fun hB => ?_)
            clear hK K hB
            try simp only [Act.put, List.setIfInBounds_toArray, List.set_cons_zero, List.set_cons_succ]
            refine wpAnyH_done (by kernel_rfl) ?_ _
            refine NoPanic.normal ?_
            clear pa pb pc pd f1 p1 HRN HRN2
            go_wp2
            go_roundw
            case rel => exact ⟨j + 1, by omega, by go_num, HN.out⟩
            case measure => simp [intOf]; omega
    · obtain rfl : j = kn := by omega
      obtain ⟨al, cl, rfl, own⟩ := HTL.out.ps (by omega)
      have hzt := HZ.out
      have hlt2 := HBX.out.lt
      have own' : BookOwn (fun x => w.heap.size + 1 < x ∧ x < wr.heap.size) wr ⟨ao, al, cap, cl⟩ ⟨4, c, ⟨j, fun _ => 4, p, m⟩⟩ := ⟨fun x => w.heap.size + 1 + 1 ≤ x ∧ x < zt, fun x => zt + 1 ≤ x ∧ x < wr.heap.size, fun x hx => ⟨⟨by omega, by omega⟩, by omega⟩, fun x hx => ⟨by omega, hx.2⟩, HO.out, own⟩
      have hm := set2_mod (X := fun x => x = w.heap.size + 1) wr rfl (.slice ao 4 cap) (.slice al j cl)
      have hs := hm.size
      have FIN : Hid (∃ b' : BV, Ending.returned ((BV.mk ao al cap cl).val ⟨4, c, ⟨j, fun _ => 4, p, m⟩⟩) = .returned (b'.val ⟨4, c, ⟨j, fun _ => 4, p, m⟩⟩) ∧ BookOwn (fun x => w.heap.size ≤ x ∧ x < ((wr.setCell ⟨w.heap.size + 1, 0, none⟩ (.slice ao 4 cap)).setCell ⟨w.heap.size + 1, 1, none⟩ (.slice al j cl)).heap.size) ((wr.setCell ⟨w.heap.size + 1, 0, none⟩ (.slice ao 4 cap)).setCell ⟨w.heap.size + 1, 1, none⟩ (.slice al j cl)) b' ⟨4, c, ⟨j, fun _ => 4, p, m⟩⟩ ∧ Blw w ((wr.setCell ⟨w.heap.size + 1, 0, none⟩ (.slice ao 4 cap)).setCell ⟨w.heap.size + 1, 1, none⟩ (.slice al j cl))) :=
        ⟨_, rfl, (own'.mod hm (fun x hx => by omega)).mono (fun x hx => by omega), set2_blw HB.out (by omega) _ _⟩
      obtain ⟨t0, t1⟩ := get2 HR.out
      obtain ⟨s0, s1⟩ := get2 HBX.out
      have f0 := HR.out.frozen 0
      have f1 := HR.out.frozen 1
      clear own own' hm hs HTL HO HR HB HBX hzt hlt2
      go_wp2
      exact bodyPost_ret (v := .agg #[.slice ao 4 cap, .slice al j cl]) (by simp [results, Try.results108, go_sem, t0, t1]) rfl FIN.out
end Go.Proofs.Ytjplodenflkghaa
