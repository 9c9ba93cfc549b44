/- FnMapped: the walk. -/
import Derived.Test.YtcfdagmcnaepgaaJoin8
namespace Go.Proofs.Ytcfdagmcnaepgaa
open Go.RowKit
set_option linter.unusedSimpArgs false
set_option linter.unusedVariables false
theorem walked_fact {B R : BD} {a g y : Int} (h : chOut B a (fun _ oy => oy = 0 ∧ pgOK g ∧ mayOK y) (fun _ => g) y R true) {k : Nat} {p v : Int} {one : Bool} (k1 : 1 ≤ k) (k3 : k ≤ 3) (hw : wtOut R a (k : Int) p v one) : v = y ∧ ((hasMay y k ∧ one = true ∧ p = g) ∨ (¬ hasMay y k ∧ one = false)) := by
  by_cases hc : chOK R a (fun _ oy => ¬ oy = 0)
  · obtain ⟨q, hq⟩ := hc.2.2.2
    exact (mapped_fact h (Or.inl ⟨hc, ⟨q, hq, rfl⟩, rfl⟩)).2.2.2.2 k p v one k1 k3 hw
  · exact (mapped_fact h (Or.inr ⟨hc, rfl, rfl⟩)).2.2.2.2 k p v one k1 k3 hw
set_option maxRecDepth 10000 in
set_option maxHeartbeats 12800000 in
theorem lawMappedD (ao1 : Option Addr) (n1 c1 : Nat) (f1 : Nat → Int) (ao2 : Option Addr) (n2 c2 : Nat) (f2 : Nat → Int) (w : World) (h1 : BytesAt (fun b => b < w.heap.size) w ao1 n1 f1) (h2 : BytesAt (fun b => b < w.heap.size) w ao2 n2 f2) :
    Calls Try.prog 3 #[.slice ao1 n1 c1, .slice ao2 n2 c2] w fun e w' => e = .returned (.bool true) ∧ Blw w w' := by
  have H1 : Hid (BY w ao1 n1 f1) := h1
  have H2 : Hid (BY w ao2 n2 f2) := h2
  clear h1 h2
  go_enter Try.func3, Try.ntmps3
  by_cases hd : wrap64 ((n1 : Int) + n2) > 1048576
  · have d1 : decide (wrap64 ((n1 : Int) + n2) > 1048576) = true := by simpa using hd
    clear hd
    go_wp2
    go_ret
    exact ⟨rfl, Blw.refl _⟩
  have d1 : decide (wrap64 ((n1 : Int) + n2) > 1048576) = false := by simpa using hd
  clear hd
  have HB : Hid (Blw w w) := Blw.refl w
  go_wp2_with fail
  clear d1
  refine (drawMap_any ao1 n1 c1 f1 _ H1.out).mono ?_
  rintro e w1 ⟨b5, B5, a6, g7, m8, rfl, h4, hat, hb⟩
  have hnB5 : B5.n = 4 := h4
  have HNB5 : Hid (B5.n ≤ 1048576) := by show _ ≤ _; omega
  clear h4 hnB5
  have hA : Blw w1 (w1.alloc (.cells #[.slice b5.a1 B5.n b5.c1, .slice b5.a2 B5.D.n b5.c2] 26)) := (Blw.refl _).alloc _
  replace hb := hb.trans hA
  replace HB : Hid (Blw _ _) := Blw.trans HB.out hb
  clear hb
  have X5 : Hid (BX (w1.alloc (.cells #[.slice b5.a1 B5.n b5.c1, .slice b5.a2 B5.D.n b5.c2] 26)) w1.heap.size b5 B5) := ⟨(hat).blw hA |>.mono (fun x hx => by simp; omega), box2 w1 _ _ 26⟩
  clear hA
  clear hat
  clear H1
  obtain ⟨p00, p01⟩ := get2 X5.out.box
  go_wp2_with fail
  clear p00 p01
  refine (implMap_any b5 B5 a6 g7 m8 _ _ X5.out.at_ (fun x hx => hx)).mono ?_
  rintro e w2 ⟨b9, R9, r10, rfl, ho, hsz, own, hb⟩
  have O9 : Hid (chOut B5 a6 (fun _ oy => oy = 0 ∧ pgOK g7 ∧ mayOK m8) (fun _ => g7) m8 R9 r10) := ho
  clear ho hsz
  have hA : Blw w2 (w2.alloc (.cells #[.slice b9.a1 R9.n b9.c1, .slice b9.a2 R9.D.n b9.c2] 26)) := (Blw.refl _).alloc _
  replace hb := hb.trans hA
  replace HB : Hid (Blw _ _) := Blw.trans HB.out hb
  replace X5 : Hid (BX _ _ _ _) := BX.blw X5.out hb
  clear hb
  have X9 : Hid (BX (w2.alloc (.cells #[.slice b9.a1 R9.n b9.c1, .slice b9.a2 R9.D.n b9.c2] 26)) w2.heap.size b9 R9) := ⟨(own.at).blw hA |>.mono (fun x hx => by simp; omega), box2 w2 _ _ 26⟩
  clear hA
  clear own
  obtain ⟨p00, p01⟩ := get2 X5.out.box
  go_wp2_with fail
  clear p00 p01
  refine (specMap_any b5 B5 a6 g7 m8 _ _ HNB5.out X5.out.at_).mono ?_
  rintro e w3 ⟨b11, R11, r12, rfl, ho, hsz, own, hb⟩
  have O11 : Hid (chOut B5 a6 (fun _ oy => oy = 0 ∧ pgOK g7 ∧ mayOK m8) (fun _ => g7) m8 R11 r12) := ho
  clear ho hsz
  have hA : Blw w3 (w3.alloc (.cells #[.slice b11.a1 R11.n b11.c1, .slice b11.a2 R11.D.n b11.c2] 26)) := (Blw.refl _).alloc _
  replace hb := hb.trans hA
  replace HB : Hid (Blw _ _) := Blw.trans HB.out hb
  replace X5 : Hid (BX _ _ _ _) := BX.blw X5.out hb
  replace X9 : Hid (BX _ _ _ _) := BX.blw X9.out hb
  clear hb
  have X11 : Hid (BX (w3.alloc (.cells #[.slice b11.a1 R11.n b11.c1, .slice b11.a2 R11.D.n b11.c2] 26)) w3.heap.size b11 R11) := ⟨(own.at).blw hA |>.mono (fun x hx => by simp; omega), box2 w3 _ _ 26⟩
  clear hA
  clear own
  obtain ⟨eM, eb⟩ := chOut_same O11.out O9.out
  subst eM eb
  clear O11
  have hne : (r12 != r12) = false := by simp
  go_upto_region 6 with fail
  have hwd : Blw _ _ := (Blw.refl (w3.alloc (.cells #[.slice b11.a1 R11.n b11.c1, .slice b11.a2 R11.D.n b11.c2] 26))).drew
  have hb := hwd
  replace HB : Hid (Blw _ _) := Blw.trans HB.out hb
  replace X5 : Hid (BX _ _ _ _) := BX.blw X5.out hb
  replace X9 : Hid (BX _ _ _ _) := BX.blw X9.out hb
  replace X11 : Hid (BX _ _ _ _) := BX.blw X11.out hb
  clear hb
  clear hwd
  generalize w3.alloc (.cells #[.slice b11.a1 R11.n b11.c1, .slice b11.a2 R11.D.n b11.c2] 26) = wp at *
  obtain ⟨X5a, X5b⟩ := X5.out.all
  obtain ⟨X9a, X9b⟩ := X9.out.all
  obtain ⟨X11a, X11b⟩ := X11.out.all
  refine wp_region_noPanic ?_
  refine wp_region_held_drew (S := fun w' => Blw wp.drew w') (by kernel_rfl) (Blw.refl _) (fun hB => ?_)
  clear hB
  have hS0 := Blw.refl wp.drew
  generalize wp.drew = wd at *
  refine wpAnyH_take (i := 0) (oi := { dst := some 67, op := Op.move (Operand.tmp 10), type := 4, pos := _, after := #[], guard := none }) (v := (.bool r12)) rfl (by kernel_rfl) (by kernel_rfl) (by kernel_rfl) (fun _ _ _ h => h) (Or.inl ⟨by rfl, fun w' hS => by (try dsimp only at hS); go_simp⟩) (Blw.refl _) ?_
  simp only [Act.put, List.setIfInBounds_toArray, List.set_cons_zero, List.set_cons_succ]
  refine wpAnyH_take (i := 1) (oi := { dst := some 68, op := Op.move (Operand.tmp 12), type := 4, pos := _, after := #[], guard := none }) (v := (.bool r12)) rfl (by kernel_rfl) (by kernel_rfl) (by kernel_rfl) (fun _ _ _ h => h) (Or.inl ⟨by rfl, fun w' hS => by (try dsimp only at hS); go_simp⟩) (Blw.refl _) ?_
  simp only [Act.put, List.setIfInBounds_toArray, List.set_cons_zero, List.set_cons_succ]
  refine wpAnyH_take (i := 2) (oi := { dst := some 69, op := Op.binOp BinOp.neq 4 (Operand.tmp 67) (Operand.tmp 68) 4, type := 4, pos := _, after := #[{ on := 0, ground := Ground.data }, { on := 1, ground := Ground.data }], guard := none }) (v := (.bool false)) rfl (by kernel_rfl) (by kernel_rfl) (by kernel_rfl) (fun _ _ _ h => h) (Or.inl ⟨by rfl, fun w' hS => by (try dsimp only at hS); go_simp⟩) (Blw.refl _) ?_
  simp only [Act.put, List.setIfInBounds_toArray, List.set_cons_zero, List.set_cons_succ]
  refine wpAnyH_take (i := 3) (oi := { dst := some 70, op := Op.move (Operand.tmp 69), type := 4, pos := _, after := #[{ on := 2, ground := Ground.data }], guard := none }) (v := (.bool false)) rfl (by kernel_rfl) (by kernel_rfl) (by kernel_rfl) (fun _ _ _ h => h) (Or.inl ⟨by rfl, fun w' hS => by (try dsimp only at hS); go_simp⟩) (Blw.refl _) ?_
  simp only [Act.put, List.setIfInBounds_toArray, List.set_cons_zero, List.set_cons_succ]
  refine wpAnyH_take (i := 4) (oi := { dst := some 71, op := Op.load 26 (Operand.tmp 9), type := 26, pos := _, after := #[{ on := 3, ground := Ground.guard }], guard := some (3, false) }) (v := (.agg #[.slice b9.a1 R11.n b9.c1, .slice b9.a2 R11.D.n b9.c2])) rfl (by kernel_rfl) (by kernel_rfl) (by kernel_rfl) (fun _ _ _ h => h) (Or.inl ⟨by rfl, fun w' hS => by (try dsimp only at hS); go_simp⟩) (Blw.refl _) ?_
  simp only [Act.put, List.setIfInBounds_toArray, List.set_cons_zero, List.set_cons_succ]
  refine wpAnyH_take (i := 5) (oi := { dst := some 72, op := Op.load 26 (Operand.tmp 11), type := 26, pos := _, after := #[{ on := 3, ground := Ground.guard }], guard := some (3, false) }) (v := (.agg #[.slice b11.a1 R11.n b11.c1, .slice b11.a2 R11.D.n b11.c2])) rfl (by kernel_rfl) (by kernel_rfl) (by kernel_rfl) (fun _ _ _ h => h) (Or.inl ⟨by rfl, fun w' hS => by (try dsimp only at hS); go_simp⟩) (Blw.refl _) ?_
  simp only [Act.put, List.setIfInBounds_toArray, List.set_cons_zero, List.set_cons_succ]
  refine wpAnyH_ready (rs := [6]) (by kernel_rfl) (by simp) ?_
  refine AllReadyH.cons (o := { dst := some 73, op := Op.call { callee := Callee.value (Operand.func 11), args := #[Operand.tmp 71, Operand.tmp 72], argTypes := #[26, 26] }, type := 4, pos := _, after := #[{ on := 4, ground := Ground.data }, { on := 5, ground := Ground.data }, { on := 3, ground := Ground.chain }, { on := 3, ground := Ground.guard }], guard := some (3, false) }) rfl (fun K hK => ?_) AllReadyH.nil
  go_simp
  refine (sameTable_same b9 b11 R11 wd (X9.out.blw hS0).at_ (X11.out.blw hS0).at_).mono ?_
  rintro e y1 ⟨rfl, hb⟩
  have hB1 : Blw wd y1 := hb
  clear hb
  refine hK.out _ _ hB1 (fun hB => ?_)
  clear hK K hB
  try simp only [Act.put, List.setIfInBounds_toArray, List.set_cons_zero, List.set_cons_succ]
  refine wpAnyH_take (i := 7) (oi := { dst := some 74, op := Op.unOp UnOp.not 4 (Operand.tmp 73), type := 4, pos := _, after := #[{ on := 6, ground := Ground.data }, { on := 3, ground := Ground.guard }], guard := some (3, false) }) (v := (.bool false)) rfl (by kernel_rfl) (by kernel_rfl) (by kernel_rfl) (fun _ _ _ h => h) (Or.inl ⟨by rfl, fun w' hS => by (try dsimp only at hS); go_simp⟩) hB1 ?_
  simp only [Act.put, List.setIfInBounds_toArray, List.set_cons_zero, List.set_cons_succ]
  refine wpAnyH_take (i := 8) (oi := { dst := some 75, op := Op.pick (Operand.tmp 70) (Operand.const (Value.bool true)) (Operand.tmp 74), type := 4, pos := _, after := #[{ on := 3, ground := Ground.data }, { on := 7, ground := Ground.data }], guard := none }) (v := (.bool false)) rfl (by kernel_rfl) (by kernel_rfl) (by kernel_rfl) (fun _ _ _ h => h) (Or.inl ⟨by rfl, fun w' hS => by (try dsimp only at hS); go_simp⟩) hB1 ?_
  simp only [Act.put, List.setIfInBounds_toArray, List.set_cons_zero, List.set_cons_succ]
  refine wpAnyH_take (i := 9) (oi := { dst := some 76, op := Op.move (Operand.tmp 75), type := 4, pos := _, after := #[{ on := 8, ground := Ground.data }, { on := 6, ground := Ground.chain }], guard := none }) (v := (.bool false)) rfl (by kernel_rfl) (by kernel_rfl) (by kernel_rfl) (fun _ _ _ h => h) (Or.inl ⟨by rfl, fun w' hS => by (try dsimp only at hS); go_simp⟩) hB1 ?_
  simp only [Act.put, List.setIfInBounds_toArray, List.set_cons_zero, List.set_cons_succ]
  refine wpAnyH_take (i := 10) (oi := { dst := some 77, op := Op.load 26 (Operand.tmp 5), type := 26, pos := _, after := #[{ on := 9, ground := Ground.guard }], guard := some (9, false) }) (v := (.agg #[.slice b5.a1 B5.n b5.c1, .slice b5.a2 B5.D.n b5.c2])) rfl (by kernel_rfl) (by kernel_rfl) (by kernel_rfl) (fun _ _ _ h => h) (Or.inl ⟨by rfl, fun w' hS => by (try dsimp only at hS); go_simp⟩) hB1 ?_
  simp only [Act.put, List.setIfInBounds_toArray, List.set_cons_zero, List.set_cons_succ]
  refine wpAnyH_take (i := 12) (oi := { dst := some 79, op := Op.load 26 (Operand.tmp 5), type := 26, pos := _, after := #[{ on := 9, ground := Ground.guard }], guard := some (9, false) }) (v := (.agg #[.slice b5.a1 B5.n b5.c1, .slice b5.a2 B5.D.n b5.c2])) rfl (by kernel_rfl) (by kernel_rfl) (by kernel_rfl) (fun _ _ _ h => h) (Or.inl ⟨by rfl, fun w' hS => by (try dsimp only at hS); go_simp⟩) hB1 ?_
  simp only [Act.put, List.setIfInBounds_toArray, List.set_cons_zero, List.set_cons_succ]
  refine wpAnyH_ready (rs := [11]) (by kernel_rfl) (by simp) ?_
  refine AllReadyH.cons (o := { dst := some 78, op := Op.call { callee := Callee.value (Operand.func 12), args := #[Operand.tmp 77], argTypes := #[26] }, type := 4, pos := _, after := #[{ on := 10, ground := Ground.data }, { on := 9, ground := Ground.chain }, { on := 9, ground := Ground.guard }], guard := some (9, false) }) rfl (fun K hK => ?_) AllReadyH.nil
  go_simp
  refine (implGood_any b5 B5 _ y1 (X5.out.blw hB1).at_ (fun x hx => hx)).mono ?_
  rintro e y2 ⟨q1, rfl, hq1, hb⟩
  have hB2 : Blw wd y2 := hB1.trans hb
  clear hb
  refine hK.out _ _ hB2 (fun hB => ?_)
  clear hK K hB
  try simp only [Act.put, List.setIfInBounds_toArray, List.set_cons_zero, List.set_cons_succ]
  refine wpAnyH_ready (rs := [13]) (by kernel_rfl) (by simp) ?_
  refine AllReadyH.cons (o := { dst := some 80, op := Op.call { callee := Callee.value (Operand.func 13), args := #[Operand.tmp 79], argTypes := #[26] }, type := 4, pos := _, after := #[{ on := 12, ground := Ground.data }, { on := 11, ground := Ground.chain }, { on := 9, ground := Ground.guard }], guard := some (9, false) }) rfl (fun K hK => ?_) AllReadyH.nil
  go_simp
  refine (specGood_any b5 B5 _ y2 HNB5.out (X5.out.blw hB2).at_).mono ?_
  rintro e y3 ⟨q2, rfl, hq2, hb⟩
  have hB3 : Blw wd y3 := hB2.trans hb
  clear hb
  obtain rfl : q1 = q2 := by rw [Bool.eq_iff_iff, hq1, hq2]
  have hqq : (q1 != q1) = false := by simp
  refine hK.out _ _ hB3 (fun hB => ?_)
  clear hK K hB
  try simp only [Act.put, List.setIfInBounds_toArray, List.set_cons_zero, List.set_cons_succ]
  refine wpAnyH_take (i := 14) (oi := { dst := some 81, op := Op.binOp BinOp.neq 4 (Operand.tmp 78) (Operand.tmp 80) 4, type := 4, pos := _, after := #[{ on := 11, ground := Ground.data }, { on := 13, ground := Ground.data }, { on := 9, ground := Ground.guard }], guard := some (9, false) }) (v := (.bool false)) rfl (by kernel_rfl) (by kernel_rfl) (by kernel_rfl) (fun _ _ _ h => h) (Or.inl ⟨by rfl, fun w' hS => by (try dsimp only at hS); go_simp⟩) hB3 ?_
  simp only [Act.put, List.setIfInBounds_toArray, List.set_cons_zero, List.set_cons_succ]
  refine wpAnyH_take (i := 15) (oi := { dst := some 82, op := Op.pick (Operand.tmp 76) (Operand.const (Value.bool true)) (Operand.tmp 81), type := 4, pos := _, after := #[{ on := 9, ground := Ground.data }, { on := 14, ground := Ground.data }], guard := none }) (v := (.bool false)) rfl (by kernel_rfl) (by kernel_rfl) (by kernel_rfl) (fun _ _ _ h => h) (Or.inl ⟨by rfl, fun w' hS => by (try dsimp only at hS); go_simp⟩) hB3 ?_
  simp only [Act.put, List.setIfInBounds_toArray, List.set_cons_zero, List.set_cons_succ]
  refine wpAnyH_done (by kernel_rfl) ?_ _
  refine NoPanic.normal ?_
  have hb := hB3
  replace HB : Hid (Blw _ _) := Blw.trans HB.out hb
  replace X5 : Hid (BX _ _ _ _) := BX.blw X5.out hb
  replace X9 : Hid (BX _ _ _ _) := BX.blw X9.out hb
  replace X11 : Hid (BX _ _ _ _) := BX.blw X11.out hb
  clear hb
  clear hB1 hB2 hB3 hS0 hq1 hq2 hqq X5a X5b X9a X9b X11a X11b
  clear X11
  clear hne
  go_upto_if 83 with fail
  go_cut [] from 5 to 228 (fun wx => Blw w wx)
  case first =>
    cases r12
    · go_wp2_with fail
      go_meet
      exact HB.out
    · skip
      go_wp2_with fail
      generalize y3 = wl at *
      go_loopw [13] (fun v wr => ∃ k : Nat, 1 ≤ k ∧ k ≤ 4 ∧ v = .int .i64 k ∧ Blw wl wr) (fun v _ => 4 - (intOf v).toNat)
      case atStart => exact ⟨1, by omega, by omega, rfl, Blw.refl _⟩
      case round =>
        obtain ⟨k, k1, k4, rfl, hkb⟩ := hrel
        have HK : Hid (Blw wl wr) := hkb
        clear hkb
        by_cases hlt : k ≤ 3
        · have hlt' : (k : Int) ≤ 3 := by omega
          obtain ⟨p0, p1⟩ := get2 (X9.out.blw HK.out).box
          go_wp2_with fail
          clear p0 p1
          refine (implWalk_any b9 R11 a6 (k : Int) _ _ (X9.out.blw HK.out).at_ (fun x hx => hx)).mono ?_
          rintro e w4 ⟨p, v, one, rfl, ho, hb⟩
          have HKN : Hid (Blw wl w4) := HK.out.trans hb
          clear hb HK
          obtain ⟨ev, eo⟩ := walked_fact O9.out k1 hlt ho
          subst ev
          clear ho
          have dv : (v != v) = false := by simp
          rcases eo with ⟨hm, rfl, rfl⟩ | ⟨hm, rfl⟩
          · have dm : (bits .and .i64 v (k : Int) == (k : Int)) = true := by rw [show bits .and .i64 v (k : Int) = (k : Int) from hm]; simp
            have dp : (p != p) = false := by simp
            clear hm
            go_wp2
            go_roundw
            case rel => exact ⟨k + 1, by omega, by omega, by go_num, HKN.out⟩
            case measure => simp [intOf]; omega
          · have dm : (bits .and .i64 v (k : Int) == (k : Int)) = false := by rw [beq_eq_false_iff_ne]; exact hm
            clear hm
            go_wp2
            go_roundw
            case rel => exact ⟨k + 1, by omega, by omega, by go_num, HKN.out⟩
            case measure => simp [intOf]; omega
        · obtain rfl : k = 4 := by omega
          have hb := HK.out
          replace HB : Hid (Blw _ _) := Blw.trans HB.out hb
          replace X5 : Hid (BX _ _ _ _) := BX.blw X5.out hb
          replace X9 : Hid (BX _ _ _ _) := BX.blw X9.out hb
          clear hb
          clear HK
          obtain ⟨p00, p01⟩ := get2 X9.out.box
          go_wp2_with fail
          clear p00 p01
          refine (implUnmap_any b9 R11 a6 _ _ X9.out.at_ (fun x hx => hx)).mono ?_
          rintro e w7 ⟨b17, U17, r18, rfl, ho, hsz, own, hb⟩
          have O17 : Hid (chOut R11 a6 (fun _ oy => ¬ oy = 0) (fun _ => 0) 0 U17 r18) := ho
          clear ho hsz
          have hA : Blw w7 (w7.alloc (.cells #[.slice b17.a1 U17.n b17.c1, .slice b17.a2 U17.D.n b17.c2] 26)) := (Blw.refl _).alloc _
          replace hb := hb.trans hA
          replace HB : Hid (Blw _ _) := Blw.trans HB.out hb
          replace X5 : Hid (BX _ _ _ _) := BX.blw X5.out hb
          replace X9 : Hid (BX _ _ _ _) := BX.blw X9.out hb
          clear hb
          have X17 : Hid (BX (w7.alloc (.cells #[.slice b17.a1 U17.n b17.c1, .slice b17.a2 U17.D.n b17.c2] 26)) w7.heap.size b17 U17) := ⟨(own.at).blw hA |>.mono (fun x hx => by simp; omega), box2 w7 _ _ 26⟩
          clear hA
          clear own
          obtain ⟨e1, e2, e3, e4, -⟩ := mapped_fact O9.out O17.out
          subst e3
          have HG : Hid (R11.Good) := e1
          have HL1 : Hid (Like B5 R11 a6) := e2
          have HL2 : Hid (Like B5 U17 (-1)) := e4
          clear e1 e2 e4 O9 O17
          obtain ⟨p00, p01⟩ := get2 X9.out.box
          go_wp2_with fail
          clear p00 p01
          refine (implGood_any b9 R11 _ _ X9.out.at_ (fun x hx => hx)).mono ?_
          rintro e w8 ⟨gd, rfl, hg, hb⟩
          obtain rfl : gd = true := hg.2 HG.out
          clear hg HG
          replace HB : Hid (Blw _ _) := Blw.trans HB.out hb
          replace X5 : Hid (BX _ _ _ _) := BX.blw X5.out hb
          replace X9 : Hid (BX _ _ _ _) := BX.blw X9.out hb
          replace X17 : Hid (BX _ _ _ _) := BX.blw X17.out hb
          clear hb
          obtain ⟨p00, p01⟩ := get2 X5.out.box
          obtain ⟨p10, p11⟩ := get2 X9.out.box
          go_wp2_with fail
          clear p00 p01 p10 p11
          refine (sameElse_any b5 b9 B5 R11 a6 _ X5.out.at_ X9.out.at_ HL1.out).mono ?_
          rintro e w9 ⟨rfl, hb⟩
          replace HB : Hid (Blw _ _) := Blw.trans HB.out hb
          replace X5 : Hid (BX _ _ _ _) := BX.blw X5.out hb
          replace X9 : Hid (BX _ _ _ _) := BX.blw X9.out hb
          replace X17 : Hid (BX _ _ _ _) := BX.blw X17.out hb
          clear hb
          obtain ⟨p00, p01⟩ := get2 X5.out.box
          obtain ⟨p10, p11⟩ := get2 X17.out.box
          go_wp2_with fail
          clear p00 p01 p10 p11
          refine (sameElse_any b5 b17 B5 U17 (-1) _ X5.out.at_ X17.out.at_ HL2.out).mono ?_
          rintro e w10 ⟨rfl, hb⟩
          replace HB : Hid (Blw _ _) := Blw.trans HB.out hb
          replace X5 : Hid (BX _ _ _ _) := BX.blw X5.out hb
          replace X9 : Hid (BX _ _ _ _) := BX.blw X9.out hb
          replace X17 : Hid (BX _ _ _ _) := BX.blw X17.out hb
          clear hb
          go_wp2_with fail
          go_meet
          exact HB.out
  case rest =>
    have HC : Hid (Blw w wc) := hcut
    clear hcut HB X5 X9 O9
    replace H2 : Hid (BY _ _ _ _) := BY.blw H2.out HC.out
    go_wp2_with fail
    refine (drawWalk_any ao2 n2 c2 f2 _ H2.out).mono ?_
    rintro e v1 ⟨b19, B19, a20, k21, rfl, h4, hat, hb⟩
    have hnB19 : B19.n = 4 := h4
    have HNB19 : Hid (B19.n ≤ 1048576) := by show _ ≤ _; omega
    clear h4 hnB19
    have hA : Blw v1 (v1.alloc (.cells #[.slice b19.a1 B19.n b19.c1, .slice b19.a2 B19.D.n b19.c2] 26)) := (Blw.refl _).alloc _
    replace hb := hb.trans hA
    replace HC : Hid (Blw _ _) := Blw.trans HC.out hb
    replace H2 : Hid (BY _ _ _ _) := BY.blw H2.out hb
    clear hb
    have X19 : Hid (BX (v1.alloc (.cells #[.slice b19.a1 B19.n b19.c1, .slice b19.a2 B19.D.n b19.c2] 26)) v1.heap.size b19 B19) := ⟨(hat).blw hA |>.mono (fun x hx => by simp; omega), box2 v1 _ _ 26⟩
    clear hA
    clear hat
    obtain ⟨p00, p01⟩ := get2 X19.out.box
    go_wp2_with fail
    clear p00 p01
    refine (implWalk_any b19 B19 a20 k21 _ _ X19.out.at_ (fun x hx => hx)).mono ?_
    rintro e v2 ⟨p22, x23, o24, rfl, ho, hb⟩
    have O22 : Hid (wtOut B19 a20 k21 p22 x23 o24) := ho
    clear ho
    replace HC : Hid (Blw _ _) := Blw.trans HC.out hb
    replace H2 : Hid (BY _ _ _ _) := BY.blw H2.out hb
    replace X19 : Hid (BX _ _ _ _) := BX.blw X19.out hb
    clear hb
    obtain ⟨p00, p01⟩ := get2 X19.out.box
    go_wp2_with fail
    clear p00 p01
    refine (specWalk_any b19 B19 a20 k21 _ _ HNB19.out X19.out.at_).mono ?_
    rintro e v3 ⟨p25, x26, o27, rfl, ho, hb⟩
    have O25 : Hid (wtOut B19 a20 k21 p25 x26 o27) := ho
    clear ho
    replace HC : Hid (Blw _ _) := Blw.trans HC.out hb
    replace H2 : Hid (BY _ _ _ _) := BY.blw H2.out hb
    replace X19 : Hid (BX _ _ _ _) := BX.blw X19.out hb
    clear hb
    obtain ⟨e1, e2, e3⟩ := wtOut_same O25.out O22.out
    subst e1 e2 e3
    clear O25 O22
    clear X19
    go_wp2_with fail
    refine (drawProt_any ao2 n2 c2 f2 _ H2.out).mono ?_
    rintro e v4 ⟨b28, B28, a29, k30, rfl, h4, hat, hb⟩
    have hnB28 : B28.n = 4 := h4
    have HNB28 : Hid (B28.n ≤ 1048576) := by show _ ≤ _; omega
    clear h4 hnB28
    have hA : Blw v4 (v4.alloc (.cells #[.slice b28.a1 B28.n b28.c1, .slice b28.a2 B28.D.n b28.c2] 26)) := (Blw.refl _).alloc _
    replace hb := hb.trans hA
    replace HC : Hid (Blw _ _) := Blw.trans HC.out hb
    replace H2 : Hid (BY _ _ _ _) := BY.blw H2.out hb
    clear hb
    have X28 : Hid (BX (v4.alloc (.cells #[.slice b28.a1 B28.n b28.c1, .slice b28.a2 B28.D.n b28.c2] 26)) v4.heap.size b28 B28) := ⟨(hat).blw hA |>.mono (fun x hx => by simp; omega), box2 v4 _ _ 26⟩
    clear hA
    clear hat
    clear H2
    obtain ⟨p00, p01⟩ := get2 X28.out.box
    go_wp2_with fail
    clear p00 p01
    refine (implProt_any b28 B28 a29 k30 _ _ X28.out.at_ (fun x hx => hx)).mono ?_
    rintro e v5 ⟨b31, R31, r32, rfl, ho, hsz, own, hb⟩
    have O31 : Hid (chOut B28 a29 (fun _ oy => ¬ oy = 0 ∧ mayOK k30) (fun o => o) k30 R31 r32) := ho
    clear ho hsz
    have hA : Blw v5 (v5.alloc (.cells #[.slice b31.a1 R31.n b31.c1, .slice b31.a2 R31.D.n b31.c2] 26)) := (Blw.refl _).alloc _
    replace hb := hb.trans hA
    replace HC : Hid (Blw _ _) := Blw.trans HC.out hb
    replace X28 : Hid (BX _ _ _ _) := BX.blw X28.out hb
    clear hb
    have X31 : Hid (BX (v5.alloc (.cells #[.slice b31.a1 R31.n b31.c1, .slice b31.a2 R31.D.n b31.c2] 26)) v5.heap.size b31 R31) := ⟨(own.at).blw hA |>.mono (fun x hx => by simp; omega), box2 v5 _ _ 26⟩
    clear hA
    clear own
    obtain ⟨p00, p01⟩ := get2 X28.out.box
    go_wp2_with fail
    clear p00 p01
    refine (specProt_any b28 B28 a29 k30 _ _ HNB28.out X28.out.at_).mono ?_
    rintro e v6 ⟨b33, R33, r34, rfl, ho, hsz, own, hb⟩
    have O33 : Hid (chOut B28 a29 (fun _ oy => ¬ oy = 0 ∧ mayOK k30) (fun o => o) k30 R33 r34) := ho
    clear ho hsz
    have hA : Blw v6 (v6.alloc (.cells #[.slice b33.a1 R33.n b33.c1, .slice b33.a2 R33.D.n b33.c2] 26)) := (Blw.refl _).alloc _
    replace hb := hb.trans hA
    replace HC : Hid (Blw _ _) := Blw.trans HC.out hb
    replace X28 : Hid (BX _ _ _ _) := BX.blw X28.out hb
    replace X31 : Hid (BX _ _ _ _) := BX.blw X31.out hb
    clear hb
    have X33 : Hid (BX (v6.alloc (.cells #[.slice b33.a1 R33.n b33.c1, .slice b33.a2 R33.D.n b33.c2] 26)) v6.heap.size b33 R33) := ⟨(own.at).blw hA |>.mono (fun x hx => by simp; omega), box2 v6 _ _ 26⟩
    clear hA
    clear own
    obtain ⟨eM, eb⟩ := chOut_same O33.out O31.out
    subst eM eb
    clear O33
    have qo27 : (o27 != o27) = false := by simp
    have qp25 : (p25 != p25) = false := by simp
    have qx26 : (x26 != x26) = false := by simp
    have qr34 : (r34 != r34) = false := by simp
    obtain ⟨p00, p01⟩ := get2 X31.out.box
    obtain ⟨p10, p11⟩ := get2 X33.out.box
    go_wp2_with fail
    clear p00 p01 p10 p11
    refine (sameTable_same b31 b33 R33 _ X31.out.at_ X33.out.at_).mono ?_
    rintro e v7 ⟨rfl, hb⟩
    replace HC : Hid (Blw _ _) := Blw.trans HC.out hb
    replace X28 : Hid (BX _ _ _ _) := BX.blw X28.out hb
    replace X31 : Hid (BX _ _ _ _) := BX.blw X31.out hb
    replace X33 : Hid (BX _ _ _ _) := BX.blw X33.out hb
    clear hb
    clear X33
    clear qo27 qp25 qx26 qr34
    cases r34
    · go_wp2
      go_ret
      exact ⟨rfl, HC.out⟩
    obtain ⟨p00, p01⟩ := get2 X31.out.box
    go_wp2_with fail
    clear p00 p01
    refine (implWalk_any b31 R33 a29 k30 _ _ X31.out.at_ (fun x hx => hx)).mono ?_
    rintro e v8 ⟨p35, y36, f37, rfl, ho, hb⟩
    have O35 : Hid (wtOut R33 a29 k30 p35 y36 f37) := ho
    clear ho
    replace HC : Hid (Blw _ _) := Blw.trans HC.out hb
    replace X28 : Hid (BX _ _ _ _) := BX.blw X28.out hb
    replace X31 : Hid (BX _ _ _ _) := BX.blw X31.out hb
    clear hb
    obtain ⟨e1, e2, e3⟩ := prot_fact O31.out O35.out
    subst e1 e2
    have HL : Hid (Like B28 R33 a29) := e3
    clear e3 O31 O35
    have dy : (y36 == y36) = true := by simp
    obtain ⟨p00, p01⟩ := get2 X28.out.box
    obtain ⟨p10, p11⟩ := get2 X31.out.box
    go_wp2_with fail
    clear p00 p01 p10 p11
    refine (sameElse_any b28 b31 B28 R33 a29 _ X28.out.at_ X31.out.at_ HL.out).mono ?_
    rintro e v9 ⟨rfl, hb⟩
    replace HC : Hid (Blw _ _) := Blw.trans HC.out hb
    replace X28 : Hid (BX _ _ _ _) := BX.blw X28.out hb
    replace X31 : Hid (BX _ _ _ _) := BX.blw X31.out hb
    clear hb
    clear X28 X31
    go_wp2
    go_ret
    exact ⟨rfl, HC.out⟩
end Go.Proofs.Ytcfdagmcnaepgaa
