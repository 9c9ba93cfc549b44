/- Law 3: blocks that are taken and given back, for drawn owners. -/
import Derived.Test.YtfmmpddknanhbaaLawX
namespace Go.Proofs.Ytfmmpddknanhbaa
open Go.RowKit
set_option linter.unusedSimpArgs false
set_option linter.unusedVariables false
noncomputable def sumTo (c : Nat → Int) : Nat → Nat
  | 0 => 0
  | q + 1 => sumTo c q + (blocks c q).length * 2 ^ q
theorem sumTo_next (c : Nat → Int) (q : Nat) : sumTo c (q + 1) = sumTo c q + (blocks c q).length * 2 ^ q := rfl
theorem sum_le (c : Nat → Int) (q : Nat) (hq : q ≤ 5) : sumTo c q ≤ 1000 := by
  have h : ∀ i, (blocks c i).length ≤ 16 := fun i => pk_len _ _
  have h0 := h 0; have h1 := h 1; have h2 := h 2; have h3 := h 3; have h4 := h 4
  rcases (by omega : q = 0 ∨ q = 1 ∨ q = 2 ∨ q = 3 ∨ q = 4 ∨ q = 5) with rfl | rfl | rfl | rfl | rfl | rfl <;> simp only [sumTo, Nat.reducePow] <;> omega
theorem sumTo_all (c : Nat → Int) : sumTo c 5 = sumB c 16 := by
  simp only [sumTo, sumB, Nat.reducePow, Nat.zero_add]
  rfl
theorem shl_len (L q : Nat) (hL : L ≤ 16) (hq : q < 5) (w : World) : (Op.shift .shl .i64 (L : Int) .u64 (q : Int)).run Try.prog w = .ok (.int .i64 ((L * 2 ^ q : Nat) : Int)) w := by
  rcases (by omega : L = 0 ∨ L = 1 ∨ L = 2 ∨ L = 3 ∨ L = 4 ∨ L = 5 ∨ L = 6 ∨ L = 7 ∨ L = 8 ∨ L = 9 ∨ L = 10 ∨ L = 11 ∨ L = 12 ∨ L = 13 ∨ L = 14 ∨ L = 15 ∨ L = 16) with rfl | rfl | rfl | rfl | rfl | rfl | rfl | rfl | rfl | rfl | rfl | rfl | rfl | rfl | rfl | rfl | rfl <;> rcases (by omega : q = 0 ∨ q = 1 ∨ q = 2 ∨ q = 3 ∨ q = 4) with rfl | rfl | rfl | rfl | rfl <;> rfl
set_option maxRecDepth 10000 in
set_option maxHeartbeats 12800000 in
theorem lawBlocksP (ao1 : Option Addr) (n1 c1 : Nat) (f1 : Nat → Int) (ao2 : Option Addr) (n2 c2 : Nat) (f2 : Nat → Int) (w : World) (h1 : BytesAt (fun b => b < w.heap.size) w ao1 n1 f1) (h2 : BytesAt (fun b => b < w.heap.size) w ao2 n2 f2) :
    Calls Try.prog 3 #[.slice ao1 n1 c1, .slice ao2 n2 c2] w fun e w' => e = .returned (.bool true) ∧ Blw w w' := by
  have H1 : Hid (BY w ao1 n1 f1) := h1
  have H2 : Hid (BY w ao2 n2 f2) := h2
  clear h1 h2
  go_enter Try.func3, Try.ntmps3
  by_cases hd : wrap64 ((n1 : Int) + n2) > 1048576
  · have d1 : decide (wrap64 ((n1 : Int) + n2) > 1048576) = true := by simpa using hd
    clear hd
    go_wp2
    go_ret
    exact ⟨rfl, Blw.refl _⟩
  have d1 : decide (wrap64 ((n1 : Int) + n2) > 1048576) = false := by simpa using hd
  clear hd
  have HB : Hid (Blw w w) := Blw.refl w
  go_wp2_with fail
  clear d1
  refine (drawTake_any ao1 n1 c1 f1 _ H1.out).mono ?_
  rintro e w1 ⟨b5, c5, l5, o6, k7, rfl, hat, hb⟩
  have hA : Blw w1 (w1.alloc (.cells #[.slice b5.a1 16 b5.c1, .slice b5.a2 16 b5.c2] 25)) := (Blw.refl _).alloc _
  replace hb := hb.trans hA
  replace HB : Hid (Blw _ _) := Blw.trans HB.out hb
  clear hb
  have X5 : Hid (BX (w1.alloc (.cells #[.slice b5.a1 16 b5.c1, .slice b5.a2 16 b5.c2] 25)) w1.heap.size b5 ⟨16, c5, 16, l5⟩) := ⟨(hat).blw hA |>.mono (fun x hx => by simp; omega), box2 w1 _ _ 25⟩
  clear hA
  clear hat
  clear H1
  obtain ⟨p00, p01⟩ := get2 X5.out.box
  go_wp2_with fail
  clear p00 p01
  refine (implTake_any b5 ⟨16, c5, 16, l5⟩ o6 k7 _ _ X5.out.at_ (fun x hx => hx)).mono ?_
  rintro e w2 ⟨b8, R8, n9, r10, rfl, ho, hsz, own, hb⟩
  have O8 : Hid (resN (takeOK ⟨16, c5, 16, l5⟩ o6 k7) (taken ⟨16, c5, 16, l5⟩ o6 k7) (takeAt ⟨16, c5, 16, l5⟩ k7) R8 n9 r10) := ho
  clear ho hsz
  have hA : Blw w2 (w2.alloc (.cells #[.slice b8.a1 R8.n b8.c1, .slice b8.a2 R8.k b8.c2] 25)) := (Blw.refl _).alloc _
  replace hb := hb.trans hA
  replace HB : Hid (Blw _ _) := Blw.trans HB.out hb
  replace X5 : Hid (BX _ _ _ _) := BX.blw X5.out hb
  clear hb
  have X8 : Hid (BX (w2.alloc (.cells #[.slice b8.a1 R8.n b8.c1, .slice b8.a2 R8.k b8.c2] 25)) w2.heap.size b8 R8) := ⟨(own.at).blw hA |>.mono (fun x hx => by simp; omega), box2 w2 _ _ 25⟩
  clear hA
  clear own
  obtain ⟨p00, p01⟩ := get2 X5.out.box
  go_wp2_with fail
  clear p00 p01
  refine (specTake_any b5 ⟨16, c5, 16, l5⟩ o6 k7 _ _ X5.out.at_ (fun x hx => hx)).mono ?_
  rintro e w3 ⟨b11, R11, n12, r13, rfl, ho, hsz, own, hb⟩
  have O11 : Hid (resN (takeOK ⟨16, c5, 16, l5⟩ o6 k7) (taken ⟨16, c5, 16, l5⟩ o6 k7) (takeAt ⟨16, c5, 16, l5⟩ k7) R11 n12 r13) := ho
  clear ho hsz
  have hA : Blw w3 (w3.alloc (.cells #[.slice b11.a1 R11.n b11.c1, .slice b11.a2 R11.k b11.c2] 25)) := (Blw.refl _).alloc _
  replace hb := hb.trans hA
  replace HB : Hid (Blw _ _) := Blw.trans HB.out hb
  replace X5 : Hid (BX _ _ _ _) := BX.blw X5.out hb
  replace X8 : Hid (BX _ _ _ _) := BX.blw X8.out hb
  clear hb
  have X11 : Hid (BX (w3.alloc (.cells #[.slice b11.a1 R11.n b11.c1, .slice b11.a2 R11.k b11.c2] 25)) w3.heap.size b11 R11) := ⟨(own.at).blw hA |>.mono (fun x hx => by simp; omega), box2 w3 _ _ 25⟩
  clear hA
  clear own
  obtain ⟨eM, en, eb⟩ := resN_same O11.out O8.out
  subst eM en eb
  clear O11
  have hne : (r13 != r13) = false := by simp
  have hne2 : (n12 != n12) = false := by simp
  go_upto_region 6 with fail
  obtain ⟨w4, hw4⟩ : ∃ w4, w3.alloc (.cells #[.slice b11.a1 R11.n b11.c1, .slice b11.a2 R11.k b11.c2] 25) = w4 := ⟨_, rfl⟩
  rw [hw4] at HB X5 X8 X11 ⊢
  clear hw4
  go_cut [90] from 70 to 90 (fun c wx => c = .bool false ∧ Blw w4 wx)
  case first =>
    obtain ⟨P0, P1⟩ := X5.out.all
    obtain ⟨Q0, Q1⟩ := X8.out.all
    obtain ⟨Z0, Z1⟩ := X11.out.all
    refine wp_region_noPanic ?_
    refine wp_region_held_drew (S := fun w' => Blw w4 w') (by kernel_rfl) ((Blw.refl _).drew) (fun hB1 => ?_)
    revert hB1
    generalize w4.drew = wd1
    intro hB1
    refine wpAnyH_take (i := 0) (oi := { dst := some 70, op := Op.move (Operand.tmp 10), type := 4, pos := _, after := #[], guard := none }) (v := (.bool r13)) rfl (by kernel_rfl) (by kernel_rfl) (by kernel_rfl) (fun _ _ _ h => h) (Or.inl ⟨by rfl, fun w' hS => by (try dsimp only at hS); go_simp⟩) hB1 ?_
    simp only [Act.put, List.setIfInBounds_toArray, List.set_cons_zero, List.set_cons_succ]
    refine wpAnyH_take (i := 1) (oi := { dst := some 71, op := Op.move (Operand.tmp 13), type := 4, pos := _, after := #[], guard := none }) (v := (.bool r13)) rfl (by kernel_rfl) (by kernel_rfl) (by kernel_rfl) (fun _ _ _ h => h) (Or.inl ⟨by rfl, fun w' hS => by (try dsimp only at hS); go_simp⟩) hB1 ?_
    simp only [Act.put, List.setIfInBounds_toArray, List.set_cons_zero, List.set_cons_succ]
    refine wpAnyH_take (i := 2) (oi := { dst := some 72, op := Op.binOp BinOp.neq 4 (Operand.tmp 70) (Operand.tmp 71) 4, type := 4, pos := _, after := #[{ on := 0, ground := Ground.data }, { on := 1, ground := Ground.data }], guard := none }) (v := (.bool false)) rfl (by kernel_rfl) (by kernel_rfl) (by kernel_rfl) (fun _ _ _ h => h) (Or.inl ⟨by rfl, fun w' hS => by (try dsimp only at hS); go_simp⟩) hB1 ?_
    simp only [Act.put, List.setIfInBounds_toArray, List.set_cons_zero, List.set_cons_succ]
    refine wpAnyH_take (i := 3) (oi := { dst := some 73, op := Op.move (Operand.tmp 72), type := 4, pos := _, after := #[{ on := 2, ground := Ground.data }], guard := none }) (v := (.bool false)) rfl (by kernel_rfl) (by kernel_rfl) (by kernel_rfl) (fun _ _ _ h => h) (Or.inl ⟨by rfl, fun w' hS => by (try dsimp only at hS); go_simp⟩) hB1 ?_
    simp only [Act.put, List.setIfInBounds_toArray, List.set_cons_zero, List.set_cons_succ]
    refine wpAnyH_take (i := 4) (oi := { dst := some 74, op := Op.move (Operand.tmp 9), type := 3, pos := _, after := #[{ on := 3, ground := Ground.guard }], guard := some (3, false) }) (v := (.int .i64 n12)) rfl (by kernel_rfl) (by kernel_rfl) (by kernel_rfl) (fun _ _ _ h => h) (Or.inl ⟨by rfl, fun w' hS => by (try dsimp only at hS); go_simp⟩) hB1 ?_
    simp only [Act.put, List.setIfInBounds_toArray, List.set_cons_zero, List.set_cons_succ]
    refine wpAnyH_take (i := 5) (oi := { dst := some 75, op := Op.move (Operand.tmp 12), type := 3, pos := _, after := #[{ on := 3, ground := Ground.guard }], guard := some (3, false) }) (v := (.int .i64 n12)) rfl (by kernel_rfl) (by kernel_rfl) (by kernel_rfl) (fun _ _ _ h => h) (Or.inl ⟨by rfl, fun w' hS => by (try dsimp only at hS); go_simp⟩) hB1 ?_
    simp only [Act.put, List.setIfInBounds_toArray, List.set_cons_zero, List.set_cons_succ]
    refine wpAnyH_take (i := 6) (oi := { dst := some 76, op := Op.binOp BinOp.neq 3 (Operand.tmp 74) (Operand.tmp 75) 3, type := 4, pos := _, after := #[{ on := 4, ground := Ground.data }, { on := 5, ground := Ground.data }, { on := 3, ground := Ground.guard }], guard := some (3, false) }) (v := (.bool false)) rfl (by kernel_rfl) (by kernel_rfl) (by kernel_rfl) (fun _ _ _ h => h) (Or.inl ⟨by rfl, fun w' hS => by (try dsimp only at hS); go_simp⟩) hB1 ?_
    simp only [Act.put, List.setIfInBounds_toArray, List.set_cons_zero, List.set_cons_succ]
    refine wpAnyH_take (i := 7) (oi := { dst := some 77, op := Op.pick (Operand.tmp 73) (Operand.const (Value.bool true)) (Operand.tmp 76), type := 4, pos := _, after := #[{ on := 3, ground := Ground.data }, { on := 6, ground := Ground.data }], guard := none }) (v := (.bool false)) rfl (by kernel_rfl) (by kernel_rfl) (by kernel_rfl) (fun _ _ _ h => h) (Or.inl ⟨by rfl, fun w' hS => by (try dsimp only at hS); go_simp⟩) hB1 ?_
    simp only [Act.put, List.setIfInBounds_toArray, List.set_cons_zero, List.set_cons_succ]
    refine wpAnyH_take (i := 8) (oi := { dst := some 78, op := Op.move (Operand.tmp 77), type := 4, pos := _, after := #[{ on := 7, ground := Ground.data }, { on := 3, ground := Ground.chain }], guard := none }) (v := (.bool false)) rfl (by kernel_rfl) (by kernel_rfl) (by kernel_rfl) (fun _ _ _ h => h) (Or.inl ⟨by rfl, fun w' hS => by (try dsimp only at hS); go_simp⟩) hB1 ?_
    simp only [Act.put, List.setIfInBounds_toArray, List.set_cons_zero, List.set_cons_succ]
    refine wpAnyH_take (i := 9) (oi := { dst := some 79, op := Op.load 25 (Operand.tmp 8), type := 25, pos := _, after := #[{ on := 8, ground := Ground.guard }], guard := some (8, false) }) (v := (.agg #[.slice b8.a1 R11.n b8.c1, .slice b8.a2 R11.k b8.c2])) rfl (by kernel_rfl) (by kernel_rfl) (by kernel_rfl) (fun _ _ _ h => h) (Or.inl ⟨by rfl, fun w' hS => by (try dsimp only at hS); go_simp⟩) hB1 ?_
    simp only [Act.put, List.setIfInBounds_toArray, List.set_cons_zero, List.set_cons_succ]
    refine wpAnyH_take (i := 10) (oi := { dst := some 80, op := Op.load 25 (Operand.tmp 11), type := 25, pos := _, after := #[{ on := 8, ground := Ground.guard }], guard := some (8, false) }) (v := (.agg #[.slice b11.a1 R11.n b11.c1, .slice b11.a2 R11.k b11.c2])) rfl (by kernel_rfl) (by kernel_rfl) (by kernel_rfl) (fun _ _ _ h => h) (Or.inl ⟨by rfl, fun w' hS => by (try dsimp only at hS); go_simp⟩) hB1 ?_
    simp only [Act.put, List.setIfInBounds_toArray, List.set_cons_zero, List.set_cons_succ]
    refine wpAnyH_ready (rs := [11]) (by kernel_rfl) (by simp) ?_
    refine AllReadyH.cons (o := { dst := some 81, op := Op.call { callee := Callee.value (Operand.func 17), args := #[Operand.tmp 79, Operand.tmp 80], argTypes := #[25, 25] }, type := 4, pos := _, after := #[{ on := 9, ground := Ground.data }, { on := 10, ground := Ground.data }, { on := 8, ground := Ground.chain }, { on := 8, ground := Ground.guard }], guard := some (8, false) }) rfl (fun K hK => ?_) AllReadyH.nil
    go_simp
    refine (sameOwners_same b8 b11 R11 _ (X8.out.at_.blw hB1) (X11.out.at_.blw hB1)).mono ?_
    rintro e wA ⟨rfl, hbA⟩
    refine hK.out _ _ (hB1.trans hbA) (fun hB2 => ?_)
    clear hK K
    try simp only [Act.put, List.setIfInBounds_toArray, List.set_cons_zero, List.set_cons_succ]
    refine wpAnyH_take (i := 12) (oi := { dst := some 82, op := Op.unOp UnOp.not 4 (Operand.tmp 81), type := 4, pos := _, after := #[{ on := 11, ground := Ground.data }, { on := 8, ground := Ground.guard }], guard := some (8, false) }) (v := (.bool false)) rfl (by kernel_rfl) (by kernel_rfl) (by kernel_rfl) (fun _ _ _ h => h) (Or.inl ⟨by rfl, fun w' hS => by (try dsimp only at hS); go_simp⟩) hB2 ?_
    simp only [Act.put, List.setIfInBounds_toArray, List.set_cons_zero, List.set_cons_succ]
    refine wpAnyH_take (i := 13) (oi := { dst := some 83, op := Op.pick (Operand.tmp 78) (Operand.const (Value.bool true)) (Operand.tmp 82), type := 4, pos := _, after := #[{ on := 8, ground := Ground.data }, { on := 12, ground := Ground.data }], guard := none }) (v := (.bool false)) rfl (by kernel_rfl) (by kernel_rfl) (by kernel_rfl) (fun _ _ _ h => h) (Or.inl ⟨by rfl, fun w' hS => by (try dsimp only at hS); go_simp⟩) hB2 ?_
    simp only [Act.put, List.setIfInBounds_toArray, List.set_cons_zero, List.set_cons_succ]
    refine wpAnyH_take (i := 14) (oi := { dst := some 84, op := Op.move (Operand.tmp 83), type := 4, pos := _, after := #[{ on := 13, ground := Ground.data }, { on := 11, ground := Ground.chain }], guard := none }) (v := (.bool false)) rfl (by kernel_rfl) (by kernel_rfl) (by kernel_rfl) (fun _ _ _ h => h) (Or.inl ⟨by rfl, fun w' hS => by (try dsimp only at hS); go_simp⟩) hB2 ?_
    simp only [Act.put, List.setIfInBounds_toArray, List.set_cons_zero, List.set_cons_succ]
    refine wpAnyH_take (i := 15) (oi := { dst := some 85, op := Op.load 25 (Operand.tmp 5), type := 25, pos := _, after := #[{ on := 14, ground := Ground.guard }], guard := some (14, false) }) (v := (.agg #[.slice b5.a1 16 b5.c1, .slice b5.a2 16 b5.c2])) rfl (by kernel_rfl) (by kernel_rfl) (by kernel_rfl) (fun _ _ _ h => h) (Or.inl ⟨by rfl, fun w' hS => by (try dsimp only at hS); go_simp⟩) hB2 ?_
    simp only [Act.put, List.setIfInBounds_toArray, List.set_cons_zero, List.set_cons_succ]
    refine wpAnyH_take (i := 17) (oi := { dst := some 87, op := Op.load 25 (Operand.tmp 5), type := 25, pos := _, after := #[{ on := 14, ground := Ground.guard }], guard := some (14, false) }) (v := (.agg #[.slice b5.a1 16 b5.c1, .slice b5.a2 16 b5.c2])) rfl (by kernel_rfl) (by kernel_rfl) (by kernel_rfl) (fun _ _ _ h => h) (Or.inl ⟨by rfl, fun w' hS => by (try dsimp only at hS); go_simp⟩) hB2 ?_
    simp only [Act.put, List.setIfInBounds_toArray, List.set_cons_zero, List.set_cons_succ]
    refine wpAnyH_ready (rs := [16]) (by kernel_rfl) (by simp) ?_
    refine AllReadyH.cons (o := { dst := some 86, op := Op.call { callee := Callee.value (Operand.func 18), args := #[Operand.tmp 85], argTypes := #[25] }, type := 4, pos := _, after := #[{ on := 15, ground := Ground.data }, { on := 14, ground := Ground.chain }, { on := 14, ground := Ground.guard }], guard := some (14, false) }) rfl (fun K hK => ?_) AllReadyH.nil
    go_simp
    refine (implGood_any b5 ⟨16, c5, 16, l5⟩ _ _ (X5.out.blw hB2).at_ (fun x hx => hx)).mono ?_
    rintro e wB ⟨gi, rfl, hgi, hbB⟩
    refine hK.out _ _ (hB2.trans hbB) (fun hB3 => ?_)
    clear hK K
    try simp only [Act.put, List.setIfInBounds_toArray, List.set_cons_zero, List.set_cons_succ]
    refine wpAnyH_ready (rs := [18]) (by kernel_rfl) (by simp) ?_
    refine AllReadyH.cons (o := { dst := some 88, op := Op.call { callee := Callee.value (Operand.func 19), args := #[Operand.tmp 87], argTypes := #[25] }, type := 4, pos := _, after := #[{ on := 17, ground := Ground.data }, { on := 16, ground := Ground.chain }, { on := 14, ground := Ground.guard }], guard := some (14, false) }) rfl (fun K hK => ?_) AllReadyH.nil
    go_simp
    refine (specGood_any b5 ⟨16, c5, 16, l5⟩ _ _ (X5.out.blw hB3).at_).mono ?_
    rintro e wC ⟨gs, rfl, hgs, hbC⟩
    obtain rfl : gi = gs := (by have q := hgi.trans hgs.symm; cases gi <;> cases gs <;> simp_all)
    have hgne : (gi != gi) = false := (by simp)
    refine hK.out _ _ (hB3.trans hbC) (fun hB4 => ?_)
    clear hK K
    try simp only [Act.put, List.setIfInBounds_toArray, List.set_cons_zero, List.set_cons_succ]
    refine wpAnyH_take (i := 19) (oi := { dst := some 89, op := Op.binOp BinOp.neq 4 (Operand.tmp 86) (Operand.tmp 88) 4, type := 4, pos := _, after := #[{ on := 16, ground := Ground.data }, { on := 18, ground := Ground.data }, { on := 14, ground := Ground.guard }], guard := some (14, false) }) (v := (.bool false)) rfl (by kernel_rfl) (by kernel_rfl) (by kernel_rfl) (fun _ _ _ h => h) (Or.inl ⟨by rfl, fun w' hS => by (try dsimp only at hS); go_simp⟩) hB4 ?_
    simp only [Act.put, List.setIfInBounds_toArray, List.set_cons_zero, List.set_cons_succ]
    refine wpAnyH_take (i := 20) (oi := { dst := some 90, op := Op.pick (Operand.tmp 84) (Operand.const (Value.bool true)) (Operand.tmp 89), type := 4, pos := _, after := #[{ on := 14, ground := Ground.data }, { on := 19, ground := Ground.data }], guard := none }) (v := (.bool false)) rfl (by kernel_rfl) (by kernel_rfl) (by kernel_rfl) (fun _ _ _ h => h) (Or.inl ⟨by rfl, fun w' hS => by (try dsimp only at hS); go_simp⟩) hB4 ?_
    simp only [Act.put, List.setIfInBounds_toArray, List.set_cons_zero, List.set_cons_succ]
    refine wpAnyH_done (by kernel_rfl) ?_ _
    refine NoPanic.normal ?_
    go_wp2_with fail
    go_meet
    exact ⟨rfl, hB4⟩
  case rest =>
    obtain ⟨rfl, hb⟩ := hcut
    clear X11
    replace HB : Hid (Blw _ _) := Blw.trans HB.out hb
    replace X5 : Hid (BX _ _ _ _) := BX.blw X5.out hb
    replace X8 : Hid (BX _ _ _ _) := BX.blw X8.out hb
    clear hb
    clear hne hne2 w4
    go_upto_if 91 with fail
    go_cut [] from 5 to 197 (fun wx => Blw w wx)
    case first =>
      cases r13
      · go_wp2_with fail
        go_meet
        exact HB.out
      · skip
        obtain ⟨x, S, hT⟩ := took O8.out
        obtain ⟨rn, rc, rk, rl⟩ := R11
        have hR := hT.hR
        simp only [BD.mk.injEq] at hR
        obtain ⟨hR1, hR2, hR3, hR4⟩ := hR
        clear hR2 hR4
        subst hR1 hR3
        have hat := hT.hat
        subst hat
        have HT : Hid (Took c5 l5 o6 k7 (x : Int) ⟨16, rc, 16, rl⟩ x S) := hT
        have hsh := shl_u HT.out.ord
        rw [← HT.out.hS] at hsh
        have hwk : IntKind.u64.wrap k7 = k7 := by have := HT.out.ord; unfold ordOK at this; rw [IntKind.wrap_u64] <;> omega
        have hfit := HT.out.fit
        have hx16 := HT.out.x16
        have hS1 : 1 ≤ S := by rw [HT.out.hS]; exact (bsz_le HT.out.ord).1
        have eS : IntKind.i64.wrap ((x : Int) + (S : Int)) = ((x + S : Nat) : Int) := by rw [IntKind.wrap_i64] <;> omega
        clear hT O8
        obtain ⟨p0, p1⟩ := get2 X5.out.box
        go_wp2_with fail
        clear p0 p1 hsh hwk
        go_loopw [98] (fun i wr => ∃ j : Nat, j ≤ 16 ∧ i = .int .i64 j ∧ Blw wc wr) (fun i _ => 16 - (intOf i).toNat)
        case atStart => exact ⟨0, by omega, rfl, Blw.refl _⟩
        case round =>
          obtain ⟨j, hj, rfl, hb⟩ := hrel
          have HWR : Hid (Blw wc wr) := hb
          replace HB : Hid (Blw _ _) := Blw.trans HB.out hb
          replace X5 : Hid (BX _ _ _ _) := BX.blw X5.out hb
          replace X8 : Hid (BX _ _ _ _) := BX.blw X8.out hb
          clear hb
          by_cases hlt : j < 16
          · have hlt' : (j : Int) < 16 := by omega
            obtain ⟨ya, yo, ea, -, gj⟩ := X5.out.at_.c.2 j hlt
            obtain ⟨za, zo, eb, -, hj2⟩ := X8.out.at_.c.2 j hlt
            try dsimp only at ea eb
            have P0 : ∀ w', Blw wr w' → w'.cell? ⟨w1.heap.size, 0, none⟩ = some (.slice (some ⟨ya, yo, none⟩) 16 b5.c1) := fun w' hh => by have := X5.out.all.1 w' hh; rw [ea] at this; exact this
            have Q0 : ∀ w', Blw wr w' → w'.cell? ⟨w2.heap.size, 0, none⟩ = some (.slice (some ⟨za, zo, none⟩) 16 b8.c1) := fun w' hh => by have := X8.out.all.1 w' hh; rw [eb] at this; exact this
            have G5 : ∀ w', Blw wr w' → w'.cell? ⟨ya, yo + j, none⟩ = some (.int .i64 (c5 j)) := fun w' hh => hh.cell gj
            have G8 : ∀ w', Blw wr w' → w'.cell? ⟨za, zo + j, none⟩ = some (.int .i64 (rc j)) := fun w' hh => hh.cell hj2
            clear ea eb gj hj2
            by_cases h1 : x ≤ j
            · have dg : decide ((j : Int) ≥ (x : Int)) = true := by simp; omega
              by_cases h2 : j < x + S
              · have h3 : (j : Int) < (x : Int) + (S : Int) := by omega
                obtain ⟨f1', f2'⟩ := HT.out.inside h1 h2
                have n1' : (c5 j != 0) = false := by simp [f1']
                have n2' : (rc j != o6) = false := by simp; exact f2'
                clear f1' f2' h2
                go_upto_region 14 with fail
                have hbr := HWR.out
                refine wp_region_noPanic ?_
                refine wp_region_held_drew (S := fun w' => Blw wr w') (by kernel_rfl) ((Blw.refl _).drew) (fun hB1 => ?_)
                revert hB1
                generalize wr.drew = wd1
                intro hB1
                refine wpAnyH_take (i := 0) (oi := { dst := some 111, op := Op.move (Operand.tmp 16), type := 4, pos := _, after := #[], guard := none }) (v := (.bool true)) rfl (by kernel_rfl) (by kernel_rfl) (by kernel_rfl) (fun _ _ _ h => h) (Or.inl ⟨by rfl, fun w' hS => by (try dsimp only at hS); go_simp⟩) hB1 ?_
                simp only [Act.put, List.setIfInBounds_toArray, List.set_cons_zero, List.set_cons_succ]
                refine wpAnyH_take (i := 1) (oi := { dst := some 112, op := Op.move (Operand.tmp 111), type := 4, pos := _, after := #[{ on := 0, ground := Ground.data }], guard := none }) (v := (.bool true)) rfl (by kernel_rfl) (by kernel_rfl) (by kernel_rfl) (fun _ _ _ h => h) (Or.inl ⟨by rfl, fun w' hS => by (try dsimp only at hS); go_simp⟩) hB1 ?_
                simp only [Act.put, List.setIfInBounds_toArray, List.set_cons_zero, List.set_cons_succ]
                refine wpAnyH_take (i := 2) (oi := { dst := some 113, op := Op.fieldAddr 25 (Operand.tmp 5) 0, type := 0, pos := _, after := #[{ on := 1, ground := Ground.guard }], guard := some (1, true) }) (v := (.pointer (some ⟨w1.heap.size, 0, none⟩))) rfl (by kernel_rfl) (by kernel_rfl) (by kernel_rfl) (fun _ _ _ h => h) (Or.inl ⟨by rfl, fun w' hS => by (try dsimp only at hS); go_simp⟩) hB1 ?_
                simp only [Act.put, List.setIfInBounds_toArray, List.set_cons_zero, List.set_cons_succ]
                refine wpAnyH_take (i := 3) (oi := { dst := some 114, op := Op.load 23 (Operand.tmp 113), type := 23, pos := _, after := #[{ on := 2, ground := Ground.data }, { on := 1, ground := Ground.guard }], guard := some (1, true) }) (v := (.slice (some ⟨ya, yo, none⟩) 16 b5.c1)) rfl (by kernel_rfl) (by kernel_rfl) (by kernel_rfl) (fun _ _ _ h => h) (Or.inl ⟨by rfl, fun w' hS => by (try dsimp only at hS); go_simp⟩) hB1 ?_
                simp only [Act.put, List.setIfInBounds_toArray, List.set_cons_zero, List.set_cons_succ]
                refine wpAnyH_take (i := 4) (oi := { dst := some 115, op := Op.move (Operand.tmp 15), type := 3, pos := _, after := #[{ on := 1, ground := Ground.guard }], guard := some (1, true) }) (v := (.int .i64 (j))) rfl (by kernel_rfl) (by kernel_rfl) (by kernel_rfl) (fun _ _ _ h => h) (Or.inl ⟨by rfl, fun w' hS => by (try dsimp only at hS); go_simp⟩) hB1 ?_
                simp only [Act.put, List.setIfInBounds_toArray, List.set_cons_zero, List.set_cons_succ]
                refine wpAnyH_take (i := 5) (oi := { dst := some 116, op := Op.indexAddr 23 (Operand.tmp 114) (Operand.tmp 115), type := 0, pos := _, after := #[{ on := 3, ground := Ground.data }, { on := 4, ground := Ground.data }, { on := 1, ground := Ground.guard }], guard := some (1, true) }) (v := (.pointer (some ⟨ya, yo + j, none⟩))) rfl (by kernel_rfl) (by kernel_rfl) (by kernel_rfl) (fun _ _ _ h => h) (Or.inl ⟨by rfl, fun w' hS => by (try dsimp only at hS); go_simp⟩) hB1 ?_
                simp only [Act.put, List.setIfInBounds_toArray, List.set_cons_zero, List.set_cons_succ]
                refine wpAnyH_take (i := 6) (oi := { dst := some 117, op := Op.load 3 (Operand.tmp 116), type := 3, pos := _, after := #[{ on := 5, ground := Ground.data }, { on := 1, ground := Ground.guard }], guard := some (1, true) }) (v := (.int .i64 (c5 j))) rfl (by kernel_rfl) (by kernel_rfl) (by kernel_rfl) (fun _ _ _ h => h) (Or.inl ⟨by rfl, fun w' hS => by (try dsimp only at hS); go_simp⟩) hB1 ?_
                simp only [Act.put, List.setIfInBounds_toArray, List.set_cons_zero, List.set_cons_succ]
                refine wpAnyH_take (i := 7) (oi := { dst := some 118, op := Op.binOp BinOp.neq 3 (Operand.tmp 117) (Operand.const (Value.int IntKind.i64 0)) 3, type := 4, pos := _, after := #[{ on := 6, ground := Ground.data }, { on := 1, ground := Ground.guard }], guard := some (1, true) }) (v := (.bool false)) rfl (by kernel_rfl) (by kernel_rfl) (by kernel_rfl) (fun _ _ _ h => h) (Or.inl ⟨by rfl, fun w' hS => by (try dsimp only at hS); go_simp⟩) hB1 ?_
                simp only [Act.put, List.setIfInBounds_toArray, List.set_cons_zero, List.set_cons_succ]
                refine wpAnyH_take (i := 8) (oi := { dst := some 119, op := Op.move (Operand.tmp 118), type := 4, pos := _, after := #[{ on := 7, ground := Ground.data }, { on := 1, ground := Ground.chain }, { on := 1, ground := Ground.guard }], guard := some (1, true) }) (v := (.bool false)) rfl (by kernel_rfl) (by kernel_rfl) (by kernel_rfl) (fun _ _ _ h => h) (Or.inl ⟨by rfl, fun w' hS => by (try dsimp only at hS); go_simp⟩) hB1 ?_
                simp only [Act.put, List.setIfInBounds_toArray, List.set_cons_zero, List.set_cons_succ]
                refine wpAnyH_take (i := 9) (oi := { dst := some 120, op := Op.fieldAddr 25 (Operand.tmp 8) 0, type := 0, pos := _, after := #[{ on := 8, ground := Ground.guard }], guard := some (8, false) }) (v := (.pointer (some ⟨w2.heap.size, 0, none⟩))) rfl (by kernel_rfl) (by kernel_rfl) (by kernel_rfl) (fun _ _ _ h => h) (Or.inl ⟨by rfl, fun w' hS => by (try dsimp only at hS); go_simp⟩) hB1 ?_
                simp only [Act.put, List.setIfInBounds_toArray, List.set_cons_zero, List.set_cons_succ]
                refine wpAnyH_take (i := 10) (oi := { dst := some 121, op := Op.load 23 (Operand.tmp 120), type := 23, pos := _, after := #[{ on := 9, ground := Ground.data }, { on := 8, ground := Ground.guard }], guard := some (8, false) }) (v := (.slice (some ⟨za, zo, none⟩) 16 b8.c1)) rfl (by kernel_rfl) (by kernel_rfl) (by kernel_rfl) (fun _ _ _ h => h) (Or.inl ⟨by rfl, fun w' hS => by (try dsimp only at hS); go_simp⟩) hB1 ?_
                simp only [Act.put, List.setIfInBounds_toArray, List.set_cons_zero, List.set_cons_succ]
                refine wpAnyH_take (i := 11) (oi := { dst := some 122, op := Op.move (Operand.tmp 15), type := 3, pos := _, after := #[{ on := 8, ground := Ground.guard }], guard := some (8, false) }) (v := (.int .i64 (j))) rfl (by kernel_rfl) (by kernel_rfl) (by kernel_rfl) (fun _ _ _ h => h) (Or.inl ⟨by rfl, fun w' hS => by (try dsimp only at hS); go_simp⟩) hB1 ?_
                simp only [Act.put, List.setIfInBounds_toArray, List.set_cons_zero, List.set_cons_succ]
                refine wpAnyH_take (i := 12) (oi := { dst := some 123, op := Op.indexAddr 23 (Operand.tmp 121) (Operand.tmp 122), type := 0, pos := _, after := #[{ on := 10, ground := Ground.data }, { on := 11, ground := Ground.data }, { on := 8, ground := Ground.guard }], guard := some (8, false) }) (v := (.pointer (some ⟨za, zo + j, none⟩))) rfl (by kernel_rfl) (by kernel_rfl) (by kernel_rfl) (fun _ _ _ h => h) (Or.inl ⟨by rfl, fun w' hS => by (try dsimp only at hS); go_simp⟩) hB1 ?_
                simp only [Act.put, List.setIfInBounds_toArray, List.set_cons_zero, List.set_cons_succ]
                refine wpAnyH_take (i := 13) (oi := { dst := some 124, op := Op.load 3 (Operand.tmp 123), type := 3, pos := _, after := #[{ on := 12, ground := Ground.data }, { on := 8, ground := Ground.guard }], guard := some (8, false) }) (v := (.int .i64 (rc j))) rfl (by kernel_rfl) (by kernel_rfl) (by kernel_rfl) (fun _ _ _ h => h) (Or.inl ⟨by rfl, fun w' hS => by (try dsimp only at hS); go_simp⟩) hB1 ?_
                simp only [Act.put, List.setIfInBounds_toArray, List.set_cons_zero, List.set_cons_succ]
                refine wpAnyH_take (i := 14) (oi := { dst := some 125, op := Op.move (Operand.tmp 6), type := 3, pos := _, after := #[{ on := 8, ground := Ground.guard }], guard := some (8, false) }) (v := (.int .i64 (o6))) rfl (by kernel_rfl) (by kernel_rfl) (by kernel_rfl) (fun _ _ _ h => h) (Or.inl ⟨by rfl, fun w' hS => by (try dsimp only at hS); go_simp⟩) hB1 ?_
                simp only [Act.put, List.setIfInBounds_toArray, List.set_cons_zero, List.set_cons_succ]
                refine wpAnyH_take (i := 15) (oi := { dst := some 126, op := Op.binOp BinOp.neq 3 (Operand.tmp 124) (Operand.tmp 125) 3, type := 4, pos := _, after := #[{ on := 13, ground := Ground.data }, { on := 14, ground := Ground.data }, { on := 8, ground := Ground.guard }], guard := some (8, false) }) (v := (.bool false)) rfl (by kernel_rfl) (by kernel_rfl) (by kernel_rfl) (fun _ _ _ h => h) (Or.inl ⟨by rfl, fun w' hS => by (try dsimp only at hS); go_simp⟩) hB1 ?_
                simp only [Act.put, List.setIfInBounds_toArray, List.set_cons_zero, List.set_cons_succ]
                refine wpAnyH_take (i := 16) (oi := { dst := some 127, op := Op.pick (Operand.tmp 119) (Operand.const (Value.bool true)) (Operand.tmp 126), type := 4, pos := _, after := #[{ on := 8, ground := Ground.data }, { on := 15, ground := Ground.data }, { on := 1, ground := Ground.guard }], guard := some (1, true) }) (v := (.bool false)) rfl (by kernel_rfl) (by kernel_rfl) (by kernel_rfl) (fun _ _ _ h => h) (Or.inl ⟨by rfl, fun w' hS => by (try dsimp only at hS); go_simp⟩) hB1 ?_
                simp only [Act.put, List.setIfInBounds_toArray, List.set_cons_zero, List.set_cons_succ]
                refine wpAnyH_take (i := 17) (oi := { dst := some 128, op := Op.pick (Operand.tmp 112) (Operand.tmp 127) (Operand.const (Value.bool false)), type := 4, pos := _, after := #[{ on := 1, ground := Ground.data }, { on := 16, ground := Ground.data }], guard := none }) (v := (.bool false)) rfl (by kernel_rfl) (by kernel_rfl) (by kernel_rfl) (fun _ _ _ h => h) (Or.inl ⟨by rfl, fun w' hS => by (try dsimp only at hS); go_simp⟩) hB1 ?_
                simp only [Act.put, List.setIfInBounds_toArray, List.set_cons_zero, List.set_cons_succ]
                refine wpAnyH_take (i := 18) (oi := { dst := some 129, op := Op.move (Operand.tmp 128), type := 4, pos := _, after := #[{ on := 17, ground := Ground.data }, { on := 8, ground := Ground.chain }], guard := none }) (v := (.bool false)) rfl (by kernel_rfl) (by kernel_rfl) (by kernel_rfl) (fun _ _ _ h => h) (Or.inl ⟨by rfl, fun w' hS => by (try dsimp only at hS); go_simp⟩) hB1 ?_
                simp only [Act.put, List.setIfInBounds_toArray, List.set_cons_zero, List.set_cons_succ]
                refine wpAnyH_take (i := 19) (oi := { dst := some 130, op := Op.move (Operand.tmp 16), type := 4, pos := _, after := #[{ on := 18, ground := Ground.guard }], guard := some (18, false) }) (v := (.bool true)) rfl (by kernel_rfl) (by kernel_rfl) (by kernel_rfl) (fun _ _ _ h => h) (Or.inl ⟨by rfl, fun w' hS => by (try dsimp only at hS); go_simp⟩) hB1 ?_
                simp only [Act.put, List.setIfInBounds_toArray, List.set_cons_zero, List.set_cons_succ]
                refine wpAnyH_take (i := 20) (oi := { dst := some 131, op := Op.unOp UnOp.not 4 (Operand.tmp 130), type := 4, pos := _, after := #[{ on := 19, ground := Ground.data }, { on := 18, ground := Ground.guard }], guard := some (18, false) }) (v := (.bool false)) rfl (by kernel_rfl) (by kernel_rfl) (by kernel_rfl) (fun _ _ _ h => h) (Or.inl ⟨by rfl, fun w' hS => by (try dsimp only at hS); go_simp⟩) hB1 ?_
                simp only [Act.put, List.setIfInBounds_toArray, List.set_cons_zero, List.set_cons_succ]
                refine wpAnyH_take (i := 21) (oi := { dst := some 132, op := Op.move (Operand.tmp 131), type := 4, pos := _, after := #[{ on := 20, ground := Ground.data }, { on := 18, ground := Ground.chain }, { on := 18, ground := Ground.guard }], guard := some (18, false) }) (v := (.bool false)) rfl (by kernel_rfl) (by kernel_rfl) (by kernel_rfl) (fun _ _ _ h => h) (Or.inl ⟨by rfl, fun w' hS => by (try dsimp only at hS); go_simp⟩) hB1 ?_
                simp only [Act.put, List.setIfInBounds_toArray, List.set_cons_zero, List.set_cons_succ]
                refine wpAnyH_take (i := 22) (oi := { dst := some 133, op := Op.fieldAddr 25 (Operand.tmp 8) 0, type := 0, pos := _, after := #[{ on := 21, ground := Ground.guard }], guard := some (21, true) }) (v := undef) rfl (by kernel_rfl) (by kernel_rfl) (by kernel_rfl) (fun _ _ _ h => h) (Or.inr ⟨by rfl, rfl⟩) hB1 ?_
                simp only [Act.put, List.setIfInBounds_toArray, List.set_cons_zero, List.set_cons_succ]
                refine wpAnyH_take (i := 23) (oi := { dst := some 134, op := Op.load 23 (Operand.tmp 133), type := 23, pos := _, after := #[{ on := 22, ground := Ground.data }, { on := 21, ground := Ground.guard }], guard := some (21, true) }) (v := undef) rfl (by kernel_rfl) (by kernel_rfl) (by kernel_rfl) (fun _ _ _ h => h) (Or.inr ⟨by rfl, rfl⟩) hB1 ?_
                simp only [Act.put, List.setIfInBounds_toArray, List.set_cons_zero, List.set_cons_succ]
                refine wpAnyH_take (i := 24) (oi := { dst := some 135, op := Op.move (Operand.tmp 15), type := 3, pos := _, after := #[{ on := 21, ground := Ground.guard }], guard := some (21, true) }) (v := undef) rfl (by kernel_rfl) (by kernel_rfl) (by kernel_rfl) (fun _ _ _ h => h) (Or.inr ⟨by rfl, rfl⟩) hB1 ?_
                simp only [Act.put, List.setIfInBounds_toArray, List.set_cons_zero, List.set_cons_succ]
                refine wpAnyH_take (i := 25) (oi := { dst := some 136, op := Op.indexAddr 23 (Operand.tmp 134) (Operand.tmp 135), type := 0, pos := _, after := #[{ on := 23, ground := Ground.data }, { on := 24, ground := Ground.data }, { on := 21, ground := Ground.guard }], guard := some (21, true) }) (v := undef) rfl (by kernel_rfl) (by kernel_rfl) (by kernel_rfl) (fun _ _ _ h => h) (Or.inr ⟨by rfl, rfl⟩) hB1 ?_
                simp only [Act.put, List.setIfInBounds_toArray, List.set_cons_zero, List.set_cons_succ]
                refine wpAnyH_take (i := 26) (oi := { dst := some 137, op := Op.load 3 (Operand.tmp 136), type := 3, pos := _, after := #[{ on := 25, ground := Ground.data }, { on := 21, ground := Ground.guard }], guard := some (21, true) }) (v := undef) rfl (by kernel_rfl) (by kernel_rfl) (by kernel_rfl) (fun _ _ _ h => h) (Or.inr ⟨by rfl, rfl⟩) hB1 ?_
                simp only [Act.put, List.setIfInBounds_toArray, List.set_cons_zero, List.set_cons_succ]
                refine wpAnyH_take (i := 27) (oi := { dst := some 138, op := Op.fieldAddr 25 (Operand.tmp 5) 0, type := 0, pos := _, after := #[{ on := 21, ground := Ground.guard }], guard := some (21, true) }) (v := undef) rfl (by kernel_rfl) (by kernel_rfl) (by kernel_rfl) (fun _ _ _ h => h) (Or.inr ⟨by rfl, rfl⟩) hB1 ?_
                simp only [Act.put, List.setIfInBounds_toArray, List.set_cons_zero, List.set_cons_succ]
                refine wpAnyH_take (i := 28) (oi := { dst := some 139, op := Op.load 23 (Operand.tmp 138), type := 23, pos := _, after := #[{ on := 27, ground := Ground.data }, { on := 21, ground := Ground.guard }], guard := some (21, true) }) (v := undef) rfl (by kernel_rfl) (by kernel_rfl) (by kernel_rfl) (fun _ _ _ h => h) (Or.inr ⟨by rfl, rfl⟩) hB1 ?_
                simp only [Act.put, List.setIfInBounds_toArray, List.set_cons_zero, List.set_cons_succ]
                refine wpAnyH_take (i := 29) (oi := { dst := some 140, op := Op.move (Operand.tmp 15), type := 3, pos := _, after := #[{ on := 21, ground := Ground.guard }], guard := some (21, true) }) (v := undef) rfl (by kernel_rfl) (by kernel_rfl) (by kernel_rfl) (fun _ _ _ h => h) (Or.inr ⟨by rfl, rfl⟩) hB1 ?_
                simp only [Act.put, List.setIfInBounds_toArray, List.set_cons_zero, List.set_cons_succ]
                refine wpAnyH_take (i := 30) (oi := { dst := some 141, op := Op.indexAddr 23 (Operand.tmp 139) (Operand.tmp 140), type := 0, pos := _, after := #[{ on := 28, ground := Ground.data }, { on := 29, ground := Ground.data }, { on := 21, ground := Ground.guard }], guard := some (21, true) }) (v := undef) rfl (by kernel_rfl) (by kernel_rfl) (by kernel_rfl) (fun _ _ _ h => h) (Or.inr ⟨by rfl, rfl⟩) hB1 ?_
                simp only [Act.put, List.setIfInBounds_toArray, List.set_cons_zero, List.set_cons_succ]
                refine wpAnyH_take (i := 31) (oi := { dst := some 142, op := Op.load 3 (Operand.tmp 141), type := 3, pos := _, after := #[{ on := 30, ground := Ground.data }, { on := 21, ground := Ground.guard }], guard := some (21, true) }) (v := undef) rfl (by kernel_rfl) (by kernel_rfl) (by kernel_rfl) (fun _ _ _ h => h) (Or.inr ⟨by rfl, rfl⟩) hB1 ?_
                simp only [Act.put, List.setIfInBounds_toArray, List.set_cons_zero, List.set_cons_succ]
                refine wpAnyH_take (i := 32) (oi := { dst := some 143, op := Op.binOp BinOp.neq 3 (Operand.tmp 137) (Operand.tmp 142) 3, type := 4, pos := _, after := #[{ on := 26, ground := Ground.data }, { on := 31, ground := Ground.data }, { on := 21, ground := Ground.guard }], guard := some (21, true) }) (v := undef) rfl (by kernel_rfl) (by kernel_rfl) (by kernel_rfl) (fun _ _ _ h => h) (Or.inr ⟨by rfl, rfl⟩) hB1 ?_
                simp only [Act.put, List.setIfInBounds_toArray, List.set_cons_zero, List.set_cons_succ]
                refine wpAnyH_take (i := 33) (oi := { dst := some 144, op := Op.pick (Operand.tmp 132) (Operand.tmp 143) (Operand.const (Value.bool false)), type := 4, pos := _, after := #[{ on := 21, ground := Ground.data }, { on := 32, ground := Ground.data }, { on := 18, ground := Ground.guard }], guard := some (18, false) }) (v := (.bool false)) rfl (by kernel_rfl) (by kernel_rfl) (by kernel_rfl) (fun _ _ _ h => h) (Or.inl ⟨by rfl, fun w' hS => by (try dsimp only at hS); go_simp⟩) hB1 ?_
                simp only [Act.put, List.setIfInBounds_toArray, List.set_cons_zero, List.set_cons_succ]
                refine wpAnyH_take (i := 34) (oi := { dst := some 145, op := Op.pick (Operand.tmp 129) (Operand.const (Value.bool true)) (Operand.tmp 144), type := 4, pos := _, after := #[{ on := 18, ground := Ground.data }, { on := 33, ground := Ground.data }], guard := none }) (v := (.bool false)) rfl (by kernel_rfl) (by kernel_rfl) (by kernel_rfl) (fun _ _ _ h => h) (Or.inl ⟨by rfl, fun w' hS => by (try dsimp only at hS); go_simp⟩) hB1 ?_
                simp only [Act.put, List.setIfInBounds_toArray, List.set_cons_zero, List.set_cons_succ]
                refine wpAnyH_done (by kernel_rfl) ?_ _
                refine NoPanic.normal ?_
                go_wp2
                go_roundw
                case rel => exact ⟨j + 1, by omega, by go_num, hbr.trans hB1⟩
                case measure => simp [intOf]; omega
              · have h3 : ¬ (j : Int) < (x : Int) + (S : Int) := by omega
                have h4 : (x : Int) + (S : Int) ≤ (j : Int) := by omega
                have f1' := HT.out.outside (j := j) (fun h => h2 h.2)
                have n1' : (rc j != c5 j) = false := by simp; exact f1'
                clear f1' h2
                go_upto_region 14 with fail
                have hbr := HWR.out
                refine wp_region_noPanic ?_
                refine wp_region_held_drew (S := fun w' => Blw wr w') (by kernel_rfl) ((Blw.refl _).drew) (fun hB1 => ?_)
                revert hB1
                generalize wr.drew = wd1
                intro hB1
                refine wpAnyH_take (i := 0) (oi := { dst := some 111, op := Op.move (Operand.tmp 16), type := 4, pos := _, after := #[], guard := none }) (v := (.bool false)) rfl (by kernel_rfl) (by kernel_rfl) (by kernel_rfl) (fun _ _ _ h => h) (Or.inl ⟨by rfl, fun w' hS => by (try dsimp only at hS); go_simp⟩) hB1 ?_
                simp only [Act.put, List.setIfInBounds_toArray, List.set_cons_zero, List.set_cons_succ]
                refine wpAnyH_take (i := 1) (oi := { dst := some 112, op := Op.move (Operand.tmp 111), type := 4, pos := _, after := #[{ on := 0, ground := Ground.data }], guard := none }) (v := (.bool false)) rfl (by kernel_rfl) (by kernel_rfl) (by kernel_rfl) (fun _ _ _ h => h) (Or.inl ⟨by rfl, fun w' hS => by (try dsimp only at hS); go_simp⟩) hB1 ?_
                simp only [Act.put, List.setIfInBounds_toArray, List.set_cons_zero, List.set_cons_succ]
                refine wpAnyH_take (i := 2) (oi := { dst := some 113, op := Op.fieldAddr 25 (Operand.tmp 5) 0, type := 0, pos := _, after := #[{ on := 1, ground := Ground.guard }], guard := some (1, true) }) (v := undef) rfl (by kernel_rfl) (by kernel_rfl) (by kernel_rfl) (fun _ _ _ h => h) (Or.inr ⟨by rfl, rfl⟩) hB1 ?_
                simp only [Act.put, List.setIfInBounds_toArray, List.set_cons_zero, List.set_cons_succ]
                refine wpAnyH_take (i := 3) (oi := { dst := some 114, op := Op.load 23 (Operand.tmp 113), type := 23, pos := _, after := #[{ on := 2, ground := Ground.data }, { on := 1, ground := Ground.guard }], guard := some (1, true) }) (v := undef) rfl (by kernel_rfl) (by kernel_rfl) (by kernel_rfl) (fun _ _ _ h => h) (Or.inr ⟨by rfl, rfl⟩) hB1 ?_
                simp only [Act.put, List.setIfInBounds_toArray, List.set_cons_zero, List.set_cons_succ]
                refine wpAnyH_take (i := 4) (oi := { dst := some 115, op := Op.move (Operand.tmp 15), type := 3, pos := _, after := #[{ on := 1, ground := Ground.guard }], guard := some (1, true) }) (v := undef) rfl (by kernel_rfl) (by kernel_rfl) (by kernel_rfl) (fun _ _ _ h => h) (Or.inr ⟨by rfl, rfl⟩) hB1 ?_
                simp only [Act.put, List.setIfInBounds_toArray, List.set_cons_zero, List.set_cons_succ]
                refine wpAnyH_take (i := 5) (oi := { dst := some 116, op := Op.indexAddr 23 (Operand.tmp 114) (Operand.tmp 115), type := 0, pos := _, after := #[{ on := 3, ground := Ground.data }, { on := 4, ground := Ground.data }, { on := 1, ground := Ground.guard }], guard := some (1, true) }) (v := undef) rfl (by kernel_rfl) (by kernel_rfl) (by kernel_rfl) (fun _ _ _ h => h) (Or.inr ⟨by rfl, rfl⟩) hB1 ?_
                simp only [Act.put, List.setIfInBounds_toArray, List.set_cons_zero, List.set_cons_succ]
                refine wpAnyH_take (i := 6) (oi := { dst := some 117, op := Op.load 3 (Operand.tmp 116), type := 3, pos := _, after := #[{ on := 5, ground := Ground.data }, { on := 1, ground := Ground.guard }], guard := some (1, true) }) (v := undef) rfl (by kernel_rfl) (by kernel_rfl) (by kernel_rfl) (fun _ _ _ h => h) (Or.inr ⟨by rfl, rfl⟩) hB1 ?_
                simp only [Act.put, List.setIfInBounds_toArray, List.set_cons_zero, List.set_cons_succ]
                refine wpAnyH_take (i := 7) (oi := { dst := some 118, op := Op.binOp BinOp.neq 3 (Operand.tmp 117) (Operand.const (Value.int IntKind.i64 0)) 3, type := 4, pos := _, after := #[{ on := 6, ground := Ground.data }, { on := 1, ground := Ground.guard }], guard := some (1, true) }) (v := undef) rfl (by kernel_rfl) (by kernel_rfl) (by kernel_rfl) (fun _ _ _ h => h) (Or.inr ⟨by rfl, rfl⟩) hB1 ?_
                simp only [Act.put, List.setIfInBounds_toArray, List.set_cons_zero, List.set_cons_succ]
                refine wpAnyH_take (i := 8) (oi := { dst := some 119, op := Op.move (Operand.tmp 118), type := 4, pos := _, after := #[{ on := 7, ground := Ground.data }, { on := 1, ground := Ground.chain }, { on := 1, ground := Ground.guard }], guard := some (1, true) }) (v := undef) rfl (by kernel_rfl) (by kernel_rfl) (by kernel_rfl) (fun _ _ _ h => h) (Or.inr ⟨by rfl, rfl⟩) hB1 ?_
                simp only [Act.put, List.setIfInBounds_toArray, List.set_cons_zero, List.set_cons_succ]
                refine wpAnyH_take (i := 9) (oi := { dst := some 120, op := Op.fieldAddr 25 (Operand.tmp 8) 0, type := 0, pos := _, after := #[{ on := 8, ground := Ground.guard }], guard := some (8, false) }) (v := undef) rfl (by kernel_rfl) (by kernel_rfl) (by kernel_rfl) (fun _ _ _ h => h) (Or.inr ⟨by rfl, rfl⟩) hB1 ?_
                simp only [Act.put, List.setIfInBounds_toArray, List.set_cons_zero, List.set_cons_succ]
                refine wpAnyH_take (i := 10) (oi := { dst := some 121, op := Op.load 23 (Operand.tmp 120), type := 23, pos := _, after := #[{ on := 9, ground := Ground.data }, { on := 8, ground := Ground.guard }], guard := some (8, false) }) (v := undef) rfl (by kernel_rfl) (by kernel_rfl) (by kernel_rfl) (fun _ _ _ h => h) (Or.inr ⟨by rfl, rfl⟩) hB1 ?_
                simp only [Act.put, List.setIfInBounds_toArray, List.set_cons_zero, List.set_cons_succ]
                refine wpAnyH_take (i := 11) (oi := { dst := some 122, op := Op.move (Operand.tmp 15), type := 3, pos := _, after := #[{ on := 8, ground := Ground.guard }], guard := some (8, false) }) (v := undef) rfl (by kernel_rfl) (by kernel_rfl) (by kernel_rfl) (fun _ _ _ h => h) (Or.inr ⟨by rfl, rfl⟩) hB1 ?_
                simp only [Act.put, List.setIfInBounds_toArray, List.set_cons_zero, List.set_cons_succ]
                refine wpAnyH_take (i := 12) (oi := { dst := some 123, op := Op.indexAddr 23 (Operand.tmp 121) (Operand.tmp 122), type := 0, pos := _, after := #[{ on := 10, ground := Ground.data }, { on := 11, ground := Ground.data }, { on := 8, ground := Ground.guard }], guard := some (8, false) }) (v := undef) rfl (by kernel_rfl) (by kernel_rfl) (by kernel_rfl) (fun _ _ _ h => h) (Or.inr ⟨by rfl, rfl⟩) hB1 ?_
                simp only [Act.put, List.setIfInBounds_toArray, List.set_cons_zero, List.set_cons_succ]
                refine wpAnyH_take (i := 13) (oi := { dst := some 124, op := Op.load 3 (Operand.tmp 123), type := 3, pos := _, after := #[{ on := 12, ground := Ground.data }, { on := 8, ground := Ground.guard }], guard := some (8, false) }) (v := undef) rfl (by kernel_rfl) (by kernel_rfl) (by kernel_rfl) (fun _ _ _ h => h) (Or.inr ⟨by rfl, rfl⟩) hB1 ?_
                simp only [Act.put, List.setIfInBounds_toArray, List.set_cons_zero, List.set_cons_succ]
                refine wpAnyH_take (i := 14) (oi := { dst := some 125, op := Op.move (Operand.tmp 6), type := 3, pos := _, after := #[{ on := 8, ground := Ground.guard }], guard := some (8, false) }) (v := undef) rfl (by kernel_rfl) (by kernel_rfl) (by kernel_rfl) (fun _ _ _ h => h) (Or.inr ⟨by rfl, rfl⟩) hB1 ?_
                simp only [Act.put, List.setIfInBounds_toArray, List.set_cons_zero, List.set_cons_succ]
                refine wpAnyH_take (i := 15) (oi := { dst := some 126, op := Op.binOp BinOp.neq 3 (Operand.tmp 124) (Operand.tmp 125) 3, type := 4, pos := _, after := #[{ on := 13, ground := Ground.data }, { on := 14, ground := Ground.data }, { on := 8, ground := Ground.guard }], guard := some (8, false) }) (v := undef) rfl (by kernel_rfl) (by kernel_rfl) (by kernel_rfl) (fun _ _ _ h => h) (Or.inr ⟨by rfl, rfl⟩) hB1 ?_
                simp only [Act.put, List.setIfInBounds_toArray, List.set_cons_zero, List.set_cons_succ]
                refine wpAnyH_take (i := 16) (oi := { dst := some 127, op := Op.pick (Operand.tmp 119) (Operand.const (Value.bool true)) (Operand.tmp 126), type := 4, pos := _, after := #[{ on := 8, ground := Ground.data }, { on := 15, ground := Ground.data }, { on := 1, ground := Ground.guard }], guard := some (1, true) }) (v := undef) rfl (by kernel_rfl) (by kernel_rfl) (by kernel_rfl) (fun _ _ _ h => h) (Or.inr ⟨by rfl, rfl⟩) hB1 ?_
                simp only [Act.put, List.setIfInBounds_toArray, List.set_cons_zero, List.set_cons_succ]
                refine wpAnyH_take (i := 17) (oi := { dst := some 128, op := Op.pick (Operand.tmp 112) (Operand.tmp 127) (Operand.const (Value.bool false)), type := 4, pos := _, after := #[{ on := 1, ground := Ground.data }, { on := 16, ground := Ground.data }], guard := none }) (v := (.bool false)) rfl (by kernel_rfl) (by kernel_rfl) (by kernel_rfl) (fun _ _ _ h => h) (Or.inl ⟨by rfl, fun w' hS => by (try dsimp only at hS); go_simp⟩) hB1 ?_
                simp only [Act.put, List.setIfInBounds_toArray, List.set_cons_zero, List.set_cons_succ]
                refine wpAnyH_take (i := 18) (oi := { dst := some 129, op := Op.move (Operand.tmp 128), type := 4, pos := _, after := #[{ on := 17, ground := Ground.data }, { on := 8, ground := Ground.chain }], guard := none }) (v := (.bool false)) rfl (by kernel_rfl) (by kernel_rfl) (by kernel_rfl) (fun _ _ _ h => h) (Or.inl ⟨by rfl, fun w' hS => by (try dsimp only at hS); go_simp⟩) hB1 ?_
                simp only [Act.put, List.setIfInBounds_toArray, List.set_cons_zero, List.set_cons_succ]
                refine wpAnyH_take (i := 19) (oi := { dst := some 130, op := Op.move (Operand.tmp 16), type := 4, pos := _, after := #[{ on := 18, ground := Ground.guard }], guard := some (18, false) }) (v := (.bool false)) rfl (by kernel_rfl) (by kernel_rfl) (by kernel_rfl) (fun _ _ _ h => h) (Or.inl ⟨by rfl, fun w' hS => by (try dsimp only at hS); go_simp⟩) hB1 ?_
                simp only [Act.put, List.setIfInBounds_toArray, List.set_cons_zero, List.set_cons_succ]
                refine wpAnyH_take (i := 20) (oi := { dst := some 131, op := Op.unOp UnOp.not 4 (Operand.tmp 130), type := 4, pos := _, after := #[{ on := 19, ground := Ground.data }, { on := 18, ground := Ground.guard }], guard := some (18, false) }) (v := (.bool true)) rfl (by kernel_rfl) (by kernel_rfl) (by kernel_rfl) (fun _ _ _ h => h) (Or.inl ⟨by rfl, fun w' hS => by (try dsimp only at hS); go_simp⟩) hB1 ?_
                simp only [Act.put, List.setIfInBounds_toArray, List.set_cons_zero, List.set_cons_succ]
                refine wpAnyH_take (i := 21) (oi := { dst := some 132, op := Op.move (Operand.tmp 131), type := 4, pos := _, after := #[{ on := 20, ground := Ground.data }, { on := 18, ground := Ground.chain }, { on := 18, ground := Ground.guard }], guard := some (18, false) }) (v := (.bool true)) rfl (by kernel_rfl) (by kernel_rfl) (by kernel_rfl) (fun _ _ _ h => h) (Or.inl ⟨by rfl, fun w' hS => by (try dsimp only at hS); go_simp⟩) hB1 ?_
                simp only [Act.put, List.setIfInBounds_toArray, List.set_cons_zero, List.set_cons_succ]
                refine wpAnyH_take (i := 22) (oi := { dst := some 133, op := Op.fieldAddr 25 (Operand.tmp 8) 0, type := 0, pos := _, after := #[{ on := 21, ground := Ground.guard }], guard := some (21, true) }) (v := (.pointer (some ⟨w2.heap.size, 0, none⟩))) rfl (by kernel_rfl) (by kernel_rfl) (by kernel_rfl) (fun _ _ _ h => h) (Or.inl ⟨by rfl, fun w' hS => by (try dsimp only at hS); go_simp⟩) hB1 ?_
                simp only [Act.put, List.setIfInBounds_toArray, List.set_cons_zero, List.set_cons_succ]
                refine wpAnyH_take (i := 23) (oi := { dst := some 134, op := Op.load 23 (Operand.tmp 133), type := 23, pos := _, after := #[{ on := 22, ground := Ground.data }, { on := 21, ground := Ground.guard }], guard := some (21, true) }) (v := (.slice (some ⟨za, zo, none⟩) 16 b8.c1)) rfl (by kernel_rfl) (by kernel_rfl) (by kernel_rfl) (fun _ _ _ h => h) (Or.inl ⟨by rfl, fun w' hS => by (try dsimp only at hS); go_simp⟩) hB1 ?_
                simp only [Act.put, List.setIfInBounds_toArray, List.set_cons_zero, List.set_cons_succ]
                refine wpAnyH_take (i := 24) (oi := { dst := some 135, op := Op.move (Operand.tmp 15), type := 3, pos := _, after := #[{ on := 21, ground := Ground.guard }], guard := some (21, true) }) (v := (.int .i64 (j))) rfl (by kernel_rfl) (by kernel_rfl) (by kernel_rfl) (fun _ _ _ h => h) (Or.inl ⟨by rfl, fun w' hS => by (try dsimp only at hS); go_simp⟩) hB1 ?_
                simp only [Act.put, List.setIfInBounds_toArray, List.set_cons_zero, List.set_cons_succ]
                refine wpAnyH_take (i := 25) (oi := { dst := some 136, op := Op.indexAddr 23 (Operand.tmp 134) (Operand.tmp 135), type := 0, pos := _, after := #[{ on := 23, ground := Ground.data }, { on := 24, ground := Ground.data }, { on := 21, ground := Ground.guard }], guard := some (21, true) }) (v := (.pointer (some ⟨za, zo + j, none⟩))) rfl (by kernel_rfl) (by kernel_rfl) (by kernel_rfl) (fun _ _ _ h => h) (Or.inl ⟨by rfl, fun w' hS => by (try dsimp only at hS); go_simp⟩) hB1 ?_
                simp only [Act.put, List.setIfInBounds_toArray, List.set_cons_zero, List.set_cons_succ]
                refine wpAnyH_take (i := 26) (oi := { dst := some 137, op := Op.load 3 (Operand.tmp 136), type := 3, pos := _, after := #[{ on := 25, ground := Ground.data }, { on := 21, ground := Ground.guard }], guard := some (21, true) }) (v := (.int .i64 (rc j))) rfl (by kernel_rfl) (by kernel_rfl) (by kernel_rfl) (fun _ _ _ h => h) (Or.inl ⟨by rfl, fun w' hS => by (try dsimp only at hS); go_simp⟩) hB1 ?_
                simp only [Act.put, List.setIfInBounds_toArray, List.set_cons_zero, List.set_cons_succ]
                refine wpAnyH_take (i := 27) (oi := { dst := some 138, op := Op.fieldAddr 25 (Operand.tmp 5) 0, type := 0, pos := _, after := #[{ on := 21, ground := Ground.guard }], guard := some (21, true) }) (v := (.pointer (some ⟨w1.heap.size, 0, none⟩))) rfl (by kernel_rfl) (by kernel_rfl) (by kernel_rfl) (fun _ _ _ h => h) (Or.inl ⟨by rfl, fun w' hS => by (try dsimp only at hS); go_simp⟩) hB1 ?_
                simp only [Act.put, List.setIfInBounds_toArray, List.set_cons_zero, List.set_cons_succ]
                refine wpAnyH_take (i := 28) (oi := { dst := some 139, op := Op.load 23 (Operand.tmp 138), type := 23, pos := _, after := #[{ on := 27, ground := Ground.data }, { on := 21, ground := Ground.guard }], guard := some (21, true) }) (v := (.slice (some ⟨ya, yo, none⟩) 16 b5.c1)) rfl (by kernel_rfl) (by kernel_rfl) (by kernel_rfl) (fun _ _ _ h => h) (Or.inl ⟨by rfl, fun w' hS => by (try dsimp only at hS); go_simp⟩) hB1 ?_
                simp only [Act.put, List.setIfInBounds_toArray, List.set_cons_zero, List.set_cons_succ]
                refine wpAnyH_take (i := 29) (oi := { dst := some 140, op := Op.move (Operand.tmp 15), type := 3, pos := _, after := #[{ on := 21, ground := Ground.guard }], guard := some (21, true) }) (v := (.int .i64 (j))) rfl (by kernel_rfl) (by kernel_rfl) (by kernel_rfl) (fun _ _ _ h => h) (Or.inl ⟨by rfl, fun w' hS => by (try dsimp only at hS); go_simp⟩) hB1 ?_
                simp only [Act.put, List.setIfInBounds_toArray, List.set_cons_zero, List.set_cons_succ]
                refine wpAnyH_take (i := 30) (oi := { dst := some 141, op := Op.indexAddr 23 (Operand.tmp 139) (Operand.tmp 140), type := 0, pos := _, after := #[{ on := 28, ground := Ground.data }, { on := 29, ground := Ground.data }, { on := 21, ground := Ground.guard }], guard := some (21, true) }) (v := (.pointer (some ⟨ya, yo + j, none⟩))) rfl (by kernel_rfl) (by kernel_rfl) (by kernel_rfl) (fun _ _ _ h => h) (Or.inl ⟨by rfl, fun w' hS => by (try dsimp only at hS); go_simp⟩) hB1 ?_
                simp only [Act.put, List.setIfInBounds_toArray, List.set_cons_zero, List.set_cons_succ]
                refine wpAnyH_take (i := 31) (oi := { dst := some 142, op := Op.load 3 (Operand.tmp 141), type := 3, pos := _, after := #[{ on := 30, ground := Ground.data }, { on := 21, ground := Ground.guard }], guard := some (21, true) }) (v := (.int .i64 (c5 j))) rfl (by kernel_rfl) (by kernel_rfl) (by kernel_rfl) (fun _ _ _ h => h) (Or.inl ⟨by rfl, fun w' hS => by (try dsimp only at hS); go_simp⟩) hB1 ?_
                simp only [Act.put, List.setIfInBounds_toArray, List.set_cons_zero, List.set_cons_succ]
                refine wpAnyH_take (i := 32) (oi := { dst := some 143, op := Op.binOp BinOp.neq 3 (Operand.tmp 137) (Operand.tmp 142) 3, type := 4, pos := _, after := #[{ on := 26, ground := Ground.data }, { on := 31, ground := Ground.data }, { on := 21, ground := Ground.guard }], guard := some (21, true) }) (v := (.bool false)) rfl (by kernel_rfl) (by kernel_rfl) (by kernel_rfl) (fun _ _ _ h => h) (Or.inl ⟨by rfl, fun w' hS => by (try dsimp only at hS); go_simp⟩) hB1 ?_
                simp only [Act.put, List.setIfInBounds_toArray, List.set_cons_zero, List.set_cons_succ]
                refine wpAnyH_take (i := 33) (oi := { dst := some 144, op := Op.pick (Operand.tmp 132) (Operand.tmp 143) (Operand.const (Value.bool false)), type := 4, pos := _, after := #[{ on := 21, ground := Ground.data }, { on := 32, ground := Ground.data }, { on := 18, ground := Ground.guard }], guard := some (18, false) }) (v := (.bool false)) rfl (by kernel_rfl) (by kernel_rfl) (by kernel_rfl) (fun _ _ _ h => h) (Or.inl ⟨by rfl, fun w' hS => by (try dsimp only at hS); go_simp⟩) hB1 ?_
                simp only [Act.put, List.setIfInBounds_toArray, List.set_cons_zero, List.set_cons_succ]
                refine wpAnyH_take (i := 34) (oi := { dst := some 145, op := Op.pick (Operand.tmp 129) (Operand.const (Value.bool true)) (Operand.tmp 144), type := 4, pos := _, after := #[{ on := 18, ground := Ground.data }, { on := 33, ground := Ground.data }], guard := none }) (v := (.bool false)) rfl (by kernel_rfl) (by kernel_rfl) (by kernel_rfl) (fun _ _ _ h => h) (Or.inl ⟨by rfl, fun w' hS => by (try dsimp only at hS); go_simp⟩) hB1 ?_
                simp only [Act.put, List.setIfInBounds_toArray, List.set_cons_zero, List.set_cons_succ]
                refine wpAnyH_done (by kernel_rfl) ?_ _
                refine NoPanic.normal ?_
                go_wp2
                go_roundw
                case rel => exact ⟨j + 1, by omega, by go_num, hbr.trans hB1⟩
                case measure => simp [intOf]; omega
            · have dg : (j : Int) < (x : Int) := by omega
              have f1' := HT.out.outside (j := j) (fun h => h1 h.1)
              have n1' : (rc j != c5 j) = false := by simp; exact f1'
              clear f1'
              go_upto_region 14 with fail
              have hbr := HWR.out
              refine wp_region_noPanic ?_
              refine wp_region_held_drew (S := fun w' => Blw wr w') (by kernel_rfl) ((Blw.refl _).drew) (fun hB1 => ?_)
              revert hB1
              generalize wr.drew = wd1
              intro hB1
              refine wpAnyH_take (i := 0) (oi := { dst := some 111, op := Op.move (Operand.tmp 16), type := 4, pos := _, after := #[], guard := none }) (v := (.bool false)) rfl (by kernel_rfl) (by kernel_rfl) (by kernel_rfl) (fun _ _ _ h => h) (Or.inl ⟨by rfl, fun w' hS => by (try dsimp only at hS); go_simp⟩) hB1 ?_
              simp only [Act.put, List.setIfInBounds_toArray, List.set_cons_zero, List.set_cons_succ]
              refine wpAnyH_take (i := 1) (oi := { dst := some 112, op := Op.move (Operand.tmp 111), type := 4, pos := _, after := #[{ on := 0, ground := Ground.data }], guard := none }) (v := (.bool false)) rfl (by kernel_rfl) (by kernel_rfl) (by kernel_rfl) (fun _ _ _ h => h) (Or.inl ⟨by rfl, fun w' hS => by (try dsimp only at hS); go_simp⟩) hB1 ?_
              simp only [Act.put, List.setIfInBounds_toArray, List.set_cons_zero, List.set_cons_succ]
              refine wpAnyH_take (i := 2) (oi := { dst := some 113, op := Op.fieldAddr 25 (Operand.tmp 5) 0, type := 0, pos := _, after := #[{ on := 1, ground := Ground.guard }], guard := some (1, true) }) (v := undef) rfl (by kernel_rfl) (by kernel_rfl) (by kernel_rfl) (fun _ _ _ h => h) (Or.inr ⟨by rfl, rfl⟩) hB1 ?_
              simp only [Act.put, List.setIfInBounds_toArray, List.set_cons_zero, List.set_cons_succ]
              refine wpAnyH_take (i := 3) (oi := { dst := some 114, op := Op.load 23 (Operand.tmp 113), type := 23, pos := _, after := #[{ on := 2, ground := Ground.data }, { on := 1, ground := Ground.guard }], guard := some (1, true) }) (v := undef) rfl (by kernel_rfl) (by kernel_rfl) (by kernel_rfl) (fun _ _ _ h => h) (Or.inr ⟨by rfl, rfl⟩) hB1 ?_
              simp only [Act.put, List.setIfInBounds_toArray, List.set_cons_zero, List.set_cons_succ]
              refine wpAnyH_take (i := 4) (oi := { dst := some 115, op := Op.move (Operand.tmp 15), type := 3, pos := _, after := #[{ on := 1, ground := Ground.guard }], guard := some (1, true) }) (v := undef) rfl (by kernel_rfl) (by kernel_rfl) (by kernel_rfl) (fun _ _ _ h => h) (Or.inr ⟨by rfl, rfl⟩) hB1 ?_
              simp only [Act.put, List.setIfInBounds_toArray, List.set_cons_zero, List.set_cons_succ]
              refine wpAnyH_take (i := 5) (oi := { dst := some 116, op := Op.indexAddr 23 (Operand.tmp 114) (Operand.tmp 115), type := 0, pos := _, after := #[{ on := 3, ground := Ground.data }, { on := 4, ground := Ground.data }, { on := 1, ground := Ground.guard }], guard := some (1, true) }) (v := undef) rfl (by kernel_rfl) (by kernel_rfl) (by kernel_rfl) (fun _ _ _ h => h) (Or.inr ⟨by rfl, rfl⟩) hB1 ?_
              simp only [Act.put, List.setIfInBounds_toArray, List.set_cons_zero, List.set_cons_succ]
              refine wpAnyH_take (i := 6) (oi := { dst := some 117, op := Op.load 3 (Operand.tmp 116), type := 3, pos := _, after := #[{ on := 5, ground := Ground.data }, { on := 1, ground := Ground.guard }], guard := some (1, true) }) (v := undef) rfl (by kernel_rfl) (by kernel_rfl) (by kernel_rfl) (fun _ _ _ h => h) (Or.inr ⟨by rfl, rfl⟩) hB1 ?_
              simp only [Act.put, List.setIfInBounds_toArray, List.set_cons_zero, List.set_cons_succ]
              refine wpAnyH_take (i := 7) (oi := { dst := some 118, op := Op.binOp BinOp.neq 3 (Operand.tmp 117) (Operand.const (Value.int IntKind.i64 0)) 3, type := 4, pos := _, after := #[{ on := 6, ground := Ground.data }, { on := 1, ground := Ground.guard }], guard := some (1, true) }) (v := undef) rfl (by kernel_rfl) (by kernel_rfl) (by kernel_rfl) (fun _ _ _ h => h) (Or.inr ⟨by rfl, rfl⟩) hB1 ?_
              simp only [Act.put, List.setIfInBounds_toArray, List.set_cons_zero, List.set_cons_succ]
              refine wpAnyH_take (i := 8) (oi := { dst := some 119, op := Op.move (Operand.tmp 118), type := 4, pos := _, after := #[{ on := 7, ground := Ground.data }, { on := 1, ground := Ground.chain }, { on := 1, ground := Ground.guard }], guard := some (1, true) }) (v := undef) rfl (by kernel_rfl) (by kernel_rfl) (by kernel_rfl) (fun _ _ _ h => h) (Or.inr ⟨by rfl, rfl⟩) hB1 ?_
              simp only [Act.put, List.setIfInBounds_toArray, List.set_cons_zero, List.set_cons_succ]
              refine wpAnyH_take (i := 9) (oi := { dst := some 120, op := Op.fieldAddr 25 (Operand.tmp 8) 0, type := 0, pos := _, after := #[{ on := 8, ground := Ground.guard }], guard := some (8, false) }) (v := undef) rfl (by kernel_rfl) (by kernel_rfl) (by kernel_rfl) (fun _ _ _ h => h) (Or.inr ⟨by rfl, rfl⟩) hB1 ?_
              simp only [Act.put, List.setIfInBounds_toArray, List.set_cons_zero, List.set_cons_succ]
              refine wpAnyH_take (i := 10) (oi := { dst := some 121, op := Op.load 23 (Operand.tmp 120), type := 23, pos := _, after := #[{ on := 9, ground := Ground.data }, { on := 8, ground := Ground.guard }], guard := some (8, false) }) (v := undef) rfl (by kernel_rfl) (by kernel_rfl) (by kernel_rfl) (fun _ _ _ h => h) (Or.inr ⟨by rfl, rfl⟩) hB1 ?_
              simp only [Act.put, List.setIfInBounds_toArray, List.set_cons_zero, List.set_cons_succ]
              refine wpAnyH_take (i := 11) (oi := { dst := some 122, op := Op.move (Operand.tmp 15), type := 3, pos := _, after := #[{ on := 8, ground := Ground.guard }], guard := some (8, false) }) (v := undef) rfl (by kernel_rfl) (by kernel_rfl) (by kernel_rfl) (fun _ _ _ h => h) (Or.inr ⟨by rfl, rfl⟩) hB1 ?_
              simp only [Act.put, List.setIfInBounds_toArray, List.set_cons_zero, List.set_cons_succ]
              refine wpAnyH_take (i := 12) (oi := { dst := some 123, op := Op.indexAddr 23 (Operand.tmp 121) (Operand.tmp 122), type := 0, pos := _, after := #[{ on := 10, ground := Ground.data }, { on := 11, ground := Ground.data }, { on := 8, ground := Ground.guard }], guard := some (8, false) }) (v := undef) rfl (by kernel_rfl) (by kernel_rfl) (by kernel_rfl) (fun _ _ _ h => h) (Or.inr ⟨by rfl, rfl⟩) hB1 ?_
              simp only [Act.put, List.setIfInBounds_toArray, List.set_cons_zero, List.set_cons_succ]
              refine wpAnyH_take (i := 13) (oi := { dst := some 124, op := Op.load 3 (Operand.tmp 123), type := 3, pos := _, after := #[{ on := 12, ground := Ground.data }, { on := 8, ground := Ground.guard }], guard := some (8, false) }) (v := undef) rfl (by kernel_rfl) (by kernel_rfl) (by kernel_rfl) (fun _ _ _ h => h) (Or.inr ⟨by rfl, rfl⟩) hB1 ?_
              simp only [Act.put, List.setIfInBounds_toArray, List.set_cons_zero, List.set_cons_succ]
              refine wpAnyH_take (i := 14) (oi := { dst := some 125, op := Op.move (Operand.tmp 6), type := 3, pos := _, after := #[{ on := 8, ground := Ground.guard }], guard := some (8, false) }) (v := undef) rfl (by kernel_rfl) (by kernel_rfl) (by kernel_rfl) (fun _ _ _ h => h) (Or.inr ⟨by rfl, rfl⟩) hB1 ?_
              simp only [Act.put, List.setIfInBounds_toArray, List.set_cons_zero, List.set_cons_succ]
              refine wpAnyH_take (i := 15) (oi := { dst := some 126, op := Op.binOp BinOp.neq 3 (Operand.tmp 124) (Operand.tmp 125) 3, type := 4, pos := _, after := #[{ on := 13, ground := Ground.data }, { on := 14, ground := Ground.data }, { on := 8, ground := Ground.guard }], guard := some (8, false) }) (v := undef) rfl (by kernel_rfl) (by kernel_rfl) (by kernel_rfl) (fun _ _ _ h => h) (Or.inr ⟨by rfl, rfl⟩) hB1 ?_
              simp only [Act.put, List.setIfInBounds_toArray, List.set_cons_zero, List.set_cons_succ]
              refine wpAnyH_take (i := 16) (oi := { dst := some 127, op := Op.pick (Operand.tmp 119) (Operand.const (Value.bool true)) (Operand.tmp 126), type := 4, pos := _, after := #[{ on := 8, ground := Ground.data }, { on := 15, ground := Ground.data }, { on := 1, ground := Ground.guard }], guard := some (1, true) }) (v := undef) rfl (by kernel_rfl) (by kernel_rfl) (by kernel_rfl) (fun _ _ _ h => h) (Or.inr ⟨by rfl, rfl⟩) hB1 ?_
              simp only [Act.put, List.setIfInBounds_toArray, List.set_cons_zero, List.set_cons_succ]
              refine wpAnyH_take (i := 17) (oi := { dst := some 128, op := Op.pick (Operand.tmp 112) (Operand.tmp 127) (Operand.const (Value.bool false)), type := 4, pos := _, after := #[{ on := 1, ground := Ground.data }, { on := 16, ground := Ground.data }], guard := none }) (v := (.bool false)) rfl (by kernel_rfl) (by kernel_rfl) (by kernel_rfl) (fun _ _ _ h => h) (Or.inl ⟨by rfl, fun w' hS => by (try dsimp only at hS); go_simp⟩) hB1 ?_
              simp only [Act.put, List.setIfInBounds_toArray, List.set_cons_zero, List.set_cons_succ]
              refine wpAnyH_take (i := 18) (oi := { dst := some 129, op := Op.move (Operand.tmp 128), type := 4, pos := _, after := #[{ on := 17, ground := Ground.data }, { on := 8, ground := Ground.chain }], guard := none }) (v := (.bool false)) rfl (by kernel_rfl) (by kernel_rfl) (by kernel_rfl) (fun _ _ _ h => h) (Or.inl ⟨by rfl, fun w' hS => by (try dsimp only at hS); go_simp⟩) hB1 ?_
              simp only [Act.put, List.setIfInBounds_toArray, List.set_cons_zero, List.set_cons_succ]
              refine wpAnyH_take (i := 19) (oi := { dst := some 130, op := Op.move (Operand.tmp 16), type := 4, pos := _, after := #[{ on := 18, ground := Ground.guard }], guard := some (18, false) }) (v := (.bool false)) rfl (by kernel_rfl) (by kernel_rfl) (by kernel_rfl) (fun _ _ _ h => h) (Or.inl ⟨by rfl, fun w' hS => by (try dsimp only at hS); go_simp⟩) hB1 ?_
              simp only [Act.put, List.setIfInBounds_toArray, List.set_cons_zero, List.set_cons_succ]
              refine wpAnyH_take (i := 20) (oi := { dst := some 131, op := Op.unOp UnOp.not 4 (Operand.tmp 130), type := 4, pos := _, after := #[{ on := 19, ground := Ground.data }, { on := 18, ground := Ground.guard }], guard := some (18, false) }) (v := (.bool true)) rfl (by kernel_rfl) (by kernel_rfl) (by kernel_rfl) (fun _ _ _ h => h) (Or.inl ⟨by rfl, fun w' hS => by (try dsimp only at hS); go_simp⟩) hB1 ?_
              simp only [Act.put, List.setIfInBounds_toArray, List.set_cons_zero, List.set_cons_succ]
              refine wpAnyH_take (i := 21) (oi := { dst := some 132, op := Op.move (Operand.tmp 131), type := 4, pos := _, after := #[{ on := 20, ground := Ground.data }, { on := 18, ground := Ground.chain }, { on := 18, ground := Ground.guard }], guard := some (18, false) }) (v := (.bool true)) rfl (by kernel_rfl) (by kernel_rfl) (by kernel_rfl) (fun _ _ _ h => h) (Or.inl ⟨by rfl, fun w' hS => by (try dsimp only at hS); go_simp⟩) hB1 ?_
              simp only [Act.put, List.setIfInBounds_toArray, List.set_cons_zero, List.set_cons_succ]
              refine wpAnyH_take (i := 22) (oi := { dst := some 133, op := Op.fieldAddr 25 (Operand.tmp 8) 0, type := 0, pos := _, after := #[{ on := 21, ground := Ground.guard }], guard := some (21, true) }) (v := (.pointer (some ⟨w2.heap.size, 0, none⟩))) rfl (by kernel_rfl) (by kernel_rfl) (by kernel_rfl) (fun _ _ _ h => h) (Or.inl ⟨by rfl, fun w' hS => by (try dsimp only at hS); go_simp⟩) hB1 ?_
              simp only [Act.put, List.setIfInBounds_toArray, List.set_cons_zero, List.set_cons_succ]
              refine wpAnyH_take (i := 23) (oi := { dst := some 134, op := Op.load 23 (Operand.tmp 133), type := 23, pos := _, after := #[{ on := 22, ground := Ground.data }, { on := 21, ground := Ground.guard }], guard := some (21, true) }) (v := (.slice (some ⟨za, zo, none⟩) 16 b8.c1)) rfl (by kernel_rfl) (by kernel_rfl) (by kernel_rfl) (fun _ _ _ h => h) (Or.inl ⟨by rfl, fun w' hS => by (try dsimp only at hS); go_simp⟩) hB1 ?_
              simp only [Act.put, List.setIfInBounds_toArray, List.set_cons_zero, List.set_cons_succ]
              refine wpAnyH_take (i := 24) (oi := { dst := some 135, op := Op.move (Operand.tmp 15), type := 3, pos := _, after := #[{ on := 21, ground := Ground.guard }], guard := some (21, true) }) (v := (.int .i64 (j))) rfl (by kernel_rfl) (by kernel_rfl) (by kernel_rfl) (fun _ _ _ h => h) (Or.inl ⟨by rfl, fun w' hS => by (try dsimp only at hS); go_simp⟩) hB1 ?_
              simp only [Act.put, List.setIfInBounds_toArray, List.set_cons_zero, List.set_cons_succ]
              refine wpAnyH_take (i := 25) (oi := { dst := some 136, op := Op.indexAddr 23 (Operand.tmp 134) (Operand.tmp 135), type := 0, pos := _, after := #[{ on := 23, ground := Ground.data }, { on := 24, ground := Ground.data }, { on := 21, ground := Ground.guard }], guard := some (21, true) }) (v := (.pointer (some ⟨za, zo + j, none⟩))) rfl (by kernel_rfl) (by kernel_rfl) (by kernel_rfl) (fun _ _ _ h => h) (Or.inl ⟨by rfl, fun w' hS => by (try dsimp only at hS); go_simp⟩) hB1 ?_
              simp only [Act.put, List.setIfInBounds_toArray, List.set_cons_zero, List.set_cons_succ]
              refine wpAnyH_take (i := 26) (oi := { dst := some 137, op := Op.load 3 (Operand.tmp 136), type := 3, pos := _, after := #[{ on := 25, ground := Ground.data }, { on := 21, ground := Ground.guard }], guard := some (21, true) }) (v := (.int .i64 (rc j))) rfl (by kernel_rfl) (by kernel_rfl) (by kernel_rfl) (fun _ _ _ h => h) (Or.inl ⟨by rfl, fun w' hS => by (try dsimp only at hS); go_simp⟩) hB1 ?_
              simp only [Act.put, List.setIfInBounds_toArray, List.set_cons_zero, List.set_cons_succ]
              refine wpAnyH_take (i := 27) (oi := { dst := some 138, op := Op.fieldAddr 25 (Operand.tmp 5) 0, type := 0, pos := _, after := #[{ on := 21, ground := Ground.guard }], guard := some (21, true) }) (v := (.pointer (some ⟨w1.heap.size, 0, none⟩))) rfl (by kernel_rfl) (by kernel_rfl) (by kernel_rfl) (fun _ _ _ h => h) (Or.inl ⟨by rfl, fun w' hS => by (try dsimp only at hS); go_simp⟩) hB1 ?_
              simp only [Act.put, List.setIfInBounds_toArray, List.set_cons_zero, List.set_cons_succ]
              refine wpAnyH_take (i := 28) (oi := { dst := some 139, op := Op.load 23 (Operand.tmp 138), type := 23, pos := _, after := #[{ on := 27, ground := Ground.data }, { on := 21, ground := Ground.guard }], guard := some (21, true) }) (v := (.slice (some ⟨ya, yo, none⟩) 16 b5.c1)) rfl (by kernel_rfl) (by kernel_rfl) (by kernel_rfl) (fun _ _ _ h => h) (Or.inl ⟨by rfl, fun w' hS => by (try dsimp only at hS); go_simp⟩) hB1 ?_
              simp only [Act.put, List.setIfInBounds_toArray, List.set_cons_zero, List.set_cons_succ]
              refine wpAnyH_take (i := 29) (oi := { dst := some 140, op := Op.move (Operand.tmp 15), type := 3, pos := _, after := #[{ on := 21, ground := Ground.guard }], guard := some (21, true) }) (v := (.int .i64 (j))) rfl (by kernel_rfl) (by kernel_rfl) (by kernel_rfl) (fun _ _ _ h => h) (Or.inl ⟨by rfl, fun w' hS => by (try dsimp only at hS); go_simp⟩) hB1 ?_
              simp only [Act.put, List.setIfInBounds_toArray, List.set_cons_zero, List.set_cons_succ]
              refine wpAnyH_take (i := 30) (oi := { dst := some 141, op := Op.indexAddr 23 (Operand.tmp 139) (Operand.tmp 140), type := 0, pos := _, after := #[{ on := 28, ground := Ground.data }, { on := 29, ground := Ground.data }, { on := 21, ground := Ground.guard }], guard := some (21, true) }) (v := (.pointer (some ⟨ya, yo + j, none⟩))) rfl (by kernel_rfl) (by kernel_rfl) (by kernel_rfl) (fun _ _ _ h => h) (Or.inl ⟨by rfl, fun w' hS => by (try dsimp only at hS); go_simp⟩) hB1 ?_
              simp only [Act.put, List.setIfInBounds_toArray, List.set_cons_zero, List.set_cons_succ]
              refine wpAnyH_take (i := 31) (oi := { dst := some 142, op := Op.load 3 (Operand.tmp 141), type := 3, pos := _, after := #[{ on := 30, ground := Ground.data }, { on := 21, ground := Ground.guard }], guard := some (21, true) }) (v := (.int .i64 (c5 j))) rfl (by kernel_rfl) (by kernel_rfl) (by kernel_rfl) (fun _ _ _ h => h) (Or.inl ⟨by rfl, fun w' hS => by (try dsimp only at hS); go_simp⟩) hB1 ?_
              simp only [Act.put, List.setIfInBounds_toArray, List.set_cons_zero, List.set_cons_succ]
              refine wpAnyH_take (i := 32) (oi := { dst := some 143, op := Op.binOp BinOp.neq 3 (Operand.tmp 137) (Operand.tmp 142) 3, type := 4, pos := _, after := #[{ on := 26, ground := Ground.data }, { on := 31, ground := Ground.data }, { on := 21, ground := Ground.guard }], guard := some (21, true) }) (v := (.bool false)) rfl (by kernel_rfl) (by kernel_rfl) (by kernel_rfl) (fun _ _ _ h => h) (Or.inl ⟨by rfl, fun w' hS => by (try dsimp only at hS); go_simp⟩) hB1 ?_
              simp only [Act.put, List.setIfInBounds_toArray, List.set_cons_zero, List.set_cons_succ]
              refine wpAnyH_take (i := 33) (oi := { dst := some 144, op := Op.pick (Operand.tmp 132) (Operand.tmp 143) (Operand.const (Value.bool false)), type := 4, pos := _, after := #[{ on := 21, ground := Ground.data }, { on := 32, ground := Ground.data }, { on := 18, ground := Ground.guard }], guard := some (18, false) }) (v := (.bool false)) rfl (by kernel_rfl) (by kernel_rfl) (by kernel_rfl) (fun _ _ _ h => h) (Or.inl ⟨by rfl, fun w' hS => by (try dsimp only at hS); go_simp⟩) hB1 ?_
              simp only [Act.put, List.setIfInBounds_toArray, List.set_cons_zero, List.set_cons_succ]
              refine wpAnyH_take (i := 34) (oi := { dst := some 145, op := Op.pick (Operand.tmp 129) (Operand.const (Value.bool true)) (Operand.tmp 144), type := 4, pos := _, after := #[{ on := 18, ground := Ground.data }, { on := 33, ground := Ground.data }], guard := none }) (v := (.bool false)) rfl (by kernel_rfl) (by kernel_rfl) (by kernel_rfl) (fun _ _ _ h => h) (Or.inl ⟨by rfl, fun w' hS => by (try dsimp only at hS); go_simp⟩) hB1 ?_
              simp only [Act.put, List.setIfInBounds_toArray, List.set_cons_zero, List.set_cons_succ]
              refine wpAnyH_done (by kernel_rfl) ?_ _
              refine NoPanic.normal ?_
              go_wp2
              go_roundw
              case rel => exact ⟨j + 1, by omega, by go_num, hbr.trans hB1⟩
              case measure => simp [intOf]; omega
          · obtain rfl : j = 16 := by omega
            clear hlt hj
            obtain ⟨p00, p01⟩ := get2 X8.out.box
            go_wp2_with fail
            clear p00 p01
            refine (implFree_any b8 ⟨16, rc, 16, rl⟩ o6 (x : Int) k7 _ _ X8.out.at_ (fun x hx => hx)).mono ?_
            rintro e w5 ⟨b17, F17, one, rfl, ho, hsz, own, hb⟩
            have O17 : Hid (resO (freeOK ⟨16, rc, 16, rl⟩ o6 (x : Int) k7) (freed ⟨16, rc, 16, rl⟩ (x : Int) k7) F17 one) := ho
            clear ho hsz
            have hA : Blw w5 (w5.alloc (.cells #[.slice b17.a1 F17.n b17.c1, .slice b17.a2 F17.k b17.c2] 25)) := (Blw.refl _).alloc _
            replace hb := hb.trans hA
            replace HB : Hid (Blw _ _) := Blw.trans HB.out hb
            replace X5 : Hid (BX _ _ _ _) := BX.blw X5.out hb
            replace X8 : Hid (BX _ _ _ _) := BX.blw X8.out hb
            clear hb
            have X17 : Hid (BX (w5.alloc (.cells #[.slice b17.a1 F17.n b17.c1, .slice b17.a2 F17.k b17.c2] 25)) w5.heap.size b17 F17) := ⟨(own.at).blw hA |>.mono (fun x hx => by simp; omega), box2 w5 _ _ 25⟩
            clear hA
            clear own
            obtain ⟨p00, p01⟩ := get2 X5.out.box
            go_wp2_with fail
            clear p00 p01
            refine (implFreeBlocks_any b5 ⟨16, c5, 16, l5⟩ _ _ X5.out.at_ (fun x hx => hx)).mono ?_
            rintro e w6 ⟨a19, q19, D19, two, rfl, ho, hsz, own, hb⟩
            have O19 : Hid (resS (BD.Good ⟨16, c5, 16, l5⟩) (fbD ⟨16, c5, 16, l5⟩) D19 two) := ho
            have S19 : Hid (LS w6 a19 D19) := own.at.mono (fun x hx => hx.2)
            clear ho hsz own
            replace HB : Hid (Blw _ _) := Blw.trans HB.out hb
            replace X5 : Hid (BX _ _ _ _) := BX.blw X5.out hb
            replace X8 : Hid (BX _ _ _ _) := BX.blw X8.out hb
            replace X17 : Hid (BX _ _ _ _) := BX.blw X17.out hb
            clear hb
            obtain ⟨p00, p01⟩ := get2 X17.out.box
            go_wp2_with fail
            clear p00 p01
            refine (implFreeBlocks_any b17 F17 _ _ X17.out.at_ (fun x hx => hx)).mono ?_
            rintro e w7 ⟨a21, q21, D21, three, rfl, ho, hsz, own, hb⟩
            have O21 : Hid (resS F17.Good (fbD F17) D21 three) := ho
            have S21 : Hid (LS w7 a21 D21) := own.at.mono (fun x hx => hx.2)
            clear ho hsz own
            replace HB : Hid (Blw _ _) := Blw.trans HB.out hb
            replace X5 : Hid (BX _ _ _ _) := BX.blw X5.out hb
            replace X8 : Hid (BX _ _ _ _) := BX.blw X8.out hb
            replace X17 : Hid (BX _ _ _ _) := BX.blw X17.out hb
            replace S19 : Hid (LS _ _ _) := LS.blw S19.out hb
            clear hb
            obtain ⟨e1, e2⟩ := HT.out.back O17.out
            subst e1 e2
            obtain ⟨e3, e4⟩ := resS_same O21.out O19.out
            subst e3 e4
            have htw : three = true := by
              rcases O21.out with ⟨_, _, e⟩ | ⟨g, _⟩
              · exact e
              · exact absurd HT.out.good g
            subst htw
            have HRG : Hid (BD.Good ⟨16, rc, 16, rl⟩) := HT.out.rgood
            have hm1 := mod_beq_t HT.out.mod
            have dm : ((x : Int) % (S : Int) != 0) = false := by simp only [bne, hm1, Bool.not_true]
            have hs0 : ¬ (S : Int) = 0 := by omega
            have hs1 : ¬ (S : Int) = -1 := by omega
            clear O17 O19 O21 hm1
            obtain ⟨p00, p01⟩ := get2 X8.out.box
            go_wp2_with fail
            clear p00 p01
            refine (implGood_any b8 ⟨16, rc, 16, rl⟩ _ _ X8.out.at_ (fun x hx => hx)).mono ?_
            rintro e w8 ⟨good, rfl, hg, hb⟩
            replace HB : Hid (Blw _ _) := Blw.trans HB.out hb
            replace X5 : Hid (BX _ _ _ _) := BX.blw X5.out hb
            replace X8 : Hid (BX _ _ _ _) := BX.blw X8.out hb
            replace X17 : Hid (BX _ _ _ _) := BX.blw X17.out hb
            replace S19 : Hid (LS _ _ _) := LS.blw S19.out hb
            replace S21 : Hid (LS _ _ _) := LS.blw S21.out hb
            clear hb
            obtain rfl : good = true := hg.2 HRG.out
            clear hg
            obtain ⟨p00, p01⟩ := get2 X17.out.box
            obtain ⟨p10, p11⟩ := get2 X5.out.box
            go_wp2_with fail
            clear p00 p01 p10 p11
            refine (sameOwners_same b17 b5 ⟨16, c5, 16, l5⟩ _ X17.out.at_ X5.out.at_).mono ?_
            rintro e w9 ⟨rfl, hb⟩
            replace HB : Hid (Blw _ _) := Blw.trans HB.out hb
            replace X5 : Hid (BX _ _ _ _) := BX.blw X5.out hb
            replace X8 : Hid (BX _ _ _ _) := BX.blw X8.out hb
            replace X17 : Hid (BX _ _ _ _) := BX.blw X17.out hb
            replace S19 : Hid (LS _ _ _) := LS.blw S19.out hb
            replace S21 : Hid (LS _ _ _) := LS.blw S21.out hb
            clear hb
            go_wp2_with fail
            refine (sameRows_same _ _ _ _ D21 _ S19.out S21.out).mono ?_
            rintro e w10 ⟨rfl, hb⟩
            replace HB : Hid (Blw _ _) := Blw.trans HB.out hb
            replace X5 : Hid (BX _ _ _ _) := BX.blw X5.out hb
            replace X8 : Hid (BX _ _ _ _) := BX.blw X8.out hb
            replace X17 : Hid (BX _ _ _ _) := BX.blw X17.out hb
            replace S19 : Hid (LS _ _ _) := LS.blw S19.out hb
            replace S21 : Hid (LS _ _ _) := LS.blw S21.out hb
            clear hb
            go_wp2_with fail
            go_meet
            exact HB.out
    case rest =>
      have HC : Hid (Blw w wc) := hcut
      clear hcut HB X5 X8 O8
      replace H2 : Hid (BY _ _ _ _) := BY.blw H2.out HC.out
      go_wp2_with fail
      refine (drawFreeBlocks_any ao2 n2 c2 f2 _ H2.out).mono ?_
      rintro e v1 ⟨b23, c23, l23, rfl, hat, hb⟩
      have hA : Blw v1 (v1.alloc (.cells #[.slice b23.a1 16 b23.c1, .slice b23.a2 16 b23.c2] 25)) := (Blw.refl _).alloc _
      replace hb := hb.trans hA
      replace HC : Hid (Blw _ _) := Blw.trans HC.out hb
      replace H2 : Hid (BY _ _ _ _) := BY.blw H2.out hb
      clear hb
      have X23 : Hid (BX (v1.alloc (.cells #[.slice b23.a1 16 b23.c1, .slice b23.a2 16 b23.c2] 25)) v1.heap.size b23 ⟨16, c23, 16, l23⟩) := ⟨(hat).blw hA |>.mono (fun x hx => by simp; omega), box2 v1 _ _ 25⟩
      clear hA
      clear hat
      obtain ⟨p00, p01⟩ := get2 X23.out.box
      go_wp2_with fail
      clear p00 p01
      refine (implFreeBlocks_any b23 ⟨16, c23, 16, l23⟩ _ _ X23.out.at_ (fun x hx => hx)).mono ?_
      rintro e v2 ⟨a24, q24, D24, r25, rfl, ho, hsz, own, hb⟩
      have O24 : Hid (resS (BD.Good ⟨16, c23, 16, l23⟩) (fbD ⟨16, c23, 16, l23⟩) D24 r25) := ho
      have S24 : Hid (LS v2 a24 D24) := own.at.mono (fun x hx => hx.2)
      clear ho hsz own
      replace HC : Hid (Blw _ _) := Blw.trans HC.out hb
      replace H2 : Hid (BY _ _ _ _) := BY.blw H2.out hb
      replace X23 : Hid (BX _ _ _ _) := BX.blw X23.out hb
      clear hb
      obtain ⟨p00, p01⟩ := get2 X23.out.box
      go_wp2_with fail
      clear p00 p01
      refine (specFreeBlocks_any b23 ⟨16, c23, 16, l23⟩ _ _ X23.out.at_).mono ?_
      rintro e v3 ⟨a26, q26, D26, r27, rfl, ho, hsz, own, hb⟩
      have O26 : Hid (resS (BD.Good ⟨16, c23, 16, l23⟩) (fbD ⟨16, c23, 16, l23⟩) D26 r27) := ho
      have S26 : Hid (LS v3 a26 D26) := own.at.mono (fun x hx => hx.2)
      clear ho hsz own
      replace HC : Hid (Blw _ _) := Blw.trans HC.out hb
      replace H2 : Hid (BY _ _ _ _) := BY.blw H2.out hb
      replace X23 : Hid (BX _ _ _ _) := BX.blw X23.out hb
      replace S24 : Hid (LS _ _ _) := LS.blw S24.out hb
      clear hb
      obtain ⟨eM, eb⟩ := resS_same O26.out O24.out
      subst eM eb
      clear O24
      have hne : (r27 != r27) = false := by simp
      go_wp2_with fail
      refine (sameRows_same _ _ _ _ D26 _ S24.out S26.out).mono ?_
      rintro e v4 ⟨rfl, hb⟩
      replace HC : Hid (Blw _ _) := Blw.trans HC.out hb
      replace H2 : Hid (BY _ _ _ _) := BY.blw H2.out hb
      replace X23 : Hid (BX _ _ _ _) := BX.blw X23.out hb
      replace S24 : Hid (LS _ _ _) := LS.blw S24.out hb
      replace S26 : Hid (LS _ _ _) := LS.blw S26.out hb
      clear hb
      clear S26
      clear hne
      go_upto_if 219 with fail
      go_cut [] from 23 to 249 (fun wx => Blw v4 wx)
      case first =>
        cases r27
        · go_wp2_with fail
          go_meet
          exact Blw.refl _
        · skip
          have hD : D26 = fbD ⟨16, c23, 16, l23⟩ := by
            rcases O26.out with ⟨_, e, _⟩ | ⟨_, _, e⟩
            · exact e
            · cases e
          subst hD
          clear O26
          have HLN : Hid (∀ i, (blocks c23 i).length ≤ 16) := fun i => pk_len _ _
          go_wp2_with fail
          go_loopw [28, 222] (fun nv i wr => ∃ q : Nat, q ≤ 5 ∧ i = .int .i64 q ∧ nv = .int .i64 (sumTo c23 q : Nat) ∧ wr = v4) (fun _ i _ => 5 - (intOf i).toNat)
          case atStart => exact ⟨0, by omega, rfl, rfl, rfl⟩
          case round =>
            obtain ⟨q, hq, rfl, rfl, hw⟩ := hrel
            subst hw
            by_cases hlt : q < 5
            · have hlt' : (q : Int) < 5 := by omega
              obtain ⟨ya, yo, la, lc, rfl, -, gq, -⟩ := S24.out.2 q hlt
              have hsl := sum_le c23 q hq
              have hll := HLN.out q
              dsimp only at gq
              have e1 := sumTo_next c23 q
              have HE : Hid (sumTo c23 (q + 1) = sumTo c23 q + (blocks c23 q).length * 2 ^ q) := e1
              have hsn := sum_le c23 (q + 1) (by omega)
              clear e1
              generalize hL : (blocks c23 q).length = L at *
              have hsh := shl_len L q (by omega) (by omega)
              have hwk : IntKind.u64.wrap (q : Int) = (q : Int) := by rw [IntKind.wrap_u64] <;> omega
              obtain ⟨M, hM⟩ : ∃ M, M = L * 2 ^ q := ⟨_, rfl⟩
              rw [← hM] at hsh HE
              have HM : Hid (sumTo c23 (q + 1) = sumTo c23 q + M) := HE.out
              rw [HM.out] at hsn
              clear hL HE
              generalize hs : sumTo c23 q = s at *
              have e3 : IntKind.i64.wrap ((s : Int) + (M : Int)) = ((s + M : Nat) : Int) := by rw [IntKind.wrap_i64] <;> omega
              have e4 : wrap64 ((s : Int) + (M : Int)) = ((s + M : Nat) : Int) := by unfold wrap64; omega
              have HQ5 : Hid (q < 5) := hlt
              have e8 : wrap64 ((L : Int) * 2 ^ min q 64) = (M : Int) := by
                have hmq : min q 64 = q := by omega
                have hcm : (L : Int) * 2 ^ q = ((L * 2 ^ q : Nat) : Int) := by rw [Int.natCast_mul, Int.natCast_pow]; rfl
                rw [hmq, hcm, ← hM]; unfold wrap64; omega
              have e6 : IntKind.i64.wrap ((q : Int) + 1) = ((q + 1 : Nat) : Int) := by rw [IntKind.wrap_i64] <;> omega
              have e7 : wrap64 ((q : Int) + 1) = ((q + 1 : Nat) : Int) := by unfold wrap64; omega
              clear hs hq hlt hsl hll hsn hM
              go_upto_region 33 with fail
              clear hlt'
              go_wp2
              go_roundw
              case rel => exact ⟨q + 1, by have := HQ5.out; omega, by first | rfl | go_num, (by rw [HM.out]; first | rfl | go_num), by first | rfl | trivial⟩
              case measure => have := HQ5.out; simp [intOf]; omega
            · obtain rfl : q = 5 := by omega
              obtain ⟨ya, yo, ea, -, -⟩ := X23.out.at_.c.2 0 (by show 0 < 16; omega)
              obtain ⟨u1, u2, u3, u4⟩ := b23
              dsimp only at ea
              subst ea
              obtain ⟨p0, p1⟩ := get2 X23.out.box
              go_wp2_with fail
              clear p0 p1 hlt hq
              go_loopw [29, 238] (fun nv i wq => ∃ q : Nat, q ≤ 16 ∧ i = .int .i64 q ∧ nv = .int .i64 ((pk (zeroP c23) q).length : Nat) ∧ wq = wr) (fun _ i _ => 16 - (intOf i).toNat)
              case atStart => exact ⟨0, by omega, rfl, rfl, rfl⟩
              case round =>
                obtain ⟨q, hq, rfl, rfl, hw⟩ := hrel
                subst hw
                by_cases hlt : q < 16
                · have hlt' : (q : Int) < 16 := by omega
                  obtain ⟨ya', yo', ea', -, gj⟩ := X23.out.at_.c.2 q hlt
                  cases ea'
                  have hle := pk_len (zeroP c23) q
                  by_cases hz : c23 q = 0
                  · have dz : (c23 q == 0) = true := by simp [hz]
                    have HN : Hid ((pk (zeroP c23) (q + 1)).length = (pk (zeroP c23) q).length + 1) := by show _ = _; rw [pk_yes (by simp [zeroP, hz])]; simp
                    clear hz
                    generalize hP : (pk (zeroP c23) q).length = P at *
                    have e3 : IntKind.i64.wrap ((P : Int) + 1) = ((P + 1 : Nat) : Int) := by rw [IntKind.wrap_i64] <;> omega
                    clear hP
                    go_wp2
                    go_roundw
                    case rel => exact ⟨q + 1, by omega, by go_num, (by rw [HN.out]; first | rfl | go_num), by first | rfl | trivial⟩
                    case measure => simp [intOf]; omega
                  · have dz : (c23 q == 0) = false := by simp [hz]
                    have HN : Hid ((pk (zeroP c23) (q + 1)).length = (pk (zeroP c23) q).length) := by show _ = _; rw [pk_no (by simp [zeroP, hz])]
                    clear hz
                    go_wp2
                    go_roundw
                    case rel => exact ⟨q + 1, by omega, by go_num, by rw [HN.out], by first | rfl | trivial⟩
                    case measure => simp [intOf]; omega
                · obtain rfl : q = 16 := by omega
                  have hEq : (((sumTo c23 5 : Nat) : Int) != ((pk (zeroP c23) 16).length : Nat)) = false := by rw [sumTo_all, sum_fact]; simp
                  clear hlt hq
                  go_wp2_with fail
                  go_meet
                  exact Blw.refl _
      case rest =>
        have hb : Blw v4 wc := hcut
        clear hcut X23 S24 O26
        replace HC : Hid (Blw _ _) := Blw.trans HC.out hb
        replace H2 : Hid (BY _ _ _ _) := BY.blw H2.out hb
        clear hb
        go_wp2_with fail
        refine (drawFree_any ao2 n2 c2 f2 _ H2.out).mono ?_
        rintro e v5 ⟨b34, c34, l34, o35, a36, k37, rfl, hat, hb⟩
        have hA : Blw v5 (v5.alloc (.cells #[.slice b34.a1 16 b34.c1, .slice b34.a2 16 b34.c2] 25)) := (Blw.refl _).alloc _
        replace hb := hb.trans hA
        replace HC : Hid (Blw _ _) := Blw.trans HC.out hb
        replace H2 : Hid (BY _ _ _ _) := BY.blw H2.out hb
        clear hb
        have X34 : Hid (BX (v5.alloc (.cells #[.slice b34.a1 16 b34.c1, .slice b34.a2 16 b34.c2] 25)) v5.heap.size b34 ⟨16, c34, 16, l34⟩) := ⟨(hat).blw hA |>.mono (fun x hx => by simp; omega), box2 v5 _ _ 25⟩
        clear hA
        clear hat
        clear H2
        obtain ⟨p00, p01⟩ := get2 X34.out.box
        go_wp2_with fail
        clear p00 p01
        refine (implFree_any b34 ⟨16, c34, 16, l34⟩ o35 a36 k37 _ _ X34.out.at_ (fun x hx => hx)).mono ?_
        rintro e v6 ⟨b38, R38, r39, rfl, ho, hsz, own, hb⟩
        have O38 : Hid (resO (freeOK ⟨16, c34, 16, l34⟩ o35 a36 k37) (freed ⟨16, c34, 16, l34⟩ a36 k37) R38 r39) := ho
        clear ho hsz
        have hA : Blw v6 (v6.alloc (.cells #[.slice b38.a1 R38.n b38.c1, .slice b38.a2 R38.k b38.c2] 25)) := (Blw.refl _).alloc _
        replace hb := hb.trans hA
        replace HC : Hid (Blw _ _) := Blw.trans HC.out hb
        replace X34 : Hid (BX _ _ _ _) := BX.blw X34.out hb
        clear hb
        have X38 : Hid (BX (v6.alloc (.cells #[.slice b38.a1 R38.n b38.c1, .slice b38.a2 R38.k b38.c2] 25)) v6.heap.size b38 R38) := ⟨(own.at).blw hA |>.mono (fun x hx => by simp; omega), box2 v6 _ _ 25⟩
        clear hA
        clear own
        obtain ⟨p00, p01⟩ := get2 X34.out.box
        go_wp2_with fail
        clear p00 p01
        refine (specFree_any b34 ⟨16, c34, 16, l34⟩ o35 a36 k37 _ _ X34.out.at_ (fun x hx => hx)).mono ?_
        rintro e v7 ⟨b40, R40, r41, rfl, ho, hsz, own, hb⟩
        have O40 : Hid (resO (freeOK ⟨16, c34, 16, l34⟩ o35 a36 k37) (freed ⟨16, c34, 16, l34⟩ a36 k37) R40 r41) := ho
        clear ho hsz
        have hA : Blw v7 (v7.alloc (.cells #[.slice b40.a1 R40.n b40.c1, .slice b40.a2 R40.k b40.c2] 25)) := (Blw.refl _).alloc _
        replace hb := hb.trans hA
        replace HC : Hid (Blw _ _) := Blw.trans HC.out hb
        replace X34 : Hid (BX _ _ _ _) := BX.blw X34.out hb
        replace X38 : Hid (BX _ _ _ _) := BX.blw X38.out hb
        clear hb
        have X40 : Hid (BX (v7.alloc (.cells #[.slice b40.a1 R40.n b40.c1, .slice b40.a2 R40.k b40.c2] 25)) v7.heap.size b40 R40) := ⟨(own.at).blw hA |>.mono (fun x hx => by simp; omega), box2 v7 _ _ 25⟩
        clear hA
        clear own
        obtain ⟨eM, eb⟩ := resO_same O40.out O38.out
        subst eM eb
        clear O38 O40
        have hne : (r41 == r41) = true := by simp
        obtain ⟨p00, p01⟩ := get2 X38.out.box
        obtain ⟨p10, p11⟩ := get2 X40.out.box
        go_wp2_with fail
        clear p00 p01 p10 p11
        refine (sameOwners_same b38 b40 R40 _ X38.out.at_ X40.out.at_).mono ?_
        rintro e v8 ⟨rfl, hb⟩
        replace HC : Hid (Blw _ _) := Blw.trans HC.out hb
        replace X34 : Hid (BX _ _ _ _) := BX.blw X34.out hb
        replace X38 : Hid (BX _ _ _ _) := BX.blw X38.out hb
        replace X40 : Hid (BX _ _ _ _) := BX.blw X40.out hb
        clear hb
        go_wp2
        go_ret
        exact ⟨rfl, HC.out⟩
end Go.Proofs.Ytfmmpddknanhbaa
