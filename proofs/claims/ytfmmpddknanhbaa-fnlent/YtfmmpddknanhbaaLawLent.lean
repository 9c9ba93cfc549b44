/- Law 4: what is lent comes back, for drawn owners. -/
import Derived.Test.YtfmmpddknanhbaaLawX
namespace Go.Proofs.Ytfmmpddknanhbaa
open Go.RowKit
set_option linter.unusedSimpArgs false
set_option linter.unusedVariables false
set_option maxRecDepth 10000 in
set_option maxHeartbeats 12800000 in
theorem lawLentP (ao1 : Option Addr) (n1 c1 : Nat) (f1 : Nat → Int) (ao2 : Option Addr) (n2 c2 : Nat) (f2 : Nat → Int) (w : World) (h1 : BytesAt (fun b => b < w.heap.size) w ao1 n1 f1) (h2 : BytesAt (fun b => b < w.heap.size) w ao2 n2 f2) :
    Calls Try.prog 4 #[.slice ao1 n1 c1, .slice ao2 n2 c2] w fun e w' => e = .returned (.bool true) ∧ Blw w w' := by
  have H1 : Hid (BY w ao1 n1 f1) := h1
  have H2 : Hid (BY w ao2 n2 f2) := h2
  clear h1 h2
  go_enter Try.func4, Try.ntmps4
  by_cases hd : wrap64 ((n1 : Int) + n2) > 1048576
  · have d1 : decide (wrap64 ((n1 : Int) + n2) > 1048576) = true := by simpa using hd
    clear hd
    go_wp2
    go_ret
    exact ⟨rfl, Blw.refl _⟩
  have d1 : decide (wrap64 ((n1 : Int) + n2) > 1048576) = false := by simpa using hd
  clear hd
  have HB : Hid (Blw w w) := Blw.refl w
  go_wp2_with fail
  clear d1
  refine (drawLend_any ao1 n1 c1 f1 _ H1.out).mono ?_
  rintro e w1 ⟨b5, c5, l5, o6, p7, t8, rfl, hat, hb⟩
  have hA : Blw w1 (w1.alloc (.cells #[.slice b5.a1 16 b5.c1, .slice b5.a2 16 b5.c2] 25)) := (Blw.refl _).alloc _
  replace hb := hb.trans hA
  replace HB : Hid (Blw _ _) := Blw.trans HB.out hb
  clear hb
  have X5 : Hid (BX (w1.alloc (.cells #[.slice b5.a1 16 b5.c1, .slice b5.a2 16 b5.c2] 25)) w1.heap.size b5 ⟨16, c5, 16, l5⟩) := ⟨(hat).blw hA |>.mono (fun x hx => by simp; omega), box2 w1 _ _ 25⟩
  clear hA
  clear hat
  clear H1
  obtain ⟨p00, p01⟩ := get2 X5.out.box
  go_wp2_with fail
  clear p00 p01
  refine (implLend_any b5 ⟨16, c5, 16, l5⟩ o6 p7 t8 _ _ X5.out.at_ (fun x hx => hx)).mono ?_
  rintro e w2 ⟨b9, R9, r10, rfl, ho, hsz, own, hb⟩
  have O9 : Hid (resO (lendOK ⟨16, c5, 16, l5⟩ o6 p7 t8) (lentTo ⟨16, c5, 16, l5⟩ p7 t8) R9 r10) := ho
  clear ho hsz
  have hA : Blw w2 (w2.alloc (.cells #[.slice b9.a1 R9.n b9.c1, .slice b9.a2 R9.k b9.c2] 25)) := (Blw.refl _).alloc _
  replace hb := hb.trans hA
  replace HB : Hid (Blw _ _) := Blw.trans HB.out hb
  replace X5 : Hid (BX _ _ _ _) := BX.blw X5.out hb
  clear hb
  have X9 : Hid (BX (w2.alloc (.cells #[.slice b9.a1 R9.n b9.c1, .slice b9.a2 R9.k b9.c2] 25)) w2.heap.size b9 R9) := ⟨(own.at).blw hA |>.mono (fun x hx => by simp; omega), box2 w2 _ _ 25⟩
  clear hA
  clear own
  obtain ⟨p00, p01⟩ := get2 X5.out.box
  go_wp2_with fail
  clear p00 p01
  refine (specLend_any b5 ⟨16, c5, 16, l5⟩ o6 p7 t8 _ _ X5.out.at_).mono ?_
  rintro e w3 ⟨b11, R11, r12, rfl, ho, hsz, own, hb⟩
  have O11 : Hid (resO (lendOK ⟨16, c5, 16, l5⟩ o6 p7 t8) (lentTo ⟨16, c5, 16, l5⟩ p7 t8) R11 r12) := ho
  clear ho hsz
  have hA : Blw w3 (w3.alloc (.cells #[.slice b11.a1 R11.n b11.c1, .slice b11.a2 R11.k b11.c2] 25)) := (Blw.refl _).alloc _
  replace hb := hb.trans hA
  replace HB : Hid (Blw _ _) := Blw.trans HB.out hb
  replace X5 : Hid (BX _ _ _ _) := BX.blw X5.out hb
  replace X9 : Hid (BX _ _ _ _) := BX.blw X9.out hb
  clear hb
  have X11 : Hid (BX (w3.alloc (.cells #[.slice b11.a1 R11.n b11.c1, .slice b11.a2 R11.k b11.c2] 25)) w3.heap.size b11 R11) := ⟨(own.at).blw hA |>.mono (fun x hx => by simp; omega), box2 w3 _ _ 25⟩
  clear hA
  clear own
  obtain ⟨eM, eb⟩ := resO_same O11.out O9.out
  subst eM eb
  clear O11
  have hne : (r12 != r12) = false := by simp
  obtain ⟨p00, p01⟩ := get2 X9.out.box
  obtain ⟨p10, p11⟩ := get2 X11.out.box
  go_wp2_with fail
  clear p00 p01 p10 p11
  refine (sameOwners_same b9 b11 R11 _ X9.out.at_ X11.out.at_).mono ?_
  rintro e w4 ⟨rfl, hb⟩
  replace HB : Hid (Blw _ _) := Blw.trans HB.out hb
  replace X5 : Hid (BX _ _ _ _) := BX.blw X5.out hb
  replace X9 : Hid (BX _ _ _ _) := BX.blw X9.out hb
  replace X11 : Hid (BX _ _ _ _) := BX.blw X11.out hb
  clear hb
  clear X11
  clear hne
  go_upto_if 79 with fail
  go_cut [] from 5 to 131 (fun wx => Blw w wx)
  case first =>
    cases r12
    · go_wp2_with fail
      go_meet
      exact HB.out
    · skip
      obtain ⟨p00, p01⟩ := get2 X9.out.box
      go_wp2_with fail
      clear p00 p01
      refine (implMay_any b9 R11 o6 _ _ X9.out.at_ (fun x hx => hx)).mono ?_
      rintro e w5 ⟨a13, n13, q13, f13, one, rfl, ho, hsz, own, hb⟩
      have O13 : Hid (muOut R11 o6 n13 f13 one) := ho
      have I13 : Hid (LI w5 a13 n13 f13) := own.at.mono (fun x hx => hx.2)
      have hlI13 : n13 ≤ 1048576 := hsz
      clear ho hsz own
      replace HB : Hid (Blw _ _) := Blw.trans HB.out hb
      replace X5 : Hid (BX _ _ _ _) := BX.blw X5.out hb
      replace X9 : Hid (BX _ _ _ _) := BX.blw X9.out hb
      clear hb
      obtain ⟨p00, p01⟩ := get2 X9.out.box
      go_wp2_with fail
      clear p00 p01
      refine (implMay_any b9 R11 t8 _ _ X9.out.at_ (fun x hx => hx)).mono ?_
      rintro e w6 ⟨a15, n15, q15, f15, two, rfl, ho, hsz, own, hb⟩
      have O15 : Hid (muOut R11 t8 n15 f15 two) := ho
      have I15 : Hid (LI w6 a15 n15 f15) := own.at.mono (fun x hx => hx.2)
      have hlI15 : n15 ≤ 1048576 := hsz
      clear ho hsz own
      replace HB : Hid (Blw _ _) := Blw.trans HB.out hb
      replace X5 : Hid (BX _ _ _ _) := BX.blw X5.out hb
      replace X9 : Hid (BX _ _ _ _) := BX.blw X9.out hb
      replace I13 : Hid (LI _ _ _ _) := LI.blw I13.out hb
      clear hb
      obtain ⟨p00, p01⟩ := get2 X9.out.box
      go_wp2_with fail
      clear p00 p01
      refine (implBack_any b9 R11 o6 p7 _ _ X9.out.at_ (fun x hx => hx)).mono ?_
      rintro e w7 ⟨b17, C17, three, rfl, ho, hsz, own, hb⟩
      have O17 : Hid (resO (backOK R11 o6 p7) (lentTo R11 p7 0) C17 three) := ho
      clear ho hsz
      have hA : Blw w7 (w7.alloc (.cells #[.slice b17.a1 C17.n b17.c1, .slice b17.a2 C17.k b17.c2] 25)) := (Blw.refl _).alloc _
      replace hb := hb.trans hA
      replace HB : Hid (Blw _ _) := Blw.trans HB.out hb
      replace X5 : Hid (BX _ _ _ _) := BX.blw X5.out hb
      replace X9 : Hid (BX _ _ _ _) := BX.blw X9.out hb
      replace I13 : Hid (LI _ _ _ _) := LI.blw I13.out hb
      replace I15 : Hid (LI _ _ _ _) := LI.blw I15.out hb
      clear hb
      have X17 : Hid (BX (w7.alloc (.cells #[.slice b17.a1 C17.n b17.c1, .slice b17.a2 C17.k b17.c2] 25)) w7.heap.size b17 C17) := ⟨(own.at).blw hA |>.mono (fun x hx => by simp; omega), box2 w7 _ _ 25⟩
      clear hA
      clear own
      obtain ⟨p00, p01⟩ := get2 X9.out.box
      go_wp2_with fail
      clear p00 p01
      refine (implGood_any b9 R11 _ _ X9.out.at_ (fun x hx => hx)).mono ?_
      rintro e w8 ⟨good, rfl, hg, hb⟩
      replace HB : Hid (Blw _ _) := Blw.trans HB.out hb
      replace X5 : Hid (BX _ _ _ _) := BX.blw X5.out hb
      replace X9 : Hid (BX _ _ _ _) := BX.blw X9.out hb
      replace I13 : Hid (LI _ _ _ _) := LI.blw I13.out hb
      replace I15 : Hid (LI _ _ _ _) := LI.blw I15.out hb
      replace X17 : Hid (BX _ _ _ _) := BX.blw X17.out hb
      clear hb
      obtain ⟨e1, e2, e3, e4, e5, e6, e7⟩ := lent_fact O9.out O13.out O15.out O17.out hg
      have HL1 : Hid (hasLine n13 f13 p7) := e3
      have HL2 : Hid (hasLine n15 f15 p7) := e5
      clear hg O9 O13 O15 O17 e3 e5
      subst e1 e2 e4 e6 e7
      go_wp2_with fail
      refine (has_any a13 q13 n13 f13 _ _ p7 I13.out).mono ?_
      rintro e w9 ⟨h1b, rfl, hh1, rfl⟩
      obtain rfl : h1b = true := hh1.2 HL1.out
      clear hh1
      go_wp2_with fail
      refine (has_any a15 q15 n15 f15 _ _ p7 I15.out).mono ?_
      rintro e w9 ⟨h2b, rfl, hh2, rfl⟩
      obtain rfl : h2b = true := hh2.2 HL2.out
      clear hh2
      obtain ⟨p00, p01⟩ := get2 X17.out.box
      obtain ⟨p10, p11⟩ := get2 X5.out.box
      go_wp2_with fail
      clear p00 p01 p10 p11
      refine (sameOwners_same b17 b5 ⟨16, c5, 16, l5⟩ _ X17.out.at_ X5.out.at_).mono ?_
      rintro e w10 ⟨rfl, hb⟩
      replace HB : Hid (Blw _ _) := Blw.trans HB.out hb
      replace X5 : Hid (BX _ _ _ _) := BX.blw X5.out hb
      replace X9 : Hid (BX _ _ _ _) := BX.blw X9.out hb
      replace I13 : Hid (LI _ _ _ _) := LI.blw I13.out hb
      replace I15 : Hid (LI _ _ _ _) := LI.blw I15.out hb
      replace X17 : Hid (BX _ _ _ _) := BX.blw X17.out hb
      clear hb
      go_wp2_with fail
      go_meet
      exact HB.out
  case rest =>
    have HC : Hid (Blw w wc) := hcut
    clear hcut HB X5 X9 O9
    replace H2 : Hid (BY _ _ _ _) := BY.blw H2.out HC.out
    go_wp2_with fail
    refine (drawDrop_any ao2 n2 c2 f2 _ H2.out).mono ?_
    rintro e v1 ⟨b19, c19, l19, o20, rfl, hat, hb⟩
    have hA : Blw v1 (v1.alloc (.cells #[.slice b19.a1 16 b19.c1, .slice b19.a2 16 b19.c2] 25)) := (Blw.refl _).alloc _
    replace hb := hb.trans hA
    replace HC : Hid (Blw _ _) := Blw.trans HC.out hb
    replace H2 : Hid (BY _ _ _ _) := BY.blw H2.out hb
    clear hb
    have X19 : Hid (BX (v1.alloc (.cells #[.slice b19.a1 16 b19.c1, .slice b19.a2 16 b19.c2] 25)) v1.heap.size b19 ⟨16, c19, 16, l19⟩) := ⟨(hat).blw hA |>.mono (fun x hx => by simp; omega), box2 v1 _ _ 25⟩
    clear hA
    clear hat
    obtain ⟨p00, p01⟩ := get2 X19.out.box
    go_wp2_with fail
    clear p00 p01
    refine (implDrop_any b19 ⟨16, c19, 16, l19⟩ o20 _ _ X19.out.at_ (fun x hx => hx)).mono ?_
    rintro e v2 ⟨b21, D21, n22, r23, rfl, ho, hsz, own, hb⟩
    have O21 : Hid (resN (muOK ⟨16, c19, 16, l19⟩ o20) (dropped ⟨16, c19, 16, l19⟩ o20) (had ⟨16, c19, 16, l19⟩ o20) D21 n22 r23) := ho
    clear ho hsz
    have hA : Blw v2 (v2.alloc (.cells #[.slice b21.a1 D21.n b21.c1, .slice b21.a2 D21.k b21.c2] 25)) := (Blw.refl _).alloc _
    replace hb := hb.trans hA
    replace HC : Hid (Blw _ _) := Blw.trans HC.out hb
    replace H2 : Hid (BY _ _ _ _) := BY.blw H2.out hb
    replace X19 : Hid (BX _ _ _ _) := BX.blw X19.out hb
    clear hb
    have X21 : Hid (BX (v2.alloc (.cells #[.slice b21.a1 D21.n b21.c1, .slice b21.a2 D21.k b21.c2] 25)) v2.heap.size b21 D21) := ⟨(own.at).blw hA |>.mono (fun x hx => by simp; omega), box2 v2 _ _ 25⟩
    clear hA
    clear own
    obtain ⟨p00, p01⟩ := get2 X19.out.box
    go_wp2_with fail
    clear p00 p01
    refine (specDrop_any b19 ⟨16, c19, 16, l19⟩ o20 _ _ X19.out.at_).mono ?_
    rintro e v3 ⟨b24, D24, n25, r26, rfl, ho, hsz, own, hb⟩
    have O24 : Hid (resN (muOK ⟨16, c19, 16, l19⟩ o20) (dropped ⟨16, c19, 16, l19⟩ o20) (had ⟨16, c19, 16, l19⟩ o20) D24 n25 r26) := ho
    clear ho hsz
    have hA : Blw v3 (v3.alloc (.cells #[.slice b24.a1 D24.n b24.c1, .slice b24.a2 D24.k b24.c2] 25)) := (Blw.refl _).alloc _
    replace hb := hb.trans hA
    replace HC : Hid (Blw _ _) := Blw.trans HC.out hb
    replace H2 : Hid (BY _ _ _ _) := BY.blw H2.out hb
    replace X19 : Hid (BX _ _ _ _) := BX.blw X19.out hb
    replace X21 : Hid (BX _ _ _ _) := BX.blw X21.out hb
    clear hb
    have X24 : Hid (BX (v3.alloc (.cells #[.slice b24.a1 D24.n b24.c1, .slice b24.a2 D24.k b24.c2] 25)) v3.heap.size b24 D24) := ⟨(own.at).blw hA |>.mono (fun x hx => by simp; omega), box2 v3 _ _ 25⟩
    clear hA
    clear own
    obtain ⟨eM, en, eb⟩ := resN_same O24.out O21.out
    subst eM en eb
    clear O24
    obtain ⟨p00, p01⟩ := get2 X19.out.box
    go_wp2_with fail
    clear p00 p01
    refine (implMay_any b19 ⟨16, c19, 16, l19⟩ o20 _ _ X19.out.at_ (fun x hx => hx)).mono ?_
    rintro e v4 ⟨a27, n27, q27, f27, r28, rfl, ho, hsz, own, hb⟩
    have O27 : Hid (muOut ⟨16, c19, 16, l19⟩ o20 n27 f27 r28) := ho
    have I27 : Hid (LI v4 a27 n27 f27) := own.at.mono (fun x hx => hx.2)
    have hlI27 : n27 ≤ 1048576 := hsz
    clear ho hsz own
    replace HC : Hid (Blw _ _) := Blw.trans HC.out hb
    replace H2 : Hid (BY _ _ _ _) := BY.blw H2.out hb
    replace X19 : Hid (BX _ _ _ _) := BX.blw X19.out hb
    replace X21 : Hid (BX _ _ _ _) := BX.blw X21.out hb
    replace X24 : Hid (BX _ _ _ _) := BX.blw X24.out hb
    clear hb
    obtain ⟨p00, p01⟩ := get2 X19.out.box
    go_wp2_with fail
    clear p00 p01
    refine (specMay_any b19 ⟨16, c19, 16, l19⟩ o20 _ _ X19.out.at_).mono ?_
    rintro e v5 ⟨a29, n29, q29, f29, r30, rfl, ho, hsz, own, hb⟩
    have O29 : Hid (muOut ⟨16, c19, 16, l19⟩ o20 n29 f29 r30) := ho
    have I29 : Hid (LI v5 a29 n29 f29) := own.at.mono (fun x hx => hx.2)
    have hlI29 : n29 ≤ 1048576 := hsz
    clear ho hsz own
    replace HC : Hid (Blw _ _) := Blw.trans HC.out hb
    replace H2 : Hid (BY _ _ _ _) := BY.blw H2.out hb
    replace X19 : Hid (BX _ _ _ _) := BX.blw X19.out hb
    replace X21 : Hid (BX _ _ _ _) := BX.blw X21.out hb
    replace X24 : Hid (BX _ _ _ _) := BX.blw X24.out hb
    replace I27 : Hid (LI _ _ _ _) := LI.blw I27.out hb
    clear hb
    obtain ⟨⟨en, ef⟩, eb⟩ := muOut_same O27.out O29.out
    subst en eb
    have EF : Hid (∀ i, i < n27 → f27 i = f29 i) := ef
    clear ef O29
    clear X19
    go_wp2_with fail
    refine (drawBack_any ao2 n2 c2 f2 _ H2.out).mono ?_
    rintro e v6 ⟨b31, c31, l31, o32, p33, rfl, hat, hb⟩
    have hA : Blw v6 (v6.alloc (.cells #[.slice b31.a1 16 b31.c1, .slice b31.a2 16 b31.c2] 25)) := (Blw.refl _).alloc _
    replace hb := hb.trans hA
    replace HC : Hid (Blw _ _) := Blw.trans HC.out hb
    replace H2 : Hid (BY _ _ _ _) := BY.blw H2.out hb
    replace X21 : Hid (BX _ _ _ _) := BX.blw X21.out hb
    replace X24 : Hid (BX _ _ _ _) := BX.blw X24.out hb
    replace I27 : Hid (LI _ _ _ _) := LI.blw I27.out hb
    replace I29 : Hid (LI _ _ _ _) := LI.blw I29.out hb
    clear hb
    have X31 : Hid (BX (v6.alloc (.cells #[.slice b31.a1 16 b31.c1, .slice b31.a2 16 b31.c2] 25)) v6.heap.size b31 ⟨16, c31, 16, l31⟩) := ⟨(hat).blw hA |>.mono (fun x hx => by simp; omega), box2 v6 _ _ 25⟩
    clear hA
    clear hat
    clear H2
    obtain ⟨p00, p01⟩ := get2 X31.out.box
    go_wp2_with fail
    clear p00 p01
    refine (implBack_any b31 ⟨16, c31, 16, l31⟩ o32 p33 _ _ X31.out.at_ (fun x hx => hx)).mono ?_
    rintro e v7 ⟨b34, R34, r35, rfl, ho, hsz, own, hb⟩
    have O34 : Hid (resO (backOK ⟨16, c31, 16, l31⟩ o32 p33) (lentTo ⟨16, c31, 16, l31⟩ p33 0) R34 r35) := ho
    clear ho hsz
    have hA : Blw v7 (v7.alloc (.cells #[.slice b34.a1 R34.n b34.c1, .slice b34.a2 R34.k b34.c2] 25)) := (Blw.refl _).alloc _
    replace hb := hb.trans hA
    replace HC : Hid (Blw _ _) := Blw.trans HC.out hb
    replace X21 : Hid (BX _ _ _ _) := BX.blw X21.out hb
    replace X24 : Hid (BX _ _ _ _) := BX.blw X24.out hb
    replace I27 : Hid (LI _ _ _ _) := LI.blw I27.out hb
    replace I29 : Hid (LI _ _ _ _) := LI.blw I29.out hb
    replace X31 : Hid (BX _ _ _ _) := BX.blw X31.out hb
    clear hb
    have X34 : Hid (BX (v7.alloc (.cells #[.slice b34.a1 R34.n b34.c1, .slice b34.a2 R34.k b34.c2] 25)) v7.heap.size b34 R34) := ⟨(own.at).blw hA |>.mono (fun x hx => by simp; omega), box2 v7 _ _ 25⟩
    clear hA
    clear own
    obtain ⟨p00, p01⟩ := get2 X31.out.box
    go_wp2_with fail
    clear p00 p01
    refine (specBack_any b31 ⟨16, c31, 16, l31⟩ o32 p33 _ _ X31.out.at_).mono ?_
    rintro e v8 ⟨b36, R36, r37, rfl, ho, hsz, own, hb⟩
    have O36 : Hid (resO (backOK ⟨16, c31, 16, l31⟩ o32 p33) (lentTo ⟨16, c31, 16, l31⟩ p33 0) R36 r37) := ho
    clear ho hsz
    have hA : Blw v8 (v8.alloc (.cells #[.slice b36.a1 R36.n b36.c1, .slice b36.a2 R36.k b36.c2] 25)) := (Blw.refl _).alloc _
    replace hb := hb.trans hA
    replace HC : Hid (Blw _ _) := Blw.trans HC.out hb
    replace X21 : Hid (BX _ _ _ _) := BX.blw X21.out hb
    replace X24 : Hid (BX _ _ _ _) := BX.blw X24.out hb
    replace I27 : Hid (LI _ _ _ _) := LI.blw I27.out hb
    replace I29 : Hid (LI _ _ _ _) := LI.blw I29.out hb
    replace X31 : Hid (BX _ _ _ _) := BX.blw X31.out hb
    replace X34 : Hid (BX _ _ _ _) := BX.blw X34.out hb
    clear hb
    have X36 : Hid (BX (v8.alloc (.cells #[.slice b36.a1 R36.n b36.c1, .slice b36.a2 R36.k b36.c2] 25)) v8.heap.size b36 R36) := ⟨(own.at).blw hA |>.mono (fun x hx => by simp; omega), box2 v8 _ _ 25⟩
    clear hA
    clear own
    obtain ⟨eM, eb⟩ := resO_same O36.out O34.out
    subst eM eb
    clear O36 O34
    clear X31
    have qr26 : (r26 != r26) = false := by simp
    have qr28 : (r28 != r28) = false := by simp
    have qr37 : (r37 != r37) = false := by simp
    have qn25 : (n25 != n25) = false := by simp
    obtain ⟨p00, p01⟩ := get2 X21.out.box
    obtain ⟨p10, p11⟩ := get2 X24.out.box
    go_wp2_with fail
    clear p00 p01 p10 p11
    refine (sameOwners_same b21 b24 D24 _ X21.out.at_ X24.out.at_).mono ?_
    rintro e v9 ⟨rfl, hb⟩
    replace HC : Hid (Blw _ _) := Blw.trans HC.out hb
    replace X21 : Hid (BX _ _ _ _) := BX.blw X21.out hb
    replace X24 : Hid (BX _ _ _ _) := BX.blw X24.out hb
    replace I27 : Hid (LI _ _ _ _) := LI.blw I27.out hb
    replace I29 : Hid (LI _ _ _ _) := LI.blw I29.out hb
    replace X34 : Hid (BX _ _ _ _) := BX.blw X34.out hb
    replace X36 : Hid (BX _ _ _ _) := BX.blw X36.out hb
    clear hb
    go_wp2_with fail
    refine (same39 _ _ _ _ n27 f27 f29 _ I27.out I29.out EF.out).mono ?_
    rintro e v10 ⟨rfl, hb⟩
    replace HC : Hid (Blw _ _) := Blw.trans HC.out hb
    replace X21 : Hid (BX _ _ _ _) := BX.blw X21.out hb
    replace X24 : Hid (BX _ _ _ _) := BX.blw X24.out hb
    replace I27 : Hid (LI _ _ _ _) := LI.blw I27.out hb
    replace I29 : Hid (LI _ _ _ _) := LI.blw I29.out hb
    replace X34 : Hid (BX _ _ _ _) := BX.blw X34.out hb
    replace X36 : Hid (BX _ _ _ _) := BX.blw X36.out hb
    clear hb
    obtain ⟨p00, p01⟩ := get2 X34.out.box
    obtain ⟨p10, p11⟩ := get2 X36.out.box
    go_wp2_with fail
    clear p00 p01 p10 p11
    refine (sameOwners_same b34 b36 R36 _ X34.out.at_ X36.out.at_).mono ?_
    rintro e v11 ⟨rfl, hb⟩
    replace HC : Hid (Blw _ _) := Blw.trans HC.out hb
    replace X21 : Hid (BX _ _ _ _) := BX.blw X21.out hb
    replace X24 : Hid (BX _ _ _ _) := BX.blw X24.out hb
    replace I27 : Hid (LI _ _ _ _) := LI.blw I27.out hb
    replace I29 : Hid (LI _ _ _ _) := LI.blw I29.out hb
    replace X34 : Hid (BX _ _ _ _) := BX.blw X34.out hb
    replace X36 : Hid (BX _ _ _ _) := BX.blw X36.out hb
    clear hb
    clear X24 X34 X36 I29
    clear qr26 qr28 qr37 qn25 EF
    cases r26
    · go_wp2_with fail
      refine (implNew_any _).mono ?_
      rintro e v12 ⟨b40, rfl, own, hb⟩
      have hA : Blw v12 (v12.alloc (.cells #[.slice b40.a1 16 b40.c1, .slice b40.a2 16 b40.c2] 25)) := (Blw.refl _).alloc _
      replace hb := hb.trans hA
      replace HC : Hid (Blw _ _) := Blw.trans HC.out hb
      replace X21 : Hid (BX _ _ _ _) := BX.blw X21.out hb
      replace I27 : Hid (LI _ _ _ _) := LI.blw I27.out hb
      clear hb
      have X40 : Hid (BX (v12.alloc (.cells #[.slice b40.a1 16 b40.c1, .slice b40.a2 16 b40.c2] 25)) v12.heap.size b40 ⟨16, fun _ => 0, 16, fun _ => 0⟩) := ⟨(own.at).blw hA |>.mono (fun x hx => by simp; omega), box2 v12 _ _ 25⟩
      clear hA
      clear own
      go_wp2_with fail
      obtain ⟨v13, hv13⟩ : ∃ v13, v12.alloc (.cells #[.slice b40.a1 16 b40.c1, .slice b40.a2 16 b40.c2] 25) = v13 := ⟨_, rfl⟩
      rw [hv13] at HC X40 ⊢
      clear X21 I27 O21 O27 hv13
      obtain ⟨P0, P1⟩ := X40.out.all
      refine wp_region_noPanic ?_
      refine wp_region_held_drew (S := fun w' => Blw v13 w') (by kernel_rfl) ((Blw.refl _).drew) (fun hB1 => ?_)
      revert hB1
      generalize v13.drew = wd1
      intro hB1
      refine wpAnyH_take (i := 0) (oi := { dst := some 243, op := Op.load 25 (Operand.tmp 40), type := 25, pos := _, after := #[], guard := none }) (v := (.agg #[.slice b40.a1 16 b40.c1, .slice b40.a2 16 b40.c2])) rfl (by kernel_rfl) (by kernel_rfl) (by kernel_rfl) (fun _ _ _ h => h) (Or.inl ⟨by rfl, fun w' hS => by (try dsimp only at hS); go_simp⟩) hB1 ?_
      simp only [Act.put, List.setIfInBounds_toArray, List.set_cons_zero, List.set_cons_succ]
      refine wpAnyH_ready (rs := [1]) (by kernel_rfl) (by simp) ?_
      refine AllReadyH.cons (o := { dst := some 244, op := Op.call { callee := Callee.value (Operand.func 18), args := #[Operand.tmp 243], argTypes := #[25] }, type := 4, pos := _, after := #[{ on := 0, ground := Ground.data }], guard := none }) rfl (fun K hK => ?_) AllReadyH.nil
      go_simp
      refine (implGood_any b40 BD.none16 _ _ (X40.out.blw hB1).at_ (fun x hx => hx)).mono ?_
      rintro e wA ⟨gi, rfl, hgi, hbA⟩
      obtain rfl : gi = true := hgi.2 none_good
      refine hK.out _ _ (hB1.trans hbA) (fun hB2 => ?_)
      clear hK K
      try simp only [Act.put, List.setIfInBounds_toArray, List.set_cons_zero, List.set_cons_succ]
      refine wpAnyH_take (i := 2) (oi := { dst := some 245, op := Op.move (Operand.tmp 244), type := 4, pos := _, after := #[{ on := 1, ground := Ground.data }, { on := 1, ground := Ground.chain }], guard := none }) (v := (.bool true)) rfl (by kernel_rfl) (by kernel_rfl) (by kernel_rfl) (fun _ _ _ h => h) (Or.inl ⟨by rfl, fun w' hS => by (try dsimp only at hS); go_simp⟩) hB2 ?_
      simp only [Act.put, List.setIfInBounds_toArray, List.set_cons_zero, List.set_cons_succ]
      refine wpAnyH_take (i := 3) (oi := { dst := some 246, op := Op.load 25 (Operand.tmp 40), type := 25, pos := _, after := #[{ on := 2, ground := Ground.guard }], guard := some (2, true) }) (v := (.agg #[.slice b40.a1 16 b40.c1, .slice b40.a2 16 b40.c2])) rfl (by kernel_rfl) (by kernel_rfl) (by kernel_rfl) (fun _ _ _ h => h) (Or.inl ⟨by rfl, fun w' hS => by (try dsimp only at hS); go_simp⟩) hB2 ?_
      simp only [Act.put, List.setIfInBounds_toArray, List.set_cons_zero, List.set_cons_succ]
      refine wpAnyH_ready (rs := [4]) (by kernel_rfl) (by simp) ?_
      refine AllReadyH.cons (o := { dst := some 247, op := Op.call { callee := Callee.value (Operand.func 41), args := #[], argTypes := #[] }, type := 25, pos := _, after := #[{ on := 2, ground := Ground.chain }, { on := 2, ground := Ground.guard }], guard := some (2, true) }) rfl (fun K hK => ?_) AllReadyH.nil
      go_simp
      refine (specNew_any _).mono ?_
      rintro e wB ⟨b41, rfl, ownB, hbB⟩
      refine hK.out _ _ (hB2.trans hbB) (fun hB3 => ?_)
      clear hK K
      try simp only [Act.put, List.setIfInBounds_toArray, List.set_cons_zero, List.set_cons_succ]
      refine wpAnyH_ready (rs := [5]) (by kernel_rfl) (by simp) ?_
      refine AllReadyH.cons (o := { dst := some 248, op := Op.call { callee := Callee.value (Operand.func 17), args := #[Operand.tmp 246, Operand.tmp 247], argTypes := #[25, 25] }, type := 4, pos := _, after := #[{ on := 3, ground := Ground.data }, { on := 4, ground := Ground.data }, { on := 4, ground := Ground.chain }, { on := 2, ground := Ground.guard }], guard := some (2, true) }) rfl (fun K hK => ?_) AllReadyH.nil
      go_simp
      refine (sameOwners_same b40 b41 BD.none16 _ (X40.out.at_.blw hB3) ownB.at).mono ?_
      rintro e wC ⟨rfl, hbC⟩
      refine hK.out _ _ (hB3.trans hbC) (fun hB4 => ?_)
      clear hK K
      try simp only [Act.put, List.setIfInBounds_toArray, List.set_cons_zero, List.set_cons_succ]
      refine wpAnyH_take (i := 6) (oi := { dst := some 249, op := Op.pick (Operand.tmp 245) (Operand.tmp 248) (Operand.const (Value.bool false)), type := 4, pos := _, after := #[{ on := 2, ground := Ground.data }, { on := 5, ground := Ground.data }], guard := none }) (v := (.bool true)) rfl (by kernel_rfl) (by kernel_rfl) (by kernel_rfl) (fun _ _ _ h => h) (Or.inl ⟨by rfl, fun w' hS => by (try dsimp only at hS); go_simp⟩) hB4 ?_
      simp only [Act.put, List.setIfInBounds_toArray, List.set_cons_zero, List.set_cons_succ]
      refine wpAnyH_take (i := 7) (oi := { dst := some 4, op := Op.assign (Operand.tmp 249), type := 4, pos := _, after := #[{ on := 6, ground := Ground.data }, { on := 5, ground := Ground.chain }, { on := 0, ground := Ground.phase }, { on := 1, ground := Ground.phase }, { on := 2, ground := Ground.phase }, { on := 3, ground := Ground.phase }, { on := 4, ground := Ground.phase }, { on := 5, ground := Ground.phase }, { on := 6, ground := Ground.phase }], guard := none }) (v := (.bool true)) rfl (by kernel_rfl) (by kernel_rfl) (by kernel_rfl) (fun _ _ _ h => h) (Or.inl ⟨by rfl, fun w' hS => by (try dsimp only at hS); go_simp⟩) hB4 ?_
      simp only [Act.put, List.setIfInBounds_toArray, List.set_cons_zero, List.set_cons_succ]
      refine wpAnyH_done (by kernel_rfl) ?_ _
      refine NoPanic.normal ?_
      go_wp2
      go_ret
      exact ⟨rfl, HC.out.trans hB4⟩
    · skip
      obtain ⟨p00, p01⟩ := get2 X21.out.box
      go_wp2_with fail
      clear p00 p01
      refine (implMay_any b21 D24 o20 _ _ X21.out.at_ (fun x hx => hx)).mono ?_
      rintro e v12 ⟨a38, n38, q38, f38, r39, rfl, ho, hsz, own, hb⟩
      have O38 : Hid (muOut D24 o20 n38 f38 r39) := ho
      have I38 : Hid (LI v12 a38 n38 f38) := own.at.mono (fun x hx => hx.2)
      have hlI38 : n38 ≤ 1048576 := hsz
      clear ho hsz own
      replace HC : Hid (Blw _ _) := Blw.trans HC.out hb
      replace X21 : Hid (BX _ _ _ _) := BX.blw X21.out hb
      replace I27 : Hid (LI _ _ _ _) := LI.blw I27.out hb
      clear hb
      obtain ⟨p00, p01⟩ := get2 X21.out.box
      go_wp2_with fail
      clear p00 p01
      refine (implGood_any b21 D24 _ _ X21.out.at_ (fun x hx => hx)).mono ?_
      rintro e v13 ⟨good, rfl, hg, hb⟩
      replace HC : Hid (Blw _ _) := Blw.trans HC.out hb
      replace X21 : Hid (BX _ _ _ _) := BX.blw X21.out hb
      replace I27 : Hid (LI _ _ _ _) := LI.blw I27.out hb
      replace I38 : Hid (LI _ _ _ _) := LI.blw I38.out hb
      clear hb
      obtain ⟨e1, e2, e3, e4⟩ := drop_fact O21.out O27.out O38.out hg
      clear hg O21 O27 O38
      subst e1 e2 e3
      have d4 : decide (n25 ≤ (n27 : Int)) = true := by simpa using e4
      clear e4
      go_wp2
      go_ret
      exact ⟨rfl, HC.out⟩
end Go.Proofs.Ytfmmpddknanhbaa
