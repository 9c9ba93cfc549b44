/- Law 3: whatever was written, all comes back, for drawn books. -/
import Derived.Test.YtagjfkkjmgfoiaaDrawE
import Derived.Test.YtagjfkkjmgfoiaaSameU
import Derived.Test.YtagjfkkjmgfoiaaFactB
import Derived.Test.YtagjfkkjmgfoiaaLawGood
import Derived.Test.YtagjfkkjmgfoiaaInts
import Derived.Test.YtagjfkkjmgfoiaaLawX
namespace Go.Proofs.Ytagjfkkjmgfoiaa
open Go.RowKit
set_option linter.unusedSimpArgs false
set_option linter.unusedVariables false
set_option maxRecDepth 10000 in
set_option maxHeartbeats 6400000 in
theorem lawRolledP (ao1 : Option Addr) (n1 c1 : Nat) (f1 : Nat → Int) (ao2 : Option Addr) (n2 c2 : Nat) (f2 : Nat → Int) (w : World) (h1 : BytesAt (fun b => b < w.heap.size) w ao1 n1 f1) (h2 : BytesAt (fun b => b < w.heap.size) w ao2 n2 f2) :
    Calls Try.prog 3 #[.slice ao1 n1 c1, .slice ao2 n2 c2] w fun e w' => e = .returned (.bool true) ∧ Blw w w' := by
  have H1 : Hid (BY w ao1 n1 f1) := h1
  have H2 : Hid (BY w ao2 n2 f2) := h2
  clear h1 h2
  go_enter Try.func3, Try.ntmps3
  by_cases hd : wrap64 ((n1 : Int) + n2) > 1048576
  · have d1 : decide (wrap64 ((n1 : Int) + n2) > 1048576) = true := by simpa using hd
    clear hd
    go_wp2
    go_ret
    exact ⟨rfl, Blw.refl _⟩
  have d1 : decide (wrap64 ((n1 : Int) + n2) > 1048576) = false := by simpa using hd
  clear hd
  have HB : Hid (Blw w w) := Blw.refl w
  go_wp2_with fail
  clear d1
  refine (drawAll_any ao1 n1 c1 f1 _ H1.out).mono ?_
  rintro e w1 ⟨b5, S5, a6, m6, cap6, f6, g6, rfl, h8, h9, hm6, hat, hu, hb⟩
  have HS5 : Hid (S5.n + S5.k ≤ 1048576) := by show _ ≤ _; omega
  have U6 : Hid (LU w1 a6 m6 f6 g6) := hu.mono (fun x hx => hx.2)
  clear h8 h9 hu hm6
  replace U6 : Hid (LU (w1.alloc (.cells #[.slice b5.a1 S5.n b5.c1, .slice b5.a2 S5.k b5.c2] 26)) a6 m6 f6 g6) := LU.blw U6.out ((Blw.refl _).alloc _)
  have hA : Blw w1 (w1.alloc (.cells #[.slice b5.a1 S5.n b5.c1, .slice b5.a2 S5.k b5.c2] 26)) := (Blw.refl _).alloc _
  replace hb := hb.trans hA
  replace HB : Hid (Blw _ _) := Blw.trans HB.out hb
  clear hb
  have X5 : Hid (BX (w1.alloc (.cells #[.slice b5.a1 S5.n b5.c1, .slice b5.a2 S5.k b5.c2] 26)) w1.heap.size b5 S5) := ⟨(hat).blw hA |>.mono (fun x hx => by simp; omega), box2 w1 _ _ 26⟩
  clear hA
  clear hat
  clear H1
  obtain ⟨p00, p01⟩ := get2 X5.out.box
  go_wp2_with fail
  clear p00 p01
  refine (implAll_any b5 S5 a6 m6 cap6 f6 g6 _ _ X5.out.at_ U6.out (fun x hx => hx)).mono ?_
  rintro e w2 ⟨b7, R7, r8, rfl, ho, hsz, own, hb⟩
  have O7 : Hid (waOut S5 m6 f6 g6 R7 r8) := ho
  clear ho hsz
  have hA : Blw w2 (w2.alloc (.cells #[.slice b7.a1 R7.n b7.c1, .slice b7.a2 R7.k b7.c2] 26)) := (Blw.refl _).alloc _
  replace hb := hb.trans hA
  replace HB : Hid (Blw _ _) := Blw.trans HB.out hb
  replace X5 : Hid (BX _ _ _ _) := BX.blw X5.out hb
  replace U6 : Hid (LU _ _ _ _ _) := LU.blw U6.out hb
  clear hb
  have X7 : Hid (BX (w2.alloc (.cells #[.slice b7.a1 R7.n b7.c1, .slice b7.a2 R7.k b7.c2] 26)) w2.heap.size b7 R7) := ⟨(own.at).blw hA |>.mono (fun x hx => by simp; omega), box2 w2 _ _ 26⟩
  clear hA
  clear own
  obtain ⟨p00, p01⟩ := get2 X5.out.box
  go_wp2_with fail
  clear p00 p01
  refine (specAll_any b5 S5 a6 m6 cap6 f6 g6 _ _ HS5.out X5.out.at_ U6.out (fun x hx => hx)).mono ?_
  rintro e w3 ⟨b9, R9, r10, rfl, ho, hsz, own, hb⟩
  have O9 : Hid (waOut S5 m6 f6 g6 R9 r10) := ho
  clear ho hsz
  have hA : Blw w3 (w3.alloc (.cells #[.slice b9.a1 R9.n b9.c1, .slice b9.a2 R9.k b9.c2] 26)) := (Blw.refl _).alloc _
  replace hb := hb.trans hA
  replace HB : Hid (Blw _ _) := Blw.trans HB.out hb
  replace X5 : Hid (BX _ _ _ _) := BX.blw X5.out hb
  replace U6 : Hid (LU _ _ _ _ _) := LU.blw U6.out hb
  replace X7 : Hid (BX _ _ _ _) := BX.blw X7.out hb
  clear hb
  have X9 : Hid (BX (w3.alloc (.cells #[.slice b9.a1 R9.n b9.c1, .slice b9.a2 R9.k b9.c2] 26)) w3.heap.size b9 R9) := ⟨(own.at).blw hA |>.mono (fun x hx => by simp; omega), box2 w3 _ _ 26⟩
  clear hA
  clear own
  obtain ⟨eM, eb⟩ := waOut_same O9.out O7.out
  subst eM eb
  clear O9
  have hne : (r10 != r10) = false := by simp
  go_upto_region 6 with fail
  obtain ⟨w4, hw4⟩ : ∃ w4, w3.alloc (.cells #[.slice b9.a1 R9.n b9.c1, .slice b9.a2 R9.k b9.c2] 26) = w4 := ⟨_, rfl⟩
  rw [hw4] at HB X5 X7 X9 U6 ⊢
  clear hw4
  go_cut [74] from 59 to 74 (fun c wx => c = .bool false ∧ Blw w4 wx)
  case first =>
    obtain ⟨P0, P1⟩ := X5.out.all
    obtain ⟨Q0, Q1⟩ := X7.out.all
    obtain ⟨Z0, Z1⟩ := X9.out.all
    go_region_held3 (fun w' => Blw w4 w') ((first | exact (Blw.refl _).drew | assumption | exact Blw.trans (by assumption) (by assumption))) (first
      | (go_at_call 16; refine (sameBook_same b7 b9 R9 _ (X7.out.at_.blw (by assumption)) (X9.out.at_.blw (by assumption))).mono ?_; rintro e wA ⟨rfl, hbA⟩)
      | (go_at_call 17; refine (implGood_any b5 S5 _ _ (X5.out.blw (by assumption)).at_ (fun x hx => hx)).mono ?_; rintro e wB ⟨gi, rfl, hgi, hbB⟩)
      | (go_at_call 18; refine (specGood_any b5 S5 _ _ (X5.out.blw (by assumption)).at_ (fun x hx => hx)).mono ?_; rintro e wC ⟨gs, rfl, hgs, hbC⟩; obtain rfl : gi = gs := (by have q := hgi.trans hgs.symm; cases gi <;> cases gs <;> simp_all); have hgne : (gi != gi) = false := (by simp)))
    all_goals go_wp2_with fail
    all_goals go_meet
    all_goals exact ⟨rfl, by assumption⟩
  case rest =>
    obtain ⟨rfl, hb⟩ := hcut
    clear X9
    replace HB : Hid (Blw _ _) := Blw.trans HB.out hb
    replace X5 : Hid (BX _ _ _ _) := BX.blw X5.out hb
    replace U6 : Hid (LU _ _ _ _ _) := LU.blw U6.out hb
    replace X7 : Hid (BX _ _ _ _) := BX.blw X7.out hb
    clear hb
    clear hne
    go_upto_if 75 with fail
    go_cut [] from 5 to 136 (fun wx => Blw w wx)
    case first =>
      cases r10
      · go_wp2_with fail
        go_meet
        exact HB.out
      · skip
        obtain ⟨p00, p01⟩ := get2 X5.out.box
        go_wp2_with fail
        clear p00 p01
        refine (implEnd_any b5 S5 _ _ X5.out.at_ (fun x hx => hx)).mono ?_
        rintro e w5 ⟨b11, E, one, rfl, ho, hsz, own, hb⟩
        have O11 : Hid (gOut S5 (eeA S5) E one) := ho
        clear ho hsz
        have hA : Blw w5 (w5.alloc (.cells #[.slice b11.a1 E.n b11.c1, .slice b11.a2 E.k b11.c2] 26)) := (Blw.refl _).alloc _
        replace hb := hb.trans hA
        replace HB : Hid (Blw _ _) := Blw.trans HB.out hb
        replace X5 : Hid (BX _ _ _ _) := BX.blw X5.out hb
        replace U6 : Hid (LU _ _ _ _ _) := LU.blw U6.out hb
        replace X7 : Hid (BX _ _ _ _) := BX.blw X7.out hb
        clear hb
        have X11 : Hid (BX (w5.alloc (.cells #[.slice b11.a1 E.n b11.c1, .slice b11.a2 E.k b11.c2] 26)) w5.heap.size b11 E) := ⟨(own.at).blw hA |>.mono (fun x hx => by simp; omega), box2 w5 _ _ 26⟩
        clear hA
        clear own
        obtain ⟨p00, p01⟩ := get2 X11.out.box
        go_wp2_with fail
        clear p00 p01
        refine (implAll_any b11 E a6 m6 cap6 f6 g6 _ _ X11.out.at_ U6.out (fun x hx => hx)).mono ?_
        rintro e w6 ⟨b13, X, two, rfl, ho, hsz, own, hb⟩
        have O13 : Hid (waOut E m6 f6 g6 X two) := ho
        clear ho hsz
        have hA : Blw w6 (w6.alloc (.cells #[.slice b13.a1 X.n b13.c1, .slice b13.a2 X.k b13.c2] 26)) := (Blw.refl _).alloc _
        replace hb := hb.trans hA
        replace HB : Hid (Blw _ _) := Blw.trans HB.out hb
        replace X5 : Hid (BX _ _ _ _) := BX.blw X5.out hb
        replace U6 : Hid (LU _ _ _ _ _) := LU.blw U6.out hb
        replace X7 : Hid (BX _ _ _ _) := BX.blw X7.out hb
        replace X11 : Hid (BX _ _ _ _) := BX.blw X11.out hb
        clear hb
        have X13 : Hid (BX (w6.alloc (.cells #[.slice b13.a1 X.n b13.c1, .slice b13.a2 X.k b13.c2] 26)) w6.heap.size b13 X) := ⟨(own.at).blw hA |>.mono (fun x hx => by simp; omega), box2 w6 _ _ 26⟩
        clear hA
        clear own
        obtain ⟨p00, p01⟩ := get2 X13.out.box
        go_wp2_with fail
        clear p00 p01
        refine (implRoll_any b13 X _ _ X13.out.at_ (fun x hx => hx)).mono ?_
        rintro e w7 ⟨b15, Q, three, rfl, ho, hsz, own, hb⟩
        have O15 : Hid (gOut X (rbA X) Q three) := ho
        clear ho hsz
        have hA : Blw w7 (w7.alloc (.cells #[.slice b15.a1 Q.n b15.c1, .slice b15.a2 Q.k b15.c2] 26)) := (Blw.refl _).alloc _
        replace hb := hb.trans hA
        replace HB : Hid (Blw _ _) := Blw.trans HB.out hb
        replace X5 : Hid (BX _ _ _ _) := BX.blw X5.out hb
        replace U6 : Hid (LU _ _ _ _ _) := LU.blw U6.out hb
        replace X7 : Hid (BX _ _ _ _) := BX.blw X7.out hb
        replace X11 : Hid (BX _ _ _ _) := BX.blw X11.out hb
        replace X13 : Hid (BX _ _ _ _) := BX.blw X13.out hb
        clear hb
        have X15 : Hid (BX (w7.alloc (.cells #[.slice b15.a1 Q.n b15.c1, .slice b15.a2 Q.k b15.c2] 26)) w7.heap.size b15 Q) := ⟨(own.at).blw hA |>.mono (fun x hx => by simp; omega), box2 w7 _ _ 26⟩
        clear hA
        clear own
        obtain ⟨p00, p01⟩ := get2 X5.out.box
        go_wp2_with fail
        clear p00 p01
        refine (implBefore_any b5 S5 _ _ X5.out.at_ (fun x hx => hx)).mono ?_
        rintro e w8 ⟨a17, n17, c17, f17, four, rfl, ho, hsz, own, hb⟩
        have O17 : Hid (iOut S5 (bP S5) n17 f17 four) := ho
        have I17 : Hid (LI w8 a17 n17 f17) := own.at.mono (fun x hx => hx.2)
        clear ho hsz own
        replace HB : Hid (Blw _ _) := Blw.trans HB.out hb
        replace X5 : Hid (BX _ _ _ _) := BX.blw X5.out hb
        replace U6 : Hid (LU _ _ _ _ _) := LU.blw U6.out hb
        replace X7 : Hid (BX _ _ _ _) := BX.blw X7.out hb
        replace X11 : Hid (BX _ _ _ _) := BX.blw X11.out hb
        replace X13 : Hid (BX _ _ _ _) := BX.blw X13.out hb
        replace X15 : Hid (BX _ _ _ _) := BX.blw X15.out hb
        clear hb
        obtain ⟨p00, p01⟩ := get2 X7.out.box
        go_wp2_with fail
        clear p00 p01
        refine (implBefore_any b7 R9 _ _ X7.out.at_ (fun x hx => hx)).mono ?_
        rintro e w9 ⟨a19, n19, c19, f19, five, rfl, ho, hsz, own, hb⟩
        have O19 : Hid (iOut R9 (bP R9) n19 f19 five) := ho
        have I19 : Hid (LI w9 a19 n19 f19) := own.at.mono (fun x hx => hx.2)
        clear ho hsz own
        replace HB : Hid (Blw _ _) := Blw.trans HB.out hb
        replace X5 : Hid (BX _ _ _ _) := BX.blw X5.out hb
        replace U6 : Hid (LU _ _ _ _ _) := LU.blw U6.out hb
        replace X7 : Hid (BX _ _ _ _) := BX.blw X7.out hb
        replace X11 : Hid (BX _ _ _ _) := BX.blw X11.out hb
        replace X13 : Hid (BX _ _ _ _) := BX.blw X13.out hb
        replace X15 : Hid (BX _ _ _ _) := BX.blw X15.out hb
        replace I17 : Hid (LI _ _ _ _) := LI.blw I17.out hb
        clear hb
        obtain ⟨p00, p01⟩ := get2 X7.out.box
        go_wp2_with fail
        clear p00 p01
        refine (implGood_any b7 R9 _ _ X7.out.at_ (fun x hx => hx)).mono ?_
        rintro e w10 ⟨good, rfl, hg, hb⟩
        replace HB : Hid (Blw _ _) := Blw.trans HB.out hb
        replace X5 : Hid (BX _ _ _ _) := BX.blw X5.out hb
        replace U6 : Hid (LU _ _ _ _ _) := LU.blw U6.out hb
        replace X7 : Hid (BX _ _ _ _) := BX.blw X7.out hb
        replace X11 : Hid (BX _ _ _ _) := BX.blw X11.out hb
        replace X13 : Hid (BX _ _ _ _) := BX.blw X13.out hb
        replace X15 : Hid (BX _ _ _ _) := BX.blw X15.out hb
        replace I17 : Hid (LI _ _ _ _) := LI.blw I17.out hb
        replace I19 : Hid (LI _ _ _ _) := LI.blw I19.out hb
        clear hb
        obtain ⟨e1, e2, e3, e4, e5, e6, e7, e8, e9⟩ := rolled_fact O7.out O11.out O13.out O15.out O17.out O19.out hg
        clear hg O7 O11 O13 O15 O17 O19
        subst e1 e2 e3 e4 e5 e6 e7 e8
        have EF : Hid (∀ i, i < n17 → f17 i = f19 i) := e9
        clear e9
        obtain ⟨p00, p01⟩ := get2 X15.out.box
        obtain ⟨p10, p11⟩ := get2 X11.out.box
        go_wp2_with fail
        clear p00 p01 p10 p11
        refine (sameBook_same b15 b11 Q _ X15.out.at_ X11.out.at_).mono ?_
        rintro e w11 ⟨rfl, hb⟩
        replace HB : Hid (Blw _ _) := Blw.trans HB.out hb
        replace X5 : Hid (BX _ _ _ _) := BX.blw X5.out hb
        replace U6 : Hid (LU _ _ _ _ _) := LU.blw U6.out hb
        replace X7 : Hid (BX _ _ _ _) := BX.blw X7.out hb
        replace X11 : Hid (BX _ _ _ _) := BX.blw X11.out hb
        replace X13 : Hid (BX _ _ _ _) := BX.blw X13.out hb
        replace X15 : Hid (BX _ _ _ _) := BX.blw X15.out hb
        replace I17 : Hid (LI _ _ _ _) := LI.blw I17.out hb
        replace I19 : Hid (LI _ _ _ _) := LI.blw I19.out hb
        clear hb
        go_wp2_with fail
        refine (same22 _ _ _ _ n17 f17 f19 _ I17.out I19.out EF.out).mono ?_
        rintro e w12 ⟨rfl, hb⟩
        replace HB : Hid (Blw _ _) := Blw.trans HB.out hb
        replace X5 : Hid (BX _ _ _ _) := BX.blw X5.out hb
        replace U6 : Hid (LU _ _ _ _ _) := LU.blw U6.out hb
        replace X7 : Hid (BX _ _ _ _) := BX.blw X7.out hb
        replace X11 : Hid (BX _ _ _ _) := BX.blw X11.out hb
        replace X13 : Hid (BX _ _ _ _) := BX.blw X13.out hb
        replace X15 : Hid (BX _ _ _ _) := BX.blw X15.out hb
        replace I17 : Hid (LI _ _ _ _) := LI.blw I17.out hb
        replace I19 : Hid (LI _ _ _ _) := LI.blw I19.out hb
        clear hb
        go_wp2_with fail
        go_meet
        exact HB.out
    case rest =>
      have HC : Hid (Blw w wc) := hcut
      clear hcut HB X5 X7 U6 O7 HS5
      replace H2 : Hid (BY _ _ _ _) := BY.blw H2.out HC.out
      go_wp2_with fail
      refine (drawRoll_any ao2 n2 c2 f2 _ H2.out).mono ?_
      rintro e v1 ⟨b21, S21, rfl, h8, h9, hat, hb⟩
      have HSX21 : Hid (S21.n + S21.k ≤ 1048576) := by show _ ≤ _; omega
      clear h8 h9
      have hA : Blw v1 (v1.alloc (.cells #[.slice b21.a1 S21.n b21.c1, .slice b21.a2 S21.k b21.c2] 26)) := (Blw.refl _).alloc _
      replace hb := hb.trans hA
      replace HC : Hid (Blw _ _) := Blw.trans HC.out hb
      replace H2 : Hid (BY _ _ _ _) := BY.blw H2.out hb
      clear hb
      have X21 : Hid (BX (v1.alloc (.cells #[.slice b21.a1 S21.n b21.c1, .slice b21.a2 S21.k b21.c2] 26)) v1.heap.size b21 S21) := ⟨(hat).blw hA |>.mono (fun x hx => by simp; omega), box2 v1 _ _ 26⟩
      clear hA
      clear hat
      obtain ⟨p00, p01⟩ := get2 X21.out.box
      go_wp2_with fail
      clear p00 p01
      refine (implRoll_any b21 S21 _ _ X21.out.at_ (fun x hx => hx)).mono ?_
      rintro e v2 ⟨b22, R22, r23, rfl, ho, hsz, own, hb⟩
      have O22 : Hid (gOut S21 (rbA S21) R22 r23) := ho
      clear ho hsz
      have hA : Blw v2 (v2.alloc (.cells #[.slice b22.a1 R22.n b22.c1, .slice b22.a2 R22.k b22.c2] 26)) := (Blw.refl _).alloc _
      replace hb := hb.trans hA
      replace HC : Hid (Blw _ _) := Blw.trans HC.out hb
      replace H2 : Hid (BY _ _ _ _) := BY.blw H2.out hb
      replace X21 : Hid (BX _ _ _ _) := BX.blw X21.out hb
      clear hb
      have X22 : Hid (BX (v2.alloc (.cells #[.slice b22.a1 R22.n b22.c1, .slice b22.a2 R22.k b22.c2] 26)) v2.heap.size b22 R22) := ⟨(own.at).blw hA |>.mono (fun x hx => by simp; omega), box2 v2 _ _ 26⟩
      clear hA
      clear own
      obtain ⟨p00, p01⟩ := get2 X21.out.box
      go_wp2_with fail
      clear p00 p01
      refine (specRoll_any b21 S21 _ _ X21.out.at_ (fun x hx => hx)).mono ?_
      rintro e v3 ⟨b24, R24, r25, rfl, ho, hsz, own, hb⟩
      have O24 : Hid (gOut S21 (rbA S21) R24 r25) := ho
      clear ho hsz
      have hA : Blw v3 (v3.alloc (.cells #[.slice b24.a1 R24.n b24.c1, .slice b24.a2 R24.k b24.c2] 26)) := (Blw.refl _).alloc _
      replace hb := hb.trans hA
      replace HC : Hid (Blw _ _) := Blw.trans HC.out hb
      replace H2 : Hid (BY _ _ _ _) := BY.blw H2.out hb
      replace X21 : Hid (BX _ _ _ _) := BX.blw X21.out hb
      replace X22 : Hid (BX _ _ _ _) := BX.blw X22.out hb
      clear hb
      have X24 : Hid (BX (v3.alloc (.cells #[.slice b24.a1 R24.n b24.c1, .slice b24.a2 R24.k b24.c2] 26)) v3.heap.size b24 R24) := ⟨(own.at).blw hA |>.mono (fun x hx => by simp; omega), box2 v3 _ _ 26⟩
      clear hA
      clear own
      obtain ⟨eM, eb⟩ := gOut_same O24.out O22.out
      subst eM eb
      clear O24 O22 HSX21
      clear X21
      go_wp2_with fail
      refine (drawEnd_any ao2 n2 c2 f2 _ H2.out).mono ?_
      rintro e v4 ⟨b26, S26, rfl, h8, h9, hat, hb⟩
      have HSX26 : Hid (S26.n + S26.k ≤ 1048576) := by show _ ≤ _; omega
      clear h8 h9
      have hA : Blw v4 (v4.alloc (.cells #[.slice b26.a1 S26.n b26.c1, .slice b26.a2 S26.k b26.c2] 26)) := (Blw.refl _).alloc _
      replace hb := hb.trans hA
      replace HC : Hid (Blw _ _) := Blw.trans HC.out hb
      replace H2 : Hid (BY _ _ _ _) := BY.blw H2.out hb
      replace X22 : Hid (BX _ _ _ _) := BX.blw X22.out hb
      replace X24 : Hid (BX _ _ _ _) := BX.blw X24.out hb
      clear hb
      have X26 : Hid (BX (v4.alloc (.cells #[.slice b26.a1 S26.n b26.c1, .slice b26.a2 S26.k b26.c2] 26)) v4.heap.size b26 S26) := ⟨(hat).blw hA |>.mono (fun x hx => by simp; omega), box2 v4 _ _ 26⟩
      clear hA
      clear hat
      obtain ⟨p00, p01⟩ := get2 X26.out.box
      go_wp2_with fail
      clear p00 p01
      refine (implEnd_any b26 S26 _ _ X26.out.at_ (fun x hx => hx)).mono ?_
      rintro e v5 ⟨b27, R27, r28, rfl, ho, hsz, own, hb⟩
      have O27 : Hid (gOut S26 (eeA S26) R27 r28) := ho
      clear ho hsz
      have hA : Blw v5 (v5.alloc (.cells #[.slice b27.a1 R27.n b27.c1, .slice b27.a2 R27.k b27.c2] 26)) := (Blw.refl _).alloc _
      replace hb := hb.trans hA
      replace HC : Hid (Blw _ _) := Blw.trans HC.out hb
      replace H2 : Hid (BY _ _ _ _) := BY.blw H2.out hb
      replace X22 : Hid (BX _ _ _ _) := BX.blw X22.out hb
      replace X24 : Hid (BX _ _ _ _) := BX.blw X24.out hb
      replace X26 : Hid (BX _ _ _ _) := BX.blw X26.out hb
      clear hb
      have X27 : Hid (BX (v5.alloc (.cells #[.slice b27.a1 R27.n b27.c1, .slice b27.a2 R27.k b27.c2] 26)) v5.heap.size b27 R27) := ⟨(own.at).blw hA |>.mono (fun x hx => by simp; omega), box2 v5 _ _ 26⟩
      clear hA
      clear own
      obtain ⟨p00, p01⟩ := get2 X26.out.box
      go_wp2_with fail
      clear p00 p01
      refine (specEnd_any b26 S26 _ _ X26.out.at_ (fun x hx => hx)).mono ?_
      rintro e v6 ⟨b29, R29, r30, rfl, ho, hsz, own, hb⟩
      have O29 : Hid (gOut S26 (eeA S26) R29 r30) := ho
      clear ho hsz
      have hA : Blw v6 (v6.alloc (.cells #[.slice b29.a1 R29.n b29.c1, .slice b29.a2 R29.k b29.c2] 26)) := (Blw.refl _).alloc _
      replace hb := hb.trans hA
      replace HC : Hid (Blw _ _) := Blw.trans HC.out hb
      replace H2 : Hid (BY _ _ _ _) := BY.blw H2.out hb
      replace X22 : Hid (BX _ _ _ _) := BX.blw X22.out hb
      replace X24 : Hid (BX _ _ _ _) := BX.blw X24.out hb
      replace X26 : Hid (BX _ _ _ _) := BX.blw X26.out hb
      replace X27 : Hid (BX _ _ _ _) := BX.blw X27.out hb
      clear hb
      have X29 : Hid (BX (v6.alloc (.cells #[.slice b29.a1 R29.n b29.c1, .slice b29.a2 R29.k b29.c2] 26)) v6.heap.size b29 R29) := ⟨(own.at).blw hA |>.mono (fun x hx => by simp; omega), box2 v6 _ _ 26⟩
      clear hA
      clear own
      obtain ⟨eM, eb⟩ := gOut_same O29.out O27.out
      subst eM eb
      clear O29 O27 HSX26
      clear X26
      go_wp2_with fail
      refine (drawBefore_any ao2 n2 c2 f2 _ H2.out).mono ?_
      rintro e v7 ⟨b31, S31, rfl, h8, h9, hat, hb⟩
      have HSX31 : Hid (S31.n + S31.k ≤ 1048576) := by show _ ≤ _; omega
      clear h8 h9
      have hA : Blw v7 (v7.alloc (.cells #[.slice b31.a1 S31.n b31.c1, .slice b31.a2 S31.k b31.c2] 26)) := (Blw.refl _).alloc _
      replace hb := hb.trans hA
      replace HC : Hid (Blw _ _) := Blw.trans HC.out hb
      replace H2 : Hid (BY _ _ _ _) := BY.blw H2.out hb
      replace X22 : Hid (BX _ _ _ _) := BX.blw X22.out hb
      replace X24 : Hid (BX _ _ _ _) := BX.blw X24.out hb
      replace X27 : Hid (BX _ _ _ _) := BX.blw X27.out hb
      replace X29 : Hid (BX _ _ _ _) := BX.blw X29.out hb
      clear hb
      have X31 : Hid (BX (v7.alloc (.cells #[.slice b31.a1 S31.n b31.c1, .slice b31.a2 S31.k b31.c2] 26)) v7.heap.size b31 S31) := ⟨(hat).blw hA |>.mono (fun x hx => by simp; omega), box2 v7 _ _ 26⟩
      clear hA
      clear hat
      obtain ⟨p00, p01⟩ := get2 X31.out.box
      go_wp2_with fail
      clear p00 p01
      refine (implBefore_any b31 S31 _ _ X31.out.at_ (fun x hx => hx)).mono ?_
      rintro e v8 ⟨a32, n32, c32, f32, r33, rfl, ho, hsz, own, hb⟩
      have O32 : Hid (iOut S31 (bP S31) n32 f32 r33) := ho
      have I32 : Hid (LI v8 a32 n32 f32) := own.at.mono (fun x hx => hx.2)
      clear ho hsz own
      replace HC : Hid (Blw _ _) := Blw.trans HC.out hb
      replace H2 : Hid (BY _ _ _ _) := BY.blw H2.out hb
      replace X22 : Hid (BX _ _ _ _) := BX.blw X22.out hb
      replace X24 : Hid (BX _ _ _ _) := BX.blw X24.out hb
      replace X27 : Hid (BX _ _ _ _) := BX.blw X27.out hb
      replace X29 : Hid (BX _ _ _ _) := BX.blw X29.out hb
      replace X31 : Hid (BX _ _ _ _) := BX.blw X31.out hb
      clear hb
      obtain ⟨p00, p01⟩ := get2 X31.out.box
      go_wp2_with fail
      clear p00 p01
      refine (specBefore_any b31 S31 _ _ X31.out.at_ (fun x hx => hx)).mono ?_
      rintro e v9 ⟨a34, n34, c34, f34, r35, rfl, ho, hsz, own, hb⟩
      have O34 : Hid (iOut S31 (bP S31) n34 f34 r35) := ho
      have I34 : Hid (LI v9 a34 n34 f34) := own.at.mono (fun x hx => hx.2)
      clear ho hsz own
      replace HC : Hid (Blw _ _) := Blw.trans HC.out hb
      replace H2 : Hid (BY _ _ _ _) := BY.blw H2.out hb
      replace X22 : Hid (BX _ _ _ _) := BX.blw X22.out hb
      replace X24 : Hid (BX _ _ _ _) := BX.blw X24.out hb
      replace X27 : Hid (BX _ _ _ _) := BX.blw X27.out hb
      replace X29 : Hid (BX _ _ _ _) := BX.blw X29.out hb
      replace X31 : Hid (BX _ _ _ _) := BX.blw X31.out hb
      replace I32 : Hid (LI _ _ _ _) := LI.blw I32.out hb
      clear hb
      obtain ⟨⟨en, ef⟩, eb⟩ := iOut_same (bP_same S31) O32.out O34.out
      subst en eb
      clear O32 O34 HSX31
      have EF : Hid (∀ i, i < n32 → f32 i = f34 i) := ef
      clear ef
      clear X31 H2
      have qr25 : (r25 == r25) = true := by simp
      have qr30 : (r30 == r30) = true := by simp
      have qr33 : (r33 == r33) = true := by simp
      obtain ⟨p00, p01⟩ := get2 X22.out.box
      obtain ⟨p10, p11⟩ := get2 X24.out.box
      go_wp2_with fail
      clear p00 p01 p10 p11
      refine (sameBook_same b22 b24 R24 _ X22.out.at_ X24.out.at_).mono ?_
      rintro e v10 ⟨rfl, hb⟩
      replace HC : Hid (Blw _ _) := Blw.trans HC.out hb
      replace X22 : Hid (BX _ _ _ _) := BX.blw X22.out hb
      replace X24 : Hid (BX _ _ _ _) := BX.blw X24.out hb
      replace X27 : Hid (BX _ _ _ _) := BX.blw X27.out hb
      replace X29 : Hid (BX _ _ _ _) := BX.blw X29.out hb
      replace I32 : Hid (LI _ _ _ _) := LI.blw I32.out hb
      replace I34 : Hid (LI _ _ _ _) := LI.blw I34.out hb
      clear hb
      obtain ⟨p00, p01⟩ := get2 X27.out.box
      obtain ⟨p10, p11⟩ := get2 X29.out.box
      go_wp2_with fail
      clear p00 p01 p10 p11
      refine (sameBook_same b27 b29 R29 _ X27.out.at_ X29.out.at_).mono ?_
      rintro e v11 ⟨rfl, hb⟩
      replace HC : Hid (Blw _ _) := Blw.trans HC.out hb
      replace X22 : Hid (BX _ _ _ _) := BX.blw X22.out hb
      replace X24 : Hid (BX _ _ _ _) := BX.blw X24.out hb
      replace X27 : Hid (BX _ _ _ _) := BX.blw X27.out hb
      replace X29 : Hid (BX _ _ _ _) := BX.blw X29.out hb
      replace I32 : Hid (LI _ _ _ _) := LI.blw I32.out hb
      replace I34 : Hid (LI _ _ _ _) := LI.blw I34.out hb
      clear hb
      go_wp2_with fail
      refine (same22 _ _ _ _ n32 f32 f34 _ I32.out I34.out EF.out).mono ?_
      rintro e v12 ⟨rfl, hb⟩
      replace HC : Hid (Blw _ _) := Blw.trans HC.out hb
      replace X22 : Hid (BX _ _ _ _) := BX.blw X22.out hb
      replace X24 : Hid (BX _ _ _ _) := BX.blw X24.out hb
      replace X27 : Hid (BX _ _ _ _) := BX.blw X27.out hb
      replace X29 : Hid (BX _ _ _ _) := BX.blw X29.out hb
      replace I32 : Hid (LI _ _ _ _) := LI.blw I32.out hb
      replace I34 : Hid (LI _ _ _ _) := LI.blw I34.out hb
      clear hb
      go_wp2
      go_ret
      exact ⟨rfl, HC.out⟩
end Go.Proofs.Ytagjfkkjmgfoiaa
