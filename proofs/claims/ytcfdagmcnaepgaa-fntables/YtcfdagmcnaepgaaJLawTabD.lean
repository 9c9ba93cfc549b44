/- FnTables: the walk. -/
import Derived.Test.YtcfdagmcnaepgaaJoin8
namespace Go.Proofs.Ytcfdagmcnaepgaa
open Go.RowKit
set_option linter.unusedSimpArgs false
set_option linter.unusedVariables false
set_option maxRecDepth 10000 in
set_option maxHeartbeats 12800000 in
theorem lawTablesD (ao1 : Option Addr) (n1 c1 : Nat) (f1 : Nat → Int) (ao2 : Option Addr) (n2 c2 : Nat) (f2 : Nat → Int) (w : World) (h1 : BytesAt (fun b => b < w.heap.size) w ao1 n1 f1) (h2 : BytesAt (fun b => b < w.heap.size) w ao2 n2 f2) :
    Calls Try.prog 4 #[.slice ao1 n1 c1, .slice ao2 n2 c2] w fun e w' => e = .returned (.bool true) ∧ Blw w w' := by
  have H1 : Hid (BY w ao1 n1 f1) := h1
  have H2 : Hid (BY w ao2 n2 f2) := h2
  clear h1 h2
  go_enter Try.func4, Try.ntmps4
  by_cases hd : wrap64 ((n1 : Int) + n2) > 1048576
  · have d1 : decide (wrap64 ((n1 : Int) + n2) > 1048576) = true := by simpa using hd
    clear hd
    go_wp2
    go_ret
    exact ⟨rfl, Blw.refl _⟩
  have d1 : decide (wrap64 ((n1 : Int) + n2) > 1048576) = false := by simpa using hd
  clear hd
  have HB : Hid (Blw w w) := Blw.refl w
  go_wp2_with fail
  clear d1
  refine (drawUnmap_any ao1 n1 c1 f1 _ H1.out).mono ?_
  rintro e w1 ⟨b5, B5, a6, rfl, h4, hat, hb⟩
  have hnB5 : B5.n = 4 := h4
  have HNB5 : Hid (B5.n ≤ 1048576) := by show _ ≤ _; omega
  clear h4 hnB5
  have hA : Blw w1 (w1.alloc (.cells #[.slice b5.a1 B5.n b5.c1, .slice b5.a2 B5.D.n b5.c2] 26)) := (Blw.refl _).alloc _
  replace hb := hb.trans hA
  replace HB : Hid (Blw _ _) := Blw.trans HB.out hb
  clear hb
  have X5 : Hid (BX (w1.alloc (.cells #[.slice b5.a1 B5.n b5.c1, .slice b5.a2 B5.D.n b5.c2] 26)) w1.heap.size b5 B5) := ⟨(hat).blw hA |>.mono (fun x hx => by simp; omega), box2 w1 _ _ 26⟩
  clear hA
  clear hat
  clear H1
  obtain ⟨p00, p01⟩ := get2 X5.out.box
  go_wp2_with fail
  clear p00 p01
  refine (implUnmap_any b5 B5 a6 _ _ X5.out.at_ (fun x hx => hx)).mono ?_
  rintro e w2 ⟨b7, R7, r8, rfl, ho, hsz, own, hb⟩
  have O7 : Hid (chOut B5 a6 (fun _ oy => ¬ oy = 0) (fun _ => 0) 0 R7 r8) := ho
  clear ho hsz
  have hA : Blw w2 (w2.alloc (.cells #[.slice b7.a1 R7.n b7.c1, .slice b7.a2 R7.D.n b7.c2] 26)) := (Blw.refl _).alloc _
  replace hb := hb.trans hA
  replace HB : Hid (Blw _ _) := Blw.trans HB.out hb
  replace X5 : Hid (BX _ _ _ _) := BX.blw X5.out hb
  clear hb
  have X7 : Hid (BX (w2.alloc (.cells #[.slice b7.a1 R7.n b7.c1, .slice b7.a2 R7.D.n b7.c2] 26)) w2.heap.size b7 R7) := ⟨(own.at).blw hA |>.mono (fun x hx => by simp; omega), box2 w2 _ _ 26⟩
  clear hA
  clear own
  obtain ⟨p00, p01⟩ := get2 X5.out.box
  go_wp2_with fail
  clear p00 p01
  refine (specUnmap_any b5 B5 a6 _ _ HNB5.out X5.out.at_).mono ?_
  rintro e w3 ⟨b9, R9, r10, rfl, ho, hsz, own, hb⟩
  have O9 : Hid (chOut B5 a6 (fun _ oy => ¬ oy = 0) (fun _ => 0) 0 R9 r10) := ho
  clear ho hsz
  have hA : Blw w3 (w3.alloc (.cells #[.slice b9.a1 R9.n b9.c1, .slice b9.a2 R9.D.n b9.c2] 26)) := (Blw.refl _).alloc _
  replace hb := hb.trans hA
  replace HB : Hid (Blw _ _) := Blw.trans HB.out hb
  replace X5 : Hid (BX _ _ _ _) := BX.blw X5.out hb
  replace X7 : Hid (BX _ _ _ _) := BX.blw X7.out hb
  clear hb
  have X9 : Hid (BX (w3.alloc (.cells #[.slice b9.a1 R9.n b9.c1, .slice b9.a2 R9.D.n b9.c2] 26)) w3.heap.size b9 R9) := ⟨(own.at).blw hA |>.mono (fun x hx => by simp; omega), box2 w3 _ _ 26⟩
  clear hA
  clear own
  obtain ⟨eM, eb⟩ := chOut_same O9.out O7.out
  subst eM eb
  clear O9
  have hne : (r10 != r10) = false := by simp
  obtain ⟨p00, p01⟩ := get2 X7.out.box
  obtain ⟨p10, p11⟩ := get2 X9.out.box
  go_wp2_with fail
  clear p00 p01 p10 p11
  refine (sameTable_same b7 b9 R9 _ X7.out.at_ X9.out.at_).mono ?_
  rintro e w4 ⟨rfl, hb⟩
  replace HB : Hid (Blw _ _) := Blw.trans HB.out hb
  replace X5 : Hid (BX _ _ _ _) := BX.blw X5.out hb
  replace X7 : Hid (BX _ _ _ _) := BX.blw X7.out hb
  replace X9 : Hid (BX _ _ _ _) := BX.blw X9.out hb
  clear hb
  clear X9
  clear hne
  go_upto_if 64 with fail
  go_cut [] from 5 to 191 (fun wx => Blw w wx)
  case first =>
    cases r10
    · go_wp2_with fail
      go_meet
      exact HB.out
    · skip
      obtain ⟨p00, p01⟩ := get2 X5.out.box
      go_wp2_with fail
      clear p00 p01
      refine (implMapped_any b5 B5 _ _ X5.out.at_ (fun x hx => hx)).mono ?_
      rintro e w5 ⟨a11, n11, q11, f11, r12, rfl, ho, hsz, own, hb⟩
      have O11 : Hid (miOut B5 n11 f11 r12) := ho
      have I11 : Hid (LI w5 a11 n11 f11) := own.at.mono (fun x hx => hx.2)
      have hlI11 : n11 ≤ 1048576 := hsz
      clear ho hsz own
      replace HB : Hid (Blw _ _) := Blw.trans HB.out hb
      replace X5 : Hid (BX _ _ _ _) := BX.blw X5.out hb
      replace X7 : Hid (BX _ _ _ _) := BX.blw X7.out hb
      clear hb
      obtain ⟨p00, p01⟩ := get2 X7.out.box
      go_wp2_with fail
      clear p00 p01
      refine (implMapped_any b7 R9 _ _ X7.out.at_ (fun x hx => hx)).mono ?_
      rintro e w6 ⟨a13, n13, q13, f13, r14, rfl, ho, hsz, own, hb⟩
      have O13 : Hid (miOut R9 n13 f13 r14) := ho
      have I13 : Hid (LI w6 a13 n13 f13) := own.at.mono (fun x hx => hx.2)
      have hlI13 : n13 ≤ 1048576 := hsz
      clear ho hsz own
      replace HB : Hid (Blw _ _) := Blw.trans HB.out hb
      replace X5 : Hid (BX _ _ _ _) := BX.blw X5.out hb
      replace X7 : Hid (BX _ _ _ _) := BX.blw X7.out hb
      replace I11 : Hid (LI _ _ _ _) := LI.blw I11.out hb
      clear hb
      obtain ⟨e1, e2, e3, e4, e5, e6, e7⟩ := unmap_fact O7.out O11.out O13.out
      subst e3 e4
      have HG : Hid (R9.Good) := e1
      have HL : Hid (Like B5 R9 a6) := e2
      have HH1 : Hid (hasLine n11 f11 a6) := e5
      have HH2 : Hid (¬ hasLine n13 f13 a6) := e6
      have HEN : Hid (n13 + 1 = n11) := e7
      clear e1 e2 e5 e6 e7 O7 O11 O13
      obtain ⟨p00, p01⟩ := get2 X7.out.box
      go_wp2_with fail
      clear p00 p01
      refine (implGood_any b7 R9 _ _ X7.out.at_ (fun x hx => hx)).mono ?_
      rintro e w7 ⟨gd, rfl, hg, hb⟩
      obtain rfl : gd = true := hg.2 HG.out
      clear hg HG
      replace HB : Hid (Blw _ _) := Blw.trans HB.out hb
      replace X5 : Hid (BX _ _ _ _) := BX.blw X5.out hb
      replace X7 : Hid (BX _ _ _ _) := BX.blw X7.out hb
      replace I11 : Hid (LI _ _ _ _) := LI.blw I11.out hb
      replace I13 : Hid (LI _ _ _ _) := LI.blw I13.out hb
      clear hb
      go_wp2_with fail
      refine (has_any a11 q11 n11 f11 _ _ a6 I11.out).mono ?_
      rintro e w8 ⟨h1b, rfl, hh1, rfl⟩
      obtain rfl : h1b = true := hh1.2 HH1.out
      clear hh1 HH1
      go_wp2_with fail
      refine (has_any a13 q13 n13 f13 _ _ a6 I13.out).mono ?_
      rintro e w8 ⟨h2b, rfl, hh2, rfl⟩
      obtain rfl : h2b = false := by cases h2b; rfl; exact absurd (hh2.1 rfl) HH2.out
      clear hh2 HH2
      have hde : (((n13 : Nat) : Int) != ((n11 : Nat) : Int) - 1) = false := by have := HEN.out; simp; omega
      obtain ⟨p00, p01⟩ := get2 X5.out.box
      obtain ⟨p10, p11⟩ := get2 X7.out.box
      go_wp2_with fail
      clear p00 p01 p10 p11
      refine (sameElse_any b5 b7 B5 R9 a6 _ X5.out.at_ X7.out.at_ HL.out).mono ?_
      rintro e w9 ⟨rfl, hb⟩
      replace HB : Hid (Blw _ _) := Blw.trans HB.out hb
      replace X5 : Hid (BX _ _ _ _) := BX.blw X5.out hb
      replace X7 : Hid (BX _ _ _ _) := BX.blw X7.out hb
      replace I11 : Hid (LI _ _ _ _) := LI.blw I11.out hb
      replace I13 : Hid (LI _ _ _ _) := LI.blw I13.out hb
      clear hb
      go_wp2_with fail
      go_meet
      exact HB.out
  case rest =>
    have HC : Hid (Blw w wc) := hcut
    clear hcut HB X5 X7 O7
    replace H2 : Hid (BY _ _ _ _) := BY.blw H2.out HC.out
    go_wp2_with fail
    refine (drawMapped_any ao2 n2 c2 f2 _ H2.out).mono ?_
    rintro e v1 ⟨b15, B15, rfl, h4, hat, hb⟩
    have hnB15 : B15.n = 4 := h4
    have HNB15 : Hid (B15.n ≤ 1048576) := by show _ ≤ _; omega
    clear h4 hnB15
    have hA : Blw v1 (v1.alloc (.cells #[.slice b15.a1 B15.n b15.c1, .slice b15.a2 B15.D.n b15.c2] 26)) := (Blw.refl _).alloc _
    replace hb := hb.trans hA
    replace HC : Hid (Blw _ _) := Blw.trans HC.out hb
    replace H2 : Hid (BY _ _ _ _) := BY.blw H2.out hb
    clear hb
    have X15 : Hid (BX (v1.alloc (.cells #[.slice b15.a1 B15.n b15.c1, .slice b15.a2 B15.D.n b15.c2] 26)) v1.heap.size b15 B15) := ⟨(hat).blw hA |>.mono (fun x hx => by simp; omega), box2 v1 _ _ 26⟩
    clear hA
    clear hat
    obtain ⟨p00, p01⟩ := get2 X15.out.box
    go_wp2_with fail
    clear p00 p01
    refine (implMapped_any b15 B15 _ _ X15.out.at_ (fun x hx => hx)).mono ?_
    rintro e v2 ⟨a16, n16, q16, f16, r17, rfl, ho, hsz, own, hb⟩
    have O16 : Hid (miOut B15 n16 f16 r17) := ho
    have I16 : Hid (LI v2 a16 n16 f16) := own.at.mono (fun x hx => hx.2)
    have hlI16 : n16 ≤ 1048576 := hsz
    clear ho hsz own
    replace HC : Hid (Blw _ _) := Blw.trans HC.out hb
    replace H2 : Hid (BY _ _ _ _) := BY.blw H2.out hb
    replace X15 : Hid (BX _ _ _ _) := BX.blw X15.out hb
    clear hb
    obtain ⟨p00, p01⟩ := get2 X15.out.box
    go_wp2_with fail
    clear p00 p01
    refine (specMapped_any b15 B15 _ _ HNB15.out X15.out.at_).mono ?_
    rintro e v3 ⟨a18, n18, q18, f18, r19, rfl, ho, hsz, own, hb⟩
    have O18 : Hid (miOut B15 n18 f18 r19) := ho
    have I18 : Hid (LI v3 a18 n18 f18) := own.at.mono (fun x hx => hx.2)
    have hlI18 : n18 ≤ 1048576 := hsz
    clear ho hsz own
    replace HC : Hid (Blw _ _) := Blw.trans HC.out hb
    replace H2 : Hid (BY _ _ _ _) := BY.blw H2.out hb
    replace X15 : Hid (BX _ _ _ _) := BX.blw X15.out hb
    replace I16 : Hid (LI _ _ _ _) := LI.blw I16.out hb
    clear hb
    obtain ⟨⟨en, ef⟩, eb⟩ := miOut_same O16.out O18.out
    subst en eb
    have EF : Hid (∀ i, i < n16 → f16 i = f18 i) := ef
    clear ef O16 O18
    clear X15
    go_wp2_with fail
    refine (drawUsed_any ao2 n2 c2 f2 _ H2.out).mono ?_
    rintro e v4 ⟨b20, B20, rfl, h4, hat, hb⟩
    have hnB20 : B20.n = 4 := h4
    have HNB20 : Hid (B20.n ≤ 1048576) := by show _ ≤ _; omega
    clear h4 hnB20
    have hA : Blw v4 (v4.alloc (.cells #[.slice b20.a1 B20.n b20.c1, .slice b20.a2 B20.D.n b20.c2] 26)) := (Blw.refl _).alloc _
    replace hb := hb.trans hA
    replace HC : Hid (Blw _ _) := Blw.trans HC.out hb
    replace H2 : Hid (BY _ _ _ _) := BY.blw H2.out hb
    replace I16 : Hid (LI _ _ _ _) := LI.blw I16.out hb
    replace I18 : Hid (LI _ _ _ _) := LI.blw I18.out hb
    clear hb
    have X20 : Hid (BX (v4.alloc (.cells #[.slice b20.a1 B20.n b20.c1, .slice b20.a2 B20.D.n b20.c2] 26)) v4.heap.size b20 B20) := ⟨(hat).blw hA |>.mono (fun x hx => by simp; omega), box2 v4 _ _ 26⟩
    clear hA
    clear hat
    obtain ⟨p00, p01⟩ := get2 X20.out.box
    go_wp2_with fail
    clear p00 p01
    refine (implUsed_any b20 B20 _ _ X20.out.at_ (fun x hx => hx)).mono ?_
    rintro e v5 ⟨n21, r22, rfl, ho, hb⟩
    have O21 : Hid (usOut B20 n21 r22) := ho
    clear ho
    replace HC : Hid (Blw _ _) := Blw.trans HC.out hb
    replace H2 : Hid (BY _ _ _ _) := BY.blw H2.out hb
    replace I16 : Hid (LI _ _ _ _) := LI.blw I16.out hb
    replace I18 : Hid (LI _ _ _ _) := LI.blw I18.out hb
    replace X20 : Hid (BX _ _ _ _) := BX.blw X20.out hb
    clear hb
    obtain ⟨p00, p01⟩ := get2 X20.out.box
    go_wp2_with fail
    clear p00 p01
    refine (specUsed_any b20 B20 _ _ HNB20.out X20.out.at_).mono ?_
    rintro e v6 ⟨n23, r24, rfl, ho, hb⟩
    have O23 : Hid (usOut B20 n23 r24) := ho
    clear ho
    replace HC : Hid (Blw _ _) := Blw.trans HC.out hb
    replace H2 : Hid (BY _ _ _ _) := BY.blw H2.out hb
    replace I16 : Hid (LI _ _ _ _) := LI.blw I16.out hb
    replace I18 : Hid (LI _ _ _ _) := LI.blw I18.out hb
    replace X20 : Hid (BX _ _ _ _) := BX.blw X20.out hb
    clear hb
    obtain ⟨e1, e2⟩ := usOut_same O23.out O21.out
    subst e1 e2
    clear O23
    go_wp2_with fail
    refine (drawNew_any ao2 n2 c2 f2 _ H2.out).mono ?_
    rintro e v7 ⟨k25, rfl, hb⟩
    replace HC : Hid (Blw _ _) := Blw.trans HC.out hb
    replace H2 : Hid (BY _ _ _ _) := BY.blw H2.out hb
    replace I16 : Hid (LI _ _ _ _) := LI.blw I16.out hb
    replace I18 : Hid (LI _ _ _ _) := LI.blw I18.out hb
    replace X20 : Hid (BX _ _ _ _) := BX.blw X20.out hb
    clear hb
    clear H2
    go_wp2_with fail
    refine (implNew_any k25 _).mono ?_
    rintro e v8 ⟨b26, R26, r27, rfl, ho, hsz, own, hb⟩
    have O26 : Hid (resT (cntOK k25) (newB k25) R26 r27) := ho
    clear ho hsz
    have hA : Blw v8 (v8.alloc (.cells #[.slice b26.a1 R26.n b26.c1, .slice b26.a2 R26.D.n b26.c2] 26)) := (Blw.refl _).alloc _
    replace hb := hb.trans hA
    replace HC : Hid (Blw _ _) := Blw.trans HC.out hb
    replace I16 : Hid (LI _ _ _ _) := LI.blw I16.out hb
    replace I18 : Hid (LI _ _ _ _) := LI.blw I18.out hb
    replace X20 : Hid (BX _ _ _ _) := BX.blw X20.out hb
    clear hb
    have X26 : Hid (BX (v8.alloc (.cells #[.slice b26.a1 R26.n b26.c1, .slice b26.a2 R26.D.n b26.c2] 26)) v8.heap.size b26 R26) := ⟨(own.at).blw hA |>.mono (fun x hx => by simp; omega), box2 v8 _ _ 26⟩
    clear hA
    clear own
    go_wp2_with fail
    refine (specNew_any k25 _).mono ?_
    rintro e v9 ⟨b28, R28, r29, rfl, ho, hsz, own, hb⟩
    have O28 : Hid (resT (cntOK k25) (newB k25) R28 r29) := ho
    clear ho hsz
    have hA : Blw v9 (v9.alloc (.cells #[.slice b28.a1 R28.n b28.c1, .slice b28.a2 R28.D.n b28.c2] 26)) := (Blw.refl _).alloc _
    replace hb := hb.trans hA
    replace HC : Hid (Blw _ _) := Blw.trans HC.out hb
    replace I16 : Hid (LI _ _ _ _) := LI.blw I16.out hb
    replace I18 : Hid (LI _ _ _ _) := LI.blw I18.out hb
    replace X20 : Hid (BX _ _ _ _) := BX.blw X20.out hb
    replace X26 : Hid (BX _ _ _ _) := BX.blw X26.out hb
    clear hb
    have X28 : Hid (BX (v9.alloc (.cells #[.slice b28.a1 R28.n b28.c1, .slice b28.a2 R28.D.n b28.c2] 26)) v9.heap.size b28 R28) := ⟨(own.at).blw hA |>.mono (fun x hx => by simp; omega), box2 v9 _ _ 26⟩
    clear hA
    clear own
    obtain ⟨eM, eb⟩ := resT_same O28.out O26.out
    subst eM eb
    clear O28 O26
    have qr17 : (r17 != r17) = false := by simp
    have qr24 : (r24 != r24) = false := by simp
    have qn23 : (n23 != n23) = false := by simp
    have qr29 : (r29 != r29) = false := by simp
    go_wp2_with fail
    refine (same39 _ _ _ _ n16 f16 f18 _ I16.out I18.out EF.out).mono ?_
    rintro e v10 ⟨rfl, hb⟩
    replace HC : Hid (Blw _ _) := Blw.trans HC.out hb
    replace I16 : Hid (LI _ _ _ _) := LI.blw I16.out hb
    replace I18 : Hid (LI _ _ _ _) := LI.blw I18.out hb
    replace X20 : Hid (BX _ _ _ _) := BX.blw X20.out hb
    replace X26 : Hid (BX _ _ _ _) := BX.blw X26.out hb
    replace X28 : Hid (BX _ _ _ _) := BX.blw X28.out hb
    clear hb
    clear EF
    obtain ⟨p00, p01⟩ := get2 X26.out.box
    obtain ⟨p10, p11⟩ := get2 X28.out.box
    go_wp2_with fail
    clear p00 p01 p10 p11
    refine (sameTable_same b26 b28 R28 _ X26.out.at_ X28.out.at_).mono ?_
    rintro e v11 ⟨rfl, hb⟩
    replace HC : Hid (Blw _ _) := Blw.trans HC.out hb
    replace I16 : Hid (LI _ _ _ _) := LI.blw I16.out hb
    replace I18 : Hid (LI _ _ _ _) := LI.blw I18.out hb
    replace X20 : Hid (BX _ _ _ _) := BX.blw X20.out hb
    replace X26 : Hid (BX _ _ _ _) := BX.blw X26.out hb
    replace X28 : Hid (BX _ _ _ _) := BX.blw X28.out hb
    clear hb
    clear X26 X28 I16 I18
    clear qr17 qr24 qn23 qr29
    cases r24
    · go_wp2
      go_ret
      exact ⟨rfl, HC.out⟩
    obtain ⟨p00, p01⟩ := get2 X20.out.box
    go_wp2_with fail
    clear p00 p01
    refine (implMapped_any b20 B20 _ _ X20.out.at_ (fun x hx => hx)).mono ?_
    rintro e v12 ⟨a30, n30, q30, f30, r31, rfl, ho, hsz, own, hb⟩
    have O30 : Hid (miOut B20 n30 f30 r31) := ho
    have I30 : Hid (LI v12 a30 n30 f30) := own.at.mono (fun x hx => hx.2)
    have hlI30 : n30 ≤ 1048576 := hsz
    clear ho hsz own
    replace HC : Hid (Blw _ _) := Blw.trans HC.out hb
    replace X20 : Hid (BX _ _ _ _) := BX.blw X20.out hb
    clear hb
    obtain ⟨e1, e2, e3, e4⟩ := used_fact O21.out rfl O30.out
    subst e1
    have dd : decide ((n30 : Int) ≤ n23 * 4) = true := by simp; omega
    clear O21 O30 e2
    clear X20 I30
    go_wp2
    go_ret
    exact ⟨rfl, HC.out⟩
end Go.Proofs.Ytcfdagmcnaepgaa
