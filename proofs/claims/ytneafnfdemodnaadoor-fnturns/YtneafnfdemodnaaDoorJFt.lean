/- FnTurns: the walk. -/
import Derived.Test.YtneafnfdemodnaaDoorJoin3
namespace Go.Proofs.YtneafnfdemodnaaDoor
open Go.RowKit
set_option linter.unusedSimpArgs false
set_option linter.unusedVariables false
theorem giveC_at (n : Nat) (F : Nat → Nat → Int) : giveC n F (lst F n) 1 = F (lst F n) 1 + 27720 / F (lst F n) 0 ∧ giveC n F (lst F n) 2 = F (lst F n) 2 + 1 := by
  unfold giveC; simp
theorem turn_rng {n : Nat} {F : Nat → Nat → Int} (h : GoodC n F) {k : Nat} (hk : k < n) : IntKind.i64.wrap (F k 1 + 27720 / F k 0) = F k 1 + 27720 / F k 0 ∧ IntKind.i64.wrap (F k 2 + 1) = F k 2 + 1 := by
  obtain ⟨t, p, u⟩ := h.2 k hk
  have := stride_le t.1
  constructor <;> rw [IntKind.wrap_i64] <;> omega
theorem two_turns {n : Nat} {F : Nat → Nat → Int} {n1 : Nat} {F1 : Nat → Nat → Int} {n2 : Nat} {g : Nat → Int} {n3 : Nat} {F3 : Nat → Nat → Int} {x : Int} {r : Bool} (o : gtsOut n F 2 n1 F1 n2 g true) (p : gtOut n (giveC n F) n3 F3 x r) : n1 = n ∧ F1 = gv n F 2 ∧ n2 = 2 ∧ g 0 = lst F n ∧ g 1 = lst (giveC n F) n ∧ n3 = n ∧ F3 = gv n F 2 ∧ x = lst (giveC n F) n ∧ r = true := by
  rcases o with ⟨q, rfl, rfl, rfl, rfl, _⟩ | ⟨_, _, _, _, _, e⟩
  · rcases p with ⟨_, rfl, rfl, rfl, rfl⟩ | ⟨l, _⟩
    · exact ⟨rfl, rfl, rfl, rfl, rfl, rfl, rfl, rfl, rfl⟩
    · refine absurd ⟨?_, q.2.2⟩ l
      have h2 : GoodC n1 (gv n1 F 2) := q.2.2
      have h0 := q.1
      refine ⟨h0.1, fun k hk => ?_⟩
      have r1 := Rng.gv h0 1
      obtain ⟨t2, p2, u2⟩ := h2.2 k hk
      have t1 := r1.t k hk
      have p1 := r1.p k hk
      have u1 := r1.u k hk
      have s1 := stride_le t1.1
      have e1 : gv n1 F 2 k 1 = gv n1 F 1 k 1 ∨ gv n1 F 2 k 1 = gv n1 F 1 k 1 + 27720 / gv n1 F 1 k 0 := by
        show giveC n1 (gv n1 F 1) k 1 = _ ∨ giveC n1 (gv n1 F 1) k 1 = _
        unfold giveC
        by_cases e : k = lst (gv n1 F 1) n1 <;> simp [e]
      have e2 : gv n1 F 2 k 2 = gv n1 F 1 k 2 ∨ gv n1 F 2 k 2 = gv n1 F 1 k 2 + 1 := by
        show giveC n1 (gv n1 F 1) k 2 = _ ∨ giveC n1 (gv n1 F 1) k 2 = _
        unfold giveC
        by_cases e : k = lst (gv n1 F 1) n1 <;> simp [e]
      have e3 : giveC n1 F = gv n1 F 1 := rfl
      rw [e3]
      exact ⟨t1, ⟨p1.1, by omega⟩, ⟨u1.1, by omega⟩⟩
  · cases e
set_option maxRecDepth 10000 in
set_option maxHeartbeats 12800000 in
theorem lawTurns (ao1 : Option Addr) (n1 c1 : Nat) (f1 : Nat → Int) (ao2 : Option Addr) (n2 c2 : Nat) (f2 : Nat → Int) (w : World) (h1 : BytesAt (fun b => b < w.heap.size) w ao1 n1 f1) (h2 : BytesAt (fun b => b < w.heap.size) w ao2 n2 f2) (hT : Tb w) :
    Calls Tryd.prog 4 #[.slice ao1 n1 c1, .slice ao2 n2 c2] w fun e w' => e = .returned (.bool true) ∧ Blw w w' := by
  have H1 : Hid (BY w ao1 n1 f1) := h1
  have H2 : Hid (BY w ao2 n2 f2) := h2
  have HT : Hid (Tb w) := hT
  clear h1 h2 hT
  go_enter Tryd.func4, Tryd.ntmps4
  by_cases hd : wrap64 ((n1 : Int) + n2) > 1048576
  · have d1 : decide (wrap64 ((n1 : Int) + n2) > 1048576) = true := by simpa using hd
    clear hd
    go_wp2
    go_ret
    exact ⟨rfl, Blw.refl _⟩
  have d1 : decide (wrap64 ((n1 : Int) + n2) > 1048576) = false := by simpa using hd
  clear hd
  have HB : Hid (Blw w w) := Blw.refl w
  go_wp2_with fail
  refine (drawGT_any ao1 n1 c1 f1 _ H1.out).mono ?_
  rintro e w1 ⟨a5, n5, c5, F5, rfl, hn5, own, hb⟩
  replace HB : Hid (Blw _ _) := Blw.trans HB.out hb
  replace H1 : Hid (BY w1 ao1 n1 f1) := BY.blw H1.out hb
  replace H2 : Hid (BY w1 ao2 n2 f2) := BY.blw H2.out hb
  clear d1
  have K5 : Hid (KX w1 a5 n5 F5) := own.at.mono (fun x hx => hx.2)
  clear own hb
  clear H1
  go_wp2_with fail
  refine (implTurn_any a5 c5 n5 F5 _ _ (HT.out.blw HB.out) K5.out).mono ?_
  rintro e w2 ⟨a6, n6, c6, F6, x7, r8, rfl, ho, own, hb⟩
  replace HB : Hid (Blw _ _) := Blw.trans HB.out hb
  replace H2 : Hid (BY w2 ao2 n2 f2) := BY.blw H2.out hb
  replace K5 : Hid (KX w2 a5 n5 F5) := KX.blw K5.out hb
  have O6 : Hid (gtOut n5 F5 n6 F6 x7 r8) := ho
  have K6 : Hid (KX w2 a6 n6 F6) := own.at.mono (fun x hx => hx.2)
  clear own hb ho
  go_wp2_with fail
  refine (specTurn_any a5 c5 n5 F5 _ _ K5.out).mono ?_
  rintro e w3 ⟨a9, n9, c9, F9, x10, r11, rfl, ho, own, hb⟩
  replace HB : Hid (Blw _ _) := Blw.trans HB.out hb
  replace H2 : Hid (BY w3 ao2 n2 f2) := BY.blw H2.out hb
  replace K5 : Hid (KX w3 a5 n5 F5) := KX.blw K5.out hb
  replace K6 : Hid (KX w3 a6 n6 F6) := KX.blw K6.out hb
  obtain ⟨e1, e2, e3, e4⟩ := gtOut_same ho O6.out
  subst e1 e2 e3 e4
  have K9 : Hid (KX w3 a9 n9 F9) := own.at.mono (fun x hx => hx.2)
  clear own hb ho
  go_wp2_with fail
  refine (implNext_any a5 c5 n5 F5 _ _ K5.out).mono ?_
  rintro e w4 ⟨x12, r13, rfl, ho, hb⟩
  replace HB : Hid (Blw _ _) := Blw.trans HB.out hb
  replace H2 : Hid (BY w4 ao2 n2 f2) := BY.blw H2.out hb
  replace K5 : Hid (KX w4 a5 n5 F5) := KX.blw K5.out hb
  replace K6 : Hid (KX w4 a6 n9 F9) := KX.blw K6.out hb
  replace K9 : Hid (KX w4 a9 n9 F9) := KX.blw K9.out hb
  have O12 : Hid (ncOut n5 F5 x12 r13) := ho
  clear ho hb
  go_wp2_with fail
  refine (specNext_any a5 c5 n5 F5 _ _ K5.out).mono ?_
  rintro e w5 ⟨x14, r15, rfl, ho, hb⟩
  replace HB : Hid (Blw _ _) := Blw.trans HB.out hb
  replace H2 : Hid (BY w5 ao2 n2 f2) := BY.blw H2.out hb
  replace K5 : Hid (KX w5 a5 n5 F5) := KX.blw K5.out hb
  replace K6 : Hid (KX w5 a6 n9 F9) := KX.blw K6.out hb
  replace K9 : Hid (KX w5 a9 n9 F9) := KX.blw K9.out hb
  obtain ⟨e1, e2⟩ := ncOut_same ho O12.out
  subst e1 e2
  clear ho hb
  have q1 : (r11 != r11) = false := by simp
  have q2 : (x10 != x10) = false := by simp
  have q3 : (r15 != r15) = false := by simp
  have q4 : (x14 != x14) = false := by simp
  go_wp2_with fail
  refine (sameClients_same a6 a9 c6 c9 n9 F9 _ K6.out K9.out).mono ?_
  rintro e w6 ⟨rfl, hb⟩
  replace HB : Hid (Blw _ _) := Blw.trans HB.out hb
  replace H2 : Hid (BY w6 ao2 n2 f2) := BY.blw H2.out hb
  replace K5 : Hid (KX w6 a5 n5 F5) := KX.blw K5.out hb
  replace K6 : Hid (KX w6 a6 n9 F9) := KX.blw K6.out hb
  replace K9 : Hid (KX w6 a9 n9 F9) := KX.blw K9.out hb
  clear hb
  clear K9
  go_wp2_with fail
  refine (implGood_any a5 c5 n5 F5 _ _ K5.out).mono ?_
  rintro e w7 ⟨rg, rfl, hg, hb⟩
  replace HB : Hid (Blw _ _) := Blw.trans HB.out hb
  replace H2 : Hid (BY w7 ao2 n2 f2) := BY.blw H2.out hb
  replace K5 : Hid (KX w7 a5 n5 F5) := KX.blw K5.out hb
  replace K6 : Hid (KX w7 a6 n9 F9) := KX.blw K6.out hb
  obtain rfl := Eq.symm (show rg = r15 from Bool.eq_iff_iff.2 (hg.trans ⟨fun g => by rcases O12.out with ⟨_, _, e⟩ | ⟨n, _⟩; exact e; exact absurd g n, fun e => by rcases O12.out with ⟨g, _⟩ | ⟨_, _, e2⟩; exact g; rw [e2] at e; cases e⟩))
  clear hg hb
  go_upto_if 91 with fail
  clear q1 q2 q3 q4
  go_cut [16, 17, 18, 19, 20, 21, 22, 23, 24, 25] from 91 to 193 (fun v16 v17 v18 v19 v20 v21 v22 v23 v24 v25 wx => Blw w7 wx)
  case first =>
    cases r11
    · go_wp2_with fail
      go_meet
      exact Blw.refl _
    obtain ⟨⟨hG, hG2⟩, en, rfl, ex⟩ : (GoodC n5 F5 ∧ GoodC n5 (giveC n5 F5)) ∧ n9 = n5 ∧ F9 = giveC n5 F5 ∧ x10 = lst F5 n5 := by
      rcases O6.out with ⟨h1, h2, h3, h4, _⟩ | ⟨_, _, _, _, h⟩
      · exact ⟨h1, h2, h3, h4⟩
      · cases h
    obtain rfl := en.symm
    have ey : x14 = lst F5 n5 := by
      rcases O12.out with ⟨_, h, _⟩ | ⟨h, _⟩
      · exact h
      · exact absurd hG h
    have HG : Hid (GoodC n5 F5) := hG
    clear hG hG2 O6 O12
    obtain ⟨hv1, hv2⟩ := giveC_at n5 F5
    have hkn : lst F5 n5 < n5 := lst_lt F5 (by omega)
    have HMIN : Hid (∀ j, j < n5 → F5 (lst F5 n5) 1 ≤ F5 j 1) := lst_min F5 n5
    have HRW : Hid (∀ x : Int, x = lst F5 n5 → x = (lst F5 n5 : Nat)) := fun x h => h
    generalize hk : lst F5 n5 = kk at *
    have HK : Hid (lst F5 n5 = kk) := hk
    subst ex ey
    have HV1 : Hid (giveC n5 F5 kk 1 = F5 kk 1 + 27720 / F5 kk 0) := hv1
    have HV2 : Hid (giveC n5 F5 kk 2 = F5 kk 2 + 1) := hv2
    clear hk hv1 hv2 HRW
    have hkn' : (kk : Int) < n5 := by omega
    obtain ⟨e1, e2⟩ := turn_rng HG.out hkn
    have HTK : Hid (tkOK (F5 kk 0)) := (HG.out.2 kk hkn).1
    have HC : Hid (Blw w7 w7) := Blw.refl _
    obtain ⟨b5, o5, ea5, -, g5⟩ := K5.out.2 kk hkn
    obtain ⟨b6, o6, ea6, -, g6⟩ := K6.out.2 kk hkn
    have p0 := g5 0 (by omega)
    rw [Nat.add_zero] at p0
    have HA5 : Hid (a5 = some ⟨b5, o5, none⟩) := ea5
    have HA6 : Hid (a6 = some ⟨b6, o6, none⟩) := ea6
    clear g5 g6
    subst ea5 ea6
    go_wp2_with fail
    clear p0
    refine (implStride9_any (F5 kk 0) _ (HT.out.blw HB.out)).mono ?_
    rintro e w20 ⟨s, r, rfl, ho, hb⟩
    obtain ⟨es, rfl⟩ := soOut_ok ho HTK.out
    have HSE : Hid (s = 27720 / F5 kk 0) := es
    clear ho es
    replace HB : Hid (Blw _ _) := Blw.trans HB.out hb
    replace HC : Hid (Blw _ _) := Blw.trans HC.out hb
    replace H2 : Hid (BY w20 ao2 n2 f2) := BY.blw H2.out hb
    replace K5 : Hid (KX w20 (some ⟨b5, o5, none⟩) n5 F5) := KX.blw K5.out hb
    replace K6 : Hid (KX w20 (some ⟨b6, o6, none⟩) n5 (giveC n5 F5)) := KX.blw K6.out hb
    clear hb
    obtain ⟨b7, o7, ea7, -, g5⟩ := K5.out.2 kk hkn
    cases ea7
    obtain ⟨b7, o7, ea7, -, g6⟩ := K6.out.2 kk hkn
    cases ea7
    have p1 := g5 1 (by omega)
    have p2 := g5 2 (by omega)
    have q1 := g6 1 (by omega)
    have q2 := g6 2 (by omega)
    rw [HV1.out, ← HSE.out] at q1
    rw [HV2.out] at q2
    rw [← HSE.out] at e1
    clear g5 g6
    have z1 : ((kk : Int) != (kk : Int)) = false := by simp
    have z2 : ((F5 kk 1 + s) != (F5 kk 1 + s)) = false := by simp
    have z3 : ((F5 kk 2 + 1) != (F5 kk 2 + 1)) = false := by simp
    go_upto_region 12 with fail
    go_quiet (fail)
    go_wp2_with fail
    clear p2 q1 q2 z1 z2 z3 e1 e2
    have hb : Blw w20 (w20.drewN nq) := Blw.drewN (Blw.refl _) nq
    replace HB : Hid (Blw _ _) := Blw.trans HB.out hb
    replace HC : Hid (Blw _ _) := Blw.trans HC.out hb
    replace H2 : Hid (BY (w20.drewN nq) ao2 n2 f2) := BY.blw H2.out hb
    replace K5 : Hid (KX (w20.drewN nq) (some ⟨b5, o5, none⟩) n5 F5) := KX.blw K5.out hb
    replace K6 : Hid (KX (w20.drewN nq) (some ⟨b6, o6, none⟩) n5 (giveC n5 F5)) := KX.blw K6.out hb
    clear hb p1
    generalize w20.drewN nq = w21 at *
    go_loopw [139] (fun i wr => ∃ j : Nat, j ≤ n5 ∧ i = .int .i64 j ∧ Blw w21 wr) (fun i _ => n5 - (intOf i).toNat)
    case atStart => exact ⟨0, Nat.zero_le _, rfl, Blw.refl _⟩
    case round =>
      obtain ⟨j, hj, rfl, hb⟩ := hrel
      have HD : Hid (Blw w21 wr) := hb
      clear hb
      by_cases hlt : j < n5
      · have hlt' : (j : Int) < n5 := by omega
        obtain ⟨b, o, eb, -, g⟩ := (K5.out.blw HD.out).2 j hlt
        cases eb
        obtain ⟨b, o, eb, -, g'⟩ := (K5.out.blw HD.out).2 kk hkn
        cases eb
        have g0 := g 0 (by omega)
        have g1 := g 1 (by omega)
        have g2 := g 2 (by omega)
        have g3 := g' 1 (by omega)
        rw [Nat.add_zero] at g0
        have hA : Blw wr (wr.alloc (.cells #[.int .i64 (F5 j 0), .int .i64 (F5 j 1), .int .i64 (F5 j 2)] 35)) := (Blw.refl _).alloc _
        have HA : Hid (Blw w21 (wr.alloc (.cells #[.int .i64 (F5 j 0), .int .i64 (F5 j 1), .int .i64 (F5 j 2)] 35))) := HD.out.trans hA
        have g4 := hA.cell g3
        have r3 := box3 wr (.int .i64 (F5 j 0)) (.int .i64 (F5 j 1)) (.int .i64 (F5 j 2)) 35
        have g6 := (get3 r3).2.1
        have d1 : decide (F5 j 1 < F5 kk 1) = false := by have := HMIN.out j hlt; simp; omega
        clear g g' HD r3 K5 K6 H2 HMIN
        go_upto_region 17 with fail
        clear g0 g1 g2 g3 hA
        generalize (wr.alloc (.cells #[.int .i64 (F5 j 0), .int .i64 (F5 j 1), .int .i64 (F5 j 2)] 35)) = w22 at *
        go_wp2
        go_quiet (fail)
        go_wp2
        go_roundw
        case rel => exact ⟨j + 1, by omega, by go_num, by first | exact HA.out.drew | exact HA.out | exact HA.out.drewN _⟩
        case measure => simp [intOf]; omega
      obtain rfl : n5 = j := by omega
      have hb := HD.out
      clear HD HMIN
      replace HB : Hid (Blw _ _) := Blw.trans HB.out hb
      replace HC : Hid (Blw _ _) := Blw.trans HC.out hb
      replace H2 : Hid (BY wr ao2 n2 f2) := BY.blw H2.out hb
      replace K5 : Hid (KX wr (some ⟨b5, o5, none⟩) n5 F5) := KX.blw K5.out hb
      replace K6 : Hid (KX wr (some ⟨b6, o6, none⟩) n5 (giveC n5 F5)) := KX.blw K6.out hb
      clear hb
      go_wp2_with fail
      refine (implTurns_any (some ⟨b5, o5, none⟩) c5 n5 F5 2 _ _ (HT.out.blw HB.out) K5.out).mono ?_
      rintro e w8 ⟨a20, n20, c20, F20, a21, n21, c21, g21, r22, rfl, ho, hw, hb⟩
      replace HB : Hid (Blw _ _) := Blw.trans HB.out hb
      replace HC : Hid (Blw _ _) := Blw.trans HC.out hb
      replace H2 : Hid (BY w8 ao2 n2 f2) := BY.blw H2.out hb
      replace K5 : Hid (KX w8 (some ⟨b5, o5, none⟩) n5 F5) := KX.blw K5.out hb
      replace K6 : Hid (KX w8 (some ⟨b6, o6, none⟩) n5 (giveC n5 F5)) := KX.blw K6.out hb
      have O20 : Hid (gtsOut n5 F5 2 n20 F20 n21 g21 r22) := ho
      obtain ⟨M, hM, k1, k2⟩ := hw
      have K20 : Hid (KX w8 a20 n20 F20) := k1.at.mono (fun x hx => Nat.lt_of_lt_of_le hx.2 hM.2)
      have L21 : Hid (LI w8 a21 n21 g21) := k2.at.mono (fun x hx => hx.2)
      clear ho hM k1 k2 hb
      clear K5
      go_wp2_with fail
      refine (implTurn_any (some ⟨b6, o6, none⟩) c6 n5 (giveC n5 F5) _ _ (HT.out.blw HB.out) K6.out).mono ?_
      rintro e w9 ⟨a23, n23, c23, F23, x24, r25, rfl, ho, own, hb⟩
      replace HB : Hid (Blw _ _) := Blw.trans HB.out hb
      replace HC : Hid (Blw _ _) := Blw.trans HC.out hb
      replace H2 : Hid (BY w9 ao2 n2 f2) := BY.blw H2.out hb
      replace K6 : Hid (KX w9 (some ⟨b6, o6, none⟩) n5 (giveC n5 F5)) := KX.blw K6.out hb
      replace K20 : Hid (KX w9 a20 n20 F20) := KX.blw K20.out hb
      replace L21 : Hid (LI w9 a21 n21 g21) := LI.blw L21.out hb
      have O23 : Hid (gtOut n5 (giveC n5 F5) n23 F23 x24 r25) := ho
      have K23 : Hid (KX w9 a23 n23 F23) := own.at.mono (fun x hx => hx.2)
      clear own hb ho
      clear K6
      cases r22
      · have FIN : Hid (Blw w7 w9) := HC.out
        clear O20 O23 K20 L21 K23 HB HC H2 HT HG HK HV1 HV2 HTK
        go_wp2_with fail
        go_meet
        exact FIN.out
      obtain ⟨e20, rfl, e21, h0, h1, e23, rfl, e24, rfl⟩ := two_turns O20.out O23.out
      obtain rfl := e20.symm
      obtain rfl := e23.symm
      have HL0 : Hid (g21 0 = (lst F5 n5 : Int)) := h0
      have HL1 : Hid (g21 1 = x24) := h1.trans e24.symm
      subst e21
      clear O20 O23 h0 h1 e24 e20 e23
      have z2 : ((2 : Int) != (2 : Int)) = false := by simp
      have z3 : ((kk : Int) != (kk : Int)) = false := by simp
      have z4 : (x24 != x24) = false := by simp
      go_wp2_with fail
      refine (sameClients_same a20 a23 c20 c23 n5 (gv n5 F5 2) _ K20.out K23.out).mono ?_
      rintro e w30 ⟨rfl, hb⟩
      replace HB : Hid (Blw _ _) := Blw.trans HB.out hb
      replace HC : Hid (Blw _ _) := Blw.trans HC.out hb
      replace H2 : Hid (BY w30 ao2 n2 f2) := BY.blw H2.out hb
      replace K20 : Hid (KX w30 a20 n5 (gv n5 F5 2)) := KX.blw K20.out hb
      replace L21 : Hid (LI w30 a21 2 g21) := LI.blw L21.out hb
      replace K23 : Hid (KX w30 a23 n5 (gv n5 F5 2)) := KX.blw K23.out hb
      clear hb
      clear K20 K23
      obtain ⟨b9, o9, ea9, -, i0⟩ := L21.out.2 0 (by omega)
      obtain ⟨b10, o10, ea10, -, i1⟩ := L21.out.2 1 (by omega)
      rw [ea9] at ea10
      cases ea10
      subst ea9
      rw [HL0.out, HK.out] at i0
      rw [HL1.out] at i1
      rw [Nat.add_zero] at i0
      have FIN : Hid (Blw w7 w30) := HC.out
      clear L21 HB HC H2 HT HG HK HV1 HV2 HTK HL0 HL1
      go_wp2_with fail
      go_meet
      exact FIN.out
  case rest =>
    have hb := hcut
    clear hcut K5 K6 O6 O12
    replace HB : Hid (Blw _ _) := Blw.trans HB.out hb
    replace H2 : Hid (BY wc ao2 n2 f2) := BY.blw H2.out hb
    clear hb
    go_wp2_with fail
    refine (drawSO_any ao2 n2 c2 f2 _ H2.out).mono ?_
    rintro e w10 ⟨k26, rfl, hb⟩
    replace HB : Hid (Blw _ _) := Blw.trans HB.out hb
    replace H2 : Hid (BY w10 ao2 n2 f2) := BY.blw H2.out hb
    clear hb
    clear H2
    go_wp2_with fail
    refine (implStride9_any k26 _ (HT.out.blw HB.out)).mono ?_
    rintro e w11 ⟨s27, r28, rfl, ho, hb⟩
    replace HB : Hid (Blw _ _) := Blw.trans HB.out hb
    have O27 : Hid (soOut k26 s27 r28) := ho
    clear ho hb
    go_wp2_with fail
    refine (specStride9_any k26 _).mono ?_
    rintro e w12 ⟨s29, r30, rfl, ho, hb⟩
    replace HB : Hid (Blw _ _) := Blw.trans HB.out hb
    obtain ⟨e1, e2⟩ := soOut_same ho O27.out
    subst e1 e2
    clear ho hb
    have q1 : (r30 == r30) = true := by simp
    have q2 : (s29 == s29) = true := by simp
    cases r30
    · go_wp2
      go_ret
      exact ⟨rfl, HB.out⟩
    obtain ⟨hk, hs⟩ : tkOK k26 ∧ s29 = 27720 / k26 := by
      rcases O27.out with ⟨h1, h2, _⟩ | ⟨_, _, h⟩
      · exact ⟨h1, h2⟩
      · cases h
    have hm : IntKind.i64.wrap (s29 * k26) = 27720 := by rw [hs, stride_mul hk]; rfl
    clear hk hs O27
    go_wp2
    go_ret
    exact ⟨rfl, HB.out⟩
end Go.Proofs.YtneafnfdemodnaaDoor
