/- FnIsolated: the walk. -/
import Derived.Test.YtjplodenflkghaaJLawNest
import Derived.Test.YtjplodenflkghaaJIsoF
namespace Go.Proofs.Ytjplodenflkghaa
open Go.RowKit
set_option linter.unusedSimpArgs false
set_option linter.unusedVariables false
theorem bb_true {a b : Bool} (h : a = true ↔ b = true) : a = b := Bool.eq_iff_iff.2 h
set_option maxRecDepth 10000 in
set_option maxHeartbeats 12800000 in
theorem lawIsolatedD (ao1 : Option Addr) (n1 c1 : Nat) (f1 : Nat → Int) (ao2 : Option Addr) (n2 c2 : Nat) (f2 : Nat → Int) (w : World) (h1 : BytesAt (fun b => b < w.heap.size) w ao1 n1 f1) (h2 : BytesAt (fun b => b < w.heap.size) w ao2 n2 f2) :
    Calls Try.prog 6 #[.slice ao1 n1 c1, .slice ao2 n2 c2] w fun e w' => e = .returned (.bool true) ∧ Blw w w' := by
  have H1 : Hid (BY w ao1 n1 f1) := h1
  have H2 : Hid (BY w ao2 n2 f2) := h2
  clear h1 h2
  go_enter Try.func6, Try.ntmps6
  by_cases hd : wrap64 ((n1 : Int) + n2) > 1048576
  · have d1 : decide (wrap64 ((n1 : Int) + n2) > 1048576) = true := by simpa using hd
    clear hd
    go_wp2
    go_ret
    exact ⟨rfl, Blw.refl _⟩
  have d1 : decide (wrap64 ((n1 : Int) + n2) > 1048576) = false := by simpa using hd
  clear hd
  have HB : Hid (Blw w w) := Blw.refl w
  go_wp2_with fail
  clear d1
  refine (drawWW_any ao1 n1 c1 f1 _ H1.out).mono ?_
  rintro e w1 ⟨v5, D5, a5, rfl, hD, ⟨hat, hb⟩⟩
  have N5 : Hid (NDr D5) := hD
  clear hD
  have hA : Blw w1 (w1.alloc (.cells #[.slice v5.g.a1 D5.G.n v5.g.c1, .slice v5.g.a2 D5.G.D.n v5.g.c2, .slice v5.h.a1 D5.H.n v5.h.c1, .slice v5.h.a2 D5.H.D.n v5.h.c2] 60)) := (Blw.refl _).alloc _
  replace hb := hb.trans hA
  replace HB : Hid (Blw _ _) := Blw.trans HB.out hb
  replace H1 : Hid (BY _ _ _ _) := BY.blw H1.out hb
  replace H2 : Hid (BY _ _ _ _) := BY.blw H2.out hb
  clear hb
  have X5 : Hid (NX (w1.alloc (.cells #[.slice v5.g.a1 D5.G.n v5.g.c1, .slice v5.g.a2 D5.G.D.n v5.g.c2, .slice v5.h.a1 D5.H.n v5.h.c1, .slice v5.h.a2 D5.H.D.n v5.h.c2] 60)) w1.heap.size v5 D5) := ⟨((hat).blw hA).mono (fun x hx => by simp; omega), box4 w1 _ _ _ _ 60⟩
  clear hA
  clear hat
  clear H1
  obtain ⟨p0, p1, p2, p3⟩ := get4 X5.out.box
  go_wp2_with fail
  clear p0 p1 p2 p3
  refine (implWatch_any v5 D5 a5 _ _ X5.out.at_ (fun x hx => hx)).mono ?_
  rintro e w2 ⟨v7, R7, r7, rfl, ho, hsz, own, hb⟩
  have O7 : Hid (hsOut D5 a5 3 1 R7 r7) := ho
  clear ho hsz
  have hA : Blw w2 (w2.alloc (.cells #[.slice v7.g.a1 R7.G.n v7.g.c1, .slice v7.g.a2 R7.G.D.n v7.g.c2, .slice v7.h.a1 R7.H.n v7.h.c1, .slice v7.h.a2 R7.H.D.n v7.h.c2] 60)) := (Blw.refl _).alloc _
  replace hb := hb.trans hA
  replace HB : Hid (Blw _ _) := Blw.trans HB.out hb
  replace H2 : Hid (BY _ _ _ _) := BY.blw H2.out hb
  replace X5 : Hid (NX _ _ _ _) := NX.blw X5.out hb
  clear hb
  have X7 : Hid (NX (w2.alloc (.cells #[.slice v7.g.a1 R7.G.n v7.g.c1, .slice v7.g.a2 R7.G.D.n v7.g.c2, .slice v7.h.a1 R7.H.n v7.h.c1, .slice v7.h.a2 R7.H.D.n v7.h.c2] 60)) w2.heap.size v7 R7) := ⟨((own.at).blw hA).mono (fun x hx => by simp; omega), box4 w2 _ _ _ _ 60⟩
  clear hA
  clear own
  obtain ⟨p0, p1, p2, p3⟩ := get4 X5.out.box
  go_wp2_with fail
  clear p0 p1 p2 p3
  refine (specWatch_any v5 D5 a5 _ _ N5.out.n.1 N5.out.n.2 X5.out.at_).mono ?_
  rintro e w3 ⟨v9, R9, r9, rfl, ho, hsz, own, hb⟩
  obtain ⟨eR, er⟩ := hsOut_same ho O7.out
  subst eR er
  clear ho hsz
  have hA : Blw w3 (w3.alloc (.cells #[.slice v9.g.a1 R9.G.n v9.g.c1, .slice v9.g.a2 R9.G.D.n v9.g.c2, .slice v9.h.a1 R9.H.n v9.h.c1, .slice v9.h.a2 R9.H.D.n v9.h.c2] 60)) := (Blw.refl _).alloc _
  replace hb := hb.trans hA
  replace HB : Hid (Blw _ _) := Blw.trans HB.out hb
  replace H2 : Hid (BY _ _ _ _) := BY.blw H2.out hb
  replace X5 : Hid (NX _ _ _ _) := NX.blw X5.out hb
  replace X7 : Hid (NX _ _ _ _) := NX.blw X7.out hb
  clear hb
  have X9 : Hid (NX (w3.alloc (.cells #[.slice v9.g.a1 R9.G.n v9.g.c1, .slice v9.g.a2 R9.G.D.n v9.g.c2, .slice v9.h.a1 R9.H.n v9.h.c1, .slice v9.h.a2 R9.H.D.n v9.h.c2] 60)) w3.heap.size v9 R9) := ⟨((own.at).blw hA).mono (fun x hx => by simp; omega), box4 w3 _ _ _ _ 60⟩
  clear hA
  clear own
  have hne : (r9 != r9) = false := by simp
  obtain ⟨p0, p1, p2, p3⟩ := get4 X7.out.box
  obtain ⟨q0, q1, q2, q3⟩ := get4 X9.out.box
  go_wp2_with fail
  clear p0 p1 p2 p3 q0 q1 q2 q3
  refine (sameTable_same v7.g v9.g R9.G _ X7.out.at_.g X9.out.at_.g).mono ?_
  rintro e w4 ⟨rfl, hb⟩
  replace HB : Hid (Blw _ _) := Blw.trans HB.out hb
  replace H2 : Hid (BY _ _ _ _) := BY.blw H2.out hb
  replace X5 : Hid (NX _ _ _ _) := NX.blw X5.out hb
  replace X7 : Hid (NX _ _ _ _) := NX.blw X7.out hb
  replace X9 : Hid (NX _ _ _ _) := NX.blw X9.out hb
  clear hb
  obtain ⟨p0, p1, p2, p3⟩ := get4 X7.out.box
  obtain ⟨q0, q1, q2, q3⟩ := get4 X9.out.box
  go_wp2_with fail
  clear p0 p1 p2 p3 q0 q1 q2 q3
  refine (sameTable_same v7.h v9.h R9.H _ X7.out.at_.h X9.out.at_.h).mono ?_
  rintro e w5 ⟨rfl, hb⟩
  replace HB : Hid (Blw _ _) := Blw.trans HB.out hb
  replace H2 : Hid (BY _ _ _ _) := BY.blw H2.out hb
  replace X5 : Hid (NX _ _ _ _) := NX.blw X5.out hb
  replace X7 : Hid (NX _ _ _ _) := NX.blw X7.out hb
  replace X9 : Hid (NX _ _ _ _) := NX.blw X9.out hb
  clear hb
  clear X9
  clear hne
  go_upto_if 91 with fail
  go_cut [11, 12, 13, 14, 15, 16, 17, 18, 19, 20, 21, 22, 23, 24, 25, 26, 27, 28, 29] from 91 to 196 (fun v11 v12 v13 v14 v15 v16 v17 v18 v19 v20 v21 v22 v23 v24 v25 v26 v27 v28 v29 wx => Blw w5 wx)
  case first =>
    cases r9
    · go_wp2_with fail
      go_meet
      exact Blw.refl _
    clear HB
    have HB : Hid (Blw w5 w5) := Blw.refl w5
    obtain ⟨p0, p1, p2, p3⟩ := get4 X7.out.box
    go_wp2_with fail
    clear p0 p1 p2 p3
    refine (implLet_any v7 R9 a5 _ _ X7.out.at_ (fun x hx => hx)).mono ?_
    rintro e w6 ⟨v11, R11, r11, rfl, ho, hsz, own, hb⟩
    obtain ⟨hS, hg, hm, hp, er, eL⟩ := watch_let N5.out O7.out ho
    subst er eL
    clear ho hsz O7
    obtain ⟨x, hx, hx16⟩ : ∃ x : Nat, a5 = x ∧ x < 16 := ⟨a5.toNat, by unfold pgOK at hp; omega, by unfold pgOK at hp; omega⟩
    subst hx
    rw [Int.toNat_natCast] at hS hm
    have HS1 : Hid (Set1 R11 R9 x 1) := hS
    have HG : Hid R11.Good := hg
    have HM : Hid (gM R11.H x = 3) := hm
    clear hS hg hm hp
    have hA : Blw w6 (w6.alloc (.cells #[.slice v11.g.a1 R11.G.n v11.g.c1, .slice v11.g.a2 R11.G.D.n v11.g.c2, .slice v11.h.a1 R11.H.n v11.h.c1, .slice v11.h.a2 R11.H.D.n v11.h.c2] 60)) := (Blw.refl _).alloc _
    replace hb := hb.trans hA
    replace HB : Hid (Blw _ _) := Blw.trans HB.out hb
    replace H2 : Hid (BY _ _ _ _) := BY.blw H2.out hb
    replace X5 : Hid (NX _ _ _ _) := NX.blw X5.out hb
    replace X7 : Hid (NX _ _ _ _) := NX.blw X7.out hb
    clear hb
    have X11 : Hid (NX (w6.alloc (.cells #[.slice v11.g.a1 R11.G.n v11.g.c1, .slice v11.g.a2 R11.G.D.n v11.g.c2, .slice v11.h.a1 R11.H.n v11.h.c1, .slice v11.h.a2 R11.H.D.n v11.h.c2] 60)) w6.heap.size v11 R11) := ⟨((own.at).blw hA).mono (fun x hx => by simp; omega), box4 w6 _ _ _ _ 60⟩
    clear hA
    clear own
    obtain ⟨p0, p1, p2, p3⟩ := get4 X5.out.box
    go_wp2_with fail
    clear p0 p1 p2 p3
    refine (implReached_any v5 R11 _ _ X5.out.at_ (fun x hx => hx)).mono ?_
    rintro e w7 ⟨a1, m1, cc1, g1, s1, rfl, ho, hsz, own, hb⟩
    have O1 : Hid (rbOut R11.G R11.H m1 g1 s1) := ho
    replace HB : Hid (Blw _ _) := Blw.trans HB.out hb
    replace H2 : Hid (BY _ _ _ _) := BY.blw H2.out hb
    replace X5 : Hid (NX _ _ _ _) := NX.blw X5.out hb
    replace X7 : Hid (NX _ _ _ _) := NX.blw X7.out hb
    replace X11 : Hid (NX _ _ _ _) := NX.blw X11.out hb
    clear hb
    have L1 : Hid (LI w7 a1 m1 g1) := own.at.mono (fun x hx => hx.2)
    clear own ho hsz
    obtain ⟨p0, p1, p2, p3⟩ := get4 X11.out.box
    go_wp2_with fail
    clear p0 p1 p2 p3
    refine (implReached_any v11 R11 _ _ X11.out.at_ (fun x hx => hx)).mono ?_
    rintro e w8 ⟨a2, m2, cc2, g2, s2, rfl, ho, hsz, own, hb⟩
    obtain ⟨⟨en, eg⟩, es⟩ := rbOut_same ho O1.out
    subst en es
    have HEG : Hid (∀ i, i < m2 → g2 i = g1 i) := eg
    obtain rfl : s2 = true := by rcases ho with ⟨_, _, e⟩ | ⟨n, _, _⟩; exact e; exact absurd HG.out n
    replace HB : Hid (Blw _ _) := Blw.trans HB.out hb
    replace H2 : Hid (BY _ _ _ _) := BY.blw H2.out hb
    replace X5 : Hid (NX _ _ _ _) := NX.blw X5.out hb
    replace X7 : Hid (NX _ _ _ _) := NX.blw X7.out hb
    replace X11 : Hid (NX _ _ _ _) := NX.blw X11.out hb
    replace L1 : Hid (LI _ _ _ _) := LI.blw L1.out hb
    clear hb
    have L2 : Hid (LI w8 a2 m2 g2) := own.at.mono (fun x hx => hx.2)
    clear own ho hsz O1 eg
    obtain ⟨p0, p1, p2, p3⟩ := get4 X7.out.box
    go_wp2_with fail
    clear p0 p1 p2 p3
    refine (implGoodN_any v7 R9 _ _ X7.out.at_ (fun x hx => hx)).mono ?_
    rintro e w9 ⟨r, rfl, hgg, hb⟩
    obtain rfl : r = true := hgg.2 HS1.out.good
    clear hgg
    replace HB : Hid (Blw _ _) := Blw.trans HB.out hb
    replace H2 : Hid (BY _ _ _ _) := BY.blw H2.out hb
    replace X5 : Hid (NX _ _ _ _) := NX.blw X5.out hb
    replace X7 : Hid (NX _ _ _ _) := NX.blw X7.out hb
    replace X11 : Hid (NX _ _ _ _) := NX.blw X11.out hb
    replace L1 : Hid (LI _ _ _ _) := LI.blw L1.out hb
    replace L2 : Hid (LI _ _ _ _) := LI.blw L2.out hb
    clear hb
    obtain ⟨p0, p1, p2, p3⟩ := get4 X11.out.box
    obtain ⟨q0, q1, q2, q3⟩ := get4 X5.out.box
    go_wp2_with fail
    clear p0 p1 p2 p3 q0 q1 q2 q3
    refine (sameTable_same v11.h v5.h R11.H _ X11.out.at_.h X5.out.at_.h).mono ?_
    rintro e w10 ⟨rfl, hb⟩
    replace HB : Hid (Blw _ _) := Blw.trans HB.out hb
    replace H2 : Hid (BY _ _ _ _) := BY.blw H2.out hb
    replace X5 : Hid (NX _ _ _ _) := NX.blw X5.out hb
    replace X7 : Hid (NX _ _ _ _) := NX.blw X7.out hb
    replace X11 : Hid (NX _ _ _ _) := NX.blw X11.out hb
    replace L1 : Hid (LI _ _ _ _) := LI.blw L1.out hb
    replace L2 : Hid (LI _ _ _ _) := LI.blw L2.out hb
    clear hb
    clear X11
    go_wp2_with fail
    refine (same39 a1 a2 cc1 cc2 m2 g1 g2 _ L1.out L2.out (fun i hi => (HEG.out i hi).symm)).mono ?_
    rintro e w11 ⟨rfl, hb⟩
    replace HB : Hid (Blw _ _) := Blw.trans HB.out hb
    replace H2 : Hid (BY _ _ _ _) := BY.blw H2.out hb
    replace X5 : Hid (NX _ _ _ _) := NX.blw X5.out hb
    replace X7 : Hid (NX _ _ _ _) := NX.blw X7.out hb
    replace L1 : Hid (LI _ _ _ _) := LI.blw L1.out hb
    replace L2 : Hid (LI _ _ _ _) := LI.blw L2.out hb
    clear hb
    clear L1 L2
    clear HEG
    go_wp2_with fail
    go_loopw [17] (fun i wr => ∃ a : Nat, a ≤ 16 ∧ i = .int .i64 a ∧ Blw w11 wr) (fun i _ => 16 - (intOf i).toNat)
    case atStart => exact ⟨0, by omega, rfl, Blw.refl _⟩
    case round =>
      obtain ⟨a, ha, rfl, hb⟩ := hrel
      have HA : Hid (Blw w11 wr) := hb
      clear hb
      by_cases hlt : a < 16
      case neg =>
        obtain rfl : a = 16 := by omega
        have FIN : Hid (Blw w5 wr) := HB.out.trans HA.out
        clear hlt HA HB X5 X7
        go_wp2_with fail
        go_meet
        exact FIN.out
      have hlt' : (a : Int) < 16 := by omega
      obtain ⟨p0, p1, p2, p3⟩ := get4 (X5.out.blw HA.out).box
      go_wp2_with fail
      clear p0 p1 p2 p3
      refine (implWalk_any v5.g R11.G (a : Int) 2 _ _ (X5.out.blw HA.out).at_.g (fun x hx => hx)).mono ?_
      rintro e w12 ⟨p0, y0, r0, rfl, ho, hb⟩
      have W0 : Hid (wtOut R11.G (a : Int) 2 p0 y0 r0) := ho
      replace HA : Hid (Blw w11 w12) := HA.out.trans hb
      clear ho hb
      obtain ⟨q0, q1, q2, q3⟩ := get4 (X7.out.blw HA.out).box
      go_wp2_with fail
      clear q0 q1 q2 q3
      refine (implWalkN_any v7 R9 (a : Int) 2 _ _ (X7.out.blw HA.out).at_ (fun x hx => hx)).mono ?_
      rintro e w13 ⟨p1, cw1, one, rfl, ho, hb⟩
      replace HA : Hid (Blw w11 w13) := HA.out.trans hb
      have W1 : Hid (nwOut R9.G R9.H a 2 p1 cw1 ∧ one = true) := by
        rcases ho with ⟨n, _⟩ | ⟨_, h, e1⟩
        · exact absurd ⟨HS1.out.good, ⟨by omega, by omega⟩, ⟨by omega, by omega⟩⟩ n
        · rw [Int.toNat_natCast] at h; exact ⟨h, e1⟩
      obtain rfl := W1.out.2
      clear hb ho
      obtain ⟨q0, q1, q2, q3⟩ := get4 (X5.out.blw HA.out).box
      go_wp2_with fail
      clear q0 q1 q2 q3
      refine (implWalkN_any v5 R11 (a : Int) 1 _ _ (X5.out.blw HA.out).at_ (fun x hx => hx)).mono ?_
      rintro e w14 ⟨p2, cw2, one, rfl, ho, hb⟩
      replace HA : Hid (Blw w11 w14) := HA.out.trans hb
      have W2 : Hid (nwOut R11.G R11.H a 1 p2 cw2 ∧ one = true) := by
        rcases ho with ⟨n, _⟩ | ⟨_, h, e1⟩
        · exact absurd ⟨HG.out, ⟨by omega, by omega⟩, ⟨by omega, by omega⟩⟩ n
        · rw [Int.toNat_natCast] at h; exact ⟨h, e1⟩
      obtain rfl := W2.out.2
      clear hb ho
      obtain ⟨q0, q1, q2, q3⟩ := get4 (X7.out.blw HA.out).box
      go_wp2_with fail
      clear q0 q1 q2 q3
      refine (implWalkN_any v7 R9 (a : Int) 1 _ _ (X7.out.blw HA.out).at_ (fun x hx => hx)).mono ?_
      rintro e w15 ⟨p3, cw3, one, rfl, ho, hb⟩
      replace HA : Hid (Blw w11 w15) := HA.out.trans hb
      have W3 : Hid (nwOut R9.G R9.H a 1 p3 cw3 ∧ one = true) := by
        rcases ho with ⟨n, _⟩ | ⟨_, h, e1⟩
        · exact absurd ⟨HS1.out.good, ⟨by omega, by omega⟩, ⟨by omega, by omega⟩⟩ n
        · rw [Int.toNat_natCast] at h; exact ⟨h, e1⟩
      obtain rfl := W3.out.2
      clear hb ho
      have HNF : Hid (cw2 = cw3 ∧ (r0 = true → p0 = (x : Int) → cw1 = 2)) := iso_walk HG.out HS1.out hx16 HM.out hlt W0.out W1.out.1 W2.out.1 W3.out.1
      clear W0 W1 W2 W3
      obtain ⟨e23, HN2⟩ := HNF.out
      subst e23
      clear HNF
      have n1 : (cw2 != cw2) = false := by simp
      cases r0
      · clear HN2
        go_wp2
        go_roundw
        case rel => exact ⟨a + 1, by omega, by go_num, HA.out⟩
        case measure => simp [intOf]; omega
      · by_cases hpx : p0 = (x : Int)
        · obtain rfl := HN2 rfl hpx
          have n2 : (p0 == (x : Int)) = true := by simp [hpx]
          clear HN2 hpx
          go_wp2
          go_roundw
          case rel => exact ⟨a + 1, by omega, by go_num, HA.out⟩
          case measure => simp [intOf]; omega
        · have n2 : (p0 == (x : Int)) = false := by simp [hpx]
          clear HN2 hpx
          go_wp2
          go_roundw
          case rel => exact ⟨a + 1, by omega, by go_num, HA.out⟩
          case measure => simp [intOf]; omega
  case rest =>
    have hb := hcut
    clear hcut
    replace HB : Hid (Blw _ _) := Blw.trans HB.out hb
    replace H2 : Hid (BY _ _ _ _) := BY.blw H2.out hb
    replace X5 : Hid (NX _ _ _ _) := NX.blw X5.out hb
    replace X7 : Hid (NX _ _ _ _) := NX.blw X7.out hb
    clear hb
    clear X5 X7
    clear O7 N5
    go_wp2_with fail
    refine (drawIso_any ao2 n2 c2 f2 _ H2.out).mono ?_
    rintro e w6 ⟨va, DA, vb, DB, rfl, hDA, hDB, hata, hatb, hb⟩
    have NA : Hid (NDr DA) := hDA
    have NB : Hid (NDr DB) := hDB
    clear hDA hDB
    have hA1 : Blw w6 (w6.alloc (.cells #[.slice va.g.a1 DA.G.n va.g.c1, .slice va.g.a2 DA.G.D.n va.g.c2, .slice va.h.a1 DA.H.n va.h.c1, .slice va.h.a2 DA.H.D.n va.h.c2] 60)) := (Blw.refl _).alloc _
    have hA2 : Blw (w6.alloc (.cells #[.slice va.g.a1 DA.G.n va.g.c1, .slice va.g.a2 DA.G.D.n va.g.c2, .slice va.h.a1 DA.H.n va.h.c1, .slice va.h.a2 DA.H.D.n va.h.c2] 60)) ((w6.alloc (.cells #[.slice va.g.a1 DA.G.n va.g.c1, .slice va.g.a2 DA.G.D.n va.g.c2, .slice va.h.a1 DA.H.n va.h.c1, .slice va.h.a2 DA.H.D.n va.h.c2] 60)).alloc (.cells #[.slice vb.g.a1 DB.G.n vb.g.c1, .slice vb.g.a2 DB.G.D.n vb.g.c2, .slice vb.h.a1 DB.H.n vb.h.c1, .slice vb.h.a2 DB.H.D.n vb.h.c2] 60)) := (Blw.refl _).alloc _
    have hA := hA1.trans hA2
    replace hb := hb.trans hA
    replace HB : Hid (Blw _ _) := Blw.trans HB.out hb
    replace H2 : Hid (BY _ _ _ _) := BY.blw H2.out hb
    clear hb
    have rb := box4 (w6.alloc (.cells #[.slice va.g.a1 DA.G.n va.g.c1, .slice va.g.a2 DA.G.D.n va.g.c2, .slice va.h.a1 DA.H.n va.h.c1, .slice va.h.a2 DA.H.D.n va.h.c2] 60)) (.slice vb.g.a1 DB.G.n vb.g.c1) (.slice vb.g.a2 DB.G.D.n vb.g.c2) (.slice vb.h.a1 DB.H.n vb.h.c1) (.slice vb.h.a2 DB.H.D.n vb.h.c2) 60
    rw [World.size_alloc] at rb
    have XA : Hid (NX ((w6.alloc (.cells #[.slice va.g.a1 DA.G.n va.g.c1, .slice va.g.a2 DA.G.D.n va.g.c2, .slice va.h.a1 DA.H.n va.h.c1, .slice va.h.a2 DA.H.D.n va.h.c2] 60)).alloc (.cells #[.slice vb.g.a1 DB.G.n vb.g.c1, .slice vb.g.a2 DB.G.D.n vb.g.c2, .slice vb.h.a1 DB.H.n vb.h.c1, .slice vb.h.a2 DB.H.D.n vb.h.c2] 60)) w6.heap.size va DA) := ⟨(hata.blw hA).mono (fun x hx => by simp; omega), (box4 w6 _ _ _ _ 60).blw hA2⟩
    have XB : Hid (NX ((w6.alloc (.cells #[.slice va.g.a1 DA.G.n va.g.c1, .slice va.g.a2 DA.G.D.n va.g.c2, .slice va.h.a1 DA.H.n va.h.c1, .slice va.h.a2 DA.H.D.n va.h.c2] 60)).alloc (.cells #[.slice vb.g.a1 DB.G.n vb.g.c1, .slice vb.g.a2 DB.G.D.n vb.g.c2, .slice vb.h.a1 DB.H.n vb.h.c1, .slice vb.h.a2 DB.H.D.n vb.h.c2] 60)) (w6.heap.size + 1) vb DB) := ⟨(hatb.blw hA).mono (fun x hx => by simp; omega), rb⟩
    clear hA1 hA2 hA rb hata hatb
    go_upto_region 24 with fail
    generalize ((w6.alloc (.cells #[.slice va.g.a1 DA.G.n va.g.c1, .slice va.g.a2 DA.G.D.n va.g.c2, .slice va.h.a1 DA.H.n va.h.c1, .slice va.h.a2 DA.H.D.n va.h.c2] 60)).alloc (.cells #[.slice vb.g.a1 DB.G.n vb.g.c1, .slice vb.g.a2 DB.G.D.n vb.g.c2, .slice vb.h.a1 DB.H.n vb.h.c1, .slice vb.h.a2 DB.H.D.n vb.h.c2] 60)) = w7 at *
    generalize w6.heap.size = za at *
    obtain ⟨p0, p1, p2, p3⟩ := get4 XA.out.box
    obtain ⟨q0, q1, q2, q3⟩ := get4 XB.out.box
    go_wp2_with fail
    clear p0 p1 p2 p3 q0 q1 q2 q3
    refine (implIso_any va vb DA DB _ _ _ XA.out.at_ (fun x hx => hx) XB.out.at_ (fun x hx => hx)).mono ?_
    rintro e w8 ⟨is, one, rfl, ho, hb⟩
    have OI : Hid (isOut DA DB is one) := ho
    clear ho
    replace HB : Hid (Blw _ _) := Blw.trans HB.out hb
    replace H2 : Hid (BY _ _ _ _) := BY.blw H2.out hb
    replace XA : Hid (NX _ _ _ _) := NX.blw XA.out hb
    replace XB : Hid (NX _ _ _ _) := NX.blw XB.out hb
    clear hb
    obtain ⟨p0, p1, p2, p3⟩ := get4 XA.out.box
    obtain ⟨q0, q1, q2, q3⟩ := get4 XB.out.box
    go_wp2_with fail
    clear p0 p1 p2 p3 q0 q1 q2 q3
    refine (specIso_any va vb DA DB _ _ _ NA.out.n.1 NA.out.n.2 XA.out.at_ NB.out.n.1 NB.out.n.2 XB.out.at_).mono ?_
    rintro e w9 ⟨is2, one2, rfl, ho, hb⟩
    obtain ⟨e1, e2⟩ := isOut_same ho OI.out
    subst e1 e2
    clear ho
    have n1 : (is2 != is2) = false := by simp
    have n2 : (one2 != one2) = false := by simp
    replace HB : Hid (Blw _ _) := Blw.trans HB.out hb
    replace H2 : Hid (BY _ _ _ _) := BY.blw H2.out hb
    replace XA : Hid (NX _ _ _ _) := NX.blw XA.out hb
    replace XB : Hid (NX _ _ _ _) := NX.blw XB.out hb
    clear hb
    go_upto_if 222 with fail
    clear n1 n2
    go_cut [36, 37, 38, 39, 40, 41, 42] from 222 to 256 (fun v36 v37 v38 v39 v40 v41 v42 wx => Blw w9 wx)
    case first =>
      cases one2
      · go_wp2_with fail
        go_meet
        exact Blw.refl _
      clear HB
      have HB : Hid (Blw w9 w9) := Blw.refl w9
      have GAB : Hid (DA.Good ∧ DB.Good) := by
        rcases OI.out with ⟨g, _, _⟩ | ⟨_, _, e⟩
        · exact g
        · cases e
      have OIS : Hid (is2 = true ↔ ¬ common DA DB) := by
        rcases OI.out with ⟨_, h, _⟩ | ⟨_, _, e⟩
        · exact h
        · cases e
      obtain ⟨p0, p1, p2, p3⟩ := get4 XA.out.box
      go_wp2_with fail
      clear p0 p1 p2 p3
      refine (implReached_any va DA _ _ XA.out.at_ (fun x hx => hx)).mono ?_
      rintro e w10 ⟨a1, m1, cc1, g1, s1, rfl, ho, hsz, own, hb⟩
      obtain ⟨hl1, rfl⟩ : rbL DA.G DA.H m1 g1 ∧ s1 = true := by rcases ho with ⟨_, h, e⟩ | ⟨n, _, _⟩; exact ⟨h, e⟩; exact absurd GAB.out.1 n
      have LA : Hid (rbL DA.G DA.H m1 g1) := hl1
      replace HB : Hid (Blw _ _) := Blw.trans HB.out hb
      replace H2 : Hid (BY _ _ _ _) := BY.blw H2.out hb
      replace XA : Hid (NX _ _ _ _) := NX.blw XA.out hb
      replace XB : Hid (NX _ _ _ _) := NX.blw XB.out hb
      clear hb
      have L1 : Hid (LI w10 a1 m1 g1) := own.at.mono (fun x hx => hx.2)
      clear own ho hsz hl1
      obtain ⟨p0, p1, p2, p3⟩ := get4 XB.out.box
      go_wp2_with fail
      clear p0 p1 p2 p3
      refine (implReached_any vb DB _ _ XB.out.at_ (fun x hx => hx)).mono ?_
      rintro e w11 ⟨a2, m2, cc2, g2, s2, rfl, ho, hsz, own, hb⟩
      obtain ⟨hl2, rfl⟩ : rbL DB.G DB.H m2 g2 ∧ s2 = true := by rcases ho with ⟨_, h, e⟩ | ⟨n, _, _⟩; exact ⟨h, e⟩; exact absurd GAB.out.2 n
      have LB : Hid (rbL DB.G DB.H m2 g2) := hl2
      replace HB : Hid (Blw _ _) := Blw.trans HB.out hb
      replace H2 : Hid (BY _ _ _ _) := BY.blw H2.out hb
      replace XA : Hid (NX _ _ _ _) := NX.blw XA.out hb
      replace XB : Hid (NX _ _ _ _) := NX.blw XB.out hb
      replace L1 : Hid (LI _ _ _ _) := LI.blw L1.out hb
      clear hb
      have L2 : Hid (LI w11 a2 m2 g2) := own.at.mono (fun x hx => hx.2)
      clear own ho hsz hl2
      have hm1 : m1 ≤ 9223372036854775807 := L1.out.1
      go_wp2_with fail
      go_loopw [40, 235] (fun v i wr => ∃ j : Nat, j ≤ m1 ∧ i = .int .i64 j ∧ (∃ b : Bool, v = .bool b ∧ (b = true ↔ ∃ t, t < j ∧ hasLine m2 g2 (g1 t))) ∧ Blw w11 wr) (fun _ i _ => m1 - (intOf i).toNat)
      case atStart => exact ⟨0, by omega, rfl, ⟨false, rfl, ⟨(fun q => Bool.noConfusion q), fun ⟨t, ht, _⟩ => absurd ht (Nat.not_lt_zero _)⟩⟩, Blw.refl _⟩
      case round =>
        obtain ⟨j, hj, rfl, ⟨b, rfl, hbb⟩, hb⟩ := hrel
        have HBB : Hid (b = true ↔ ∃ t, t < j ∧ hasLine m2 g2 (g1 t)) := hbb
        have HA : Hid (Blw w11 wr) := hb
        clear hb hbb
        by_cases hlt : j < m1
        case neg =>
          obtain rfl : j = m1 := by omega
          have hcm : b = true ↔ common DA DB := HBB.out.trans ⟨fun ⟨t, ht, q⟩ => ⟨g1 t, (LA.out.2 _).1 ⟨t, ht, rfl⟩, (LB.out.2 _).1 q⟩, fun ⟨y, q1, q2⟩ => by
            obtain ⟨t, ht, e⟩ := (LA.out.2 y).2 q1
            exact ⟨t, ht, by rw [e]; exact (LB.out.2 y).2 q2⟩⟩
          have hne : (is2 == b) = false := by
            cases is2 <;> cases b
            · exact absurd (OIS.out.2 (fun q => by have := hcm.2 q; cases this)) (by decide)
            · rfl
            · rfl
            · exact absurd (hcm.1 rfl) (OIS.out.1 rfl)
          have FIN : Hid (Blw w9 wr) := HB.out.trans HA.out
          clear hcm HBB OIS LA LB L1 L2 XA XB HA HB hlt hm1
          go_wp2_with fail
          go_meet
          exact FIN.out
        have hlt' : (j : Int) < (m1 : Int) := by omega
        obtain ⟨bk, o, ea, -, gj⟩ := (L1.out.blw HA.out).2 j hlt
        have g9 := gj
        subst ea
        cases b
        · go_wp2_with fail
          clear gj g9
          refine (has_any a2 cc2 m2 g2 _ _ (g1 j) (IntsAt.blw L2.out HA.out)).mono ?_
          rintro e wr ⟨r, rfl, hr, rfl⟩
          have HN : Hid (∃ b : Bool, Value.bool r = .bool b ∧ (b = true ↔ ∃ t, t < j + 1 ∧ hasLine m2 g2 (g1 t))) := ⟨r, rfl, hr.trans ⟨fun q => ⟨j, by omega, q⟩, fun ⟨t, ht, q⟩ => by
            by_cases e : t = j
            · subst e; exact q
            · have := HBB.out.2 ⟨t, by omega, q⟩; cases this⟩⟩
          clear hr HBB
          go_wp2
          go_roundw
          case rel => exact ⟨j + 1, by omega, by go_num, HN.out, HA.out⟩
          case measure => simp [intOf]; omega
        · have HN : Hid (∃ b : Bool, Value.bool true = .bool b ∧ (b = true ↔ ∃ t, t < j + 1 ∧ hasLine m2 g2 (g1 t))) := ⟨true, rfl, ⟨fun _ => by obtain ⟨t, ht, q⟩ := HBB.out.1 rfl; exact ⟨t, by omega, q⟩, fun _ => rfl⟩⟩
          clear HBB
          go_wp2
          go_roundw
          case rel => exact ⟨j + 1, by omega, by go_num, HN.out, HA.out⟩
          case measure => simp [intOf]; omega
    case rest =>
      have hb := hcut
      clear hcut
      replace HB : Hid (Blw _ _) := Blw.trans HB.out hb
      replace H2 : Hid (BY _ _ _ _) := BY.blw H2.out hb
      replace XA : Hid (NX _ _ _ _) := NX.blw XA.out hb
      replace XB : Hid (NX _ _ _ _) := NX.blw XB.out hb
      clear hb
      clear XA XB
      clear OI NA NB
      go_wp2_with fail
      refine (drawLW_any ao2 n2 c2 f2 _ H2.out).mono ?_
      rintro e wa ⟨v5, D5, a5, rfl, hD, ⟨hat, hb⟩⟩
      have N5 : Hid (NDr D5) := hD
      clear hD
      have hA : Blw wa (wa.alloc (.cells #[.slice v5.g.a1 D5.G.n v5.g.c1, .slice v5.g.a2 D5.G.D.n v5.g.c2, .slice v5.h.a1 D5.H.n v5.h.c1, .slice v5.h.a2 D5.H.D.n v5.h.c2] 60)) := (Blw.refl _).alloc _
      replace hb := hb.trans hA
      replace HB : Hid (Blw _ _) := Blw.trans HB.out hb
      replace H2 : Hid (BY _ _ _ _) := BY.blw H2.out hb
      clear hb
      have X5 : Hid (NX (wa.alloc (.cells #[.slice v5.g.a1 D5.G.n v5.g.c1, .slice v5.g.a2 D5.G.D.n v5.g.c2, .slice v5.h.a1 D5.H.n v5.h.c1, .slice v5.h.a2 D5.H.D.n v5.h.c2] 60)) wa.heap.size v5 D5) := ⟨((hat).blw hA).mono (fun x hx => by simp; omega), box4 wa _ _ _ _ 60⟩
      clear hA
      clear hat
      clear H2
      obtain ⟨p0, p1, p2, p3⟩ := get4 X5.out.box
      go_wp2_with fail
      clear p0 p1 p2 p3
      refine (implLet_any v5 D5 a5 _ _ X5.out.at_ (fun x hx => hx)).mono ?_
      rintro e wb ⟨v7, R7, r7, rfl, ho, hsz, own, hb⟩
      have O7 : Hid (hsOut D5 a5 1 3 R7 r7) := ho
      clear ho hsz
      have hA : Blw wb (wb.alloc (.cells #[.slice v7.g.a1 R7.G.n v7.g.c1, .slice v7.g.a2 R7.G.D.n v7.g.c2, .slice v7.h.a1 R7.H.n v7.h.c1, .slice v7.h.a2 R7.H.D.n v7.h.c2] 60)) := (Blw.refl _).alloc _
      replace hb := hb.trans hA
      replace HB : Hid (Blw _ _) := Blw.trans HB.out hb
      replace X5 : Hid (NX _ _ _ _) := NX.blw X5.out hb
      clear hb
      have X7 : Hid (NX (wb.alloc (.cells #[.slice v7.g.a1 R7.G.n v7.g.c1, .slice v7.g.a2 R7.G.D.n v7.g.c2, .slice v7.h.a1 R7.H.n v7.h.c1, .slice v7.h.a2 R7.H.D.n v7.h.c2] 60)) wb.heap.size v7 R7) := ⟨((own.at).blw hA).mono (fun x hx => by simp; omega), box4 wb _ _ _ _ 60⟩
      clear hA
      clear own
      obtain ⟨p0, p1, p2, p3⟩ := get4 X5.out.box
      go_wp2_with fail
      clear p0 p1 p2 p3
      refine (specLet_any v5 D5 a5 _ _ N5.out.n.1 N5.out.n.2 X5.out.at_).mono ?_
      rintro e we ⟨v9, R9, r9, rfl, ho, hsz, own, hb⟩
      obtain ⟨eR, er⟩ := hsOut_same ho O7.out
      subst eR er
      clear ho hsz
      have hA : Blw we (we.alloc (.cells #[.slice v9.g.a1 R9.G.n v9.g.c1, .slice v9.g.a2 R9.G.D.n v9.g.c2, .slice v9.h.a1 R9.H.n v9.h.c1, .slice v9.h.a2 R9.H.D.n v9.h.c2] 60)) := (Blw.refl _).alloc _
      replace hb := hb.trans hA
      replace HB : Hid (Blw _ _) := Blw.trans HB.out hb
      replace X5 : Hid (NX _ _ _ _) := NX.blw X5.out hb
      replace X7 : Hid (NX _ _ _ _) := NX.blw X7.out hb
      clear hb
      have X9 : Hid (NX (we.alloc (.cells #[.slice v9.g.a1 R9.G.n v9.g.c1, .slice v9.g.a2 R9.G.D.n v9.g.c2, .slice v9.h.a1 R9.H.n v9.h.c1, .slice v9.h.a2 R9.H.D.n v9.h.c2] 60)) we.heap.size v9 R9) := ⟨((own.at).blw hA).mono (fun x hx => by simp; omega), box4 we _ _ _ _ 60⟩
      clear hA
      clear own
      have hne : (r9 == r9) = true := by simp
      clear X5
      obtain ⟨p0, p1, p2, p3⟩ := get4 X7.out.box
      obtain ⟨q0, q1, q2, q3⟩ := get4 X9.out.box
      go_wp2_with fail
      clear p0 p1 p2 p3 q0 q1 q2 q3
      refine (sameTable_same v7.g v9.g R9.G _ X7.out.at_.g X9.out.at_.g).mono ?_
      rintro e wf ⟨rfl, hb⟩
      replace HB : Hid (Blw _ _) := Blw.trans HB.out hb
      replace X7 : Hid (NX _ _ _ _) := NX.blw X7.out hb
      replace X9 : Hid (NX _ _ _ _) := NX.blw X9.out hb
      clear hb
      obtain ⟨p0, p1, p2, p3⟩ := get4 X7.out.box
      obtain ⟨q0, q1, q2, q3⟩ := get4 X9.out.box
      go_wp2_with fail
      clear p0 p1 p2 p3 q0 q1 q2 q3
      refine (sameTable_same v7.h v9.h R9.H _ X7.out.at_.h X9.out.at_.h).mono ?_
      rintro e wg ⟨rfl, hb⟩
      have FIN : Hid (Blw w wg) := HB.out.trans hb
      clear hb X7 X9 HB hne
      go_wp2
      go_ret
      exact ⟨rfl, FIN.out⟩
end Go.Proofs.Ytjplodenflkghaa
