/- FnDeed: its walk. -/
import Derived.Test.YtglllnklcnlcjaaJdraw
namespace Go.Proofs.Ytglllnklcnlcjaa
open Go.RowKit
set_option linter.unusedSimpArgs false
set_option linter.unusedVariables false
set_option maxRecDepth 10000 in
set_option maxHeartbeats 6400000 in
theorem lawDeed (ao1 : Option Addr) (n1 c1 : Nat) (f1 : Nat → Int) (ao2 : Option Addr) (n2 c2 : Nat) (f2 : Nat → Int) (w : World) (h1 : BytesAt (fun b => b < w.heap.size) w ao1 n1 f1) (h2 : BytesAt (fun b => b < w.heap.size) w ao2 n2 f2) :
    Calls Try.prog 3 #[.slice ao1 n1 c1, .slice ao2 n2 c2] w fun e w' => e = .returned (.bool true) ∧ Blw w w' := by
  have H1 : Hid (BY w ao1 n1 f1) := h1
  have H2 : Hid (BY w ao2 n2 f2) := h2
  clear h1 h2
  go_enter Try.func3, Try.ntmps3
  by_cases hd : wrap64 ((n1 : Int) + n2) > 1048576
  · have d1 : decide (wrap64 ((n1 : Int) + n2) > 1048576) = true := by simpa using hd
    clear hd
    go_wp2
    go_ret
    exact ⟨rfl, Blw.refl _⟩
  have d1 : decide (wrap64 ((n1 : Int) + n2) > 1048576) = false := by simpa using hd
  clear hd
  have HB : Hid (Blw w w) := Blw.refl w
  go_wp2_with fail
  clear d1
  refine (drawFail_any ao1 n1 c1 f1 _ H1.out).mono ?_
  intro e w1 hG
  obtain ⟨m5, M5, a6, n6, c6, f6, g6, k7, a8, n8, c8, f8, rfl, own, hu, hs, hb⟩ := hG
  have U6 : Hid (LU w1 a6 n6 f6 g6) := hu
  have I8 : Hid (LI w1 a8 n8 f8) := hs
  clear hu hs
  replace U6 : Hid (LU (w1.alloc (.cells #[.slice m5.a1 M5.n1 m5.c1, .slice m5.a2 M5.n2 m5.c2, .slice m5.a3 M5.n3 m5.c3] 26)) a6 n6 f6 g6) := LU.blw U6.out ((Blw.refl _).alloc _)
  replace I8 : Hid (LI (w1.alloc (.cells #[.slice m5.a1 M5.n1 m5.c1, .slice m5.a2 M5.n2 m5.c2, .slice m5.a3 M5.n3 m5.c3] 26)) a8 n8 f8) := LI.blw I8.out ((Blw.refl _).alloc _)
  have hA : Blw w1 (w1.alloc (.cells #[.slice m5.a1 M5.n1 m5.c1, .slice m5.a2 M5.n2 m5.c2, .slice m5.a3 M5.n3 m5.c3] 26)) := (Blw.refl _).alloc _
  replace hb := hb.trans hA
  replace HB : Hid (Blw _ _) := Blw.trans HB.out hb
  clear hb
  have X5 : Hid (MX (w1.alloc (.cells #[.slice m5.a1 M5.n1 m5.c1, .slice m5.a2 M5.n2 m5.c2, .slice m5.a3 M5.n3 m5.c3] 26)) w1.heap.size m5 M5) := ⟨(own).blw hA |>.mono (fun x hx => by simp; omega), box3 w1 _ _ _ 26⟩
  clear hA
  clear own H1
  obtain ⟨p00, p01, p02⟩ := get3 X5.out.box
  go_wp2_with fail
  clear p00 p01 p02
  refine (implFailDeed_any m5 M5 a6 n6 c6 f6 g6 k7 a8 n8 c8 f8 _ _ _ _ X5.out.at_ U6.out I8.out).mono ?_
  intro e w2 hG
  obtain ⟨m9, F, b10, rfl, ho, own, hb⟩ := hG
  have O9 : Hid (fdOut M5 n6 f6 g6 k7 n8 f8 F b10) := ho
  clear ho
  have hA : Blw w2 (w2.alloc (.cells #[.slice m9.a1 F.n1 m9.c1, .slice m9.a2 F.n2 m9.c2, .slice m9.a3 F.n3 m9.c3] 26)) := (Blw.refl _).alloc _
  replace hb := hb.trans hA
  replace HB : Hid (Blw _ _) := Blw.trans HB.out hb
  replace X5 : Hid (MX _ _ _ _) := MX.blw X5.out hb
  replace U6 : Hid (LU _ _ _ _ _) := LU.blw U6.out hb
  replace I8 : Hid (LI _ _ _ _) := LI.blw I8.out hb
  clear hb
  have X9 : Hid (MX (w2.alloc (.cells #[.slice m9.a1 F.n1 m9.c1, .slice m9.a2 F.n2 m9.c2, .slice m9.a3 F.n3 m9.c3] 26)) w2.heap.size m9 F) := ⟨(own.at).blw hA |>.mono (fun x hx => by simp; omega), box3 w2 _ _ _ 26⟩
  clear hA
  clear own
  obtain ⟨p00, p01, p02⟩ := get3 X5.out.box
  go_wp2_with fail
  clear p00 p01 p02
  refine (specFailDeed_any m5 M5 a6 n6 c6 f6 g6 k7 a8 n8 c8 f8 _ _ _ _ X5.out.at_ (fun x hx => hx) U6.out (fun x hx => hx) I8.out (fun x hx => hx)).mono ?_
  intro e w3 hG
  obtain ⟨m11, F2, b12, rfl, ho, own, hb⟩ := hG
  have O11 : Hid (fdOut M5 n6 f6 g6 k7 n8 f8 F2 b12) := ho
  clear ho
  have hA : Blw w3 (w3.alloc (.cells #[.slice m11.a1 F2.n1 m11.c1, .slice m11.a2 F2.n2 m11.c2, .slice m11.a3 F2.n3 m11.c3] 26)) := (Blw.refl _).alloc _
  replace hb := hb.trans hA
  replace HB : Hid (Blw _ _) := Blw.trans HB.out hb
  replace X5 : Hid (MX _ _ _ _) := MX.blw X5.out hb
  replace U6 : Hid (LU _ _ _ _ _) := LU.blw U6.out hb
  replace I8 : Hid (LI _ _ _ _) := LI.blw I8.out hb
  replace X9 : Hid (MX _ _ _ _) := MX.blw X9.out hb
  clear hb
  have X11 : Hid (MX (w3.alloc (.cells #[.slice m11.a1 F2.n1 m11.c1, .slice m11.a2 F2.n2 m11.c2, .slice m11.a3 F2.n3 m11.c3] 26)) w3.heap.size m11 F2) := ⟨(own).blw hA |>.mono (fun x hx => by simp; omega), box3 w3 _ _ _ 26⟩
  clear hA
  clear own
  obtain ⟨eF, eb⟩ := fdOut_same O11.out O9.out
  subst eF eb
  clear O11
  obtain ⟨p00, p01, p02⟩ := get3 X5.out.box
  go_wp2_with fail
  clear p00 p01 p02
  refine (implDo_any m5 M5 a6 n6 c6 f6 g6 _ _ _ X5.out.at_ U6.out).mono ?_
  intro e w4 hG
  obtain ⟨m13, D, b14, rfl, ho, own, hb⟩ := hG
  have O13 : Hid (ddOut M5 n6 f6 g6 D b14) := ho
  clear ho
  have hA : Blw w4 (w4.alloc (.cells #[.slice m13.a1 D.n1 m13.c1, .slice m13.a2 D.n2 m13.c2, .slice m13.a3 D.n3 m13.c3] 26)) := (Blw.refl _).alloc _
  replace hb := hb.trans hA
  replace HB : Hid (Blw _ _) := Blw.trans HB.out hb
  replace X5 : Hid (MX _ _ _ _) := MX.blw X5.out hb
  replace U6 : Hid (LU _ _ _ _ _) := LU.blw U6.out hb
  replace I8 : Hid (LI _ _ _ _) := LI.blw I8.out hb
  replace X9 : Hid (MX _ _ _ _) := MX.blw X9.out hb
  replace X11 : Hid (MX _ _ _ _) := MX.blw X11.out hb
  clear hb
  have X13 : Hid (MX (w4.alloc (.cells #[.slice m13.a1 D.n1 m13.c1, .slice m13.a2 D.n2 m13.c2, .slice m13.a3 D.n3 m13.c3] 26)) w4.heap.size m13 D) := ⟨(own.at).blw hA |>.mono (fun x hx => by simp; omega), box3 w4 _ _ _ 26⟩
  clear hA
  clear own
  obtain ⟨p00, p01, p02⟩ := get3 X5.out.box
  go_wp2_with fail
  clear p00 p01 p02
  refine (specDo_any m5 M5 a6 n6 c6 f6 g6 _ _ _ X5.out.at_ (fun x hx => hx) U6.out (fun x hx => hx)).mono ?_
  intro e w5 hG
  obtain ⟨m15, D2, b16, rfl, ho, own, hb⟩ := hG
  have O15 : Hid (ddOut M5 n6 f6 g6 D2 b16) := ho
  clear ho
  have hA : Blw w5 (w5.alloc (.cells #[.slice m15.a1 D2.n1 m15.c1, .slice m15.a2 D2.n2 m15.c2, .slice m15.a3 D2.n3 m15.c3] 26)) := (Blw.refl _).alloc _
  replace hb := hb.trans hA
  replace HB : Hid (Blw _ _) := Blw.trans HB.out hb
  replace X5 : Hid (MX _ _ _ _) := MX.blw X5.out hb
  replace U6 : Hid (LU _ _ _ _ _) := LU.blw U6.out hb
  replace I8 : Hid (LI _ _ _ _) := LI.blw I8.out hb
  replace X9 : Hid (MX _ _ _ _) := MX.blw X9.out hb
  replace X11 : Hid (MX _ _ _ _) := MX.blw X11.out hb
  replace X13 : Hid (MX _ _ _ _) := MX.blw X13.out hb
  clear hb
  have X15 : Hid (MX (w5.alloc (.cells #[.slice m15.a1 D2.n1 m15.c1, .slice m15.a2 D2.n2 m15.c2, .slice m15.a3 D2.n3 m15.c3] 26)) w5.heap.size m15 D2) := ⟨(own).blw hA |>.mono (fun x hx => by simp; omega), box3 w5 _ _ _ 26⟩
  clear hA
  clear own
  obtain ⟨eF, eb⟩ := ddOut_same O15.out O13.out
  subst eF eb
  clear O15
  have hn1 : (b12 != b12) = false := by simp
  have hn2 : (b16 != b16) = false := by simp
  obtain ⟨p00, p01, p02⟩ := get3 X9.out.box
  obtain ⟨p10, p11, p12⟩ := get3 X11.out.box
  go_wp2_with fail
  clear p00 p01 p02 p10 p11 p12
  refine (sameMemory_same m9 m11 F2 _ X9.out.at_ X11.out.at_).mono ?_
  intro e w6 hG
  obtain ⟨rfl, hb⟩ := hG
  replace HB : Hid (Blw _ _) := Blw.trans HB.out hb
  replace X5 : Hid (MX _ _ _ _) := MX.blw X5.out hb
  replace U6 : Hid (LU _ _ _ _ _) := LU.blw U6.out hb
  replace I8 : Hid (LI _ _ _ _) := LI.blw I8.out hb
  replace X9 : Hid (MX _ _ _ _) := MX.blw X9.out hb
  replace X11 : Hid (MX _ _ _ _) := MX.blw X11.out hb
  replace X13 : Hid (MX _ _ _ _) := MX.blw X13.out hb
  replace X15 : Hid (MX _ _ _ _) := MX.blw X15.out hb
  clear hb
  clear X11 I8
  obtain ⟨p00, p01, p02⟩ := get3 X13.out.box
  obtain ⟨p10, p11, p12⟩ := get3 X15.out.box
  go_wp2_with fail
  clear p00 p01 p02 p10 p11 p12
  refine (sameMemory_same m13 m15 D2 _ X13.out.at_ X15.out.at_).mono ?_
  intro e w7 hG
  obtain ⟨rfl, hb⟩ := hG
  replace HB : Hid (Blw _ _) := Blw.trans HB.out hb
  replace X5 : Hid (MX _ _ _ _) := MX.blw X5.out hb
  replace U6 : Hid (LU _ _ _ _ _) := LU.blw U6.out hb
  replace X9 : Hid (MX _ _ _ _) := MX.blw X9.out hb
  replace X13 : Hid (MX _ _ _ _) := MX.blw X13.out hb
  replace X15 : Hid (MX _ _ _ _) := MX.blw X15.out hb
  clear hb
  clear X15
  go_wp2_with fail
  refine (implGoodP_any a6 c6 n6 f6 g6 _ _ U6.out).mono ?_
  intro e w8 hG
  obtain ⟨gp1, rfl, hg1, hb⟩ := hG
  replace HB : Hid (Blw _ _) := Blw.trans HB.out hb
  replace X5 : Hid (MX _ _ _ _) := MX.blw X5.out hb
  replace U6 : Hid (LU _ _ _ _ _) := LU.blw U6.out hb
  replace X9 : Hid (MX _ _ _ _) := MX.blw X9.out hb
  replace X13 : Hid (MX _ _ _ _) := MX.blw X13.out hb
  clear hb
  go_wp2_with fail
  refine (specGoodP_any a6 c6 n6 f6 g6 _ _ U6.out).mono ?_
  intro e w9 hG
  obtain ⟨gp2, rfl, hg2, hb⟩ := hG
  replace HB : Hid (Blw _ _) := Blw.trans HB.out hb
  replace X5 : Hid (MX _ _ _ _) := MX.blw X5.out hb
  replace U6 : Hid (LU _ _ _ _ _) := LU.blw U6.out hb
  replace X9 : Hid (MX _ _ _ _) := MX.blw X9.out hb
  replace X13 : Hid (MX _ _ _ _) := MX.blw X13.out hb
  clear hb
  obtain rfl := iff_bool hg1 hg2
  clear hg1 hg2
  have hn3 : (gp1 != gp1) = false := by simp
  obtain ⟨p00, p01, p02⟩ := get3 X5.out.box
  go_wp2_with fail
  clear hn1 hn2 hn3 p00 p01 p02
  have hn3 := BoolsAt.small X5.out.at_.d
  go_loopw [17, 112] (fun v i wr => ∃ (k : Nat) (c : Bool), k ≤ M5.n3 ∧ i = .int .i64 k ∧ v = .bool c ∧ (c = true ↔ ∀ j, j < k → M5.d j = false) ∧ Blw w9 wr) (fun _ i _ => M5.n3 - (intOf i).toNat)
  case atStart => exact ⟨0, true, Nat.zero_le _, rfl, rfl, ⟨fun _ j hj => absurd hj (Nat.not_lt_zero _), fun _ => rfl⟩, Blw.refl _⟩
  case round =>
    obtain ⟨k, c, hk, rfl, rfl, hc, hb⟩ := hrel
    have HC : Hid (c = true ↔ ∀ j, j < k → M5.d j = false) := hc
    clear hc
    by_cases hlt : k < M5.n3
    · have hlt' : (k : Int) < M5.n3 := by omega
      obtain ⟨bb, oo, ea, -, hcell⟩ := (X5.out.at_.d.blw hb).2 k hlt
      have HBk : Hid (Blw w9 wr) := hb
      clear hb
      have HN : Hid ((c && !M5.d k) = true ↔ ∀ j, j < k + 1 → M5.d j = false) := by
        have h0 := HC.out
        refine ⟨fun h j hj => ?_, fun h => ?_⟩
        · rw [Bool.and_eq_true] at h
          by_cases e1 : j = k
          · subst e1; simpa using h.2
          · exact h0.1 h.1 j (by omega)
        · rw [Bool.and_eq_true]
          exact ⟨h0.2 (fun j hj => h j (by omega)), by rw [h k (by omega)]; rfl⟩
      rw [ea]
      have hd : ∃ d, M5.d k = d := ⟨_, rfl⟩
      obtain ⟨d, hd⟩ := hd
      rw [hd] at hcell HN
      clear hd ea
      cases c <;> cases d
      all_goals go_wp2
      all_goals go_roundw
      all_goals first | exact ⟨k + 1, _, by omega, by go_num, rfl, HN.out, HBk.out⟩ | (simp [intOf]; omega)
    · obtain rfl : k = M5.n3 := by omega
      have hlt' : ¬ (M5.n3 : Int) < M5.n3 := by omega
      replace HB : Hid (Blw _ _) := Blw.trans HB.out hb
      replace X5 : Hid (MX _ _ _ _) := MX.blw X5.out hb
      replace U6 : Hid (LU _ _ _ _ _) := LU.blw U6.out hb
      replace X9 : Hid (MX _ _ _ _) := MX.blw X9.out hb
      replace X13 : Hid (MX _ _ _ _) := MX.blw X13.out hb
      clear hb
      clear hk hlt
      go_upto_region 16 with fail
      clear hlt'
      go_cut [125] from 122 to 125 (fun v wx => ∃ ok, v = .bool ok ∧ (ok = true ↔ b12 = true ∧ c = true) ∧ wx = wr)
      case first =>
        cases b12 <;> cases c
        all_goals go_wp2_with fail
        all_goals go_meet
        all_goals exact ⟨_, rfl, by simp, rfl⟩
      obtain ⟨ok, rfl, hok, rfl⟩ := hcut
      have HOK : Hid (ok = true ↔ b12 = true ∧ c = true) := hok
      clear hok
      go_upto_if 125 with fail
      go_cut [] from 20 to 201 (fun wx => Blw wc wx)
      case first =>
        have KB : Hid (Blw wc wc) := Blw.refl _
        cases ok
        · go_wp2_with fail
          go_meet
          exact KB.out
        obtain ⟨rfl, rfl⟩ := HOK.out.1 rfl
        clear HOK
        have CA : Hid (∀ i, i < 12 → M5.d i = false) := by have h3 := fd_n3 O9.out; intro i hi; exact HC.out.1 rfl i (by omega)
        clear HC
        obtain ⟨p00, p01, p02⟩ := get3 X5.out.box
        go_wp2_with fail
        clear p00 p01 p02
        refine (implData_any m5 M5 _ _ X5.out.at_).mono ?_
        intro e w10 hG
        obtain ⟨a20, n20, c20, f20, b21, rfl, ho, own, hb⟩ := hG
        have O20 : Hid (daOut M5 n20 f20 b21) := ho
        clear ho
        replace HB : Hid (Blw _ _) := Blw.trans HB.out hb
        replace X5 : Hid (MX _ _ _ _) := MX.blw X5.out hb
        replace U6 : Hid (LU _ _ _ _ _) := LU.blw U6.out hb
        replace X9 : Hid (MX _ _ _ _) := MX.blw X9.out hb
        replace X13 : Hid (MX _ _ _ _) := MX.blw X13.out hb
        replace KB : Hid (Blw _ _) := Blw.trans KB.out hb
        clear hb
        have I20 : Hid (LI w10 a20 n20 f20) := own.at.mono (fun x hx => hx.2)
        clear own
        obtain ⟨p00, p01, p02⟩ := get3 X13.out.box
        go_wp2_with fail
        clear p00 p01 p02
        refine (implData_any m13 D2 _ _ X13.out.at_).mono ?_
        intro e w11 hG
        obtain ⟨a22, n22, c22, f22, b23, rfl, ho, own, hb⟩ := hG
        have O22 : Hid (daOut D2 n22 f22 b23) := ho
        clear ho
        replace HB : Hid (Blw _ _) := Blw.trans HB.out hb
        replace X5 : Hid (MX _ _ _ _) := MX.blw X5.out hb
        replace U6 : Hid (LU _ _ _ _ _) := LU.blw U6.out hb
        replace X9 : Hid (MX _ _ _ _) := MX.blw X9.out hb
        replace X13 : Hid (MX _ _ _ _) := MX.blw X13.out hb
        replace KB : Hid (Blw _ _) := Blw.trans KB.out hb
        replace I20 : Hid (LI _ _ _ _) := LI.blw I20.out hb
        clear hb
        have I22 : Hid (LI w11 a22 n22 f22) := own.at.mono (fun x hx => hx.2)
        clear own
        obtain ⟨p00, p01, p02⟩ := get3 X9.out.box
        go_wp2_with fail
        clear p00 p01 p02
        refine (implData_any m9 F2 _ _ X9.out.at_).mono ?_
        intro e w12 hG
        obtain ⟨a24, n24, c24, f24, b25, rfl, ho, own, hb⟩ := hG
        have O24 : Hid (daOut F2 n24 f24 b25) := ho
        clear ho
        replace HB : Hid (Blw _ _) := Blw.trans HB.out hb
        replace X5 : Hid (MX _ _ _ _) := MX.blw X5.out hb
        replace U6 : Hid (LU _ _ _ _ _) := LU.blw U6.out hb
        replace X9 : Hid (MX _ _ _ _) := MX.blw X9.out hb
        replace X13 : Hid (MX _ _ _ _) := MX.blw X13.out hb
        replace KB : Hid (Blw _ _) := Blw.trans KB.out hb
        replace I20 : Hid (LI _ _ _ _) := LI.blw I20.out hb
        replace I22 : Hid (LI _ _ _ _) := LI.blw I22.out hb
        clear hb
        have I24 : Hid (LI w12 a24 n24 f24) := own.at.mono (fun x hx => hx.2)
        clear own
        obtain ⟨p00, p01, p02⟩ := get3 X9.out.box
        go_wp2_with fail
        clear p00 p01 p02
        refine (implPending_any m9 F2 _ _ X9.out.at_).mono ?_
        intro e w13 hG
        obtain ⟨x26, b27, rfl, ho, hb⟩ := hG
        have O26 : Hid (pnOut F2 x26 b27) := ho
        clear ho
        replace HB : Hid (Blw _ _) := Blw.trans HB.out hb
        replace X5 : Hid (MX _ _ _ _) := MX.blw X5.out hb
        replace U6 : Hid (LU _ _ _ _ _) := LU.blw U6.out hb
        replace X9 : Hid (MX _ _ _ _) := MX.blw X9.out hb
        replace X13 : Hid (MX _ _ _ _) := MX.blw X13.out hb
        replace KB : Hid (Blw _ _) := Blw.trans KB.out hb
        replace I20 : Hid (LI _ _ _ _) := LI.blw I20.out hb
        replace I22 : Hid (LI _ _ _ _) := LI.blw I22.out hb
        replace I24 : Hid (LI _ _ _ _) := LI.blw I24.out hb
        clear hb
        obtain ⟨⟨e1, e2, e3, e4, e5, e6⟩, ⟨l1, l2, l3⟩, hor⟩ := deed_one O9.out O13.out CA.out O20.out O22.out O24.out O26.out
        subst e1 e2 e3 e4 e5 e6 l1 l2 l3
        by_cases hca : ∀ i, i < 16 → f24 i = f20 i
        · clear hor
          have HQ1 : Hid (∀ i, i < 16 → f24 i = f20 i) := hca
          clear hca
          go_wp2_with fail
          refine (same22 a24 a20 c24 c20 16 f24 f20 _ I24.out I20.out HQ1.out).mono ?_
          intro e w14 hG
          obtain ⟨rfl, hb⟩ := hG
          replace HB : Hid (Blw _ _) := Blw.trans HB.out hb
          replace X5 : Hid (MX _ _ _ _) := MX.blw X5.out hb
          replace U6 : Hid (LU _ _ _ _ _) := LU.blw U6.out hb
          replace X9 : Hid (MX _ _ _ _) := MX.blw X9.out hb
          replace X13 : Hid (MX _ _ _ _) := MX.blw X13.out hb
          replace KB : Hid (Blw _ _) := Blw.trans KB.out hb
          replace I20 : Hid (LI _ _ _ _) := LI.blw I20.out hb
          replace I22 : Hid (LI _ _ _ _) := LI.blw I22.out hb
          replace I24 : Hid (LI _ _ _ _) := LI.blw I24.out hb
          clear hb
          obtain ⟨p00, p01, p02⟩ := get3 X9.out.box
          go_wp2_with fail
          clear p00 p01 p02
          refine (implRecover_any m9 F2 _ _ X9.out.at_).mono ?_
          intro e w16 hG
          obtain ⟨m28, A, b29, rfl, ho, own, hb⟩ := hG
          have O28 : Hid (rdOut F2 A b29) := ho
          clear ho
          have hA : Blw w16 (w16.alloc (.cells #[.slice m28.a1 A.n1 m28.c1, .slice m28.a2 A.n2 m28.c2, .slice m28.a3 A.n3 m28.c3] 26)) := (Blw.refl _).alloc _
          replace hb := hb.trans hA
          replace HB : Hid (Blw _ _) := Blw.trans HB.out hb
          replace X5 : Hid (MX _ _ _ _) := MX.blw X5.out hb
          replace U6 : Hid (LU _ _ _ _ _) := LU.blw U6.out hb
          replace X9 : Hid (MX _ _ _ _) := MX.blw X9.out hb
          replace X13 : Hid (MX _ _ _ _) := MX.blw X13.out hb
          replace KB : Hid (Blw _ _) := Blw.trans KB.out hb
          replace I20 : Hid (LI _ _ _ _) := LI.blw I20.out hb
          replace I22 : Hid (LI _ _ _ _) := LI.blw I22.out hb
          replace I24 : Hid (LI _ _ _ _) := LI.blw I24.out hb
          clear hb
          have X28 : Hid (MX (w16.alloc (.cells #[.slice m28.a1 A.n1 m28.c1, .slice m28.a2 A.n2 m28.c2, .slice m28.a3 A.n3 m28.c3] 26)) w16.heap.size m28 A) := ⟨(own.at).blw hA |>.mono (fun x hx => by simp; omega), box3 w16 _ _ _ 26⟩
          clear hA
          clear own
          obtain ⟨p00, p01, p02⟩ := get3 X28.out.box
          go_wp2_with fail
          clear p00 p01 p02
          refine (implData_any m28 A _ _ X28.out.at_).mono ?_
          intro e w17 hG
          obtain ⟨a30, n30, c30, f30, b31, rfl, ho, own, hb⟩ := hG
          have O30 : Hid (daOut A n30 f30 b31) := ho
          clear ho
          replace HB : Hid (Blw _ _) := Blw.trans HB.out hb
          replace X5 : Hid (MX _ _ _ _) := MX.blw X5.out hb
          replace U6 : Hid (LU _ _ _ _ _) := LU.blw U6.out hb
          replace X9 : Hid (MX _ _ _ _) := MX.blw X9.out hb
          replace X13 : Hid (MX _ _ _ _) := MX.blw X13.out hb
          replace KB : Hid (Blw _ _) := Blw.trans KB.out hb
          replace I20 : Hid (LI _ _ _ _) := LI.blw I20.out hb
          replace I22 : Hid (LI _ _ _ _) := LI.blw I22.out hb
          replace I24 : Hid (LI _ _ _ _) := LI.blw I24.out hb
          replace X28 : Hid (MX _ _ _ _) := MX.blw X28.out hb
          clear hb
          have I30 : Hid (LI w17 a30 n30 f30) := own.at.mono (fun x hx => hx.2)
          clear own
          obtain ⟨e7, e8, l4, heq⟩ := deed_two O9.out O13.out CA.out O20.out O22.out O24.out O26.out O28.out O30.out
          subst e7 e8 l4
          have HQ : Hid (∀ i, i < 16 → f30 i = f24 i) := heq
          clear heq
          go_wp2_with fail
          refine (same22 a30 a24 c30 c24 16 f30 f24 _ I30.out I24.out HQ.out).mono ?_
          intro e w18 hG
          obtain ⟨rfl, hb⟩ := hG
          replace HB : Hid (Blw _ _) := Blw.trans HB.out hb
          replace X5 : Hid (MX _ _ _ _) := MX.blw X5.out hb
          replace U6 : Hid (LU _ _ _ _ _) := LU.blw U6.out hb
          replace X9 : Hid (MX _ _ _ _) := MX.blw X9.out hb
          replace X13 : Hid (MX _ _ _ _) := MX.blw X13.out hb
          replace KB : Hid (Blw _ _) := Blw.trans KB.out hb
          replace I20 : Hid (LI _ _ _ _) := LI.blw I20.out hb
          replace I22 : Hid (LI _ _ _ _) := LI.blw I22.out hb
          replace I24 : Hid (LI _ _ _ _) := LI.blw I24.out hb
          replace X28 : Hid (MX _ _ _ _) := MX.blw X28.out hb
          replace I30 : Hid (LI _ _ _ _) := LI.blw I30.out hb
          clear hb
          go_wp2_with fail
          go_meet
          exact KB.out
        · have hcb : ∀ i, i < 16 → f24 i = f22 i := hor.resolve_left hca
          have HQ2 : Hid (∀ i, i < 16 → f24 i = f22 i) := hcb
          have hno : ∃ i, i < 16 ∧ ¬ f24 i = f20 i := by
            refine Classical.byContradiction fun hn => hca fun i hi => Classical.byContradiction fun hne => hn ⟨i, hi, hne⟩
          obtain ⟨i0, hi0, hne⟩ := hno
          have HNE : Hid (¬ f24 i0 = f20 i0) := hne
          clear hor hca hcb hne
          go_wp2_with fail
          refine (no22 a24 a20 c24 c20 16 f24 f20 _ I24.out I20.out i0 hi0 HNE.out).mono ?_
          intro e w14 hG
          obtain ⟨rfl, hb⟩ := hG
          replace HB : Hid (Blw _ _) := Blw.trans HB.out hb
          replace X5 : Hid (MX _ _ _ _) := MX.blw X5.out hb
          replace U6 : Hid (LU _ _ _ _ _) := LU.blw U6.out hb
          replace X9 : Hid (MX _ _ _ _) := MX.blw X9.out hb
          replace X13 : Hid (MX _ _ _ _) := MX.blw X13.out hb
          replace KB : Hid (Blw _ _) := Blw.trans KB.out hb
          replace I20 : Hid (LI _ _ _ _) := LI.blw I20.out hb
          replace I22 : Hid (LI _ _ _ _) := LI.blw I22.out hb
          replace I24 : Hid (LI _ _ _ _) := LI.blw I24.out hb
          clear hb
          clear HNE hi0
          go_wp2_with fail
          refine (same22 a24 a22 c24 c22 16 f24 f22 _ I24.out I22.out HQ2.out).mono ?_
          intro e w15 hG
          obtain ⟨rfl, hb⟩ := hG
          replace HB : Hid (Blw _ _) := Blw.trans HB.out hb
          replace X5 : Hid (MX _ _ _ _) := MX.blw X5.out hb
          replace U6 : Hid (LU _ _ _ _ _) := LU.blw U6.out hb
          replace X9 : Hid (MX _ _ _ _) := MX.blw X9.out hb
          replace X13 : Hid (MX _ _ _ _) := MX.blw X13.out hb
          replace KB : Hid (Blw _ _) := Blw.trans KB.out hb
          replace I20 : Hid (LI _ _ _ _) := LI.blw I20.out hb
          replace I22 : Hid (LI _ _ _ _) := LI.blw I22.out hb
          replace I24 : Hid (LI _ _ _ _) := LI.blw I24.out hb
          clear hb
          obtain ⟨p00, p01, p02⟩ := get3 X9.out.box
          go_wp2_with fail
          clear p00 p01 p02
          refine (implRecover_any m9 F2 _ _ X9.out.at_).mono ?_
          intro e w16 hG
          obtain ⟨m28, A, b29, rfl, ho, own, hb⟩ := hG
          have O28 : Hid (rdOut F2 A b29) := ho
          clear ho
          have hA : Blw w16 (w16.alloc (.cells #[.slice m28.a1 A.n1 m28.c1, .slice m28.a2 A.n2 m28.c2, .slice m28.a3 A.n3 m28.c3] 26)) := (Blw.refl _).alloc _
          replace hb := hb.trans hA
          replace HB : Hid (Blw _ _) := Blw.trans HB.out hb
          replace X5 : Hid (MX _ _ _ _) := MX.blw X5.out hb
          replace U6 : Hid (LU _ _ _ _ _) := LU.blw U6.out hb
          replace X9 : Hid (MX _ _ _ _) := MX.blw X9.out hb
          replace X13 : Hid (MX _ _ _ _) := MX.blw X13.out hb
          replace KB : Hid (Blw _ _) := Blw.trans KB.out hb
          replace I20 : Hid (LI _ _ _ _) := LI.blw I20.out hb
          replace I22 : Hid (LI _ _ _ _) := LI.blw I22.out hb
          replace I24 : Hid (LI _ _ _ _) := LI.blw I24.out hb
          clear hb
          have X28 : Hid (MX (w16.alloc (.cells #[.slice m28.a1 A.n1 m28.c1, .slice m28.a2 A.n2 m28.c2, .slice m28.a3 A.n3 m28.c3] 26)) w16.heap.size m28 A) := ⟨(own.at).blw hA |>.mono (fun x hx => by simp; omega), box3 w16 _ _ _ 26⟩
          clear hA
          clear own
          obtain ⟨p00, p01, p02⟩ := get3 X28.out.box
          go_wp2_with fail
          clear p00 p01 p02
          refine (implData_any m28 A _ _ X28.out.at_).mono ?_
          intro e w17 hG
          obtain ⟨a30, n30, c30, f30, b31, rfl, ho, own, hb⟩ := hG
          have O30 : Hid (daOut A n30 f30 b31) := ho
          clear ho
          replace HB : Hid (Blw _ _) := Blw.trans HB.out hb
          replace X5 : Hid (MX _ _ _ _) := MX.blw X5.out hb
          replace U6 : Hid (LU _ _ _ _ _) := LU.blw U6.out hb
          replace X9 : Hid (MX _ _ _ _) := MX.blw X9.out hb
          replace X13 : Hid (MX _ _ _ _) := MX.blw X13.out hb
          replace KB : Hid (Blw _ _) := Blw.trans KB.out hb
          replace I20 : Hid (LI _ _ _ _) := LI.blw I20.out hb
          replace I22 : Hid (LI _ _ _ _) := LI.blw I22.out hb
          replace I24 : Hid (LI _ _ _ _) := LI.blw I24.out hb
          replace X28 : Hid (MX _ _ _ _) := MX.blw X28.out hb
          clear hb
          have I30 : Hid (LI w17 a30 n30 f30) := own.at.mono (fun x hx => hx.2)
          clear own
          obtain ⟨e7, e8, l4, heq⟩ := deed_two O9.out O13.out CA.out O20.out O22.out O24.out O26.out O28.out O30.out
          subst e7 e8 l4
          have HQ : Hid (∀ i, i < 16 → f30 i = f24 i) := heq
          clear heq
          go_wp2_with fail
          refine (same22 a30 a24 c30 c24 16 f30 f24 _ I30.out I24.out HQ.out).mono ?_
          intro e w18 hG
          obtain ⟨rfl, hb⟩ := hG
          replace HB : Hid (Blw _ _) := Blw.trans HB.out hb
          replace X5 : Hid (MX _ _ _ _) := MX.blw X5.out hb
          replace U6 : Hid (LU _ _ _ _ _) := LU.blw U6.out hb
          replace X9 : Hid (MX _ _ _ _) := MX.blw X9.out hb
          replace X13 : Hid (MX _ _ _ _) := MX.blw X13.out hb
          replace KB : Hid (Blw _ _) := Blw.trans KB.out hb
          replace I20 : Hid (LI _ _ _ _) := LI.blw I20.out hb
          replace I22 : Hid (LI _ _ _ _) := LI.blw I22.out hb
          replace I24 : Hid (LI _ _ _ _) := LI.blw I24.out hb
          replace X28 : Hid (MX _ _ _ _) := MX.blw X28.out hb
          replace I30 : Hid (LI _ _ _ _) := LI.blw I30.out hb
          clear hb
          go_wp2_with fail
          go_meet
          exact KB.out
      case rest =>
        clear HC X9 O9 HOK
        have hb := hcut
        clear hcut
        replace HB : Hid (Blw _ _) := Blw.trans HB.out hb
        replace X5 : Hid (MX _ _ _ _) := MX.blw X5.out hb
        replace U6 : Hid (LU _ _ _ _ _) := LU.blw U6.out hb
        replace X13 : Hid (MX _ _ _ _) := MX.blw X13.out hb
        clear hb
        go_upto_if 202 with fail
        go_cut [] from 32 to 225 (fun wx => Blw wc wx)
        case first =>
          have KB : Hid (Blw wc wc) := Blw.refl _
          cases b16
          · go_wp2_with fail
            go_meet
            exact KB.out
          obtain ⟨p00, p01, p02⟩ := get3 X13.out.box
          go_wp2_with fail
          clear p00 p01 p02
          refine (implData_any m13 D2 _ _ X13.out.at_).mono ?_
          intro e w19 hG
          obtain ⟨a32, n32, c32, f32, b33, rfl, ho, own, hb⟩ := hG
          have O32 : Hid (daOut D2 n32 f32 b33) := ho
          clear ho
          replace HB : Hid (Blw _ _) := Blw.trans HB.out hb
          replace X5 : Hid (MX _ _ _ _) := MX.blw X5.out hb
          replace U6 : Hid (LU _ _ _ _ _) := LU.blw U6.out hb
          replace X13 : Hid (MX _ _ _ _) := MX.blw X13.out hb
          replace KB : Hid (Blw _ _) := Blw.trans KB.out hb
          clear hb
          have I32 : Hid (LI w19 a32 n32 f32) := own.at.mono (fun x hx => hx.2)
          clear own
          obtain ⟨e1, l1, hw⟩ := words_fact O13.out O32.out
          subst e1 l1
          have HW : Hid (∀ i, i < n6 → (8 ≤ f6 i ∧ f6 i ≤ 23) ∧ f32 (f6 i - 8).toNat = g6 i) := hw
          clear hw
          have hn6 : n6 ≤ 9223372036854775807 := U6.out.1
          go_wp2_with fail
          go_loopw [212] (fun i wx => ∃ k : Nat, k ≤ n6 ∧ i = .int .i64 k ∧ Blw w19 wx) (fun i _ => n6 - (intOf i).toNat)
          case atStart => exact ⟨0, Nat.zero_le _, rfl, Blw.refl _⟩
          case round =>
            obtain ⟨k, hk, rfl, hb⟩ := hrel
            by_cases hlt : k < n6
            · have hlt' : (k : Int) < n6 := by omega
              obtain ⟨⟨h8, h23⟩, hval⟩ := HW.out k hlt
              obtain ⟨q, hq⟩ : ∃ q, q = (f6 k - 8).toNat := ⟨_, rfl⟩
              rw [← hq] at hval
              have hq16 : q < 16 := by omega
              have hidx : IntKind.i64.wrap (f6 k - 8) = (q : Int) := by rw [IntKind.wrap_i64] <;> omega
              have hq1 : (q : Int) < 16 := by omega
              obtain ⟨b, o, ea, -, g0, g1⟩ := (LU.blw U6.out hb).2 k hlt
              obtain ⟨b2, o2, ea2, -, gq⟩ := (LI.blw I32.out hb).2 q hq16
              rw [hval] at gq
              rw [ea, ea2]
              have HBk : Hid (Blw w19 wr) := hb
              have HV : Hid (q = (f6 k - 8).toNat) := hq
              clear hb h8 h23 hq hval ea ea2
              have gq' : (wr.alloc (.cells #[.int .i64 (f6 k), .int .i64 (g6 k)] 43)).cell? ⟨b2, o2 + q, none⟩ = some (.int .i64 (g6 k)) := ((Blw.refl _).alloc _).cell gq
              have hbx := box2 wr (.int .i64 (f6 k)) (.int .i64 (g6 k)) 43
              have Q0 : (wr.alloc (.cells #[.int .i64 (f6 k), .int .i64 (g6 k)] 43)).cell? ⟨wr.heap.size, 0, none⟩ = some (.int .i64 (f6 k)) := (get2 hbx).1
              have Q1 : (wr.alloc (.cells #[.int .i64 (f6 k), .int .i64 (g6 k)] 43)).cell? ⟨wr.heap.size, 1, none⟩ = some (.int .i64 (g6 k)) := (get2 hbx).2
              clear gq hbx
              have hne : (g6 k != g6 k) = false := by simp
              go_wp2_with fail
              clear g0 g1
              replace HBk : Hid (Blw w19 (wr.alloc (.cells #[.int .i64 (f6 k), .int .i64 (g6 k)] 43))) := HBk.out.alloc _
              revert HBk Q0 Q1 gq'
              generalize wr.alloc (.cells #[.int .i64 (f6 k), .int .i64 (g6 k)] 43) = wy
              intro gq' Q0 Q1 HBk
              go_region
              clear Q0 Q1 gq'
              all_goals go_wp2
              all_goals go_roundw
              case rel => exact ⟨k + 1, by omega, by go_num, HBk.out.drew⟩
              case measure => simp [intOf]; omega
            · obtain rfl : k = n6 := by omega
              have hlt' : ¬ (k : Int) < k := by omega
              replace HB : Hid (Blw _ _) := Blw.trans HB.out hb
              replace X5 : Hid (MX _ _ _ _) := MX.blw X5.out hb
              replace U6 : Hid (LU _ _ _ _ _) := LU.blw U6.out hb
              replace X13 : Hid (MX _ _ _ _) := MX.blw X13.out hb
              replace KB : Hid (Blw _ _) := Blw.trans KB.out hb
              replace I32 : Hid (LI _ _ _ _) := LI.blw I32.out hb
              clear hb
              go_wp2_with fail
              go_meet
              exact KB.out
        case rest =>
          clear X5 U6 X13 O13
          have hb := hcut
          clear hcut
          replace HB : Hid (Blw _ _) := Blw.trans HB.out hb
          clear hb
          go_wp2_with fail
          refine (drawData_any ao2 n2 c2 f2 _ (BY.blw H2.out HB.out)).mono ?_
          intro e w20 hG
          obtain ⟨m36, M36, rfl, own, hb⟩ := hG
          have hA : Blw w20 (w20.alloc (.cells #[.slice m36.a1 M36.n1 m36.c1, .slice m36.a2 M36.n2 m36.c2, .slice m36.a3 M36.n3 m36.c3] 26)) := (Blw.refl _).alloc _
          replace hb := hb.trans hA
          replace HB : Hid (Blw _ _) := Blw.trans HB.out hb
          clear hb
          have X36 : Hid (MX (w20.alloc (.cells #[.slice m36.a1 M36.n1 m36.c1, .slice m36.a2 M36.n2 m36.c2, .slice m36.a3 M36.n3 m36.c3] 26)) w20.heap.size m36 M36) := ⟨(own).blw hA |>.mono (fun x hx => by simp; omega), box3 w20 _ _ _ 26⟩
          clear hA
          clear own
          obtain ⟨p00, p01, p02⟩ := get3 X36.out.box
          go_wp2_with fail
          clear p00 p01 p02
          refine (implData_any m36 M36 _ _ X36.out.at_).mono ?_
          intro e w21 hG
          obtain ⟨a37, n37, c37, f37, b38, rfl, ho, own, hb⟩ := hG
          have O37 : Hid (daOut M36 n37 f37 b38) := ho
          clear ho
          replace HB : Hid (Blw _ _) := Blw.trans HB.out hb
          replace X36 : Hid (MX _ _ _ _) := MX.blw X36.out hb
          clear hb
          have I37 : Hid (LI w21 a37 n37 f37) := own.at.mono (fun x hx => hx.2)
          clear own
          obtain ⟨p00, p01, p02⟩ := get3 X36.out.box
          go_wp2_with fail
          clear p00 p01 p02
          refine (specData_any m36 M36 _ _ X36.out.at_ (fun x hx => hx)).mono ?_
          intro e w22 hG
          obtain ⟨a39, n39, c39, f39, b40, rfl, ho, own, hb⟩ := hG
          have O39 : Hid (daOut M36 n39 f39 b40) := ho
          clear ho
          replace HB : Hid (Blw _ _) := Blw.trans HB.out hb
          replace X36 : Hid (MX _ _ _ _) := MX.blw X36.out hb
          replace I37 : Hid (LI _ _ _ _) := LI.blw I37.out hb
          clear hb
          have I39 : Hid (LI w22 a39 n39 f39) := own.at.mono (fun x hx => hx.2)
          clear own
          obtain ⟨⟨el, ev⟩, eb⟩ := daOut_same O37.out O39.out
          subst el eb
          have HQ : Hid (∀ i, i < n37 → f37 i = f39 i) := ev
          clear ev O37 O39
          have he1 : (b38 == b38) = true := by simp
          go_wp2_with fail
          clear he1
          refine (same22 a37 a39 c37 c39 n37 f37 f39 _ I37.out I39.out HQ.out).mono ?_
          intro e w23 hG
          obtain ⟨rfl, hb⟩ := hG
          replace HB : Hid (Blw _ _) := Blw.trans HB.out hb
          replace X36 : Hid (MX _ _ _ _) := MX.blw X36.out hb
          replace I37 : Hid (LI _ _ _ _) := LI.blw I37.out hb
          replace I39 : Hid (LI _ _ _ _) := LI.blw I39.out hb
          clear hb
          go_wp2
          go_ret
          exact ⟨rfl, HB.out⟩
end Go.Proofs.Ytglllnklcnlcjaa
