/- FnRecovered: its walk. -/
import Derived.Test.YtglllnklcnlcjaaJdraw
namespace Go.Proofs.Ytglllnklcnlcjaa
open Go.RowKit
set_option linter.unusedSimpArgs false
set_option linter.unusedVariables false
set_option maxRecDepth 10000 in
set_option maxHeartbeats 6400000 in
theorem lawRecP (ao1 : Option Addr) (n1 c1 : Nat) (f1 : Nat → Int) (ao2 : Option Addr) (n2 c2 : Nat) (f2 : Nat → Int) (w : World) (h1 : BytesAt (fun b => b < w.heap.size) w ao1 n1 f1) (h2 : BytesAt (fun b => b < w.heap.size) w ao2 n2 f2) :
    Calls Try.prog 4 #[.slice ao1 n1 c1, .slice ao2 n2 c2] w fun e w' => e = .returned (.bool true) ∧ Blw w w' := by
  have H1 : Hid (BY w ao1 n1 f1) := h1
  have H2 : Hid (BY w ao2 n2 f2) := h2
  clear h1 h2
  go_enter Try.func4, Try.ntmps4
  by_cases hd : wrap64 ((n1 : Int) + n2) > 1048576
  · have d1 : decide (wrap64 ((n1 : Int) + n2) > 1048576) = true := by simpa using hd
    clear hd
    go_wp2
    go_ret
    exact ⟨rfl, Blw.refl _⟩
  have d1 : decide (wrap64 ((n1 : Int) + n2) > 1048576) = false := by simpa using hd
  clear hd
  have HB : Hid (Blw w w) := Blw.refl w
  go_wp2_with fail
  clear d1
  refine (drawDeedSteps_any ao1 n1 c1 f1 _ H1.out).mono ?_
  intro e w1 hG
  obtain ⟨m5, M5, a6, n6, c6, f6, g6, rfl, own, hu, hb⟩ := hG
  have U6 : Hid (LU w1 a6 n6 f6 g6) := hu.mono (fun x hx => hx.2)
  clear hu
  replace U6 : Hid (LU (w1.alloc (.cells #[.slice m5.a1 M5.n1 m5.c1, .slice m5.a2 M5.n2 m5.c2, .slice m5.a3 M5.n3 m5.c3] 26)) a6 n6 f6 g6) := LU.blw U6.out ((Blw.refl _).alloc _)
  have hA : Blw w1 (w1.alloc (.cells #[.slice m5.a1 M5.n1 m5.c1, .slice m5.a2 M5.n2 m5.c2, .slice m5.a3 M5.n3 m5.c3] 26)) := (Blw.refl _).alloc _
  replace hb := hb.trans hA
  replace HB : Hid (Blw _ _) := Blw.trans HB.out hb
  clear hb
  have X5 : Hid (MX (w1.alloc (.cells #[.slice m5.a1 M5.n1 m5.c1, .slice m5.a2 M5.n2 m5.c2, .slice m5.a3 M5.n3 m5.c3] 26)) w1.heap.size m5 M5) := ⟨(own).blw hA |>.mono (fun x hx => by simp; omega), box3 w1 _ _ _ 26⟩
  clear hA
  clear own H1
  obtain ⟨p00, p01, p02⟩ := get3 X5.out.box
  go_wp2_with fail
  clear p00 p01 p02
  refine (implSteps_any m5 M5 a6 n6 c6 f6 g6 _ _ _ X5.out.at_ U6.out).mono ?_
  intro e w2 hG
  obtain ⟨a7, N7, c7, R7, b8, rfl, ho, own, hb⟩ := hG
  have O7 : Hid (dsOut M5 n6 f6 g6 N7 R7 b8) := ho
  clear ho
  replace HB : Hid (Blw _ _) := Blw.trans HB.out hb
  replace X5 : Hid (MX _ _ _ _) := MX.blw X5.out hb
  replace U6 : Hid (LU _ _ _ _ _) := LU.blw U6.out hb
  clear hb
  obtain ⟨mv7, hm7⟩ := own.at
  have S7 : Hid (LM w2 a7 N7 mv7 R7) := hm7.mono (fun x hx => hx.2)
  clear own hm7
  obtain ⟨p00, p01, p02⟩ := get3 X5.out.box
  go_wp2_with fail
  clear p00 p01 p02
  refine (specSteps_any m5 M5 a6 n6 c6 f6 g6 _ _ _ X5.out.at_ (fun x hx => hx) U6.out (fun x hx => hx)).mono ?_
  intro e w3 hG
  obtain ⟨a9, N9, c9, R9, b10, rfl, ho, own, hb⟩ := hG
  replace HB : Hid (Blw _ _) := Blw.trans HB.out hb
  replace X5 : Hid (MX _ _ _ _) := MX.blw X5.out hb
  replace U6 : Hid (LU _ _ _ _ _) := LU.blw U6.out hb
  replace S7 : Hid (LM _ _ _ _ _) := LM.blw S7.out hb
  clear hb
  obtain ⟨⟨eN, eR⟩, eb⟩ := dsOut_same ho O7.out
  subst eN eb
  obtain ⟨mv9, hm9⟩ := (own.congr eR).at
  have S9 : Hid (LM w3 a9 N9 mv9 R7) := hm9.mono (fun x hx => hx.2)
  clear own hm9 ho eR R9
  have hn := (dsOut_n O7.out).1
  have hne : (b10 != b10) = false := by simp
  have hnn : ((N9 : Int) != (N9 : Int)) = false := by simp
  go_wp2_with fail
  clear hne hnn
  go_loopw [65] (fun i wr => ∃ k : Nat, k ≤ N9 ∧ i = .int .i64 k ∧ Blw w3 wr) (fun i _ => N9 - (intOf i).toNat)
  case atStart => exact ⟨0, Nat.zero_le _, rfl, Blw.refl _⟩
  case round =>
    obtain ⟨k, hk, rfl, hb⟩ := hrel
    by_cases hlt : k < N9
    · have hlt' : (k : Int) < N9 := by omega
      obtain ⟨⟨b1, o1, rfl, -, r10, r11, r12⟩, t1⟩ := (LM.blw S7.out hb).2 k hlt
      obtain ⟨⟨b2, o2, rfl, -, r20, r21, r22⟩, t2⟩ := (LM.blw S9.out hb).2 k hlt
      have P0 : ∀ w', Blw wr w' → w'.cell? ⟨b1, o1 + k * 3, none⟩ = some (.slice (mv7 k).a1 (R7 k).n1 (mv7 k).c1) := fun w' hh => hh.cell r10
      have P1 : ∀ w', Blw wr w' → w'.cell? ⟨b1, o1 + k * 3 + 1, none⟩ = some (.slice (mv7 k).a2 (R7 k).n2 (mv7 k).c2) := fun w' hh => hh.cell r11
      have P2 : ∀ w', Blw wr w' → w'.cell? ⟨b1, o1 + k * 3 + 2, none⟩ = some (.slice (mv7 k).a3 (R7 k).n3 (mv7 k).c3) := fun w' hh => hh.cell r12
      have Q0 : ∀ w', Blw wr w' → w'.cell? ⟨b2, o2 + k * 3, none⟩ = some (.slice (mv9 k).a1 (R7 k).n1 (mv9 k).c1) := fun w' hh => hh.cell r20
      have Q1 : ∀ w', Blw wr w' → w'.cell? ⟨b2, o2 + k * 3 + 1, none⟩ = some (.slice (mv9 k).a2 (R7 k).n2 (mv9 k).c2) := fun w' hh => hh.cell r21
      have Q2 : ∀ w', Blw wr w' → w'.cell? ⟨b2, o2 + k * 3 + 2, none⟩ = some (.slice (mv9 k).a3 (R7 k).n3 (mv9 k).c3) := fun w' hh => hh.cell r22
      have HBk : Hid (Blw w3 wr) := hb
      have T1 : Hid (MemAt _ wr (mv7 k) (R7 k)) := t1
      have T2 : Hid (MemAt _ wr (mv9 k) (R7 k)) := t2
      have HG : Hid (R7 k).Good := all_good O7.out hlt
      clear r10 r11 r12 r20 r21 r22 hb t1 t2
      go_wp2_with fail
      go_region_held3 (fun w' => Blw wr w') ((first | exact (Blw.refl _).drew | assumption | exact Blw.trans (by assumption) (by assumption))) (first
        | (go_at_call 17; refine (sameMemory_same (mv7 k) (mv9 k) (R7 k) _ (T1.out.blw (by assumption)) (T2.out.blw (by assumption))).mono ?_; rintro e wA ⟨rfl, hbA⟩)
        | (go_at_call 29; refine (good29 (mv7 k) (R7 k) _ HG.out (T1.out.blw (by assumption))).mono ?_; rintro e wB ⟨rfl, hbB⟩))
      all_goals clear P0 P1 P2 Q0 Q1 Q2
      all_goals go_wp2
      all_goals go_roundw
      all_goals first | exact ⟨k + 1, by omega, by go_num, HBk.out.trans (by assumption)⟩ | (simp [intOf]; omega)
    · obtain rfl : k = N9 := by omega
      have hlt' : ¬ (k : Int) < k := by omega
      clear S9
      replace HB : Hid (Blw _ _) := Blw.trans HB.out hb
      replace X5 : Hid (MX _ _ _ _) := MX.blw X5.out hb
      replace U6 : Hid (LU _ _ _ _ _) := LU.blw U6.out hb
      replace S7 : Hid (LM _ _ _ _ _) := LM.blw S7.out hb
      clear hb
      go_upto_if 87 with fail
      go_cut [] from 5 to 114 (fun wx => Blw w wx)
      case first =>
        cases b10
        · go_wp2_with fail
          go_meet
          exact HB.out
        · skip
          obtain ⟨p00, p01, p02⟩ := get3 X5.out.box
          go_wp2_with fail
          clear p00 p01 p02
          refine (implDo_any m5 M5 a6 n6 c6 f6 g6 _ _ _ X5.out.at_ U6.out).mono ?_
          intro e w5 hG
          obtain ⟨m12, D, one, rfl, ho, own, hb⟩ := hG
          have O12 : Hid (ddOut M5 n6 f6 g6 D one) := ho
          clear ho
          have hA : Blw w5 (w5.alloc (.cells #[.slice m12.a1 D.n1 m12.c1, .slice m12.a2 D.n2 m12.c2, .slice m12.a3 D.n3 m12.c3] 26)) := (Blw.refl _).alloc _
          replace hb := hb.trans hA
          replace HB : Hid (Blw _ _) := Blw.trans HB.out hb
          replace X5 : Hid (MX _ _ _ _) := MX.blw X5.out hb
          replace U6 : Hid (LU _ _ _ _ _) := LU.blw U6.out hb
          replace S7 : Hid (LM _ _ _ _ _) := LM.blw S7.out hb
          clear hb
          have X12 : Hid (MX (w5.alloc (.cells #[.slice m12.a1 D.n1 m12.c1, .slice m12.a2 D.n2 m12.c2, .slice m12.a3 D.n3 m12.c3] 26)) w5.heap.size m12 D) := ⟨(own.at).blw hA |>.mono (fun x hx => by simp; omega), box3 w5 _ _ _ 26⟩
          clear hA
          clear own
          obtain ⟨eN, gM, e0, e1, rfl⟩ := steps_fact O7.out O12.out
          have hlast : IntKind.i64.wrap ((k : Int) - 1) = ((k - 1 : Nat) : Int) := by rw [IntKind.wrap_i64] <;> omega
          have hk1 : k - 1 < k := by omega
          have hk0 : 0 < k := by omega
          have hk1' : ((k - 1 : Nat) : Int) < k := by omega
          have hk0' : (0 : Int) < k := by omega
          have E0 : Hid (R7 0 = (HS.of M5).md) := e0
          have E1 : Hid (R7 (k - 1) = D) := e1
          have GM : Hid M5.Good := gM
          clear eN O7 O12 e0 e1 gM
          go_upto_region 16 with fail
          obtain ⟨w6, hw6⟩ : ∃ w6, w5.alloc (.cells #[.slice m12.a1 D.n1 m12.c1, .slice m12.a2 D.n2 m12.c2, .slice m12.a3 D.n3 m12.c3] 26) = w6 := ⟨_, rfl⟩
          rw [hw6] at HB X5 X12 S7 U6 ⊢
          clear hw6
          obtain ⟨⟨b1, o1, ea, -, r10, r11, r12⟩, t1⟩ := S7.out.2 0 hk0
          subst ea
          obtain ⟨⟨b2, o2, ea, -, r20, r21, r22⟩, t2⟩ := S7.out.2 (k - 1) hk1
          cases ea
          have T1 : Hid (MemAt _ w6 (mv7 0) (R7 0)) := t1
          have T2 : Hid (MemAt _ w6 (mv7 (k - 1)) (R7 (k - 1))) := t2
          rw [show o1 + 0 * 3 = o1 by omega] at r10 r11 r12
          have P0 : ∀ w', Blw w6 w' → w'.cell? ⟨b1, o1, none⟩ = some (.slice (mv7 0).a1 (R7 0).n1 (mv7 0).c1) := fun w' hh => hh.cell r10
          have P1 : ∀ w', Blw w6 w' → w'.cell? ⟨b1, o1 + 1, none⟩ = some (.slice (mv7 0).a2 (R7 0).n2 (mv7 0).c2) := fun w' hh => hh.cell r11
          have P2 : ∀ w', Blw w6 w' → w'.cell? ⟨b1, o1 + 2, none⟩ = some (.slice (mv7 0).a3 (R7 0).n3 (mv7 0).c3) := fun w' hh => hh.cell r12
          have Q0 : ∀ w', Blw w6 w' → w'.cell? ⟨b1, o1 + (k - 1) * 3, none⟩ = some (.slice (mv7 (k - 1)).a1 (R7 (k - 1)).n1 (mv7 (k - 1)).c1) := fun w' hh => hh.cell r20
          have Q1 : ∀ w', Blw w6 w' → w'.cell? ⟨b1, o1 + (k - 1) * 3 + 1, none⟩ = some (.slice (mv7 (k - 1)).a2 (R7 (k - 1)).n2 (mv7 (k - 1)).c2) := fun w' hh => hh.cell r21
          have Q2 : ∀ w', Blw w6 w' → w'.cell? ⟨b1, o1 + (k - 1) * 3 + 2, none⟩ = some (.slice (mv7 (k - 1)).a3 (R7 (k - 1)).n3 (mv7 (k - 1)).c3) := fun w' hh => hh.cell r22
          obtain ⟨V0, V1, V2⟩ := X5.out.all
          obtain ⟨Z0, Z1, Z2⟩ := X12.out.all
          clear r10 r11 r12 r20 r21 r22 t1 t2
          go_region_held3 (fun w' => Blw w6 w') ((first | exact (Blw.refl _).drew | assumption | exact Blw.trans (by assumption) (by assumption))) (first
            | (go_at_call 17; have hq := hbA; clear hq; refine (same_last (mv7 (k - 1)) m12 (R7 (k - 1)) D _ E1.out (T2.out.blw (by assumption)) (X12.out.at_.blw (by assumption))).mono ?_; rintro e wB ⟨rfl, hbB⟩)
            | (go_at_call 17; refine (same_first (mv7 0) m5 (R7 0) M5 _ GM.out E0.out (T1.out.blw (by assumption)) (X5.out.at_.blw (by assumption))).mono ?_; rintro e wA ⟨rfl, hbA⟩))
          all_goals clear P0 P1 P2 Q0 Q1 Q2 V0 V1 V2 Z0 Z1 Z2
          all_goals go_wp2_with fail
          all_goals go_meet
          all_goals exact HB.out.trans (by assumption)
      case rest =>
        clear HB O7 X5 U6 S7
        have HB : Hid (Blw w wc) := hcut
        clear hcut
        go_wp2_with fail
        refine (drawRecover_any ao2 n2 c2 f2 _ (BY.blw H2.out HB.out)).mono ?_
        intro e w7 hG
        obtain ⟨m14, M14, rfl, own, hb⟩ := hG
        have hA : Blw w7 (w7.alloc (.cells #[.slice m14.a1 M14.n1 m14.c1, .slice m14.a2 M14.n2 m14.c2, .slice m14.a3 M14.n3 m14.c3] 26)) := (Blw.refl _).alloc _
        replace hb := hb.trans hA
        replace HB : Hid (Blw _ _) := Blw.trans HB.out hb
        clear hb
        have X14 : Hid (MX (w7.alloc (.cells #[.slice m14.a1 M14.n1 m14.c1, .slice m14.a2 M14.n2 m14.c2, .slice m14.a3 M14.n3 m14.c3] 26)) w7.heap.size m14 M14) := ⟨(own).blw hA |>.mono (fun x hx => by simp; omega), box3 w7 _ _ _ 26⟩
        clear hA
        clear own
        obtain ⟨p00, p01, p02⟩ := get3 X14.out.box
        go_wp2_with fail
        clear p00 p01 p02
        refine (implRecover_any m14 M14 _ _ X14.out.at_).mono ?_
        intro e w8 hG
        obtain ⟨m15, M15, b16, rfl, ho, own, hb⟩ := hG
        have O15 : Hid (rdOut M14 M15 b16) := ho
        clear ho
        have hA : Blw w8 (w8.alloc (.cells #[.slice m15.a1 M15.n1 m15.c1, .slice m15.a2 M15.n2 m15.c2, .slice m15.a3 M15.n3 m15.c3] 26)) := (Blw.refl _).alloc _
        replace hb := hb.trans hA
        replace HB : Hid (Blw _ _) := Blw.trans HB.out hb
        replace X14 : Hid (MX _ _ _ _) := MX.blw X14.out hb
        clear hb
        have X15 : Hid (MX (w8.alloc (.cells #[.slice m15.a1 M15.n1 m15.c1, .slice m15.a2 M15.n2 m15.c2, .slice m15.a3 M15.n3 m15.c3] 26)) w8.heap.size m15 M15) := ⟨(own.at).blw hA |>.mono (fun x hx => by simp; omega), box3 w8 _ _ _ 26⟩
        clear hA
        clear own
        obtain ⟨p00, p01, p02⟩ := get3 X14.out.box
        go_wp2_with fail
        clear p00 p01 p02
        refine (specRecover_any m14 M14 _ _ X14.out.at_ (fun x hx => hx)).mono ?_
        intro e w9 hG
        obtain ⟨m17, M17, b18, rfl, ho, own, hb⟩ := hG
        have O17 : Hid (rdOut M14 M17 b18) := ho
        clear ho
        have hA : Blw w9 (w9.alloc (.cells #[.slice m17.a1 M17.n1 m17.c1, .slice m17.a2 M17.n2 m17.c2, .slice m17.a3 M17.n3 m17.c3] 26)) := (Blw.refl _).alloc _
        replace hb := hb.trans hA
        replace HB : Hid (Blw _ _) := Blw.trans HB.out hb
        replace X14 : Hid (MX _ _ _ _) := MX.blw X14.out hb
        replace X15 : Hid (MX _ _ _ _) := MX.blw X15.out hb
        clear hb
        have X17 : Hid (MX (w9.alloc (.cells #[.slice m17.a1 M17.n1 m17.c1, .slice m17.a2 M17.n2 m17.c2, .slice m17.a3 M17.n3 m17.c3] 26)) w9.heap.size m17 M17) := ⟨(own).blw hA |>.mono (fun x hx => by simp; omega), box3 w9 _ _ _ 26⟩
        clear hA
        clear own
        obtain ⟨eM, eb⟩ := rdOut_same O17.out O15.out
        subst eM eb
        clear O17
        go_wp2_with fail
        refine (drawPending_any ao2 n2 c2 f2 _ (BY.blw H2.out HB.out)).mono ?_
        intro e w10 hG
        obtain ⟨m19, M19, rfl, own, hb⟩ := hG
        have hA : Blw w10 (w10.alloc (.cells #[.slice m19.a1 M19.n1 m19.c1, .slice m19.a2 M19.n2 m19.c2, .slice m19.a3 M19.n3 m19.c3] 26)) := (Blw.refl _).alloc _
        replace hb := hb.trans hA
        replace HB : Hid (Blw _ _) := Blw.trans HB.out hb
        replace X14 : Hid (MX _ _ _ _) := MX.blw X14.out hb
        replace X15 : Hid (MX _ _ _ _) := MX.blw X15.out hb
        replace X17 : Hid (MX _ _ _ _) := MX.blw X17.out hb
        clear hb
        have X19 : Hid (MX (w10.alloc (.cells #[.slice m19.a1 M19.n1 m19.c1, .slice m19.a2 M19.n2 m19.c2, .slice m19.a3 M19.n3 m19.c3] 26)) w10.heap.size m19 M19) := ⟨(own).blw hA |>.mono (fun x hx => by simp; omega), box3 w10 _ _ _ 26⟩
        clear hA
        clear own
        obtain ⟨p00, p01, p02⟩ := get3 X19.out.box
        go_wp2_with fail
        clear p00 p01 p02
        refine (implPending_any m19 M19 _ _ X19.out.at_).mono ?_
        intro e w11 hG
        obtain ⟨x20, b21, rfl, ho, hb⟩ := hG
        have O20 : Hid (pnOut M19 x20 b21) := ho
        clear ho
        replace HB : Hid (Blw _ _) := Blw.trans HB.out hb
        replace X14 : Hid (MX _ _ _ _) := MX.blw X14.out hb
        replace X15 : Hid (MX _ _ _ _) := MX.blw X15.out hb
        replace X17 : Hid (MX _ _ _ _) := MX.blw X17.out hb
        replace X19 : Hid (MX _ _ _ _) := MX.blw X19.out hb
        clear hb
        obtain ⟨p00, p01, p02⟩ := get3 X19.out.box
        go_wp2_with fail
        clear p00 p01 p02
        refine (specPending_any m19 M19 _ _ X19.out.at_).mono ?_
        intro e w12 hG
        obtain ⟨x22, b23, rfl, ho, hb⟩ := hG
        have O22 : Hid (pnOut M19 x22 b23) := ho
        clear ho
        replace HB : Hid (Blw _ _) := Blw.trans HB.out hb
        replace X14 : Hid (MX _ _ _ _) := MX.blw X14.out hb
        replace X15 : Hid (MX _ _ _ _) := MX.blw X15.out hb
        replace X17 : Hid (MX _ _ _ _) := MX.blw X17.out hb
        replace X19 : Hid (MX _ _ _ _) := MX.blw X19.out hb
        clear hb
        obtain ⟨ex, eb⟩ := pnOut_same O22.out O20.out
        subst ex eb
        clear O20 O22
        have hn1 : (b18 != b18) = false := by simp
        have hn2 : (b23 != b23) = false := by simp
        have hn3 : (x22 != x22) = false := by simp
        obtain ⟨p00, p01, p02⟩ := get3 X15.out.box
        obtain ⟨p10, p11, p12⟩ := get3 X17.out.box
        go_wp2_with fail
        clear p00 p01 p02 p10 p11 p12
        refine (sameMemory_same m15 m17 M17 _ X15.out.at_ X17.out.at_).mono ?_
        intro e w13 hG
        obtain ⟨rfl, hb⟩ := hG
        replace HB : Hid (Blw _ _) := Blw.trans HB.out hb
        replace X14 : Hid (MX _ _ _ _) := MX.blw X14.out hb
        replace X15 : Hid (MX _ _ _ _) := MX.blw X15.out hb
        replace X17 : Hid (MX _ _ _ _) := MX.blw X17.out hb
        replace X19 : Hid (MX _ _ _ _) := MX.blw X19.out hb
        clear hb
        go_upto_if 158 with fail
        clear hn1 hn2 hn3
        cases b18
        · go_wp2
          go_ret
          exact ⟨rfl, HB.out⟩
        · skip
          obtain ⟨p00, p01, p02⟩ := get3 X15.out.box
          go_wp2_with fail
          clear p00 p01 p02
          refine (implFail_any m15 M17 _ (fun _ => False) _ none 0 0 (fun _ => 0) X15.out.at_ ⟨by omega, fun i hi => absurd hi (Nat.not_lt_zero _)⟩).mono ?_
          intro e w14 hG
          obtain ⟨m24, F, b25, rfl, ho, own, hb⟩ := hG
          have O24 : Hid (fwOut M17 0 (fun _ => 0) F b25) := ho
          clear ho
          have hA : Blw w14 (w14.alloc (.cells #[.slice m24.a1 F.n1 m24.c1, .slice m24.a2 F.n2 m24.c2, .slice m24.a3 F.n3 m24.c3] 26)) := (Blw.refl _).alloc _
          replace hb := hb.trans hA
          replace HB : Hid (Blw _ _) := Blw.trans HB.out hb
          replace X14 : Hid (MX _ _ _ _) := MX.blw X14.out hb
          replace X15 : Hid (MX _ _ _ _) := MX.blw X15.out hb
          replace X17 : Hid (MX _ _ _ _) := MX.blw X17.out hb
          replace X19 : Hid (MX _ _ _ _) := MX.blw X19.out hb
          clear hb
          have X24 : Hid (MX (w14.alloc (.cells #[.slice m24.a1 F.n1 m24.c1, .slice m24.a2 F.n2 m24.c2, .slice m24.a3 F.n3 m24.c3] 26)) w14.heap.size m24 F) := ⟨(own.at).blw hA |>.mono (fun x hx => by simp; omega), box3 w14 _ _ _ 26⟩
          clear hA
          clear own
          obtain ⟨p00, p01, p02⟩ := get3 X15.out.box
          go_wp2_with fail
          clear p00 p01 p02
          refine (implPending_any m15 M17 _ _ X15.out.at_).mono ?_
          intro e w15 hG
          obtain ⟨x26, b27, rfl, ho, hb⟩ := hG
          have O26 : Hid (pnOut M17 x26 b27) := ho
          clear ho
          replace HB : Hid (Blw _ _) := Blw.trans HB.out hb
          replace X14 : Hid (MX _ _ _ _) := MX.blw X14.out hb
          replace X15 : Hid (MX _ _ _ _) := MX.blw X15.out hb
          replace X17 : Hid (MX _ _ _ _) := MX.blw X17.out hb
          replace X19 : Hid (MX _ _ _ _) := MX.blw X19.out hb
          replace X24 : Hid (MX _ _ _ _) := MX.blw X24.out hb
          clear hb
          obtain ⟨p00, p01, p02⟩ := get3 X24.out.box
          go_wp2_with fail
          clear p00 p01 p02
          refine (implPending_any m24 F _ _ X24.out.at_).mono ?_
          intro e w16 hG
          obtain ⟨x28, b29, rfl, ho, hb⟩ := hG
          have O28 : Hid (pnOut F x28 b29) := ho
          clear ho
          replace HB : Hid (Blw _ _) := Blw.trans HB.out hb
          replace X14 : Hid (MX _ _ _ _) := MX.blw X14.out hb
          replace X15 : Hid (MX _ _ _ _) := MX.blw X15.out hb
          replace X17 : Hid (MX _ _ _ _) := MX.blw X17.out hb
          replace X19 : Hid (MX _ _ _ _) := MX.blw X19.out hb
          replace X24 : Hid (MX _ _ _ _) := MX.blw X24.out hb
          clear hb
          obtain ⟨gR, e5, e6, e7, e8, e9⟩ := recovered_fact O15.out O24.out O26.out O28.out
          clear O15 O24 O26 O28
          subst e5 e6 e7 e8 e9
          obtain ⟨p00, p01, p02⟩ := get3 X15.out.box
          go_wp2_with fail
          clear p00 p01 p02
          refine (goodI_any m15 M17 _ _ X15.out.at_).mono ?_
          intro e w17 hG
          obtain ⟨gb, rfl, hgb, hb⟩ := hG
          obtain rfl := hgb.2 gR
          replace HB : Hid (Blw _ _) := Blw.trans HB.out hb
          replace X14 : Hid (MX _ _ _ _) := MX.blw X14.out hb
          replace X15 : Hid (MX _ _ _ _) := MX.blw X15.out hb
          replace X17 : Hid (MX _ _ _ _) := MX.blw X17.out hb
          replace X19 : Hid (MX _ _ _ _) := MX.blw X19.out hb
          replace X24 : Hid (MX _ _ _ _) := MX.blw X24.out hb
          clear hb
          go_wp2
          go_ret
          exact ⟨rfl, HB.out⟩
end Go.Proofs.Ytglllnklcnlcjaa
