/- The model's PlayPlain. -/
import Derived.Test.YtkadjebncjcclaaGsT
import Derived.Deep.RegionHeld3
namespace Go.Proofs.Ytkadjebncjcclaa
open Go.RowKit
set_option linter.unusedSimpArgs false
set_option linter.unusedVariables false
set_option maxRecDepth 10000 in
set_option maxHeartbeats 12800000 in
theorem specPP_any (k0 : Int) (ao : Option Addr) (n c : Nat) (F : Nat → Nat → Int) (w : World) (hn : n ≤ 1048576) (hl : KAt 4 (fun x => x < w.heap.size) w ao n F) :
    Calls Try.prog 16 #[.int .i64 k0, .slice ao n c] w (GivesI (ppO k0 n F) w) := by
  go_enter Try.func16, Try.ntmps16
  have HL : Hid (KAt 4 (fun x => x < w.heap.size) w ao n F) := hl
  clear hl
  go_wp2_with fail
  refine (specNew_any k0 w).mono ?_
  rintro e w1 ⟨bq, Rq, r, rfl, ho, hs, own, hb1⟩
  have HO : Hid (resT (cntOK k0) (newB k0) Rq r) := ho
  have hA : Blw w1 (w1.alloc (.cells #[.slice bq.a1 Rq.n bq.c1, .slice bq.a2 Rq.D.n bq.c2] 29)) := (Blw.refl _).alloc _
  have HG0 : Hid (GS w (w1.alloc (.cells #[.slice bq.a1 Rq.n bq.c1, .slice bq.a2 Rq.D.n bq.c2] 29)) w1.heap.size bq Rq (.slice none 0 0) 0 (fun _ => 0)) := ⟨⟨box2 w1 _ _ 29, (own.at.blw hA).mono (fun x hx => ⟨by simp [Value.ownBlock], by simp; omega, by omega⟩)⟩, Buf.nil _ _ _ _ _, hb1.trans hA, hb1.size, by omega⟩
  have HB : Hid (Blw w (w1.alloc (.cells #[.slice bq.a1 Rq.n bq.c1, .slice bq.a2 Rq.D.n bq.c2] 29))) := hb1.trans hA
  clear ho hs own hb1 hA
  cases r
  · have HN : Hid (¬ (cntOK k0 ∧ n ≤ 60)) := HO.out.elim (fun g => by cases g.2.2) (fun g q => g.1 q.1)
    have FIN : Hid _ := zero_givesI (out := ppO k0 n F) (w := w) (w1 := w1.alloc (.cells #[.slice bq.a1 Rq.n bq.c1, .slice bq.a2 Rq.D.n bq.c2] 29)) (Or.inr ⟨HN.out, rfl, rfl⟩) HB.out
    clear HO HB HL HN HG0
    go_wp2
    exact bodyPost_ret (v := .tuple #[.slice none 0 0, .bool false]) (by simp [results, Try.results16, go_sem]) rfl FIN.out
  by_cases hle : n ≤ 60
  case neg =>
    have hle' : (n : Int) > 60 := by omega
    have HN : Hid (¬ (cntOK k0 ∧ n ≤ 60)) := fun q => hle q.2
    have FIN : Hid _ := zero_givesI (out := ppO k0 n F) (w := w) (w1 := w1.alloc (.cells #[.slice bq.a1 Rq.n bq.c1, .slice bq.a2 Rq.D.n bq.c2] 29)) (Or.inr ⟨HN.out, rfl, rfl⟩) HB.out
    clear HO HB HL HN HG0
    go_wp2
    exact bodyPost_ret (v := .tuple #[.slice none 0 0, .bool false]) (by simp [results, Try.results16, go_sem]) rfl FIN.out
  have hle' : ¬ (n : Int) > 60 := by omega
  have HY : Hid (cntOK k0 ∧ n ≤ 60) := HO.out.elim (fun g => ⟨g.1, hle⟩) (fun g => by cases g.2.2)
  have HG : Hid (GS w (w1.alloc (.cells #[.slice bq.a1 Rq.n bq.c1, .slice bq.a2 Rq.D.n bq.c2] 29)) w1.heap.size bq (newB k0) (.slice none 0 0) 0 (fun _ => 0)) := HO.out.elim (fun g => by rw [← g.2.1]; exact HG0.out) (fun g => by cases g.2.2)
  clear HO HG0 HB
  go_wp2_with fail
  clear hle'
  generalize w1.alloc (.cells #[.slice bq.a1 Rq.n bq.c1, .slice bq.a2 Rq.D.n bq.c2] 29) = W at *
  generalize w1.heap.size = zt at *
  go_loopw [8, 31] (fun v i wr => ∃ j : Nat, j ≤ n ∧ i = .int .i64 j ∧ ∃ Bs A b, Plays (newB k0) F j Bs A ∧ GS w wr zt b (Bs j) v j A) (fun _ i _ => n - (intOf i).toNat)
  case atStart => exact ⟨0, Nat.zero_le _, rfl, fun _ => newB k0, fun _ => 0, bq, ⟨rfl, fun i hi => absurd hi (Nat.not_lt_zero _)⟩, HG.out⟩
  case round =>
    clear HG
    obtain ⟨j, hj, rfl, Bs, A, b, hP, hG⟩ := hrel
    generalize u8 = v at *
    have HP : Hid (Plays (newB k0) F j Bs A) := hP
    have HG : Hid (GS w wr zt b (Bs j) v j A) := hG
    clear hP hG
    by_cases hlt : j < n
    · have hlt' : (j : Int) < (n : Int) := by omega
      have HNX : Hid (∀ (R : BD) (x : Int), PSF (Bs j) (F j 0) (F j 1) (F j 2) (F j 3) R x → Plays (newB k0) F (j + 1) (fun i => if i = j + 1 then R else Bs i) (fun i => if i = j then x else A i)) := fun R x h1 => HP.out.next h1
      obtain ⟨bl, o, rfl, -, g⟩ := (HL.out.blw HG.out.blw).2 j hlt
      have g0 := g 0 (by omega)
      have g1 := g 1 (by omega)
      have g2 := g 2 (by omega)
      have g3 := g 3 (by omega)
      rw [Nat.add_zero] at g0
      clear g HP
      generalize F j 0 = x0 at *
      generalize F j 1 = x1 at *
      generalize F j 2 = x2 at *
      generalize F j 3 = x3 at *
      have hA2 : Blw wr (wr.alloc (.cells #[.int .i64 x0, .int .i64 x1, .int .i64 x2, .int .i64 x3] 42)) := (Blw.refl _).alloc _
      replace HG : Hid (GS w (wr.alloc (.cells #[.int .i64 x0, .int .i64 x1, .int .i64 x2, .int .i64 x3] 42)) zt b (Bs j) v j A) := HG.out.go hA2
      have HS : Hid (Row (wr.alloc (.cells #[.int .i64 x0, .int .i64 x1, .int .i64 x2, .int .i64 x3] 42)) wr.heap.size 4 (fun i => if i = 0 then .int .i64 x0 else if i = 1 then .int .i64 x1 else if i = 2 then .int .i64 x2 else .int .i64 x3)) := box4 wr _ _ _ _ 42
      clear hA2
      have HE : Hid (∃ B, Bs j = B) := ⟨_, rfl⟩
      obtain ⟨s0, s1, s2, s3⟩ := get4 HS.out
      go_wp2_with fail
      clear g0 g1 g2 g3 s0 s1 s2 s3
      generalize wr.alloc (.cells #[.int .i64 x0, .int .i64 x1, .int .i64 x2, .int .i64 x3] 42) = wp at *
      generalize wr.heap.size = zs at *
      obtain ⟨B, hB⟩ := HE.out
      rw [hB] at HG HNX
      clear hB HE
      refine (l7Right_any x0 x1 x2 x3 _).mono ?_
      rintro e w2 ⟨r, rfl, hr, hb2⟩
      have HR : Hid (r = true ↔ rightS x0 x1 x2 x3) := hr
      replace HG : Hid (GS w w2 zt b B v j A) := HG.out.go hb2
      replace HS : Hid (Row w2 zs 4 (fun i => if i = 0 then .int .i64 x0 else if i = 1 then .int .i64 x1 else if i = 2 then .int .i64 x2 else .int .i64 x3)) := HS.out.blw hb2
      clear hr hb2
      cases r
      · have HNR : Hid (¬ rightS x0 x1 x2 x3) := fun q => by have := HR.out.2 q; simp at this
        clear HR
        obtain ⟨ao2, cap2, w5, hrun, hG2⟩ := GS.push HG.out (by omega) (-1)
        have HRN : Hid _ := hrun
        have HN : Hid (∃ Bs A b, Plays (newB k0) F (j + 1) Bs A ∧ GS w w5 zt b (Bs (j + 1)) (.slice ao2 (j + 1) cap2) (j + 1) A) := ⟨_, _, b, HNX.out B (-1) (Or.inl ⟨HNR.out, rfl, rfl⟩), by show GS w w5 zt b (if j + 1 = j + 1 then B else Bs (j + 1)) _ _ _; rw [if_pos rfl]; exact hG2⟩
        clear hrun hG2 HG HS HNX HNR HL
        go_wp2_with (first | (at_builtin; refine wpList_app (.tmp 64) (.tmp 66) 26 (by rfl) ?_; refine ⟨_, _, HRN.out, ?_⟩) | fail)
        go_roundw
        case rel => exact ⟨j + 1, by omega, by go_num, HN.out⟩
        case measure => simp [intOf]; omega
      have HYR : Hid (rightS x0 x1 x2 x3) := HR.out.1 (by first | rfl | trivial)
      clear HR
      obtain ⟨s0, s1, s2, s3⟩ := get4 HS.out
      by_cases k1 : x0 = 1
      · subst k1
        obtain ⟨t0, t1⟩ := get2 HG.out.tab.box
        go_wp2_with fail
        clear s0 s1 s2 s3 t0 t1
        refine (specWalk_any b B x1 x3 _ _ HG.out.sm HG.out.tab.at_).mono ?_
        rintro e wn ⟨x, yy, r, rfl, ho, hbk⟩
        have HO : Hid (wtOut B x1 x3 x yy r) := ho
        replace HG : Hid (GS w wn zt b B v j A) := HG.out.go hbk
        clear ho hbk HS HL
        cases r
        · obtain ⟨ao2, cap2, w5, hrun, hG2⟩ := GS.push HG.out (by omega) 0
          have HRN : Hid _ := hrun
          have HN : Hid (∃ Bs A b, Plays (newB k0) F (j + 1) Bs A ∧ GS w w5 zt b (Bs (j + 1)) (.slice ao2 (j + 1) cap2) (j + 1) A) := ⟨_, _, b, HNX.out B 0 (Or.inr ⟨HYR.out, Or.inl ⟨rfl, rfl, x, yy, false, HO.out, by simp⟩⟩), by show GS w w5 zt b (if j + 1 = j + 1 then B else Bs (j + 1)) _ _ _; rw [if_pos rfl]; exact hG2⟩
          clear hrun hG2 HG HNX HYR HO
          go_wp2_with (first | (at_builtin; refine wpList_app (.tmp 64) (.tmp 66) 26 (by rfl) ?_; refine ⟨_, _, HRN.out, ?_⟩) | fail)
          go_roundw
          case rel => exact ⟨j + 1, by omega, by go_num, HN.out⟩
          case measure => simp [intOf]; omega
        · have hx := wt_page HO.out
          have hw : IntKind.i64.wrap (1 + x) = 1 + x := by rw [IntKind.wrap_i64]; omega
          obtain ⟨ao2, cap2, w5, hrun, hG2⟩ := GS.push HG.out (by omega) (1 + x)
          have HRN : Hid _ := hrun
          have HN : Hid (∃ Bs A b, Plays (newB k0) F (j + 1) Bs A ∧ GS w w5 zt b (Bs (j + 1)) (.slice ao2 (j + 1) cap2) (j + 1) A) := ⟨_, _, b, HNX.out B (1 + x) (Or.inr ⟨HYR.out, Or.inl ⟨rfl, rfl, x, yy, true, HO.out, by simp⟩⟩), by show GS w w5 zt b (if j + 1 = j + 1 then B else Bs (j + 1)) _ _ _; rw [if_pos rfl]; exact hG2⟩
          clear hrun hG2 HG HNX HYR HO
          go_wp2_with (first | (at_builtin; refine wpList_app (.tmp 64) (.tmp 66) 26 (by rfl) ?_; refine ⟨_, _, HRN.out, ?_⟩) | fail)
          go_roundw
          case rel => exact ⟨j + 1, by omega, by go_num, HN.out⟩
          case measure => simp [intOf]; omega
      · have d1 : (x0 == 1) = false := by simp [k1]
        have HK1 : Hid (¬ x0 = 1) := k1
        have HK : Hid (x0 = 2 ∨ x0 = 3 ∨ x0 = 4) := right_k HYR.out k1
        clear k1
        obtain ⟨t0, t1⟩ := get2 HG.out.tab.box
        go_wp2_with fail
        clear s0 s1 s2 s3 d1 t0 t1
        refine (specChg_any b B x0 x1 x2 x3 _ _ HG.out.sm HK.out HG.out.tab.at_).mono ?_
        rintro e wn ⟨b3, R, r3, rfl, ho3, hs3, own3, hbk⟩
        have HO : Hid (chgO B x0 x1 x2 x3 R r3) := ho3
        have HSM : Hid (R.n ≤ 1048576) := by show _ ≤ _; omega
        have hA3 : Blw wn (wn.alloc (.cells #[.slice b3.a1 R.n b3.c1, .slice b3.a2 R.D.n b3.c2] 29)) := (Blw.refl _).alloc _
        have HOW : Hid (BookAt (fun x => x ≠ zt ∧ (¬ v.ownBlock = some x) ∧ x < (wn.alloc (.cells #[.slice b3.a1 R.n b3.c1, .slice b3.a2 R.D.n b3.c2] 29)).heap.size) (wn.alloc (.cells #[.slice b3.a1 R.n b3.c1, .slice b3.a2 R.D.n b3.c2] 29)) b3 R) := (own3.at.blw hA3).mono (fun x hx => ⟨by have := HG.out.tab.box.lt; omega, fun e => by have := (HG.out.buf.2 x e).2.1; omega, by rw [World.size_alloc]; omega⟩)
        replace HG : Hid (GS w (wn.alloc (.cells #[.slice b3.a1 R.n b3.c1, .slice b3.a2 R.D.n b3.c2] 29)) zt b B v j A) := (HG.out.go hbk).go hA3
        have HZ : Hid (Row (wn.alloc (.cells #[.slice b3.a1 R.n b3.c1, .slice b3.a2 R.D.n b3.c2] 29)) wn.heap.size 2 (fun i => if i = 0 then .slice b3.a1 R.n b3.c1 else .slice b3.a2 R.D.n b3.c2)) := box2 wn _ _ 29
        clear ho3 hs3 own3 hbk hA3 HS HL
        go_upto_region 11 with fail
        generalize wn.alloc (.cells #[.slice b3.a1 R.n b3.c1, .slice b3.a2 R.D.n b3.c2] 29) = wq at *
        generalize wn.heap.size = zb at *
        cases r3
        · obtain ⟨ao2, cap2, w5, hrun, hG2⟩ := GS.push HG.out (by omega) 0
          have HRN : Hid _ := hrun
          have HN : Hid (∃ Bs A b, Plays (newB k0) F (j + 1) Bs A ∧ GS w w5 zt b (Bs (j + 1)) (.slice ao2 (j + 1) cap2) (j + 1) A) := ⟨_, _, b, HNX.out B 0 (Or.inr ⟨HYR.out, Or.inr ⟨HK1.out, false, ⟨R, HO.out, Or.inr ⟨rfl, rfl⟩⟩, by simp⟩⟩), by show GS w w5 zt b (if j + 1 = j + 1 then B else Bs (j + 1)) _ _ _; rw [if_pos rfl]; exact hG2⟩
          clear hrun hG2 HG HNX HYR HO HOW HSM HZ HK HK1
          go_wp2_with (first | (at_builtin; refine wpList_app (.tmp 64) (.tmp 66) 26 (by rfl) ?_; refine ⟨_, _, HRN.out, ?_⟩) | fail)
          go_roundw
          case rel => exact ⟨j + 1, by omega, by go_num, HN.out⟩
          case measure => simp [intOf]; omega
        · obtain ⟨q0, q1⟩ := get2 HZ.out
          obtain ⟨t0, t1⟩ := get2 HG.out.tab.box
          have f0 := HG.out.tab.box.frozen 0
          have f1 := HG.out.tab.box.frozen 1
          have HG3 : Hid (GS w ((wq.setCell ⟨zt, 0, none⟩ (.slice b3.a1 R.n b3.c1)).setCell ⟨zt, 1, none⟩ (.slice b3.a2 R.D.n b3.c2)) zt b3 R v j A) := HG.out.upd HOW.out (fun x hx => hx) HSM.out
          go_upto_region 20 with fail
          clear q0 q1 t0 t1 f0 f1
          generalize ((wq.setCell ⟨zt, 0, none⟩ (.slice b3.a1 R.n b3.c1)).setCell ⟨zt, 1, none⟩ (.slice b3.a2 R.D.n b3.c2)) = wq2 at *
          obtain ⟨ao2, cap2, w5, hrun, hG2⟩ := GS.push HG3.out (by omega) 1
          have HRN : Hid _ := hrun
          have HN : Hid (∃ Bs A b, Plays (newB k0) F (j + 1) Bs A ∧ GS w w5 zt b (Bs (j + 1)) (.slice ao2 (j + 1) cap2) (j + 1) A) := ⟨_, _, b3, HNX.out R 1 (Or.inr ⟨HYR.out, Or.inr ⟨HK1.out, true, ⟨R, HO.out, Or.inl ⟨rfl, rfl⟩⟩, by simp⟩⟩), by show GS w w5 zt b3 (if j + 1 = j + 1 then R else Bs (j + 1)) _ _ _; rw [if_pos rfl]; exact hG2⟩
          clear hrun hG2 HG HG3 HNX HYR HO HOW HSM HZ HK HK1
          go_wp2_with (first | (at_builtin; refine wpList_app (.tmp 64) (.tmp 66) 26 (by rfl) ?_; refine ⟨_, _, HRN.out, ?_⟩) | fail)
          go_roundw
          case rel => exact ⟨j + 1, by omega, by go_num, HN.out⟩
          case measure => simp [intOf]; omega
    · obtain rfl : j = n := by omega
      obtain ⟨ao3, cap3, hv, hown⟩ := HG.out.own (by omega)
      have FIN : Hid (GivesI (ppO k0 j F) w (.returned (.tuple #[.slice ao3 j cap3, .bool true])) wr) := ⟨ao3, j, cap3, A, true, rfl, Or.inl ⟨HY.out, rfl, rfl, Bs, A, HP.out, fun i hi => rfl⟩, hn, hown, HG.out.blw⟩
      subst hv
      clear hown HG HP HL HY
      go_wp2
      exact bodyPost_ret (v := .tuple #[.slice ao3 j cap3, .bool true]) (by simp [results, Try.results16, go_sem]) rfl FIN.out
end Go.Proofs.Ytkadjebncjcclaa
