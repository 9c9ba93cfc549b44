/- FnWheel: the walk. -/
import Derived.Test.YtkmkidahaagbpaaJD
namespace Go.Proofs.Ytkmkidahaagbpaa
open Go.RowKit
set_option linter.unusedSimpArgs false
set_option linter.unusedVariables false
/-- What TimersOf answers of a wheel that ran. -/
theorem ran_timers {D : WD} {t : Int} (hp : RunP D t) {l : List Tm} {b : Bool} (h : timersOut (wd8 (D.now + t) (runR D.now (rows16 D) t.toNat)) l b) (L : List Tm) (hL : L = srt (allR (rows16 D))) :
    b = true ∧ l = L.filter (fun x => !upTo (D.now + t) x) ∧ GoodD (wd8 (D.now + t) (runR D.now (rows16 D) t.toNat)) ∧ runI D.now (rows16 D) t.toNat = (L.filter (upTo (D.now + t))).map Prod.fst := by
  obtain ⟨g1, g2, g3⟩ := hp.1.g.run t.toNat
  have e : D.now + (t.toNat : Int) = D.now + t := by have := hp.2.1; omega
  rw [e] at g1 g2 g3
  have hg := g1.wd (by have := hp.1.now; have := hp.2.1; omega) hp.2.2.2
  rcases h with ⟨_, h2, h3⟩ | ⟨h1, _, _⟩
  · refine ⟨h3, ?_, hg, ?_⟩
    · rw [h2, hL, srt_filter]
      refine srt_perm ?_
      rw [show allR (rows16 (wd8 (D.now + t) (runR D.now (rows16 D) t.toNat))) = allR (runR D.now (rows16 D) t.toNat) by
        unfold allR
        simp only [List.flatMap_def]
        rw [List.map_congr_left (fun k hk => rows16_wd8 _ _ (List.mem_range.1 hk))]]
      exact g2
    · rw [g3, hL, srt_filter]
  · exact absurd hg h1
set_option maxRecDepth 10000 in
set_option maxHeartbeats 12800000 in
theorem lawWheelD (ao1 : Option Addr) (n1 c1 : Nat) (f1 : Nat → Int) (ao2 : Option Addr) (n2 c2 : Nat) (f2 : Nat → Int) (w : World) (h1 : BytesAt (fun b => b < w.heap.size) w ao1 n1 f1) (h2 : BytesAt (fun b => b < w.heap.size) w ao2 n2 f2) :
    Calls Try.prog 3 #[.slice ao1 n1 c1, .slice ao2 n2 c2] w fun e w' => e = .returned (.bool true) ∧ Blw w w' := by
  have H1 : Hid (BY w ao1 n1 f1) := h1
  have H2 : Hid (BY w ao2 n2 f2) := h2
  clear h1 h2
  go_enter Try.func3, Try.ntmps3
  by_cases hd : wrap64 ((n1 : Int) + n2) > 1048576
  · have d1 : decide (wrap64 ((n1 : Int) + n2) > 1048576) = true := by simpa using hd
    clear hd
    go_wp2
    go_ret
    exact ⟨rfl, Blw.refl _⟩
  have d1 : decide (wrap64 ((n1 : Int) + n2) > 1048576) = false := by simpa using hd
  clear hd
  have HB : Hid (Blw w w) := Blw.refl w
  have H2W : Hid (BY w ao2 n2 f2) := H2.out
  go_wp2_with fail
  clear d1
  refine (drawRunWheel_any ao1 n1 c1 f1 _ H1.out).mono ?_
  rintro e w1 ⟨b5, D5, t, rfl, own, hwf, hsm, hb⟩
  have HW5 : Hid (D5.wf ∧ D5.small) := ⟨hwf, hsm⟩
  clear hwf hsm
  have hA : Blw w1 (w1.alloc (.cells #[.int .i64 D5.now, .slice b5.a1 D5.N.n b5.c1, .slice b5.a2 D5.F.n b5.c2] 25)) := (Blw.refl _).alloc _
  have hX9 := VX.new own (fun x hx => hx.2)
  replace hb := hb.trans hA
  replace HB : Hid (Blw _ _) := Blw.trans HB.out hb
  replace H2 : Hid (BY _ _ _ _) := BY.blw H2.out hb
  clear hb
  have X5 : Hid (VX (w1.alloc (.cells #[.int .i64 D5.now, .slice b5.a1 D5.N.n b5.c1, .slice b5.a2 D5.F.n b5.c2] 25)) w1.heap.size b5 D5) := hX9
  clear hX9 hA
  clear own
  clear H1
  obtain ⟨p0, p1, p2⟩ := get3 X5.out.box
  go_wp2_with fail
  clear p0 p1 p2
  refine (implRun_any b5 D5 t _ _ X5.out.at_ (fun x hx => hx) HW5.out.1).mono ?_
  rintro e w2 ⟨b7, R7, ao7, c7, m7, l7, r7, rfl, hm7, ho, hs, hl, own, oi, hb⟩
  have O7 : Hid (runOut D5 t R7 l7 r7) := ho
  have S7 : Hid (R7.small ∧ m7 = l7.length ∧ l7.length ≤ 2000) := ⟨hs, hm7, hl⟩
  rw [← hm7] at oi
  clear ho hs hl
  have hA : Blw w2 (w2.alloc (.cells #[.int .i64 R7.now, .slice b7.a1 R7.N.n b7.c1, .slice b7.a2 R7.F.n b7.c2] 25)) := (Blw.refl _).alloc _
  have hX9 := VX.new own (fun x hx => hx.1.2)
  replace hb := hb.trans hA
  have hi9 : IX w2 ao7 m7 l7 := oi.at.mono (fun x hx => hx.1.2)
  replace HB : Hid (Blw _ _) := Blw.trans HB.out hb
  replace H2 : Hid (BY _ _ _ _) := BY.blw H2.out hb
  replace X5 : Hid (VX _ _ _ _) := VX.blw X5.out hb
  clear hb
  have X7 : Hid (VX (w2.alloc (.cells #[.int .i64 R7.now, .slice b7.a1 R7.N.n b7.c1, .slice b7.a2 R7.F.n b7.c2] 25)) w2.heap.size b7 R7) := hX9
  have I7 : Hid (IX (w2.alloc (.cells #[.int .i64 R7.now, .slice b7.a1 R7.N.n b7.c1, .slice b7.a2 R7.F.n b7.c2] 25)) ao7 m7 l7) := IX.blw (W := w2) hi9 hA
  clear hX9 hA
  clear own oi hi9 hm7
  obtain ⟨p0, p1, p2⟩ := get3 X5.out.box
  go_wp2_with fail
  clear p0 p1 p2
  refine (specRun_any b5 D5 t _ _ X5.out.at_ HW5.out.2).mono ?_
  rintro e w3 ⟨b10, R10, ao10, c10, m10, l10, r10, rfl, hm10, ho, hs, hl, own, oi, hb⟩
  have O10 : Hid (runOut D5 t R10 l10 r10) := ho
  have S10 : Hid (R10.small ∧ m10 = l10.length ∧ l10.length ≤ 2000) := ⟨hs, hm10, hl⟩
  rw [← hm10] at oi
  clear ho hs hl
  have hA : Blw w3 (w3.alloc (.cells #[.int .i64 R10.now, .slice b10.a1 R10.N.n b10.c1, .slice b10.a2 R10.F.n b10.c2] 25)) := (Blw.refl _).alloc _
  have hX9 := VX.new own (fun x hx => hx.1.2)
  replace hb := hb.trans hA
  have hi9 : IX w3 ao10 m10 l10 := oi.at.mono (fun x hx => hx.1.2)
  replace HB : Hid (Blw _ _) := Blw.trans HB.out hb
  replace H2 : Hid (BY _ _ _ _) := BY.blw H2.out hb
  replace X5 : Hid (VX _ _ _ _) := VX.blw X5.out hb
  replace X7 : Hid (VX _ _ _ _) := VX.blw X7.out hb
  replace I7 : Hid (IX _ _ _ _) := IX.blw I7.out hb
  clear hb
  have X10 : Hid (VX (w3.alloc (.cells #[.int .i64 R10.now, .slice b10.a1 R10.N.n b10.c1, .slice b10.a2 R10.F.n b10.c2] 25)) w3.heap.size b10 R10) := hX9
  have I10 : Hid (IX (w3.alloc (.cells #[.int .i64 R10.now, .slice b10.a1 R10.N.n b10.c1, .slice b10.a2 R10.F.n b10.c2] 25)) ao10 m10 l10) := IX.blw (W := w3) hi9 hA
  clear hX9 hA
  clear own oi hi9 hm10
  obtain ⟨eR, el, er⟩ := runOut_same O10.out O7.out
  subst eR el er
  have em : m10 = m7 := S10.out.2.1.trans S7.out.2.1.symm
  subst em
  clear O10 S10
  obtain ⟨p0, p1, p2⟩ := get3 X5.out.box
  go_wp2_with fail
  clear p0 p1 p2
  refine (implTimers_any b5 D5 _ _ X5.out.at_ (fun x hx => hx) HW5.out.1).mono ?_
  rintro e w4 ⟨ao13, c13, m13, l13, r13, rfl, hm13, ho, hl, own, hb⟩
  have O13 : Hid (timersOut D5 l13 r13) := ho
  have S13 : Hid (m13 = l13.length ∧ l13.length ≤ 20) := ⟨hm13, hl⟩
  rw [← hm13] at own
  have T13 : Hid (TX w4 ao13 m13 l13) := own.at.mono (fun x hx => hx.2)
  clear ho hl own hm13
  replace HB : Hid (Blw _ _) := Blw.trans HB.out hb
  replace H2 : Hid (BY _ _ _ _) := BY.blw H2.out hb
  replace X5 : Hid (VX _ _ _ _) := VX.blw X5.out hb
  replace X7 : Hid (VX _ _ _ _) := VX.blw X7.out hb
  replace I7 : Hid (IX _ _ _ _) := IX.blw I7.out hb
  replace X10 : Hid (VX _ _ _ _) := VX.blw X10.out hb
  replace I10 : Hid (IX _ _ _ _) := IX.blw I10.out hb
  clear hb
  obtain ⟨p0, p1, p2⟩ := get3 X5.out.box
  go_wp2_with fail
  clear p0 p1 p2
  refine (specTimers_any b5 D5 _ _ X5.out.at_ HW5.out.2).mono ?_
  rintro e w5 ⟨ao15, c15, m15, l15, r15, rfl, hm15, ho, hl, own, hb⟩
  have O15 : Hid (timersOut D5 l15 r15) := ho
  have S15 : Hid (m15 = l15.length ∧ l15.length ≤ 20) := ⟨hm15, hl⟩
  rw [← hm15] at own
  have T15 : Hid (TX w5 ao15 m15 l15) := own.at.mono (fun x hx => hx.2)
  clear ho hl own hm15
  replace HB : Hid (Blw _ _) := Blw.trans HB.out hb
  replace H2 : Hid (BY _ _ _ _) := BY.blw H2.out hb
  replace X5 : Hid (VX _ _ _ _) := VX.blw X5.out hb
  replace X7 : Hid (VX _ _ _ _) := VX.blw X7.out hb
  replace I7 : Hid (IX _ _ _ _) := IX.blw I7.out hb
  replace X10 : Hid (VX _ _ _ _) := VX.blw X10.out hb
  replace I10 : Hid (IX _ _ _ _) := IX.blw I10.out hb
  replace T13 : Hid (TX _ _ _ _) := TX.blw T13.out hb
  clear hb
  obtain ⟨el, er⟩ := timersOut_same O15.out O13.out
  subst el er
  have em : m15 = m13 := S15.out.1.trans S13.out.1.symm
  subst em
  clear O15 S15
  have hne : (r10 != r10) = false := by simp
  have hne2 : (r15 != r15) = false := by simp
  go_wp2_with fail
  refine (sameInts_same _ _ _ _ m10 (gi l10) _ I7.out I10.out).mono ?_
  rintro e w6 ⟨rfl, hb⟩
  replace HB : Hid (Blw _ _) := Blw.trans HB.out hb
  replace H2 : Hid (BY _ _ _ _) := BY.blw H2.out hb
  replace X5 : Hid (VX _ _ _ _) := VX.blw X5.out hb
  replace X7 : Hid (VX _ _ _ _) := VX.blw X7.out hb
  replace I7 : Hid (IX _ _ _ _) := IX.blw I7.out hb
  replace X10 : Hid (VX _ _ _ _) := VX.blw X10.out hb
  replace I10 : Hid (IX _ _ _ _) := IX.blw I10.out hb
  replace T13 : Hid (TX _ _ _ _) := TX.blw T13.out hb
  replace T15 : Hid (TX _ _ _ _) := TX.blw T15.out hb
  clear hb
  obtain ⟨p0, p1, p2⟩ := get3 X7.out.box
  obtain ⟨q0, q1, q2⟩ := get3 X10.out.box
  go_wp2_with fail
  clear p0 p1 p2 q0 q1 q2
  refine (sameWheel_same b7 b10 R10 _ X7.out.at_ X10.out.at_).mono ?_
  rintro e w7 ⟨rfl, hb⟩
  replace HB : Hid (Blw _ _) := Blw.trans HB.out hb
  replace H2 : Hid (BY _ _ _ _) := BY.blw H2.out hb
  replace X5 : Hid (VX _ _ _ _) := VX.blw X5.out hb
  replace X7 : Hid (VX _ _ _ _) := VX.blw X7.out hb
  replace I7 : Hid (IX _ _ _ _) := IX.blw I7.out hb
  replace X10 : Hid (VX _ _ _ _) := VX.blw X10.out hb
  replace I10 : Hid (IX _ _ _ _) := IX.blw I10.out hb
  replace T13 : Hid (TX _ _ _ _) := TX.blw T13.out hb
  replace T15 : Hid (TX _ _ _ _) := TX.blw T15.out hb
  clear hb
  go_wp2_with fail
  refine (sameTimers_same _ _ _ _ m15 (lf l15) (la l15) _ T13.out T15.out).mono ?_
  rintro e w8 ⟨rfl, hb⟩
  replace HB : Hid (Blw _ _) := Blw.trans HB.out hb
  replace H2 : Hid (BY _ _ _ _) := BY.blw H2.out hb
  replace X5 : Hid (VX _ _ _ _) := VX.blw X5.out hb
  replace X7 : Hid (VX _ _ _ _) := VX.blw X7.out hb
  replace I7 : Hid (IX _ _ _ _) := IX.blw I7.out hb
  replace X10 : Hid (VX _ _ _ _) := VX.blw X10.out hb
  replace I10 : Hid (IX _ _ _ _) := IX.blw I10.out hb
  replace T13 : Hid (TX _ _ _ _) := TX.blw T13.out hb
  replace T15 : Hid (TX _ _ _ _) := TX.blw T15.out hb
  clear hb
  obtain ⟨p0, p1, p2⟩ := get3 X5.out.box
  go_wp2_with fail
  clear p0 p1 p2
  refine (implGood_any b5 D5 _ _ X5.out.at_ (fun x hx => hx) HW5.out.1).mono ?_
  rintro e w9 ⟨g1, rfl, hg1, hb⟩
  replace HB : Hid (Blw _ _) := Blw.trans HB.out hb
  replace H2 : Hid (BY _ _ _ _) := BY.blw H2.out hb
  replace X5 : Hid (VX _ _ _ _) := VX.blw X5.out hb
  replace X7 : Hid (VX _ _ _ _) := VX.blw X7.out hb
  replace I7 : Hid (IX _ _ _ _) := IX.blw I7.out hb
  replace X10 : Hid (VX _ _ _ _) := VX.blw X10.out hb
  replace I10 : Hid (IX _ _ _ _) := IX.blw I10.out hb
  replace T13 : Hid (TX _ _ _ _) := TX.blw T13.out hb
  replace T15 : Hid (TX _ _ _ _) := TX.blw T15.out hb
  clear hb
  have eg : g1 = r15 := by
    rcases O13.out with ⟨h5, _, e5⟩ | ⟨h5, _, e5⟩
    · rw [e5]; exact hg1.2 h5
    · rw [e5]; cases g1; rfl; exact absurd (hg1.1 rfl) h5
  subst eg
  clear X10 I10 T15
  clear hg1 hne
  go_upto_if 97 with fail
  clear hne2
  go_cut [] from 5 to 180 (fun wx => Blw w wx)
  case first =>
    cases r10
    · go_wp2_with fail
      go_meet
      exact HB.out
    · skip
      have hp : RunP D5 t := by
        rcases O7.out with ⟨h5, _⟩ | ⟨_, _, _, e5⟩
        · exact h5
        · cases e5
      have hR : R10 = wd8 (D5.now + t) (runR D5.now (rows16 D5) t.toNat) := by
        rcases O7.out with ⟨_, h5, _⟩ | ⟨_, _, _, e5⟩
        · exact h5
        · cases e5
      have hI : l10 = runI D5.now (rows16 D5) t.toNat := by
        rcases O7.out with ⟨_, _, h5, _⟩ | ⟨_, _, _, e5⟩
        · exact h5
        · cases e5
      have hL : l15 = srt (allR (rows16 D5)) := by
        rcases O13.out with ⟨_, h5, _⟩ | ⟨h5, _, _⟩
        · exact h5
        · exact absurd hp.1 h5
      have hg15 : g1 = true := by
        rcases O13.out with ⟨_, _, h5⟩ | ⟨h5, _, _⟩
        · exact h5
        · exact absurd hp.1 h5
      subst hg15
      have HP : Hid (RunP D5 t) := hp
      have HR : Hid (R10 = wd8 (D5.now + t) (runR D5.now (rows16 D5) t.toNat)) := hR
      have HLE : Hid (l15 = srt (allR (rows16 D5))) := hL
      have HIE : Hid (l10 = runI D5.now (rows16 D5) t.toNat) := hI
      have HRN : Hid (R10.now = D5.now + t) := by show _ = _; rw [hR]
      have HRW : Hid (R10.wf ∧ R10.small) := ⟨(run_good O7.out rfl).wf8 (R := runR D5.now (rows16 D5) t.toNat) (by rw [hR]), S7.out.1⟩
      have hw64 : wrap64 (D5.now + t) = D5.now + t := by have h5 := hp.1.now; have h6 := hp.2.1; have h7 := hp.2.2.1; unfold wrap64; omega
      obtain ⟨hm15, hl15⟩ := S13.out
      subst hm15
      have HM15 : Hid (l15.length ≤ 20) := hl15
      clear hl15
      clear hp hR hI hL
      go_upto_region 14 with fail
      obtain ⟨W0, hW0⟩ : ∃ W0 : World, W0 = w9 := ⟨_, rfl⟩
      rw [← hW0]
      rw [← hW0] at HB H2 X5 X7 I7 T13
      clear hW0
      go_loopw [17, 18, 100] (fun s17 s18 i wr => ∃ (j : Nat) (a : Option Addr) (n c : Nat) (a' : Option Addr) (n' c' : Nat), j ≤ l15.length ∧ i = .int .i64 j ∧ s17 = .slice a n c ∧ s18 = .slice a' n' c' ∧ Hid (DL W0 wr (D5.now + t) l15 j a n c a' n' c')) (fun _ _ i _ => l15.length - (intOf i).toNat)
      case atStart => exact ⟨0, none, 0, 0, none, 0, 0, Nat.zero_le _, rfl, rfl, rfl, DL.start _ _ _⟩
      case round =>
        rename World => wr
        obtain ⟨j, a, n, c, a', n', c', hj, rfl, rfl, rfl, hE⟩ := hrel
        have hlen := HM15.out
        by_cases hjl : j < l15.length
        · have hb : Blw W0 wr := hE.out.2.2.2.2
          obtain ⟨bb, oo, rfl, -, g0, g1⟩ := (T13.out.blw hb).2 j (by omega)
          simp only [lf, la] at g0 g1
          have hba : Blw wr (wr.alloc (.cells #[.int .i64 (nth l15 j).1, .int .i64 (nth l15 j).2] 39)) := (Blw.refl _).alloc _
          obtain ⟨q0, q1⟩ := get2 (box2 wr (.int .i64 (nth l15 j).1) (.int .i64 (nth l15 j).2) 39)
          have HE2 : Hid (DL W0 (wr.alloc (.cells #[.int .i64 (nth l15 j).1, .int .i64 (nth l15 j).2] 39)) (D5.now + t) l15 j a n c a' n' c') := hE.out.blw hba
          obtain ⟨p0, p1, p2⟩ := get3 (X5.out.blw (hb.trans hba)).box
          have hjm : (j : Int) < (l15.length : Int) := by omega
          clear hb hba hE
          go_upto_region 16 with fail
          clear g0 g1 hjm
          obtain ⟨zq, hzq⟩ : ∃ zq, wr.heap.size = zq := ⟨_, rfl⟩
          generalize wr.alloc (.cells #[.int .i64 (nth l15 j).1, .int .i64 (nth l15 j).2] 39) = W3 at *
          rw [hzq] at q0 q1
          rw [hzq]
          clear hzq
          by_cases hq : (nth l15 j).2 ≤ D5.now + t
          · have hdq : decide ((nth l15 j).2 ≤ D5.now + t) = true := decide_eq_true hq
            obtain ⟨x1, d1, v1, hrun, hD⟩ := HE2.out.due hjl (by omega) hq
            have HD : Hid (DL W0 v1 (D5.now + t) l15 (j + 1) x1 (n + 1) d1 a' n' c') := hD
            clear hD HE2 hq
            go_wp2_with (first | (at_builtin; refine wpList_append_run rfl _ _ 28 rfl _ _ rfl rfl hrun ?_; clear hrun p0 p1 p2 q0 q1) | fail)
            go_roundw
            case rel => exact ⟨j + 1, x1, n + 1, d1, a', n', c', by omega, by go_num, rfl, rfl, HD.out⟩
            case measure => simp [intOf]; omega
          · have hdq : decide ((nth l15 j).2 ≤ D5.now + t) = false := decide_eq_false hq
            obtain ⟨x1, d1, v1, hrun, hD⟩ := HE2.out.left hjl (by omega) hq
            have HD : Hid (DL W0 v1 (D5.now + t) l15 (j + 1) a n c x1 (n' + 1) d1) := hD
            clear hD HE2 hq
            go_wp2_with (first | (at_builtin; refine wpList_append_run rfl _ _ 31 rfl _ _ rfl rfl hrun ?_; clear hrun p0 p1 p2 q0 q1) | fail)
            go_roundw
            case rel => exact ⟨j + 1, a, n, c, x1, n' + 1, d1, by omega, by go_num, rfl, rfl, HD.out⟩
            case measure => simp [intOf]; omega
        · obtain rfl : j = l15.length := by omega
          have hb : Blw W0 wr := hE.out.2.2.2.2
          replace HB : Hid (Blw _ _) := Blw.trans HB.out hb
          replace H2 : Hid (BY _ _ _ _) := BY.blw H2.out hb
          replace X5 : Hid (VX _ _ _ _) := VX.blw X5.out hb
          replace X7 : Hid (VX _ _ _ _) := VX.blw X7.out hb
          replace I7 : Hid (IX _ _ _ _) := IX.blw I7.out hb
          replace T13 : Hid (TX _ _ _ _) := TX.blw T13.out hb
          clear hb
          obtain ⟨hn, hn', hBI, hLB, -⟩ := hE.out
          obtain ⟨ef, ef'⟩ := due_all (D5.now + t) l15
          rw [ef] at hn hBI
          rw [ef'] at hn' hLB
          have hfl := List.length_filter_le (upTo (D5.now + t)) l15
          have hfl' := List.length_filter_le (fun x => !upTo (D5.now + t) x) l15
          have hIow : IX wr a n ((l15.filter (upTo (D5.now + t))).map Prod.fst) := by
            obtain ⟨a9, c9, e9, ho⟩ := BufI.own hBI (by omega)
            simp only [Value.slice.injEq] at e9
            obtain ⟨rfl, -, rfl⟩ := e9
            have h5 := ho.at
            refine ⟨h5.1, fun i hi => ?_⟩
            obtain ⟨bb, oo, e1, e2, e3⟩ := h5.2 i hi
            exact ⟨bb, oo, e1, World.block_lt_of_cell? _ _ e3, by rw [gi_fst]; exact e3⟩
          have I17 : Hid (IX wr a n ((l15.filter (upTo (D5.now + t))).map Prod.fst)) := hIow
          have hTow : TX wr a' n' (l15.filter (fun x => !upTo (D5.now + t) x)) := by
            have h5 := LB.lt hLB (by omega)
            rw [← hn'] at h5
            exact h5.at.mono (fun x hx => hx.2)
          have T18 : Hid (TX wr a' n' (l15.filter (fun x => !upTo (D5.now + t) x))) := hTow
          have HN : Hid (n = (l15.filter (upTo (D5.now + t))).length ∧ n' = (l15.filter (fun x => !upTo (D5.now + t) x)).length) := ⟨hn, hn'⟩
          clear hIow hTow hBI hLB hE ef ef' hfl hfl' hn hn' hlen hjl hj
          clear T13
          obtain ⟨p0, p1, p2⟩ := get3 X7.out.box
          go_wp2_with fail
          clear p0 p1 p2
          refine (implTimers_any b7 R10 _ _ X7.out.at_ (fun x hx => hx) HRW.out.1).mono ?_
          rintro e w10 ⟨ao21, c21, m21, l21, r21, rfl, hm21, ho, hl, own, hb⟩
          have O21 : Hid (timersOut R10 l21 r21) := ho
          have S21 : Hid (m21 = l21.length ∧ l21.length ≤ 20) := ⟨hm21, hl⟩
          rw [← hm21] at own
          have T21 : Hid (TX w10 ao21 m21 l21) := own.at.mono (fun x hx => hx.2)
          clear ho hl own hm21
          replace HB : Hid (Blw _ _) := Blw.trans HB.out hb
          replace H2 : Hid (BY _ _ _ _) := BY.blw H2.out hb
          replace X5 : Hid (VX _ _ _ _) := VX.blw X5.out hb
          replace X7 : Hid (VX _ _ _ _) := VX.blw X7.out hb
          replace I7 : Hid (IX _ _ _ _) := IX.blw I7.out hb
          replace I17 : Hid (IX _ _ _ _) := IX.blw I17.out hb
          replace T18 : Hid (TX _ _ _ _) := TX.blw T18.out hb
          clear hb
          obtain ⟨er, el, hg, hid⟩ := ran_timers HP.out (by have h5 := O21.out; rw [HR.out] at h5; exact h5) l15 HLE.out
          subst er
          have HGD : Hid (GoodD R10) := by show GoodD _; rw [HR.out]; exact hg
          clear hg
          rw [← HIE.out] at hid
          obtain ⟨p0, p1, p2⟩ := get3 X7.out.box
          go_wp2_with fail
          clear p0 p1 p2
          refine (implGood_any b7 R10 _ _ X7.out.at_ (fun x hx => hx) HRW.out.1).mono ?_
          rintro e w11 ⟨g2, rfl, hg2, hb⟩
          replace HB : Hid (Blw _ _) := Blw.trans HB.out hb
          replace H2 : Hid (BY _ _ _ _) := BY.blw H2.out hb
          replace X5 : Hid (VX _ _ _ _) := VX.blw X5.out hb
          replace X7 : Hid (VX _ _ _ _) := VX.blw X7.out hb
          replace I7 : Hid (IX _ _ _ _) := IX.blw I7.out hb
          replace I17 : Hid (IX _ _ _ _) := IX.blw I17.out hb
          replace T18 : Hid (TX _ _ _ _) := TX.blw T18.out hb
          replace T21 : Hid (TX _ _ _ _) := TX.blw T21.out hb
          clear hb
          obtain rfl : g2 = true := hg2.2 HGD.out
          clear hg2
          have hem : m10 = n := by have h5 := S7.out.2.1; have h6 := HN.out.1; rw [hid, List.length_map] at h5; omega
          subst hem
          have hem2 : m21 = n' := by have h5 := S21.out.1; have h6 := HN.out.2; rw [el] at h5; omega
          subst hem2
          have hnw : (R10.now != D5.now + t) = false := by rw [HRN.out]; simp
          have hnw2 : (wrap64 (D5.now + t)) = D5.now + t := hw64
          obtain ⟨p0, p1, p2⟩ := get3 X7.out.box
          obtain ⟨q0, q1, q2⟩ := get3 X5.out.box
          go_wp2_with fail
          clear p0 p1 p2 q0 q1 q2
          refine (sameInts_same _ _ _ _ m10 (gi l10) _ I7.out (by have h5 := I17.out; rw [← hid] at h5; exact h5)).mono ?_
          rintro e w12 ⟨rfl, hb⟩
          replace HB : Hid (Blw _ _) := Blw.trans HB.out hb
          replace H2 : Hid (BY _ _ _ _) := BY.blw H2.out hb
          replace X5 : Hid (VX _ _ _ _) := VX.blw X5.out hb
          replace X7 : Hid (VX _ _ _ _) := VX.blw X7.out hb
          replace I7 : Hid (IX _ _ _ _) := IX.blw I7.out hb
          replace I17 : Hid (IX _ _ _ _) := IX.blw I17.out hb
          replace T18 : Hid (TX _ _ _ _) := TX.blw T18.out hb
          replace T21 : Hid (TX _ _ _ _) := TX.blw T21.out hb
          clear hb
          go_wp2_with fail
          refine (sameTimers_same _ _ _ _ m21 (lf l21) (la l21) _ T21.out (by have h5 := T18.out; rw [← el] at h5; exact h5)).mono ?_
          rintro e w13 ⟨rfl, hb⟩
          replace HB : Hid (Blw _ _) := Blw.trans HB.out hb
          replace H2 : Hid (BY _ _ _ _) := BY.blw H2.out hb
          replace X5 : Hid (VX _ _ _ _) := VX.blw X5.out hb
          replace X7 : Hid (VX _ _ _ _) := VX.blw X7.out hb
          replace I7 : Hid (IX _ _ _ _) := IX.blw I7.out hb
          replace I17 : Hid (IX _ _ _ _) := IX.blw I17.out hb
          replace T18 : Hid (TX _ _ _ _) := TX.blw T18.out hb
          replace T21 : Hid (TX _ _ _ _) := TX.blw T21.out hb
          clear hb
          go_wp2_with fail
          go_meet
          exact HB.out
  case rest =>
    have hb : Blw w wc := hcut
    replace H2 : Hid (BY wc ao2 n2 f2) := (BY.blw (BY.blw (W := w) H2W.out (Blw.refl w)) hb)
    replace HB : Hid (Blw w wc) := hb
    clear hb hcut X5 X7 I7 T13 O7 O13 S7 S13 HW5
    go_wp2_with fail
    refine (drawTickWheel_any ao2 n2 c2 f2 _ H2.out).mono ?_
    rintro e w14 ⟨b23, D23, rfl, own, hwf, hsm, hb⟩
    have HW23 : Hid (D23.wf ∧ D23.small) := ⟨hwf, hsm⟩
    clear hwf hsm
    have hA : Blw w14 (w14.alloc (.cells #[.int .i64 D23.now, .slice b23.a1 D23.N.n b23.c1, .slice b23.a2 D23.F.n b23.c2] 25)) := (Blw.refl _).alloc _
    have hX9 := VX.new own (fun x hx => hx.2)
    replace hb := hb.trans hA
    replace HB : Hid (Blw _ _) := Blw.trans HB.out hb
    clear hb
    have X23 : Hid (VX (w14.alloc (.cells #[.int .i64 D23.now, .slice b23.a1 D23.N.n b23.c1, .slice b23.a2 D23.F.n b23.c2] 25)) w14.heap.size b23 D23) := hX9
    clear hX9 hA
    clear own
    clear H2
    obtain ⟨p0, p1, p2⟩ := get3 X23.out.box
    go_wp2_with fail
    clear p0 p1 p2
    refine (implTickW_any b23 D23 _ _ X23.out.at_ (fun x hx => hx) HW23.out.1).mono ?_
    rintro e w15 ⟨b24, R24, ao24, c24, m24, l24, r24, rfl, hm24, ho, hs, hl, own, oi, hb⟩
    have O24 : Hid (runOut D23 1 R24 l24 r24) := ho
    have S24 : Hid (R24.small ∧ m24 = l24.length ∧ l24.length ≤ 2000) := ⟨hs, hm24, hl⟩
    rw [← hm24] at oi
    clear ho hs hl
    have hA : Blw w15 (w15.alloc (.cells #[.int .i64 R24.now, .slice b24.a1 R24.N.n b24.c1, .slice b24.a2 R24.F.n b24.c2] 25)) := (Blw.refl _).alloc _
    have hX9 := VX.new own (fun x hx => hx.1.2)
    replace hb := hb.trans hA
    have hi9 : IX w15 ao24 m24 l24 := oi.at.mono (fun x hx => hx.1.2)
    replace HB : Hid (Blw _ _) := Blw.trans HB.out hb
    replace X23 : Hid (VX _ _ _ _) := VX.blw X23.out hb
    clear hb
    have X24 : Hid (VX (w15.alloc (.cells #[.int .i64 R24.now, .slice b24.a1 R24.N.n b24.c1, .slice b24.a2 R24.F.n b24.c2] 25)) w15.heap.size b24 R24) := hX9
    have I24 : Hid (IX (w15.alloc (.cells #[.int .i64 R24.now, .slice b24.a1 R24.N.n b24.c1, .slice b24.a2 R24.F.n b24.c2] 25)) ao24 m24 l24) := IX.blw (W := w15) hi9 hA
    clear hX9 hA
    clear own oi hi9 hm24
    obtain ⟨p0, p1, p2⟩ := get3 X23.out.box
    go_wp2_with fail
    clear p0 p1 p2
    refine (specTickW_any b23 D23 _ _ X23.out.at_ HW23.out.2).mono ?_
    rintro e w16 ⟨b27, R27, ao27, c27, m27, l27, r27, rfl, hm27, ho, hs, hl, own, oi, hb⟩
    have O27 : Hid (runOut D23 1 R27 l27 r27) := ho
    have S27 : Hid (R27.small ∧ m27 = l27.length ∧ l27.length ≤ 2000) := ⟨hs, hm27, hl⟩
    rw [← hm27] at oi
    clear ho hs hl
    have hA : Blw w16 (w16.alloc (.cells #[.int .i64 R27.now, .slice b27.a1 R27.N.n b27.c1, .slice b27.a2 R27.F.n b27.c2] 25)) := (Blw.refl _).alloc _
    have hX9 := VX.new own (fun x hx => hx.1.2)
    replace hb := hb.trans hA
    have hi9 : IX w16 ao27 m27 l27 := oi.at.mono (fun x hx => hx.1.2)
    replace HB : Hid (Blw _ _) := Blw.trans HB.out hb
    replace X23 : Hid (VX _ _ _ _) := VX.blw X23.out hb
    replace X24 : Hid (VX _ _ _ _) := VX.blw X24.out hb
    replace I24 : Hid (IX _ _ _ _) := IX.blw I24.out hb
    clear hb
    have X27 : Hid (VX (w16.alloc (.cells #[.int .i64 R27.now, .slice b27.a1 R27.N.n b27.c1, .slice b27.a2 R27.F.n b27.c2] 25)) w16.heap.size b27 R27) := hX9
    have I27 : Hid (IX (w16.alloc (.cells #[.int .i64 R27.now, .slice b27.a1 R27.N.n b27.c1, .slice b27.a2 R27.F.n b27.c2] 25)) ao27 m27 l27) := IX.blw (W := w16) hi9 hA
    clear hX9 hA
    clear own oi hi9 hm27
    obtain ⟨eR, el, er⟩ := runOut_same O27.out O24.out
    subst eR el er
    have em : m27 = m24 := S27.out.2.1.trans S24.out.2.1.symm
    subst em
    have hne : (r27 == r27) = true := by simp
    go_wp2_with fail
    refine (sameInts_same _ _ _ _ m27 (gi l27) _ I24.out I27.out).mono ?_
    rintro e w17 ⟨rfl, hb⟩
    replace HB : Hid (Blw _ _) := Blw.trans HB.out hb
    replace X23 : Hid (VX _ _ _ _) := VX.blw X23.out hb
    replace X24 : Hid (VX _ _ _ _) := VX.blw X24.out hb
    replace I24 : Hid (IX _ _ _ _) := IX.blw I24.out hb
    replace X27 : Hid (VX _ _ _ _) := VX.blw X27.out hb
    replace I27 : Hid (IX _ _ _ _) := IX.blw I27.out hb
    clear hb
    obtain ⟨p0, p1, p2⟩ := get3 X24.out.box
    obtain ⟨q0, q1, q2⟩ := get3 X27.out.box
    go_wp2_with fail
    clear p0 p1 p2 q0 q1 q2
    refine (sameWheel_same b24 b27 R27 _ X24.out.at_ X27.out.at_).mono ?_
    rintro e w18 ⟨rfl, hb⟩
    replace HB : Hid (Blw _ _) := Blw.trans HB.out hb
    replace X23 : Hid (VX _ _ _ _) := VX.blw X23.out hb
    replace X24 : Hid (VX _ _ _ _) := VX.blw X24.out hb
    replace I24 : Hid (IX _ _ _ _) := IX.blw I24.out hb
    replace X27 : Hid (VX _ _ _ _) := VX.blw X27.out hb
    replace I27 : Hid (IX _ _ _ _) := IX.blw I27.out hb
    clear hb
    go_wp2
    go_ret
    exact ⟨rfl, HB.out⟩
end Go.Proofs.Ytkmkidahaagbpaa
