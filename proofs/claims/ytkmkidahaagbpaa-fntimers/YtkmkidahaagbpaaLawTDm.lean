/- FnTimers: the walk. -/
import Derived.Test.YtkmkidahaagbpaaJD
import Derived.Test.YtkmkidahaagbpaaJE
import Derived.Test.YtkmkidahaagbpaaJE
namespace Go.Proofs.Ytkmkidahaagbpaa
open Go.RowKit
set_option linter.unusedSimpArgs false
set_option linter.unusedVariables false
theorem allR_wd8 (now : Int) (R : Rws) : allR (rows16 (wd8 now R)) = allR R := by
  unfold allR
  simp only [List.flatMap_def]
  rw [List.map_congr_left (fun k hk => rows16_wd8 now R (List.mem_range.1 hk))]
/-- What SetTimer's answer is. -/
structure SetF (D R : WD) (id wait : Int) : Prop where
  p : SetP D id wait
  e : R = wd8 D.now (put D.now (rows16 D) (id, D.now + wait))
theorem SetF.good {D R : WD} {id wait : Int} (h : SetF D R id wait) : GoodD R := by rw [h.e]; exact (h.p.1.g.put h.p.2.2.2).wd h.p.1.now.1 h.p.1.now.2
theorem SetF.wf {D R : WD} {id wait : Int} (h : SetF D R id wait) : R.wf := h.good.wf8 (R := put D.now (rows16 D) (id, D.now + wait)) (by rw [h.e])
theorem SetF.all {D R : WD} {id wait : Int} (h : SetF D R id wait) : (allR (rows16 R)).Perm ((id, D.now + wait) :: allR (rows16 D)) := by rw [h.e, allR_wd8]; exact put_perm _ _ _
theorem SetF.rows {D R : WD} {id wait : Int} (h : SetF D R id wait) : rows16 R = put D.now (rows16 D) (id, D.now + wait) := by
  rw [h.e]
  refine rows16_eq _ (fun k hk => ?_)
  unfold Go.Proofs.Ytkmkidahaagbpaa.put
  rw [if_neg (by have := rowOf_lt D.now (D.now + wait); show ¬ k = rowOf D.now (D.now + wait); omega)]
  exact rows16_out D k hk
theorem SetF.now {D R : WD} {id wait : Int} (h : SetF D R id wait) : R.now = D.now := by rw [h.e]
theorem SetF.mem {D R : WD} {id wait : Int} (h : SetF D R id wait) {l : List Tm} {b : Bool} (ht : timersOut R l b) : b = true ∧ (id, D.now + wait) ∈ l := by
  rcases ht with ⟨_, h2, h3⟩ | ⟨h1, _, _⟩
  · exact ⟨h3, by rw [h2, srt_mem, h.all.mem_iff]; exact List.mem_cons_self ..⟩
  · exact absurd h.good h1
theorem SetF.drop {D R : WD} {id wait : Int} (h : SetF D R id wait) {X : WD} {b : Bool} (ho : dropOut R id X b) : b = true ∧ X = wd8 D.now (rows16 D) := by
  rcases ho with ⟨_, h2, h3⟩ | ⟨h1, _, _⟩
  · refine ⟨h3, ?_⟩
    rw [h2, h.now, h.rows]
    congr 1
    all_goals rw [drop_put (t := (id, D.now + wait)) (fun x hx => h.p.2.2.2.2.2.2.2.1 x hx) (fun k hk => rows16_out D k hk)]
  · exact absurd ⟨h.good, _, h.all.mem_iff.2 (List.mem_cons_self ..), rfl⟩ h1
theorem SetF.runs {D R : WD} {id wait : Int} (h : SetF D R id wait) {t : Int} {X : WD} {l : List Int} {b : Bool} (ho : runOut R t X l b) (hb : b = true) (x : Int) : x ∈ l ↔ ∃ y ∈ (id, D.now + wait) :: allR (rows16 D), y.2 ≤ D.now + t ∧ y.1 = x := by
  rcases ho with ⟨hp, _, h2, _⟩ | ⟨_, _, _, h3⟩
  · have h1 := (hp.1.g.run t.toNat).2.2
    have e : R.now + (t.toNat : Int) = D.now + t := by have := hp.2.1; have := h.now; omega
    rw [e] at h1
    rw [h2, h1]
    simp only [List.mem_map, srt_mem, List.mem_filter, upTo, decide_eq_true_eq]
    constructor
    · rintro ⟨y, ⟨hy, h4⟩, h5⟩; exact ⟨y, h.all.mem_iff.1 hy, h4, h5⟩
    · rintro ⟨y, hy, h4, h5⟩; exact ⟨y, ⟨h.all.mem_iff.2 hy, h4⟩, h5⟩
  · rw [hb] at h3; cases h3
theorem SetF.came {D R : WD} {id wait : Int} (h : SetF D R id wait) {X : WD} {l : List Int} {b : Bool} (ho : runOut R wait X l b) (hb : b = true) : id ∈ l :=
  (h.runs ho hb id).2 ⟨_, List.mem_cons_self .., Int.le_refl _, rfl⟩
theorem SetF.early {D R : WD} {id wait : Int} (h : SetF D R id wait) {X : WD} {l : List Int} {b : Bool} (ho : runOut R (wait - 1) X l b) (hb : b = true) : ¬ id ∈ l := by
  intro hm
  obtain ⟨y, hy, h4, h5⟩ := (h.runs ho hb id).1 hm
  rcases List.mem_cons.1 hy with rfl | hy
  · dsimp only at h4; omega
  · exact h.p.2.2.2.2.2.2.2.1 y hy h5
set_option maxRecDepth 10000 in
set_option maxHeartbeats 12800000 in
theorem lawTimersD (ao1 : Option Addr) (n1 c1 : Nat) (f1 : Nat → Int) (ao2 : Option Addr) (n2 c2 : Nat) (f2 : Nat → Int) (w : World) (h1 : BytesAt (fun b => b < w.heap.size) w ao1 n1 f1) (h2 : BytesAt (fun b => b < w.heap.size) w ao2 n2 f2) :
    Calls Try.prog 4 #[.slice ao1 n1 c1, .slice ao2 n2 c2] w fun e w' => e = .returned (.bool true) ∧ Blw w w' := by
  have H1 : Hid (BY w ao1 n1 f1) := h1
  have H2 : Hid (BY w ao2 n2 f2) := h2
  clear h1 h2
  go_enter Try.func4, Try.ntmps4
  by_cases hd : wrap64 ((n1 : Int) + n2) > 1048576
  · have d1 : decide (wrap64 ((n1 : Int) + n2) > 1048576) = true := by simpa using hd
    clear hd
    go_wp2
    go_ret
    exact ⟨rfl, Blw.refl _⟩
  have d1 : decide (wrap64 ((n1 : Int) + n2) > 1048576) = false := by simpa using hd
  clear hd
  have HB : Hid (Blw w w) := Blw.refl w
  have H2W : Hid (BY w ao2 n2 f2) := H2.out
  go_wp2_with fail
  clear d1
  refine (drawSetTimer_any ao1 n1 c1 f1 _ H1.out).mono ?_
  rintro e w1 ⟨b5, D5, id, wait, rfl, own, hwf, hsm, hb⟩
  have HW5 : Hid (D5.wf ∧ D5.small) := ⟨hwf, hsm⟩
  clear hwf hsm
  have hA : Blw w1 (w1.alloc (.cells #[.int .i64 D5.now, .slice b5.a1 D5.N.n b5.c1, .slice b5.a2 D5.F.n b5.c2] 25)) := (Blw.refl _).alloc _
  have hX9 := VX.new own (fun x hx => hx.2)
  replace hb := hb.trans hA
  replace HB : Hid (Blw _ _) := Blw.trans HB.out hb
  replace H2 : Hid (BY _ _ _ _) := BY.blw H2.out hb
  clear hb
  have X5 : Hid (VX (w1.alloc (.cells #[.int .i64 D5.now, .slice b5.a1 D5.N.n b5.c1, .slice b5.a2 D5.F.n b5.c2] 25)) w1.heap.size b5 D5) := hX9
  clear hX9 hA
  clear own
  clear H1
  obtain ⟨p0, p1, p2⟩ := get3 X5.out.box
  go_wp2_with fail
  clear p0 p1 p2
  refine (implSet_any b5 D5 id wait _ _ X5.out.at_ (fun x hx => hx) HW5.out.1).mono ?_
  rintro e w2 ⟨b8, R8, r8, rfl, ho, hs, own, hb⟩
  have O8 : Hid (setOut D5 id wait R8 r8) := ho
  have S8 : Hid R8.small := hs
  clear ho hs
  have hA : Blw w2 (w2.alloc (.cells #[.int .i64 R8.now, .slice b8.a1 R8.N.n b8.c1, .slice b8.a2 R8.F.n b8.c2] 25)) := (Blw.refl _).alloc _
  have hX9 := VX.new own (fun x hx => hx.2)
  replace hb := hb.trans hA
  replace HB : Hid (Blw _ _) := Blw.trans HB.out hb
  replace H2 : Hid (BY _ _ _ _) := BY.blw H2.out hb
  replace X5 : Hid (VX _ _ _ _) := VX.blw X5.out hb
  clear hb
  have X8 : Hid (VX (w2.alloc (.cells #[.int .i64 R8.now, .slice b8.a1 R8.N.n b8.c1, .slice b8.a2 R8.F.n b8.c2] 25)) w2.heap.size b8 R8) := hX9
  clear hX9 hA
  clear own
  obtain ⟨p0, p1, p2⟩ := get3 X5.out.box
  go_wp2_with fail
  clear p0 p1 p2
  refine (specSet_any b5 D5 id wait _ _ X5.out.at_ HW5.out.2).mono ?_
  rintro e w3 ⟨b10, R10, r10, rfl, ho, hs, own, hb⟩
  have O10 : Hid (setOut D5 id wait R10 r10) := ho
  have S10 : Hid R10.small := hs
  clear ho hs
  have hA : Blw w3 (w3.alloc (.cells #[.int .i64 R10.now, .slice b10.a1 R10.N.n b10.c1, .slice b10.a2 R10.F.n b10.c2] 25)) := (Blw.refl _).alloc _
  have hX9 := VX.new own (fun x hx => hx.2)
  replace hb := hb.trans hA
  replace HB : Hid (Blw _ _) := Blw.trans HB.out hb
  replace H2 : Hid (BY _ _ _ _) := BY.blw H2.out hb
  replace X5 : Hid (VX _ _ _ _) := VX.blw X5.out hb
  replace X8 : Hid (VX _ _ _ _) := VX.blw X8.out hb
  clear hb
  have X10 : Hid (VX (w3.alloc (.cells #[.int .i64 R10.now, .slice b10.a1 R10.N.n b10.c1, .slice b10.a2 R10.F.n b10.c2] 25)) w3.heap.size b10 R10) := hX9
  clear hX9 hA
  clear own
  obtain ⟨eR, er⟩ := pickOut_same O10.out O8.out
  subst eR er
  clear O10 S10
  have hne : (r10 != r10) = false := by simp
  obtain ⟨p0, p1, p2⟩ := get3 X8.out.box
  obtain ⟨q0, q1, q2⟩ := get3 X10.out.box
  go_wp2_with fail
  clear p0 p1 p2 q0 q1 q2
  refine (sameWheel_same b8 b10 R10 _ X8.out.at_ X10.out.at_).mono ?_
  rintro e w4 ⟨rfl, hb⟩
  replace HB : Hid (Blw _ _) := Blw.trans HB.out hb
  replace H2 : Hid (BY _ _ _ _) := BY.blw H2.out hb
  replace X5 : Hid (VX _ _ _ _) := VX.blw X5.out hb
  replace X8 : Hid (VX _ _ _ _) := VX.blw X8.out hb
  replace X10 : Hid (VX _ _ _ _) := VX.blw X10.out hb
  clear hb
  clear X10
  clear hne
  go_upto_if 71 with fail
  go_cut [] from 5 to 200 (fun wx => Blw w wx)
  case first =>
    cases r10
    · go_wp2_with fail
      go_meet
      exact HB.out
    · skip
      have hsf : SetF D5 R10 id wait := by
        rcases O8.out with ⟨h5, h6, _⟩ | ⟨_, _, e5⟩
        · exact ⟨h5, h6⟩
        · cases e5
      have HF : Hid (SetF D5 R10 id wait) := hsf
      have hwr : 1 ≤ wait ∧ wait ≤ 55 := ⟨hsf.p.2.1, hsf.p.2.2.1⟩
      have hnw := hsf.p.1.now
      have hw64 : wrap64 (D5.now + wait) = D5.now + wait := by unfold wrap64; omega
      have hw65 : wrap64 (wait - 1) = wait - 1 := by unfold wrap64; omega
      clear hsf hnw
      obtain ⟨p0, p1, p2⟩ := get3 X8.out.box
      go_wp2_with fail
      clear p0 p1 p2
      refine (implTimers_any b8 R10 _ _ X8.out.at_ (fun x hx => hx) HF.out.wf).mono ?_
      rintro e w5 ⟨ao12, c12, m12, l12, r12, rfl, hm12, ho, hl, own, hb⟩
      have O12 : Hid (timersOut R10 l12 r12) := ho
      have S12 : Hid (m12 = l12.length ∧ l12.length ≤ 20) := ⟨hm12, hl⟩
      rw [← hm12] at own
      have T12 : Hid (TX w5 ao12 m12 l12) := own.at.mono (fun x hx => hx.2)
      clear ho hl own hm12
      replace HB : Hid (Blw _ _) := Blw.trans HB.out hb
      replace H2 : Hid (BY _ _ _ _) := BY.blw H2.out hb
      replace X5 : Hid (VX _ _ _ _) := VX.blw X5.out hb
      replace X8 : Hid (VX _ _ _ _) := VX.blw X8.out hb
      clear hb
      obtain ⟨er, hmem⟩ := HF.out.mem O12.out
      subst er
      have HMEM : Hid ((id, D5.now + wait) ∈ l12) := hmem
      clear hmem
      obtain ⟨hm12, hl12⟩ := S12.out
      subst hm12
      have HL : Hid (l12.length ≤ 20) := hl12
      clear hl12
      go_upto_region 12 with fail
      obtain ⟨W0, hW0⟩ : ∃ W0 : World, W0 = w5 := ⟨_, rfl⟩
      rw [← hW0]
      rw [← hW0] at HB H2 X5 X8 T12
      clear hW0
      go_loopw [14, 79] (fun s14 i wr => ∃ (j : Nat) (b : Bool), j ≤ l12.length ∧ i = .int .i64 j ∧ s14 = .bool b ∧ Hid (((id, D5.now + wait) ∈ l12.take j → b = true) ∧ Blw W0 wr)) (fun _ i _ => l12.length - (intOf i).toNat)
      case atStart => exact ⟨0, false, Nat.zero_le _, rfl, rfl, fun h => by simp at h, Blw.refl _⟩
      case round =>
        rename World => wr
        obtain ⟨j, bb0, hj, rfl, rfl, hE⟩ := hrel
        have hlen := HL.out
        by_cases hjl : j < l12.length
        · have hb : Blw W0 wr := hE.out.2
          obtain ⟨bb, oo, rfl, -, g0, g1⟩ := (T12.out.blw hb).2 j (by omega)
          simp only [lf, la] at g0 g1
          have hba : Blw wr (wr.alloc (.cells #[.int .i64 (nth l12 j).1, .int .i64 (nth l12 j).2] 39)) := (Blw.refl _).alloc _
          obtain ⟨q0, q1⟩ := get2 (box2 wr (.int .i64 (nth l12 j).1) (.int .i64 (nth l12 j).2) 39)
          obtain ⟨p0, p1, p2⟩ := get3 (X5.out.blw (hb.trans hba)).box
          have HBN : Hid (Blw W0 (wr.alloc (.cells #[.int .i64 (nth l12 j).1, .int .i64 (nth l12 j).2] 39))) := hb.trans hba
          have hjm : (j : Int) < (l12.length : Int) := by omega
          have htk : l12.take (j + 1) = l12.take j ++ [nth l12 j] := take_succ' hjl
          have HTK : Hid (l12.take (j + 1) = l12.take j ++ [nth l12 j]) := htk
          clear hb hba htk
          go_upto_region 14 with fail
          clear g0 g1 hjm
          obtain ⟨zq, hzq⟩ : ∃ zq, wr.heap.size = zq := ⟨_, rfl⟩
          generalize wr.alloc (.cells #[.int .i64 (nth l12 j).1, .int .i64 (nth l12 j).2] 39) = W3 at *
          rw [hzq] at q0 q1
          rw [hzq]
          clear hzq
          cases bb0
          · have HNM : Hid (¬ (id, D5.now + wait) ∈ l12.take j) := fun h => by have := hE.out.1 h; cases this
            clear hE
            by_cases e1 : (nth l12 j).1 = id
            · have d1 : ((nth l12 j).1 == id) = true := by simp [e1]
              by_cases e2 : (nth l12 j).2 = D5.now + wait
              · have d2 : ((nth l12 j).2 == D5.now + wait) = true := by simp [e2]
                clear e1 e2
                go_wp2_with fail
                clear p0 p1 p2 q0 q1
                go_roundw
                case rel => exact ⟨j + 1, true, by omega, by go_num, rfl, fun _ => rfl, HBN.out⟩
                case measure => simp [intOf]; omega
              · have d2 : ((nth l12 j).2 == D5.now + wait) = false := by simp [e2]
                have HN2 : Hid ((id, D5.now + wait) ∈ l12.take (j + 1) → false = true) := fun h => by
                  rw [HTK.out, List.mem_append, List.mem_singleton] at h
                  rcases h with h | h
                  · exact absurd h HNM.out
                  · exact absurd (congrArg Prod.snd h).symm e2
                clear e1 e2
                go_wp2_with fail
                clear p0 p1 p2 q0 q1
                go_roundw
                case rel => exact ⟨j + 1, false, by omega, by go_num, rfl, HN2.out, HBN.out⟩
                case measure => simp [intOf]; omega
            · have d1 : ((nth l12 j).1 == id) = false := by simp [e1]
              have HN2 : Hid ((id, D5.now + wait) ∈ l12.take (j + 1) → false = true) := fun h => by
                rw [HTK.out, List.mem_append, List.mem_singleton] at h
                rcases h with h | h
                · exact absurd h HNM.out
                · exact absurd (congrArg Prod.fst h).symm e1
              clear e1
              go_wp2_with fail
              clear p0 p1 p2 q0 q1
              go_roundw
              case rel => exact ⟨j + 1, false, by omega, by go_num, rfl, HN2.out, HBN.out⟩
              case measure => simp [intOf]; omega
          · clear hE
            go_wp2_with fail
            clear p0 p1 p2 q0 q1
            go_roundw
            case rel => exact ⟨j + 1, true, by omega, by go_num, rfl, fun _ => rfl, HBN.out⟩
            case measure => simp [intOf]; omega
        · obtain rfl : j = l12.length := by omega
          obtain rfl : bb0 = true := hE.out.1 (by rw [List.take_length]; exact HMEM.out)
          have hb : Blw W0 wr := hE.out.2
          clear hE hlen hjl hj
          replace HB : Hid (Blw _ _) := Blw.trans HB.out hb
          replace H2 : Hid (BY _ _ _ _) := BY.blw H2.out hb
          replace X5 : Hid (VX _ _ _ _) := VX.blw X5.out hb
          replace X8 : Hid (VX _ _ _ _) := VX.blw X8.out hb
          clear hb
          clear T12
          obtain ⟨p0, p1, p2⟩ := get3 X8.out.box
          go_wp2_with fail
          clear p0 p1 p2
          refine (implDrop_any b8 R10 id _ _ X8.out.at_ (fun x hx => hx) HF.out.wf).mono ?_
          rintro e w6 ⟨b17, R17, r17, rfl, ho, hs, own, hb⟩
          have O17 : Hid (dropOut R10 id R17 r17) := ho
          have S17 : Hid R17.small := hs
          clear ho hs
          have hA : Blw w6 (w6.alloc (.cells #[.int .i64 R17.now, .slice b17.a1 R17.N.n b17.c1, .slice b17.a2 R17.F.n b17.c2] 25)) := (Blw.refl _).alloc _
          have hX9 := VX.new own (fun x hx => hx.2)
          replace hb := hb.trans hA
          replace HB : Hid (Blw _ _) := Blw.trans HB.out hb
          replace H2 : Hid (BY _ _ _ _) := BY.blw H2.out hb
          replace X5 : Hid (VX _ _ _ _) := VX.blw X5.out hb
          replace X8 : Hid (VX _ _ _ _) := VX.blw X8.out hb
          clear hb
          have X17 : Hid (VX (w6.alloc (.cells #[.int .i64 R17.now, .slice b17.a1 R17.N.n b17.c1, .slice b17.a2 R17.F.n b17.c2] 25)) w6.heap.size b17 R17) := hX9
          clear hX9 hA
          clear own
          obtain ⟨er, eR⟩ := HF.out.drop O17.out
          subst er
          have HR17 : Hid (R17 = wd8 D5.now (rows16 D5)) := eR
          clear eR
          obtain ⟨p0, p1, p2⟩ := get3 X8.out.box
          go_wp2_with fail
          clear p0 p1 p2
          refine (implRun_any b8 R10 wait _ _ X8.out.at_ (fun x hx => hx) HF.out.wf).mono ?_
          rintro e w7 ⟨b19, R19, ao19, c19, m19, l19, r19, rfl, hm19, ho, hs, hl, own, oi, hb⟩
          have O19 : Hid (runOut R10 wait R19 l19 r19) := ho
          have S19 : Hid (R19.small ∧ m19 = l19.length ∧ l19.length ≤ 2000) := ⟨hs, hm19, hl⟩
          rw [← hm19] at oi
          clear ho hs hl
          have hA : Blw w7 (w7.alloc (.cells #[.int .i64 R19.now, .slice b19.a1 R19.N.n b19.c1, .slice b19.a2 R19.F.n b19.c2] 25)) := (Blw.refl _).alloc _
          have hX9 := VX.new own (fun x hx => hx.1.2)
          replace hb := hb.trans hA
          have hi9 : IX w7 ao19 m19 l19 := oi.at.mono (fun x hx => hx.1.2)
          replace HB : Hid (Blw _ _) := Blw.trans HB.out hb
          replace H2 : Hid (BY _ _ _ _) := BY.blw H2.out hb
          replace X5 : Hid (VX _ _ _ _) := VX.blw X5.out hb
          replace X8 : Hid (VX _ _ _ _) := VX.blw X8.out hb
          replace X17 : Hid (VX _ _ _ _) := VX.blw X17.out hb
          clear hb
          have X19 : Hid (VX (w7.alloc (.cells #[.int .i64 R19.now, .slice b19.a1 R19.N.n b19.c1, .slice b19.a2 R19.F.n b19.c2] 25)) w7.heap.size b19 R19) := hX9
          have I19 : Hid (IX (w7.alloc (.cells #[.int .i64 R19.now, .slice b19.a1 R19.N.n b19.c1, .slice b19.a2 R19.F.n b19.c2] 25)) ao19 m19 l19) := IX.blw (W := w7) hi9 hA
          clear hX9 hA
          clear own oi hi9 hm19
          clear X19
          obtain ⟨p0, p1, p2⟩ := get3 X8.out.box
          go_wp2_with fail
          clear p0 p1 p2
          refine (implRun_any b8 R10 (wait - 1) _ _ X8.out.at_ (fun x hx => hx) HF.out.wf).mono ?_
          rintro e w8 ⟨b22, R22, ao22, c22, m22, l22, r22, rfl, hm22, ho, hs, hl, own, oi, hb⟩
          have O22 : Hid (runOut R10 (wait - 1) R22 l22 r22) := ho
          have S22 : Hid (R22.small ∧ m22 = l22.length ∧ l22.length ≤ 2000) := ⟨hs, hm22, hl⟩
          rw [← hm22] at oi
          clear ho hs hl
          have hA : Blw w8 (w8.alloc (.cells #[.int .i64 R22.now, .slice b22.a1 R22.N.n b22.c1, .slice b22.a2 R22.F.n b22.c2] 25)) := (Blw.refl _).alloc _
          have hX9 := VX.new own (fun x hx => hx.1.2)
          replace hb := hb.trans hA
          have hi9 : IX w8 ao22 m22 l22 := oi.at.mono (fun x hx => hx.1.2)
          replace HB : Hid (Blw _ _) := Blw.trans HB.out hb
          replace H2 : Hid (BY _ _ _ _) := BY.blw H2.out hb
          replace X5 : Hid (VX _ _ _ _) := VX.blw X5.out hb
          replace X8 : Hid (VX _ _ _ _) := VX.blw X8.out hb
          replace X17 : Hid (VX _ _ _ _) := VX.blw X17.out hb
          replace I19 : Hid (IX _ _ _ _) := IX.blw I19.out hb
          clear hb
          have X22 : Hid (VX (w8.alloc (.cells #[.int .i64 R22.now, .slice b22.a1 R22.N.n b22.c1, .slice b22.a2 R22.F.n b22.c2] 25)) w8.heap.size b22 R22) := hX9
          have I22 : Hid (IX (w8.alloc (.cells #[.int .i64 R22.now, .slice b22.a1 R22.N.n b22.c1, .slice b22.a2 R22.F.n b22.c2] 25)) ao22 m22 l22) := IX.blw (W := w8) hi9 hA
          clear hX9 hA
          clear own oi hi9 hm22
          clear X22
          obtain ⟨p0, p1, p2⟩ := get3 X8.out.box
          go_wp2_with fail
          clear p0 p1 p2
          refine (implGood_any b8 R10 _ _ X8.out.at_ (fun x hx => hx) HF.out.wf).mono ?_
          rintro e w9 ⟨g1, rfl, hg1, hb⟩
          replace HB : Hid (Blw _ _) := Blw.trans HB.out hb
          replace H2 : Hid (BY _ _ _ _) := BY.blw H2.out hb
          replace X5 : Hid (VX _ _ _ _) := VX.blw X5.out hb
          replace X8 : Hid (VX _ _ _ _) := VX.blw X8.out hb
          replace X17 : Hid (VX _ _ _ _) := VX.blw X17.out hb
          replace I19 : Hid (IX _ _ _ _) := IX.blw I19.out hb
          replace I22 : Hid (IX _ _ _ _) := IX.blw I22.out hb
          clear hb
          obtain rfl : g1 = true := hg1.2 HF.out.good
          clear hg1
          have HSW : Hid (Calls Try.prog 18 #[b17.val R17, b5.val D5] w9 fun e w' => e = .returned (.bool true) ∧ Blw w9 w') := by
            have h5 := HR17.out
            have hn := HF.out.p.1.n
            have hf := HF.out.p.1.f
            show Calls _ _ _ _ _
            rw [val8 (v := b5) hn hf, ← h5]
            exact sameWheel_same b17 b5 R17 _ X17.out.at_ (by rw [h5]; exact X5.out.at_.as8 hn hf)
          obtain ⟨p0, p1, p2⟩ := get3 X17.out.box
          obtain ⟨q0, q1, q2⟩ := get3 X5.out.box
          go_wp2_with fail
          clear p0 p1 p2 q0 q1 q2
          refine (HSW.out).mono ?_
          rintro e w10 ⟨rfl, hb⟩
          replace HB : Hid (Blw _ _) := Blw.trans HB.out hb
          replace H2 : Hid (BY _ _ _ _) := BY.blw H2.out hb
          replace X5 : Hid (VX _ _ _ _) := VX.blw X5.out hb
          replace X8 : Hid (VX _ _ _ _) := VX.blw X8.out hb
          replace X17 : Hid (VX _ _ _ _) := VX.blw X17.out hb
          replace I19 : Hid (IX _ _ _ _) := IX.blw I19.out hb
          replace I22 : Hid (IX _ _ _ _) := IX.blw I22.out hb
          clear hb
          clear HSW
          cases r19
          · cases r22
            · go_wp2_with fail
              go_meet
              exact HB.out
            · go_wp2_with fail
              obtain ⟨hm22, -⟩ : m22 = l22.length ∧ l22.length ≤ 2000 := S22.out.2
              subst hm22
              refine (hasNum_any _ _ l22 id _ I22.out).mono ?_
              rintro e w11 ⟨bh22, rfl, hbh22, hb⟩
              obtain rfl : bh22 = false := by cases bh22; rfl; exact absurd (hbh22.1 rfl) (HF.out.early O22.out (by first | rfl | trivial))
              clear hbh22
              replace HB : Hid (Blw _ _) := Blw.trans HB.out hb
              replace H2 : Hid (BY _ _ _ _) := BY.blw H2.out hb
              replace X5 : Hid (VX _ _ _ _) := VX.blw X5.out hb
              replace X8 : Hid (VX _ _ _ _) := VX.blw X8.out hb
              replace X17 : Hid (VX _ _ _ _) := VX.blw X17.out hb
              replace I19 : Hid (IX _ _ _ _) := IX.blw I19.out hb
              replace I22 : Hid (IX _ _ _ _) := IX.blw I22.out hb
              clear hb
              go_wp2_with fail
              go_meet
              exact HB.out
          · go_wp2_with fail
            obtain ⟨hm19, -⟩ : m19 = l19.length ∧ l19.length ≤ 2000 := S19.out.2
            subst hm19
            refine (hasNum_any _ _ l19 id _ I19.out).mono ?_
            rintro e w16 ⟨bh19, rfl, hbh19, hb⟩
            obtain rfl : bh19 = true := hbh19.2 (HF.out.came O19.out (by first | rfl | trivial))
            clear hbh19
            replace HB : Hid (Blw _ _) := Blw.trans HB.out hb
            replace H2 : Hid (BY _ _ _ _) := BY.blw H2.out hb
            replace X5 : Hid (VX _ _ _ _) := VX.blw X5.out hb
            replace X8 : Hid (VX _ _ _ _) := VX.blw X8.out hb
            replace X17 : Hid (VX _ _ _ _) := VX.blw X17.out hb
            replace I19 : Hid (IX _ _ _ _) := IX.blw I19.out hb
            replace I22 : Hid (IX _ _ _ _) := IX.blw I22.out hb
            clear hb
            cases r22
            · go_wp2_with fail
              go_meet
              exact HB.out
            · go_wp2_with fail
              obtain ⟨hm22, -⟩ : m22 = l22.length ∧ l22.length ≤ 2000 := S22.out.2
              subst hm22
              refine (hasNum_any _ _ l22 id _ I22.out).mono ?_
              rintro e w17 ⟨bh22, rfl, hbh22, hb⟩
              obtain rfl : bh22 = false := by cases bh22; rfl; exact absurd (hbh22.1 rfl) (HF.out.early O22.out (by first | rfl | trivial))
              clear hbh22
              replace HB : Hid (Blw _ _) := Blw.trans HB.out hb
              replace H2 : Hid (BY _ _ _ _) := BY.blw H2.out hb
              replace X5 : Hid (VX _ _ _ _) := VX.blw X5.out hb
              replace X8 : Hid (VX _ _ _ _) := VX.blw X8.out hb
              replace X17 : Hid (VX _ _ _ _) := VX.blw X17.out hb
              replace I19 : Hid (IX _ _ _ _) := IX.blw I19.out hb
              replace I22 : Hid (IX _ _ _ _) := IX.blw I22.out hb
              clear hb
              go_wp2_with fail
              go_meet
              exact HB.out
  case rest =>
    have hb : Blw w wc := hcut
    replace H2 : Hid (BY wc ao2 n2 f2) := (BY.blw (BY.blw (W := w) H2W.out (Blw.refl w)) hb)
    replace HB : Hid (Blw w wc) := hb
    clear hb hcut X5 X8 O8 S8 HW5
    go_wp2_with fail
    refine (drawDropTimer_any ao2 n2 c2 f2 _ H2.out).mono ?_
    rintro e w18 ⟨b25, D25, who, rfl, own, hwf, hsm, hb⟩
    have HW25 : Hid (D25.wf ∧ D25.small) := ⟨hwf, hsm⟩
    clear hwf hsm
    have hA : Blw w18 (w18.alloc (.cells #[.int .i64 D25.now, .slice b25.a1 D25.N.n b25.c1, .slice b25.a2 D25.F.n b25.c2] 25)) := (Blw.refl _).alloc _
    have hX9 := VX.new own (fun x hx => hx.2)
    replace hb := hb.trans hA
    replace HB : Hid (Blw _ _) := Blw.trans HB.out hb
    replace H2 : Hid (BY _ _ _ _) := BY.blw H2.out hb
    clear hb
    have X25 : Hid (VX (w18.alloc (.cells #[.int .i64 D25.now, .slice b25.a1 D25.N.n b25.c1, .slice b25.a2 D25.F.n b25.c2] 25)) w18.heap.size b25 D25) := hX9
    clear hX9 hA
    clear own
    obtain ⟨p0, p1, p2⟩ := get3 X25.out.box
    go_wp2_with fail
    clear p0 p1 p2
    refine (implDrop_any b25 D25 who _ _ X25.out.at_ (fun x hx => hx) HW25.out.1).mono ?_
    rintro e w19 ⟨b27, R27, r27, rfl, ho, hs, own, hb⟩
    have O27 : Hid (dropOut D25 who R27 r27) := ho
    have S27 : Hid R27.small := hs
    clear ho hs
    have hA : Blw w19 (w19.alloc (.cells #[.int .i64 R27.now, .slice b27.a1 R27.N.n b27.c1, .slice b27.a2 R27.F.n b27.c2] 25)) := (Blw.refl _).alloc _
    have hX9 := VX.new own (fun x hx => hx.2)
    replace hb := hb.trans hA
    replace HB : Hid (Blw _ _) := Blw.trans HB.out hb
    replace H2 : Hid (BY _ _ _ _) := BY.blw H2.out hb
    replace X25 : Hid (VX _ _ _ _) := VX.blw X25.out hb
    clear hb
    have X27 : Hid (VX (w19.alloc (.cells #[.int .i64 R27.now, .slice b27.a1 R27.N.n b27.c1, .slice b27.a2 R27.F.n b27.c2] 25)) w19.heap.size b27 R27) := hX9
    clear hX9 hA
    clear own
    obtain ⟨p0, p1, p2⟩ := get3 X25.out.box
    go_wp2_with fail
    clear p0 p1 p2
    refine (specDrop_any b25 D25 who _ _ X25.out.at_ HW25.out.2).mono ?_
    rintro e w20 ⟨b29, R29, r29, rfl, ho, hs, own, hb⟩
    have O29 : Hid (dropOut D25 who R29 r29) := ho
    have S29 : Hid R29.small := hs
    clear ho hs
    have hA : Blw w20 (w20.alloc (.cells #[.int .i64 R29.now, .slice b29.a1 R29.N.n b29.c1, .slice b29.a2 R29.F.n b29.c2] 25)) := (Blw.refl _).alloc _
    have hX9 := VX.new own (fun x hx => hx.2)
    replace hb := hb.trans hA
    replace HB : Hid (Blw _ _) := Blw.trans HB.out hb
    replace H2 : Hid (BY _ _ _ _) := BY.blw H2.out hb
    replace X25 : Hid (VX _ _ _ _) := VX.blw X25.out hb
    replace X27 : Hid (VX _ _ _ _) := VX.blw X27.out hb
    clear hb
    have X29 : Hid (VX (w20.alloc (.cells #[.int .i64 R29.now, .slice b29.a1 R29.N.n b29.c1, .slice b29.a2 R29.F.n b29.c2] 25)) w20.heap.size b29 R29) := hX9
    clear hX9 hA
    clear own
    obtain ⟨eR, er⟩ := pickOut_same O29.out O27.out
    subst eR er
    clear O29 S29
    clear X25
    go_wp2_with fail
    refine (drawNewWheel_any ao2 n2 c2 f2 _ H2.out).mono ?_
    rintro e w21 ⟨kk, rfl, hb⟩
    replace HB : Hid (Blw _ _) := Blw.trans HB.out hb
    replace H2 : Hid (BY _ _ _ _) := BY.blw H2.out hb
    replace X27 : Hid (VX _ _ _ _) := VX.blw X27.out hb
    replace X29 : Hid (VX _ _ _ _) := VX.blw X29.out hb
    clear hb
    clear H2
    go_wp2_with fail
    refine (implNew_any kk _).mono ?_
    rintro e w22 ⟨b32, R32, r32, rfl, ho, hs, own, hb⟩
    have O32 : Hid (newOut kk R32 r32) := ho
    have S32 : Hid R32.small := hs
    clear ho hs
    have hA : Blw w22 (w22.alloc (.cells #[.int .i64 R32.now, .slice b32.a1 R32.N.n b32.c1, .slice b32.a2 R32.F.n b32.c2] 25)) := (Blw.refl _).alloc _
    have hX9 := VX.new own (fun x hx => hx.2)
    replace hb := hb.trans hA
    replace HB : Hid (Blw _ _) := Blw.trans HB.out hb
    replace X27 : Hid (VX _ _ _ _) := VX.blw X27.out hb
    replace X29 : Hid (VX _ _ _ _) := VX.blw X29.out hb
    clear hb
    have X32 : Hid (VX (w22.alloc (.cells #[.int .i64 R32.now, .slice b32.a1 R32.N.n b32.c1, .slice b32.a2 R32.F.n b32.c2] 25)) w22.heap.size b32 R32) := hX9
    clear hX9 hA
    clear own
    go_wp2_with fail
    refine (specNew_any kk _).mono ?_
    rintro e w23 ⟨b34, R34, r34, rfl, ho, hs, own, hb⟩
    have O34 : Hid (newOut kk R34 r34) := ho
    have S34 : Hid R34.small := hs
    clear ho hs
    have hA : Blw w23 (w23.alloc (.cells #[.int .i64 R34.now, .slice b34.a1 R34.N.n b34.c1, .slice b34.a2 R34.F.n b34.c2] 25)) := (Blw.refl _).alloc _
    have hX9 := VX.new own (fun x hx => hx.2)
    replace hb := hb.trans hA
    replace HB : Hid (Blw _ _) := Blw.trans HB.out hb
    replace X27 : Hid (VX _ _ _ _) := VX.blw X27.out hb
    replace X29 : Hid (VX _ _ _ _) := VX.blw X29.out hb
    replace X32 : Hid (VX _ _ _ _) := VX.blw X32.out hb
    clear hb
    have X34 : Hid (VX (w23.alloc (.cells #[.int .i64 R34.now, .slice b34.a1 R34.N.n b34.c1, .slice b34.a2 R34.F.n b34.c2] 25)) w23.heap.size b34 R34) := hX9
    clear hX9 hA
    clear own
    obtain ⟨eR, er⟩ := newOut_same O34.out O32.out
    subst eR er
    clear O34 S34
    have hne : (r29 == r29) = true := by simp
    have hne2 : (r34 == r34) = true := by simp
    obtain ⟨p0, p1, p2⟩ := get3 X27.out.box
    obtain ⟨q0, q1, q2⟩ := get3 X29.out.box
    go_wp2_with fail
    clear p0 p1 p2 q0 q1 q2
    refine (sameWheel_same b27 b29 R29 _ X27.out.at_ X29.out.at_).mono ?_
    rintro e w24 ⟨rfl, hb⟩
    replace HB : Hid (Blw _ _) := Blw.trans HB.out hb
    replace X27 : Hid (VX _ _ _ _) := VX.blw X27.out hb
    replace X29 : Hid (VX _ _ _ _) := VX.blw X29.out hb
    replace X32 : Hid (VX _ _ _ _) := VX.blw X32.out hb
    replace X34 : Hid (VX _ _ _ _) := VX.blw X34.out hb
    clear hb
    obtain ⟨p0, p1, p2⟩ := get3 X32.out.box
    obtain ⟨q0, q1, q2⟩ := get3 X34.out.box
    go_wp2_with fail
    clear p0 p1 p2 q0 q1 q2
    refine (sameWheel_same b32 b34 R34 _ X32.out.at_ X34.out.at_).mono ?_
    rintro e w25 ⟨rfl, hb⟩
    replace HB : Hid (Blw _ _) := Blw.trans HB.out hb
    replace X27 : Hid (VX _ _ _ _) := VX.blw X27.out hb
    replace X29 : Hid (VX _ _ _ _) := VX.blw X29.out hb
    replace X32 : Hid (VX _ _ _ _) := VX.blw X32.out hb
    replace X34 : Hid (VX _ _ _ _) := VX.blw X34.out hb
    clear hb
    go_wp2
    go_ret
    exact ⟨rfl, HB.out⟩
end Go.Proofs.Ytkmkidahaagbpaa
