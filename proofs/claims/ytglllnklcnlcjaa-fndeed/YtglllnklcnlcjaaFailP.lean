/- 'spec.FailPower' and 'impl.FailPower'. -/
import Derived.Test.YtglllnklcnlcjaaFailL
namespace Go.Proofs.Ytglllnklcnlcjaa
open Go.RowKit
set_option linter.unusedSimpArgs false
/-- What FailPower answers. -/
def fwOut (M : MD) (n : Nat) (f : Nat → Int) (M' : MD) (b : Bool) : Prop :=
  (M.Good ∧ rising n f ∧ M' = MD.full (fpS M.v1 M.v2 (hasLine n f) 12) (fpC M.v1 M.v2 (hasLine n f) 12) (faD M.d 12) ∧ b = true) ∨ (¬ (M.Good ∧ rising n f) ∧ M' = MZ ∧ b = false)
theorem fwOut_same {M M1 M2 : MD} {n : Nat} {f : Nat → Int} {b c : Bool} (h : fwOut M n f M1 b) (k : fwOut M n f M2 c) : M1 = M2 ∧ b = c := by
  rcases h with ⟨g, s, rfl, rfl⟩ | ⟨g, rfl, rfl⟩
  · rcases k with ⟨_, _, rfl, rfl⟩ | ⟨g', rfl, rfl⟩
    · exact ⟨rfl, rfl⟩
    · exact absurd ⟨g, s⟩ g'
  · rcases k with ⟨g', s, rfl, rfl⟩ | ⟨g', rfl, rfl⟩
    · exact absurd ⟨g', s⟩ g
    · exact ⟨rfl, rfl⟩
theorem fwOut_total {M M1 : MD} {n : Nat} {f : Nat → Int} {b : Bool} (h : fwOut M n f M1 b) : M1.total ≤ 108 := by
  rcases h with ⟨g, s, rfl, rfl⟩ | ⟨g, rfl, rfl⟩
  · rw [total_full]; omega
  · rw [total_zero]; omega
open Classical in
noncomputable def fkD (d : Nat → Bool) (P : Nat → Prop) : Nat → Bool := fun i => if P i then false else d i
theorem has_none (f : Nat → Int) (i : Nat) : ¬ hasLine 0 f i := fun ⟨_, h, _⟩ => absurd h (Nat.not_lt_zero _)
theorem has_more {f : Nat → Int} {k q : Nat} (hq : f k = (q : Int)) (i : Nat) : hasLine (k + 1) f i ↔ (i = q ∨ hasLine k f i) := by
  constructor
  · rintro ⟨t, ht, e⟩
    by_cases h : t = k
    · subst h
      exact Or.inl (by omega)
    · exact Or.inr ⟨t, by omega, e⟩
  · rintro (rfl | ⟨t, ht, e⟩)
    · exact ⟨k, by omega, hq⟩
    · exact ⟨t, by omega, e⟩
theorem fpS_none (s c : Nat → Nat → Int) (f : Nat → Int) : fpS s c (hasLine 0 f) 12 = s := by
  funext i j
  simp [fpS, has_none]
theorem fkD_none (d : Nat → Bool) (f : Nat → Int) : fkD d (hasLine 0 f) = d := by
  funext i
  simp [fkD, has_none]
theorem fpS_more {s c : Nat → Nat → Int} {f : Nat → Int} {k q : Nat} (hq : f k = (q : Int)) (h12 : q < 12) : flS (fpS s c (hasLine k f) 12) c q = fpS s c (hasLine (k + 1) f) 12 := by
  funext i j
  unfold flS fpS
  by_cases e : i = q
  · subst e
    simp [has_more hq, h12]
  · have p : hasLine (k + 1) f i ↔ hasLine k f i := by rw [has_more hq]; simp [e]
    by_cases h : hasLine k f i
    · have h' := p.2 h
      simp [e, h, h']
    · have h' : ¬ hasLine (k + 1) f i := fun x => h (p.1 x)
      simp [e, h, h']
theorem fkD_more {d : Nat → Bool} {f : Nat → Int} {k q : Nat} (hq : f k = (q : Int)) : flD (fkD d (hasLine k f)) q = fkD d (hasLine (k + 1) f) := by
  funext i
  unfold flD fkD
  by_cases e : i = q
  · simp [has_more hq, e]
  · have p : hasLine (k + 1) f i ↔ hasLine k f i := by rw [has_more hq]; simp [e]
    by_cases h : hasLine k f i
    · have h' := p.2 h
      simp [e, h, h']
    · have h' : ¬ hasLine (k + 1) f i := fun x => h (p.1 x)
      simp [e, h, h']
theorem fp_same {s c : Nat → Nat → Int} {P : Nat → Prop} {i : Nat} (hi : i < 12) (j : Nat) : fpS s c P 12 i j = fpC s c P 12 i j := by
  unfold fpS fpC
  rw [if_pos hi, if_pos hi]
theorem hcell_back {s c : Nat → Nat → Int} {d d0 : Nat → Bool} {P : Nat → Prop} (j : Nat) (hj : j < 108) :
    (if 96 ≤ j ∧ j < 96 + 12 then Value.bool false else if 48 ≤ j ∧ j < 48 + 48 then hcell (fpS s c P 12) c d0 (0 + (j - 48)) else hcell (fpS s c P 12) c d0 j) = hcell (fpS s c P 12) (fpC s c P 12) (faD d 12) j := by
  unfold hcell
  by_cases h1 : j < 48
  · rw [if_neg (by omega), if_neg (by omega), if_pos h1, if_pos h1]
  · by_cases h2 : j < 96
    · have e1 : 0 + (j - 48) = j - 48 := by omega
      rw [if_neg (by omega), if_pos (by omega), e1, if_pos (by omega), if_neg h1, if_pos h2, fp_same (by omega)]
    · rw [if_pos (by omega), if_neg h1, if_neg h2]
      unfold faD
      rw [if_pos (by omega)]
set_option maxHeartbeats 1600000 in
theorem specFail_any (m : MV) (M : MD) (Y Y2 : Nat → Prop) (w : World) (ao : Option Addr) (n c : Nat) (f : Nat → Int) (h : MemAt Y w m M) (hI0 : IntsAt Y2 w ao n f) :
    Calls Try.prog 114 #[m.val M, .slice ao n c] w (Gives (fwOut M n f) w) := by
  have HI0 : Hid (IntsAt Y2 w ao n f) := hI0
  clear hI0
  go_enter Try.func114, Try.ntmps114
  go_wp2_with fail
  have hb0 : Blw w ((w.alloc (.cells #[.slice m.a1 M.n1 m.c1, .slice m.a2 M.n2 m.c2, .slice m.a3 M.n3 m.c3] 26)).alloc (.cells #[.slice none 0 0, .slice none 0 0, .slice none 0 0] 26)) := ((Blw.refl _).alloc _).alloc _
  have rA := (box3 w (.slice m.a1 M.n1 m.c1) (.slice m.a2 M.n2 m.c2) (.slice m.a3 M.n3 m.c3) 26).blw ((Blw.refl _).alloc (.cells #[.slice none 0 0, .slice none 0 0, .slice none 0 0] 26))
  have rR := res_row w (.slice m.a1 M.n1 m.c1) (.slice m.a2 M.n2 m.c2) (.slice m.a3 M.n3 m.c3)
  refine (goodS_any m M Y _ (h.blw hb0)).mono ?_
  rintro e w1 ⟨b, rfl, hgd, hb1⟩
  replace rA := rA.blw hb1
  replace rR := rR.blw hb1
  replace hb1 := hb0.trans hb1
  replace h := h.blw hb1
  clear hb0
  have HG : Hid (b = true ↔ M.Good) := hgd
  clear hgd
  cases b
  · have NG : Hid (¬ M.Good) := fun g => absurd (HG.out.2 g) (by decide)
    obtain ⟨⟨x0, x1, x2⟩, f0, f1, f2⟩ := res6 rR
    clear HG rA h rR
    go_wp2
    exact bodyPost_ret (v := .tuple #[.agg #[.slice none 0 0, .slice none 0 0, .slice none 0 0], .bool false]) (by simp [results, Try.results114, go_sem, x0, x1, x2]) rfl (zero_gives (Or.inr ⟨fun g => NG.out g.1, rfl, rfl⟩) hb1)
  · have GD : Hid M.Good := HG.out.1 rfl
    clear HG
    go_wp2_with fail
    refine (l1Rising_any ao c n f Y2 _ (HI0.out.blw hb1)).mono ?_
    rintro e w1 ⟨b, rfl, hb, rfl⟩
    have HP : Hid (b = true ↔ rising n f) := hb
    clear hb
    cases b
    · have NP : Hid (¬ rising n f) := fun g => absurd (HP.out.2 g) (by decide)
      obtain ⟨⟨x0, x1, x2⟩, f0, f1, f2⟩ := res6 rR
      clear HP rA h rR
      go_wp2
      exact bodyPost_ret (v := .tuple #[.agg #[.slice none 0 0, .slice none 0 0, .slice none 0 0], .bool false]) (by simp [results, Try.results114, go_sem, x0, x1, x2]) rfl (zero_gives (Or.inr ⟨fun g => NP.out g.2, rfl, rfl⟩) hb1)
    · have NP : Hid (rising n f) := HP.out.1 rfl
      clear HP
      obtain ⟨p0, p1, p2⟩ := get3 rA
      go_wp2_with fail
      clear p0 p1 p2
      refine (l1Fail_any m M Y Y2 _ ao n c f GD.out h (HI0.out.blw hb1)).mono ?_
      rintro e w2 ⟨m2, rfl, own, hb2⟩
      simp only [MV.val, MD.full]
      have rlt := rR.lt
      obtain ⟨⟨x0, x1, x2⟩, f0, f1, f2⟩ := res6 (rR.blw hb2)
      replace hb2 := hb1.trans hb2
      clear rA h rR hb1
      go_wp2
      exact bodyPost_ret (v := .tuple #[.agg #[.slice m2.a1 12 m2.c1, .slice m2.a2 12 m2.c2, .slice m2.a3 12 m2.c3], .bool true]) (by simp [results, Try.results114, go_sem, x0, x1, x2]) rfl (some_gives (Or.inl ⟨GD.out, NP.out, rfl, rfl⟩) hb2 own (fun b hb => by have := hb.1; have := hb.2; exact ⟨by omega, by omega⟩) rfl)
set_option maxRecDepth 10000 in
set_option maxHeartbeats 1600000 in
theorem implFail_any (m : MV) (M : MD) (Y Y2 : Nat → Prop) (w : World) (ao : Option Addr) (n c : Nat) (f : Nat → Int) (h : MemAt Y w m M) (hI0 : IntsAt Y2 w ao n f) :
    Calls Try.prog 34 #[m.val M, .slice ao n c] w (Gives (fwOut M n f) w) := by
  have HI0 : Hid (IntsAt Y2 w ao n f) := hI0
  clear hI0
  go_enter Try.func34, Try.ntmps34
  go_wp2_with fail
  have hb0 : Blw w ((w.alloc (.cells #[.slice m.a1 M.n1 m.c1, .slice m.a2 M.n2 m.c2, .slice m.a3 M.n3 m.c3] 26)).alloc (.cells #[.slice none 0 0, .slice none 0 0, .slice none 0 0] 26)) := ((Blw.refl _).alloc _).alloc _
  have rR := res_row w (.slice m.a1 M.n1 m.c1) (.slice m.a2 M.n2 m.c2) (.slice m.a3 M.n3 m.c3)
  refine (holdMemory_any m M Y _ (h.blw hb0)).mono ?_
  rintro e w1 ⟨hr, hb1⟩
  replace rR := rR.blw hb1
  replace hb1 := hb0.trans hb1
  have r79 := row79 w1
  have zw := hb1.size
  have rlt := rR.lt
  clear h hb0
  rcases hr with ⟨good, cs, z1, z2, rfl⟩ | ⟨bad, rfl⟩
  · have hi : (Try.prog.info? 91).map (·.size) = some cs.size := by rw [z1]; exact info79
    have one := one_cells' z1 z2
    have GD : Hid M.Good := good
    clear good
    go_wp2_with (refine wpList_store_row rfl 91 (.tmp 6) (.tmp 13) rfl w1.heap.size 0 cs rfl rfl 108 _ (hcell M.v1 M.v2 M.d) r79 (by omega) hi one (fun j hj => z2 j (by omega)) ?_; intro wz qz1 qz2 qz3; have hz := held_facts hb1 rR qz1 qz2 z1; obtain ⟨rH, hbz, rZ⟩ := hz; clear qz1 qz2 qz3)
    have zlt := rH.lt
    clear r79 hi one z1 z2 rR hb1
    refine (risingLines_any ao c n f Y2 _ (HI0.out.blw hbz)).mono ?_
    rintro e wz ⟨b, rfl, hb, rfl⟩
    have HP : Hid (b = true ↔ rising n f) := hb
    clear hb
    cases b
    · have NP : Hid (¬ rising n f) := fun g => absurd (HP.out.2 g) (by decide)
      obtain ⟨⟨x0, x1, x2⟩, f0, f1, f2⟩ := res6 rZ
      clear HP rH rZ
      go_wp2
      exact bodyPost_ret (v := .tuple #[.agg #[.slice none 0 0, .slice none 0 0, .slice none 0 0], .bool false]) (by simp [results, Try.results34, go_sem, x0, x1, x2]) rfl (zero_gives (Or.inr ⟨fun g => NP.out g.2, rfl, rfl⟩) hbz)
    · have NP : Hid (rising n f) := HP.out.1 rfl
      clear HP
      go_wp2_with fail
      have HZ : Hid (Row wz w1.heap.size 108 (hcell M.v1 M.v2 M.d) ∧ Row wz (w.heap.size + 1) 3 (fun _ => .slice none 0 0) ∧ Blw w wz) := ⟨rH, rZ, hbz⟩
      clear rH rZ hbz zlt
      generalize w1.heap.size = z at *
      have hn := HI0.out.1
      go_loopw [25] (fun i wr => ∃ k : Nat, k ≤ n ∧ i = .int .i64 k ∧ Row wr z 108 (hcell (fpS M.v1 M.v2 (hasLine k f) 12) M.v2 (fkD M.d (hasLine k f))) ∧ Row wr (w.heap.size + 1) 3 (fun _ => .slice none 0 0) ∧ Blw w wr) (fun i _ => n - (intOf i).toNat)
      case atStart => exact ⟨0, by omega, rfl, by rw [fpS_none, fkD_none]; exact HZ.out.1, HZ.out.2.1, HZ.out.2.2⟩
      case round =>
        obtain ⟨k, hk, rfl, rH, rZ, hbz⟩ := hrel
        clear HZ
        by_cases hlt : k < n
        · obtain ⟨b0, o0, rfl, -, cell⟩ := (HI0.out.blw hbz).2 k hlt
          have hlt' : (k : Int) < n := by omega
          obtain ⟨q, hq⟩ := Int.eq_ofNat_of_zero_le (NP.out k hlt).1.1
          have hq12 : q < 12 := by have := (NP.out k hlt).1.2; omega
          rw [hq] at cell
          go_wp2_with fail
          refine (flushLine_any _ _ _ _ q _ hq12 rH).mono ?_
          rintro e w4 ⟨⟨v, rfl⟩, rH4, hm4⟩
          rw [fpS_more hq hq12, fkD_more hq] at rH4
          have J : Row w4 z 108 (hcell (fpS M.v1 M.v2 (hasLine (k + 1) f) 12) M.v2 (fkD M.d (hasLine (k + 1) f))) ∧ Row w4 (w.heap.size + 1) 3 (fun _ => .slice none 0 0) ∧ Blw w w4 := ⟨rH4, rZ.mod hm4 (by omega), Mod.blw hbz hm4 (fun i hi => by omega)⟩
          have HJ : Hid _ := J
          clear rH rZ hbz rH4 hm4 cell J
          go_wp2
          go_roundw
          case rel => exact ⟨k + 1, by omega, by go_num, HJ.out⟩
          case measure => simp [intOf]; omega
        · obtain rfl : k = n := by omega
          have zr := rZ.lt
          have hc2 := part_cells (o := 0) 88 rH (by omega) info76
          obtain ⟨c2, y2, e2, l2, L2, o2⟩ := hc2
          go_wp2_with (first
            | (refine wpList_load_mid rfl 88 (.tmp 32) rfl z 0 rfl c2 _ L2 Try.underlying88 rfl y2 ?_)
            | (refine wpList_store_row rfl 88 (.tmp 34) (.tmp 33) rfl z 48 c2.toArray rfl rfl 108 _ (fun j => hcell (fpS M.v1 M.v2 (hasLine k f) 12) M.v2 (fkD M.d (hasLine k f)) (0 + j)) rH (by rw [l2]; omega) (by rw [l2]; exact info76) o2 (fun j hj => e2 j (by omega)) ?_; intro w5 r5 m5 s5; rw [l2] at r5)
            | (refine wpList_clear_row rfl (.tmp 36) rfl z 96 12 12 rfl (by omega) 108 _ r5 (by omega) ?_; intro w6 r6 m6 s6))
          have rH6 : Row w6 z 108 (hcell (fpS M.v1 M.v2 (hasLine k f) 12) (fpC M.v1 M.v2 (hasLine k f) 12) (faD M.d 12)) := r6.congr (fun j hj => hcell_back j hj)
          replace rZ := (rZ.mod m5 (by omega)).mod m6 (by omega)
          replace hbz : Blw w w6 := Mod.blw (Mod.blw hbz m5 (fun i hi => by omega)) m6 (fun i hi => by omega)
          clear r5 r6 m5 m6 rH y2 e2 l2 L2 o2 s5 s6
          refine (giveOut_any _ _ _ _ _ rH6).mono ?_
          rintro e w7 ⟨m4, rfl, own, hb4⟩
          simp only [MV.val, MD.full]
          obtain ⟨⟨x0, x1, x2⟩, f0, f1, f2⟩ := res6 (rZ.blw hb4)
          replace hbz := hbz.trans hb4
          have r3lt := rZ.lt
          clear rH6 rZ hb4
          go_wp2
          exact bodyPost_ret (v := .tuple #[.agg #[.slice m4.a1 12 m4.c1, .slice m4.a2 12 m4.c2, .slice m4.a3 12 m4.c3], .bool true]) (by simp [results, Try.results34, go_sem, x0, x1, x2]) rfl (some_gives (Or.inl ⟨GD.out, NP.out, rfl, rfl⟩) hbz own (fun b hb => by have := hb.1; have := hb.2; exact ⟨by omega, by omega⟩) rfl)
  · have NG : Hid (¬ M.Good) := bad
    clear bad
    go_wp2_with (refine wpList_store_row rfl 91 (.tmp 6) (.tmp 13) rfl w1.heap.size 0 Try.zeroCells91 rfl rfl 108 _ (hcell zeros zeros (fun _ => false)) r79 (by rw [size79]; omega) (by rw [size79]; exact info79) one79 cell79 ?_; intro wz qz1 qz2 qz3; have hz := held_facts hb1 rR qz1 qz2 size79; obtain ⟨rH, hbz, rZ⟩ := hz; obtain ⟨⟨x0, x1, x2⟩, f0, f1, f2⟩ := res6 rZ; clear qz1 qz2 qz3 rH rZ)
    exact bodyPost_ret (v := .tuple #[.agg #[.slice none 0 0, .slice none 0 0, .slice none 0 0], .bool false]) (by simp [results, Try.results34, go_sem, x0, x1, x2]) rfl (zero_gives (Or.inr ⟨fun g => NG.out g.1, rfl, rfl⟩) hbz)
end Go.Proofs.Ytglllnklcnlcjaa
