/- Merged by program, in this order: Ex, Sp. -/
import Derived.Test.YtbpdopcdhnemfaaJoin9
/- The program's StepGuest, RunGuest, TouchedBy, NewGuest. -/
namespace Go.Proofs.Ytbpdopcdhnemfaa
open Go.RowKit
set_option linter.unusedSimpArgs false
set_option linter.unusedVariables false
theorem mc_held {w : World} {zm : Nat} {p : Value} {D : GD} {st : Nat → Bool} (h : Row w zm 41 (mc p D st)) : Cells w zm 1 32 (hc D) :=
  h.cellsAt 1 32 (by omega) (fun i hi => by unfold mc mcf; rw [if_neg (by omega), if_pos (by omega), Nat.add_sub_cancel_left])
theorem GD.zero_small : GD.small GD.zero := by show 0 + 0 ≤ 1048576; omega
theorem GD.Good.small {D : GD} (h : D.Good) : D.small := by have := h.nc; have := h.nt; show _ ≤ _; omega
def stOut (n : Nat) (F : Nat → Nat → Int) (D R : GD) (r : Bool) : Prop := ((progOK n F ∧ D.Good ∧ D.d = false) ∧ R = stepG n F D ∧ r = true) ∨ (¬ (progOK n F ∧ D.Good ∧ D.d = false) ∧ R = GD.zero ∧ r = false)
theorem stOut_same {n : Nat} {F : Nat → Nat → Int} {D R R' : GD} {r r' : Bool} (h : stOut n F D R r) (k : stOut n F D R' r') : R = R' ∧ r = r' := by
  rcases h with ⟨g, rfl, rfl⟩ | ⟨g, rfl, rfl⟩ <;> rcases k with ⟨l, rfl, rfl⟩ | ⟨l, rfl, rfl⟩
  · exact ⟨rfl, rfl⟩
  · exact absurd g l
  · exact absurd l g
  · exact ⟨rfl, rfl⟩
def rgOut (n : Nat) (F : Nat → Nat → Int) (D : GD) (k : Int) (R : GD) (x : Int) (r : Bool) : Prop := ((progOK n F ∧ D.Good ∧ stepsOK k) ∧ R = runG n F k.toNat D ∧ x = (manyG n F k.toNat D : Int) ∧ r = true) ∨ (¬ (progOK n F ∧ D.Good ∧ stepsOK k) ∧ R = GD.zero ∧ x = 0 ∧ r = false)
theorem rgOut_same {n : Nat} {F : Nat → Nat → Int} {D R R' : GD} {k x x' : Int} {r r' : Bool} (h : rgOut n F D k R x r) (q : rgOut n F D k R' x' r') : R = R' ∧ x = x' ∧ r = r' := by
  rcases h with ⟨g, rfl, rfl, rfl⟩ | ⟨g, rfl, rfl, rfl⟩ <;> rcases q with ⟨l, rfl, rfl, rfl⟩ | ⟨l, rfl, rfl, rfl⟩
  · exact ⟨rfl, rfl, rfl⟩
  · exact absurd g l
  · exact absurd l g
  · exact ⟨rfl, rfl, rfl⟩
def tbOut (n : Nat) (F : Nat → Nat → Int) (D : GD) (k : Int) (m : Nat) (f : Nat → Int) (r : Bool) : Prop := ((progOK n F ∧ D.Good ∧ stepsOK k) ∧ r = true ∧ rising m f ∧ ∀ x, isIn m f x ↔ ∃ i : Nat, x = i ∧ tchG n F k.toNat D i) ∨ (¬ (progOK n F ∧ D.Good ∧ stepsOK k) ∧ m = 0 ∧ r = false)
theorem rising_same {n n' : Nat} {f f' : Nat → Int} (r : rising n f) (r' : rising n' f') (h : ∀ y, isIn n f y ↔ isIn n' f' y) : n = n' ∧ ∀ i, i < n → f i = f' i := by
  have key : ∀ i, i < n → i < n' → f i = f' i := by
    intro i
    induction i using Nat.strongRecOn with
    | _ i ih =>
      intro h1 h2
      obtain ⟨j, hj, e⟩ := (h (f i)).1 ⟨i, h1, rfl⟩
      obtain ⟨k, hk, e'⟩ := (h (f' i)).2 ⟨i, h2, rfl⟩
      have a1 : i ≤ j := by
        rcases Nat.lt_or_ge j i with q | q
        · have := ih j q (by omega) hj
          have := r j i q h1
          omega
        · exact q
      have a2 : i ≤ k := by
        rcases Nat.lt_or_ge k i with q | q
        · have := ih k q hk (by omega)
          have := r' k i q h2
          omega
        · exact q
      have b1 : f' i ≤ f i := by
        rcases Nat.lt_or_ge i j with q | q
        · have := r' i j q hj; omega
        · obtain rfl : i = j := by omega
          omega
      have b2 : f i ≤ f' i := by
        rcases Nat.lt_or_ge i k with q | q
        · have := r i k q hk; omega
        · obtain rfl : i = k := by omega
          omega
      omega
  have hn : n = n' := by
    rcases Nat.lt_trichotomy n n' with q | q | q
    · obtain ⟨k, hk, e⟩ := (h (f' n)).2 ⟨n, q, rfl⟩
      have := key k hk (by omega)
      have := r' k n hk q
      omega
    · exact q
    · obtain ⟨k, hk, e⟩ := (h (f n')).1 ⟨n', q, rfl⟩
      have := key k (by omega) hk
      have := r k n' hk q
      omega
  subst hn
  exact ⟨rfl, fun i hi => key i hi hi⟩
theorem lf_last (L : List Nat) (x : Nat) (i : Nat) : lf (L ++ [x]) i = if i < L.length then lf L i else if i = L.length then (x : Int) else 0 := by
  unfold lf
  by_cases h : i < L.length
  · rw [if_pos h]; simp [List.getD, List.getElem?_append_left h]
  · rw [if_neg h]
    by_cases e : i = L.length
    · subst e; simp [List.getD]
    · rw [if_neg e]
      have : (L ++ [x]).length ≤ i := by simp; omega
      simp [List.getD, List.getElem?_eq_none this]
theorem pk_rising (P : Nat → Bool) : ∀ n, rising (pk P n).length (lf (pk P n)) ∧ ∀ i, i < (pk P n).length → 0 ≤ lf (pk P n) i ∧ lf (pk P n) i < n
  | 0 => ⟨fun i j _ hj => absurd hj (Nat.not_lt_zero _), fun i hi => absurd hi (Nat.not_lt_zero _)⟩
  | n + 1 => by
    obtain ⟨h1, h2⟩ := pk_rising P n
    cases hp : P n
    · rw [pk_no hp]
      exact ⟨h1, fun i hi => by have := h2 i hi; omega⟩
    · rw [pk_yes hp]
      have hl : (pk P n ++ [n]).length = (pk P n).length + 1 := by simp
      rw [hl]
      refine ⟨fun i j hij hj => ?_, fun i hi => ?_⟩
      · rw [lf_last, lf_last, if_pos (by omega)]
        by_cases e : j < (pk P n).length
        · rw [if_pos e]; exact h1 i j hij e
        · rw [if_neg e, if_pos (by omega)]
          have := h2 i (by omega)
          omega
      · rw [lf_last]
        by_cases e : i < (pk P n).length
        · rw [if_pos e]; have := h2 i e; omega
        · rw [if_neg e, if_pos (by omega)]; omega
theorem tbOut_same {n : Nat} {F : Nat → Nat → Int} {D : GD} {k : Int} {m m' : Nat} {f f' : Nat → Int} {r r' : Bool} (h : tbOut n F D k m f r) (q : tbOut n F D k m' f' r') : (m = m' ∧ ∀ i, i < m → f i = f' i) ∧ r = r' := by
  rcases h with ⟨g, rfl, h1, h2⟩ | ⟨g, rfl, rfl⟩ <;> rcases q with ⟨l, rfl, l1, l2⟩ | ⟨l, rfl, rfl⟩
  · exact ⟨rising_same h1 l1 (fun y => (h2 y).trans (l2 y).symm), rfl⟩
  · exact absurd g l
  · exact absurd l g
  · exact ⟨⟨rfl, fun i hi => absurd hi (Nat.not_lt_zero _)⟩, rfl⟩
set_option maxRecDepth 10000 in
set_option maxHeartbeats 3200000 in
theorem implStep_any (ao : Option Addr) (cp n : Nat) (F : Nat → Nat → Int) (v : GV) (D : GD) (X Y : Nat → Prop) (w : World) (hF : KAt 3 X w ao n F) (h : GAt Y w v D) (hY : ∀ b, Y b → b < w.heap.size) :
    Calls Try.prog 50 #[.slice ao n cp, v.val D] w fun e w' => ∃ (u : GV) (R : GD) (r : Bool), e = .returned (.tuple #[u.val R, .bool r]) ∧ stOut n F D R r ∧ R.small ∧ GOwn (fun x => w.heap.size ≤ x ∧ x < w'.heap.size) w' u R ∧ Blw w w' := by
  have HB : Hid (Blw w ((w.alloc (.cells #[.int .i64 D.at_, .int .i64 D.acc, .slice v.a1 D.nc v.c1, .slice v.a2 D.nt v.c2, .bool D.d] 61)).alloc (.cells #[.int .i64 0, .int .i64 0, .slice none 0 0, .slice none 0 0, .bool false] 61))) := ((Blw.refl _).alloc _).alloc _
  have R0 : Hid (Row ((w.alloc (.cells #[.int .i64 D.at_, .int .i64 D.acc, .slice v.a1 D.nc v.c1, .slice v.a2 D.nt v.c2, .bool D.d] 61)).alloc (.cells #[.int .i64 0, .int .i64 0, .slice none 0 0, .slice none 0 0, .bool false] 61)) w.heap.size 5 (gb v D)) := (row5 w _ _ _ _ _ 61).blw ((Blw.refl _).alloc _)
  have r1 := row5 (w.alloc (.cells #[.int .i64 D.at_, .int .i64 D.acc, .slice v.a1 D.nc v.c1, .slice v.a2 D.nt v.c2, .bool D.d] 61)) (.int .i64 0) (.int .i64 0) (.slice none 0 0) (.slice none 0 0) (.bool false) 61
  rw [World.size_alloc] at r1
  have HZ : Hid (Row ((w.alloc (.cells #[.int .i64 D.at_, .int .i64 D.acc, .slice v.a1 D.nc v.c1, .slice v.a2 D.nt v.c2, .bool D.d] 61)).alloc (.cells #[.int .i64 0, .int .i64 0, .slice none 0 0, .slice none 0 0, .bool false] 61)) (w.heap.size + 1) 5 (fun i => if i = 0 then .int .i64 0 else if i = 1 then .int .i64 0 else if i = 2 then .slice none 0 0 else if i = 3 then .slice none 0 0 else .bool false)) := r1
  have HS1 : Hid (((w.alloc (.cells #[.int .i64 D.at_, .int .i64 D.acc, .slice v.a1 D.nc v.c1, .slice v.a2 D.nt v.c2, .bool D.d] 61)).alloc (.cells #[.int .i64 0, .int .i64 0, .slice none 0 0, .slice none 0 0, .bool false] 61)).heap.size = w.heap.size + 1 + 1) := by show _ = _; simp
  have HW : Hid (GAt Y w v D ∧ KAt 3 X w ao n F) := ⟨h, hF⟩
  have HYY : Hid (∀ b, Y b → b < w.heap.size) := hY
  clear h hF hY r1
  go_enter Try.func50, Try.ntmps50
  go_upto_region 1 with fail
  generalize ((w.alloc (.cells #[.int .i64 D.at_, .int .i64 D.acc, .slice v.a1 D.nc v.c1, .slice v.a2 D.nt v.c2, .bool D.d] 61)).alloc (.cells #[.int .i64 0, .int .i64 0, .slice none 0 0, .slice none 0 0, .bool false] 61)) = w1 at *
  obtain ⟨p0, p1, p2, p3, p4⟩ := get5 R0.out
  go_wp2_with fail
  clear p0 p1 p2 p3 p4
  have hyy : ∀ b, Y b → b < w1.heap.size := fun b hb => Nat.lt_of_lt_of_le (HYY.out b hb) HB.out.size
  refine (newMachine_any ao cp n F v D X Y _ (HW.out.2.blw HB.out) (HW.out.1.blw HB.out) hyy).mono ?_
  rintro e w2 ⟨⟨zp, hp, hg, rfl, hpr⟩ | ⟨hp, rfl⟩, hb⟩
  case inr =>
    have HN : Hid (¬ (progOK n F ∧ D.Good ∧ D.d = false)) := fun g => hp ⟨g.1, g.2.1⟩
    have HS3 : Hid (w.heap.size + 1 + 1 ≤ w2.heap.size) := by have := hb.size; have := HS1.out; show _ ≤ _; omega
    replace HZ : Hid (Row w2 (w.heap.size + 1) 5 (fun i => if i = 0 then .int .i64 0 else if i = 1 then .int .i64 0 else if i = 2 then .slice none 0 0 else if i = 3 then .slice none 0 0 else .bool false)) := HZ.out.blw hb
    replace HB : Hid (Blw w w2) := HB.out.trans hb
    clear hp hb R0 HW HYY hyy HS1
    go_upto_region 2 with (first | (refine alloc_big rfl 151 rfl 41 mz zeroM ?_; intro wa RA hba hsa) | (refine store_big rfl 151 _ _ rfl _ 41 mz mz rfl rfl wdM RA (fun i _ => mz_one i) ?_; intro wb RB hmb hsb) | fail)
    have hs3 := HS3.out
    replace HZ : Hid (Row wb (w.heap.size + 1) 5 (fun i => if i = 0 then .int .i64 0 else if i = 1 then .int .i64 0 else if i = 2 then .slice none 0 0 else if i = 3 then .slice none 0 0 else .bool false)) := (HZ.out.blw hba).mod hmb (by omega)
    replace HB : Hid (Blw w wb) := Mod.blw (HB.out.trans hba) hmb (fun i hi => by omega)
    clear RA hba hsa RB hmb hsb hs3 HS3
    obtain ⟨t0, t1, t2, t3, t4⟩ := get5 HZ.out
    have f0 := HZ.out.frozen 0; have f1 := HZ.out.frozen 1; have f2 := HZ.out.frozen 2; have f3 := HZ.out.frozen 3; have f4 := HZ.out.frozen 4
    have m1 := set5_modG wb (w.heap.size + 1) (.int .i64 0) (.int .i64 0) (.slice none 0 0) (.slice none 0 0) (.bool false) (X := fun x => x = w.heap.size + 1) rfl
    have HBF : Hid _ := Mod.blw HB.out m1 (fun i hi => by omega)
    clear m1 HZ HB
    go_wp2
    refine bodyPost_ret (v := .tuple #[GV.val GV.zero GD.zero, .bool false]) (by simp [results, Try.results50, go_sem, t0, t1, t2, t3, t4]) rfl ⟨_, _, _, rfl, Or.inr ⟨HN.out, rfl, rfl⟩, GD.zero_small, GOwn.zero _ _, HBF.out⟩
  have HPG : Hid (progOK n F ∧ D.Good) := ⟨hp, hg⟩
  have HZP : Hid (zp < w2.heap.size) := hpr.lt
  have HPR : Hid (Row w2 zp n (fun i => iv (F i 0) (F i 1) (F i 2))) := hpr
  have HS3 : Hid (w.heap.size + 1 + 1 ≤ w2.heap.size) := by have := hb.size; have := HS1.out; show _ ≤ _; omega
  replace HZ : Hid (Row w2 (w.heap.size + 1) 5 (fun i => if i = 0 then .int .i64 0 else if i = 1 then .int .i64 0 else if i = 2 then .slice none 0 0 else if i = 3 then .slice none 0 0 else .bool false)) := HZ.out.blw hb
  replace HB : Hid (Blw w w2) := HB.out.trans hb
  clear hp hg hb hpr R0 HW HYY hyy HS1
  go_upto_region 2 with (first | (refine alloc_big rfl 151 rfl 41 mz zeroM ?_; intro wa RA hba hsa) | (refine store_big rfl 151 _ _ rfl _ 41 (mc (.slice (some ⟨zp, 0, none⟩) n n) D fF) mz rfl rfl wdM RA (fun i _ => mc1 zp n D fF i) ?_; intro wb RB hmb hsb) | fail)
  have hs3 := HS3.out
  replace HZ : Hid (Row wb (w.heap.size + 1) 5 (fun i => if i = 0 then .int .i64 0 else if i = 1 then .int .i64 0 else if i = 2 then .slice none 0 0 else if i = 3 then .slice none 0 0 else .bool false)) := (HZ.out.blw hba).mod hmb (by omega)
  replace HB : Hid (Blw w wb) := Mod.blw (HB.out.trans hba) hmb (fun i hi => by omega)
  have hzp := HZP.out
  replace HPR : Hid (Row wb zp n (fun i => iv (F i 0) (F i 1) (F i 2))) := (HPR.out.blw hba).mod hmb (by omega)
  have HM : Hid (Row wb w2.heap.size 41 (mc (.slice (some ⟨zp, 0, none⟩) n n) D fF)) := RB
  have HNE : Hid (w.heap.size + 1 + 1 ≤ w2.heap.size) := hs3
  clear RA hba hsa RB hmb hsb hs3 HS3 hzp HZP
  generalize w2.heap.size = zm at *
  have p32 : wb.cell? ⟨zm, 32, none⟩ = some (.bool D.d) := HM.out.cell (i := 32) (by omega)
  by_cases hd : D.d = true
  · have HN : Hid (¬ (progOK n F ∧ D.Good ∧ D.d = false)) := fun g => by rw [hd] at g; exact absurd g.2.2 (by decide)
    rw [hd] at p32
    clear hd HM HPR HNE HPG
    obtain ⟨t0, t1, t2, t3, t4⟩ := get5 HZ.out
    have f0 := HZ.out.frozen 0; have f1 := HZ.out.frozen 1; have f2 := HZ.out.frozen 2; have f3 := HZ.out.frozen 3; have f4 := HZ.out.frozen 4
    have m1 := set5_modG wb (w.heap.size + 1) (.int .i64 0) (.int .i64 0) (.slice none 0 0) (.slice none 0 0) (.bool false) (X := fun x => x = w.heap.size + 1) rfl
    have HBF : Hid _ := Mod.blw HB.out m1 (fun i hi => by omega)
    clear m1 HZ HB
    go_wp2
    refine bodyPost_ret (v := .tuple #[GV.val GV.zero GD.zero, .bool false]) (by simp [results, Try.results50, go_sem, t0, t1, t2, t3, t4]) rfl ⟨_, _, _, rfl, Or.inr ⟨HN.out, rfl, rfl⟩, GD.zero_small, GOwn.zero _ _, HBF.out⟩
  have hd' : D.d = false := by cases h9 : D.d; rfl; exact absurd h9 hd
  have HOK : Hid (progOK n F ∧ D.Good ∧ D.d = false) := ⟨HPG.out.1, HPG.out.2, hd'⟩
  rw [hd'] at p32
  clear hd hd'
  go_wp2_with fail
  clear p32
  refine (step_any zm zp n F D fF _ HPG.out.1 HPG.out.2 HPR.out HM.out).mono ?_
  rintro e w3 ⟨⟨u, rfl⟩, hm3, hmod3⟩
  have hne := HNE.out
  replace HZ : Hid (Row w3 (w.heap.size + 1) 5 (fun i => if i = 0 then .int .i64 0 else if i = 1 then .int .i64 0 else if i = 2 then .slice none 0 0 else if i = 3 then .slice none 0 0 else .bool false)) := HZ.out.mod hmod3 (by omega)
  replace HB : Hid (Blw w w3) := Mod.blw HB.out hmod3 (fun i hi => by omega)
  have HG2 : Hid ((stepG n F D).Good) := stepG_good HPG.out.1 HPG.out.2
  have HCL : Hid (Cells w3 zm 1 32 (hc (stepG n F D))) := mc_held hm3
  have HZ3 : Hid (w.heap.size + 1 < w3.heap.size) := by have := hm3.lt; show _ < _; omega
  clear hm3 hmod3 hne HM HPR HNE HPG
  go_wp2_with fail
  refine (giveOut1_any zm (stepG n F D) _ HG2.out HCL.out).mono ?_
  rintro e w4 ⟨u', rfl, own, hb4⟩
  have hz3 := HZ3.out
  have hs4 := hb4.size
  obtain ⟨t0, t1, t2, t3, t4⟩ := get5 (HZ.out.blw hb4)
  have hzz := HZ.out.blw hb4
  have f0 := hzz.frozen 0; have f1 := hzz.frozen 1; have f2 := hzz.frozen 2; have f3 := hzz.frozen 3; have f4 := hzz.frozen 4
  generalize hR : stepG n F D = R at *
  have HRE : Hid (stepG n F D = R) := hR
  clear hR
  have m1 := set5_modG w4 (w.heap.size + 1) (.int .i64 R.at_) (.int .i64 R.acc) (.slice u'.a1 R.nc u'.c1) (.slice u'.a2 R.nt u'.c2) (.bool R.d) (X := fun x => x = w.heap.size + 1) rfl
  have m2 := m1.size
  have HF : Hid (_ ∧ _) := And.intro ((own.mod m1 (fun b hb => by omega)).mono (Y := fun x => w.heap.size ≤ x ∧ x < _) (fun b hb => ⟨by omega, Nat.lt_of_lt_of_le hb.2 m2⟩)) (Mod.blw (HB.out.trans hb4) m1 (fun i hi => by omega))
  clear m1 m2 hzz own hb4 HZ HB HCL hz3 hs4 HZ3
  go_wp2
  refine bodyPost_ret (v := .tuple #[GV.val u' R, .bool true]) (by simp [results, Try.results50, go_sem, t0, t1, t2, t3, t4]) rfl ⟨_, R, _, rfl, Or.inl ⟨HOK.out, HRE.out.symm, rfl⟩, HG2.out.small, HF.out.1, HF.out.2⟩
set_option maxRecDepth 10000 in
set_option maxHeartbeats 3200000 in
theorem implRun_any (ao : Option Addr) (cp n : Nat) (F : Nat → Nat → Int) (v : GV) (D : GD) (k : Int) (X Y : Nat → Prop) (w : World) (hF : KAt 3 X w ao n F) (h : GAt Y w v D) (hY : ∀ b, Y b → b < w.heap.size) :
    Calls Try.prog 38 #[.slice ao n cp, v.val D, .int .i64 k] w fun e w' => ∃ (u : GV) (R : GD) (x : Int) (r : Bool), e = .returned (.tuple #[u.val R, .int .i64 x, .bool r]) ∧ rgOut n F D k R x r ∧ R.small ∧ GOwn (fun x => w.heap.size ≤ x ∧ x < w'.heap.size) w' u R ∧ Blw w w' := by
  have HB : Hid (Blw w ((w.alloc (.cells #[.int .i64 D.at_, .int .i64 D.acc, .slice v.a1 D.nc v.c1, .slice v.a2 D.nt v.c2, .bool D.d] 61)).alloc (.cells #[.int .i64 0, .int .i64 0, .slice none 0 0, .slice none 0 0, .bool false] 61))) := ((Blw.refl _).alloc _).alloc _
  have R0 : Hid (Row ((w.alloc (.cells #[.int .i64 D.at_, .int .i64 D.acc, .slice v.a1 D.nc v.c1, .slice v.a2 D.nt v.c2, .bool D.d] 61)).alloc (.cells #[.int .i64 0, .int .i64 0, .slice none 0 0, .slice none 0 0, .bool false] 61)) w.heap.size 5 (gb v D)) := (row5 w _ _ _ _ _ 61).blw ((Blw.refl _).alloc _)
  have r1 := row5 (w.alloc (.cells #[.int .i64 D.at_, .int .i64 D.acc, .slice v.a1 D.nc v.c1, .slice v.a2 D.nt v.c2, .bool D.d] 61)) (.int .i64 0) (.int .i64 0) (.slice none 0 0) (.slice none 0 0) (.bool false) 61
  rw [World.size_alloc] at r1
  have HZ : Hid (Row ((w.alloc (.cells #[.int .i64 D.at_, .int .i64 D.acc, .slice v.a1 D.nc v.c1, .slice v.a2 D.nt v.c2, .bool D.d] 61)).alloc (.cells #[.int .i64 0, .int .i64 0, .slice none 0 0, .slice none 0 0, .bool false] 61)) (w.heap.size + 1) 5 (fun i => if i = 0 then .int .i64 0 else if i = 1 then .int .i64 0 else if i = 2 then .slice none 0 0 else if i = 3 then .slice none 0 0 else .bool false)) := r1
  have HS1 : Hid (((w.alloc (.cells #[.int .i64 D.at_, .int .i64 D.acc, .slice v.a1 D.nc v.c1, .slice v.a2 D.nt v.c2, .bool D.d] 61)).alloc (.cells #[.int .i64 0, .int .i64 0, .slice none 0 0, .slice none 0 0, .bool false] 61)).heap.size = w.heap.size + 1 + 1) := by show _ = _; simp
  have HW : Hid (GAt Y w v D ∧ KAt 3 X w ao n F) := ⟨h, hF⟩
  have HYY : Hid (∀ b, Y b → b < w.heap.size) := hY
  clear h hF hY r1
  go_enter Try.func38, Try.ntmps38
  go_upto_region 1 with fail
  generalize ((w.alloc (.cells #[.int .i64 D.at_, .int .i64 D.acc, .slice v.a1 D.nc v.c1, .slice v.a2 D.nt v.c2, .bool D.d] 61)).alloc (.cells #[.int .i64 0, .int .i64 0, .slice none 0 0, .slice none 0 0, .bool false] 61)) = w1 at *
  obtain ⟨p0, p1, p2, p3, p4⟩ := get5 R0.out
  go_wp2_with fail
  clear p0 p1 p2 p3 p4
  have hyy : ∀ b, Y b → b < w1.heap.size := fun b hb => Nat.lt_of_lt_of_le (HYY.out b hb) HB.out.size
  refine (runMachine_any ao cp n F v D k X Y _ (HW.out.2.blw HB.out) (HW.out.1.blw HB.out) hyy).mono ?_
  rintro e w2 ⟨⟨zp, su, hok, rfl, hsu⟩ | ⟨hok, rfl⟩, hb⟩
  case inr =>
    have HN : Hid (¬ (progOK n F ∧ D.Good ∧ stepsOK k)) := hok
    have HS3 : Hid (w.heap.size + 1 + 1 ≤ w2.heap.size) := by have := hb.size; have := HS1.out; show _ ≤ _; omega
    replace HZ : Hid (Row w2 (w.heap.size + 1) 5 (fun i => if i = 0 then .int .i64 0 else if i = 1 then .int .i64 0 else if i = 2 then .slice none 0 0 else if i = 3 then .slice none 0 0 else .bool false)) := HZ.out.blw hb
    replace HB : Hid (Blw w w2) := HB.out.trans hb
    clear hok hb R0 HW HYY hyy HS1
    go_upto_region 2 with (first | (refine alloc_big rfl 151 rfl 41 mz zeroM ?_; intro wa RA hba hsa) | (refine store_big rfl 151 _ _ rfl _ 41 mz mz rfl rfl wdM RA (fun i _ => mz_one i) ?_; intro wb RB hmb hsb) | fail)
    have hs3 := HS3.out
    replace HZ : Hid (Row wb (w.heap.size + 1) 5 (fun i => if i = 0 then .int .i64 0 else if i = 1 then .int .i64 0 else if i = 2 then .slice none 0 0 else if i = 3 then .slice none 0 0 else .bool false)) := (HZ.out.blw hba).mod hmb (by omega)
    replace HB : Hid (Blw w wb) := Mod.blw (HB.out.trans hba) hmb (fun i hi => by omega)
    clear RA hba hsa RB hmb hsb hs3 HS3
    obtain ⟨t0, t1, t2, t3, t4⟩ := get5 HZ.out
    have f0 := HZ.out.frozen 0; have f1 := HZ.out.frozen 1; have f2 := HZ.out.frozen 2; have f3 := HZ.out.frozen 3; have f4 := HZ.out.frozen 4
    have m1 := set5_modG wb (w.heap.size + 1) (.int .i64 0) (.int .i64 0) (.slice none 0 0) (.slice none 0 0) (.bool false) (X := fun x => x = w.heap.size + 1) rfl
    have HBF : Hid _ := Mod.blw HB.out m1 (fun i hi => by omega)
    clear m1 HZ HB
    go_wp2
    refine bodyPost_ret (v := .tuple #[GV.val GV.zero GD.zero, .int .i64 0, .bool false]) (by simp [results, Try.results38, go_sem, t0, t1, t2, t3, t4]) rfl ⟨_, _, _, _, rfl, Or.inr ⟨HN.out, rfl, rfl, rfl⟩, GD.zero_small, GOwn.zero _ _, HBF.out⟩
  have HOK : Hid (progOK n F ∧ D.Good ∧ stepsOK k) := hok
  have HG2 : Hid ((runG n F k.toNat D).Good) := runG_good hok.1 _ hok.2.1
  have HMY : Hid (∃ q, q = manyG n F k.toNat D) := ⟨_, rfl⟩
  have HS3 : Hid (w.heap.size + 1 + 1 ≤ w2.heap.size) := by have := hb.size; have := HS1.out; show _ ≤ _; omega
  replace HZ : Hid (Row w2 (w.heap.size + 1) 5 (fun i => if i = 0 then .int .i64 0 else if i = 1 then .int .i64 0 else if i = 2 then .slice none 0 0 else if i = 3 then .slice none 0 0 else .bool false)) := HZ.out.blw hb
  replace HB : Hid (Blw w w2) := HB.out.trans hb
  clear hok hb hsu R0 HW HYY hyy HS1
  go_upto_region 2 with (first | (refine alloc_big rfl 151 rfl 41 mz zeroM ?_; intro wa RA hba hsa) | (refine store_big rfl 151 _ _ rfl _ 41 (mc (.slice (some ⟨zp, 0, none⟩) n n) (runG n F k.toNat D) su) mz rfl rfl wdM RA (fun i _ => mc1 zp n _ su i) ?_; intro wb RB hmb hsb) | fail)
  have hs3 := HS3.out
  replace HZ : Hid (Row wb (w.heap.size + 1) 5 (fun i => if i = 0 then .int .i64 0 else if i = 1 then .int .i64 0 else if i = 2 then .slice none 0 0 else if i = 3 then .slice none 0 0 else .bool false)) := (HZ.out.blw hba).mod hmb (by omega)
  replace HB : Hid (Blw w wb) := Mod.blw (HB.out.trans hba) hmb (fun i hi => by omega)
  have HCL : Hid (Cells wb w2.heap.size 1 32 (hc (runG n F k.toNat D))) := mc_held RB
  have HZ3 : Hid (w.heap.size + 1 < wb.heap.size) := by have := RB.lt; show _ < _; omega
  clear RA hba hsa RB hmb hsb hs3 HS3
  generalize w2.heap.size = zm at *
  go_wp2_with fail
  refine (giveOut1_any zm (runG n F k.toNat D) _ HG2.out HCL.out).mono ?_
  rintro e w4 ⟨u', rfl, own, hb4⟩
  have hz3 := HZ3.out
  have hs4 := hb4.size
  obtain ⟨t0, t1, t2, t3, t4⟩ := get5 (HZ.out.blw hb4)
  have hzz := HZ.out.blw hb4
  have f0 := hzz.frozen 0; have f1 := hzz.frozen 1; have f2 := hzz.frozen 2; have f3 := hzz.frozen 3; have f4 := hzz.frozen 4
  generalize hR : runG n F k.toNat D = R at *
  have HRE : Hid (runG n F k.toNat D = R) := hR
  clear hR
  have m1 := set5_modG w4 (w.heap.size + 1) (.int .i64 R.at_) (.int .i64 R.acc) (.slice u'.a1 R.nc u'.c1) (.slice u'.a2 R.nt u'.c2) (.bool R.d) (X := fun x => x = w.heap.size + 1) rfl
  have m2 := m1.size
  have HF : Hid (_ ∧ _) := And.intro ((own.mod m1 (fun b hb => by omega)).mono (Y := fun x => w.heap.size ≤ x ∧ x < _) (fun b hb => ⟨by omega, Nat.lt_of_lt_of_le hb.2 m2⟩)) (Mod.blw (HB.out.trans hb4) m1 (fun i hi => by omega))
  clear m1 m2 hzz own hb4 HZ HB HCL hz3 hs4 HZ3
  go_wp2
  refine bodyPost_ret (v := .tuple #[GV.val u' R, .int .i64 (manyG n F k.toNat D : Int), .bool true]) (by simp [results, Try.results38, go_sem, t0, t1, t2, t3, t4]) rfl ⟨_, R, _, _, rfl, Or.inl ⟨HOK.out, HRE.out.symm, rfl, rfl⟩, HG2.out.small, HF.out.1, HF.out.2⟩
theorem lf_isIn (R : Nat → Bool) (n : Nat) (x : Int) : isIn (pk R n).length (lf (pk R n)) x ↔ ∃ i : Nat, i < n ∧ x = i ∧ R i = true := by
  induction n with
  | zero => exact ⟨fun ⟨i, hi, _⟩ => absurd hi (Nat.not_lt_zero _), fun ⟨i, hi, _⟩ => absurd hi (Nat.not_lt_zero _)⟩
  | succ n ih =>
    by_cases h : R n = true
    · rw [pk_yes h]
      have hl : (pk R n ++ [n]).length = (pk R n).length + 1 := by simp
      rw [hl]
      constructor
      · rintro ⟨i, hi, e⟩
        rw [lf_last] at e
        by_cases c : i < (pk R n).length
        · rw [if_pos c] at e
          obtain ⟨j, hj, q, r⟩ := ih.1 ⟨i, c, e⟩
          exact ⟨j, by omega, q, r⟩
        · rw [if_neg c, if_pos (by omega)] at e
          exact ⟨n, by omega, e.symm, h⟩
      · rintro ⟨j, hj, q, r⟩
        by_cases c : j = n
        · subst c
          exact ⟨(pk R j).length, by omega, by rw [lf_last, if_neg (by omega), if_pos rfl, q]⟩
        · obtain ⟨i, hi, e⟩ := ih.2 ⟨j, by omega, q, r⟩
          exact ⟨i, by omega, by rw [lf_last, if_pos hi, e]⟩
    · have h2 : R n = false := by cases h9 : R n; rfl; exact absurd h9 h
      rw [pk_no h2, ih]
      constructor
      · rintro ⟨j, hj, q, r⟩
        exact ⟨j, by omega, q, r⟩
      · rintro ⟨j, hj, q, r⟩
        refine ⟨j, ?_, q, r⟩
        by_cases c : j = n
        · subst c; exact absurd r h
        · omega
set_option maxHeartbeats 400000 in
theorem same_any (r : Bool) (w : World) : Calls Try.prog 119 #[.bool r] w fun e w' => e = .returned (.bool r) ∧ w' = w := by
  go_enter Try.func119, Try.ntmps119
  go_wp2
  go_ret
  first | exact ⟨rfl, rfl⟩ | trivial
set_option maxRecDepth 10000 in
set_option maxHeartbeats 1600000 in
theorem places8_any (z : Nat) (R : Nat → Bool) (w : World) (h : ∀ i, i < 8 → w.cell? ⟨z, 33 + i, none⟩ = some (.bool (R i))) :
    Calls Try.prog 118 #[.slice (some ⟨z, 33, none⟩) 8 8, .func (.func 119) #[] #[]] w fun e w' => ∃ ao cap, e = .returned (.slice ao (pk R 8).length cap) ∧ IntsOwn (fun x => w.heap.size ≤ x ∧ x < w'.heap.size) w' ao (pk R 8).length (lf (pk R 8)) ∧ Blw w w' := by
  have H : Hid (∀ i, i < 8 → w.cell? ⟨z, 33 + i, none⟩ = some (.bool (R i))) := h
  clear h
  go_enter Try.func118, Try.ntmps118
  go_wp2_with fail
  go_loopw [5, 10] (fun v i wr => ∃ j : Nat, j ≤ 8 ∧ i = .int .i64 j ∧ Gath w wr v (pk R j)) (fun _ i _ => 8 - (intOf i).toNat)
  case atStart => exact ⟨0, by omega, rfl, ⟨BufL.nil _ _, Blw.refl _⟩⟩
  case round =>
    obtain ⟨j, hj, rfl, hG⟩ := hrel
    have HG : Hid (Gath w wr u5 (pk R j)) := hG
    clear hG
    by_cases hlt : j < 8
    · have hlt' : (j : Int) < 8 := by omega
      have g0 := HG.out.blw.cell (H.out j hlt)
      have HRJ : Hid (∀ b, R j = b → R j = b) := fun b e => e
      go_wp2_with fail
      clear g0
      refine (same_any (R j) _).mono ?_
      rintro e wr ⟨rfl, rfl⟩
      have hle := pk_len R j
      by_cases hr : R j = true
      · obtain ⟨ao, cap, w2, hrun, hG2⟩ := HG.out.push (by omega) j
        have HRN : Hid _ := hrun
        have HN : Hid (Gath w w2 (.slice ao ((pk R j).length + 1) cap) (pk R (j + 1))) := by rw [pk_yes hr]; exact hG2
        rw [hr]
        clear hrun hG2 HG hle HRJ hr
        go_wp2_with (first | (at_builtin; refine wpList_app (.tmp 18) (.tmp 20) 26 (by rfl) ?_; refine ⟨_, _, HRN.out, ?_⟩) | fail)
        go_roundw
        case rel => exact ⟨j + 1, by omega, by go_num, HN.out⟩
        case measure => simp [intOf]; omega
      · have hr2 : R j = false := by cases h9 : R j; rfl; exact absurd h9 hr
        have HN : Hid (Gath w wr u5 (pk R (j + 1))) := by rw [pk_no hr2]; exact HG.out
        rw [hr2]
        clear HG hle HRJ hr hr2
        go_wp2
        go_roundw
        case rel => exact ⟨j + 1, by omega, by go_num, HN.out⟩
        case measure => simp [intOf]; omega
    · obtain rfl : j = 8 := by omega
      have hle := pk_len R 8
      obtain ⟨ao, cap, rfl, own⟩ := HG.out.own (by omega)
      have FIN : Hid (∃ ao' cap', (Ending.returned (.slice ao (pk R 8).length cap)) = .returned (.slice ao' (pk R 8).length cap') ∧ IntsOwn (fun x => w.heap.size ≤ x ∧ x < wr.heap.size) wr ao' (pk R 8).length (lf (pk R 8)) ∧ Blw w wr) := ⟨ao, cap, rfl, own, HG.out.blw⟩
      clear HG own hle
      go_wp2
      exact bodyPost_ret (v := .slice ao (pk R 8).length cap) (by simp [results, Try.results118, go_sem]) rfl FIN.out
set_option maxRecDepth 10000 in
set_option maxHeartbeats 3200000 in
theorem implTouched_any (ao : Option Addr) (cp n : Nat) (F : Nat → Nat → Int) (v : GV) (D : GD) (k : Int) (X Y : Nat → Prop) (w : World) (hF : KAt 3 X w ao n F) (h : GAt Y w v D) (hY : ∀ b, Y b → b < w.heap.size) :
    Calls Try.prog 40 #[.slice ao n cp, v.val D, .int .i64 k] w fun e w' => ∃ (a : Option Addr) (m c : Nat) (f : Nat → Int) (r : Bool), e = .returned (.tuple #[.slice a m c, .bool r]) ∧ tbOut n F D k m f r ∧ m ≤ 1048576 ∧ IntsOwn (fun x => w.heap.size ≤ x ∧ x < w'.heap.size) w' a m f ∧ Blw w w' := by
  have HB : Hid (Blw w (w.alloc (.cells #[.int .i64 D.at_, .int .i64 D.acc, .slice v.a1 D.nc v.c1, .slice v.a2 D.nt v.c2, .bool D.d] 61))) := (Blw.refl _).alloc _
  have R0 : Hid (Row (w.alloc (.cells #[.int .i64 D.at_, .int .i64 D.acc, .slice v.a1 D.nc v.c1, .slice v.a2 D.nt v.c2, .bool D.d] 61)) w.heap.size 5 (gb v D)) := row5 w _ _ _ _ _ 61
  have HW : Hid (GAt Y w v D ∧ KAt 3 X w ao n F) := ⟨h, hF⟩
  have HYY : Hid (∀ b, Y b → b < w.heap.size) := hY
  have HS1 : Hid (w.heap.size ≤ (w.alloc (.cells #[.int .i64 D.at_, .int .i64 D.acc, .slice v.a1 D.nc v.c1, .slice v.a2 D.nt v.c2, .bool D.d] 61)).heap.size) := HB.out.size
  clear h hF hY
  go_enter Try.func40, Try.ntmps40
  go_upto_region 1 with fail
  generalize (w.alloc (.cells #[.int .i64 D.at_, .int .i64 D.acc, .slice v.a1 D.nc v.c1, .slice v.a2 D.nt v.c2, .bool D.d] 61)) = w1 at *
  obtain ⟨p0, p1, p2, p3, p4⟩ := get5 R0.out
  go_wp2_with fail
  clear p0 p1 p2 p3 p4
  have hyy : ∀ b, Y b → b < w1.heap.size := fun b hb => Nat.lt_of_lt_of_le (HYY.out b hb) HB.out.size
  refine (runMachine_any ao cp n F v D k X Y _ (HW.out.2.blw HB.out) (HW.out.1.blw HB.out) hyy).mono ?_
  rintro e w2 ⟨⟨zp, su, hok, rfl, hsu⟩ | ⟨hok, rfl⟩, hb⟩
  case inr =>
    have HN : Hid (¬ (progOK n F ∧ D.Good ∧ stepsOK k)) := hok
    have HS3 : Hid (w.heap.size ≤ w2.heap.size) := Nat.le_trans HS1.out hb.size
    replace HB : Hid (Blw w w2) := HB.out.trans hb
    clear hok hb R0 HW HYY hyy HS1
    go_upto_region 2 with (first | (refine alloc_big rfl 151 rfl 41 mz zeroM ?_; intro wa RA hba hsa) | (refine store_big rfl 151 _ _ rfl _ 41 mz mz rfl rfl wdM RA (fun i _ => mz_one i) ?_; intro wb RB hmb hsb) | fail)
    have hs3 := HS3.out
    replace HB : Hid (Blw w wb) := Mod.blw (HB.out.trans hba) hmb (fun i hi => by omega)
    clear RA hba hsa RB hmb hsb hs3 HS3
    go_wp2
    exact bodyPost_ret (v := .tuple #[.slice none 0 0, .bool false]) (by simp [results, Try.results40, go_sem]) rfl ⟨none, 0, 0, fun _ => 0, false, rfl, Or.inr ⟨HN.out, rfl, rfl⟩, by omega, IntsOwn.nil' _ _ _ _, HB.out⟩
  have HOK : Hid (progOK n F ∧ D.Good ∧ stepsOK k) := hok
  have HSU : Hid (∀ i, su i = true ↔ tchG n F k.toNat D i) := hsu
  have HS3 : Hid (w.heap.size ≤ w2.heap.size) := Nat.le_trans HS1.out hb.size
  replace HB : Hid (Blw w w2) := HB.out.trans hb
  clear hok hb hsu R0 HW HYY hyy HS1
  go_upto_region 2 with (first | (refine alloc_big rfl 151 rfl 41 mz zeroM ?_; intro wa RA hba hsa) | (refine store_big rfl 151 _ _ rfl _ 41 (mc (.slice (some ⟨zp, 0, none⟩) n n) (runG n F k.toNat D) su) mz rfl rfl wdM RA (fun i _ => mc1 zp n _ su i) ?_; intro wb RB hmb hsb) | fail)
  have hs3 := HS3.out
  replace HB : Hid (Blw w wb) := Mod.blw (HB.out.trans hba) hmb (fun i hi => by omega)
  have HCL : Hid (∀ i, i < 8 → wb.cell? ⟨w2.heap.size, 33 + i, none⟩ = some (.bool (su i))) := fun i hi => (RB.cell (i := 33 + i) (by omega)).trans (by rw [mc_st])
  clear RA hba hsa RB hmb hsb hs3 HS3
  generalize w2.heap.size = zm at *
  go_wp2_with fail
  refine (places8_any zm su _ HCL.out).mono ?_
  rintro e w4 ⟨a, c, rfl, own, hb4⟩
  have hs := HB.out.size
  have HO : Hid (IntsOwn (fun x => w.heap.size ≤ x ∧ x < w4.heap.size) w4 a (pk su 8).length (lf (pk su 8)) ∧ Blw w w4) := ⟨own.mono (fun x hx => ⟨by omega, hx.2⟩), HB.out.trans hb4⟩
  have hle := pk_len su 8
  have HT : Hid (tbOut n F D k (pk su 8).length (lf (pk su 8)) true) := Or.inl ⟨HOK.out, rfl, (pk_rising su 8).1, fun x => by
    rw [lf_isIn]
    constructor
    · rintro ⟨i, hi, e, h⟩
      exact ⟨i, e, (HSU.out i).1 h⟩
    · rintro ⟨i, e, h⟩
      exact ⟨i, tchG_lt HOK.out.1 _ HOK.out.2.1 i h, e, (HSU.out i).2 h⟩⟩
  clear own hb4 hs HCL HB HSU
  go_wp2
  exact bodyPost_ret (v := .tuple #[.slice a (pk su 8).length c, .bool true]) (by simp [results, Try.results40, go_sem]) rfl ⟨a, _, c, _, true, rfl, HT.out, by omega, HO.out.1, HO.out.2⟩
end Go.Proofs.Ytbpdopcdhnemfaa
/- The model's StepGuest, RunGuest, TouchedBy. -/
namespace Go.Proofs.Ytbpdopcdhnemfaa
open Go.RowKit
set_option linter.unusedSimpArgs false
set_option linter.unusedVariables false
set_option maxRecDepth 10000 in
set_option maxHeartbeats 3200000 in
theorem specStep_any (ao : Option Addr) (cp n : Nat) (F : Nat → Nat → Int) (v : GV) (D : GD) (X Y : Nat → Prop) (w : World) (hF : KAt 3 X w ao n F) (h : GAt Y w v D) :
    Calls Try.prog 51 #[.slice ao n cp, v.val D] w fun e w' => ∃ (u : GV) (R : GD) (r : Bool), e = .returned (.tuple #[u.val R, .bool r]) ∧ stOut n F D R r ∧ R.small ∧ GOwn (fun x => w.heap.size ≤ x ∧ x < w'.heap.size) w' u R ∧ Blw w w' := by
  have HB : Hid (Blw w ((w.alloc (.cells #[.int .i64 D.at_, .int .i64 D.acc, .slice v.a1 D.nc v.c1, .slice v.a2 D.nt v.c2, .bool D.d] 61)).alloc (.cells #[.int .i64 0, .int .i64 0, .slice none 0 0, .slice none 0 0, .bool false] 61))) := ((Blw.refl _).alloc _).alloc _
  have R0 : Hid (Row ((w.alloc (.cells #[.int .i64 D.at_, .int .i64 D.acc, .slice v.a1 D.nc v.c1, .slice v.a2 D.nt v.c2, .bool D.d] 61)).alloc (.cells #[.int .i64 0, .int .i64 0, .slice none 0 0, .slice none 0 0, .bool false] 61)) w.heap.size 5 (gb v D)) := (row5 w _ _ _ _ _ 61).blw ((Blw.refl _).alloc _)
  have r1 := row5 (w.alloc (.cells #[.int .i64 D.at_, .int .i64 D.acc, .slice v.a1 D.nc v.c1, .slice v.a2 D.nt v.c2, .bool D.d] 61)) (.int .i64 0) (.int .i64 0) (.slice none 0 0) (.slice none 0 0) (.bool false) 61
  rw [World.size_alloc] at r1
  have HZ : Hid (Row ((w.alloc (.cells #[.int .i64 D.at_, .int .i64 D.acc, .slice v.a1 D.nc v.c1, .slice v.a2 D.nt v.c2, .bool D.d] 61)).alloc (.cells #[.int .i64 0, .int .i64 0, .slice none 0 0, .slice none 0 0, .bool false] 61)) (w.heap.size + 1) 5 (fun i => if i = 0 then .int .i64 0 else if i = 1 then .int .i64 0 else if i = 2 then .slice none 0 0 else if i = 3 then .slice none 0 0 else .bool false)) := r1
  have HS1 : Hid (((w.alloc (.cells #[.int .i64 D.at_, .int .i64 D.acc, .slice v.a1 D.nc v.c1, .slice v.a2 D.nt v.c2, .bool D.d] 61)).alloc (.cells #[.int .i64 0, .int .i64 0, .slice none 0 0, .slice none 0 0, .bool false] 61)).heap.size = w.heap.size + 1 + 1) := by show _ = _; simp
  have HW : Hid (GAt Y w v D ∧ KAt 3 X w ao n F) := ⟨h, hF⟩
  clear h hF r1
  go_enter Try.func51, Try.ntmps51
  go_upto_region 1 with fail
  generalize ((w.alloc (.cells #[.int .i64 D.at_, .int .i64 D.acc, .slice v.a1 D.nc v.c1, .slice v.a2 D.nt v.c2, .bool D.d] 61)).alloc (.cells #[.int .i64 0, .int .i64 0, .slice none 0 0, .slice none 0 0, .bool false] 61)) = w1 at *
  go_wp2_with fail
  refine (specGoodP_any ao cp n F X _ (HW.out.2.blw HB.out)).mono ?_
  rintro e w2 ⟨r, rfl, hr, hb⟩
  have H1 : Hid (r = true ↔ progOK n F) := hr
  have HS2 : Hid (w.heap.size + 1 + 1 ≤ w2.heap.size) := by have := hb.size; have := HS1.out; show _ ≤ _; omega
  replace R0 : Hid (Row w2 w.heap.size 5 (gb v D)) := R0.out.blw hb
  replace HZ : Hid (Row w2 (w.heap.size + 1) 5 (fun i => if i = 0 then .int .i64 0 else if i = 1 then .int .i64 0 else if i = 2 then .slice none 0 0 else if i = 3 then .slice none 0 0 else .bool false)) := HZ.out.blw hb
  replace HB : Hid (Blw w w2) := HB.out.trans hb
  clear hr hb HS1
  cases r
  · have HN : Hid (¬ (progOK n F ∧ D.Good ∧ D.d = false)) := fun g => by have := H1.out.2 g.1; cases this
    clear H1
    obtain ⟨t0, t1, t2, t3, t4⟩ := get5 HZ.out
    have f0 := HZ.out.frozen 0; have f1 := HZ.out.frozen 1; have f2 := HZ.out.frozen 2; have f3 := HZ.out.frozen 3; have f4 := HZ.out.frozen 4
    have m1 := set5_modG w2 (w.heap.size + 1) (.int .i64 0) (.int .i64 0) (.slice none 0 0) (.slice none 0 0) (.bool false) (X := fun x => x = w.heap.size + 1) rfl
    have HBF : Hid _ := Mod.blw HB.out m1 (fun i hi => by omega)
    clear m1 HZ HB
    go_wp2
    refine bodyPost_ret (v := .tuple #[GV.val GV.zero GD.zero, .bool false]) (by simp [results, Try.results51, go_sem, t0, t1, t2, t3, t4]) rfl ⟨_, _, _, rfl, Or.inr ⟨HN.out, rfl, rfl⟩, GD.zero_small, GOwn.zero _ _, HBF.out⟩
  have HP : Hid (progOK n F) := H1.out.1 (by first | rfl | trivial)
  clear H1
  obtain ⟨p0, p1, p2, p3, p4⟩ := get5 R0.out
  go_wp2_with fail
  clear p0 p1 p2 p3 p4
  refine (specGoodG_any v D Y _ (HW.out.1.blw HB.out)).mono ?_
  rintro e w3 ⟨r, rfl, hr, hb⟩
  have H1 : Hid (r = true ↔ D.Good) := hr
  have HS3 : Hid (w.heap.size + 1 + 1 ≤ w3.heap.size) := Nat.le_trans HS2.out hb.size
  replace R0 : Hid (Row w3 w.heap.size 5 (gb v D)) := R0.out.blw hb
  replace HZ : Hid (Row w3 (w.heap.size + 1) 5 (fun i => if i = 0 then .int .i64 0 else if i = 1 then .int .i64 0 else if i = 2 then .slice none 0 0 else if i = 3 then .slice none 0 0 else .bool false)) := HZ.out.blw hb
  replace HB : Hid (Blw w w3) := HB.out.trans hb
  clear hr hb HS2
  cases r
  · have HN : Hid (¬ (progOK n F ∧ D.Good ∧ D.d = false)) := fun g => by have := H1.out.2 g.2.1; cases this
    clear H1
    obtain ⟨t0, t1, t2, t3, t4⟩ := get5 HZ.out
    have f0 := HZ.out.frozen 0; have f1 := HZ.out.frozen 1; have f2 := HZ.out.frozen 2; have f3 := HZ.out.frozen 3; have f4 := HZ.out.frozen 4
    have m1 := set5_modG w3 (w.heap.size + 1) (.int .i64 0) (.int .i64 0) (.slice none 0 0) (.slice none 0 0) (.bool false) (X := fun x => x = w.heap.size + 1) rfl
    have HBF : Hid _ := Mod.blw HB.out m1 (fun i hi => by omega)
    clear m1 HZ HB
    go_wp2
    refine bodyPost_ret (v := .tuple #[GV.val GV.zero GD.zero, .bool false]) (by simp [results, Try.results51, go_sem, t0, t1, t2, t3, t4]) rfl ⟨_, _, _, rfl, Or.inr ⟨HN.out, rfl, rfl⟩, GD.zero_small, GOwn.zero _ _, HBF.out⟩
  have HG : Hid D.Good := H1.out.1 (by first | rfl | trivial)
  clear H1
  obtain ⟨p0, p1, p2, p3, p4⟩ := get5 R0.out
  by_cases hd : D.d = true
  · have HN : Hid (¬ (progOK n F ∧ D.Good ∧ D.d = false)) := fun g => by rw [hd] at g; exact absurd g.2.2 (by decide)
    rw [hd] at p4
    clear hd
    obtain ⟨t0, t1, t2, t3, t4⟩ := get5 HZ.out
    have f0 := HZ.out.frozen 0; have f1 := HZ.out.frozen 1; have f2 := HZ.out.frozen 2; have f3 := HZ.out.frozen 3; have f4 := HZ.out.frozen 4
    have m1 := set5_modG w3 (w.heap.size + 1) (.int .i64 0) (.int .i64 0) (.slice none 0 0) (.slice none 0 0) (.bool false) (X := fun x => x = w.heap.size + 1) rfl
    have HBF : Hid _ := Mod.blw HB.out m1 (fun i hi => by omega)
    clear m1 HZ HB
    go_wp2
    refine bodyPost_ret (v := .tuple #[GV.val GV.zero GD.zero, .bool false]) (by simp [results, Try.results51, go_sem, t0, t1, t2, t3, t4]) rfl ⟨_, _, _, rfl, Or.inr ⟨HN.out, rfl, rfl⟩, GD.zero_small, GOwn.zero _ _, HBF.out⟩
  have hd' : D.d = false := by cases h9 : D.d; rfl; exact absurd h9 hd
  have HOK : Hid (progOK n F ∧ D.Good ∧ D.d = false) := ⟨HP.out, HG.out, hd'⟩
  have HDD : Hid (D.d = false) := hd'
  have p4' := p4
  rw [hd'] at p4'
  clear hd hd' p4
  go_upto_region 3 with fail
  clear p0 p1 p2 p3 p4'
  obtain ⟨p0, p1, p2, p3, p4⟩ := get5 R0.out
  go_wp2_with fail
  clear p0 p1 p2 p3 p4
  have hnc : D.nc ≤ 1048576 := by have := HG.out.nc; omega
  have hnt : D.nt ≤ 1048576 := by have := HG.out.nt; omega
  refine (l9Own_any v D Y _ hnc hnt (HW.out.1.blw HB.out)).mono ?_
  rintro e w4 ⟨v1, rfl, own1, hb⟩
  have HKA : Hid (KAt 3 X w4 ao n F) := (HW.out.2.blw HB.out).blw hb
  have HO1 : Hid (MG (fun x => w3.heap.size ≤ x ∧ x < w4.heap.size) w4 v1 D) := own1
  have HS4 : Hid (w3.heap.size ≤ w4.heap.size) := hb.size
  replace R0 : Hid (Row w4 w.heap.size 5 (gb v D)) := R0.out.blw hb
  replace HZ : Hid (Row w4 (w.heap.size + 1) 5 (fun i => if i = 0 then .int .i64 0 else if i = 1 then .int .i64 0 else if i = 2 then .slice none 0 0 else if i = 3 then .slice none 0 0 else .bool false)) := HZ.out.blw hb
  replace HB : Hid (Blw w w4) := HB.out.trans hb
  clear own1 hb
  go_wp2_with fail
  refine (l9Step_any ao cp n F v1 D _ X _ HP.out HG.out HKA.out (fun b hb => hb.2) HO1.out).mono ?_
  rintro e w5 ⟨v2, rfl, own2, hm5⟩
  have hs3 := HS3.out
  have hs5 := hm5.size
  have HG2 : Hid ((stepG n F D).Good) := stepG_good HP.out HG.out
  have HO2 : Hid (GAt (fun b => (w3.heap.size ≤ b ∧ b < w4.heap.size) ∨ (w4.heap.size ≤ b ∧ b < w5.heap.size)) w5 v2 (stepG n F D)) := (own2.own (by have := HG2.out.nt; omega)).at
  replace HZ : Hid (Row w5 (w.heap.size + 1) 5 (fun i => if i = 0 then .int .i64 0 else if i = 1 then .int .i64 0 else if i = 2 then .slice none 0 0 else if i = 3 then .slice none 0 0 else .bool false)) := HZ.out.mod hm5 (fun e => by omega)
  replace HB : Hid (Blw w w5) := Mod.blw HB.out hm5 (fun i hi => by omega)
  have HS5 : Hid (w.heap.size + 1 + 1 ≤ w5.heap.size) := by have := HS4.out; show _ ≤ _; omega
  clear own2 hm5 hs3 hs5 HO1 HKA R0 HS4 HS3 HW
  go_wp2_with fail
  refine (l9Own_any v2 (stepG n F D) _ _ (by have := HG2.out.nc; omega) (by have := HG2.out.nt; omega) HO2.out).mono ?_
  rintro e w6 ⟨u', rfl, own, hb4⟩
  have hs5 := HS5.out
  have hs4 := hb4.size
  have hzz := HZ.out.blw hb4
  obtain ⟨t0, t1, t2, t3, t4⟩ := get5 hzz
  have f0 := hzz.frozen 0; have f1 := hzz.frozen 1; have f2 := hzz.frozen 2; have f3 := hzz.frozen 3; have f4 := hzz.frozen 4
  generalize hR : stepG n F D = R at *
  have HRE : Hid (stepG n F D = R) := hR
  clear hR
  have m1 := set5_modG w6 (w.heap.size + 1) (.int .i64 R.at_) (.int .i64 R.acc) (.slice u'.a1 R.nc u'.c1) (.slice u'.a2 R.nt u'.c2) (.bool R.d) (X := fun x => x = w.heap.size + 1) rfl
  have m2 := m1.size
  have HF : Hid (_ ∧ _) := And.intro (((own.own (by have := HG2.out.nt; omega)).mod m1 (fun b hb => by omega)).mono (Y := fun x => w.heap.size ≤ x ∧ x < _) (fun b hb => ⟨by omega, Nat.lt_of_lt_of_le hb.2 m2⟩)) (Mod.blw (HB.out.trans hb4) m1 (fun i hi => by omega))
  clear m1 m2 hzz own hb4 HZ HB HO2 hs5 hs4 HS5
  go_wp2
  refine bodyPost_ret (v := .tuple #[GV.val u' R, .bool true]) (by simp [results, Try.results51, go_sem, t0, t1, t2, t3, t4]) rfl ⟨_, R, _, rfl, Or.inl ⟨HOK.out, HRE.out.symm, rfl⟩, HG2.out.small, HF.out.1, HF.out.2⟩
end Go.Proofs.Ytbpdopcdhnemfaa
