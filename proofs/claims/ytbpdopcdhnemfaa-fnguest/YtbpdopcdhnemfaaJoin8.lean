/- Merged by program, in this order: Ex, OwnG, Ng, DrawG, DrawSG, SameGm, StpA. -/
import Derived.Test.YtbpdopcdhnemfaaJoin7
/- The program's StepGuest, RunGuest, TouchedBy, NewGuest. -/
namespace Go.Proofs.Ytbpdopcdhnemfaa
open Go.RowKit
set_option linter.unusedSimpArgs false
set_option linter.unusedVariables false
theorem mc_held {w : World} {zm : Nat} {p : Value} {D : GD} {st : Nat → Bool} (h : Row w zm 41 (mc p D st)) : Cells w zm 1 32 (hc D) :=
  h.cellsAt 1 32 (by omega) (fun i hi => by unfold mc mcf; rw [if_neg (by omega), if_pos (by omega), Nat.add_sub_cancel_left])
theorem GD.zero_small : GD.small GD.zero := by show 0 + 0 ≤ 1048576; omega
theorem GD.Good.small {D : GD} (h : D.Good) : D.small := by have := h.nc; have := h.nt; show _ ≤ _; omega
def stOut (n : Nat) (F : Nat → Nat → Int) (D R : GD) (r : Bool) : Prop := ((progOK n F ∧ D.Good ∧ D.d = false) ∧ R = stepG n F D ∧ r = true) ∨ (¬ (progOK n F ∧ D.Good ∧ D.d = false) ∧ R = GD.zero ∧ r = false)
theorem stOut_same {n : Nat} {F : Nat → Nat → Int} {D R R' : GD} {r r' : Bool} (h : stOut n F D R r) (k : stOut n F D R' r') : R = R' ∧ r = r' := by
  rcases h with ⟨g, rfl, rfl⟩ | ⟨g, rfl, rfl⟩ <;> rcases k with ⟨l, rfl, rfl⟩ | ⟨l, rfl, rfl⟩
  · exact ⟨rfl, rfl⟩
  · exact absurd g l
  · exact absurd l g
  · exact ⟨rfl, rfl⟩
def rgOut (n : Nat) (F : Nat → Nat → Int) (D : GD) (k : Int) (R : GD) (x : Int) (r : Bool) : Prop := ((progOK n F ∧ D.Good ∧ stepsOK k) ∧ R = runG n F k.toNat D ∧ x = (manyG n F k.toNat D : Int) ∧ r = true) ∨ (¬ (progOK n F ∧ D.Good ∧ stepsOK k) ∧ R = GD.zero ∧ x = 0 ∧ r = false)
theorem rgOut_same {n : Nat} {F : Nat → Nat → Int} {D R R' : GD} {k x x' : Int} {r r' : Bool} (h : rgOut n F D k R x r) (q : rgOut n F D k R' x' r') : R = R' ∧ x = x' ∧ r = r' := by
  rcases h with ⟨g, rfl, rfl, rfl⟩ | ⟨g, rfl, rfl, rfl⟩ <;> rcases q with ⟨l, rfl, rfl, rfl⟩ | ⟨l, rfl, rfl, rfl⟩
  · exact ⟨rfl, rfl, rfl⟩
  · exact absurd g l
  · exact absurd l g
  · exact ⟨rfl, rfl, rfl⟩
def tbOut (n : Nat) (F : Nat → Nat → Int) (D : GD) (k : Int) (m : Nat) (f : Nat → Int) (r : Bool) : Prop := ((progOK n F ∧ D.Good ∧ stepsOK k) ∧ r = true ∧ rising m f ∧ ∀ x, isIn m f x ↔ ∃ i : Nat, x = i ∧ tchG n F k.toNat D i) ∨ (¬ (progOK n F ∧ D.Good ∧ stepsOK k) ∧ m = 0 ∧ r = false)
theorem rising_same {n n' : Nat} {f f' : Nat → Int} (r : rising n f) (r' : rising n' f') (h : ∀ y, isIn n f y ↔ isIn n' f' y) : n = n' ∧ ∀ i, i < n → f i = f' i := by
  have key : ∀ i, i < n → i < n' → f i = f' i := by
    intro i
    induction i using Nat.strongRecOn with
    | _ i ih =>
      intro h1 h2
      obtain ⟨j, hj, e⟩ := (h (f i)).1 ⟨i, h1, rfl⟩
      obtain ⟨k, hk, e'⟩ := (h (f' i)).2 ⟨i, h2, rfl⟩
      have a1 : i ≤ j := by
        rcases Nat.lt_or_ge j i with q | q
        · have := ih j q (by omega) hj
          have := r j i q h1
          omega
        · exact q
      have a2 : i ≤ k := by
        rcases Nat.lt_or_ge k i with q | q
        · have := ih k q hk (by omega)
          have := r' k i q h2
          omega
        · exact q
      have b1 : f' i ≤ f i := by
        rcases Nat.lt_or_ge i j with q | q
        · have := r' i j q hj; omega
        · obtain rfl : i = j := by omega
          omega
      have b2 : f i ≤ f' i := by
        rcases Nat.lt_or_ge i k with q | q
        · have := r i k q hk; omega
        · obtain rfl : i = k := by omega
          omega
      omega
  have hn : n = n' := by
    rcases Nat.lt_trichotomy n n' with q | q | q
    · obtain ⟨k, hk, e⟩ := (h (f' n)).2 ⟨n, q, rfl⟩
      have := key k hk (by omega)
      have := r' k n hk q
      omega
    · exact q
    · obtain ⟨k, hk, e⟩ := (h (f n')).1 ⟨n', q, rfl⟩
      have := key k (by omega) hk
      have := r k n' hk q
      omega
  subst hn
  exact ⟨rfl, fun i hi => key i hi hi⟩
theorem lf_last (L : List Nat) (x : Nat) (i : Nat) : lf (L ++ [x]) i = if i < L.length then lf L i else if i = L.length then (x : Int) else 0 := by
  unfold lf
  by_cases h : i < L.length
  · rw [if_pos h]; simp [List.getD, List.getElem?_append_left h]
  · rw [if_neg h]
    by_cases e : i = L.length
    · subst e; simp [List.getD]
    · rw [if_neg e]
      have : (L ++ [x]).length ≤ i := by simp; omega
      simp [List.getD, List.getElem?_eq_none this]
theorem pk_rising (P : Nat → Bool) : ∀ n, rising (pk P n).length (lf (pk P n)) ∧ ∀ i, i < (pk P n).length → 0 ≤ lf (pk P n) i ∧ lf (pk P n) i < n
  | 0 => ⟨fun i j _ hj => absurd hj (Nat.not_lt_zero _), fun i hi => absurd hi (Nat.not_lt_zero _)⟩
  | n + 1 => by
    obtain ⟨h1, h2⟩ := pk_rising P n
    cases hp : P n
    · rw [pk_no hp]
      exact ⟨h1, fun i hi => by have := h2 i hi; omega⟩
    · rw [pk_yes hp]
      have hl : (pk P n ++ [n]).length = (pk P n).length + 1 := by simp
      rw [hl]
      refine ⟨fun i j hij hj => ?_, fun i hi => ?_⟩
      · rw [lf_last, lf_last, if_pos (by omega)]
        by_cases e : j < (pk P n).length
        · rw [if_pos e]; exact h1 i j hij e
        · rw [if_neg e, if_pos (by omega)]
          have := h2 i (by omega)
          omega
      · rw [lf_last]
        by_cases e : i < (pk P n).length
        · rw [if_pos e]; have := h2 i e; omega
        · rw [if_neg e, if_pos (by omega)]; omega
theorem tbOut_same {n : Nat} {F : Nat → Nat → Int} {D : GD} {k : Int} {m m' : Nat} {f f' : Nat → Int} {r r' : Bool} (h : tbOut n F D k m f r) (q : tbOut n F D k m' f' r') : (m = m' ∧ ∀ i, i < m → f i = f' i) ∧ r = r' := by
  rcases h with ⟨g, rfl, h1, h2⟩ | ⟨g, rfl, rfl⟩ <;> rcases q with ⟨l, rfl, l1, l2⟩ | ⟨l, rfl, rfl⟩
  · exact ⟨rising_same h1 l1 (fun y => (h2 y).trans (l2 y).symm), rfl⟩
  · exact absurd g l
  · exact absurd l g
  · exact ⟨⟨rfl, fun i hi => absurd hi (Nat.not_lt_zero _)⟩, rfl⟩
set_option maxRecDepth 10000 in
set_option maxHeartbeats 3200000 in
theorem implStep_any (ao : Option Addr) (cp n : Nat) (F : Nat → Nat → Int) (v : GV) (D : GD) (X Y : Nat → Prop) (w : World) (hF : KAt 3 X w ao n F) (h : GAt Y w v D) (hY : ∀ b, Y b → b < w.heap.size) :
    Calls Try.prog 50 #[.slice ao n cp, v.val D] w fun e w' => ∃ (u : GV) (R : GD) (r : Bool), e = .returned (.tuple #[u.val R, .bool r]) ∧ stOut n F D R r ∧ R.small ∧ GOwn (fun x => w.heap.size ≤ x ∧ x < w'.heap.size) w' u R ∧ Blw w w' := by
  have HB : Hid (Blw w ((w.alloc (.cells #[.int .i64 D.at_, .int .i64 D.acc, .slice v.a1 D.nc v.c1, .slice v.a2 D.nt v.c2, .bool D.d] 61)).alloc (.cells #[.int .i64 0, .int .i64 0, .slice none 0 0, .slice none 0 0, .bool false] 61))) := ((Blw.refl _).alloc _).alloc _
  have R0 : Hid (Row ((w.alloc (.cells #[.int .i64 D.at_, .int .i64 D.acc, .slice v.a1 D.nc v.c1, .slice v.a2 D.nt v.c2, .bool D.d] 61)).alloc (.cells #[.int .i64 0, .int .i64 0, .slice none 0 0, .slice none 0 0, .bool false] 61)) w.heap.size 5 (gb v D)) := (row5 w _ _ _ _ _ 61).blw ((Blw.refl _).alloc _)
  have r1 := row5 (w.alloc (.cells #[.int .i64 D.at_, .int .i64 D.acc, .slice v.a1 D.nc v.c1, .slice v.a2 D.nt v.c2, .bool D.d] 61)) (.int .i64 0) (.int .i64 0) (.slice none 0 0) (.slice none 0 0) (.bool false) 61
  rw [World.size_alloc] at r1
  have HZ : Hid (Row ((w.alloc (.cells #[.int .i64 D.at_, .int .i64 D.acc, .slice v.a1 D.nc v.c1, .slice v.a2 D.nt v.c2, .bool D.d] 61)).alloc (.cells #[.int .i64 0, .int .i64 0, .slice none 0 0, .slice none 0 0, .bool false] 61)) (w.heap.size + 1) 5 (fun i => if i = 0 then .int .i64 0 else if i = 1 then .int .i64 0 else if i = 2 then .slice none 0 0 else if i = 3 then .slice none 0 0 else .bool false)) := r1
  have HS1 : Hid (((w.alloc (.cells #[.int .i64 D.at_, .int .i64 D.acc, .slice v.a1 D.nc v.c1, .slice v.a2 D.nt v.c2, .bool D.d] 61)).alloc (.cells #[.int .i64 0, .int .i64 0, .slice none 0 0, .slice none 0 0, .bool false] 61)).heap.size = w.heap.size + 1 + 1) := by show _ = _; simp
  have HW : Hid (GAt Y w v D ∧ KAt 3 X w ao n F) := ⟨h, hF⟩
  have HYY : Hid (∀ b, Y b → b < w.heap.size) := hY
  clear h hF hY r1
  go_enter Try.func50, Try.ntmps50
  go_upto_region 1 with fail
  generalize ((w.alloc (.cells #[.int .i64 D.at_, .int .i64 D.acc, .slice v.a1 D.nc v.c1, .slice v.a2 D.nt v.c2, .bool D.d] 61)).alloc (.cells #[.int .i64 0, .int .i64 0, .slice none 0 0, .slice none 0 0, .bool false] 61)) = w1 at *
  obtain ⟨p0, p1, p2, p3, p4⟩ := get5 R0.out
  go_wp2_with fail
  clear p0 p1 p2 p3 p4
  have hyy : ∀ b, Y b → b < w1.heap.size := fun b hb => Nat.lt_of_lt_of_le (HYY.out b hb) HB.out.size
  refine (newMachine_any ao cp n F v D X Y _ (HW.out.2.blw HB.out) (HW.out.1.blw HB.out) hyy).mono ?_
  rintro e w2 ⟨⟨zp, hp, hg, rfl, hpr⟩ | ⟨hp, rfl⟩, hb⟩
  case inr =>
    have HN : Hid (¬ (progOK n F ∧ D.Good ∧ D.d = false)) := fun g => hp ⟨g.1, g.2.1⟩
    have HS3 : Hid (w.heap.size + 1 + 1 ≤ w2.heap.size) := by have := hb.size; have := HS1.out; show _ ≤ _; omega
    replace HZ : Hid (Row w2 (w.heap.size + 1) 5 (fun i => if i = 0 then .int .i64 0 else if i = 1 then .int .i64 0 else if i = 2 then .slice none 0 0 else if i = 3 then .slice none 0 0 else .bool false)) := HZ.out.blw hb
    replace HB : Hid (Blw w w2) := HB.out.trans hb
    clear hp hb R0 HW HYY hyy HS1
    go_upto_region 2 with (first | (refine alloc_big rfl 151 rfl 41 mz zeroM ?_; intro wa RA hba hsa) | (refine store_big rfl 151 _ _ rfl _ 41 mz mz rfl rfl wdM RA (fun i _ => mz_one i) ?_; intro wb RB hmb hsb) | fail)
    have hs3 := HS3.out
    replace HZ : Hid (Row wb (w.heap.size + 1) 5 (fun i => if i = 0 then .int .i64 0 else if i = 1 then .int .i64 0 else if i = 2 then .slice none 0 0 else if i = 3 then .slice none 0 0 else .bool false)) := (HZ.out.blw hba).mod hmb (by omega)
    replace HB : Hid (Blw w wb) := Mod.blw (HB.out.trans hba) hmb (fun i hi => by omega)
    clear RA hba hsa RB hmb hsb hs3 HS3
    obtain ⟨t0, t1, t2, t3, t4⟩ := get5 HZ.out
    have f0 := HZ.out.frozen 0; have f1 := HZ.out.frozen 1; have f2 := HZ.out.frozen 2; have f3 := HZ.out.frozen 3; have f4 := HZ.out.frozen 4
    have m1 := set5_modG wb (w.heap.size + 1) (.int .i64 0) (.int .i64 0) (.slice none 0 0) (.slice none 0 0) (.bool false) (X := fun x => x = w.heap.size + 1) rfl
    have HBF : Hid _ := Mod.blw HB.out m1 (fun i hi => by omega)
    clear m1 HZ HB
    go_wp2
    refine bodyPost_ret (v := .tuple #[GV.val GV.zero GD.zero, .bool false]) (by simp [results, Try.results50, go_sem, t0, t1, t2, t3, t4]) rfl ⟨_, _, _, rfl, Or.inr ⟨HN.out, rfl, rfl⟩, GD.zero_small, GOwn.zero _ _, HBF.out⟩
  have HPG : Hid (progOK n F ∧ D.Good) := ⟨hp, hg⟩
  have HZP : Hid (zp < w2.heap.size) := hpr.lt
  have HPR : Hid (Row w2 zp n (fun i => iv (F i 0) (F i 1) (F i 2))) := hpr
  have HS3 : Hid (w.heap.size + 1 + 1 ≤ w2.heap.size) := by have := hb.size; have := HS1.out; show _ ≤ _; omega
  replace HZ : Hid (Row w2 (w.heap.size + 1) 5 (fun i => if i = 0 then .int .i64 0 else if i = 1 then .int .i64 0 else if i = 2 then .slice none 0 0 else if i = 3 then .slice none 0 0 else .bool false)) := HZ.out.blw hb
  replace HB : Hid (Blw w w2) := HB.out.trans hb
  clear hp hg hb hpr R0 HW HYY hyy HS1
  go_upto_region 2 with (first | (refine alloc_big rfl 151 rfl 41 mz zeroM ?_; intro wa RA hba hsa) | (refine store_big rfl 151 _ _ rfl _ 41 (mc (.slice (some ⟨zp, 0, none⟩) n n) D fF) mz rfl rfl wdM RA (fun i _ => mc1 zp n D fF i) ?_; intro wb RB hmb hsb) | fail)
  have hs3 := HS3.out
  replace HZ : Hid (Row wb (w.heap.size + 1) 5 (fun i => if i = 0 then .int .i64 0 else if i = 1 then .int .i64 0 else if i = 2 then .slice none 0 0 else if i = 3 then .slice none 0 0 else .bool false)) := (HZ.out.blw hba).mod hmb (by omega)
  replace HB : Hid (Blw w wb) := Mod.blw (HB.out.trans hba) hmb (fun i hi => by omega)
  have hzp := HZP.out
  replace HPR : Hid (Row wb zp n (fun i => iv (F i 0) (F i 1) (F i 2))) := (HPR.out.blw hba).mod hmb (by omega)
  have HM : Hid (Row wb w2.heap.size 41 (mc (.slice (some ⟨zp, 0, none⟩) n n) D fF)) := RB
  have HNE : Hid (w.heap.size + 1 + 1 ≤ w2.heap.size) := hs3
  clear RA hba hsa RB hmb hsb hs3 HS3 hzp HZP
  generalize w2.heap.size = zm at *
  have p32 : wb.cell? ⟨zm, 32, none⟩ = some (.bool D.d) := HM.out.cell (i := 32) (by omega)
  by_cases hd : D.d = true
  · have HN : Hid (¬ (progOK n F ∧ D.Good ∧ D.d = false)) := fun g => by rw [hd] at g; exact absurd g.2.2 (by decide)
    rw [hd] at p32
    clear hd HM HPR HNE HPG
    obtain ⟨t0, t1, t2, t3, t4⟩ := get5 HZ.out
    have f0 := HZ.out.frozen 0; have f1 := HZ.out.frozen 1; have f2 := HZ.out.frozen 2; have f3 := HZ.out.frozen 3; have f4 := HZ.out.frozen 4
    have m1 := set5_modG wb (w.heap.size + 1) (.int .i64 0) (.int .i64 0) (.slice none 0 0) (.slice none 0 0) (.bool false) (X := fun x => x = w.heap.size + 1) rfl
    have HBF : Hid _ := Mod.blw HB.out m1 (fun i hi => by omega)
    clear m1 HZ HB
    go_wp2
    refine bodyPost_ret (v := .tuple #[GV.val GV.zero GD.zero, .bool false]) (by simp [results, Try.results50, go_sem, t0, t1, t2, t3, t4]) rfl ⟨_, _, _, rfl, Or.inr ⟨HN.out, rfl, rfl⟩, GD.zero_small, GOwn.zero _ _, HBF.out⟩
  have hd' : D.d = false := by cases h9 : D.d; rfl; exact absurd h9 hd
  have HOK : Hid (progOK n F ∧ D.Good ∧ D.d = false) := ⟨HPG.out.1, HPG.out.2, hd'⟩
  rw [hd'] at p32
  clear hd hd'
  go_wp2_with fail
  clear p32
  refine (step_any zm zp n F D fF _ HPG.out.1 HPG.out.2 HPR.out HM.out).mono ?_
  rintro e w3 ⟨⟨u, rfl⟩, hm3, hmod3⟩
  have hne := HNE.out
  replace HZ : Hid (Row w3 (w.heap.size + 1) 5 (fun i => if i = 0 then .int .i64 0 else if i = 1 then .int .i64 0 else if i = 2 then .slice none 0 0 else if i = 3 then .slice none 0 0 else .bool false)) := HZ.out.mod hmod3 (by omega)
  replace HB : Hid (Blw w w3) := Mod.blw HB.out hmod3 (fun i hi => by omega)
  have HG2 : Hid ((stepG n F D).Good) := stepG_good HPG.out.1 HPG.out.2
  have HCL : Hid (Cells w3 zm 1 32 (hc (stepG n F D))) := mc_held hm3
  have HZ3 : Hid (w.heap.size + 1 < w3.heap.size) := by have := hm3.lt; show _ < _; omega
  clear hm3 hmod3 hne HM HPR HNE HPG
  go_wp2_with fail
  refine (giveOut1_any zm (stepG n F D) _ HG2.out HCL.out).mono ?_
  rintro e w4 ⟨u', rfl, own, hb4⟩
  have hz3 := HZ3.out
  have hs4 := hb4.size
  obtain ⟨t0, t1, t2, t3, t4⟩ := get5 (HZ.out.blw hb4)
  have hzz := HZ.out.blw hb4
  have f0 := hzz.frozen 0; have f1 := hzz.frozen 1; have f2 := hzz.frozen 2; have f3 := hzz.frozen 3; have f4 := hzz.frozen 4
  generalize hR : stepG n F D = R at *
  have HRE : Hid (stepG n F D = R) := hR
  clear hR
  have m1 := set5_modG w4 (w.heap.size + 1) (.int .i64 R.at_) (.int .i64 R.acc) (.slice u'.a1 R.nc u'.c1) (.slice u'.a2 R.nt u'.c2) (.bool R.d) (X := fun x => x = w.heap.size + 1) rfl
  have m2 := m1.size
  have HF : Hid (_ ∧ _) := And.intro ((own.mod m1 (fun b hb => by omega)).mono (Y := fun x => w.heap.size ≤ x ∧ x < _) (fun b hb => ⟨by omega, Nat.lt_of_lt_of_le hb.2 m2⟩)) (Mod.blw (HB.out.trans hb4) m1 (fun i hi => by omega))
  clear m1 m2 hzz own hb4 HZ HB HCL hz3 hs4 HZ3
  go_wp2
  refine bodyPost_ret (v := .tuple #[GV.val u' R, .bool true]) (by simp [results, Try.results50, go_sem, t0, t1, t2, t3, t4]) rfl ⟨_, R, _, rfl, Or.inl ⟨HOK.out, HRE.out.symm, rfl⟩, HG2.out.small, HF.out.1, HF.out.2⟩
set_option maxRecDepth 10000 in
set_option maxHeartbeats 3200000 in
theorem implRun_any (ao : Option Addr) (cp n : Nat) (F : Nat → Nat → Int) (v : GV) (D : GD) (k : Int) (X Y : Nat → Prop) (w : World) (hF : KAt 3 X w ao n F) (h : GAt Y w v D) (hY : ∀ b, Y b → b < w.heap.size) :
    Calls Try.prog 38 #[.slice ao n cp, v.val D, .int .i64 k] w fun e w' => ∃ (u : GV) (R : GD) (x : Int) (r : Bool), e = .returned (.tuple #[u.val R, .int .i64 x, .bool r]) ∧ rgOut n F D k R x r ∧ R.small ∧ GOwn (fun x => w.heap.size ≤ x ∧ x < w'.heap.size) w' u R ∧ Blw w w' := by
  have HB : Hid (Blw w ((w.alloc (.cells #[.int .i64 D.at_, .int .i64 D.acc, .slice v.a1 D.nc v.c1, .slice v.a2 D.nt v.c2, .bool D.d] 61)).alloc (.cells #[.int .i64 0, .int .i64 0, .slice none 0 0, .slice none 0 0, .bool false] 61))) := ((Blw.refl _).alloc _).alloc _
  have R0 : Hid (Row ((w.alloc (.cells #[.int .i64 D.at_, .int .i64 D.acc, .slice v.a1 D.nc v.c1, .slice v.a2 D.nt v.c2, .bool D.d] 61)).alloc (.cells #[.int .i64 0, .int .i64 0, .slice none 0 0, .slice none 0 0, .bool false] 61)) w.heap.size 5 (gb v D)) := (row5 w _ _ _ _ _ 61).blw ((Blw.refl _).alloc _)
  have r1 := row5 (w.alloc (.cells #[.int .i64 D.at_, .int .i64 D.acc, .slice v.a1 D.nc v.c1, .slice v.a2 D.nt v.c2, .bool D.d] 61)) (.int .i64 0) (.int .i64 0) (.slice none 0 0) (.slice none 0 0) (.bool false) 61
  rw [World.size_alloc] at r1
  have HZ : Hid (Row ((w.alloc (.cells #[.int .i64 D.at_, .int .i64 D.acc, .slice v.a1 D.nc v.c1, .slice v.a2 D.nt v.c2, .bool D.d] 61)).alloc (.cells #[.int .i64 0, .int .i64 0, .slice none 0 0, .slice none 0 0, .bool false] 61)) (w.heap.size + 1) 5 (fun i => if i = 0 then .int .i64 0 else if i = 1 then .int .i64 0 else if i = 2 then .slice none 0 0 else if i = 3 then .slice none 0 0 else .bool false)) := r1
  have HS1 : Hid (((w.alloc (.cells #[.int .i64 D.at_, .int .i64 D.acc, .slice v.a1 D.nc v.c1, .slice v.a2 D.nt v.c2, .bool D.d] 61)).alloc (.cells #[.int .i64 0, .int .i64 0, .slice none 0 0, .slice none 0 0, .bool false] 61)).heap.size = w.heap.size + 1 + 1) := by show _ = _; simp
  have HW : Hid (GAt Y w v D ∧ KAt 3 X w ao n F) := ⟨h, hF⟩
  have HYY : Hid (∀ b, Y b → b < w.heap.size) := hY
  clear h hF hY r1
  go_enter Try.func38, Try.ntmps38
  go_upto_region 1 with fail
  generalize ((w.alloc (.cells #[.int .i64 D.at_, .int .i64 D.acc, .slice v.a1 D.nc v.c1, .slice v.a2 D.nt v.c2, .bool D.d] 61)).alloc (.cells #[.int .i64 0, .int .i64 0, .slice none 0 0, .slice none 0 0, .bool false] 61)) = w1 at *
  obtain ⟨p0, p1, p2, p3, p4⟩ := get5 R0.out
  go_wp2_with fail
  clear p0 p1 p2 p3 p4
  have hyy : ∀ b, Y b → b < w1.heap.size := fun b hb => Nat.lt_of_lt_of_le (HYY.out b hb) HB.out.size
  refine (runMachine_any ao cp n F v D k X Y _ (HW.out.2.blw HB.out) (HW.out.1.blw HB.out) hyy).mono ?_
  rintro e w2 ⟨⟨zp, su, hok, rfl, hsu⟩ | ⟨hok, rfl⟩, hb⟩
  case inr =>
    have HN : Hid (¬ (progOK n F ∧ D.Good ∧ stepsOK k)) := hok
    have HS3 : Hid (w.heap.size + 1 + 1 ≤ w2.heap.size) := by have := hb.size; have := HS1.out; show _ ≤ _; omega
    replace HZ : Hid (Row w2 (w.heap.size + 1) 5 (fun i => if i = 0 then .int .i64 0 else if i = 1 then .int .i64 0 else if i = 2 then .slice none 0 0 else if i = 3 then .slice none 0 0 else .bool false)) := HZ.out.blw hb
    replace HB : Hid (Blw w w2) := HB.out.trans hb
    clear hok hb R0 HW HYY hyy HS1
    go_upto_region 2 with (first | (refine alloc_big rfl 151 rfl 41 mz zeroM ?_; intro wa RA hba hsa) | (refine store_big rfl 151 _ _ rfl _ 41 mz mz rfl rfl wdM RA (fun i _ => mz_one i) ?_; intro wb RB hmb hsb) | fail)
    have hs3 := HS3.out
    replace HZ : Hid (Row wb (w.heap.size + 1) 5 (fun i => if i = 0 then .int .i64 0 else if i = 1 then .int .i64 0 else if i = 2 then .slice none 0 0 else if i = 3 then .slice none 0 0 else .bool false)) := (HZ.out.blw hba).mod hmb (by omega)
    replace HB : Hid (Blw w wb) := Mod.blw (HB.out.trans hba) hmb (fun i hi => by omega)
    clear RA hba hsa RB hmb hsb hs3 HS3
    obtain ⟨t0, t1, t2, t3, t4⟩ := get5 HZ.out
    have f0 := HZ.out.frozen 0; have f1 := HZ.out.frozen 1; have f2 := HZ.out.frozen 2; have f3 := HZ.out.frozen 3; have f4 := HZ.out.frozen 4
    have m1 := set5_modG wb (w.heap.size + 1) (.int .i64 0) (.int .i64 0) (.slice none 0 0) (.slice none 0 0) (.bool false) (X := fun x => x = w.heap.size + 1) rfl
    have HBF : Hid _ := Mod.blw HB.out m1 (fun i hi => by omega)
    clear m1 HZ HB
    go_wp2
    refine bodyPost_ret (v := .tuple #[GV.val GV.zero GD.zero, .int .i64 0, .bool false]) (by simp [results, Try.results38, go_sem, t0, t1, t2, t3, t4]) rfl ⟨_, _, _, _, rfl, Or.inr ⟨HN.out, rfl, rfl, rfl⟩, GD.zero_small, GOwn.zero _ _, HBF.out⟩
  have HOK : Hid (progOK n F ∧ D.Good ∧ stepsOK k) := hok
  have HG2 : Hid ((runG n F k.toNat D).Good) := runG_good hok.1 _ hok.2.1
  have HMY : Hid (∃ q, q = manyG n F k.toNat D) := ⟨_, rfl⟩
  have HS3 : Hid (w.heap.size + 1 + 1 ≤ w2.heap.size) := by have := hb.size; have := HS1.out; show _ ≤ _; omega
  replace HZ : Hid (Row w2 (w.heap.size + 1) 5 (fun i => if i = 0 then .int .i64 0 else if i = 1 then .int .i64 0 else if i = 2 then .slice none 0 0 else if i = 3 then .slice none 0 0 else .bool false)) := HZ.out.blw hb
  replace HB : Hid (Blw w w2) := HB.out.trans hb
  clear hok hb hsu R0 HW HYY hyy HS1
  go_upto_region 2 with (first | (refine alloc_big rfl 151 rfl 41 mz zeroM ?_; intro wa RA hba hsa) | (refine store_big rfl 151 _ _ rfl _ 41 (mc (.slice (some ⟨zp, 0, none⟩) n n) (runG n F k.toNat D) su) mz rfl rfl wdM RA (fun i _ => mc1 zp n _ su i) ?_; intro wb RB hmb hsb) | fail)
  have hs3 := HS3.out
  replace HZ : Hid (Row wb (w.heap.size + 1) 5 (fun i => if i = 0 then .int .i64 0 else if i = 1 then .int .i64 0 else if i = 2 then .slice none 0 0 else if i = 3 then .slice none 0 0 else .bool false)) := (HZ.out.blw hba).mod hmb (by omega)
  replace HB : Hid (Blw w wb) := Mod.blw (HB.out.trans hba) hmb (fun i hi => by omega)
  have HCL : Hid (Cells wb w2.heap.size 1 32 (hc (runG n F k.toNat D))) := mc_held RB
  have HZ3 : Hid (w.heap.size + 1 < wb.heap.size) := by have := RB.lt; show _ < _; omega
  clear RA hba hsa RB hmb hsb hs3 HS3
  generalize w2.heap.size = zm at *
  go_wp2_with fail
  refine (giveOut1_any zm (runG n F k.toNat D) _ HG2.out HCL.out).mono ?_
  rintro e w4 ⟨u', rfl, own, hb4⟩
  have hz3 := HZ3.out
  have hs4 := hb4.size
  obtain ⟨t0, t1, t2, t3, t4⟩ := get5 (HZ.out.blw hb4)
  have hzz := HZ.out.blw hb4
  have f0 := hzz.frozen 0; have f1 := hzz.frozen 1; have f2 := hzz.frozen 2; have f3 := hzz.frozen 3; have f4 := hzz.frozen 4
  generalize hR : runG n F k.toNat D = R at *
  have HRE : Hid (runG n F k.toNat D = R) := hR
  clear hR
  have m1 := set5_modG w4 (w.heap.size + 1) (.int .i64 R.at_) (.int .i64 R.acc) (.slice u'.a1 R.nc u'.c1) (.slice u'.a2 R.nt u'.c2) (.bool R.d) (X := fun x => x = w.heap.size + 1) rfl
  have m2 := m1.size
  have HF : Hid (_ ∧ _) := And.intro ((own.mod m1 (fun b hb => by omega)).mono (Y := fun x => w.heap.size ≤ x ∧ x < _) (fun b hb => ⟨by omega, Nat.lt_of_lt_of_le hb.2 m2⟩)) (Mod.blw (HB.out.trans hb4) m1 (fun i hi => by omega))
  clear m1 m2 hzz own hb4 HZ HB HCL hz3 hs4 HZ3
  go_wp2
  refine bodyPost_ret (v := .tuple #[GV.val u' R, .int .i64 (manyG n F k.toNat D : Int), .bool true]) (by simp [results, Try.results38, go_sem, t0, t1, t2, t3, t4]) rfl ⟨_, R, _, _, rfl, Or.inl ⟨HOK.out, HRE.out.symm, rfl, rfl⟩, HG2.out.small, HF.out.1, HF.out.2⟩
theorem lf_isIn (R : Nat → Bool) (n : Nat) (x : Int) : isIn (pk R n).length (lf (pk R n)) x ↔ ∃ i : Nat, i < n ∧ x = i ∧ R i = true := by
  induction n with
  | zero => exact ⟨fun ⟨i, hi, _⟩ => absurd hi (Nat.not_lt_zero _), fun ⟨i, hi, _⟩ => absurd hi (Nat.not_lt_zero _)⟩
  | succ n ih =>
    by_cases h : R n = true
    · rw [pk_yes h]
      have hl : (pk R n ++ [n]).length = (pk R n).length + 1 := by simp
      rw [hl]
      constructor
      · rintro ⟨i, hi, e⟩
        rw [lf_last] at e
        by_cases c : i < (pk R n).length
        · rw [if_pos c] at e
          obtain ⟨j, hj, q, r⟩ := ih.1 ⟨i, c, e⟩
          exact ⟨j, by omega, q, r⟩
        · rw [if_neg c, if_pos (by omega)] at e
          exact ⟨n, by omega, e.symm, h⟩
      · rintro ⟨j, hj, q, r⟩
        by_cases c : j = n
        · subst c
          exact ⟨(pk R j).length, by omega, by rw [lf_last, if_neg (by omega), if_pos rfl, q]⟩
        · obtain ⟨i, hi, e⟩ := ih.2 ⟨j, by omega, q, r⟩
          exact ⟨i, by omega, by rw [lf_last, if_pos hi, e]⟩
    · have h2 : R n = false := by cases h9 : R n; rfl; exact absurd h9 h
      rw [pk_no h2, ih]
      constructor
      · rintro ⟨j, hj, q, r⟩
        exact ⟨j, by omega, q, r⟩
      · rintro ⟨j, hj, q, r⟩
        refine ⟨j, ?_, q, r⟩
        by_cases c : j = n
        · subst c; exact absurd r h
        · omega
set_option maxHeartbeats 400000 in
theorem same_any (r : Bool) (w : World) : Calls Try.prog 119 #[.bool r] w fun e w' => e = .returned (.bool r) ∧ w' = w := by
  go_enter Try.func119, Try.ntmps119
  go_wp2
  go_ret
  first | exact ⟨rfl, rfl⟩ | trivial
set_option maxRecDepth 10000 in
set_option maxHeartbeats 1600000 in
theorem places8_any (z : Nat) (R : Nat → Bool) (w : World) (h : ∀ i, i < 8 → w.cell? ⟨z, 33 + i, none⟩ = some (.bool (R i))) :
    Calls Try.prog 118 #[.slice (some ⟨z, 33, none⟩) 8 8, .func (.func 119) #[] #[]] w fun e w' => ∃ ao cap, e = .returned (.slice ao (pk R 8).length cap) ∧ IntsOwn (fun x => w.heap.size ≤ x ∧ x < w'.heap.size) w' ao (pk R 8).length (lf (pk R 8)) ∧ Blw w w' := by
  have H : Hid (∀ i, i < 8 → w.cell? ⟨z, 33 + i, none⟩ = some (.bool (R i))) := h
  clear h
  go_enter Try.func118, Try.ntmps118
  go_wp2_with fail
  go_loopw [5, 10] (fun v i wr => ∃ j : Nat, j ≤ 8 ∧ i = .int .i64 j ∧ Gath w wr v (pk R j)) (fun _ i _ => 8 - (intOf i).toNat)
  case atStart => exact ⟨0, by omega, rfl, ⟨BufL.nil _ _, Blw.refl _⟩⟩
  case round =>
    obtain ⟨j, hj, rfl, hG⟩ := hrel
    have HG : Hid (Gath w wr u5 (pk R j)) := hG
    clear hG
    by_cases hlt : j < 8
    · have hlt' : (j : Int) < 8 := by omega
      have g0 := HG.out.blw.cell (H.out j hlt)
      have HRJ : Hid (∀ b, R j = b → R j = b) := fun b e => e
      go_wp2_with fail
      clear g0
      refine (same_any (R j) _).mono ?_
      rintro e wr ⟨rfl, rfl⟩
      have hle := pk_len R j
      by_cases hr : R j = true
      · obtain ⟨ao, cap, w2, hrun, hG2⟩ := HG.out.push (by omega) j
        have HRN : Hid _ := hrun
        have HN : Hid (Gath w w2 (.slice ao ((pk R j).length + 1) cap) (pk R (j + 1))) := by rw [pk_yes hr]; exact hG2
        rw [hr]
        clear hrun hG2 HG hle HRJ hr
        go_wp2_with (first | (at_builtin; refine wpList_app (.tmp 18) (.tmp 20) 26 (by rfl) ?_; refine ⟨_, _, HRN.out, ?_⟩) | fail)
        go_roundw
        case rel => exact ⟨j + 1, by omega, by go_num, HN.out⟩
        case measure => simp [intOf]; omega
      · have hr2 : R j = false := by cases h9 : R j; rfl; exact absurd h9 hr
        have HN : Hid (Gath w wr u5 (pk R (j + 1))) := by rw [pk_no hr2]; exact HG.out
        rw [hr2]
        clear HG hle HRJ hr hr2
        go_wp2
        go_roundw
        case rel => exact ⟨j + 1, by omega, by go_num, HN.out⟩
        case measure => simp [intOf]; omega
    · obtain rfl : j = 8 := by omega
      have hle := pk_len R 8
      obtain ⟨ao, cap, rfl, own⟩ := HG.out.own (by omega)
      have FIN : Hid (∃ ao' cap', (Ending.returned (.slice ao (pk R 8).length cap)) = .returned (.slice ao' (pk R 8).length cap') ∧ IntsOwn (fun x => w.heap.size ≤ x ∧ x < wr.heap.size) wr ao' (pk R 8).length (lf (pk R 8)) ∧ Blw w wr) := ⟨ao, cap, rfl, own, HG.out.blw⟩
      clear HG own hle
      go_wp2
      exact bodyPost_ret (v := .slice ao (pk R 8).length cap) (by simp [results, Try.results118, go_sem]) rfl FIN.out
set_option maxRecDepth 10000 in
set_option maxHeartbeats 3200000 in
theorem implTouched_any (ao : Option Addr) (cp n : Nat) (F : Nat → Nat → Int) (v : GV) (D : GD) (k : Int) (X Y : Nat → Prop) (w : World) (hF : KAt 3 X w ao n F) (h : GAt Y w v D) (hY : ∀ b, Y b → b < w.heap.size) :
    Calls Try.prog 40 #[.slice ao n cp, v.val D, .int .i64 k] w fun e w' => ∃ (a : Option Addr) (m c : Nat) (f : Nat → Int) (r : Bool), e = .returned (.tuple #[.slice a m c, .bool r]) ∧ tbOut n F D k m f r ∧ m ≤ 1048576 ∧ IntsOwn (fun x => w.heap.size ≤ x ∧ x < w'.heap.size) w' a m f ∧ Blw w w' := by
  have HB : Hid (Blw w (w.alloc (.cells #[.int .i64 D.at_, .int .i64 D.acc, .slice v.a1 D.nc v.c1, .slice v.a2 D.nt v.c2, .bool D.d] 61))) := (Blw.refl _).alloc _
  have R0 : Hid (Row (w.alloc (.cells #[.int .i64 D.at_, .int .i64 D.acc, .slice v.a1 D.nc v.c1, .slice v.a2 D.nt v.c2, .bool D.d] 61)) w.heap.size 5 (gb v D)) := row5 w _ _ _ _ _ 61
  have HW : Hid (GAt Y w v D ∧ KAt 3 X w ao n F) := ⟨h, hF⟩
  have HYY : Hid (∀ b, Y b → b < w.heap.size) := hY
  have HS1 : Hid (w.heap.size ≤ (w.alloc (.cells #[.int .i64 D.at_, .int .i64 D.acc, .slice v.a1 D.nc v.c1, .slice v.a2 D.nt v.c2, .bool D.d] 61)).heap.size) := HB.out.size
  clear h hF hY
  go_enter Try.func40, Try.ntmps40
  go_upto_region 1 with fail
  generalize (w.alloc (.cells #[.int .i64 D.at_, .int .i64 D.acc, .slice v.a1 D.nc v.c1, .slice v.a2 D.nt v.c2, .bool D.d] 61)) = w1 at *
  obtain ⟨p0, p1, p2, p3, p4⟩ := get5 R0.out
  go_wp2_with fail
  clear p0 p1 p2 p3 p4
  have hyy : ∀ b, Y b → b < w1.heap.size := fun b hb => Nat.lt_of_lt_of_le (HYY.out b hb) HB.out.size
  refine (runMachine_any ao cp n F v D k X Y _ (HW.out.2.blw HB.out) (HW.out.1.blw HB.out) hyy).mono ?_
  rintro e w2 ⟨⟨zp, su, hok, rfl, hsu⟩ | ⟨hok, rfl⟩, hb⟩
  case inr =>
    have HN : Hid (¬ (progOK n F ∧ D.Good ∧ stepsOK k)) := hok
    have HS3 : Hid (w.heap.size ≤ w2.heap.size) := Nat.le_trans HS1.out hb.size
    replace HB : Hid (Blw w w2) := HB.out.trans hb
    clear hok hb R0 HW HYY hyy HS1
    go_upto_region 2 with (first | (refine alloc_big rfl 151 rfl 41 mz zeroM ?_; intro wa RA hba hsa) | (refine store_big rfl 151 _ _ rfl _ 41 mz mz rfl rfl wdM RA (fun i _ => mz_one i) ?_; intro wb RB hmb hsb) | fail)
    have hs3 := HS3.out
    replace HB : Hid (Blw w wb) := Mod.blw (HB.out.trans hba) hmb (fun i hi => by omega)
    clear RA hba hsa RB hmb hsb hs3 HS3
    go_wp2
    exact bodyPost_ret (v := .tuple #[.slice none 0 0, .bool false]) (by simp [results, Try.results40, go_sem]) rfl ⟨none, 0, 0, fun _ => 0, false, rfl, Or.inr ⟨HN.out, rfl, rfl⟩, by omega, IntsOwn.nil' _ _ _ _, HB.out⟩
  have HOK : Hid (progOK n F ∧ D.Good ∧ stepsOK k) := hok
  have HSU : Hid (∀ i, su i = true ↔ tchG n F k.toNat D i) := hsu
  have HS3 : Hid (w.heap.size ≤ w2.heap.size) := Nat.le_trans HS1.out hb.size
  replace HB : Hid (Blw w w2) := HB.out.trans hb
  clear hok hb hsu R0 HW HYY hyy HS1
  go_upto_region 2 with (first | (refine alloc_big rfl 151 rfl 41 mz zeroM ?_; intro wa RA hba hsa) | (refine store_big rfl 151 _ _ rfl _ 41 (mc (.slice (some ⟨zp, 0, none⟩) n n) (runG n F k.toNat D) su) mz rfl rfl wdM RA (fun i _ => mc1 zp n _ su i) ?_; intro wb RB hmb hsb) | fail)
  have hs3 := HS3.out
  replace HB : Hid (Blw w wb) := Mod.blw (HB.out.trans hba) hmb (fun i hi => by omega)
  have HCL : Hid (∀ i, i < 8 → wb.cell? ⟨w2.heap.size, 33 + i, none⟩ = some (.bool (su i))) := fun i hi => (RB.cell (i := 33 + i) (by omega)).trans (by rw [mc_st])
  clear RA hba hsa RB hmb hsb hs3 HS3
  generalize w2.heap.size = zm at *
  go_wp2_with fail
  refine (places8_any zm su _ HCL.out).mono ?_
  rintro e w4 ⟨a, c, rfl, own, hb4⟩
  have hs := HB.out.size
  have HO : Hid (IntsOwn (fun x => w.heap.size ≤ x ∧ x < w4.heap.size) w4 a (pk su 8).length (lf (pk su 8)) ∧ Blw w w4) := ⟨own.mono (fun x hx => ⟨by omega, hx.2⟩), HB.out.trans hb4⟩
  have hle := pk_len su 8
  have HT : Hid (tbOut n F D k (pk su 8).length (lf (pk su 8)) true) := Or.inl ⟨HOK.out, rfl, (pk_rising su 8).1, fun x => by
    rw [lf_isIn]
    constructor
    · rintro ⟨i, hi, e, h⟩
      exact ⟨i, e, (HSU.out i).1 h⟩
    · rintro ⟨i, e, h⟩
      exact ⟨i, tchG_lt HOK.out.1 _ HOK.out.2.1 i h, e, (HSU.out i).2 h⟩⟩
  clear own hb4 hs HCL HB HSU
  go_wp2
  exact bodyPost_ret (v := .tuple #[.slice a (pk su 8).length c, .bool true]) (by simp [results, Try.results40, go_sem]) rfl ⟨a, _, c, _, true, rfl, HT.out, by omega, HO.out.1, HO.out.2⟩
end Go.Proofs.Ytbpdopcdhnemfaa
/- Guests: the model's copies. -/
namespace Go.Proofs.Ytbpdopcdhnemfaa
open Go.RowKit
set_option linter.unusedSimpArgs false
set_option linter.unusedVariables false
/-- An empty list that was laid at z, and a list that is appended to it. -/
theorem clone_at {Y : Nat → Prop} {W : World} {z : Nat} {ao : Option Addr} {n : Nat} {f : Nat → Int} (hz : W.heap[z]? = some (.cells #[] 3 (0, 0))) (h : IntsAt Y W ao n f) (hn : n ≤ 1048576) (c : Nat) :
    ∃ ao' cap W2, (Builtin.append_ #[26, 26] 26 #[.slice (some ⟨z, 0, none⟩) 0 0, .slice ao n c]).run Try.prog W = .ok (.slice ao' n cap) W2 ∧ BufI (fun b => b = z ∨ (W.heap.size ≤ b ∧ b < W2.heap.size)) W2 (.slice ao' n cap) n f ∧ Mod (fun b => b = z) W W2 := by
  have hb : Buf 3 1 (fun b => b = z) W (.slice (some ⟨z, 0, none⟩) 0 0) 0 (ic (fun _ => 0)) := Buf.lit (X := fun b => b = z) hz 1 rfl _
  obtain ⟨a, cap, w', h1, h2, h3⟩ := BufI.append hb c h (by omega) 26
  rw [Nat.zero_add] at h1 h2
  refine ⟨a, cap, w', h1, (Buf.congr h2 (fun i hi => by simp [ic, icat])).mono (fun b hb => ?_), h3.mono (fun b hb => ?_)⟩
  · omega
  · simpa [Value.ownBlock, eq_comm] using hb
/-- A guest of the model's own: its lists may be appended to. -/
structure MG (X : Nat → Prop) (w : World) (v : GV) (D : GD) : Prop where
  ex : ∃ X1 X2 : Nat → Prop, (∀ b, X1 b → X b ∧ ¬ X2 b) ∧ (∀ b, X2 b → X b) ∧ IntsOwn X1 w v.a1 D.nc D.c ∧ BufI X2 w (.slice v.a2 D.nt v.c2) D.nt D.t
theorem BufI.own' {X : Nat → Prop} {w : World} {a : Option Addr} {n q : Nat} {f : Nat → Int} (h : BufI X w (.slice a n q) n f) (hn : n ≤ 9223372036854775807) : IntsOwn X w a n f := by
  obtain ⟨a', p, e1, o1⟩ := h.own hn
  simp only [Value.slice.injEq, true_and] at e1
  obtain ⟨rfl, -⟩ := e1
  exact o1
theorem MG.own {X : Nat → Prop} {w : World} {v : GV} {D : GD} (n2 : D.nt ≤ 1048576) (h : MG X w v D) : GOwn X w v D := by
  obtain ⟨X1, X2, d1, d2, hc, ht⟩ := h.ex
  exact ⟨X1, X2, d1, d2, hc, BufI.own' ht (by omega)⟩
theorem MG.mod {X Z : Nat → Prop} {w w' : World} {v : GV} {D : GD} (h : MG X w v D) (hm : Mod Z w w') (hx : ∀ b, X b → ¬ Z b) : MG X w' v D := by
  obtain ⟨X1, X2, d1, d2, hc, ht⟩ := h.ex
  exact ⟨X1, X2, d1, d2, hc.mod' hm (fun b hb => hx b (d1 b hb).1), Buf.mod ht hm (fun b hb => hx b (d2 b hb))⟩
theorem MG.blw {X : Nat → Prop} {w w' : World} {v : GV} {D : GD} (h : MG X w v D) (hb : Blw w w') : MG X w' v D := h.mod (hb.mod (fun _ => False)) (fun _ _ => id)
theorem MG.mono {X Y : Nat → Prop} {w : World} {v : GV} {D : GD} (h : MG X w v D) (hxy : ∀ b, X b → Y b) : MG Y w v D := by
  obtain ⟨X1, X2, d1, d2, hc, ht⟩ := h.ex
  exact ⟨X1, X2, fun b hb => ⟨hxy b (d1 b hb).1, (d1 b hb).2⟩, fun b hb => hxy b (d2 b hb), hc, ht⟩
set_option maxRecDepth 10000 in
set_option maxHeartbeats 3200000 in
theorem l9Own_any (v : GV) (D : GD) (Y : Nat → Prop) (w : World) (n1 : D.nc ≤ 1048576) (n2 : D.nt ≤ 1048576) (h : GAt Y w v D) :
    Calls Try.prog 122 #[v.val D] w fun e w' => ∃ v' : GV, e = .returned (v'.val D) ∧ MG (fun x => w.heap.size ≤ x ∧ x < w'.heap.size) w' v' D ∧ Blw w w' := by
  have hb0 : Blw w ((w.alloc (.cells #[.int .i64 D.at_, .int .i64 D.acc, .slice v.a1 D.nc v.c1, .slice v.a2 D.nt v.c2, .bool D.d] 61)).alloc (.cells #[.int .i64 0, .int .i64 0, .slice none 0 0, .slice none 0 0, .bool false] 61)) := ((Blw.refl _).alloc _).alloc _
  have r0 : Row ((w.alloc (.cells #[.int .i64 D.at_, .int .i64 D.acc, .slice v.a1 D.nc v.c1, .slice v.a2 D.nt v.c2, .bool D.d] 61)).alloc (.cells #[.int .i64 0, .int .i64 0, .slice none 0 0, .slice none 0 0, .bool false] 61)) w.heap.size 5 (gb v D) := (row5 w _ _ _ _ _ 61).blw ((Blw.refl _).alloc _)
  have r1 := row5 (w.alloc (.cells #[.int .i64 D.at_, .int .i64 D.acc, .slice v.a1 D.nc v.c1, .slice v.a2 D.nt v.c2, .bool D.d] 61)) (.int .i64 0) (.int .i64 0) (.slice none 0 0) (.slice none 0 0) (.bool false) 61
  rw [World.size_alloc] at r1
  have R0 : Hid (Row ((w.alloc (.cells #[.int .i64 D.at_, .int .i64 D.acc, .slice v.a1 D.nc v.c1, .slice v.a2 D.nt v.c2, .bool D.d] 61)).alloc (.cells #[.int .i64 0, .int .i64 0, .slice none 0 0, .slice none 0 0, .bool false] 61)) w.heap.size 5 (gb v D)) := r0
  have R1 : Hid (Row ((w.alloc (.cells #[.int .i64 D.at_, .int .i64 D.acc, .slice v.a1 D.nc v.c1, .slice v.a2 D.nt v.c2, .bool D.d] 61)).alloc (.cells #[.int .i64 0, .int .i64 0, .slice none 0 0, .slice none 0 0, .bool false] 61)) (w.heap.size + 1) 5 (fun i => if i = 0 then .int .i64 0 else if i = 1 then .int .i64 0 else if i = 2 then .slice none 0 0 else if i = 3 then .slice none 0 0 else .bool false)) := r1
  have HA : Hid (GAt Y ((w.alloc (.cells #[.int .i64 D.at_, .int .i64 D.acc, .slice v.a1 D.nc v.c1, .slice v.a2 D.nt v.c2, .bool D.d] 61)).alloc (.cells #[.int .i64 0, .int .i64 0, .slice none 0 0, .slice none 0 0, .bool false] 61)) v D) := h.blw hb0
  have HB : Hid (Blw w ((w.alloc (.cells #[.int .i64 D.at_, .int .i64 D.acc, .slice v.a1 D.nc v.c1, .slice v.a2 D.nt v.c2, .bool D.d] 61)).alloc (.cells #[.int .i64 0, .int .i64 0, .slice none 0 0, .slice none 0 0, .bool false] 61))) := hb0
  have HZ : Hid (w.heap.size + 1 + 1 ≤ ((w.alloc (.cells #[.int .i64 D.at_, .int .i64 D.acc, .slice v.a1 D.nc v.c1, .slice v.a2 D.nt v.c2, .bool D.d] 61)).alloc (.cells #[.int .i64 0, .int .i64 0, .slice none 0 0, .slice none 0 0, .bool false] 61)).heap.size) := by show _ ≤ _; simp
  have HW : Hid (GAt Y w v D) := h
  clear h hb0 r0 r1
  go_enter Try.func122, Try.ntmps122
  go_upto_region 1 with fail
  generalize ((w.alloc (.cells #[.int .i64 D.at_, .int .i64 D.acc, .slice v.a1 D.nc v.c1, .slice v.a2 D.nt v.c2, .bool D.d] 61)).alloc (.cells #[.int .i64 0, .int .i64 0, .slice none 0 0, .slice none 0 0, .bool false] 61)) = w0 at *
  replace R0 : Hid (Row w0.drew w.heap.size 5 (gb v D)) := R0.out.blw (Blw.refl _).drew
  replace R1 : Hid (Row w0.drew (w.heap.size + 1) 5 (fun i => if i = 0 then .int .i64 0 else if i = 1 then .int .i64 0 else if i = 2 then .slice none 0 0 else if i = 3 then .slice none 0 0 else .bool false)) := R1.out.blw (Blw.refl _).drew
  replace HA : Hid (GAt Y w0.drew v D) := HA.out.blw (Blw.refl _).drew
  replace HB : Hid (Blw w w0.drew) := HB.out.drew
  replace HZ : Hid (w.heap.size + 1 + 1 ≤ w0.drew.heap.size) := by have := HZ.out; show _ ≤ _; simpa using this
  refine wp_region_noPanic ?_
  refine wp_region_held_drew (S := fun w' => w'.cell? ⟨w.heap.size, 0, none⟩ = some (.int .i64 D.at_) ∧ w'.cell? ⟨w.heap.size, 1, none⟩ = some (.int .i64 D.acc) ∧ w'.cell? ⟨w.heap.size, 2, none⟩ = some (.slice v.a1 D.nc v.c1) ∧ w'.cell? ⟨w.heap.size, 3, none⟩ = some (.slice v.a2 D.nt v.c2) ∧ w'.cell? ⟨w.heap.size, 4, none⟩ = some (.bool D.d)) (by kernel_rfl) (get5 R0.out) (fun hB => ?_)
  clear hB
  generalize w0.drew = wd at *
  refine wpAnyH_take (i := 0) (oi := { dst := some 3, op := Op.fieldAddr 61 (Operand.tmp 1) 0, type := 0, pos := _, after := #[], guard := none }) (v := (.pointer (some ⟨w.heap.size, 0, none⟩))) rfl (by kernel_rfl) (by kernel_rfl) (by kernel_rfl) (fun _ _ _ h => h) (Or.inl ⟨by rfl, fun w' hS => by (try dsimp only at hS); go_simp⟩) (get5 R0.out) ?_
  simp only [Act.put, List.setIfInBounds_toArray, List.set_cons_zero, List.set_cons_succ]
  refine wpAnyH_take (i := 2) (oi := { dst := some 5, op := Op.fieldAddr 61 (Operand.tmp 1) 1, type := 0, pos := _, after := #[], guard := none }) (v := (.pointer (some ⟨w.heap.size, 1, none⟩))) rfl (by kernel_rfl) (by kernel_rfl) (by kernel_rfl) (fun _ _ _ h => h) (Or.inl ⟨by rfl, fun w' hS => by (try dsimp only at hS); go_simp⟩) (get5 R0.out) ?_
  simp only [Act.put, List.setIfInBounds_toArray, List.set_cons_zero, List.set_cons_succ]
  refine wpAnyH_take (i := 5) (oi := { dst := some 8, op := Op.fieldAddr 61 (Operand.tmp 1) 2, type := 0, pos := _, after := #[], guard := none }) (v := (.pointer (some ⟨w.heap.size, 2, none⟩))) rfl (by kernel_rfl) (by kernel_rfl) (by kernel_rfl) (fun _ _ _ h => h) (Or.inl ⟨by rfl, fun w' hS => by (try dsimp only at hS); go_simp⟩) (get5 R0.out) ?_
  simp only [Act.put, List.setIfInBounds_toArray, List.set_cons_zero, List.set_cons_succ]
  refine wpAnyH_take (i := 9) (oi := { dst := some 12, op := Op.fieldAddr 61 (Operand.tmp 1) 3, type := 0, pos := _, after := #[], guard := none }) (v := (.pointer (some ⟨w.heap.size, 3, none⟩))) rfl (by kernel_rfl) (by kernel_rfl) (by kernel_rfl) (fun _ _ _ h => h) (Or.inl ⟨by rfl, fun w' hS => by (try dsimp only at hS); go_simp⟩) (get5 R0.out) ?_
  simp only [Act.put, List.setIfInBounds_toArray, List.set_cons_zero, List.set_cons_succ]
  refine wpAnyH_take (i := 12) (oi := { dst := some 15, op := Op.fieldAddr 61 (Operand.tmp 1) 4, type := 0, pos := _, after := #[], guard := none }) (v := (.pointer (some ⟨w.heap.size, 4, none⟩))) rfl (by kernel_rfl) (by kernel_rfl) (by kernel_rfl) (fun _ _ _ h => h) (Or.inl ⟨by rfl, fun w' hS => by (try dsimp only at hS); go_simp⟩) (get5 R0.out) ?_
  simp only [Act.put, List.setIfInBounds_toArray, List.set_cons_zero, List.set_cons_succ]
  refine wpAnyH_take (i := 1) (oi := { dst := some 4, op := Op.load 3 (Operand.tmp 3), type := 3, pos := _, after := #[{ on := 0, ground := Ground.data }], guard := none }) (v := (.int .i64 D.at_)) rfl (by kernel_rfl) (by kernel_rfl) (by kernel_rfl) (fun _ _ _ h => h) (Or.inl ⟨by rfl, fun w' hS => by (try dsimp only at hS); go_simp⟩) (get5 R0.out) ?_
  simp only [Act.put, List.setIfInBounds_toArray, List.set_cons_zero, List.set_cons_succ]
  refine wpAnyH_take (i := 3) (oi := { dst := some 6, op := Op.load 3 (Operand.tmp 5), type := 3, pos := _, after := #[{ on := 2, ground := Ground.data }], guard := none }) (v := (.int .i64 D.acc)) rfl (by kernel_rfl) (by kernel_rfl) (by kernel_rfl) (fun _ _ _ h => h) (Or.inl ⟨by rfl, fun w' hS => by (try dsimp only at hS); go_simp⟩) (get5 R0.out) ?_
  simp only [Act.put, List.setIfInBounds_toArray, List.set_cons_zero, List.set_cons_succ]
  refine wpAnyH_take (i := 6) (oi := { dst := some 9, op := Op.load 26 (Operand.tmp 8), type := 26, pos := _, after := #[{ on := 5, ground := Ground.data }], guard := none }) (v := (.slice v.a1 D.nc v.c1)) rfl (by kernel_rfl) (by kernel_rfl) (by kernel_rfl) (fun _ _ _ h => h) (Or.inl ⟨by rfl, fun w' hS => by (try dsimp only at hS); go_simp⟩) (get5 R0.out) ?_
  simp only [Act.put, List.setIfInBounds_toArray, List.set_cons_zero, List.set_cons_succ]
  refine wpAnyH_take (i := 10) (oi := { dst := some 13, op := Op.load 26 (Operand.tmp 12), type := 26, pos := _, after := #[{ on := 9, ground := Ground.data }], guard := none }) (v := (.slice v.a2 D.nt v.c2)) rfl (by kernel_rfl) (by kernel_rfl) (by kernel_rfl) (fun _ _ _ h => h) (Or.inl ⟨by rfl, fun w' hS => by (try dsimp only at hS); go_simp⟩) (get5 R0.out) ?_
  simp only [Act.put, List.setIfInBounds_toArray, List.set_cons_zero, List.set_cons_succ]
  refine wpAnyH_take (i := 13) (oi := { dst := some 16, op := Op.load 4 (Operand.tmp 15), type := 4, pos := _, after := #[{ on := 12, ground := Ground.data }], guard := none }) (v := (.bool D.d)) rfl (by kernel_rfl) (by kernel_rfl) (by kernel_rfl) (fun _ _ _ h => h) (Or.inl ⟨by rfl, fun w' hS => by (try dsimp only at hS); go_simp⟩) (get5 R0.out) ?_
  simp only [Act.put, List.setIfInBounds_toArray, List.set_cons_zero, List.set_cons_succ]
  refine wpAnyH_ready (rs := [4, 8]) (by kernel_rfl) (by simp) ?_
  refine AllReadyH.cons (o := { dst := some 7, op := Op.buildSlice 26 0 #[], type := 26, pos := _, after := #[], guard := none }) rfl (fun K hK => ?_) (AllReadyH.cons (o := { dst := some 11, op := Op.buildSlice 26 0 #[], type := 26, pos := _, after := #[], guard := none }) rfl (fun K hK => ?_) AllReadyH.nil)
  · go_simp
    have o0 := HZ.out
    have hA : Blw wd (wd.alloc (.cells #[] 3)) := (Blw.refl _).alloc _
    have hE : (wd.alloc (.cells #[] 3)).heap[wd.heap.size]? = some (.cells #[] 3 (0, 0)) := heap_alloc_new wd _
    have hS : wd.heap.size < (wd.alloc (.cells #[] 3)).heap.size := by simp
    generalize (wd.alloc (.cells #[] 3)) = w1 at *
    replace R0 : Hid (Row w1 w.heap.size 5 (gb v D)) := R0.out.blw hA
    replace R1 : Hid (Row w1 (w.heap.size + 1) 5 (fun i => if i = 0 then .int .i64 0 else if i = 1 then .int .i64 0 else if i = 2 then .slice none 0 0 else if i = 3 then .slice none 0 0 else .bool false)) := R1.out.blw hA
    replace HB : Hid (Blw w w1) := HB.out.trans hA
    replace HA : Hid (GAt Y w1 v D) := HA.out.blw hA
    have HE1 : Hid (w1.heap[wd.heap.size]? = some (.cells #[] 3 (0, 0))) := hE
    have HZ1 : Hid (wd.heap.size < w1.heap.size) := hS
    clear hA hE hS o0
    refine hK.out _ _ (get5 R0.out) (fun hB => ?_)
    clear hK K hB
    try simp only [Act.put, List.setIfInBounds_toArray, List.set_cons_zero, List.set_cons_succ]
    refine wpAnyH_ready (rs := [7, 8]) (by kernel_rfl) (by simp) ?_
    refine AllReadyH.cons (o := { dst := some 10, op := Op.call { callee := Callee.builtin Builtin.append, args := #[Operand.tmp 7, Operand.tmp 9], argTypes := #[26, 26] }, type := 26, pos := _, after := #[{ on := 4, ground := Ground.data }, { on := 6, ground := Ground.data }], guard := none }) rfl (fun K hK => ?_) (AllReadyH.cons (o := { dst := some 11, op := Op.buildSlice 26 0 #[], type := 26, pos := _, after := #[], guard := none }) rfl (fun K hK => ?_) AllReadyH.nil)
    · have o0 := HZ.out; have o1 := HZ1.out
      obtain ⟨a1, q1, w2, hrun, hbuf, hmod⟩ := clone_at HE1.out HA.out.c n1 v.c1
      refine step_app (.tmp 7) (.tmp 9) 26 (by rfl) ?_
      refine ⟨_, _, hrun, ?_⟩
      clear hrun
      have hs := hmod.size
      clear HE1
      replace R0 : Hid (Row w2 w.heap.size 5 (gb v D)) := R0.out.mod hmod (by omega)
      replace R1 : Hid (Row w2 (w.heap.size + 1) 5 (fun i => if i = 0 then .int .i64 0 else if i = 1 then .int .i64 0 else if i = 2 then .slice none 0 0 else if i = 3 then .slice none 0 0 else .bool false)) := R1.out.mod hmod (by omega)
      replace HB : Hid (Blw w w2) := Mod.blw HB.out hmod (fun i hi => by omega)
      replace HA : Hid (GAt Y w2 v D) := HW.out.blw HB.out
      have HL1 : Hid (BufI (fun b => b = wd.heap.size ∨ (w1.heap.size ≤ b ∧ b < w2.heap.size)) w2 (.slice a1 D.nc q1) D.nc D.c) := hbuf
      have HZ2 : Hid (w1.heap.size ≤ w2.heap.size) := hs
      clear hmod hbuf hs o0 o1
      refine hK.out _ _ (get5 R0.out) (fun hB => ?_)
      clear hK K hB
      try simp only [Act.put, List.setIfInBounds_toArray, List.set_cons_zero, List.set_cons_succ]
      refine wpAnyH_ready (rs := [8]) (by kernel_rfl) (by simp) ?_
      refine AllReadyH.cons (o := { dst := some 11, op := Op.buildSlice 26 0 #[], type := 26, pos := _, after := #[], guard := none }) rfl (fun K hK => ?_) AllReadyH.nil
      go_simp
      have o0 := HZ.out; have o1 := HZ1.out; have o2 := HZ2.out
      have hA : Blw w2 (w2.alloc (.cells #[] 3)) := (Blw.refl _).alloc _
      have hE : (w2.alloc (.cells #[] 3)).heap[w2.heap.size]? = some (.cells #[] 3 (0, 0)) := heap_alloc_new w2 _
      have hS : w2.heap.size < (w2.alloc (.cells #[] 3)).heap.size := by simp
      generalize (w2.alloc (.cells #[] 3)) = w3 at *
      replace R0 : Hid (Row w3 w.heap.size 5 (gb v D)) := R0.out.blw hA
      replace R1 : Hid (Row w3 (w.heap.size + 1) 5 (fun i => if i = 0 then .int .i64 0 else if i = 1 then .int .i64 0 else if i = 2 then .slice none 0 0 else if i = 3 then .slice none 0 0 else .bool false)) := R1.out.blw hA
      replace HB : Hid (Blw w w3) := HB.out.trans hA
      replace HA : Hid (GAt Y w3 v D) := HA.out.blw hA
      replace HL1 : Hid (BufI (fun b => b = wd.heap.size ∨ (w1.heap.size ≤ b ∧ b < w2.heap.size)) w3 (.slice a1 D.nc q1) D.nc D.c) := Buf.blw HL1.out hA
      have HE2 : Hid (w3.heap[w2.heap.size]? = some (.cells #[] 3 (0, 0))) := hE
      have HZ3 : Hid (w2.heap.size < w3.heap.size) := hS
      clear hA hE hS o0 o1 o2
      refine hK.out _ _ (get5 R0.out) (fun hB => ?_)
      clear hK K hB
      try simp only [Act.put, List.setIfInBounds_toArray, List.set_cons_zero, List.set_cons_succ]
      refine wpAnyH_ready (rs := [11]) (by kernel_rfl) (by simp) ?_
      refine AllReadyH.cons (o := { dst := some 14, op := Op.call { callee := Callee.builtin Builtin.append, args := #[Operand.tmp 11, Operand.tmp 13], argTypes := #[26, 26] }, type := 26, pos := _, after := #[{ on := 8, ground := Ground.data }, { on := 10, ground := Ground.data }, { on := 7, ground := Ground.chain }], guard := none }) rfl (fun K hK => ?_) AllReadyH.nil
      have o0 := HZ.out; have o1 := HZ1.out; have o2 := HZ2.out; have o3 := HZ3.out
      obtain ⟨a2, q2, w4, hrun, hbuf, hmod⟩ := clone_at HE2.out HA.out.t n2 v.c2
      refine step_app (.tmp 11) (.tmp 13) 26 (by rfl) ?_
      refine ⟨_, _, hrun, ?_⟩
      clear hrun
      have hs := hmod.size
      clear HE2
      replace R0 : Hid (Row w4 w.heap.size 5 (gb v D)) := R0.out.mod hmod (by omega)
      replace R1 : Hid (Row w4 (w.heap.size + 1) 5 (fun i => if i = 0 then .int .i64 0 else if i = 1 then .int .i64 0 else if i = 2 then .slice none 0 0 else if i = 3 then .slice none 0 0 else .bool false)) := R1.out.mod hmod (by omega)
      replace HB : Hid (Blw w w4) := Mod.blw HB.out hmod (fun i hi => by omega)
      replace HA : Hid (GAt Y w4 v D) := HW.out.blw HB.out
      replace HL1 : Hid (BufI (fun b => b = wd.heap.size ∨ (w1.heap.size ≤ b ∧ b < w2.heap.size)) w4 (.slice a1 D.nc q1) D.nc D.c) := Buf.mod HL1.out hmod (fun b hx => by omega)
      have HL2 : Hid (BufI (fun b => b = w2.heap.size ∨ (w3.heap.size ≤ b ∧ b < w4.heap.size)) w4 (.slice a2 D.nt q2) D.nt D.t) := hbuf
      have HZ4 : Hid (w3.heap.size ≤ w4.heap.size) := hs
      clear hmod hbuf hs o0 o1 o2 o3
      refine hK.out _ _ (get5 R0.out) (fun hB => ?_)
      clear hK K hB
      try simp only [Act.put, List.setIfInBounds_toArray, List.set_cons_zero, List.set_cons_succ]
      refine wpAnyH_take (i := 14) (oi := { dst := some 17, op := Op.build 61 #[(0, Operand.tmp 4), (1, Operand.tmp 6), (2, Operand.tmp 10), (3, Operand.tmp 14), (4, Operand.tmp 16)], type := 61, pos := _, after := #[{ on := 1, ground := Ground.data }, { on := 3, ground := Ground.data }, { on := 7, ground := Ground.data }, { on := 11, ground := Ground.data }, { on := 13, ground := Ground.data }], guard := none }) (v := (.agg #[.int .i64 D.at_, .int .i64 D.acc, .slice a1 D.nc q1, .slice a2 D.nt q2, .bool D.d])) rfl (by kernel_rfl) (by kernel_rfl) (by kernel_rfl) (fun _ _ _ h => h) (Or.inl ⟨by rfl, fun w' hS => by (try dsimp only at hS); go_simp⟩) (get5 R0.out) ?_
      simp only [Act.put, List.setIfInBounds_toArray, List.set_cons_zero, List.set_cons_succ]
      refine wpAnyH_ready (rs := [15]) (by kernel_rfl) (by simp) ?_
      refine AllReadyH.cons (o := { dst := none, op := Op.store 61 (Operand.tmp 2) (Operand.tmp 17), type := 0, pos := _, after := #[{ on := 14, ground := Ground.data }, { on := 11, ground := Ground.chain }, { on := 0, ground := Ground.phase }, { on := 1, ground := Ground.phase }, { on := 2, ground := Ground.phase }, { on := 3, ground := Ground.phase }, { on := 4, ground := Ground.phase }, { on := 5, ground := Ground.phase }, { on := 6, ground := Ground.phase }, { on := 7, ground := Ground.phase }, { on := 8, ground := Ground.phase }, { on := 9, ground := Ground.phase }, { on := 10, ground := Ground.phase }, { on := 11, ground := Ground.phase }, { on := 12, ground := Ground.phase }, { on := 13, ground := Ground.phase }, { on := 14, ground := Ground.phase }], guard := none }) rfl (fun K hK => ?_) AllReadyH.nil
      have o0 := HZ.out; have o1 := HZ1.out; have o2 := HZ2.out; have o3 := HZ3.out; have o4 := HZ4.out
      obtain ⟨t0, t1, t2, t3, t4⟩ := get5 R1.out
      have f0 := R1.out.frozen 0
      have f1 := R1.out.frozen 1
      have f2 := R1.out.frozen 2
      have f3 := R1.out.frozen 3
      have f4 := R1.out.frozen 4
      have m1 := set5_modG w4 (w.heap.size + 1) (.int .i64 D.at_) (.int .i64 D.acc) (.slice a1 D.nc q1) (.slice a2 D.nt q2) (.bool D.d) (X := fun x => x = w.heap.size + 1) rfl
      have h5 := m1.size
      have FIN : Hid (MG (fun x => w.heap.size ≤ x ∧ x < (((((w4.setCell ⟨w.heap.size + 1, 0, none⟩ (.int .i64 D.at_)).setCell ⟨w.heap.size + 1, 1, none⟩ (.int .i64 D.acc)).setCell ⟨w.heap.size + 1, 2, none⟩ (.slice a1 D.nc q1)).setCell ⟨w.heap.size + 1, 3, none⟩ (.slice a2 D.nt q2)).setCell ⟨w.heap.size + 1, 4, none⟩ (.bool D.d)).heap.size) (((((w4.setCell ⟨w.heap.size + 1, 0, none⟩ (.int .i64 D.at_)).setCell ⟨w.heap.size + 1, 1, none⟩ (.int .i64 D.acc)).setCell ⟨w.heap.size + 1, 2, none⟩ (.slice a1 D.nc q1)).setCell ⟨w.heap.size + 1, 3, none⟩ (.slice a2 D.nt q2)).setCell ⟨w.heap.size + 1, 4, none⟩ (.bool D.d)) ⟨a1, a2, q1, q2⟩ D ∧ Blw w (((((w4.setCell ⟨w.heap.size + 1, 0, none⟩ (.int .i64 D.at_)).setCell ⟨w.heap.size + 1, 1, none⟩ (.int .i64 D.acc)).setCell ⟨w.heap.size + 1, 2, none⟩ (.slice a1 D.nc q1)).setCell ⟨w.heap.size + 1, 3, none⟩ (.slice a2 D.nt q2)).setCell ⟨w.heap.size + 1, 4, none⟩ (.bool D.d))) := ⟨⟨(fun b => b = wd.heap.size ∨ (w1.heap.size ≤ b ∧ b < w2.heap.size)), (fun b => b = w2.heap.size ∨ (w3.heap.size ≤ b ∧ b < w4.heap.size)), fun b hb => ⟨⟨by omega, by omega⟩, by omega⟩, fun b hb => ⟨by omega, by omega⟩, (BufI.own' HL1.out (by omega)).mod' m1 (fun b hb => by omega), Buf.mod HL2.out m1 (fun b hb => by omega)⟩, Mod.blw HB.out m1 (fun i hi => by omega)⟩
      clear m1 h5 HL1 HL2 HB HA R1 o0 o1 o2 o3 o4
      have hS0 := get5 R0.out
      go_simp
      refine hK.out _ _ (by simpa [World.cell?_setCell_other] using hS0) (fun hB => ?_)
      clear hK K hB
      try simp only [Act.put, List.setIfInBounds_toArray, List.set_cons_zero, List.set_cons_succ]
      refine wpAnyH_done (by kernel_rfl) ?_ _
      refine NoPanic.normal ?_
      clear R0 HW
      try clear f0 f1 f2 f3 f4
      go_wp2
      refine bodyPost_ret (v := GV.val ⟨a1, a2, q1, q2⟩ D) (by simp [results, Try.results122, go_sem, t0, t1, t2, t3, t4]) rfl ?_
      exact ⟨_, rfl, FIN.out.1, FIN.out.2⟩
    · go_simp
      have o0 := HZ.out; have o1 := HZ1.out
      have hA : Blw w1 (w1.alloc (.cells #[] 3)) := (Blw.refl _).alloc _
      have hE : (w1.alloc (.cells #[] 3)).heap[w1.heap.size]? = some (.cells #[] 3 (0, 0)) := heap_alloc_new w1 _
      have hS : w1.heap.size < (w1.alloc (.cells #[] 3)).heap.size := by simp
      generalize (w1.alloc (.cells #[] 3)) = w2 at *
      replace R0 : Hid (Row w2 w.heap.size 5 (gb v D)) := R0.out.blw hA
      replace R1 : Hid (Row w2 (w.heap.size + 1) 5 (fun i => if i = 0 then .int .i64 0 else if i = 1 then .int .i64 0 else if i = 2 then .slice none 0 0 else if i = 3 then .slice none 0 0 else .bool false)) := R1.out.blw hA
      replace HB : Hid (Blw w w2) := HB.out.trans hA
      replace HA : Hid (GAt Y w2 v D) := HA.out.blw hA
      replace HE1 : Hid (w2.heap[wd.heap.size]? = some (.cells #[] 3 (0, 0))) := (hA.block wd.heap.size (by omega)).trans HE1.out
      have HE2 : Hid (w2.heap[w1.heap.size]? = some (.cells #[] 3 (0, 0))) := hE
      have HZ2 : Hid (w1.heap.size < w2.heap.size) := hS
      clear hA hE hS o0 o1
      refine hK.out _ _ (get5 R0.out) (fun hB => ?_)
      clear hK K hB
      try simp only [Act.put, List.setIfInBounds_toArray, List.set_cons_zero, List.set_cons_succ]
      refine wpAnyH_ready (rs := [7]) (by kernel_rfl) (by simp) ?_
      refine AllReadyH.cons (o := { dst := some 10, op := Op.call { callee := Callee.builtin Builtin.append, args := #[Operand.tmp 7, Operand.tmp 9], argTypes := #[26, 26] }, type := 26, pos := _, after := #[{ on := 4, ground := Ground.data }, { on := 6, ground := Ground.data }], guard := none }) rfl (fun K hK => ?_) AllReadyH.nil
      have o0 := HZ.out; have o1 := HZ1.out; have o2 := HZ2.out
      obtain ⟨a1, q1, w3, hrun, hbuf, hmod⟩ := clone_at HE1.out HA.out.c n1 v.c1
      refine step_app (.tmp 7) (.tmp 9) 26 (by rfl) ?_
      refine ⟨_, _, hrun, ?_⟩
      clear hrun
      have hs := hmod.size
      clear HE1
      replace R0 : Hid (Row w3 w.heap.size 5 (gb v D)) := R0.out.mod hmod (by omega)
      replace R1 : Hid (Row w3 (w.heap.size + 1) 5 (fun i => if i = 0 then .int .i64 0 else if i = 1 then .int .i64 0 else if i = 2 then .slice none 0 0 else if i = 3 then .slice none 0 0 else .bool false)) := R1.out.mod hmod (by omega)
      replace HB : Hid (Blw w w3) := Mod.blw HB.out hmod (fun i hi => by omega)
      replace HA : Hid (GAt Y w3 v D) := HW.out.blw HB.out
      replace HE2 : Hid (w3.heap[w1.heap.size]? = some (.cells #[] 3 (0, 0))) := (hmod.block w1.heap.size (by omega) (by omega)).trans HE2.out
      have HL1 : Hid (BufI (fun b => b = wd.heap.size ∨ (w2.heap.size ≤ b ∧ b < w3.heap.size)) w3 (.slice a1 D.nc q1) D.nc D.c) := hbuf
      have HZ3 : Hid (w2.heap.size ≤ w3.heap.size) := hs
      clear hmod hbuf hs o0 o1 o2
      refine hK.out _ _ (get5 R0.out) (fun hB => ?_)
      clear hK K hB
      try simp only [Act.put, List.setIfInBounds_toArray, List.set_cons_zero, List.set_cons_succ]
      refine wpAnyH_ready (rs := [11]) (by kernel_rfl) (by simp) ?_
      refine AllReadyH.cons (o := { dst := some 14, op := Op.call { callee := Callee.builtin Builtin.append, args := #[Operand.tmp 11, Operand.tmp 13], argTypes := #[26, 26] }, type := 26, pos := _, after := #[{ on := 8, ground := Ground.data }, { on := 10, ground := Ground.data }, { on := 7, ground := Ground.chain }], guard := none }) rfl (fun K hK => ?_) AllReadyH.nil
      have o0 := HZ.out; have o1 := HZ1.out; have o2 := HZ2.out; have o3 := HZ3.out
      obtain ⟨a2, q2, w4, hrun, hbuf, hmod⟩ := clone_at HE2.out HA.out.t n2 v.c2
      refine step_app (.tmp 11) (.tmp 13) 26 (by rfl) ?_
      refine ⟨_, _, hrun, ?_⟩
      clear hrun
      have hs := hmod.size
      clear HE2
      replace R0 : Hid (Row w4 w.heap.size 5 (gb v D)) := R0.out.mod hmod (by omega)
      replace R1 : Hid (Row w4 (w.heap.size + 1) 5 (fun i => if i = 0 then .int .i64 0 else if i = 1 then .int .i64 0 else if i = 2 then .slice none 0 0 else if i = 3 then .slice none 0 0 else .bool false)) := R1.out.mod hmod (by omega)
      replace HB : Hid (Blw w w4) := Mod.blw HB.out hmod (fun i hi => by omega)
      replace HA : Hid (GAt Y w4 v D) := HW.out.blw HB.out
      replace HL1 : Hid (BufI (fun b => b = wd.heap.size ∨ (w2.heap.size ≤ b ∧ b < w3.heap.size)) w4 (.slice a1 D.nc q1) D.nc D.c) := Buf.mod HL1.out hmod (fun b hx => by omega)
      have HL2 : Hid (BufI (fun b => b = w1.heap.size ∨ (w3.heap.size ≤ b ∧ b < w4.heap.size)) w4 (.slice a2 D.nt q2) D.nt D.t) := hbuf
      have HZ4 : Hid (w3.heap.size ≤ w4.heap.size) := hs
      clear hmod hbuf hs o0 o1 o2 o3
      refine hK.out _ _ (get5 R0.out) (fun hB => ?_)
      clear hK K hB
      try simp only [Act.put, List.setIfInBounds_toArray, List.set_cons_zero, List.set_cons_succ]
      refine wpAnyH_take (i := 14) (oi := { dst := some 17, op := Op.build 61 #[(0, Operand.tmp 4), (1, Operand.tmp 6), (2, Operand.tmp 10), (3, Operand.tmp 14), (4, Operand.tmp 16)], type := 61, pos := _, after := #[{ on := 1, ground := Ground.data }, { on := 3, ground := Ground.data }, { on := 7, ground := Ground.data }, { on := 11, ground := Ground.data }, { on := 13, ground := Ground.data }], guard := none }) (v := (.agg #[.int .i64 D.at_, .int .i64 D.acc, .slice a1 D.nc q1, .slice a2 D.nt q2, .bool D.d])) rfl (by kernel_rfl) (by kernel_rfl) (by kernel_rfl) (fun _ _ _ h => h) (Or.inl ⟨by rfl, fun w' hS => by (try dsimp only at hS); go_simp⟩) (get5 R0.out) ?_
      simp only [Act.put, List.setIfInBounds_toArray, List.set_cons_zero, List.set_cons_succ]
      refine wpAnyH_ready (rs := [15]) (by kernel_rfl) (by simp) ?_
      refine AllReadyH.cons (o := { dst := none, op := Op.store 61 (Operand.tmp 2) (Operand.tmp 17), type := 0, pos := _, after := #[{ on := 14, ground := Ground.data }, { on := 11, ground := Ground.chain }, { on := 0, ground := Ground.phase }, { on := 1, ground := Ground.phase }, { on := 2, ground := Ground.phase }, { on := 3, ground := Ground.phase }, { on := 4, ground := Ground.phase }, { on := 5, ground := Ground.phase }, { on := 6, ground := Ground.phase }, { on := 7, ground := Ground.phase }, { on := 8, ground := Ground.phase }, { on := 9, ground := Ground.phase }, { on := 10, ground := Ground.phase }, { on := 11, ground := Ground.phase }, { on := 12, ground := Ground.phase }, { on := 13, ground := Ground.phase }, { on := 14, ground := Ground.phase }], guard := none }) rfl (fun K hK => ?_) AllReadyH.nil
      have o0 := HZ.out; have o1 := HZ1.out; have o2 := HZ2.out; have o3 := HZ3.out; have o4 := HZ4.out
      obtain ⟨t0, t1, t2, t3, t4⟩ := get5 R1.out
      have f0 := R1.out.frozen 0
      have f1 := R1.out.frozen 1
      have f2 := R1.out.frozen 2
      have f3 := R1.out.frozen 3
      have f4 := R1.out.frozen 4
      have m1 := set5_modG w4 (w.heap.size + 1) (.int .i64 D.at_) (.int .i64 D.acc) (.slice a1 D.nc q1) (.slice a2 D.nt q2) (.bool D.d) (X := fun x => x = w.heap.size + 1) rfl
      have h5 := m1.size
      have FIN : Hid (MG (fun x => w.heap.size ≤ x ∧ x < (((((w4.setCell ⟨w.heap.size + 1, 0, none⟩ (.int .i64 D.at_)).setCell ⟨w.heap.size + 1, 1, none⟩ (.int .i64 D.acc)).setCell ⟨w.heap.size + 1, 2, none⟩ (.slice a1 D.nc q1)).setCell ⟨w.heap.size + 1, 3, none⟩ (.slice a2 D.nt q2)).setCell ⟨w.heap.size + 1, 4, none⟩ (.bool D.d)).heap.size) (((((w4.setCell ⟨w.heap.size + 1, 0, none⟩ (.int .i64 D.at_)).setCell ⟨w.heap.size + 1, 1, none⟩ (.int .i64 D.acc)).setCell ⟨w.heap.size + 1, 2, none⟩ (.slice a1 D.nc q1)).setCell ⟨w.heap.size + 1, 3, none⟩ (.slice a2 D.nt q2)).setCell ⟨w.heap.size + 1, 4, none⟩ (.bool D.d)) ⟨a1, a2, q1, q2⟩ D ∧ Blw w (((((w4.setCell ⟨w.heap.size + 1, 0, none⟩ (.int .i64 D.at_)).setCell ⟨w.heap.size + 1, 1, none⟩ (.int .i64 D.acc)).setCell ⟨w.heap.size + 1, 2, none⟩ (.slice a1 D.nc q1)).setCell ⟨w.heap.size + 1, 3, none⟩ (.slice a2 D.nt q2)).setCell ⟨w.heap.size + 1, 4, none⟩ (.bool D.d))) := ⟨⟨(fun b => b = wd.heap.size ∨ (w2.heap.size ≤ b ∧ b < w3.heap.size)), (fun b => b = w1.heap.size ∨ (w3.heap.size ≤ b ∧ b < w4.heap.size)), fun b hb => ⟨⟨by omega, by omega⟩, by omega⟩, fun b hb => ⟨by omega, by omega⟩, (BufI.own' HL1.out (by omega)).mod' m1 (fun b hb => by omega), Buf.mod HL2.out m1 (fun b hb => by omega)⟩, Mod.blw HB.out m1 (fun i hi => by omega)⟩
      clear m1 h5 HL1 HL2 HB HA R1 o0 o1 o2 o3 o4
      have hS0 := get5 R0.out
      go_simp
      refine hK.out _ _ (by simpa [World.cell?_setCell_other] using hS0) (fun hB => ?_)
      clear hK K hB
      try simp only [Act.put, List.setIfInBounds_toArray, List.set_cons_zero, List.set_cons_succ]
      refine wpAnyH_done (by kernel_rfl) ?_ _
      refine NoPanic.normal ?_
      clear R0 HW
      try clear f0 f1 f2 f3 f4
      go_wp2
      refine bodyPost_ret (v := GV.val ⟨a1, a2, q1, q2⟩ D) (by simp [results, Try.results122, go_sem, t0, t1, t2, t3, t4]) rfl ?_
      exact ⟨_, rfl, FIN.out.1, FIN.out.2⟩
  · go_simp
    have o0 := HZ.out
    have hA : Blw wd (wd.alloc (.cells #[] 3)) := (Blw.refl _).alloc _
    have hE : (wd.alloc (.cells #[] 3)).heap[wd.heap.size]? = some (.cells #[] 3 (0, 0)) := heap_alloc_new wd _
    have hS : wd.heap.size < (wd.alloc (.cells #[] 3)).heap.size := by simp
    generalize (wd.alloc (.cells #[] 3)) = w1 at *
    replace R0 : Hid (Row w1 w.heap.size 5 (gb v D)) := R0.out.blw hA
    replace R1 : Hid (Row w1 (w.heap.size + 1) 5 (fun i => if i = 0 then .int .i64 0 else if i = 1 then .int .i64 0 else if i = 2 then .slice none 0 0 else if i = 3 then .slice none 0 0 else .bool false)) := R1.out.blw hA
    replace HB : Hid (Blw w w1) := HB.out.trans hA
    replace HA : Hid (GAt Y w1 v D) := HA.out.blw hA
    have HE2 : Hid (w1.heap[wd.heap.size]? = some (.cells #[] 3 (0, 0))) := hE
    have HZ1 : Hid (wd.heap.size < w1.heap.size) := hS
    clear hA hE hS o0
    refine hK.out _ _ (get5 R0.out) (fun hB => ?_)
    clear hK K hB
    try simp only [Act.put, List.setIfInBounds_toArray, List.set_cons_zero, List.set_cons_succ]
    refine wpAnyH_ready (rs := [4]) (by kernel_rfl) (by simp) ?_
    refine AllReadyH.cons (o := { dst := some 7, op := Op.buildSlice 26 0 #[], type := 26, pos := _, after := #[], guard := none }) rfl (fun K hK => ?_) AllReadyH.nil
    go_simp
    have o0 := HZ.out; have o1 := HZ1.out
    have hA : Blw w1 (w1.alloc (.cells #[] 3)) := (Blw.refl _).alloc _
    have hE : (w1.alloc (.cells #[] 3)).heap[w1.heap.size]? = some (.cells #[] 3 (0, 0)) := heap_alloc_new w1 _
    have hS : w1.heap.size < (w1.alloc (.cells #[] 3)).heap.size := by simp
    generalize (w1.alloc (.cells #[] 3)) = w2 at *
    replace R0 : Hid (Row w2 w.heap.size 5 (gb v D)) := R0.out.blw hA
    replace R1 : Hid (Row w2 (w.heap.size + 1) 5 (fun i => if i = 0 then .int .i64 0 else if i = 1 then .int .i64 0 else if i = 2 then .slice none 0 0 else if i = 3 then .slice none 0 0 else .bool false)) := R1.out.blw hA
    replace HB : Hid (Blw w w2) := HB.out.trans hA
    replace HA : Hid (GAt Y w2 v D) := HA.out.blw hA
    replace HE2 : Hid (w2.heap[wd.heap.size]? = some (.cells #[] 3 (0, 0))) := (hA.block wd.heap.size (by omega)).trans HE2.out
    have HE1 : Hid (w2.heap[w1.heap.size]? = some (.cells #[] 3 (0, 0))) := hE
    have HZ2 : Hid (w1.heap.size < w2.heap.size) := hS
    clear hA hE hS o0 o1
    refine hK.out _ _ (get5 R0.out) (fun hB => ?_)
    clear hK K hB
    try simp only [Act.put, List.setIfInBounds_toArray, List.set_cons_zero, List.set_cons_succ]
    refine wpAnyH_ready (rs := [7]) (by kernel_rfl) (by simp) ?_
    refine AllReadyH.cons (o := { dst := some 10, op := Op.call { callee := Callee.builtin Builtin.append, args := #[Operand.tmp 7, Operand.tmp 9], argTypes := #[26, 26] }, type := 26, pos := _, after := #[{ on := 4, ground := Ground.data }, { on := 6, ground := Ground.data }], guard := none }) rfl (fun K hK => ?_) AllReadyH.nil
    have o0 := HZ.out; have o1 := HZ1.out; have o2 := HZ2.out
    obtain ⟨a1, q1, w3, hrun, hbuf, hmod⟩ := clone_at HE1.out HA.out.c n1 v.c1
    refine step_app (.tmp 7) (.tmp 9) 26 (by rfl) ?_
    refine ⟨_, _, hrun, ?_⟩
    clear hrun
    have hs := hmod.size
    clear HE1
    replace R0 : Hid (Row w3 w.heap.size 5 (gb v D)) := R0.out.mod hmod (by omega)
    replace R1 : Hid (Row w3 (w.heap.size + 1) 5 (fun i => if i = 0 then .int .i64 0 else if i = 1 then .int .i64 0 else if i = 2 then .slice none 0 0 else if i = 3 then .slice none 0 0 else .bool false)) := R1.out.mod hmod (by omega)
    replace HB : Hid (Blw w w3) := Mod.blw HB.out hmod (fun i hi => by omega)
    replace HA : Hid (GAt Y w3 v D) := HW.out.blw HB.out
    replace HE2 : Hid (w3.heap[wd.heap.size]? = some (.cells #[] 3 (0, 0))) := (hmod.block wd.heap.size (by omega) (by omega)).trans HE2.out
    have HL1 : Hid (BufI (fun b => b = w1.heap.size ∨ (w2.heap.size ≤ b ∧ b < w3.heap.size)) w3 (.slice a1 D.nc q1) D.nc D.c) := hbuf
    have HZ3 : Hid (w2.heap.size ≤ w3.heap.size) := hs
    clear hmod hbuf hs o0 o1 o2
    refine hK.out _ _ (get5 R0.out) (fun hB => ?_)
    clear hK K hB
    try simp only [Act.put, List.setIfInBounds_toArray, List.set_cons_zero, List.set_cons_succ]
    refine wpAnyH_ready (rs := [11]) (by kernel_rfl) (by simp) ?_
    refine AllReadyH.cons (o := { dst := some 14, op := Op.call { callee := Callee.builtin Builtin.append, args := #[Operand.tmp 11, Operand.tmp 13], argTypes := #[26, 26] }, type := 26, pos := _, after := #[{ on := 8, ground := Ground.data }, { on := 10, ground := Ground.data }, { on := 7, ground := Ground.chain }], guard := none }) rfl (fun K hK => ?_) AllReadyH.nil
    have o0 := HZ.out; have o1 := HZ1.out; have o2 := HZ2.out; have o3 := HZ3.out
    obtain ⟨a2, q2, w4, hrun, hbuf, hmod⟩ := clone_at HE2.out HA.out.t n2 v.c2
    refine step_app (.tmp 11) (.tmp 13) 26 (by rfl) ?_
    refine ⟨_, _, hrun, ?_⟩
    clear hrun
    have hs := hmod.size
    clear HE2
    replace R0 : Hid (Row w4 w.heap.size 5 (gb v D)) := R0.out.mod hmod (by omega)
    replace R1 : Hid (Row w4 (w.heap.size + 1) 5 (fun i => if i = 0 then .int .i64 0 else if i = 1 then .int .i64 0 else if i = 2 then .slice none 0 0 else if i = 3 then .slice none 0 0 else .bool false)) := R1.out.mod hmod (by omega)
    replace HB : Hid (Blw w w4) := Mod.blw HB.out hmod (fun i hi => by omega)
    replace HA : Hid (GAt Y w4 v D) := HW.out.blw HB.out
    replace HL1 : Hid (BufI (fun b => b = w1.heap.size ∨ (w2.heap.size ≤ b ∧ b < w3.heap.size)) w4 (.slice a1 D.nc q1) D.nc D.c) := Buf.mod HL1.out hmod (fun b hx => by omega)
    have HL2 : Hid (BufI (fun b => b = wd.heap.size ∨ (w3.heap.size ≤ b ∧ b < w4.heap.size)) w4 (.slice a2 D.nt q2) D.nt D.t) := hbuf
    have HZ4 : Hid (w3.heap.size ≤ w4.heap.size) := hs
    clear hmod hbuf hs o0 o1 o2 o3
    refine hK.out _ _ (get5 R0.out) (fun hB => ?_)
    clear hK K hB
    try simp only [Act.put, List.setIfInBounds_toArray, List.set_cons_zero, List.set_cons_succ]
    refine wpAnyH_take (i := 14) (oi := { dst := some 17, op := Op.build 61 #[(0, Operand.tmp 4), (1, Operand.tmp 6), (2, Operand.tmp 10), (3, Operand.tmp 14), (4, Operand.tmp 16)], type := 61, pos := _, after := #[{ on := 1, ground := Ground.data }, { on := 3, ground := Ground.data }, { on := 7, ground := Ground.data }, { on := 11, ground := Ground.data }, { on := 13, ground := Ground.data }], guard := none }) (v := (.agg #[.int .i64 D.at_, .int .i64 D.acc, .slice a1 D.nc q1, .slice a2 D.nt q2, .bool D.d])) rfl (by kernel_rfl) (by kernel_rfl) (by kernel_rfl) (fun _ _ _ h => h) (Or.inl ⟨by rfl, fun w' hS => by (try dsimp only at hS); go_simp⟩) (get5 R0.out) ?_
    simp only [Act.put, List.setIfInBounds_toArray, List.set_cons_zero, List.set_cons_succ]
    refine wpAnyH_ready (rs := [15]) (by kernel_rfl) (by simp) ?_
    refine AllReadyH.cons (o := { dst := none, op := Op.store 61 (Operand.tmp 2) (Operand.tmp 17), type := 0, pos := _, after := #[{ on := 14, ground := Ground.data }, { on := 11, ground := Ground.chain }, { on := 0, ground := Ground.phase }, { on := 1, ground := Ground.phase }, { on := 2, ground := Ground.phase }, { on := 3, ground := Ground.phase }, { on := 4, ground := Ground.phase }, { on := 5, ground := Ground.phase }, { on := 6, ground := Ground.phase }, { on := 7, ground := Ground.phase }, { on := 8, ground := Ground.phase }, { on := 9, ground := Ground.phase }, { on := 10, ground := Ground.phase }, { on := 11, ground := Ground.phase }, { on := 12, ground := Ground.phase }, { on := 13, ground := Ground.phase }, { on := 14, ground := Ground.phase }], guard := none }) rfl (fun K hK => ?_) AllReadyH.nil
    have o0 := HZ.out; have o1 := HZ1.out; have o2 := HZ2.out; have o3 := HZ3.out; have o4 := HZ4.out
    obtain ⟨t0, t1, t2, t3, t4⟩ := get5 R1.out
    have f0 := R1.out.frozen 0
    have f1 := R1.out.frozen 1
    have f2 := R1.out.frozen 2
    have f3 := R1.out.frozen 3
    have f4 := R1.out.frozen 4
    have m1 := set5_modG w4 (w.heap.size + 1) (.int .i64 D.at_) (.int .i64 D.acc) (.slice a1 D.nc q1) (.slice a2 D.nt q2) (.bool D.d) (X := fun x => x = w.heap.size + 1) rfl
    have h5 := m1.size
    have FIN : Hid (MG (fun x => w.heap.size ≤ x ∧ x < (((((w4.setCell ⟨w.heap.size + 1, 0, none⟩ (.int .i64 D.at_)).setCell ⟨w.heap.size + 1, 1, none⟩ (.int .i64 D.acc)).setCell ⟨w.heap.size + 1, 2, none⟩ (.slice a1 D.nc q1)).setCell ⟨w.heap.size + 1, 3, none⟩ (.slice a2 D.nt q2)).setCell ⟨w.heap.size + 1, 4, none⟩ (.bool D.d)).heap.size) (((((w4.setCell ⟨w.heap.size + 1, 0, none⟩ (.int .i64 D.at_)).setCell ⟨w.heap.size + 1, 1, none⟩ (.int .i64 D.acc)).setCell ⟨w.heap.size + 1, 2, none⟩ (.slice a1 D.nc q1)).setCell ⟨w.heap.size + 1, 3, none⟩ (.slice a2 D.nt q2)).setCell ⟨w.heap.size + 1, 4, none⟩ (.bool D.d)) ⟨a1, a2, q1, q2⟩ D ∧ Blw w (((((w4.setCell ⟨w.heap.size + 1, 0, none⟩ (.int .i64 D.at_)).setCell ⟨w.heap.size + 1, 1, none⟩ (.int .i64 D.acc)).setCell ⟨w.heap.size + 1, 2, none⟩ (.slice a1 D.nc q1)).setCell ⟨w.heap.size + 1, 3, none⟩ (.slice a2 D.nt q2)).setCell ⟨w.heap.size + 1, 4, none⟩ (.bool D.d))) := ⟨⟨(fun b => b = w1.heap.size ∨ (w2.heap.size ≤ b ∧ b < w3.heap.size)), (fun b => b = wd.heap.size ∨ (w3.heap.size ≤ b ∧ b < w4.heap.size)), fun b hb => ⟨⟨by omega, by omega⟩, by omega⟩, fun b hb => ⟨by omega, by omega⟩, (BufI.own' HL1.out (by omega)).mod' m1 (fun b hb => by omega), Buf.mod HL2.out m1 (fun b hb => by omega)⟩, Mod.blw HB.out m1 (fun i hi => by omega)⟩
    clear m1 h5 HL1 HL2 HB HA R1 o0 o1 o2 o3 o4
    have hS0 := get5 R0.out
    go_simp
    refine hK.out _ _ (by simpa [World.cell?_setCell_other] using hS0) (fun hB => ?_)
    clear hK K hB
    try simp only [Act.put, List.setIfInBounds_toArray, List.set_cons_zero, List.set_cons_succ]
    refine wpAnyH_done (by kernel_rfl) ?_ _
    refine NoPanic.normal ?_
    clear R0 HW
    try clear f0 f1 f2 f3 f4
    go_wp2
    refine bodyPost_ret (v := GV.val ⟨a1, a2, q1, q2⟩ D) (by simp [results, Try.results122, go_sem, t0, t1, t2, t3, t4]) rfl ?_
    exact ⟨_, rfl, FIN.out.1, FIN.out.2⟩
end Go.Proofs.Ytbpdopcdhnemfaa
/- NewGuest, the model's and the program's. -/
namespace Go.Proofs.Ytbpdopcdhnemfaa
open Go.RowKit
set_option linter.unusedSimpArgs false
set_option linter.unusedVariables false
def ngOut (nc : Nat) (fc : Nat → Int) (R : GD) (r : Bool) : Prop := (GD.Good (⟨0, 0, nc, fc, 0, fun _ => 0, false⟩ : GD) ∧ R = (⟨0, 0, nc, fc, 0, fun _ => 0, false⟩ : GD) ∧ r = true) ∨ (¬ GD.Good (⟨0, 0, nc, fc, 0, fun _ => 0, false⟩ : GD) ∧ R = GD.zero ∧ r = false)
theorem ngOut_same {nc : Nat} {fc : Nat → Int} {R R' : GD} {r r' : Bool} (h : ngOut nc fc R r) (k : ngOut nc fc R' r') : R = R' ∧ r = r' := by
  rcases h with ⟨g, rfl, rfl⟩ | ⟨g, rfl, rfl⟩ <;> rcases k with ⟨l, rfl, rfl⟩ | ⟨l, rfl, rfl⟩
  · exact ⟨rfl, rfl⟩
  · exact absurd g l
  · exact absurd l g
  · exact ⟨rfl, rfl⟩
theorem gat_new {Y : Nat → Prop} {w : World} {a : Option Addr} {nc : Nat} {fc : Nat → Int} (c : Nat) (h : IntsAt Y w a nc fc) : GAt Y w (⟨a, none, c, 0⟩ : GV) (⟨0, 0, nc, fc, 0, fun _ => 0, false⟩ : GD) := ⟨h, ⟨by show 0 ≤ _; omega, fun i hi => absurd hi (Nat.not_lt_zero _)⟩⟩
theorem gown_new {X Z : Nat → Prop} {w : World} {a : Option Addr} {nc : Nat} {fc : Nat → Int} (c : Nat) (h : IntsOwn X w a nc fc) (hz : ∀ b, X b → Z b) : GOwn Z w (⟨a, none, c, 0⟩ : GV) (⟨0, 0, nc, fc, 0, fun _ => 0, false⟩ : GD) := ⟨X, fun _ => False, fun b hb => ⟨hz b hb, id⟩, fun _ h => h.elim, h, IntsOwn.nil' _ _ _ _⟩
set_option maxRecDepth 10000 in
set_option maxHeartbeats 3200000 in
theorem specNewG_any (ac : Option Addr) (cc nc : Nat) (fc : Nat → Int) (Y : Nat → Prop) (w : World) (hn : nc ≤ 1048576) (h : IntsAt Y w ac nc fc) :
    Calls Try.prog 57 #[.slice ac nc cc] w fun e w' => ∃ (u : GV) (R : GD) (r : Bool), e = .returned (.tuple #[u.val R, .bool r]) ∧ ngOut nc fc R r ∧ R.small ∧ GOwn (fun x => w.heap.size ≤ x ∧ x < w'.heap.size) w' u R ∧ Blw w w' := by
  have HB : Hid (Blw w (w.alloc (.cells #[.int .i64 0, .int .i64 0, .slice none 0 0, .slice none 0 0, .bool false] 61))) := (Blw.refl _).alloc _
  have HZ : Hid (Row (w.alloc (.cells #[.int .i64 0, .int .i64 0, .slice none 0 0, .slice none 0 0, .bool false] 61)) w.heap.size 5 (fun i => if i = 0 then .int .i64 0 else if i = 1 then .int .i64 0 else if i = 2 then .slice none 0 0 else if i = 3 then .slice none 0 0 else .bool false)) := row5 w _ _ _ _ _ 61
  have HS1 : Hid ((w.alloc (.cells #[.int .i64 0, .int .i64 0, .slice none 0 0, .slice none 0 0, .bool false] 61)).heap.size = w.heap.size + 1) := by show _ = _; simp
  have HI : Hid (IntsAt Y (w.alloc (.cells #[.int .i64 0, .int .i64 0, .slice none 0 0, .slice none 0 0, .bool false] 61)) ac nc fc) := h.blw HB.out
  clear h
  go_enter Try.func57, Try.ntmps57
  go_upto_region 1 with fail
  generalize (w.alloc (.cells #[.int .i64 0, .int .i64 0, .slice none 0 0, .slice none 0 0, .bool false] 61)) = w1 at *
  obtain ⟨a1, q1, w2, r1, b1, m1⟩ := copyI HI.out hn cc
  have r9 := row5 w2 (.int .i64 0) (.int .i64 0) (.slice a1 nc q1) (.slice none 0 0) (.bool false) 61
  have hA : Blw w2 (w2.alloc (.cells #[.int .i64 0, .int .i64 0, .slice a1 nc q1, .slice none 0 0, .bool false] 61)) := (Blw.refl _).alloc _
  have HO : Hid (IntsOwn (fun b => w1.heap.size ≤ b ∧ b < w2.heap.size) (w2.alloc (.cells #[.int .i64 0, .int .i64 0, .slice a1 nc q1, .slice none 0 0, .bool false] 61)) a1 nc fc) := (b1.own' (by omega)).blw hA
  have HS2 : Hid (w.heap.size + 1 ≤ w2.heap.size) := by have := m1.size; have := HS1.out; show _ ≤ _; omega
  have HR9 : Hid (Row (w2.alloc (.cells #[.int .i64 0, .int .i64 0, .slice a1 nc q1, .slice none 0 0, .bool false] 61)) w2.heap.size 5 _) := r9
  replace HZ : Hid (Row (w2.alloc (.cells #[.int .i64 0, .int .i64 0, .slice a1 nc q1, .slice none 0 0, .bool false] 61)) w.heap.size 5 (fun i => if i = 0 then .int .i64 0 else if i = 1 then .int .i64 0 else if i = 2 then .slice none 0 0 else if i = 3 then .slice none 0 0 else .bool false)) := (HZ.out.blw m1).blw hA
  replace HB : Hid (Blw w (w2.alloc (.cells #[.int .i64 0, .int .i64 0, .slice a1 nc q1, .slice none 0 0, .bool false] 61))) := (HB.out.trans m1).trans hA
  have HS3 : Hid ((w2.alloc (.cells #[.int .i64 0, .int .i64 0, .slice a1 nc q1, .slice none 0 0, .bool false] 61)).heap.size = w2.heap.size + 1) := by show _ = _; simp
  have R1 : Hid _ := r1
  clear m1 b1 hA HI r1
  obtain ⟨p0, p1, p2, p3, p4⟩ := get5 r9
  clear r9
  go_wp2_with (first | (at_builtin; refine wpList_append_at rfl (.tmp 5) (.tmp 6) 26 rfl ?_; refine ⟨_, _, R1.out, ?_⟩) | fail)
  clear p0 p1 p2 p3 p4 R1
  generalize (w2.alloc (.cells #[.int .i64 0, .int .i64 0, .slice a1 nc q1, .slice none 0 0, .bool false] 61)) = w3 at *
  refine (specGoodG_any (⟨a1, none, q1, 0⟩ : GV) (⟨0, 0, nc, fc, 0, fun _ => 0, false⟩ : GD) _ _ (gat_new q1 HO.out.at)).mono ?_
  rintro e w4 ⟨r, rfl, hr, hb⟩
  have H1 : Hid (r = true ↔ GD.Good (⟨0, 0, nc, fc, 0, fun _ => 0, false⟩ : GD)) := hr
  have hzz := HZ.out.blw hb
  have hbb := HB.out.trans hb
  have hoo := HO.out.blw hb
  have h99 := HR9.out.blw hb
  have HS4 : Hid (w3.heap.size ≤ w4.heap.size) := hb.size
  replace HZ : Hid (Row w4 w.heap.size 5 (fun i => if i = 0 then .int .i64 0 else if i = 1 then .int .i64 0 else if i = 2 then .slice none 0 0 else if i = 3 then .slice none 0 0 else .bool false)) := hzz
  replace HB : Hid (Blw w w4) := hbb
  replace HO : Hid (IntsOwn _ w4 a1 nc fc) := hoo
  replace HR9 : Hid (Row w4 w2.heap.size 5 _) := h99
  clear hr hb hzz hbb hoo h99
  cases r
  · have HN : Hid (¬ GD.Good (⟨0, 0, nc, fc, 0, fun _ => 0, false⟩ : GD)) := fun g => by have := H1.out.2 g; cases this
    clear H1
    obtain ⟨t0, t1, t2, t3, t4⟩ := get5 HZ.out
    have f0 := HZ.out.frozen 0; have f1 := HZ.out.frozen 1; have f2 := HZ.out.frozen 2; have f3 := HZ.out.frozen 3; have f4 := HZ.out.frozen 4
    have m1 := set5_modG w4 w.heap.size (.int .i64 0) (.int .i64 0) (.slice none 0 0) (.slice none 0 0) (.bool false) (X := fun x => x = w.heap.size) rfl
    have HBF : Hid _ := Mod.blw HB.out m1 (fun i hi => by omega)
    clear m1 HZ HB
    go_wp2
    refine bodyPost_ret (v := .tuple #[GV.val GV.zero GD.zero, .bool false]) (by simp [results, Try.results57, go_sem, t0, t1, t2, t3, t4]) rfl ⟨_, _, _, rfl, Or.inr ⟨HN.out, rfl, rfl⟩, GD.zero_small, GOwn.zero _ _, HBF.out⟩
  have HG : Hid (GD.Good (⟨0, 0, nc, fc, 0, fun _ => 0, false⟩ : GD)) := H1.out.1 (by first | rfl | trivial)
  clear H1
  obtain ⟨t0, t1, t2, t3, t4⟩ := get5 HZ.out
  have f0 := HZ.out.frozen 0; have f1 := HZ.out.frozen 1; have f2 := HZ.out.frozen 2; have f3 := HZ.out.frozen 3; have f4 := HZ.out.frozen 4
  obtain ⟨p0, p1, p2, p3, p4⟩ := get5 HR9.out
  have m1 := set5_modG w4 w.heap.size (.int .i64 0) (.int .i64 0) (.slice a1 nc q1) (.slice none 0 0) (.bool false) (X := fun x => x = w.heap.size) rfl
  have m2 := m1.size
  have hs1 := HS1.out; have hs2 := HS2.out; have hs3 := HS3.out; have hs4 := HS4.out
  have HF : Hid (_ ∧ _) := And.intro (gown_new (Z := fun x => w.heap.size ≤ x ∧ x < _) q1 (HO.out.mod' m1 (fun b hb => by omega)) (fun b hb => ⟨by omega, Nat.lt_of_lt_of_le (by omega : b < w4.heap.size) m2⟩)) (Mod.blw HB.out m1 (fun i hi => by omega))
  clear m1 m2 hs1 hs2 hs3 hs4 HO HZ HB HR9 HS1 HS2 HS3 HS4
  go_wp2
  refine bodyPost_ret (v := .tuple #[GV.val (⟨a1, none, q1, 0⟩ : GV) (⟨0, 0, nc, fc, 0, fun _ => 0, false⟩ : GD), .bool true]) (by simp [results, Try.results57, go_sem, t0, t1, t2, t3, t4, GV.val]) rfl ⟨_, (⟨0, 0, nc, fc, 0, fun _ => 0, false⟩ : GD), _, rfl, Or.inl ⟨HG.out, rfl, rfl⟩, HG.out.small, HF.out.1, HF.out.2⟩
set_option maxRecDepth 10000 in
set_option maxHeartbeats 3200000 in
theorem implNewG_any (ac : Option Addr) (cc nc : Nat) (fc : Nat → Int) (Y : Nat → Prop) (w : World) (h : IntsAt Y w ac nc fc) (hY : ∀ b, Y b → b < w.heap.size) :
    Calls Try.prog 56 #[.slice ac nc cc] w fun e w' => ∃ (u : GV) (R : GD) (r : Bool), e = .returned (.tuple #[u.val R, .bool r]) ∧ ngOut nc fc R r ∧ R.small ∧ GOwn (fun x => w.heap.size ≤ x ∧ x < w'.heap.size) w' u R ∧ Blw w w' := by
  have HB : Hid (Blw w (w.alloc (.cells #[.int .i64 0, .int .i64 0, .slice none 0 0, .slice none 0 0, .bool false] 61))) := (Blw.refl _).alloc _
  have HZ : Hid (Row (w.alloc (.cells #[.int .i64 0, .int .i64 0, .slice none 0 0, .slice none 0 0, .bool false] 61)) w.heap.size 5 (fun i => if i = 0 then .int .i64 0 else if i = 1 then .int .i64 0 else if i = 2 then .slice none 0 0 else if i = 3 then .slice none 0 0 else .bool false)) := row5 w _ _ _ _ _ 61
  have HS1 : Hid ((w.alloc (.cells #[.int .i64 0, .int .i64 0, .slice none 0 0, .slice none 0 0, .bool false] 61)).heap.size = w.heap.size + 1) := by show _ = _; simp
  have HI : Hid (IntsAt Y (w.alloc (.cells #[.int .i64 0, .int .i64 0, .slice none 0 0, .slice none 0 0, .bool false] 61)) ac nc fc) := h.blw HB.out
  have HYY : Hid (∀ b, Y b → b < (w.alloc (.cells #[.int .i64 0, .int .i64 0, .slice none 0 0, .slice none 0 0, .bool false] 61)).heap.size) := fun b hb => Nat.lt_of_lt_of_le (hY b hb) HB.out.size
  clear h hY
  go_enter Try.func56, Try.ntmps56
  go_upto_region 1 with fail
  generalize (w.alloc (.cells #[.int .i64 0, .int .i64 0, .slice none 0 0, .slice none 0 0, .bool false] 61)) = w1 at *
  go_wp2_with fail
  refine (holdGuest_any (⟨ac, none, cc, 0⟩ : GV) (⟨0, 0, nc, fc, 0, fun _ => 0, false⟩ : GD) Y _ (gat_new cc HI.out) HYY.out).mono ?_
  rintro e w3 ⟨⟨hg, rfl⟩ | ⟨hg, rfl⟩, hb⟩
  case inr =>
    have HN : Hid (¬ GD.Good (⟨0, 0, nc, fc, 0, fun _ => 0, false⟩ : GD)) := hg
    have HS3 : Hid (w.heap.size + 1 ≤ w3.heap.size) := by have := hb.size; have := HS1.out; show _ ≤ _; omega
    have hzz := HZ.out.blw hb
    have hbb := HB.out.trans hb
    clear hg hb HI HYY HS1 HZ HB
    have HZ : Hid (Row w3 w.heap.size 5 (fun i => if i = 0 then .int .i64 0 else if i = 1 then .int .i64 0 else if i = 2 then .slice none 0 0 else if i = 3 then .slice none 0 0 else .bool false)) := hzz
    have HB : Hid (Blw w w3) := hbb
    clear hzz hbb
    go_upto_region 2 with (first | (refine alloc_big rfl 148 rfl 32 hz zeroH ?_; intro wa RA hba hsa) | (refine store_big rfl 148 _ _ rfl _ 32 hz hz rfl rfl wdH RA (fun i _ => hcf_one _ _ _ _ _ _ i) ?_; intro wb RB hmb hsb) | fail)
    have hs3 := HS3.out
    replace HZ : Hid (Row wb w.heap.size 5 (fun i => if i = 0 then .int .i64 0 else if i = 1 then .int .i64 0 else if i = 2 then .slice none 0 0 else if i = 3 then .slice none 0 0 else .bool false)) := (HZ.out.blw hba).mod hmb (by omega)
    replace HB : Hid (Blw w wb) := Mod.blw (HB.out.trans hba) hmb (fun i hi => by omega)
    clear RA hba hsa RB hmb hsb hs3 HS3
    obtain ⟨t0, t1, t2, t3, t4⟩ := get5 HZ.out
    have f0 := HZ.out.frozen 0; have f1 := HZ.out.frozen 1; have f2 := HZ.out.frozen 2; have f3 := HZ.out.frozen 3; have f4 := HZ.out.frozen 4
    have m1 := set5_modG wb w.heap.size (.int .i64 0) (.int .i64 0) (.slice none 0 0) (.slice none 0 0) (.bool false) (X := fun x => x = w.heap.size) rfl
    have HBF : Hid _ := Mod.blw HB.out m1 (fun i hi => by omega)
    clear m1 HZ HB
    go_wp2
    refine bodyPost_ret (v := .tuple #[GV.val GV.zero GD.zero, .bool false]) (by simp [results, Try.results56, go_sem, t0, t1, t2, t3, t4]) rfl ⟨_, _, _, rfl, Or.inr ⟨HN.out, rfl, rfl⟩, GD.zero_small, GOwn.zero _ _, HBF.out⟩
  have HG : Hid (GD.Good (⟨0, 0, nc, fc, 0, fun _ => 0, false⟩ : GD)) := hg
  have HS3 : Hid (w.heap.size + 1 ≤ w3.heap.size) := by have := hb.size; have := HS1.out; show _ ≤ _; omega
  have hzz := HZ.out.blw hb
  have hbb := HB.out.trans hb
  clear hg hb HI HYY HS1 HZ HB
  have HZ : Hid (Row w3 w.heap.size 5 (fun i => if i = 0 then .int .i64 0 else if i = 1 then .int .i64 0 else if i = 2 then .slice none 0 0 else if i = 3 then .slice none 0 0 else .bool false)) := hzz
  have HB : Hid (Blw w w3) := hbb
  clear hzz hbb
  go_upto_region 2 with (first | (refine alloc_big rfl 148 rfl 32 hz zeroH ?_; intro wa RA hba hsa) | (refine store_big rfl 148 _ _ rfl _ 32 (hc (⟨0, 0, nc, fc, 0, fun _ => 0, false⟩ : GD)) hz rfl rfl wdH RA (fun i _ => hc_one _ i) ?_; intro wb RB hmb hsb) | fail)
  have hs3 := HS3.out
  replace HZ : Hid (Row wb w.heap.size 5 (fun i => if i = 0 then .int .i64 0 else if i = 1 then .int .i64 0 else if i = 2 then .slice none 0 0 else if i = 3 then .slice none 0 0 else .bool false)) := (HZ.out.blw hba).mod hmb (by omega)
  replace HB : Hid (Blw w wb) := Mod.blw (HB.out.trans hba) hmb (fun i hi => by omega)
  have HCL : Hid (Cells wb w3.heap.size 0 32 (hc (⟨0, 0, nc, fc, 0, fun _ => 0, false⟩ : GD))) := by have hq := RB.cells; exact hq
  have HZ3 : Hid (w.heap.size < wb.heap.size) := HZ.out.lt
  clear RA hba hsa RB hmb hsb hs3 HS3
  generalize w3.heap.size = zm at *
  go_wp2_with fail
  refine (giveOut0_any zm (⟨0, 0, nc, fc, 0, fun _ => 0, false⟩ : GD) _ HG.out HCL.out).mono ?_
  rintro e w4 ⟨u', rfl, own, hb4⟩
  have hz3 := HZ3.out
  have hs4 := hb4.size
  have hzz := HZ.out.blw hb4
  obtain ⟨t0, t1, t2, t3, t4⟩ := get5 hzz
  have f0 := hzz.frozen 0; have f1 := hzz.frozen 1; have f2 := hzz.frozen 2; have f3 := hzz.frozen 3; have f4 := hzz.frozen 4
  generalize hR : (⟨0, 0, nc, fc, 0, fun _ => 0, false⟩ : GD) = R at *
  have HRE : Hid ((⟨0, 0, nc, fc, 0, fun _ => 0, false⟩ : GD) = R) := hR
  clear hR
  have m1 := set5_modG w4 w.heap.size (.int .i64 R.at_) (.int .i64 R.acc) (.slice u'.a1 R.nc u'.c1) (.slice u'.a2 R.nt u'.c2) (.bool R.d) (X := fun x => x = w.heap.size) rfl
  have m2 := m1.size
  have hs1 := HB.out.size
  have HF : Hid (_ ∧ _) := And.intro ((own.mod m1 (fun b hb => by omega)).mono (Y := fun x => w.heap.size ≤ x ∧ x < _) (fun b hb => ⟨by omega, Nat.lt_of_lt_of_le hb.2 m2⟩)) (Mod.blw (HB.out.trans hb4) m1 (fun i hi => by omega))
  clear m1 m2 hzz own hb4 HZ HB HCL hz3 hs4 HZ3 hs1
  go_wp2
  refine bodyPost_ret (v := .tuple #[GV.val u' R, .bool true]) (by simp [results, Try.results56, go_sem, t0, t1, t2, t3, t4]) rfl ⟨_, R, _, rfl, Or.inl ⟨by rw [HRE.out]; exact HG.out, HRE.out.symm, rfl⟩, HG.out.small, HF.out.1, HF.out.2⟩
end Go.Proofs.Ytbpdopcdhnemfaa
/- Guests that are drawn. -/
namespace Go.Proofs.Ytbpdopcdhnemfaa
open Go.RowKit
set_option linter.unusedSimpArgs false
set_option linter.unusedVariables false
/-- A box of a guest at z, while the cursor at C goes on. -/
structure Gb (Y : Nat → Prop) (w wr : World) (C k z : Nat) (u : GV) (D : GD) : Prop where
  mod : Mod (fun b => b = C) w wr
  cur : Cur Y wr C k
  row : Row wr z 5 (gb u D)
  own : GOwn (fun b => w.heap.size < b ∧ b < wr.heap.size ∧ b ≠ z) wr u D
  rz : Row wr w.heap.size 5 (fun i => if i = 0 then .int .i64 0 else if i = 1 then .int .i64 0 else if i = 2 then .slice none 0 0 else if i = 3 then .slice none 0 0 else .bool false)
theorem Gb.cur' {Y : Nat → Prop} {w wr w1 : World} {C k k' z : Nat} {u : GV} {D : GD} (h : Gb Y w wr C k z u D) (hC : C < w.heap.size) (hz : w.heap.size < z) (hc : Cur Y w1 C k') (hm : Mod (fun b => b = C) wr w1) : Gb Y w w1 C k' z u D := by
  have hs := hm.size
  exact ⟨h.mod.trans hm, hc, h.row.mod hm (by omega), (h.own.mod hm (fun b hb e => by omega)).mono (fun b hb => ⟨hb.1, by omega, hb.2.2⟩), h.rz.mod hm (by omega)⟩
theorem Gb.blw {Y : Nat → Prop} {w wr w1 : World} {C k z : Nat} {u : GV} {D : GD} (h : Gb Y w wr C k z u D) (hb : Blw wr w1) : Gb Y w w1 C k z u D := by
  have hs := hb.size
  exact ⟨h.mod.trans (hb.mod _), h.cur.blw hb, h.row.blw hb, (h.own.blw hb).mono (fun b hb => ⟨hb.1, by omega, hb.2.2⟩), h.rz.blw hb⟩
theorem GOwn.edit {X : Nat → Prop} {w : World} {u : GV} {D : GD} (h : GOwn X w u D) (a b : Int) : GOwn X w u { D with at_ := a, acc := b } := by
  obtain ⟨X1, X2, a1, a2, h1, h2⟩ := h
  exact ⟨X1, X2, a1, a2, h1, h2⟩
theorem Gb.set0 {Y : Nat → Prop} {w wr : World} {C k z : Nat} {u : GV} {D : GD} (h : Gb Y w wr C k z u D) (hC : C < w.heap.size) (hY : ∀ b, Y b → b < w.heap.size ∧ b ≠ C) (hz : w.heap.size < z) (x : Int) : Gb Y w (wr.setCell ⟨z, 0, none⟩ (.int .i64 x)) C k z u { D with at_ := x } := by
  have hm := Mod.setCell (X := fun b => b = z) wr (p := ⟨z, 0, none⟩) rfl (.int .i64 x)
  have hs := hm.size
  exact ⟨h.mod.newerC hm (fun i e => by omega), h.cur.mod hm (by omega) (fun b hb e => by have := hY b hb; omega), (set5 h.row).1 _, (GOwn.edit (GOwn.mono (Y := fun b => w.heap.size < b ∧ b < _ ∧ b ≠ z) (h.own.mod hm (fun b hb e => hb.2.2 e)) (fun b hb => ⟨hb.1, Nat.lt_of_lt_of_le hb.2.1 hs, hb.2.2⟩)) _ _), h.rz.mod hm (by omega)⟩
theorem Gb.set1 {Y : Nat → Prop} {w wr : World} {C k z : Nat} {u : GV} {D : GD} (h : Gb Y w wr C k z u D) (hC : C < w.heap.size) (hY : ∀ b, Y b → b < w.heap.size ∧ b ≠ C) (hz : w.heap.size < z) (x : Int) : Gb Y w (wr.setCell ⟨z, 1, none⟩ (.int .i64 x)) C k z u { D with acc := x } := by
  have hm := Mod.setCell (X := fun b => b = z) wr (p := ⟨z, 1, none⟩) rfl (.int .i64 x)
  have hs := hm.size
  exact ⟨h.mod.newerC hm (fun i e => by omega), h.cur.mod hm (by omega) (fun b hb e => by have := hY b hb; omega), (set5 h.row).2.1 _, (GOwn.edit (GOwn.mono (Y := fun b => w.heap.size < b ∧ b < _ ∧ b ≠ z) (h.own.mod hm (fun b hb e => hb.2.2 e)) (fun b hb => ⟨hb.1, Nat.lt_of_lt_of_le hb.2.1 hs, hb.2.2⟩)) _ _), h.rz.mod hm (by omega)⟩
set_option maxRecDepth 10000 in
set_option maxHeartbeats 6400000 in
theorem guest_any (Y : Nat → Prop) (C k : Nat) (w : World) (hk : k ≤ 700000) (hY : ∀ b, Y b → b < w.heap.size ∧ b ≠ C) (h : Cur Y w C k) :
    Calls Try.prog 112 #[.pointer (some ⟨C, 0, none⟩)] w fun e w' => ∃ (u : GV) (D : GD), e = .returned (u.val D) ∧ D.small ∧ GOwn (fun b => w.heap.size ≤ b ∧ b < w'.heap.size) w' u D ∧ Cur Y w' C (k + 120) ∧ Mod (fun b => b = C) w w' := by
  have hC := h.lt
  have HB : Hid (Blw w (w.alloc (.cells #[.int .i64 0, .int .i64 0, .slice none 0 0, .slice none 0 0, .bool false] 61))) := (Blw.refl _).alloc _
  have HZ : Hid (Row (w.alloc (.cells #[.int .i64 0, .int .i64 0, .slice none 0 0, .slice none 0 0, .bool false] 61)) w.heap.size 5 (fun i => if i = 0 then .int .i64 0 else if i = 1 then .int .i64 0 else if i = 2 then .slice none 0 0 else if i = 3 then .slice none 0 0 else .bool false)) := row5 w _ _ _ _ _ 61
  have HS : Hid ((w.alloc (.cells #[.int .i64 0, .int .i64 0, .slice none 0 0, .slice none 0 0, .bool false] 61)).heap.size = w.heap.size + 1) := by show _ = _; simp
  have HC : Hid (Cur Y w C k) := h
  clear h
  go_enter Try.func112, Try.ntmps112
  go_upto_region 1 with fail
  generalize (w.alloc (.cells #[.int .i64 0, .int .i64 0, .slice none 0 0, .slice none 0 0, .bool false] 61)) = w1 at *
  go_wp2_with fail
  refine (cells_any Y C k w1 (by omega) (fun b hb => ⟨by have := (hY b hb).1; have := HS.out; omega, (hY b hb).2⟩) (HC.out.blw HB.out)).mono ?_
  rintro e w2 ⟨v, rfl, hb⟩
  obtain ⟨c, hbf⟩ := hb.ex
  obtain ⟨ao, cap, rfl, hio⟩ := BufI.own hbf (by omega)
  have HIO : Hid (IntsOwn (fun b => w1.heap.size ≤ b ∧ b < w2.heap.size) w2 ao 8 c) := hio
  have HM2 : Hid (Mod (fun b => b = C) w w2) := (HB.out.mod _).trans hb.mod
  have HC2 : Hid (Cur Y w2 C (k + 100)) := hb.cur
  have HZ2 : Hid (Row w2 w.heap.size 5 (fun i => if i = 0 then .int .i64 0 else if i = 1 then .int .i64 0 else if i = 2 then .slice none 0 0 else if i = 3 then .slice none 0 0 else .bool false)) := HZ.out.mod hb.mod (by omega)
  have HS2 : Hid (w.heap.size < w2.heap.size) := by have := hb.mod.size; have := HS.out; show _ < _; omega
  clear hb hbf hio HB HC HZ HS
  go_wp2_with fail
  refine (specNewG_any ao cap 8 c _ _ (by omega) HIO.out.at).mono ?_
  rintro e w3 ⟨u, R, r, rfl, -, hs, own, hb3⟩
  have HSR : Hid R.small := hs
  have hz : w.heap.size < w3.heap.size := Nat.lt_of_lt_of_le HS2.out hb3.size
  have hA : Blw w3 (w3.alloc (.cells #[.int .i64 R.at_, .int .i64 R.acc, .slice u.a1 R.nc u.c1, .slice u.a2 R.nt u.c2, .bool R.d] 61)) := (Blw.refl _).alloc _
  have hs2 := HS2.out
  have I0 : Hid (Gb Y w (w3.alloc (.cells #[.int .i64 R.at_, .int .i64 R.acc, .slice u.a1 R.nc u.c1, .slice u.a2 R.nt u.c2, .bool R.d] 61)) C (k + 100) w3.heap.size u R) := ⟨HM2.out.trans ((hb3.trans hA).mod _), HC2.out.blw (hb3.trans hA), row5 w3 _ _ _ _ _ 61, (own.blw hA).mono (fun b hb => ⟨by omega, by rw [World.size_alloc]; omega, by omega⟩), HZ2.out.blw (hb3.trans hA)⟩
  clear hs own hb3 hA HM2 HC2 HZ2 HS2 HIO hs2
  go_upto_region 2 with fail
  generalize w3.alloc (.cells #[.int .i64 R.at_, .int .i64 R.acc, .slice u.a1 R.nc u.c1, .slice u.a2 R.nt u.c2, .bool R.d] 61) = w4 at *
  generalize w3.heap.size = z3 at *
  cases r
  · have hmk : (Instr.makeSlice 26 (.int .i64 8) (.int .i64 8)).run Try.prog w4 = .ok (.slice (some ⟨w4.heap.size, 0, none⟩) 8 8) (w4.alloc (.cells (madeCells #[.int .i64 0] 8) 3)) := mkInts 8 (by omega) w4
    have hA : Blw w4 (w4.alloc (.cells (madeCells #[.int .i64 0] 8) 3)) := (Blw.refl _).alloc _
    have HI8 : Hid (IntsAt (fun b => b = w4.heap.size) (w4.alloc (.cells (madeCells #[.int .i64 0] 8) 3)) (some ⟨w4.heap.size, 0, none⟩) 8 (fun _ => 0)) := (row_ints (Row.made w4 (.int .i64 0) 8 3) (by omega) (X := fun b => b = w4.heap.size) rfl).at
    have hzl := I0.out.row.lt
    have J0 : Hid (Gb Y w (w4.alloc (.cells (madeCells #[.int .i64 0] 8) 3)) C (k + 100) z3 u R) := I0.out.blw hA
    clear hA I0 HSR
    go_wp2_with fail
    clear hmk
    refine (specNewG_any _ 8 8 (fun _ => 0) _ _ (by omega) HI8.out).mono ?_
    rintro e w9 ⟨u', R', r', rfl, -, hs', own', hb9⟩
    have J1 : Hid (Gb Y w w9 C (k + 100) z3 u R) := J0.out.blw hb9
    have hzm : w4.heap.size + 1 = (w4.alloc (.cells (madeCells #[.int .i64 0] 8) 3)).heap.size := by simp
    have hs9 := hb9.size
    have OW : Hid (GOwn (fun b => w.heap.size < b ∧ b < w9.heap.size ∧ b ≠ z3) w9 u' R') := own'.mono (fun b hb => ⟨by omega, by omega, by omega⟩)
    clear own' hb9 hzm hs9 J0 HI8 hzl
    obtain ⟨p0, p1, p2, p3, p4⟩ := get5 J1.out.row
    have f0 := J1.out.row.frozen 0; have f1 := J1.out.row.frozen 1; have f2 := J1.out.row.frozen 2; have f3 := J1.out.row.frozen 3; have f4 := J1.out.row.frozen 4
    have m1 := set5_modG w9 z3 (.int .i64 R'.at_) (.int .i64 R'.acc) (.slice u'.a1 R'.nc u'.c1) (.slice u'.a2 R'.nt u'.c2) (.bool R'.d) (X := fun x => x = z3) rfl
    have hs := m1.size
    have K0 : Hid (Gb Y w _ C (k + 100) z3 u' R') := ⟨J1.out.mod.newerC m1 (fun i e => by omega), J1.out.cur.mod m1 (by omega) (fun b hb e => by have := hY b hb; omega), set5_all J1.out.row (.int .i64 R'.at_) (.int .i64 R'.acc) (.slice u'.a1 R'.nc u'.c1) (.slice u'.a2 R'.nt u'.c2) (.bool R'.d), GOwn.mono (Y := fun b => w.heap.size < b ∧ b < _ ∧ b ≠ z3) (OW.out.mod m1 (fun b hb e => hb.2.2 e)) (fun b hb => ⟨hb.1, Nat.lt_of_lt_of_le hb.2.1 hs, hb.2.2⟩), J1.out.rz.mod m1 (by omega)⟩
    have HSR : Hid R'.small := hs'
    clear m1 hs J1 OW hs'
    go_upto_region 4 with fail
    clear p0 p1 p2 p3 p4 f0 f1 f2 f3 f4
    generalize (((((w9.setCell ⟨z3, 0, none⟩ (.int .i64 R'.at_)).setCell ⟨z3, 1, none⟩ (.int .i64 R'.acc)).setCell ⟨z3, 2, none⟩ (.slice u'.a1 R'.nc u'.c1)).setCell ⟨z3, 3, none⟩ (.slice u'.a2 R'.nt u'.c2)).setCell ⟨z3, 4, none⟩ (.bool R'.d)) = v0 at *
    go_wp2_with fail
    refine (pick_any Y C (k + 100) 4 _ (by omega) (by omega) K0.out.cur).mono ?_
    rintro e w5 ⟨x5, rfl, -, hc, hm⟩
    have I1 : Hid (Gb Y w w5 C ((k + 100) + 2) z3 u' R') := K0.out.cur' hC hz hc hm
    obtain ⟨p0, p1, p2, p3, p4⟩ := get5 I1.out.row
    have f0 := I1.out.row.frozen 0
    have I2 : Hid (Gb Y w (w5.setCell ⟨z3, 0, none⟩ (.int .i64 (x5 : Int))) C ((k + 100) + 2) z3 u' { R' with at_ := (x5 : Int) }) := I1.out.set0 hC hY hz x5
    clear K0 I1 hc hm
    go_upto_region 5 with fail
    generalize w5.setCell ⟨z3, 0, none⟩ (.int .i64 (x5 : Int)) = v1 at *
    clear p0 p1 p2 p3 p4 f0
    go_wp2_with fail
    refine (pick_any Y C ((k + 100) + 2) 5 _ (by omega) (by omega) I2.out.cur).mono ?_
    rintro e w6 ⟨x6, rfl, -, hc, hm⟩
    have I3 : Hid (Gb Y w w6 C ((k + 100) + 2 + 2) z3 u' { R' with at_ := (x5 : Int) }) := I2.out.cur' hC hz hc hm
    obtain ⟨p0, p1, p2, p3, p4⟩ := get5 I3.out.row
    have f1 := I3.out.row.frozen 1
    have I4 : Hid (Gb Y w (w6.setCell ⟨z3, 1, none⟩ (.int .i64 (x6 : Int))) C ((k + 100) + 2 + 2) z3 u' { R' with at_ := (x5 : Int), acc := (x6 : Int) }) := I3.out.set1 hC hY hz x6
    clear I2 I3 hc hm
    go_upto_region 6 with fail
    generalize w6.setCell ⟨z3, 1, none⟩ (.int .i64 (x6 : Int)) = v2 at *
    clear p0 p1 p2 p3 p4 f1
    go_wp2_with fail
    refine (one_any Y C ((k + 100) + 2 + 2) 30 _ (by omega) (by omega) I4.out.cur).mono ?_
    rintro e w7 ⟨r7, rfl, hc, hm⟩
    have I5 : Hid (Gb Y w w7 C ((k + 100) + 2 + 2 + 2) z3 u' { R' with at_ := (x5 : Int), acc := (x6 : Int) }) := I4.out.cur' hC hz hc hm
    clear I4 hc hm
    obtain ⟨p0, p1, p2, p3, p4⟩ := get5 I5.out.row
    cases r7
    · skip
      go_upto_region 8 with fail
      clear p0 p1 p2 p3 p4
      try clear f0
      obtain ⟨p0, p1, p2, p3, p4⟩ := get5 I5.out.row
      obtain ⟨t0, t1, t2, t3, t4⟩ := get5 I5.out.rz
      have g0 := I5.out.rz.frozen 0; have g1 := I5.out.rz.frozen 1; have g2 := I5.out.rz.frozen 2; have g3 := I5.out.rz.frozen 3; have g4 := I5.out.rz.frozen 4
      generalize hD9 : ({ R' with at_ := (x5 : Int), acc := (x6 : Int) } : GD) = D9 at *
      have m1 := set5_modG w7 w.heap.size (.int .i64 D9.at_) (.int .i64 D9.acc) (.slice u'.a1 D9.nc u'.c1) (.slice u'.a2 D9.nt u'.c2) (.bool D9.d) (X := fun x => x = w.heap.size) rfl
      have hs := m1.size
      have HF : Hid (_ ∧ _ ∧ _) := ⟨((I5.out.own.mod m1 (fun b hb => by omega)).mono (Y := fun b => w.heap.size ≤ b ∧ b < _) (fun b hb => ⟨by omega, Nat.lt_of_lt_of_le hb.2.1 hs⟩)), (I5.out.cur.mod m1 (by omega) (fun b hb e => by have := hY b hb; omega)).le (by omega : ((k + 100) + 2 + 2 + 2) ≤ k + 120), I5.out.mod.newerC m1 (fun i e => by omega)⟩
      have HSM : Hid D9.small := by rw [← hD9]; exact HSR.out
      clear m1 hs I5 hD9
      go_wp2
      refine bodyPost_ret (v := GV.val u' D9) (by simp [results, Try.results112, go_sem, t0, t1, t2, t3, t4]) rfl ⟨u', D9, rfl, HSM.out, HF.out.1, HF.out.2.1, HF.out.2.2⟩
    · have hA : Blw w7 (w7.alloc (.cells #[.int .i64 (-1), .int .i64 16, .int .i64 17] 3)) := (Blw.refl _).alloc _
      have hl : Hid (IntsAt (fun b => b = w7.heap.size) (w7.alloc (.cells #[.int .i64 (-1), .int .i64 16, .int .i64 17] 3)) (some ⟨w7.heap.size, 0, none⟩) 3 (fun i => ([-1, 16, 17] : List Int).getD i 0)) := ints_lit w7 [-1, 16, 17] (by simp)
      have hsC : C < w7.heap.size := Nat.lt_of_lt_of_le hC I5.out.mod.size
      have I6 : Hid (Gb Y w (w7.alloc (.cells #[.int .i64 (-1), .int .i64 16, .int .i64 17] 3)) C ((k + 100) + 2 + 2 + 2) z3 u' { R' with at_ := (x5 : Int), acc := (x6 : Int) }) := I5.out.blw hA
      clear hA I5 p0 p1 p2 p3 p4
      go_wp2_with fail
      refine (among_any Y _ C ((k + 100) + 2 + 2 + 2) _ 3 3 _ _ (by omega) (by omega) hl.out (fun b hb => by omega) I6.out.cur).mono ?_
      rintro e w8 ⟨x8, rfl, hc, hm⟩
      have I7 : Hid (Gb Y w w8 C ((k + 100) + 2 + 2 + 2 + 2) z3 u' { R' with at_ := (x5 : Int), acc := (x6 : Int) }) := I6.out.cur' hC hz hc hm
      clear I6 hl hsC hc hm
      obtain ⟨p0, p1, p2, p3, p4⟩ := get5 I7.out.row
      have f0 := I7.out.row.frozen 0
      have I8 : Hid (Gb Y w (w8.setCell ⟨z3, 0, none⟩ (.int .i64 x8)) C ((k + 100) + 2 + 2 + 2 + 2) z3 u' { R' with at_ := x8, acc := (x6 : Int) }) := I7.out.set0 hC hY hz x8
      clear I7
      go_upto_region 8 with fail
      generalize w8.setCell ⟨z3, 0, none⟩ (.int .i64 x8) = v3 at *
      clear p0 p1 p2 p3 p4
      try clear f0
      obtain ⟨p0, p1, p2, p3, p4⟩ := get5 I8.out.row
      obtain ⟨t0, t1, t2, t3, t4⟩ := get5 I8.out.rz
      have g0 := I8.out.rz.frozen 0; have g1 := I8.out.rz.frozen 1; have g2 := I8.out.rz.frozen 2; have g3 := I8.out.rz.frozen 3; have g4 := I8.out.rz.frozen 4
      generalize hD9 : ({ R' with at_ := x8, acc := (x6 : Int) } : GD) = D9 at *
      have m1 := set5_modG v3 w.heap.size (.int .i64 D9.at_) (.int .i64 D9.acc) (.slice u'.a1 D9.nc u'.c1) (.slice u'.a2 D9.nt u'.c2) (.bool D9.d) (X := fun x => x = w.heap.size) rfl
      have hs := m1.size
      have HF : Hid (_ ∧ _ ∧ _) := ⟨((I8.out.own.mod m1 (fun b hb => by omega)).mono (Y := fun b => w.heap.size ≤ b ∧ b < _) (fun b hb => ⟨by omega, Nat.lt_of_lt_of_le hb.2.1 hs⟩)), (I8.out.cur.mod m1 (by omega) (fun b hb e => by have := hY b hb; omega)).le (by omega : ((k + 100) + 2 + 2 + 2 + 2) ≤ k + 120), I8.out.mod.newerC m1 (fun i e => by omega)⟩
      have HSM : Hid D9.small := by rw [← hD9]; exact HSR.out
      clear m1 hs I8 hD9
      go_wp2
      refine bodyPost_ret (v := GV.val u' D9) (by simp [results, Try.results112, go_sem, t0, t1, t2, t3, t4]) rfl ⟨u', D9, rfl, HSM.out, HF.out.1, HF.out.2.1, HF.out.2.2⟩
  · go_upto_region 4 with fail
    generalize w4 = v0 at *
    go_wp2_with fail
    refine (pick_any Y C (k + 100) 4 _ (by omega) (by omega) I0.out.cur).mono ?_
    rintro e w5 ⟨x5, rfl, -, hc, hm⟩
    have I1 : Hid (Gb Y w w5 C ((k + 100) + 2) z3 u R) := I0.out.cur' hC hz hc hm
    obtain ⟨p0, p1, p2, p3, p4⟩ := get5 I1.out.row
    have f0 := I1.out.row.frozen 0
    have I2 : Hid (Gb Y w (w5.setCell ⟨z3, 0, none⟩ (.int .i64 (x5 : Int))) C ((k + 100) + 2) z3 u { R with at_ := (x5 : Int) }) := I1.out.set0 hC hY hz x5
    clear I0 I1 hc hm
    go_upto_region 5 with fail
    generalize w5.setCell ⟨z3, 0, none⟩ (.int .i64 (x5 : Int)) = v1 at *
    clear p0 p1 p2 p3 p4 f0
    go_wp2_with fail
    refine (pick_any Y C ((k + 100) + 2) 5 _ (by omega) (by omega) I2.out.cur).mono ?_
    rintro e w6 ⟨x6, rfl, -, hc, hm⟩
    have I3 : Hid (Gb Y w w6 C ((k + 100) + 2 + 2) z3 u { R with at_ := (x5 : Int) }) := I2.out.cur' hC hz hc hm
    obtain ⟨p0, p1, p2, p3, p4⟩ := get5 I3.out.row
    have f1 := I3.out.row.frozen 1
    have I4 : Hid (Gb Y w (w6.setCell ⟨z3, 1, none⟩ (.int .i64 (x6 : Int))) C ((k + 100) + 2 + 2) z3 u { R with at_ := (x5 : Int), acc := (x6 : Int) }) := I3.out.set1 hC hY hz x6
    clear I2 I3 hc hm
    go_upto_region 6 with fail
    generalize w6.setCell ⟨z3, 1, none⟩ (.int .i64 (x6 : Int)) = v2 at *
    clear p0 p1 p2 p3 p4 f1
    go_wp2_with fail
    refine (one_any Y C ((k + 100) + 2 + 2) 30 _ (by omega) (by omega) I4.out.cur).mono ?_
    rintro e w7 ⟨r7, rfl, hc, hm⟩
    have I5 : Hid (Gb Y w w7 C ((k + 100) + 2 + 2 + 2) z3 u { R with at_ := (x5 : Int), acc := (x6 : Int) }) := I4.out.cur' hC hz hc hm
    clear I4 hc hm
    obtain ⟨p0, p1, p2, p3, p4⟩ := get5 I5.out.row
    cases r7
    · skip
      go_upto_region 8 with fail
      clear p0 p1 p2 p3 p4
      try clear f0
      obtain ⟨p0, p1, p2, p3, p4⟩ := get5 I5.out.row
      obtain ⟨t0, t1, t2, t3, t4⟩ := get5 I5.out.rz
      have g0 := I5.out.rz.frozen 0; have g1 := I5.out.rz.frozen 1; have g2 := I5.out.rz.frozen 2; have g3 := I5.out.rz.frozen 3; have g4 := I5.out.rz.frozen 4
      generalize hD9 : ({ R with at_ := (x5 : Int), acc := (x6 : Int) } : GD) = D9 at *
      have m1 := set5_modG w7 w.heap.size (.int .i64 D9.at_) (.int .i64 D9.acc) (.slice u.a1 D9.nc u.c1) (.slice u.a2 D9.nt u.c2) (.bool D9.d) (X := fun x => x = w.heap.size) rfl
      have hs := m1.size
      have HF : Hid (_ ∧ _ ∧ _) := ⟨((I5.out.own.mod m1 (fun b hb => by omega)).mono (Y := fun b => w.heap.size ≤ b ∧ b < _) (fun b hb => ⟨by omega, Nat.lt_of_lt_of_le hb.2.1 hs⟩)), (I5.out.cur.mod m1 (by omega) (fun b hb e => by have := hY b hb; omega)).le (by omega : ((k + 100) + 2 + 2 + 2) ≤ k + 120), I5.out.mod.newerC m1 (fun i e => by omega)⟩
      have HSM : Hid D9.small := by rw [← hD9]; exact HSR.out
      clear m1 hs I5 hD9
      go_wp2
      refine bodyPost_ret (v := GV.val u D9) (by simp [results, Try.results112, go_sem, t0, t1, t2, t3, t4]) rfl ⟨u, D9, rfl, HSM.out, HF.out.1, HF.out.2.1, HF.out.2.2⟩
    · have hA : Blw w7 (w7.alloc (.cells #[.int .i64 (-1), .int .i64 16, .int .i64 17] 3)) := (Blw.refl _).alloc _
      have hl : Hid (IntsAt (fun b => b = w7.heap.size) (w7.alloc (.cells #[.int .i64 (-1), .int .i64 16, .int .i64 17] 3)) (some ⟨w7.heap.size, 0, none⟩) 3 (fun i => ([-1, 16, 17] : List Int).getD i 0)) := ints_lit w7 [-1, 16, 17] (by simp)
      have hsC : C < w7.heap.size := Nat.lt_of_lt_of_le hC I5.out.mod.size
      have I6 : Hid (Gb Y w (w7.alloc (.cells #[.int .i64 (-1), .int .i64 16, .int .i64 17] 3)) C ((k + 100) + 2 + 2 + 2) z3 u { R with at_ := (x5 : Int), acc := (x6 : Int) }) := I5.out.blw hA
      clear hA I5 p0 p1 p2 p3 p4
      go_wp2_with fail
      refine (among_any Y _ C ((k + 100) + 2 + 2 + 2) _ 3 3 _ _ (by omega) (by omega) hl.out (fun b hb => by omega) I6.out.cur).mono ?_
      rintro e w8 ⟨x8, rfl, hc, hm⟩
      have I7 : Hid (Gb Y w w8 C ((k + 100) + 2 + 2 + 2 + 2) z3 u { R with at_ := (x5 : Int), acc := (x6 : Int) }) := I6.out.cur' hC hz hc hm
      clear I6 hl hsC hc hm
      obtain ⟨p0, p1, p2, p3, p4⟩ := get5 I7.out.row
      have f0 := I7.out.row.frozen 0
      have I8 : Hid (Gb Y w (w8.setCell ⟨z3, 0, none⟩ (.int .i64 x8)) C ((k + 100) + 2 + 2 + 2 + 2) z3 u { R with at_ := x8, acc := (x6 : Int) }) := I7.out.set0 hC hY hz x8
      clear I7
      go_upto_region 8 with fail
      generalize w8.setCell ⟨z3, 0, none⟩ (.int .i64 x8) = v3 at *
      clear p0 p1 p2 p3 p4
      try clear f0
      obtain ⟨p0, p1, p2, p3, p4⟩ := get5 I8.out.row
      obtain ⟨t0, t1, t2, t3, t4⟩ := get5 I8.out.rz
      have g0 := I8.out.rz.frozen 0; have g1 := I8.out.rz.frozen 1; have g2 := I8.out.rz.frozen 2; have g3 := I8.out.rz.frozen 3; have g4 := I8.out.rz.frozen 4
      generalize hD9 : ({ R with at_ := x8, acc := (x6 : Int) } : GD) = D9 at *
      have m1 := set5_modG v3 w.heap.size (.int .i64 D9.at_) (.int .i64 D9.acc) (.slice u.a1 D9.nc u.c1) (.slice u.a2 D9.nt u.c2) (.bool D9.d) (X := fun x => x = w.heap.size) rfl
      have hs := m1.size
      have HF : Hid (_ ∧ _ ∧ _) := ⟨((I8.out.own.mod m1 (fun b hb => by omega)).mono (Y := fun b => w.heap.size ≤ b ∧ b < _) (fun b hb => ⟨by omega, Nat.lt_of_lt_of_le hb.2.1 hs⟩)), (I8.out.cur.mod m1 (by omega) (fun b hb e => by have := hY b hb; omega)).le (by omega : ((k + 100) + 2 + 2 + 2 + 2) ≤ k + 120), I8.out.mod.newerC m1 (fun i e => by omega)⟩
      have HSM : Hid D9.small := by rw [← hD9]; exact HSR.out
      clear m1 hs I8 hD9
      go_wp2
      refine bodyPost_ret (v := GV.val u D9) (by simp [results, Try.results112, go_sem, t0, t1, t2, t3, t4]) rfl ⟨u, D9, rfl, HSM.out, HF.out.1, HF.out.2.1, HF.out.2.2⟩
end Go.Proofs.Ytbpdopcdhnemfaa
/- What FnStepped draws. -/
namespace Go.Proofs.Ytbpdopcdhnemfaa
open Go.RowKit
set_option linter.unusedSimpArgs false
set_option linter.unusedVariables false
theorem Buf.prog {X : Nat → Prop} {w : World} {v : Value} {n : Nat} {F : Nat → Nat → Int} (h : Buf 170 3 X w v n (kc 3 F)) (hn : n ≤ 1048576) :
    ∃ ao cap, v = .slice ao n cap ∧ KOwn 3 X w ao n F := by
  rcases h.1.2 with ⟨rfl, rfl⟩ | ⟨g, cap, cur, rfl, _, hb, h1, h2, h3, h4⟩
  · exact ⟨none, 0, rfl, KOwn.nil _ _ _ _ _⟩
  · refine ⟨_, cap, rfl, by omega, fun hn => ⟨g, h.2 g rfl, rfl, cur, 170, hb, ?_, fun i hi => ?_⟩⟩
    · rw [h3]; exact Nat.mul_le_mul_right _ h1
    · have := congrArg (fun l => l[i]?) h4
      simp [hi] at this
      exact this
set_option maxRecDepth 10000 in
set_option maxHeartbeats 3200000 in
theorem drawStepG_any (ao : Option Addr) (n cc : Nat) (f : Nat → Int) (w : World) (h : BytesAt (fun b => b < w.heap.size) w ao n f) :
    Calls Try.prog 49 #[.slice ao n cc] w fun e w' => ∃ (ap : Option Addr) (np cp : Nat) (F : Nat → Nat → Int) (u : GV) (D : GD), e = .returned (.tuple #[.slice ap np cp, u.val D]) ∧ np ≤ 17 ∧ KOwn 3 (fun x => w.heap.size ≤ x ∧ x < w'.heap.size) w' ap np F ∧ D.small ∧ GOwn (fun x => w.heap.size ≤ x ∧ x < w'.heap.size) w' u D ∧ Blw w w' := by
  have HB : Hid (Blw w ((w.alloc (.cells #[.int .i64 0, .int .i64 0, .slice none 0 0, .slice none 0 0, .bool false] 61)).alloc (.cells #[.slice ao n cc, .int .i64 0, .int .u64 0] 108))) := ((Blw.refl _).alloc _).alloc _
  have HZ : Hid (Row ((w.alloc (.cells #[.int .i64 0, .int .i64 0, .slice none 0 0, .slice none 0 0, .bool false] 61)).alloc (.cells #[.slice ao n cc, .int .i64 0, .int .u64 0] 108)) w.heap.size 5 (fun i => if i = 0 then .int .i64 0 else if i = 1 then .int .i64 0 else if i = 2 then .slice none 0 0 else if i = 3 then .slice none 0 0 else .bool false)) := (row5 w _ _ _ _ _ 61).blw ((Blw.refl _).alloc _)
  have HC : Hid (Cur (fun b => b < w.heap.size) ((w.alloc (.cells #[.int .i64 0, .int .i64 0, .slice none 0 0, .slice none 0 0, .bool false] 61)).alloc (.cells #[.slice ao n cc, .int .i64 0, .int .u64 0] 108)) (w.heap.size + 1) 0) := ⟨ao, n, cc, 0, f, 0, by
    have := box3 (w.alloc (.cells #[.int .i64 0, .int .i64 0, .slice none 0 0, .slice none 0 0, .bool false] 61)) (.slice ao n cc) (.int .i64 0) (.int .u64 0) 108
    rw [World.size_alloc] at this
    exact this, h.blw HB.out, Nat.le_refl _, fun b hb => by omega⟩
  have HS : Hid (((w.alloc (.cells #[.int .i64 0, .int .i64 0, .slice none 0 0, .slice none 0 0, .bool false] 61)).alloc (.cells #[.slice ao n cc, .int .i64 0, .int .u64 0] 108)).heap.size = w.heap.size + 1 + 1) := by show _ = _; simp
  clear h
  go_enter Try.func49, Try.ntmps49
  go_upto_region 2 with fail
  generalize ((w.alloc (.cells #[.int .i64 0, .int .i64 0, .slice none 0 0, .slice none 0 0, .bool false] 61)).alloc (.cells #[.slice ao n cc, .int .i64 0, .int .u64 0] 108)) = w1 at *
  go_wp2_with fail
  refine (program_any (fun b => b < w.heap.size) (w.heap.size + 1) 0 w1 (by omega) (fun b hb => ⟨by have := HS.out; omega, by omega⟩) HC.out).mono ?_
  rintro e w2 ⟨v, np, rfl, hnp, hb⟩
  obtain ⟨F, hbf⟩ := hb.ex
  obtain ⟨ap, cp, rfl, hko⟩ := Buf.prog hbf (by omega)
  have HK : Hid (KOwn 3 (fun b => w1.heap.size ≤ b ∧ b < w2.heap.size) w2 ap np F) := hko
  have HM : Hid (Mod (fun b => b = w.heap.size + 1) w1 w2) := hb.mod
  have HC2 : Hid (Cur (fun b => b < w.heap.size) w2 (w.heap.size + 1) (0 + 400)) := hb.cur
  have HS2 : Hid (w1.heap.size ≤ w2.heap.size) := hb.mod.size
  clear hb hbf hko HC
  go_wp2_with fail
  refine (guest_any (fun b => b < w.heap.size) (w.heap.size + 1) (0 + 400) w2 (by omega) (fun b hb => ⟨by have := HS.out; have := HS2.out; omega, by omega⟩) HC2.out).mono ?_
  rintro e w3 ⟨u, D, rfl, hs, own, hc, hm⟩
  have hs1 := HS.out; have hs2 := HS2.out; have hs3 := hm.size
  have hzz := (HZ.out.mod HM.out (by omega)).mod hm (by omega)
  obtain ⟨t0, t1, t2, t3, t4⟩ := get5 hzz
  have g0 := hzz.frozen 0; have g1 := hzz.frozen 1; have g2 := hzz.frozen 2; have g3 := hzz.frozen 3; have g4 := hzz.frozen 4
  have m1 := set5_modG w3 w.heap.size (.int .i64 D.at_) (.int .i64 D.acc) (.slice u.a1 D.nc u.c1) (.slice u.a2 D.nt u.c2) (.bool D.d) (X := fun x => x = w.heap.size) rfl
  have hs4 := m1.size
  have HF : Hid (_ ∧ _ ∧ _) := ⟨((HK.out.mod hm (fun b hb => by omega)).mod m1 (fun b hb => by omega)).mono (Y := fun b => w.heap.size ≤ b ∧ b < _) (fun b hb => ⟨by omega, Nat.lt_of_lt_of_le (by omega : b < w3.heap.size) hs4⟩), (own.mod m1 (fun b hb => by omega)).mono (Y := fun b => w.heap.size ≤ b ∧ b < _) (fun b hb => ⟨by omega, Nat.lt_of_lt_of_le hb.2 hs4⟩), Mod.blw (Mod.blw (Mod.blw HB.out HM.out (fun i e => by omega)) hm (fun i e => by omega)) m1 (fun i e => by omega)⟩
  have HSM : Hid D.small := hs
  clear hs own hc hm hs1 hs2 hs3 hs4 hzz m1 HK HM HC2 HS2 HS HZ HB
  go_wp2
  refine bodyPost_ret (v := .tuple #[.slice ap np cp, GV.val u D]) (by simp [results, Try.results49, go_sem, t0, t1, t2, t3, t4]) rfl ⟨ap, np, cp, F, u, D, rfl, hnp, HF.out.1, HSM.out, HF.out.2.1, HF.out.2.2⟩
set_option maxRecDepth 10000 in
set_option maxHeartbeats 3200000 in
theorem drawNewB_any (ao : Option Addr) (n cc : Nat) (f : Nat → Int) (w : World) (h : BytesAt (fun b => b < w.heap.size) w ao n f) :
    Calls Try.prog 131 #[.slice ao n cc] w fun e w' => ∃ (a : Option Addr) (c : Nat) (g : Nat → Int), e = .returned (.slice a 8 c) ∧ IntsOwn (fun x => w.heap.size ≤ x ∧ x < w'.heap.size) w' a 8 g ∧ Blw w w' := by
  have HB : Hid (Blw w (w.alloc (.cells #[.slice ao n cc, .int .i64 0, .int .u64 0] 108))) := (Blw.refl _).alloc _
  have HC : Hid (Cur (fun b => b < w.heap.size) (w.alloc (.cells #[.slice ao n cc, .int .i64 0, .int .u64 0] 108)) w.heap.size 0) := ⟨ao, n, cc, 0, f, 0, box3 w _ _ _ 108, h.blw HB.out, Nat.le_refl _, fun b hb => by omega⟩
  have HS : Hid ((w.alloc (.cells #[.slice ao n cc, .int .i64 0, .int .u64 0] 108)).heap.size = w.heap.size + 1) := by show _ = _; simp
  clear h
  go_enter Try.func131, Try.ntmps131
  go_upto_region 2 with fail
  generalize (w.alloc (.cells #[.slice ao n cc, .int .i64 0, .int .u64 0] 108)) = w1 at *
  go_wp2_with fail
  refine (cells_any (fun b => b < w.heap.size) w.heap.size 0 w1 (by omega) (fun b hb => ⟨by have := HS.out; omega, by omega⟩) HC.out).mono ?_
  rintro e w2 ⟨v, rfl, hb⟩
  obtain ⟨g, hbf⟩ := hb.ex
  obtain ⟨a, c, rfl, hio⟩ := BufI.own hbf (by omega)
  have hs1 := HS.out
  have HF : Hid (_ ∧ _) := And.intro (hio.mono' (fun b hb => (⟨by omega, hb.2⟩ : w.heap.size ≤ b ∧ b < w2.heap.size))) (Mod.blw HB.out hb.mod (fun i e => by omega))
  clear hb hbf hio HB HC HS hs1
  go_wp2
  go_ret
  exact ⟨a, c, g, rfl, HF.out.1, HF.out.2⟩
set_option maxRecDepth 10000 in
theorem drawNewG_any (ao : Option Addr) (n cc : Nat) (f : Nat → Int) (w : World) (h : BytesAt (fun b => b < w.heap.size) w ao n f) :
    Calls Try.prog 55 #[.slice ao n cc] w fun e w' => ∃ (a : Option Addr) (c : Nat) (g : Nat → Int), e = .returned (.slice a 8 c) ∧ IntsOwn (fun x => w.heap.size ≤ x ∧ x < w'.heap.size) w' a 8 g ∧ Blw w w' := by
  have H : Hid (BytesAt (fun b => b < w.heap.size) w ao n f) := h
  clear h
  go_enter Try.func55, Try.ntmps55
  go_wp2_with fail
  refine (drawNewB_any ao n cc f _ H.out).mono ?_
  rintro e w2 ⟨a, c, g, rfl, ho, hb⟩
  have HF : Hid (_ ∧ _) := And.intro ho hb
  clear ho hb
  go_wp2
  go_ret
  exact ⟨a, c, g, rfl, HF.out.1, HF.out.2⟩
end Go.Proofs.Ytbpdopcdhnemfaa
/- The laws' sameGuest of the same guest. -/
namespace Go.Proofs.Ytbpdopcdhnemfaa
open Go.RowKit
set_option linter.unusedSimpArgs false
set_option linter.unusedVariables false
set_option maxRecDepth 10000 in
set_option maxHeartbeats 3200000 in
theorem sameGuest_same (v v9 : GV) (D : GD) {Y Z : Nat → Prop} (w : World) (h1 : GAt Y w v D) (h2 : GAt Z w v9 D) :
    Calls Try.prog 42 #[v.val D, v9.val D] w fun e w' => e = .returned (.bool true) ∧ Blw w w' := by
  have HB : Hid (Blw w ((w.alloc (.cells #[.int .i64 D.at_, .int .i64 D.acc, .slice v.a1 D.nc v.c1, .slice v.a2 D.nt v.c2, .bool D.d] 61)).alloc (.cells #[.int .i64 D.at_, .int .i64 D.acc, .slice v9.a1 D.nc v9.c1, .slice v9.a2 D.nt v9.c2, .bool D.d] 61))) := ((Blw.refl _).alloc _).alloc _
  have R0 : Hid (Row ((w.alloc (.cells #[.int .i64 D.at_, .int .i64 D.acc, .slice v.a1 D.nc v.c1, .slice v.a2 D.nt v.c2, .bool D.d] 61)).alloc (.cells #[.int .i64 D.at_, .int .i64 D.acc, .slice v9.a1 D.nc v9.c1, .slice v9.a2 D.nt v9.c2, .bool D.d] 61)) w.heap.size 5 (gb v D)) := (row5 w _ _ _ _ _ 61).blw ((Blw.refl _).alloc _)
  have r1 := row5 (w.alloc (.cells #[.int .i64 D.at_, .int .i64 D.acc, .slice v.a1 D.nc v.c1, .slice v.a2 D.nt v.c2, .bool D.d] 61)) (.int .i64 D.at_) (.int .i64 D.acc) (.slice v9.a1 D.nc v9.c1) (.slice v9.a2 D.nt v9.c2) (.bool D.d) 61
  rw [World.size_alloc] at r1
  have R1 : Hid (Row ((w.alloc (.cells #[.int .i64 D.at_, .int .i64 D.acc, .slice v.a1 D.nc v.c1, .slice v.a2 D.nt v.c2, .bool D.d] 61)).alloc (.cells #[.int .i64 D.at_, .int .i64 D.acc, .slice v9.a1 D.nc v9.c1, .slice v9.a2 D.nt v9.c2, .bool D.d] 61)) (w.heap.size + 1) 5 (gb v9 D)) := r1
  have HW : Hid (GAt Y ((w.alloc (.cells #[.int .i64 D.at_, .int .i64 D.acc, .slice v.a1 D.nc v.c1, .slice v.a2 D.nt v.c2, .bool D.d] 61)).alloc (.cells #[.int .i64 D.at_, .int .i64 D.acc, .slice v9.a1 D.nc v9.c1, .slice v9.a2 D.nt v9.c2, .bool D.d] 61)) v D ∧ GAt Z ((w.alloc (.cells #[.int .i64 D.at_, .int .i64 D.acc, .slice v.a1 D.nc v.c1, .slice v.a2 D.nt v.c2, .bool D.d] 61)).alloc (.cells #[.int .i64 D.at_, .int .i64 D.acc, .slice v9.a1 D.nc v9.c1, .slice v9.a2 D.nt v9.c2, .bool D.d] 61)) v9 D) := ⟨h1.blw HB.out, h2.blw HB.out⟩
  clear h1 h2 r1
  go_enter Try.func42, Try.ntmps42
  go_upto_region 1 with fail
  generalize ((w.alloc (.cells #[.int .i64 D.at_, .int .i64 D.acc, .slice v.a1 D.nc v.c1, .slice v.a2 D.nt v.c2, .bool D.d] 61)).alloc (.cells #[.int .i64 D.at_, .int .i64 D.acc, .slice v9.a1 D.nc v9.c1, .slice v9.a2 D.nt v9.c2, .bool D.d] 61)) = w1 at *
  obtain ⟨p0, p1, p2, p3, p4⟩ := get5 R0.out
  obtain ⟨q0, q1, q2, q3, q4⟩ := get5 R1.out
  go_wp2_with fail
  refine (sameInts_yes v.a1 v9.a1 v.c1 v9.c1 D.nc D.c D.c w1 HW.out.1.c HW.out.2.c (fun _ _ => rfl)).mono ?_
  rintro e w2 ⟨rfl, hw2⟩
  obtain ⟨k1, rfl⟩ := hw2
  have hb1 : Blw w1 (w1.drewN k1) := Blw.drewN (Blw.refl _) k1
  replace HB : Hid (Blw w (w1.drewN k1)) := HB.out.trans hb1
  replace R0 : Hid (Row (w1.drewN k1) w.heap.size 5 (gb v D)) := R0.out.blw hb1
  replace R1 : Hid (Row (w1.drewN k1) (w.heap.size + 1) 5 (gb v9 D)) := R1.out.blw hb1
  replace HW : Hid (GAt Y (w1.drewN k1) v D ∧ GAt Z (w1.drewN k1) v9 D) := ⟨HW.out.1.blw hb1, HW.out.2.blw hb1⟩
  clear hb1 p0 p1 p2 p3 p4 q0 q1 q2 q3 q4
  generalize w1.drewN k1 = w3 at *
  obtain ⟨p0, p1, p2, p3, p4⟩ := get5 R0.out
  obtain ⟨q0, q1, q2, q3, q4⟩ := get5 R1.out
  go_wp2_with fail
  refine (sameInts_yes v.a2 v9.a2 v.c2 v9.c2 D.nt D.t D.t w3 HW.out.1.t HW.out.2.t (fun _ _ => rfl)).mono ?_
  rintro e w4 ⟨rfl, hw4⟩
  obtain ⟨k2, rfl⟩ := hw4
  have hb1 : Blw w3 (w3.drewN k2) := Blw.drewN (Blw.refl _) k2
  replace HB : Hid (Blw w (w3.drewN k2)) := HB.out.trans hb1
  replace R0 : Hid (Row (w3.drewN k2) w.heap.size 5 (gb v D)) := R0.out.blw hb1
  replace R1 : Hid (Row (w3.drewN k2) (w.heap.size + 1) 5 (gb v9 D)) := R1.out.blw hb1
  clear hb1 p0 p1 p2 p3 p4 q0 q1 q2 q3 q4 HW
  generalize w3.drewN k2 = w5 at *
  obtain ⟨p0, p1, p2, p3, p4⟩ := get5 R0.out
  obtain ⟨q0, q1, q2, q3, q4⟩ := get5 R1.out
  go_wp2
  go_ret
  exact ⟨rfl, HB.out⟩
end Go.Proofs.Ytbpdopcdhnemfaa
/- Guests: the model's step. -/
namespace Go.Proofs.Ytbpdopcdhnemfaa
open Go.RowKit
set_option linter.unusedSimpArgs false
set_option linter.unusedVariables false
theorem fin_sets {X Z : Nat → Prop} {w Wm : World} {v : GV} {D : GD} {z : Nat} (v0 v1 v2 v3 v4 : Value) (h : MG X Wm v D) (hz : ¬ X z) (hM : Mod Z w Wm) (hw : w.heap.size ≤ z) :
    MG X (((((Wm.setCell ⟨z, 0, none⟩ v0).setCell ⟨z, 1, none⟩ v1).setCell ⟨z, 2, none⟩ v2).setCell ⟨z, 3, none⟩ v3).setCell ⟨z, 4, none⟩ v4) v D ∧ Mod Z w (((((Wm.setCell ⟨z, 0, none⟩ v0).setCell ⟨z, 1, none⟩ v1).setCell ⟨z, 2, none⟩ v2).setCell ⟨z, 3, none⟩ v3).setCell ⟨z, 4, none⟩ v4) ∧ Wm.heap.size ≤ (((((Wm.setCell ⟨z, 0, none⟩ v0).setCell ⟨z, 1, none⟩ v1).setCell ⟨z, 2, none⟩ v2).setCell ⟨z, 3, none⟩ v3).setCell ⟨z, 4, none⟩ v4).heap.size := by
  have m1 := set5_modG Wm z v0 v1 v2 v3 v4 (X := fun x => x = z) rfl
  refine ⟨h.mod m1 (fun b hb e => hz (e ▸ hb)), ?_, m1.size⟩
  exact ⟨m1.os.trans hM.os, m1.tape.trans hM.tape, m1.output.trans hM.output, Nat.le_trans hM.size m1.size, fun k hk hx => (m1.block k (Nat.lt_of_lt_of_le hk hM.size) (by omega)).trans (hM.block k hk hx)⟩
theorem Mod.old {X Z : Nat → Prop} {w a b : World} (h : Mod Z w a) (k : Mod X a b) (hx : ∀ x, X x → x < w.heap.size → Z x) : Mod Z w b :=
  ⟨k.os.trans h.os, k.tape.trans h.tape, k.output.trans h.output, Nat.le_trans h.size k.size, fun i hi hz => (k.block i (Nat.lt_of_lt_of_le hi h.size) (fun hh => hz (hx i hh hi))).trans (h.block i hi hz)⟩
set_option maxRecDepth 10000 in
set_option maxHeartbeats 3200000 in
theorem l9Step_end (ao : Option Addr) (cp n : Nat) (F : Nat → Nat → Int) (v : GV) (a : Nat) (acc : Int) (c : Nat → Int) (nt : Nat) (t : Nat → Int) (d : Bool) (X Y : Nat → Prop) (w : World) (hn : n ≤ 16) (ha16 : a ≤ 16) (hacc : wordOK acc) (hnt : nt ≤ 20) (hge : n ≤ a) (hF : KAt 3 Y w ao n F) (hX : ∀ b, X b → b < w.heap.size) (h : MG X w v ⟨(a : Int), acc, 8, c, nt, t, d⟩) :
    Calls Try.prog 126 #[.slice ao n cp, v.val ⟨(a : Int), acc, 8, c, nt, t, d⟩] w fun e w' => ∃ v' : GV, e = .returned (v'.val ⟨(a : Int), acc, 8, c, nt, t, true⟩) ∧ MG (fun b => X b ∨ (w.heap.size ≤ b ∧ b < w'.heap.size)) w' v' ⟨(a : Int), acc, 8, c, nt, t, true⟩ ∧ Mod X w w' := by
  have HB : Hid (Blw w ((w.alloc (.cells #[.int .i64 (a : Int), .int .i64 acc, .slice v.a1 8 v.c1, .slice v.a2 nt v.c2, .bool d] 61)).alloc (.cells #[.int .i64 0, .int .i64 0, .slice none 0 0, .slice none 0 0, .bool false] 61))) := ((Blw.refl _).alloc _).alloc _
  have r1 := row5 (w.alloc (.cells #[.int .i64 (a : Int), .int .i64 acc, .slice v.a1 8 v.c1, .slice v.a2 nt v.c2, .bool d] 61)) (.int .i64 0) (.int .i64 0) (.slice none 0 0) (.slice none 0 0) (.bool false) 61
  rw [World.size_alloc] at r1
  have R0 : Hid (Row ((w.alloc (.cells #[.int .i64 (a : Int), .int .i64 acc, .slice v.a1 8 v.c1, .slice v.a2 nt v.c2, .bool d] 61)).alloc (.cells #[.int .i64 0, .int .i64 0, .slice none 0 0, .slice none 0 0, .bool false] 61)) w.heap.size 5 (fun i => if i = 0 then .int .i64 (a : Int) else if i = 1 then .int .i64 acc else if i = 2 then .slice v.a1 8 v.c1 else if i = 3 then .slice v.a2 nt v.c2 else .bool d)) := (row5 w _ _ _ _ _ 61).blw ((Blw.refl _).alloc _)
  have R1 : Hid (Row ((w.alloc (.cells #[.int .i64 (a : Int), .int .i64 acc, .slice v.a1 8 v.c1, .slice v.a2 nt v.c2, .bool d] 61)).alloc (.cells #[.int .i64 0, .int .i64 0, .slice none 0 0, .slice none 0 0, .bool false] 61)) (w.heap.size + 1) 5 (fun i => if i = 0 then .int .i64 0 else if i = 1 then .int .i64 0 else if i = 2 then .slice none 0 0 else if i = 3 then .slice none 0 0 else .bool false)) := r1
  have HM : Hid (MG X ((w.alloc (.cells #[.int .i64 (a : Int), .int .i64 acc, .slice v.a1 8 v.c1, .slice v.a2 nt v.c2, .bool d] 61)).alloc (.cells #[.int .i64 0, .int .i64 0, .slice none 0 0, .slice none 0 0, .bool false] 61)) v ⟨(a : Int), acc, 8, c, nt, t, d⟩) := h.blw HB.out
  have HF : Hid (KAt 3 Y ((w.alloc (.cells #[.int .i64 (a : Int), .int .i64 acc, .slice v.a1 8 v.c1, .slice v.a2 nt v.c2, .bool d] 61)).alloc (.cells #[.int .i64 0, .int .i64 0, .slice none 0 0, .slice none 0 0, .bool false] 61)) ao n F) := hF.blw HB.out
  have HXX : Hid (∀ b, X b → b < w.heap.size) := hX
  have HSZ : Hid (((w.alloc (.cells #[.int .i64 (a : Int), .int .i64 acc, .slice v.a1 8 v.c1, .slice v.a2 nt v.c2, .bool d] 61)).alloc (.cells #[.int .i64 0, .int .i64 0, .slice none 0 0, .slice none 0 0, .bool false] 61)).heap.size = w.heap.size + 1 + 1) := by show _ = _; simp
  clear h hF hX r1
  go_enter Try.func126, Try.ntmps126
  go_upto_region 1 with fail
  generalize ((w.alloc (.cells #[.int .i64 (a : Int), .int .i64 acc, .slice v.a1 8 v.c1, .slice v.a2 nt v.c2, .bool d] 61)).alloc (.cells #[.int .i64 0, .int .i64 0, .slice none 0 0, .slice none 0 0, .bool false] 61)) = w0 at *
  have hsz := HSZ.out
  obtain ⟨p0, p1, p2, p3, p4⟩ := get5 R0.out
  obtain ⟨t0, t1, t2, t3, t4⟩ := get5 R1.out

  have e0 := R0.out.frozen 0; have e1 := R0.out.frozen 1; have e2 := R0.out.frozen 2; have e3 := R0.out.frozen 3; have e4 := R0.out.frozen 4
  have f0 := R1.out.frozen 0; have f1 := R1.out.frozen 1; have f2 := R1.out.frozen 2; have f3 := R1.out.frozen 3; have f4 := R1.out.frozen 4
  have m0 : Mod X w (w0.setCell ⟨w.heap.size, 4, none⟩ (.bool true)) := Mod.old (HB.out.mod X) (Mod.setCell (X := fun x => x = w.heap.size) _ (p := ⟨w.heap.size, 4, none⟩) rfl _) (fun x hx hl => by omega)
  have FIN := fin_sets (v := v) (D := ⟨(a : Int), acc, 8, c, nt, t, true⟩) (Z := X) (w := w) (Wm := (w0.setCell ⟨w.heap.size, 4, none⟩ (.bool true))) (z := w.heap.size + 1) (.int .i64 (a : Int)) (.int .i64 acc) (.slice v.a1 8 v.c1) (.slice v.a2 nt v.c2) (.bool true) (show MG X (w0.setCell ⟨w.heap.size, 4, none⟩ (.bool true)) v ⟨(a : Int), acc, 8, c, nt, t, true⟩ from ⟨(HM.out.mod (Mod.setCell (X := fun x => x = w.heap.size) _ (p := ⟨w.heap.size, 4, none⟩) rfl _) (fun b hb e => by have := HXX.out b hb; omega)).ex⟩) (fun hx => by have := HXX.out _ hx; omega) m0 (by omega)
  have FF : Hid _ := FIN
  clear m0 FIN HB R0 R1 HM HF HXX HSZ hsz
  go_wp2
  refine bodyPost_ret (v := GV.val v ⟨(a : Int), acc, 8, c, nt, t, true⟩) (by simp [results, Try.results126, go_sem, t0, t1, t2, t3, t4]) rfl ?_
  exact ⟨v, rfl, FF.out.1.mono (fun b hb => Or.inl hb), FF.out.2.1⟩
set_option maxRecDepth 10000 in
set_option maxHeartbeats 3200000 in
theorem l9Step_halt (ao : Option Addr) (cp n : Nat) (F : Nat → Nat → Int) (v : GV) (a : Nat) (acc : Int) (c : Nat → Int) (nt : Nat) (t : Nat → Int) (d : Bool) (X Y : Nat → Prop) (w : World) (hn : n ≤ 16) (ha16 : a ≤ 16) (hacc : wordOK acc) (hnt : nt ≤ 20) (hlt : a < n) (hk : F a 0 = 7) (hF : KAt 3 Y w ao n F) (hX : ∀ b, X b → b < w.heap.size) (h : MG X w v ⟨(a : Int), acc, 8, c, nt, t, d⟩) :
    Calls Try.prog 126 #[.slice ao n cp, v.val ⟨(a : Int), acc, 8, c, nt, t, d⟩] w fun e w' => ∃ v' : GV, e = .returned (v'.val ⟨(a : Int), acc, 8, c, nt, t, true⟩) ∧ MG (fun b => X b ∨ (w.heap.size ≤ b ∧ b < w'.heap.size)) w' v' ⟨(a : Int), acc, 8, c, nt, t, true⟩ ∧ Mod X w w' := by
  have HB : Hid (Blw w ((w.alloc (.cells #[.int .i64 (a : Int), .int .i64 acc, .slice v.a1 8 v.c1, .slice v.a2 nt v.c2, .bool d] 61)).alloc (.cells #[.int .i64 0, .int .i64 0, .slice none 0 0, .slice none 0 0, .bool false] 61))) := ((Blw.refl _).alloc _).alloc _
  have r1 := row5 (w.alloc (.cells #[.int .i64 (a : Int), .int .i64 acc, .slice v.a1 8 v.c1, .slice v.a2 nt v.c2, .bool d] 61)) (.int .i64 0) (.int .i64 0) (.slice none 0 0) (.slice none 0 0) (.bool false) 61
  rw [World.size_alloc] at r1
  have R0 : Hid (Row ((w.alloc (.cells #[.int .i64 (a : Int), .int .i64 acc, .slice v.a1 8 v.c1, .slice v.a2 nt v.c2, .bool d] 61)).alloc (.cells #[.int .i64 0, .int .i64 0, .slice none 0 0, .slice none 0 0, .bool false] 61)) w.heap.size 5 (fun i => if i = 0 then .int .i64 (a : Int) else if i = 1 then .int .i64 acc else if i = 2 then .slice v.a1 8 v.c1 else if i = 3 then .slice v.a2 nt v.c2 else .bool d)) := (row5 w _ _ _ _ _ 61).blw ((Blw.refl _).alloc _)
  have R1 : Hid (Row ((w.alloc (.cells #[.int .i64 (a : Int), .int .i64 acc, .slice v.a1 8 v.c1, .slice v.a2 nt v.c2, .bool d] 61)).alloc (.cells #[.int .i64 0, .int .i64 0, .slice none 0 0, .slice none 0 0, .bool false] 61)) (w.heap.size + 1) 5 (fun i => if i = 0 then .int .i64 0 else if i = 1 then .int .i64 0 else if i = 2 then .slice none 0 0 else if i = 3 then .slice none 0 0 else .bool false)) := r1
  have HM : Hid (MG X ((w.alloc (.cells #[.int .i64 (a : Int), .int .i64 acc, .slice v.a1 8 v.c1, .slice v.a2 nt v.c2, .bool d] 61)).alloc (.cells #[.int .i64 0, .int .i64 0, .slice none 0 0, .slice none 0 0, .bool false] 61)) v ⟨(a : Int), acc, 8, c, nt, t, d⟩) := h.blw HB.out
  have HF : Hid (KAt 3 Y ((w.alloc (.cells #[.int .i64 (a : Int), .int .i64 acc, .slice v.a1 8 v.c1, .slice v.a2 nt v.c2, .bool d] 61)).alloc (.cells #[.int .i64 0, .int .i64 0, .slice none 0 0, .slice none 0 0, .bool false] 61)) ao n F) := hF.blw HB.out
  have HXX : Hid (∀ b, X b → b < w.heap.size) := hX
  have HSZ : Hid (((w.alloc (.cells #[.int .i64 (a : Int), .int .i64 acc, .slice v.a1 8 v.c1, .slice v.a2 nt v.c2, .bool d] 61)).alloc (.cells #[.int .i64 0, .int .i64 0, .slice none 0 0, .slice none 0 0, .bool false] 61)).heap.size = w.heap.size + 1 + 1) := by show _ = _; simp
  clear h hF hX r1
  go_enter Try.func126, Try.ntmps126
  go_upto_region 1 with fail
  generalize ((w.alloc (.cells #[.int .i64 (a : Int), .int .i64 acc, .slice v.a1 8 v.c1, .slice v.a2 nt v.c2, .bool d] 61)).alloc (.cells #[.int .i64 0, .int .i64 0, .slice none 0 0, .slice none 0 0, .bool false] 61)) = w0 at *
  have hsz := HSZ.out
  obtain ⟨p0, p1, p2, p3, p4⟩ := get5 R0.out
  obtain ⟨t0, t1, t2, t3, t4⟩ := get5 R1.out
  obtain ⟨bp, op, rfl, -, gg⟩ := HF.out.2 a (by omega)
  have g0 := gg 0 (by omega)
  have g1 := gg 1 (by omega)
  have g2 := gg 2 (by omega)
  rw [Nat.add_zero] at g0
  clear gg
  have hge : ¬ n ≤ a := by omega
  have hlt' : (a : Int) < n := by omega
  rw [hk] at g0
  clear hk hlt
  have e0 := R0.out.frozen 0; have e1 := R0.out.frozen 1; have e2 := R0.out.frozen 2; have e3 := R0.out.frozen 3; have e4 := R0.out.frozen 4
  have f0 := R1.out.frozen 0; have f1 := R1.out.frozen 1; have f2 := R1.out.frozen 2; have f3 := R1.out.frozen 3; have f4 := R1.out.frozen 4
  have m0 : Mod X w (w0.setCell ⟨w.heap.size, 4, none⟩ (.bool true)) := Mod.old (HB.out.mod X) (Mod.setCell (X := fun x => x = w.heap.size) _ (p := ⟨w.heap.size, 4, none⟩) rfl _) (fun x hx hl => by omega)
  have FIN := fin_sets (v := v) (D := ⟨(a : Int), acc, 8, c, nt, t, true⟩) (Z := X) (w := w) (Wm := (w0.setCell ⟨w.heap.size, 4, none⟩ (.bool true))) (z := w.heap.size + 1) (.int .i64 (a : Int)) (.int .i64 acc) (.slice v.a1 8 v.c1) (.slice v.a2 nt v.c2) (.bool true) (show MG X (w0.setCell ⟨w.heap.size, 4, none⟩ (.bool true)) v ⟨(a : Int), acc, 8, c, nt, t, true⟩ from ⟨(HM.out.mod (Mod.setCell (X := fun x => x = w.heap.size) _ (p := ⟨w.heap.size, 4, none⟩) rfl _) (fun b hb e => by have := HXX.out b hb; omega)).ex⟩) (fun hx => by have := HXX.out _ hx; omega) m0 (by omega)
  have FF : Hid _ := FIN
  clear m0 FIN HB R0 R1 HM HF HXX HSZ hsz
  go_wp2
  refine bodyPost_ret (v := GV.val v ⟨(a : Int), acc, 8, c, nt, t, true⟩) (by simp [results, Try.results126, go_sem, t0, t1, t2, t3, t4]) rfl ?_
  exact ⟨v, rfl, FF.out.1.mono (fun b hb => Or.inl hb), FF.out.2.1⟩
set_option maxRecDepth 10000 in
set_option maxHeartbeats 3200000 in
theorem l9Step_full (ao : Option Addr) (cp n : Nat) (F : Nat → Nat → Int) (v : GV) (a : Nat) (acc : Int) (c : Nat → Int) (nt : Nat) (t : Nat → Int) (d : Bool) (X Y : Nat → Prop) (w : World) (hn : n ≤ 16) (ha16 : a ≤ 16) (hacc : wordOK acc) (hnt : nt ≤ 20) (hlt : a < n) (hk : F a 0 = 6) (h20 : nt = 20) (hF : KAt 3 Y w ao n F) (hX : ∀ b, X b → b < w.heap.size) (h : MG X w v ⟨(a : Int), acc, 8, c, nt, t, d⟩) :
    Calls Try.prog 126 #[.slice ao n cp, v.val ⟨(a : Int), acc, 8, c, nt, t, d⟩] w fun e w' => ∃ v' : GV, e = .returned (v'.val ⟨(a : Int), acc, 8, c, nt, t, true⟩) ∧ MG (fun b => X b ∨ (w.heap.size ≤ b ∧ b < w'.heap.size)) w' v' ⟨(a : Int), acc, 8, c, nt, t, true⟩ ∧ Mod X w w' := by
  have HB : Hid (Blw w ((w.alloc (.cells #[.int .i64 (a : Int), .int .i64 acc, .slice v.a1 8 v.c1, .slice v.a2 nt v.c2, .bool d] 61)).alloc (.cells #[.int .i64 0, .int .i64 0, .slice none 0 0, .slice none 0 0, .bool false] 61))) := ((Blw.refl _).alloc _).alloc _
  have r1 := row5 (w.alloc (.cells #[.int .i64 (a : Int), .int .i64 acc, .slice v.a1 8 v.c1, .slice v.a2 nt v.c2, .bool d] 61)) (.int .i64 0) (.int .i64 0) (.slice none 0 0) (.slice none 0 0) (.bool false) 61
  rw [World.size_alloc] at r1
  have R0 : Hid (Row ((w.alloc (.cells #[.int .i64 (a : Int), .int .i64 acc, .slice v.a1 8 v.c1, .slice v.a2 nt v.c2, .bool d] 61)).alloc (.cells #[.int .i64 0, .int .i64 0, .slice none 0 0, .slice none 0 0, .bool false] 61)) w.heap.size 5 (fun i => if i = 0 then .int .i64 (a : Int) else if i = 1 then .int .i64 acc else if i = 2 then .slice v.a1 8 v.c1 else if i = 3 then .slice v.a2 nt v.c2 else .bool d)) := (row5 w _ _ _ _ _ 61).blw ((Blw.refl _).alloc _)
  have R1 : Hid (Row ((w.alloc (.cells #[.int .i64 (a : Int), .int .i64 acc, .slice v.a1 8 v.c1, .slice v.a2 nt v.c2, .bool d] 61)).alloc (.cells #[.int .i64 0, .int .i64 0, .slice none 0 0, .slice none 0 0, .bool false] 61)) (w.heap.size + 1) 5 (fun i => if i = 0 then .int .i64 0 else if i = 1 then .int .i64 0 else if i = 2 then .slice none 0 0 else if i = 3 then .slice none 0 0 else .bool false)) := r1
  have HM : Hid (MG X ((w.alloc (.cells #[.int .i64 (a : Int), .int .i64 acc, .slice v.a1 8 v.c1, .slice v.a2 nt v.c2, .bool d] 61)).alloc (.cells #[.int .i64 0, .int .i64 0, .slice none 0 0, .slice none 0 0, .bool false] 61)) v ⟨(a : Int), acc, 8, c, nt, t, d⟩) := h.blw HB.out
  have HF : Hid (KAt 3 Y ((w.alloc (.cells #[.int .i64 (a : Int), .int .i64 acc, .slice v.a1 8 v.c1, .slice v.a2 nt v.c2, .bool d] 61)).alloc (.cells #[.int .i64 0, .int .i64 0, .slice none 0 0, .slice none 0 0, .bool false] 61)) ao n F) := hF.blw HB.out
  have HXX : Hid (∀ b, X b → b < w.heap.size) := hX
  have HSZ : Hid (((w.alloc (.cells #[.int .i64 (a : Int), .int .i64 acc, .slice v.a1 8 v.c1, .slice v.a2 nt v.c2, .bool d] 61)).alloc (.cells #[.int .i64 0, .int .i64 0, .slice none 0 0, .slice none 0 0, .bool false] 61)).heap.size = w.heap.size + 1 + 1) := by show _ = _; simp
  clear h hF hX r1
  have Hh20 : Hid (nt = 20) := h20
  clear h20
  go_enter Try.func126, Try.ntmps126
  go_upto_region 1 with fail
  generalize ((w.alloc (.cells #[.int .i64 (a : Int), .int .i64 acc, .slice v.a1 8 v.c1, .slice v.a2 nt v.c2, .bool d] 61)).alloc (.cells #[.int .i64 0, .int .i64 0, .slice none 0 0, .slice none 0 0, .bool false] 61)) = w0 at *
  have hsz := HSZ.out
  obtain ⟨p0, p1, p2, p3, p4⟩ := get5 R0.out
  obtain ⟨t0, t1, t2, t3, t4⟩ := get5 R1.out
  obtain ⟨bp, op, rfl, -, gg⟩ := HF.out.2 a (by omega)
  have g0 := gg 0 (by omega)
  have g1 := gg 1 (by omega)
  have g2 := gg 2 (by omega)
  rw [Nat.add_zero] at g0
  clear gg
  have hge : ¬ n ≤ a := by omega
  have hlt' : (a : Int) < n := by omega
  have d20 : ((nt : Int) == 20) = true := by simp [Hh20.out]
  rw [hk] at g0
  clear hk hlt Hh20
  have e0 := R0.out.frozen 0; have e1 := R0.out.frozen 1; have e2 := R0.out.frozen 2; have e3 := R0.out.frozen 3; have e4 := R0.out.frozen 4
  have f0 := R1.out.frozen 0; have f1 := R1.out.frozen 1; have f2 := R1.out.frozen 2; have f3 := R1.out.frozen 3; have f4 := R1.out.frozen 4
  have m0 : Mod X w (w0.setCell ⟨w.heap.size, 4, none⟩ (.bool true)) := Mod.old (HB.out.mod X) (Mod.setCell (X := fun x => x = w.heap.size) _ (p := ⟨w.heap.size, 4, none⟩) rfl _) (fun x hx hl => by omega)
  have FIN := fin_sets (v := v) (D := ⟨(a : Int), acc, 8, c, nt, t, true⟩) (Z := X) (w := w) (Wm := (w0.setCell ⟨w.heap.size, 4, none⟩ (.bool true))) (z := w.heap.size + 1) (.int .i64 (a : Int)) (.int .i64 acc) (.slice v.a1 8 v.c1) (.slice v.a2 nt v.c2) (.bool true) (show MG X (w0.setCell ⟨w.heap.size, 4, none⟩ (.bool true)) v ⟨(a : Int), acc, 8, c, nt, t, true⟩ from ⟨(HM.out.mod (Mod.setCell (X := fun x => x = w.heap.size) _ (p := ⟨w.heap.size, 4, none⟩) rfl _) (fun b hb e => by have := HXX.out b hb; omega)).ex⟩) (fun hx => by have := HXX.out _ hx; omega) m0 (by omega)
  have FF : Hid _ := FIN
  clear m0 FIN HB R0 R1 HM HF HXX HSZ hsz
  go_wp2
  refine bodyPost_ret (v := GV.val v ⟨(a : Int), acc, 8, c, nt, t, true⟩) (by simp [results, Try.results126, go_sem, t0, t1, t2, t3, t4]) rfl ?_
  exact ⟨v, rfl, FF.out.1.mono (fun b hb => Or.inl hb), FF.out.2.1⟩
end Go.Proofs.Ytbpdopcdhnemfaa
