/- Merged by program, in this order: Sq, Rn, Sr. -/
import Derived.Test.YtbpdopcdhnemfaaJoin10
/- The model's runs. -/
namespace Go.Proofs.Ytbpdopcdhnemfaa
open Go.RowKit
set_option linter.unusedSimpArgs false
set_option linter.unusedVariables false
/-- What stands in the model's run behind j steps. -/
structure RInv (n : Nat) (F : Nat → Nat → Int) (D : GD) (k : Nat) (w : World) (z9 : Nat) (wr : World) (j m : Nat) (E : GD) (vv : GV) (tv : Value) (f : Nat → Int) (X1 T1 : Nat → Prop) : Prop where
  hE : E.Good
  row : Row wr z9 5 (gb vv E)
  mg : MG X1 wr vv E
  tb : BufI T1 wr tv m f
  hX : ∀ b, X1 b → w.heap.size ≤ b ∧ b < wr.heap.size ∧ b ≠ z9 ∧ ¬ T1 b
  hT : ∀ b, T1 b → w.heap.size ≤ b ∧ b < wr.heap.size ∧ b ≠ z9
  blw : Blw w wr
  ri : rising m f
  mj : m ≤ j
  g1 : runG n F (k - j) E = runG n F k D
  g2 : manyG n F (k - j) E + j = manyG n F k D
  g3 : ∀ x, (isIn m f x ∨ ∃ i : Nat, x = i ∧ tchG n F (k - j) E i) ↔ ∃ i : Nat, x = i ∧ tchG n F k D i
/-- A step behind it, with the touched cell put or not. -/
theorem RInv.next {n : Nat} {F : Nat → Nat → Int} {D : GD} {k : Nat} {w : World} {z9 : Nat} {wr : World} {j m : Nat} {E : GD} {vv : GV} {tv : Value} {f : Nat → Int} {X1 T1 : Nat → Prop} (I : RInv n F D k w z9 wr j m E vv tv f X1 T1) (hp : progOK n F) (hlt : j < k) (hd : E.d = false)
    {wp : World} {tv' : Value} {m' : Nat} {f' : Nat → Int} {T2 : Nat → Prop} (hb : Blw wr wp) (hT2 : ∀ b, T2 b → (T1 b ∨ wr.heap.size ≤ b) ∧ b < wp.heap.size) (htb : BufI T2 wp tv' m' f') (hri : rising m' f') (hm : m' ≤ m + 1) (hmem : ∀ x, isIn m' f' x ↔ isIn m f x ∨ ∃ i : Nat, x = i ∧ storesG n F E i)
    {ws : World} {v2 : GV} (hmg : MG (fun b => X1 b ∨ (wp.heap.size ≤ b ∧ b < ws.heap.size)) ws v2 (stepG n F E)) (hmod : Mod X1 wp ws) (u0 u1 u2 u3 u4 : Value) (hz : Row (((((ws.setCell ⟨z9, 0, none⟩ u0).setCell ⟨z9, 1, none⟩ u1).setCell ⟨z9, 2, none⟩ u2).setCell ⟨z9, 3, none⟩ u3).setCell ⟨z9, 4, none⟩ u4) z9 5 (gb v2 (stepG n F E))) (hz9 : w.heap.size ≤ z9) :
    RInv n F D k w z9 (((((ws.setCell ⟨z9, 0, none⟩ u0).setCell ⟨z9, 1, none⟩ u1).setCell ⟨z9, 2, none⟩ u2).setCell ⟨z9, 3, none⟩ u3).setCell ⟨z9, 4, none⟩ u4) (j + 1) m' (stepG n F E) v2 tv' f' (fun b => X1 b ∨ (wp.heap.size ≤ b ∧ b < ws.heap.size)) T2 := by
  have m1 := set5_modG ws z9 u0 u1 u2 u3 u4 (X := fun x => x = z9) rfl
  have s1 := hb.size
  have s2 := hmod.size
  have s3 := m1.size
  have sw := I.blw.size
  have hzl := I.row.lt
  refine ⟨stepG_good hp I.hE, hz, hmg.mod m1 (fun b hb e => ?_), (Buf.mod (Buf.mod htb hmod (fun b h1 h2 => ?_)) m1 (fun b h1 e => ?_)), fun b hb => ?_, fun b hb => ?_, Mod.blw (Mod.blw (I.blw.trans hb) hmod (fun b hb => (I.hX b hb).1)) m1 (fun b e => by omega), hri, by have := I.mj; omega, ?_, ?_, fun x => ?_⟩
  · rcases hb with hb | hb
    · exact (I.hX b hb).2.2.1 e
    · omega
  · rcases (hT2 b h1).1 with h3 | h3
    · exact (I.hX b h2).2.2.2 h3
    · have := (I.hX b h2).2.1; omega
  · rcases (hT2 b h1).1 with h3 | h3
    · exact (I.hT b h3).2.2 e
    · omega
  · rcases hb with hb | hb
    · have hx := I.hX b hb
      refine ⟨hx.1, by omega, hx.2.2.1, fun h2 => ?_⟩
      rcases (hT2 b h2).1 with h3 | h3
      · exact hx.2.2.2 h3
      · omega
    · refine ⟨by omega, by omega, by omega, fun h2 => ?_⟩
      have := (hT2 b h2).2; omega
  · have h2 := (hT2 b hb).2
    rcases (hT2 b hb).1 with h3 | h3
    · have hx := I.hT b h3
      exact ⟨hx.1, by omega, hx.2.2⟩
    · exact ⟨by omega, by omega, by omega⟩
  · have g1 := I.g1
    rw [show k - j = (k - (j + 1)) + 1 by omega, (runG_next hd _).1] at g1
    exact g1
  · have g2 := I.g2
    rw [show k - j = (k - (j + 1)) + 1 by omega, (runG_next hd _).2] at g2
    omega
  · rw [← I.g3 x, hmem x, show k - j = (k - (j + 1)) + 1 by omega]
    constructor
    · rintro ((h | ⟨i, e, h⟩) | ⟨i, e, h⟩)
      · exact Or.inl h
      · exact Or.inr ⟨i, e, hd, Or.inl h⟩
      · exact Or.inr ⟨i, e, hd, Or.inr h⟩
    · rintro (h | ⟨i, e, -, h | h⟩)
      · exact Or.inl (Or.inl h)
      · exact Or.inl (Or.inr ⟨i, e, h⟩)
      · exact Or.inr ⟨i, e, h⟩
theorem RInv.fin {n : Nat} {F : Nat → Nat → Int} {D : GD} {k : Nat} {w : World} {z9 : Nat} {wr : World} {j m : Nat} {E : GD} {vv : GV} {tv : Value} {f : Nat → Int} {X1 T1 : Nat → Prop} (I : RInv n F D k w z9 wr j m E vv tv f X1 T1) (hh : k ≤ j ∨ E.d = true) :
    E = runG n F k D ∧ (j : Int) = (manyG n F k D : Int) ∧ ∀ x, isIn m f x ↔ ∃ i : Nat, x = i ∧ tchG n F k D i := by
  have e : runG n F (k - j) E = E ∧ manyG n F (k - j) E = 0 ∧ ∀ i, ¬ tchG n F (k - j) E i := by
    rcases hh with hh | hh
    · rw [show k - j = 0 by omega]; exact ⟨rfl, rfl, fun i => id⟩
    · exact ⟨(runG_done hh _).1, (runG_done hh _).2, fun i => tchG_done hh _ i⟩
  have g1 := I.g1
  have g2 := I.g2
  rw [e.1] at g1
  rw [e.2.1] at g2
  refine ⟨g1, by omega, fun x => ?_⟩
  rw [← I.g3 x]
  exact ⟨Or.inl, fun q => q.elim id (fun ⟨i, _, h⟩ => absurd h (e.2.2 i))⟩
end Go.Proofs.Ytbpdopcdhnemfaa
/- The model's runs, walked. -/
namespace Go.Proofs.Ytbpdopcdhnemfaa
open Go.RowKit
set_option linter.unusedSimpArgs false
set_option linter.unusedVariables false
theorem stores_at {n a : Nat} {F : Nat → Nat → Int} {E : GD} (hp : progOK n F) (ha : E.at_ = (a : Int)) (hlt : a < n) (h4 : F a 0 = 4) (x : Int) : x = F a 1 ↔ ∃ i : Nat, x = i ∧ storesG n F E i := by
  have hi := hp.i a hlt
  have hq : 0 ≤ F a 1 := by rcases hi with q | q | q | q <;> omega
  unfold storesG
  rw [ha, Int.toNat_natCast]
  constructor
  · intro e
    exact ⟨(F a 1).toNat, by omega, by omega, h4, by omega⟩
  · rintro ⟨i, e, -, -, h⟩
    omega
theorem stores_no {n a : Nat} {F : Nat → Nat → Int} {E : GD} (ha : E.at_ = (a : Int)) (h : ¬ (a < n ∧ F a 0 = 4)) (x : Int) : ¬ ∃ i : Nat, x = i ∧ storesG n F E i := by
  unfold storesG
  rw [ha, Int.toNat_natCast]
  rintro ⟨i, -, h1, h2, -⟩
  exact h ⟨by omega, h2⟩
theorem val_done {vv : GV} {E : GD} (h : E.d = true) : vv.val E = .agg #[.int .i64 E.at_, .int .i64 E.acc, .slice vv.a1 E.nc vv.c1, .slice vv.a2 E.nt vv.c2, .bool true] := by
  rw [← h]
theorem RInv.own {n : Nat} {F : Nat → Nat → Int} {D : GD} {k : Nat} {w : World} {z9 : Nat} {wr : World} {j m : Nat} {E : GD} {vv : GV} {tv : Value} {f : Nat → Int} {X1 T1 : Nat → Prop} (I : RInv n F D k w z9 wr j m E vv tv f X1 T1) : GAt X1 wr vv E := (I.mg.own (by have := I.hE.nt; omega)).at
set_option maxRecDepth 10000 in
set_option maxHeartbeats 9600000 in
theorem l9Run_any (ao : Option Addr) (cp n : Nat) (F : Nat → Nat → Int) (v : GV) (D : GD) (k : Nat) (X Y : Nat → Prop) (w : World) (hk : k ≤ 60) (hp : progOK n F) (hg : D.Good) (hF : KAt 3 X w ao n F) (h : GAt Y w v D) :
    Calls Try.prog 117 #[.slice ao n cp, v.val D, .int .i64 (k : Int)] w fun e w' => ∃ (u : GV) (a : Option Addr) (m c : Nat) (f : Nat → Int), e = .returned (.tuple #[u.val (runG n F k D), .int .i64 (manyG n F k D : Int), .slice a m c]) ∧ GOwn (fun x => w.heap.size ≤ x ∧ x < w'.heap.size) w' u (runG n F k D) ∧ IntsOwn (fun x => w.heap.size ≤ x ∧ x < w'.heap.size) w' a m f ∧ m ≤ 60 ∧ rising m f ∧ (∀ x, isIn m f x ↔ ∃ i : Nat, x = i ∧ tchG n F k D i) ∧ Blw w w' := by
  have HB : Hid (Blw w ((w.alloc (.cells #[.int .i64 D.at_, .int .i64 D.acc, .slice v.a1 D.nc v.c1, .slice v.a2 D.nt v.c2, .bool D.d] 61)).alloc (.cells #[.int .i64 0, .int .i64 0, .slice none 0 0, .slice none 0 0, .bool false] 61))) := ((Blw.refl _).alloc _).alloc _
  have R0 : Hid (Row ((w.alloc (.cells #[.int .i64 D.at_, .int .i64 D.acc, .slice v.a1 D.nc v.c1, .slice v.a2 D.nt v.c2, .bool D.d] 61)).alloc (.cells #[.int .i64 0, .int .i64 0, .slice none 0 0, .slice none 0 0, .bool false] 61)) w.heap.size 5 (gb v D)) := (row5 w _ _ _ _ _ 61).blw ((Blw.refl _).alloc _)
  have r1 := row5 (w.alloc (.cells #[.int .i64 D.at_, .int .i64 D.acc, .slice v.a1 D.nc v.c1, .slice v.a2 D.nt v.c2, .bool D.d] 61)) (.int .i64 0) (.int .i64 0) (.slice none 0 0) (.slice none 0 0) (.bool false) 61
  rw [World.size_alloc] at r1
  have HZ : Hid (Row ((w.alloc (.cells #[.int .i64 D.at_, .int .i64 D.acc, .slice v.a1 D.nc v.c1, .slice v.a2 D.nt v.c2, .bool D.d] 61)).alloc (.cells #[.int .i64 0, .int .i64 0, .slice none 0 0, .slice none 0 0, .bool false] 61)) (w.heap.size + 1) 5 (fun i => if i = 0 then .int .i64 0 else if i = 1 then .int .i64 0 else if i = 2 then .slice none 0 0 else if i = 3 then .slice none 0 0 else .bool false)) := r1
  have HS1 : Hid (((w.alloc (.cells #[.int .i64 D.at_, .int .i64 D.acc, .slice v.a1 D.nc v.c1, .slice v.a2 D.nt v.c2, .bool D.d] 61)).alloc (.cells #[.int .i64 0, .int .i64 0, .slice none 0 0, .slice none 0 0, .bool false] 61)).heap.size = w.heap.size + 1 + 1) := by show _ = _; simp
  have HW : Hid (GAt Y w v D ∧ KAt 3 X w ao n F) := ⟨h, hF⟩
  have HP : Hid (progOK n F) := hp
  have HG : Hid D.Good := hg
  clear h hF r1 hp hg
  go_enter Try.func117, Try.ntmps117
  go_upto_region 1 with fail
  generalize ((w.alloc (.cells #[.int .i64 D.at_, .int .i64 D.acc, .slice v.a1 D.nc v.c1, .slice v.a2 D.nt v.c2, .bool D.d] 61)).alloc (.cells #[.int .i64 0, .int .i64 0, .slice none 0 0, .slice none 0 0, .bool false] 61)) = w1 at *
  replace HS1 : Hid (w1.heap.size = w.heap.size + 1 + 1) := HS1
  have HK1 : Hid (KAt 3 X w1 ao n F) := HW.out.2.blw HB.out
  obtain ⟨p0, p1, p2, p3, p4⟩ := get5 R0.out
  go_wp2_with fail
  clear p0 p1 p2 p3 p4
  refine (l9Own_any v D Y _ (by have := HG.out.nc; omega) (by have := HG.out.nt; omega) (HW.out.1.blw HB.out)).mono ?_
  rintro e w2 ⟨v1, rfl, own1, hb⟩
  have hsz := hb.size
  have r9 := row5 w2 (.int .i64 D.at_) (.int .i64 D.acc) (.slice v1.a1 D.nc v1.c1) (.slice v1.a2 D.nt v1.c2) (.bool D.d) 61
  have hA : Blw w2 (w2.alloc (.cells #[.int .i64 D.at_, .int .i64 D.acc, .slice v1.a1 D.nc v1.c1, .slice v1.a2 D.nt v1.c2, .bool D.d] 61)) := (Blw.refl _).alloc _
  have hsA : (w2.alloc (.cells #[.int .i64 D.at_, .int .i64 D.acc, .slice v1.a1 D.nc v1.c1, .slice v1.a2 D.nt v1.c2, .bool D.d] 61)).heap.size = w2.heap.size + 1 := by simp
  have HI0 : Hid (RInv n F D k w1 w2.heap.size (w2.alloc (.cells #[.int .i64 D.at_, .int .i64 D.acc, .slice v1.a1 D.nc v1.c1, .slice v1.a2 D.nt v1.c2, .bool D.d] 61)) 0 0 D v1 (.slice none 0 0) (fun _ => 0) (fun x => w1.heap.size ≤ x ∧ x < w2.heap.size) (fun _ => False)) := ⟨HG.out, r9, own1.blw hA, Buf.nil _ _ _ _ _, fun b hb => ⟨hb.1, by omega, by omega, id⟩, fun b hb => hb.elim, hb.trans hA, fun i _ _ hi => absurd hi (Nat.not_lt_zero _), by omega, rfl, rfl, fun x => ⟨fun q => q.elim (fun ⟨i, hi, _⟩ => absurd hi (Nat.not_lt_zero _)) id, Or.inr⟩⟩
  have HZ9 : Hid (w1.heap.size ≤ w2.heap.size) := hsz
  clear hsA own1 hb hsz hA r9 HG HW R0
  go_wp2_with fail
  generalize w2.heap.size = z9 at *
  go_loopw [10, 11] (fun nv tq wr => ∃ (j m : Nat) (E : GD) (vv : GV) (tv : Value) (f : Nat → Int) (X1 T1 : Nat → Prop), j ≤ k ∧ nv = .int .i64 j ∧ tq = tv ∧ RInv n F D k w1 z9 wr j m E vv tv f X1 T1) (fun nv _ _ => k - (intOf nv).toNat)
  case atStart => exact ⟨0, 0, D, v1, _, _, _, _, by omega, rfl, rfl, HI0.out⟩
  case round =>
    obtain ⟨j, m, E, vv, tv, f, X1, T1, hj, rfl, hq, i0⟩ := hrel
    have hq' := hq.symm
    clear hq
    subst hq'
    have I : Hid (RInv n F D k w1 z9 wr j m E vv tv f X1 T1) := i0
    clear i0 HI0
    obtain ⟨a, ha⟩ : ∃ a : Nat, E.at_ = a := ⟨E.at_.toNat, by have := I.out.hE.a0; omega⟩
    have HA : Hid (E.at_ = (a : Int)) := ha
    have ha16 : a ≤ 16 := by have := I.out.hE.a1; omega
    have hn16 : n ≤ 16 := HP.out.n2
    have HK : Hid (KAt 3 X wr ao n F) := HK1.out.blw I.out.blw
    obtain ⟨p0, p1, p2, p3, p4⟩ := get5 I.out.row
    by_cases hlt : j < k
    · have hlt' : (j : Int) < k := by omega
      cases hd : E.d
      · have HDD : Hid (E.d = false) := hd
        rw [hd] at p4
        rw [ha] at p0
        clear hd ha p1 p2 p3
        by_cases hla : a < n
        · have hla' : (a : Int) < n := by omega
          obtain ⟨bp, op, hao, -, gg⟩ := HK.out.2 a hla
          have HAO : Hid (ao = some ⟨bp, op, none⟩) := hao
          have g0 := gg 0 (by omega)
          have g1 := gg 1 (by omega)
          rw [Nat.add_zero] at g0
          clear gg
          subst hao
          clear HAO
          by_cases h4 : F a 0 = 4
          · rw [h4] at g0
            have HM : Hid (∀ x, x = F a 1 ↔ ∃ i : Nat, x = i ∧ storesG n F E i) := stores_at HP.out HA.out hla h4
            clear h4
            go_wp2_with fail
            clear g0 g1 p0 p4
            refine (l1Put_any T1 tv m f (F a 1) _ (by have := I.out.mj; omega) (fun b hb => (I.out.hT b hb).2.1) I.out.ri I.out.tb).mono ?_
            rintro e wp ⟨tv', rfl, m', f', hput, hbuf, hbp⟩
            have HPT : Hid (Putted m f (F a 1) m' f') := hput
            have HBF : Hid (BufI (fun b => (T1 b ∨ wr.heap.size ≤ b) ∧ b < wp.heap.size) wp tv' m' f') := hbuf
            have HBP : Hid (Blw wr wp) := hbp
            have HNO : Hid True := trivial
            clear hput hbuf hbp
            obtain ⟨p0, p1, p2, p3, p4⟩ := get5 (I.out.row.blw HBP.out)
            have HB2 : Hid (Blw wr wp) := HBP.out
            go_wp2_with fail
            clear p0 p1 p2 p3 p4
            refine (l9Step_any _ cp n F vv E X1 X _ HP.out I.out.hE (HK.out.blw HB2.out) (fun b hb => Nat.lt_of_lt_of_le (I.out.hX b hb).2.1 HB2.out.size) (I.out.mg.blw HB2.out)).mono ?_
            rintro e ws ⟨v2, rfl, own2, hmod⟩
            have hz := (I.out.row.blw HB2.out).mod hmod (fun e => (I.out.hX z9 e).2.2.1 rfl)
            obtain ⟨t0, t1, t2, t3, t4⟩ := get5 hz
            have e0 := hz.frozen 0; have e1 := hz.frozen 1; have e2 := hz.frozen 2; have e3 := hz.frozen 3; have e4 := hz.frozen 4
            generalize hE' : stepG n F E = E' at *
            have HNX := I.out.next HP.out hlt HDD.out HB2.out (fun b hb => hb) HBF.out HPT.out.r HPT.out.le (fun x => by rw [HPT.out.m x, HM.out x]) (hE'.symm ▸ own2) hmod (.int .i64 E'.at_) (.int .i64 E'.acc) (.slice v2.a1 E'.nc v2.c1) (.slice v2.a2 E'.nt v2.c2) (.bool E'.d) (hE'.symm ▸ set5_all hz _ _ _ _ _) HZ9.out
            rw [hE'] at HNX
            have HN : Hid _ := HNX
            clear HNX own2 hmod hz I HDD HB2 HNO HPT HBF HBP HM HK HA
            go_wp2
            go_roundw
            case rel => exact ⟨j + 1, _, E', v2, _, _, _, _, by omega, by go_num, rfl, HN.out⟩
            case measure => simp [intOf]; omega
          · have h4' : (F a 0 == 4) = false := by simpa using h4
            have HNO : Hid (∀ x : Int, ¬ ∃ i : Nat, x = i ∧ storesG n F E i) := stores_no HA.out (fun q => h4 q.2)
            go_upto_region 7 with fail
            clear g0 g1 p0 p4 h4 h4'
            obtain ⟨p0, p1, p2, p3, p4⟩ := get5 (I.out.row.blw (Blw.refl wr))
            have HB2 : Hid (Blw wr wr) := (Blw.refl wr)
            go_wp2_with fail
            clear p0 p1 p2 p3 p4
            refine (l9Step_any _ cp n F vv E X1 X _ HP.out I.out.hE (HK.out.blw HB2.out) (fun b hb => Nat.lt_of_lt_of_le (I.out.hX b hb).2.1 HB2.out.size) (I.out.mg.blw HB2.out)).mono ?_
            rintro e ws ⟨v2, rfl, own2, hmod⟩
            have hz := (I.out.row.blw HB2.out).mod hmod (fun e => (I.out.hX z9 e).2.2.1 rfl)
            obtain ⟨t0, t1, t2, t3, t4⟩ := get5 hz
            have e0 := hz.frozen 0; have e1 := hz.frozen 1; have e2 := hz.frozen 2; have e3 := hz.frozen 3; have e4 := hz.frozen 4
            generalize hE' : stepG n F E = E' at *
            have HNX := I.out.next HP.out hlt HDD.out HB2.out (fun b hb => ⟨Or.inl hb, (I.out.hT b hb).2.1⟩) I.out.tb I.out.ri (by omega) (fun x => ⟨Or.inl, fun q => q.elim id (fun q => absurd q (HNO.out x))⟩) (hE'.symm ▸ own2) hmod (.int .i64 E'.at_) (.int .i64 E'.acc) (.slice v2.a1 E'.nc v2.c1) (.slice v2.a2 E'.nt v2.c2) (.bool E'.d) (hE'.symm ▸ set5_all hz _ _ _ _ _) HZ9.out
            rw [hE'] at HNX
            have HN : Hid _ := HNX
            clear HNX own2 hmod hz I HDD HB2 HNO HK HA
            go_wp2
            go_roundw
            case rel => exact ⟨j + 1, _, E', v2, _, _, _, _, by omega, by go_num, rfl, HN.out⟩
            case measure => simp [intOf]; omega
        · have hge : ¬ (a : Int) < n := by omega
          have HNO : Hid (∀ x : Int, ¬ ∃ i : Nat, x = i ∧ storesG n F E i) := stores_no HA.out (fun q => hla q.1)
          go_upto_region 7 with fail
          clear p0 p4
          obtain ⟨p0, p1, p2, p3, p4⟩ := get5 (I.out.row.blw (Blw.refl wr))
          have HB2 : Hid (Blw wr wr) := (Blw.refl wr)
          go_wp2_with fail
          clear p0 p1 p2 p3 p4
          refine (l9Step_any ao cp n F vv E X1 X _ HP.out I.out.hE (HK.out.blw HB2.out) (fun b hb => Nat.lt_of_lt_of_le (I.out.hX b hb).2.1 HB2.out.size) (I.out.mg.blw HB2.out)).mono ?_
          rintro e ws ⟨v2, rfl, own2, hmod⟩
          have hz := (I.out.row.blw HB2.out).mod hmod (fun e => (I.out.hX z9 e).2.2.1 rfl)
          obtain ⟨t0, t1, t2, t3, t4⟩ := get5 hz
          have e0 := hz.frozen 0; have e1 := hz.frozen 1; have e2 := hz.frozen 2; have e3 := hz.frozen 3; have e4 := hz.frozen 4
          generalize hE' : stepG n F E = E' at *
          have HNX := I.out.next HP.out hlt HDD.out HB2.out (fun b hb => ⟨Or.inl hb, (I.out.hT b hb).2.1⟩) I.out.tb I.out.ri (by omega) (fun x => ⟨Or.inl, fun q => q.elim id (fun q => absurd q (HNO.out x))⟩) (hE'.symm ▸ own2) hmod (.int .i64 E'.at_) (.int .i64 E'.acc) (.slice v2.a1 E'.nc v2.c1) (.slice v2.a2 E'.nt v2.c2) (.bool E'.d) (hE'.symm ▸ set5_all hz _ _ _ _ _) HZ9.out
          rw [hE'] at HNX
          have HN : Hid _ := HNX
          clear HNX own2 hmod hz I HDD HB2 HNO HK HA
          go_wp2
          go_roundw
          case rel => exact ⟨j + 1, _, E', v2, _, _, _, _, by omega, by go_num, rfl, HN.out⟩
          case measure => simp [intOf]; omega
      · rw [hd] at p4
        have HD9 : Hid (E.d = true) := hd
        clear hd ha
        have HFI : Hid (k ≤ j ∨ E.d = true) := Or.inr HD9.out
        go_wp2_with fail
        clear p0 p1 p2 p3 p4
        have cc := l9Own_any vv E X1 wr (by have := I.out.hE.nc; omega) (by have := I.out.hE.nt; omega) I.out.own
        rw [val_done HD9.out] at cc
        refine cc.mono ?_
        rintro e w6 ⟨u', rfl, own, hb4⟩
        have hzz := (HZ.out.blw I.out.blw).blw hb4
        obtain ⟨t0, t1, t2, t3, t4⟩ := get5 hzz
        have f0 := hzz.frozen 0; have f1 := hzz.frozen 1; have f2 := hzz.frozen 2; have f3 := hzz.frozen 3; have f4 := hzz.frozen 4
        have m1 := set5_modG w6 (w.heap.size + 1) (.int .i64 E.at_) (.int .i64 E.acc) (.slice u'.a1 E.nc u'.c1) (.slice u'.a2 E.nt u'.c2) (.bool E.d) (X := fun x => x = w.heap.size + 1) rfl
        have hs1 := HS1.out
        have hs2 := I.out.blw.size
        have hs3 := hb4.size
        have FIN : Hid (_ ∧ _ ∧ _) := ⟨((own.own (by have := I.out.hE.nt; omega)).mod m1 (fun b hb => by omega)).mono (Y := fun x => w.heap.size ≤ x ∧ x < _) (fun b hb => ⟨by omega, Nat.lt_of_lt_of_le hb.2 m1.size⟩), Buf.mono (Buf.mod (Buf.blw I.out.tb hb4) m1 (fun b h1 e => by have := (I.out.hT b h1).1; omega)) (Y := fun x => w.heap.size ≤ x ∧ x < _) (fun b hb => ⟨by have := (I.out.hT b hb).1; omega, Nat.lt_of_lt_of_le (I.out.hT b hb).2.1 (Nat.le_trans hs3 m1.size)⟩), Mod.blw ((HB.out.trans I.out.blw).trans hb4) m1 (fun i hi => by omega)⟩
        have HQ : Hid (_ ∧ _ ∧ _) := ⟨I.out.fin HFI.out, I.out.ri, I.out.mj⟩
        clear m1 hs1 hs2 hs3 own hb4 hzz HZ HB I
        go_wp2
        refine bodyPost_ret (v := .tuple #[GV.val u' E, .int .i64 (j : Int), tv]) (by simp [results, Try.results117, go_sem, t0, t1, t2, t3, t4]) rfl ?_
        obtain ⟨⟨q1, q2, q3⟩, q4, q5⟩ := HQ.out
        obtain ⟨ta, tc, rfl, own5⟩ := BufI.own FIN.out.2.1 (by omega)
        exact ⟨u', ta, m, tc, f, by rw [← q1, ← q2], by rw [← q1]; exact FIN.out.1, own5, by omega, q4, q3, FIN.out.2.2⟩
    · have hge : ¬ (j : Int) < k := by omega
      clear ha
      have HFI : Hid (k ≤ j ∨ E.d = true) := Or.inl (by omega)
      go_wp2_with fail
      clear p0 p1 p2 p3 p4
      have cc := l9Own_any vv E X1 wr (by have := I.out.hE.nc; omega) (by have := I.out.hE.nt; omega) I.out.own

      refine cc.mono ?_
      rintro e w6 ⟨u', rfl, own, hb4⟩
      have hzz := (HZ.out.blw I.out.blw).blw hb4
      obtain ⟨t0, t1, t2, t3, t4⟩ := get5 hzz
      have f0 := hzz.frozen 0; have f1 := hzz.frozen 1; have f2 := hzz.frozen 2; have f3 := hzz.frozen 3; have f4 := hzz.frozen 4
      have m1 := set5_modG w6 (w.heap.size + 1) (.int .i64 E.at_) (.int .i64 E.acc) (.slice u'.a1 E.nc u'.c1) (.slice u'.a2 E.nt u'.c2) (.bool E.d) (X := fun x => x = w.heap.size + 1) rfl
      have hs1 := HS1.out
      have hs2 := I.out.blw.size
      have hs3 := hb4.size
      have FIN : Hid (_ ∧ _ ∧ _) := ⟨((own.own (by have := I.out.hE.nt; omega)).mod m1 (fun b hb => by omega)).mono (Y := fun x => w.heap.size ≤ x ∧ x < _) (fun b hb => ⟨by omega, Nat.lt_of_lt_of_le hb.2 m1.size⟩), Buf.mono (Buf.mod (Buf.blw I.out.tb hb4) m1 (fun b h1 e => by have := (I.out.hT b h1).1; omega)) (Y := fun x => w.heap.size ≤ x ∧ x < _) (fun b hb => ⟨by have := (I.out.hT b hb).1; omega, Nat.lt_of_lt_of_le (I.out.hT b hb).2.1 (Nat.le_trans hs3 m1.size)⟩), Mod.blw ((HB.out.trans I.out.blw).trans hb4) m1 (fun i hi => by omega)⟩
      have HQ : Hid (_ ∧ _ ∧ _) := ⟨I.out.fin HFI.out, I.out.ri, I.out.mj⟩
      clear m1 hs1 hs2 hs3 own hb4 hzz HZ HB I
      go_wp2
      refine bodyPost_ret (v := .tuple #[GV.val u' E, .int .i64 (j : Int), tv]) (by simp [results, Try.results117, go_sem, t0, t1, t2, t3, t4]) rfl ?_
      obtain ⟨⟨q1, q2, q3⟩, q4, q5⟩ := HQ.out
      obtain ⟨ta, tc, rfl, own5⟩ := BufI.own FIN.out.2.1 (by omega)
      exact ⟨u', ta, m, tc, f, by rw [← q1, ← q2], by rw [← q1]; exact FIN.out.1, own5, by omega, q4, q3, FIN.out.2.2⟩
end Go.Proofs.Ytbpdopcdhnemfaa
/- The model's RunGuest and TouchedBy. -/
namespace Go.Proofs.Ytbpdopcdhnemfaa
open Go.RowKit
set_option linter.unusedSimpArgs false
set_option linter.unusedVariables false
set_option maxRecDepth 10000 in
set_option maxHeartbeats 3200000 in
theorem l9Good_any (ao : Option Addr) (cp n : Nat) (F : Nat → Nat → Int) (v : GV) (D : GD) (k : Int) (X Y : Nat → Prop) (w : World) (hF : KAt 3 X w ao n F) (h : GAt Y w v D) :
    Calls Try.prog 116 #[.slice ao n cp, v.val D, .int .i64 k] w fun e w' => ∃ r, e = .returned (.bool r) ∧ (r = true ↔ (progOK n F ∧ D.Good ∧ stepsOK k)) ∧ Blw w w' := by
  have HB : Hid (Blw w (w.alloc (.cells #[.int .i64 D.at_, .int .i64 D.acc, .slice v.a1 D.nc v.c1, .slice v.a2 D.nt v.c2, .bool D.d] 61))) := (Blw.refl _).alloc _
  have R0 : Hid (Row (w.alloc (.cells #[.int .i64 D.at_, .int .i64 D.acc, .slice v.a1 D.nc v.c1, .slice v.a2 D.nt v.c2, .bool D.d] 61)) w.heap.size 5 (gb v D)) := row5 w _ _ _ _ _ 61
  have HW : Hid (GAt Y w v D ∧ KAt 3 X w ao n F) := ⟨h, hF⟩
  clear h hF
  go_enter Try.func116, Try.ntmps116
  go_upto_region 1 with fail
  generalize (w.alloc (.cells #[.int .i64 D.at_, .int .i64 D.acc, .slice v.a1 D.nc v.c1, .slice v.a2 D.nt v.c2, .bool D.d] 61)) = w1 at *
  go_wp2_with fail
  refine (specGoodP_any ao cp n F X _ (HW.out.2.blw HB.out)).mono ?_
  rintro e w2 ⟨r, rfl, hr, hb⟩
  have H1 : Hid (r = true ↔ progOK n F) := hr
  replace R0 : Hid (Row w2 w.heap.size 5 (gb v D)) := R0.out.blw hb
  replace HB : Hid (Blw w w2) := HB.out.trans hb
  clear hr hb
  cases r
  · go_wp2
    exact bodyPost_ret (v := .bool false) (by simp [results, Try.results116, go_sem]) rfl ⟨false, rfl, ⟨fun g => (by cases g), fun g => H1.out.2 g.1⟩, HB.out⟩
  obtain ⟨p0, p1, p2, p3, p4⟩ := get5 R0.out
  go_wp2_with fail
  clear p0 p1 p2 p3 p4
  refine (specGoodG_any v D Y _ (HW.out.1.blw HB.out)).mono ?_
  rintro e w3 ⟨r, rfl, hr, hb⟩
  have H2 : Hid (r = true ↔ D.Good) := hr
  replace HB : Hid (Blw w w3) := HB.out.trans hb
  clear hr hb R0
  cases r
  · go_wp2
    exact bodyPost_ret (v := .bool false) (by simp [results, Try.results116, go_sem]) rfl ⟨false, rfl, ⟨fun g => (by cases g), fun g => H2.out.2 g.2.1⟩, HB.out⟩
  go_wp2_with fail
  refine (l1In_any k 0 60 _).mono ?_
  rintro e w4 ⟨r, rfl, hr, hw⟩
  subst hw
  have H3 : Hid (r = true ↔ (0 ≤ k ∧ k ≤ 60)) := hr
  clear hr
  go_wp2
  exact bodyPost_ret (v := .bool r) (by simp [results, Try.results116, go_sem]) rfl ⟨r, rfl, ⟨fun g => ⟨H1.out.1 (by first | rfl | trivial), H2.out.1 (by first | rfl | trivial), H3.out.1 g⟩, fun g => H3.out.2 g.2.2⟩, HB.out⟩
set_option maxRecDepth 10000 in
set_option maxHeartbeats 3200000 in
theorem specRun_any (ao : Option Addr) (cp n : Nat) (F : Nat → Nat → Int) (v : GV) (D : GD) (k : Int) (X Y : Nat → Prop) (w : World) (hF : KAt 3 X w ao n F) (h : GAt Y w v D) :
    Calls Try.prog 39 #[.slice ao n cp, v.val D, .int .i64 k] w fun e w' => ∃ (u : GV) (R : GD) (x : Int) (r : Bool), e = .returned (.tuple #[u.val R, .int .i64 x, .bool r]) ∧ rgOut n F D k R x r ∧ R.small ∧ GOwn (fun x => w.heap.size ≤ x ∧ x < w'.heap.size) w' u R ∧ Blw w w' := by
  have HB : Hid (Blw w ((w.alloc (.cells #[.int .i64 D.at_, .int .i64 D.acc, .slice v.a1 D.nc v.c1, .slice v.a2 D.nt v.c2, .bool D.d] 61)).alloc (.cells #[.int .i64 0, .int .i64 0, .slice none 0 0, .slice none 0 0, .bool false] 61))) := ((Blw.refl _).alloc _).alloc _
  have R0 : Hid (Row ((w.alloc (.cells #[.int .i64 D.at_, .int .i64 D.acc, .slice v.a1 D.nc v.c1, .slice v.a2 D.nt v.c2, .bool D.d] 61)).alloc (.cells #[.int .i64 0, .int .i64 0, .slice none 0 0, .slice none 0 0, .bool false] 61)) w.heap.size 5 (gb v D)) := (row5 w _ _ _ _ _ 61).blw ((Blw.refl _).alloc _)
  have r1 := row5 (w.alloc (.cells #[.int .i64 D.at_, .int .i64 D.acc, .slice v.a1 D.nc v.c1, .slice v.a2 D.nt v.c2, .bool D.d] 61)) (.int .i64 0) (.int .i64 0) (.slice none 0 0) (.slice none 0 0) (.bool false) 61
  rw [World.size_alloc] at r1
  have HZ : Hid (Row ((w.alloc (.cells #[.int .i64 D.at_, .int .i64 D.acc, .slice v.a1 D.nc v.c1, .slice v.a2 D.nt v.c2, .bool D.d] 61)).alloc (.cells #[.int .i64 0, .int .i64 0, .slice none 0 0, .slice none 0 0, .bool false] 61)) (w.heap.size + 1) 5 (fun i => if i = 0 then .int .i64 0 else if i = 1 then .int .i64 0 else if i = 2 then .slice none 0 0 else if i = 3 then .slice none 0 0 else .bool false)) := r1
  have HS1 : Hid (((w.alloc (.cells #[.int .i64 D.at_, .int .i64 D.acc, .slice v.a1 D.nc v.c1, .slice v.a2 D.nt v.c2, .bool D.d] 61)).alloc (.cells #[.int .i64 0, .int .i64 0, .slice none 0 0, .slice none 0 0, .bool false] 61)).heap.size = w.heap.size + 1 + 1) := by show _ = _; simp
  have HW : Hid (GAt Y w v D ∧ KAt 3 X w ao n F) := ⟨h, hF⟩
  clear h hF r1
  go_enter Try.func39, Try.ntmps39
  go_upto_region 1 with fail
  generalize ((w.alloc (.cells #[.int .i64 D.at_, .int .i64 D.acc, .slice v.a1 D.nc v.c1, .slice v.a2 D.nt v.c2, .bool D.d] 61)).alloc (.cells #[.int .i64 0, .int .i64 0, .slice none 0 0, .slice none 0 0, .bool false] 61)) = w1 at *
  obtain ⟨p0, p1, p2, p3, p4⟩ := get5 R0.out
  go_wp2_with fail
  clear p0 p1 p2 p3 p4
  refine (l9Good_any ao cp n F v D k X Y _ (HW.out.2.blw HB.out) (HW.out.1.blw HB.out)).mono ?_
  rintro e w2 ⟨r, rfl, hr, hb⟩
  have H1 : Hid (r = true ↔ (progOK n F ∧ D.Good ∧ stepsOK k)) := hr
  have HS2 : Hid (w.heap.size + 1 + 1 ≤ w2.heap.size) := by have := hb.size; have := HS1.out; show _ ≤ _; omega
  replace R0 : Hid (Row w2 w.heap.size 5 (gb v D)) := R0.out.blw hb
  replace HZ : Hid (Row w2 (w.heap.size + 1) 5 (fun i => if i = 0 then .int .i64 0 else if i = 1 then .int .i64 0 else if i = 2 then .slice none 0 0 else if i = 3 then .slice none 0 0 else .bool false)) := HZ.out.blw hb
  replace HB : Hid (Blw w w2) := HB.out.trans hb
  clear hr hb HS1
  cases r
  · have HN : Hid (¬ (progOK n F ∧ D.Good ∧ stepsOK k)) := fun g => by have := H1.out.2 g; cases this
    clear H1
    obtain ⟨t0, t1, t2, t3, t4⟩ := get5 HZ.out
    have f0 := HZ.out.frozen 0; have f1 := HZ.out.frozen 1; have f2 := HZ.out.frozen 2; have f3 := HZ.out.frozen 3; have f4 := HZ.out.frozen 4
    have m1 := set5_modG w2 (w.heap.size + 1) (.int .i64 0) (.int .i64 0) (.slice none 0 0) (.slice none 0 0) (.bool false) (X := fun x => x = w.heap.size + 1) rfl
    have HBF : Hid _ := Mod.blw HB.out m1 (fun i hi => by omega)
    clear m1 HZ HB
    go_wp2
    refine bodyPost_ret (v := .tuple #[GV.val GV.zero GD.zero, .int .i64 0, .bool false]) (by simp [results, Try.results39, go_sem, t0, t1, t2, t3, t4]) rfl ⟨_, _, _, _, rfl, Or.inr ⟨HN.out, rfl, rfl, rfl⟩, GD.zero_small, GOwn.zero _ _, HBF.out⟩
  have HOK : Hid (progOK n F ∧ D.Good ∧ stepsOK k) := H1.out.1 (by first | rfl | trivial)
  clear H1
  obtain ⟨kk, hkk⟩ : ∃ kk : Nat, k = kk := ⟨k.toNat, by have := HOK.out.2.2.1; omega⟩
  subst hkk
  obtain ⟨p0, p1, p2, p3, p4⟩ := get5 R0.out
  go_wp2_with fail
  clear p0 p1 p2 p3 p4
  refine (l9Run_any ao cp n F v D kk X Y _ (by have := HOK.out.2.2.2; omega) HOK.out.1 HOK.out.2.1 (HW.out.2.blw HB.out) (HW.out.1.blw HB.out)).mono ?_
  rintro e w3 ⟨u, a, m, c, f, rfl, own, iown, hm, hri, hmem, hb⟩
  have HM : Hid (m ≤ 60 ∧ rising m f ∧ ∀ x, isIn m f x ↔ ∃ i : Nat, x = i ∧ tchG n F kk D i) := ⟨hm, hri, hmem⟩
  have HG2 : Hid ((runG n F kk D).Good) := runG_good HOK.out.1 _ HOK.out.2.1
  generalize hR : runG n F kk D = R at *
  have HRE : Hid (runG n F kk D = R) := hR
  clear hR hm hri hmem R0
  have hA : Blw w3 (w3.alloc (.cells #[.int .i64 R.at_, .int .i64 R.acc, .slice u.a1 R.nc u.c1, .slice u.a2 R.nt u.c2, .bool R.d] 61)) := (Blw.refl _).alloc _
  have hs0 := HB.out.size
  have hs3 := hb.size
  have hs2 := HS2.out
  have r9 := row5 w3 (.int .i64 R.at_) (.int .i64 R.acc) (.slice u.a1 R.nc u.c1) (.slice u.a2 R.nt u.c2) (.bool R.d) 61
  obtain ⟨p0, p1, p2, p3, p4⟩ := get5 r9
  have hzz := (HZ.out.blw hb).blw hA
  obtain ⟨t0, t1, t2, t3, t4⟩ := get5 hzz
  have f0 := hzz.frozen 0; have f1 := hzz.frozen 1; have f2 := hzz.frozen 2; have f3 := hzz.frozen 3; have f4 := hzz.frozen 4
  have m1 := set5_modG (w3.alloc (.cells #[.int .i64 R.at_, .int .i64 R.acc, .slice u.a1 R.nc u.c1, .slice u.a2 R.nt u.c2, .bool R.d] 61)) (w.heap.size + 1) (.int .i64 R.at_) (.int .i64 R.acc) (.slice u.a1 R.nc u.c1) (.slice u.a2 R.nt u.c2) (.bool R.d) (X := fun x => x = w.heap.size + 1) rfl
  have m2 := m1.size
  have m3 := hA.size
  have HF : Hid (_ ∧ _) := And.intro (((own.blw hA).mod m1 (fun b hb => by omega)).mono (Y := fun x => w.heap.size ≤ x ∧ x < _) (fun b hb => ⟨by omega, Nat.lt_of_lt_of_le hb.2 (Nat.le_trans m3 m2)⟩)) (Mod.blw ((HB.out.trans hb).trans hA) m1 (fun i hi => by omega))
  clear m1 m2 m3 hzz own iown hb HZ HB hA r9 hs0 hs2 hs3 HM HS2 HW
  go_wp2
  refine bodyPost_ret (v := .tuple #[GV.val u R, .int .i64 (manyG n F kk D : Int), .bool true]) (by simp [results, Try.results39, go_sem, t0, t1, t2, t3, t4]) rfl ⟨_, R, _, _, rfl, Or.inl ⟨HOK.out, HRE.out.symm, rfl, rfl⟩, HG2.out.small, HF.out.1, HF.out.2⟩
set_option maxRecDepth 10000 in
set_option maxHeartbeats 3200000 in
theorem specTouched_any (ao : Option Addr) (cp n : Nat) (F : Nat → Nat → Int) (v : GV) (D : GD) (k : Int) (X Y : Nat → Prop) (w : World) (hF : KAt 3 X w ao n F) (h : GAt Y w v D) :
    Calls Try.prog 41 #[.slice ao n cp, v.val D, .int .i64 k] w fun e w' => ∃ (a : Option Addr) (m c : Nat) (f : Nat → Int) (r : Bool), e = .returned (.tuple #[.slice a m c, .bool r]) ∧ tbOut n F D k m f r ∧ m ≤ 1048576 ∧ IntsOwn (fun x => w.heap.size ≤ x ∧ x < w'.heap.size) w' a m f ∧ Blw w w' := by
  have HB : Hid (Blw w (w.alloc (.cells #[.int .i64 D.at_, .int .i64 D.acc, .slice v.a1 D.nc v.c1, .slice v.a2 D.nt v.c2, .bool D.d] 61))) := (Blw.refl _).alloc _
  have R0 : Hid (Row (w.alloc (.cells #[.int .i64 D.at_, .int .i64 D.acc, .slice v.a1 D.nc v.c1, .slice v.a2 D.nt v.c2, .bool D.d] 61)) w.heap.size 5 (gb v D)) := row5 w _ _ _ _ _ 61
  have HW : Hid (GAt Y w v D ∧ KAt 3 X w ao n F) := ⟨h, hF⟩
  clear h hF
  go_enter Try.func41, Try.ntmps41
  go_upto_region 1 with fail
  generalize (w.alloc (.cells #[.int .i64 D.at_, .int .i64 D.acc, .slice v.a1 D.nc v.c1, .slice v.a2 D.nt v.c2, .bool D.d] 61)) = w1 at *
  obtain ⟨p0, p1, p2, p3, p4⟩ := get5 R0.out
  go_wp2_with fail
  clear p0 p1 p2 p3 p4
  refine (l9Good_any ao cp n F v D k X Y _ (HW.out.2.blw HB.out) (HW.out.1.blw HB.out)).mono ?_
  rintro e w2 ⟨r, rfl, hr, hb⟩
  have H1 : Hid (r = true ↔ (progOK n F ∧ D.Good ∧ stepsOK k)) := hr
  replace R0 : Hid (Row w2 w.heap.size 5 (gb v D)) := R0.out.blw hb
  replace HB : Hid (Blw w w2) := HB.out.trans hb
  clear hr hb
  cases r
  · have HN : Hid (¬ (progOK n F ∧ D.Good ∧ stepsOK k)) := fun g => by have := H1.out.2 g; cases this
    clear H1
    go_wp2
    exact bodyPost_ret (v := .tuple #[.slice none 0 0, .bool false]) (by simp [results, Try.results41, go_sem]) rfl ⟨none, 0, 0, fun _ => 0, false, rfl, Or.inr ⟨HN.out, rfl, rfl⟩, by omega, IntsOwn.nil' _ _ _ _, HB.out⟩
  have HOK : Hid (progOK n F ∧ D.Good ∧ stepsOK k) := H1.out.1 (by first | rfl | trivial)
  clear H1
  obtain ⟨kk, hkk⟩ : ∃ kk : Nat, k = kk := ⟨k.toNat, by have := HOK.out.2.2.1; omega⟩
  subst hkk
  obtain ⟨p0, p1, p2, p3, p4⟩ := get5 R0.out
  go_wp2_with fail
  clear p0 p1 p2 p3 p4
  refine (l9Run_any ao cp n F v D kk X Y _ (by have := HOK.out.2.2.2; omega) HOK.out.1 HOK.out.2.1 (HW.out.2.blw HB.out) (HW.out.1.blw HB.out)).mono ?_
  rintro e w3 ⟨u, a, m, c, f, rfl, own, iown, hm, hri, hmem, hb⟩
  have HM : Hid (m ≤ 60 ∧ rising m f ∧ ∀ x, isIn m f x ↔ ∃ i : Nat, x = i ∧ tchG n F kk D i) := ⟨hm, hri, hmem⟩
  have HG2 : Hid ((runG n F kk D).Good) := runG_good HOK.out.1 _ HOK.out.2.1
  generalize hR : runG n F kk D = R at *
  have HRE : Hid (runG n F kk D = R) := hR
  clear hR hm hri hmem R0
  have hA : Blw w3 (w3.alloc (.cells #[.int .i64 R.at_, .int .i64 R.acc, .slice u.a1 R.nc u.c1, .slice u.a2 R.nt u.c2, .bool R.d] 61)) := (Blw.refl _).alloc _
  have hs0 := HB.out.size
  have hs3 := hb.size
  have m3 := hA.size
  have HF : Hid (_ ∧ _) := And.intro ((iown.blw hA).mono (Y := fun x => w.heap.size ≤ x ∧ x < _) (fun b hb => ⟨by omega, Nat.lt_of_lt_of_le hb.2 m3⟩)) ((HB.out.trans hb).trans hA)
  clear m3 own iown hb HB hA hs0 hs3 HW
  go_wp2
  exact bodyPost_ret (v := .tuple #[.slice a m c, .bool true]) (by simp [results, Try.results41, go_sem]) rfl ⟨a, m, c, f, true, rfl, Or.inl ⟨HOK.out, rfl, HM.out.2.1, HM.out.2.2⟩, by have := HM.out.1; omega, HF.out.1, HF.out.2⟩
end Go.Proofs.Ytbpdopcdhnemfaa
