/- Law 5: the newest slot behind a write, a commit and a failure, for drawn memories. -/
import Derived.Test.YtnbcjdoohmjghaaJoin8
namespace Go.Proofs.Ytnbcjdoohmjghaa
open Go.RowKit
set_option linter.unusedSimpArgs false
set_option linter.unusedVariables false
theorem ints_none' (w : World) : IntsAt (fun _ => True) w none 0 (fun _ => 0) := ⟨Nat.zero_le _, fun i hi => absurd hi (Nat.not_lt_zero _)⟩
theorem bytes_keep' {w W : World} {ao : Option Addr} {n : Nat} {f : Nat → Int} (h : BytesAt (fun b => b < w.heap.size) W ao n f) (hb : Blw w W) : BytesAt (fun b => b < W.heap.size) W ao n f :=
  ⟨h.1, fun i hi => let ⟨b, o, h1, hX, h2⟩ := h.2 i hi; ⟨b, o, h1, Nat.lt_of_lt_of_le hX hb.size, h2⟩⟩
theorem setb {wr w4 : World} {z : Nat} {a b c : Value} (hm : Blw wr w4) (hz : wr.heap.size ≤ z) : Blw wr (((w4.setCell ⟨z, 0, none⟩ a).setCell ⟨z, 1, none⟩ b).setCell ⟨z, 2, none⟩ c) :=
  ((hm.setCell hz a).setCell hz b).setCell hz c
theorem rem_nat (x : Nat) (N : Int) (h : 0 < N) : ∃ y : Int, (x : Int).tmod N = y ∧ 0 ≤ y ∧ y < N := ⟨(x : Int) % N, Int.tmod_eq_emod_of_nonneg (by omega), Int.emod_nonneg _ (by omega), Int.emod_lt_of_pos _ h⟩
set_option maxRecDepth 10000 in
set_option maxHeartbeats 6400000 in
theorem lawSlotsP (ao1 : Option Addr) (n1 c1 : Nat) (f1 : Nat → Int) (ao2 : Option Addr) (n2 c2 : Nat) (f2 : Nat → Int) (w : World) (h1 : BytesAt (fun b => b < w.heap.size) w ao1 n1 f1) (h2 : BytesAt (fun b => b < w.heap.size) w ao2 n2 f2) :
    Calls Try.prog 5 #[.slice ao1 n1 c1, .slice ao2 n2 c2] w fun e w' => e = .returned (.bool true) ∧ Blw w w' := by
  have H1 : Hid (BytesAt (fun b => b < w.heap.size) w ao1 n1 f1) := h1
  have H2 : Hid (BytesAt (fun b => b < w.heap.size) w ao2 n2 f2) := h2
  clear h1 h2
  go_enter Try.func5, Try.ntmps5
  by_cases hd : wrap64 ((n1 : Int) + n2) > 1048576
  · have d1 : decide (wrap64 ((n1 : Int) + n2) > 1048576) = true := by simpa using hd
    clear hd
    go_wp2
    go_ret
    exact ⟨rfl, Blw.refl _⟩
  have d1 : decide (wrap64 ((n1 : Int) + n2) > 1048576) = false := by simpa using hd
  clear hd
  have H20 : Hid (BytesAt (fun b => b < w.heap.size) w ao2 n2 f2) := H2.out
  have HB : Hid (Blw w w) := Blw.refl w
  go_wp2_with fail
  clear d1
  refine (drawNewest_any ao1 n1 c1 f1 _ H1.out).mono ?_
  rintro e w1 ⟨m, s, c, d, rfl, own, hb⟩
  clear H1
  obtain ⟨MM, hMM⟩ : ∃ MM, MD.full s c d = MM := ⟨_, rfl⟩
  rw [hMM] at own ⊢
  clear hMM
  have hA : Blw w1 (w1.alloc (.cells #[.slice m.a1 MM.n1 m.c1, .slice m.a2 MM.n2 m.c2, .slice m.a3 MM.n3 m.c3] 26)) := (Blw.refl _).alloc _
  replace hb := hb.trans hA
  replace HB : Hid (Blw _ _) := Blw.trans HB.out hb
  replace H2 : Hid (BytesAt _ _ _ _ _) := BytesAt.blw H2.out hb
  clear hb
  have B5 : Hid (Box _ w1.heap.size m MM) := box3 w1 _ _ _ 26
  have M5 : Hid (MemAt _ _ m MM) := own.at.blw hA
  clear own hA
  obtain ⟨p00, p01, p02⟩ := get3 B5.out
  go_wp2_with fail
  clear p00 p01 p02
  refine (implNewest_any m MM _ _ M5.out).mono ?_
  rintro e w2 ⟨e6, a6, b6, ok7, rfl, ho, hb⟩
  have O6 : Hid (nsOut MM e6 a6 b6 ok7) := ho
  clear ho
  have hA : Blw w2 (w2.alloc (.cells #[.int .i64 e6, .int .i64 a6, .int .i64 b6] 56)) := (Blw.refl _).alloc _
  replace hb := hb.trans hA
  replace HB : Hid (Blw _ _) := Blw.trans HB.out hb
  replace H2 : Hid (BytesAt _ _ _ _ _) := BytesAt.blw H2.out hb
  replace B5 : Hid (Box _ _ _ _) := Row.blw B5.out hb
  replace M5 : Hid (MemAt _ _ _ _) := MemAt.blw M5.out hb
  clear hb
  have B6 : Hid (sbx _ w2.heap.size e6 a6 b6) := box3 w2 _ _ _ 56
  clear hA
  obtain ⟨p00, p01, p02⟩ := get3 B5.out
  go_wp2_with fail
  clear p00 p01 p02
  refine (specNewest_any m MM _ _ M5.out).mono ?_
  rintro e w3 ⟨e8, a8, b8, ok9, rfl, ho, hb⟩
  obtain ⟨q1, q2, q3, q4⟩ := nsOut_same ho O6.out
  subst q1 q2 q3 q4
  clear ho
  have hA : Blw w3 (w3.alloc (.cells #[.int .i64 e8, .int .i64 a8, .int .i64 b8] 56)) := (Blw.refl _).alloc _
  replace hb := hb.trans hA
  replace HB : Hid (Blw _ _) := Blw.trans HB.out hb
  replace H2 : Hid (BytesAt _ _ _ _ _) := BytesAt.blw H2.out hb
  replace B5 : Hid (Box _ _ _ _) := Row.blw B5.out hb
  replace M5 : Hid (MemAt _ _ _ _) := MemAt.blw M5.out hb
  replace B6 : Hid (Row _ _ _ _) := Row.blw B6.out hb
  clear hb
  have B8 : Hid (sbx _ w3.heap.size e8 a8 b8) := box3 w3 _ _ _ 56
  clear hA
  have e1 : (ok9 != ok9) = false := by simp
  obtain ⟨p0, p1, p2⟩ := get3 B6.out
  obtain ⟨q0, q1, q2⟩ := get3 B8.out
  go_upto_if 66 with fail
  clear e1 p0 p1 p2 q0 q1 q2
  clear B8
  obtain ⟨w4, hw4⟩ : ∃ w4, w3.alloc (.cells #[.int .i64 e8, .int .i64 a8, .int .i64 b8] 56) = w4 := ⟨_, rfl⟩
  rw [hw4] at HB H2 B5 M5 B6 ⊢
  clear hw4
  go_cut [] from 5 to 158 (fun wx => Blw w wx)
  case first =>
    cases ok9
    · go_wp2_with fail
      go_meet
      exact HB.out
    obtain ⟨p00, p01, p02⟩ := get3 B5.out
    go_wp2_with fail
    clear p00 p01 p02
    refine (implFlushAll_any m MM _ _ M5.out).mono ?_
    rintro e w5 ⟨m10, M10, b11, rfl, ho, own, hb⟩
    have O10 : Hid (faOut MM M10 b11) := ho
    clear ho
    have hA : Blw w5 (w5.alloc (.cells #[.slice m10.a1 M10.n1 m10.c1, .slice m10.a2 M10.n2 m10.c2, .slice m10.a3 M10.n3 m10.c3] 26)) := (Blw.refl _).alloc _
    replace hb := hb.trans hA
    replace HB : Hid (Blw _ _) := Blw.trans HB.out hb
    replace H2 : Hid (BytesAt _ _ _ _ _) := BytesAt.blw H2.out hb
    replace B5 : Hid (Box _ _ _ _) := Row.blw B5.out hb
    replace M5 : Hid (MemAt _ _ _ _) := MemAt.blw M5.out hb
    replace B6 : Hid (Row _ _ _ _) := Row.blw B6.out hb
    clear hb
    have B10 : Hid (Box _ w5.heap.size m10 M10) := box3 w5 _ _ _ 26
    have A10 : Hid (MemAt _ _ m10 M10) := own.at.blw hA
    clear own hA
    clear B5 M5
    obtain rfl : b11 = true := (fa_good (nsOut_good O6.out) O10.out).1
    go_upto_region 10 with fail
    obtain ⟨w6, hw6⟩ : ∃ w6, w5.alloc (.cells #[.slice m10.a1 M10.n1 m10.c1, .slice m10.a2 M10.n2 m10.c2, .slice m10.a3 M10.n3 m10.c3] 26) = w6 := ⟨_, rfl⟩
    rw [hw6] at HB H2 B10 A10 B6 ⊢
    clear hw6
    obtain ⟨S0, S1, S2⟩ := box3_all B6.out
    go_cut [12, 13] from 72 to 82 (fun a b wx => ∃ z7 e a' b' x y ok, a = .pointer (some ⟨z7, 0, none⟩) ∧ b = .bool ok ∧ sbx wx z7 e a' b' ∧ nxOut e8 a8 b8 x y e a' b' ok ∧ Blw w6 wx)
    case first =>
      go_region_held3 (fun w' => Blw w6 w') ((first | exact (Blw.refl _).drew | assumption | exact Blw.alloc kf _ | exact Blw.alloc (Blw.refl _).drew _ | exact setb kf hz)) (first
        | (go_at_call 46; refine (numberOf_any ao2 n2 c2 f2 _ _ (by first | exact H2.out.blw (Blw.refl _).drew | exact H2.out.blw (Blw.alloc (Blw.refl _).drew _))).mono ?_; rintro e wp ⟨x2, rfl, hx2, rfl⟩; obtain ⟨y2, ey2, hy2, hz2⟩ := rem_nat x2 7 (by omega); have mk2 := ey1)
        | (go_at_call 46; refine (numberOf_any ao2 n2 c2 f2 _ _ (by first | exact H2.out.blw (Blw.refl _).drew | exact H2.out.blw (Blw.alloc (Blw.refl _).drew _))).mono ?_; rintro e wp ⟨x1, rfl, hx1, rfl⟩; obtain ⟨y1, ey1, hy1, hz1⟩ := rem_nat x1 99 (by omega))
        | (go_at_call 45; refine (implNext_any e8 a8 b8 y1 y2 _).mono ?_; rintro e wf ⟨ef, af, bf, ok, rfl, hout, hbf⟩; have kf : Blw w6 wf := (by first | exact Blw.trans (Blw.refl _).drew hbf | exact Blw.trans (Blw.alloc (Blw.refl _).drew _) hbf); (first | (have rZ : sbx wf w6.heap.size 0 0 0 := Row.blw (box3 w6.drew (.int .i64 0) (.int .i64 0) (.int .i64 0) 56) hbf; have hz : w6.heap.size ≤ w6.heap.size := (by omega); obtain ⟨y0, y1', y2'⟩ := get3 rZ; obtain ⟨f0, f1', f2'⟩ := fz3 rZ) | skip)))
      all_goals go_wp2_with fail
      all_goals go_meet
      all_goals first
        | exact ⟨_, ef, af, bf, _, _, ok, rfl, rfl, box3 wf _ _ _ 56, hout, kf.alloc _⟩
        | exact ⟨_, ef, af, bf, _, _, ok, rfl, rfl, sbx_set rZ _ _ _, hout, setb kf hz⟩
    case rest =>
      obtain ⟨z12, e12, a12, b12, x12, y12, ok13, rfl, rfl, r12, ho, hb⟩ := hcut
      clear S0 S1 S2
      have O12 : Hid (nxOut e8 a8 b8 x12 y12 e12 a12 b12 ok13) := ho
      clear ho
      replace HB : Hid (Blw _ _) := Blw.trans HB.out hb
      replace H2 : Hid (BytesAt _ _ _ _ _) := BytesAt.blw H2.out hb
      replace B6 : Hid (Row _ _ _ _) := Row.blw B6.out hb
      replace B10 : Hid (Box _ _ _ _) := Row.blw B10.out hb
      replace A10 : Hid (MemAt _ _ _ _) := MemAt.blw A10.out hb
      clear hb
      have B12 : Hid (sbx wc z12 e12 a12 b12) := r12
      clear r12
      cases ok13
      · go_wp2_with fail
        go_meet
        exact HB.out
      obtain ⟨hs, he⟩ : slotOK e12 a12 b12 ∧ e12 = e8 + 1 := by
        rcases O12.out with ⟨g1, g2, rfl, rfl, rfl, _⟩ | ⟨_, _, _, _, g⟩
        · exact ⟨g2, rfl⟩
        · cases g
      have HS : Hid (slotOK e12 a12 b12 ∧ e12 = e8 + 1) := ⟨hs, he⟩
      clear hs he O12
      obtain ⟨p00, p01, p02⟩ := get3 B10.out
      obtain ⟨p10, p11, p12⟩ := get3 B12.out
      go_wp2_with fail
      clear p00 p01 p02 p10 p11 p12
      refine (implWrite_any m10 M10 _ _ e12 a12 b12 A10.out).mono ?_
      rintro e w7 ⟨m14, M14, b15, rfl, ho, own, hb⟩
      have O14 : Hid (wsOut M10 e12 a12 b12 M14 b15) := ho
      clear ho
      have hA : Blw w7 (w7.alloc (.cells #[.slice m14.a1 M14.n1 m14.c1, .slice m14.a2 M14.n2 m14.c2, .slice m14.a3 M14.n3 m14.c3] 26)) := (Blw.refl _).alloc _
      replace hb := hb.trans hA
      replace HB : Hid (Blw _ _) := Blw.trans HB.out hb
      replace H2 : Hid (BytesAt _ _ _ _ _) := BytesAt.blw H2.out hb
      replace B6 : Hid (Row _ _ _ _) := Row.blw B6.out hb
      replace B10 : Hid (Box _ _ _ _) := Row.blw B10.out hb
      replace A10 : Hid (MemAt _ _ _ _) := MemAt.blw A10.out hb
      replace B12 : Hid (Row _ _ _ _) := Row.blw B12.out hb
      clear hb
      have B14 : Hid (Box _ w7.heap.size m14 M14) := box3 w7 _ _ _ 26
      have A14 : Hid (MemAt _ _ m14 M14) := own.at.blw hA
      clear own hA
      obtain ⟨p00, p01, p02⟩ := get3 B10.out
      obtain ⟨p10, p11, p12⟩ := get3 B12.out
      go_wp2_with fail
      clear p00 p01 p02 p10 p11 p12
      refine (implCommit_any m10 M10 _ _ e12 a12 b12 A10.out).mono ?_
      rintro e w8 ⟨m16, M16, b17, rfl, ho, own, hb⟩
      have O16 : Hid (csOut M10 e12 a12 b12 M16 b17) := ho
      clear ho
      have hA : Blw w8 (w8.alloc (.cells #[.slice m16.a1 M16.n1 m16.c1, .slice m16.a2 M16.n2 m16.c2, .slice m16.a3 M16.n3 m16.c3] 26)) := (Blw.refl _).alloc _
      replace hb := hb.trans hA
      replace HB : Hid (Blw _ _) := Blw.trans HB.out hb
      replace H2 : Hid (BytesAt _ _ _ _ _) := BytesAt.blw H2.out hb
      replace B6 : Hid (Row _ _ _ _) := Row.blw B6.out hb
      replace B10 : Hid (Box _ _ _ _) := Row.blw B10.out hb
      replace A10 : Hid (MemAt _ _ _ _) := MemAt.blw A10.out hb
      replace B12 : Hid (Row _ _ _ _) := Row.blw B12.out hb
      replace B14 : Hid (Box _ _ _ _) := Row.blw B14.out hb
      replace A14 : Hid (MemAt _ _ _ _) := MemAt.blw A14.out hb
      clear hb
      have B16 : Hid (Box _ w8.heap.size m16 M16) := box3 w8 _ _ _ 26
      have A16 : Hid (MemAt _ _ m16 M16) := own.at.blw hA
      clear own hA
      clear B10 A10
      obtain ⟨e15, e17, F0, F1, F2⟩ := slots_fact O6.out O10.out HS.out.1 HS.out.2 O14.out O16.out
      subst e15 e17
      have G0 : Hid (∀ M20 b21, fwOut M14 0 (fun _ => 0) M20 b21 → b21 = true ∧ ∀ x y z ok, nsOut M20 x y z ok → x = e8 ∧ y = a8 ∧ z = b8 ∧ ok = true) := F0
      have G1 : Hid (∀ M20 b21, fwOut M14 2 (fun i => ([0, 1] : List Int).getD i 0) M20 b21 → b21 = true ∧ ∀ x y z ok, nsOut M20 x y z ok → x = e12 ∧ y = a12 ∧ z = b12 ∧ ok = true) := F1
      have G2 : Hid (∀ M20 b21, fwOut M16 0 (fun _ => 0) M20 b21 → b21 = true ∧ ∀ x y z ok, nsOut M20 x y z ok → x = e12 ∧ y = a12 ∧ z = b12 ∧ ok = true) := F2
      clear F0 F1 F2 O14 O16 O10 O6
      go_wp2_with fail
      obtain ⟨w9, hw9⟩ : ∃ w9, w8.alloc (.cells #[.slice m16.a1 M16.n1 m16.c1, .slice m16.a2 M16.n2 m16.c2, .slice m16.a3 M16.n3 m16.c3] 26) = w9 := ⟨_, rfl⟩
      rw [hw9] at HB H2 B14 A14 B16 A16 B6 B12 ⊢
      clear hw9
      go_loopw [18] (fun i wr => (i = .int .i64 0 ∨ i = .int .i64 1 ∨ i = .int .i64 2) ∧ Blw w9 wr) (fun i _ => 2 - (intOf i).toNat)
      case atStart => exact ⟨Or.inl rfl, Blw.refl _⟩
      case round =>
        obtain ⟨hi, hb⟩ := hrel
        have HK : Hid (Blw w9 wr) := hb
        replace HB : Hid (Blw _ _) := Blw.trans HB.out hb
        replace H2 : Hid (BytesAt _ _ _ _ _) := BytesAt.blw H2.out hb
        replace B6 : Hid (Row _ _ _ _) := Row.blw B6.out hb
        replace B12 : Hid (Row _ _ _ _) := Row.blw B12.out hb
        replace B14 : Hid (Box _ _ _ _) := Row.blw B14.out hb
        replace A14 : Hid (MemAt _ _ _ _) := MemAt.blw A14.out hb
        replace B16 : Hid (Box _ _ _ _) := Row.blw B16.out hb
        replace A16 : Hid (MemAt _ _ _ _) := MemAt.blw A16.out hb
        clear hb
        rcases hi with rfl | rfl | rfl
        · skip
          obtain ⟨p00, p01, p02⟩ := get3 B14.out
          go_wp2_with fail
          clear p00 p01 p02
          refine (implFail_any m14 M14 _ _ _ none 0 0 (fun _ => 0) A14.out (ints_none' _)).mono ?_
          rintro e w10 ⟨m20, M20, b21, rfl, ho, own, hb⟩
          have O20 : Hid (fwOut M14 0 (fun _ => 0) M20 b21) := ho
          clear ho
          have hA : Blw w10 (w10.alloc (.cells #[.slice m20.a1 M20.n1 m20.c1, .slice m20.a2 M20.n2 m20.c2, .slice m20.a3 M20.n3 m20.c3] 26)) := (Blw.refl _).alloc _
          replace hb := hb.trans hA
          replace HB : Hid (Blw _ _) := Blw.trans HB.out hb
          replace H2 : Hid (BytesAt _ _ _ _ _) := BytesAt.blw H2.out hb
          replace B6 : Hid (Row _ _ _ _) := Row.blw B6.out hb
          replace B12 : Hid (Row _ _ _ _) := Row.blw B12.out hb
          replace B14 : Hid (Box _ _ _ _) := Row.blw B14.out hb
          replace A14 : Hid (MemAt _ _ _ _) := MemAt.blw A14.out hb
          replace B16 : Hid (Box _ _ _ _) := Row.blw B16.out hb
          replace A16 : Hid (MemAt _ _ _ _) := MemAt.blw A16.out hb
          replace HK : Hid (Blw _ _) := Blw.trans HK.out hb
          clear hb
          have B20 : Hid (Box _ w10.heap.size m20 M20) := box3 w10 _ _ _ 26
          have A20 : Hid (MemAt _ _ m20 M20) := own.at.blw hA
          clear own hA
          obtain ⟨rfl, F⟩ := G0.out _ _ O20.out
          have HF : Hid _ := F
          clear F O20
          obtain ⟨p00, p01, p02⟩ := get3 B20.out
          go_wp2_with fail
          clear p00 p01 p02
          refine (implNewest_any m20 M20 _ _ A20.out).mono ?_
          rintro e w11 ⟨e22, a22, b22, ok23, rfl, ho, hb⟩
          obtain ⟨q1, q2, q3, q4⟩ := HF.out _ _ _ _ ho
          subst q1 q2 q3 q4
          clear ho HF
          have hA : Blw w11 (w11.alloc (.cells #[.int .i64 e22, .int .i64 a22, .int .i64 b22] 56)) := (Blw.refl _).alloc _
          replace hb := hb.trans hA
          replace HB : Hid (Blw _ _) := Blw.trans HB.out hb
          replace H2 : Hid (BytesAt _ _ _ _ _) := BytesAt.blw H2.out hb
          replace B6 : Hid (Row _ _ _ _) := Row.blw B6.out hb
          replace B12 : Hid (Row _ _ _ _) := Row.blw B12.out hb
          replace B14 : Hid (Box _ _ _ _) := Row.blw B14.out hb
          replace A14 : Hid (MemAt _ _ _ _) := MemAt.blw A14.out hb
          replace B16 : Hid (Box _ _ _ _) := Row.blw B16.out hb
          replace A16 : Hid (MemAt _ _ _ _) := MemAt.blw A16.out hb
          replace HK : Hid (Blw _ _) := Blw.trans HK.out hb
          replace B20 : Hid (Box _ _ _ _) := Row.blw B20.out hb
          replace A20 : Hid (MemAt _ _ _ _) := MemAt.blw A20.out hb
          clear hb
          have B22 : Hid (sbx _ w11.heap.size e22 a22 b22) := box3 w11 _ _ _ 56
          clear hA
          obtain ⟨p0, p1, p2⟩ := get3 B22.out
          obtain ⟨q0, q1, q2⟩ := get3 B6.out
          obtain ⟨r0, r1, r2⟩ := get3 B12.out
          go_wp2
          go_roundw
          case rel => exact ⟨Or.inr (Or.inl rfl), HK.out⟩
          case measure => simp [intOf]
        · skip
          have hL := ints_lit wr [0, 1] 3 (by simp)
          obtain ⟨wL, hwL⟩ : ∃ wL, wr.alloc (.cells (([0, 1] : List Int).map (fun x => Value.int .i64 x)).toArray 3) = wL := ⟨_, rfl⟩
          have hb : Blw wr wL := by rw [← hwL]; exact (Blw.refl _).alloc _
          rw [hwL] at hL
          have IL : Hid (IntsAt _ wL (some ⟨wr.heap.size, 0, none⟩) 2 (fun i => ([0, 1] : List Int).getD i 0)) := hL
          clear hL
          simp only [List.map] at hwL
          replace HB : Hid (Blw _ _) := Blw.trans HB.out hb
          replace H2 : Hid (BytesAt _ _ _ _ _) := BytesAt.blw H2.out hb
          replace B6 : Hid (Row _ _ _ _) := Row.blw B6.out hb
          replace B12 : Hid (Row _ _ _ _) := Row.blw B12.out hb
          replace B14 : Hid (Box _ _ _ _) := Row.blw B14.out hb
          replace A14 : Hid (MemAt _ _ _ _) := MemAt.blw A14.out hb
          replace B16 : Hid (Box _ _ _ _) := Row.blw B16.out hb
          replace A16 : Hid (MemAt _ _ _ _) := MemAt.blw A16.out hb
          replace HK : Hid (Blw _ _) := Blw.trans HK.out hb
          clear hb
          obtain ⟨p00, p01, p02⟩ := get3 B14.out
          go_wp2_with fail
          refine (implFail_any m14 M14 _ _ _ _ 2 _ (fun i => ([0, 1] : List Int).getD i 0) A14.out IL.out).mono ?_
          rintro e w10 ⟨m20, M20, b21, rfl, ho, own, hb⟩
          have O20 : Hid (fwOut M14 2 (fun i => ([0, 1] : List Int).getD i 0) M20 b21) := ho
          clear ho
          have hA : Blw w10 (w10.alloc (.cells #[.slice m20.a1 M20.n1 m20.c1, .slice m20.a2 M20.n2 m20.c2, .slice m20.a3 M20.n3 m20.c3] 26)) := (Blw.refl _).alloc _
          replace hb := hb.trans hA
          replace HB : Hid (Blw _ _) := Blw.trans HB.out hb
          replace H2 : Hid (BytesAt _ _ _ _ _) := BytesAt.blw H2.out hb
          replace B6 : Hid (Row _ _ _ _) := Row.blw B6.out hb
          replace B12 : Hid (Row _ _ _ _) := Row.blw B12.out hb
          replace B14 : Hid (Box _ _ _ _) := Row.blw B14.out hb
          replace A14 : Hid (MemAt _ _ _ _) := MemAt.blw A14.out hb
          replace B16 : Hid (Box _ _ _ _) := Row.blw B16.out hb
          replace A16 : Hid (MemAt _ _ _ _) := MemAt.blw A16.out hb
          replace HK : Hid (Blw _ _) := Blw.trans HK.out hb
          clear hb
          have B20 : Hid (Box _ w10.heap.size m20 M20) := box3 w10 _ _ _ 26
          have A20 : Hid (MemAt _ _ m20 M20) := own.at.blw hA
          clear own hA
          obtain ⟨rfl, F⟩ := G1.out _ _ O20.out
          have HF : Hid _ := F
          clear F O20
          obtain ⟨p00, p01, p02⟩ := get3 B20.out
          go_wp2_with fail
          clear p00 p01 p02
          refine (implNewest_any m20 M20 _ _ A20.out).mono ?_
          rintro e w11 ⟨e22, a22, b22, ok23, rfl, ho, hb⟩
          obtain ⟨q1, q2, q3, q4⟩ := HF.out _ _ _ _ ho
          subst q1 q2 q3 q4
          clear ho HF
          have hA : Blw w11 (w11.alloc (.cells #[.int .i64 e22, .int .i64 a22, .int .i64 b22] 56)) := (Blw.refl _).alloc _
          replace hb := hb.trans hA
          replace HB : Hid (Blw _ _) := Blw.trans HB.out hb
          replace H2 : Hid (BytesAt _ _ _ _ _) := BytesAt.blw H2.out hb
          replace B6 : Hid (Row _ _ _ _) := Row.blw B6.out hb
          replace B12 : Hid (Row _ _ _ _) := Row.blw B12.out hb
          replace B14 : Hid (Box _ _ _ _) := Row.blw B14.out hb
          replace A14 : Hid (MemAt _ _ _ _) := MemAt.blw A14.out hb
          replace B16 : Hid (Box _ _ _ _) := Row.blw B16.out hb
          replace A16 : Hid (MemAt _ _ _ _) := MemAt.blw A16.out hb
          replace HK : Hid (Blw _ _) := Blw.trans HK.out hb
          replace B20 : Hid (Box _ _ _ _) := Row.blw B20.out hb
          replace A20 : Hid (MemAt _ _ _ _) := MemAt.blw A20.out hb
          clear hb
          have B22 : Hid (sbx _ w11.heap.size e22 a22 b22) := box3 w11 _ _ _ 56
          clear hA
          obtain ⟨p0, p1, p2⟩ := get3 B22.out
          obtain ⟨q0, q1, q2⟩ := get3 B6.out
          obtain ⟨r0, r1, r2⟩ := get3 B12.out
          have ne : ¬ e22 = e8 := by have := HS.out.2; omega
          go_wp2
          go_roundw
          case rel => exact ⟨Or.inr (Or.inr rfl), HK.out⟩
          case measure => simp [intOf]
        · skip
          clear HK
          obtain ⟨p00, p01, p02⟩ := get3 B16.out
          go_wp2_with fail
          clear p00 p01 p02
          refine (implFail_any m16 M16 _ _ _ none 0 0 (fun _ => 0) A16.out (ints_none' _)).mono ?_
          rintro e w10 ⟨m24, M24, b25, rfl, ho, own, hb⟩
          have O24 : Hid (fwOut M16 0 (fun _ => 0) M24 b25) := ho
          clear ho
          have hA : Blw w10 (w10.alloc (.cells #[.slice m24.a1 M24.n1 m24.c1, .slice m24.a2 M24.n2 m24.c2, .slice m24.a3 M24.n3 m24.c3] 26)) := (Blw.refl _).alloc _
          replace hb := hb.trans hA
          replace HB : Hid (Blw _ _) := Blw.trans HB.out hb
          replace H2 : Hid (BytesAt _ _ _ _ _) := BytesAt.blw H2.out hb
          replace B6 : Hid (Row _ _ _ _) := Row.blw B6.out hb
          replace B12 : Hid (Row _ _ _ _) := Row.blw B12.out hb
          replace B14 : Hid (Box _ _ _ _) := Row.blw B14.out hb
          replace A14 : Hid (MemAt _ _ _ _) := MemAt.blw A14.out hb
          replace B16 : Hid (Box _ _ _ _) := Row.blw B16.out hb
          replace A16 : Hid (MemAt _ _ _ _) := MemAt.blw A16.out hb
          clear hb
          have B24 : Hid (Box _ w10.heap.size m24 M24) := box3 w10 _ _ _ 26
          have A24 : Hid (MemAt _ _ m24 M24) := own.at.blw hA
          clear own hA
          obtain ⟨rfl, F⟩ := G2.out _ _ O24.out
          have HF : Hid _ := F
          clear F O24
          obtain ⟨p00, p01, p02⟩ := get3 B24.out
          go_wp2_with fail
          clear p00 p01 p02
          refine (implNewest_any m24 M24 _ _ A24.out).mono ?_
          rintro e w11 ⟨e26, a26, b26, ok27, rfl, ho, hb⟩
          obtain ⟨q1, q2, q3, q4⟩ := HF.out _ _ _ _ ho
          subst q1 q2 q3 q4
          clear ho HF
          have hA : Blw w11 (w11.alloc (.cells #[.int .i64 e26, .int .i64 a26, .int .i64 b26] 56)) := (Blw.refl _).alloc _
          replace hb := hb.trans hA
          replace HB : Hid (Blw _ _) := Blw.trans HB.out hb
          replace H2 : Hid (BytesAt _ _ _ _ _) := BytesAt.blw H2.out hb
          replace B6 : Hid (Row _ _ _ _) := Row.blw B6.out hb
          replace B12 : Hid (Row _ _ _ _) := Row.blw B12.out hb
          replace B14 : Hid (Box _ _ _ _) := Row.blw B14.out hb
          replace A14 : Hid (MemAt _ _ _ _) := MemAt.blw A14.out hb
          replace B16 : Hid (Box _ _ _ _) := Row.blw B16.out hb
          replace A16 : Hid (MemAt _ _ _ _) := MemAt.blw A16.out hb
          replace B24 : Hid (Box _ _ _ _) := Row.blw B24.out hb
          replace A24 : Hid (MemAt _ _ _ _) := MemAt.blw A24.out hb
          clear hb
          have B26 : Hid (sbx _ w11.heap.size e26 a26 b26) := box3 w11 _ _ _ 56
          clear hA
          obtain ⟨p0, p1, p2⟩ := get3 B26.out
          obtain ⟨r0, r1, r2⟩ := get3 B12.out
          go_wp2_with fail
          go_meet
          exact HB.out
  case rest =>
    have HC : Hid (Blw w wc) := hcut
    have hcw : Blw w4 wc ∨ True := Or.inr trivial
    clear hcw
    clear hcut HB B5 M5 B6 O6 H2
    have H2 : Hid (BytesAt _ _ _ _ _) := BytesAt.blw H20.out HC.out
    go_wp2_with fail
    refine (drawCommit_any ao2 n2 c2 f2 _ (bytes_keep' H2.out HC.out)).mono ?_
    rintro e w5 ⟨m28, s, c, d, e29, a29, b29, rfl, own, hb⟩
    obtain ⟨M28, hMM⟩ : ∃ MM, MD.full s c d = MM := ⟨_, rfl⟩
    rw [hMM] at own ⊢
    clear hMM
    have hA : Blw w5 ((w5.alloc (.cells #[.slice m28.a1 M28.n1 m28.c1, .slice m28.a2 M28.n2 m28.c2, .slice m28.a3 M28.n3 m28.c3] 26)).alloc (.cells #[.int .i64 e29, .int .i64 a29, .int .i64 b29] 56)) := ((Blw.refl _).alloc _).alloc _
    replace hb := hb.trans hA
    replace HC : Hid (Blw _ _) := Blw.trans HC.out hb
    replace H2 : Hid (BytesAt _ _ _ _ _) := BytesAt.blw H2.out hb
    clear hb
    have B28 : Hid (Box _ w5.heap.size m28 M28) := (box3 w5 _ _ _ 26).blw ((Blw.refl _).alloc (.cells #[.int .i64 e29, .int .i64 a29, .int .i64 b29] 56))
    have B29 : Hid (sbx ((w5.alloc (.cells #[.slice m28.a1 M28.n1 m28.c1, .slice m28.a2 M28.n2 m28.c2, .slice m28.a3 M28.n3 m28.c3] 26)).alloc (.cells #[.int .i64 e29, .int .i64 a29, .int .i64 b29] 56)) (w5.heap.size + 1) e29 a29 b29) := by
      have := box3 (w5.alloc (.cells #[.slice m28.a1 M28.n1 m28.c1, .slice m28.a2 M28.n2 m28.c2, .slice m28.a3 M28.n3 m28.c3] 26)) (.int .i64 e29) (.int .i64 a29) (.int .i64 b29) 56
      rw [World.size_alloc] at this
      exact this
    have A28 : Hid (MemAt _ _ m28 M28) := own.at.blw hA
    clear own hA
    obtain ⟨p00, p01, p02⟩ := get3 B28.out
    obtain ⟨p10, p11, p12⟩ := get3 B29.out
    go_wp2_with fail
    clear p00 p01 p02 p10 p11 p12
    refine (implCommit_any m28 M28 _ _ e29 a29 b29 A28.out).mono ?_
    rintro e w6 ⟨m30, M30, b31, rfl, ho, own, hb⟩
    have O30 : Hid (csOut M28 e29 a29 b29 M30 b31) := ho
    clear ho
    have hA : Blw w6 (w6.alloc (.cells #[.slice m30.a1 M30.n1 m30.c1, .slice m30.a2 M30.n2 m30.c2, .slice m30.a3 M30.n3 m30.c3] 26)) := (Blw.refl _).alloc _
    replace hb := hb.trans hA
    replace HC : Hid (Blw _ _) := Blw.trans HC.out hb
    replace H2 : Hid (BytesAt _ _ _ _ _) := BytesAt.blw H2.out hb
    replace B28 : Hid (Box _ _ _ _) := Row.blw B28.out hb
    replace B29 : Hid (Row _ _ _ _) := Row.blw B29.out hb
    replace A28 : Hid (MemAt _ _ _ _) := MemAt.blw A28.out hb
    clear hb
    have B30 : Hid (Box _ w6.heap.size m30 M30) := box3 w6 _ _ _ 26
    have A30 : Hid (MemAt _ _ m30 M30) := own.at.blw hA
    clear own hA
    obtain ⟨p00, p01, p02⟩ := get3 B28.out
    obtain ⟨p10, p11, p12⟩ := get3 B29.out
    go_wp2_with fail
    clear p00 p01 p02 p10 p11 p12
    refine (specCommit_any m28 M28 _ _ e29 a29 b29 A28.out).mono ?_
    rintro e w7 ⟨m32, M32, b33, rfl, ho, own, hb⟩
    have O32 : Hid (csOut M28 e29 a29 b29 M32 b33) := ho
    clear ho
    have hA : Blw w7 (w7.alloc (.cells #[.slice m32.a1 M32.n1 m32.c1, .slice m32.a2 M32.n2 m32.c2, .slice m32.a3 M32.n3 m32.c3] 26)) := (Blw.refl _).alloc _
    replace hb := hb.trans hA
    replace HC : Hid (Blw _ _) := Blw.trans HC.out hb
    replace H2 : Hid (BytesAt _ _ _ _ _) := BytesAt.blw H2.out hb
    replace B28 : Hid (Box _ _ _ _) := Row.blw B28.out hb
    replace B29 : Hid (Row _ _ _ _) := Row.blw B29.out hb
    replace A28 : Hid (MemAt _ _ _ _) := MemAt.blw A28.out hb
    replace B30 : Hid (Box _ _ _ _) := Row.blw B30.out hb
    replace A30 : Hid (MemAt _ _ _ _) := MemAt.blw A30.out hb
    clear hb
    have B32 : Hid (Box _ w7.heap.size m32 M32) := box3 w7 _ _ _ 26
    have A32 : Hid (MemAt _ _ m32 M32) := own.at.blw hA
    clear own hA
    obtain ⟨eM, eb⟩ := csOut_same O32.out O30.out
    subst eM eb
    clear O30 O32
    clear B28 A28 B29
    go_wp2_with fail
    refine (drawWrite_any ao2 n2 c2 f2 _ (bytes_keep' H2.out HC.out)).mono ?_
    rintro e w8 ⟨m34, s, c, d, e35, a35, b35, rfl, own, hb⟩
    obtain ⟨M34, hMM⟩ : ∃ MM, MD.full s c d = MM := ⟨_, rfl⟩
    rw [hMM] at own ⊢
    clear hMM
    have hA : Blw w8 ((w8.alloc (.cells #[.slice m34.a1 M34.n1 m34.c1, .slice m34.a2 M34.n2 m34.c2, .slice m34.a3 M34.n3 m34.c3] 26)).alloc (.cells #[.int .i64 e35, .int .i64 a35, .int .i64 b35] 56)) := ((Blw.refl _).alloc _).alloc _
    replace hb := hb.trans hA
    replace HC : Hid (Blw _ _) := Blw.trans HC.out hb
    replace H2 : Hid (BytesAt _ _ _ _ _) := BytesAt.blw H2.out hb
    replace B30 : Hid (Box _ _ _ _) := Row.blw B30.out hb
    replace A30 : Hid (MemAt _ _ _ _) := MemAt.blw A30.out hb
    replace B32 : Hid (Box _ _ _ _) := Row.blw B32.out hb
    replace A32 : Hid (MemAt _ _ _ _) := MemAt.blw A32.out hb
    clear hb
    have B34 : Hid (Box _ w8.heap.size m34 M34) := (box3 w8 _ _ _ 26).blw ((Blw.refl _).alloc (.cells #[.int .i64 e35, .int .i64 a35, .int .i64 b35] 56))
    have B35 : Hid (sbx ((w8.alloc (.cells #[.slice m34.a1 M34.n1 m34.c1, .slice m34.a2 M34.n2 m34.c2, .slice m34.a3 M34.n3 m34.c3] 26)).alloc (.cells #[.int .i64 e35, .int .i64 a35, .int .i64 b35] 56)) (w8.heap.size + 1) e35 a35 b35) := by
      have := box3 (w8.alloc (.cells #[.slice m34.a1 M34.n1 m34.c1, .slice m34.a2 M34.n2 m34.c2, .slice m34.a3 M34.n3 m34.c3] 26)) (.int .i64 e35) (.int .i64 a35) (.int .i64 b35) 56
      rw [World.size_alloc] at this
      exact this
    have A34 : Hid (MemAt _ _ m34 M34) := own.at.blw hA
    clear own hA
    obtain ⟨p00, p01, p02⟩ := get3 B34.out
    obtain ⟨p10, p11, p12⟩ := get3 B35.out
    go_wp2_with fail
    clear p00 p01 p02 p10 p11 p12
    refine (implWrite_any m34 M34 _ _ e35 a35 b35 A34.out).mono ?_
    rintro e w9 ⟨m36, M36, b37, rfl, ho, own, hb⟩
    have O36 : Hid (wsOut M34 e35 a35 b35 M36 b37) := ho
    clear ho
    have hA : Blw w9 (w9.alloc (.cells #[.slice m36.a1 M36.n1 m36.c1, .slice m36.a2 M36.n2 m36.c2, .slice m36.a3 M36.n3 m36.c3] 26)) := (Blw.refl _).alloc _
    replace hb := hb.trans hA
    replace HC : Hid (Blw _ _) := Blw.trans HC.out hb
    replace H2 : Hid (BytesAt _ _ _ _ _) := BytesAt.blw H2.out hb
    replace B30 : Hid (Box _ _ _ _) := Row.blw B30.out hb
    replace A30 : Hid (MemAt _ _ _ _) := MemAt.blw A30.out hb
    replace B32 : Hid (Box _ _ _ _) := Row.blw B32.out hb
    replace A32 : Hid (MemAt _ _ _ _) := MemAt.blw A32.out hb
    replace B34 : Hid (Box _ _ _ _) := Row.blw B34.out hb
    replace B35 : Hid (Row _ _ _ _) := Row.blw B35.out hb
    replace A34 : Hid (MemAt _ _ _ _) := MemAt.blw A34.out hb
    clear hb
    have B36 : Hid (Box _ w9.heap.size m36 M36) := box3 w9 _ _ _ 26
    have A36 : Hid (MemAt _ _ m36 M36) := own.at.blw hA
    clear own hA
    obtain ⟨p00, p01, p02⟩ := get3 B34.out
    obtain ⟨p10, p11, p12⟩ := get3 B35.out
    go_wp2_with fail
    clear p00 p01 p02 p10 p11 p12
    refine (specWrite_any m34 M34 _ _ e35 a35 b35 A34.out).mono ?_
    rintro e w10 ⟨m38, M38, b39, rfl, ho, own, hb⟩
    have O38 : Hid (wsOut M34 e35 a35 b35 M38 b39) := ho
    clear ho
    have hA : Blw w10 (w10.alloc (.cells #[.slice m38.a1 M38.n1 m38.c1, .slice m38.a2 M38.n2 m38.c2, .slice m38.a3 M38.n3 m38.c3] 26)) := (Blw.refl _).alloc _
    replace hb := hb.trans hA
    replace HC : Hid (Blw _ _) := Blw.trans HC.out hb
    replace H2 : Hid (BytesAt _ _ _ _ _) := BytesAt.blw H2.out hb
    replace B30 : Hid (Box _ _ _ _) := Row.blw B30.out hb
    replace A30 : Hid (MemAt _ _ _ _) := MemAt.blw A30.out hb
    replace B32 : Hid (Box _ _ _ _) := Row.blw B32.out hb
    replace A32 : Hid (MemAt _ _ _ _) := MemAt.blw A32.out hb
    replace B34 : Hid (Box _ _ _ _) := Row.blw B34.out hb
    replace B35 : Hid (Row _ _ _ _) := Row.blw B35.out hb
    replace A34 : Hid (MemAt _ _ _ _) := MemAt.blw A34.out hb
    replace B36 : Hid (Box _ _ _ _) := Row.blw B36.out hb
    replace A36 : Hid (MemAt _ _ _ _) := MemAt.blw A36.out hb
    clear hb
    have B38 : Hid (Box _ w10.heap.size m38 M38) := box3 w10 _ _ _ 26
    have A38 : Hid (MemAt _ _ m38 M38) := own.at.blw hA
    clear own hA
    obtain ⟨eM, eb⟩ := wsOut_same O38.out O36.out
    subst eM eb
    clear O36 O38
    clear B34 A34 B35
    have e1 : (b33 == b33) = true := by simp
    have e2 : (b39 == b39) = true := by simp
    obtain ⟨p00, p01, p02⟩ := get3 B30.out
    obtain ⟨p10, p11, p12⟩ := get3 B32.out
    go_wp2_with fail
    clear p00 p01 p02 p10 p11 p12
    refine (sameMemory_same m30 m32 M32 _ A30.out A32.out).mono ?_
    rintro e w11 ⟨rfl, hb⟩
    replace HC : Hid (Blw _ _) := Blw.trans HC.out hb
    replace H2 : Hid (BytesAt _ _ _ _ _) := BytesAt.blw H2.out hb
    replace B30 : Hid (Box _ _ _ _) := Row.blw B30.out hb
    replace A30 : Hid (MemAt _ _ _ _) := MemAt.blw A30.out hb
    replace B32 : Hid (Box _ _ _ _) := Row.blw B32.out hb
    replace A32 : Hid (MemAt _ _ _ _) := MemAt.blw A32.out hb
    replace B36 : Hid (Box _ _ _ _) := Row.blw B36.out hb
    replace A36 : Hid (MemAt _ _ _ _) := MemAt.blw A36.out hb
    replace B38 : Hid (Box _ _ _ _) := Row.blw B38.out hb
    replace A38 : Hid (MemAt _ _ _ _) := MemAt.blw A38.out hb
    clear hb
    obtain ⟨p00, p01, p02⟩ := get3 B36.out
    obtain ⟨p10, p11, p12⟩ := get3 B38.out
    go_wp2_with fail
    clear p00 p01 p02 p10 p11 p12
    refine (sameMemory_same m36 m38 M38 _ A36.out A38.out).mono ?_
    rintro e w12 ⟨rfl, hb⟩
    replace HC : Hid (Blw _ _) := Blw.trans HC.out hb
    replace H2 : Hid (BytesAt _ _ _ _ _) := BytesAt.blw H2.out hb
    replace B30 : Hid (Box _ _ _ _) := Row.blw B30.out hb
    replace A30 : Hid (MemAt _ _ _ _) := MemAt.blw A30.out hb
    replace B32 : Hid (Box _ _ _ _) := Row.blw B32.out hb
    replace A32 : Hid (MemAt _ _ _ _) := MemAt.blw A32.out hb
    replace B36 : Hid (Box _ _ _ _) := Row.blw B36.out hb
    replace A36 : Hid (MemAt _ _ _ _) := MemAt.blw A36.out hb
    replace B38 : Hid (Box _ _ _ _) := Row.blw B38.out hb
    replace A38 : Hid (MemAt _ _ _ _) := MemAt.blw A38.out hb
    clear hb
    go_wp2
    go_ret
    exact ⟨rfl, HC.out⟩
end Go.Proofs.Ytnbcjdoohmjghaa
