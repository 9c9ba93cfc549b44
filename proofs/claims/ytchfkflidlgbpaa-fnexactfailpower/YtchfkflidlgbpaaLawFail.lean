/- Law 11: the program's answer is the model's, in new memory; the arguments read as they did. -/
import Derived.Test.YtchfkflidlgbpaaLawSI
import Derived.Test.YtchfkflidlgbpaaFailP
namespace Go.Proofs.Ytchfkflidlgbpaa
open Go.RowKit
set_option linter.unusedSimpArgs false
set_option maxRecDepth 10000 in
set_option maxHeartbeats 6400000 in
theorem lawFailP (m : MV) (M : MD)  (ao : Option Addr) (n c : Nat) (f : Nat → Int) (w : World) (h : MemAt (fun b => b < w.heap.size) w m M) (hI : IntsAt (fun b => b < w.heap.size) w ao n f) : Calls Try.prog 11 #[m.val M, .slice ao n c] w fun e w' => e = .returned (.bool true) ∧ Blw w w' := by
  have hb0 : Blw w (w.alloc (.cells #[.slice m.a1 M.n1 m.c1, .slice m.a2 M.n2 m.c2, .slice m.a3 M.n3 m.c3] 59)) := (Blw.refl _).alloc _
  by_cases hN : n ≤ 1048576
  case neg =>
    have hN' : ¬ ((n : Int) ≤ 1048576) := by omega
    have hN2 : (1048576 : Int) < n := by omega
    clear hI h
    go_enter Try.func11, Try.ntmps11
    go_wp2
    go_ret
    exact ⟨rfl, hb0⟩
  have hN' : (n : Int) ≤ 1048576 := by omega
  have hN2 : ¬ ((1048576 : Int) < n) := by omega
  have HI : Hid (IntsAt (fun b => b < w.heap.size) w ao n f) := hI
  clear hI
  go_enter Try.func11, Try.ntmps11
  go_wp2_with fail
  have rA := box3 w (.slice m.a1 M.n1 m.c1) (.slice m.a2 M.n2 m.c2) (.slice m.a3 M.n3 m.c3) 59
  refine (szMemory_any m M _ _ _ (by omega) (by omega) (h.blw hb0)).mono ?_
  rintro e w1 ⟨r, rfl, hr, hb1⟩
  replace rA := rA.blw hb1
  replace hb1 := hb0.trans hb1
  replace h := h.blw hb1
  replace HI : Hid (IntsAt (fun b => b < w.heap.size) _ ao n f) := HI.out.blw hb1
  clear hb0
  rcases hr with rfl | ⟨q0, q1⟩
  · clear rA
    go_wp2
    go_ret
    exact ⟨rfl, hb1⟩
  have hS : M.Small := small_of (by omega)
  have HS : Hid M.Small := hS
  obtain ⟨p0, p1, p2⟩ := get3 rA
  clear q1 hS
  go_wp2_with fail
  clear p0 p1 p2
  refine (toMemory_any m M _ _ HS.out h).mono ?_
  rintro e w2 ⟨m2, rfl, own2, hb2⟩
  replace rA := rA.blw hb2
  replace h := h.blw hb2
  replace HI : Hid (IntsAt (fun b => b < w.heap.size) _ ao n f) := HI.out.blw hb2
  replace hb2 := hb1.trans hb2
  clear hb1
  go_wp2_with fail
  refine (toIntS_any ao c n f _ _ hN HI.out).mono ?_
  rintro e wj ⟨rfl, rj, hbj⟩
  have HJ : Hid (IntsAt _ _ _ _ _) := ints_row rj hN
  replace own2 := own2.blw hbj
  replace rA := rA.blw hbj
  replace h := h.blw hbj
  replace HI : Hid (IntsAt (fun b => b < w.heap.size) _ ao n f) := HI.out.blw hbj
  replace hb2 := hb2.trans hbj
  clear rj hbj
  go_wp2_with fail
  refine (specFail_any m2 M _ _ _  _ n n f own2.at HJ.out).mono ?_
  rintro e w3 ⟨m3, M3, bs, rfl, hbs, own3, hb3⟩
  replace rA := rA.blw hb3
  replace h := h.blw hb3
  replace HI : Hid (IntsAt (fun b => b < w.heap.size) _ ao n f) := HI.out.blw hb3
  replace hb3 := hb2.trans hb3
  clear hb2 own2 HJ
  have HBS : Hid (fwOut M n f M3 bs) := hbs
  clear hbs
  obtain ⟨p0, p1, p2⟩ := get3 rA
  have pa := (box_of rA).2
  go_wp2_with fail
  clear p0 p1 p2 pa
  have hA3 : Blw w3 (w3.alloc (.cells #[.slice m3.a1 M3.n1 m3.c1, .slice m3.a2 M3.n2 m3.c2, .slice m3.a3 M3.n3 m3.c3] 26)) := (Blw.refl _).alloc _
  refine (toMemory_any m M _ _ HS.out (h.blw hA3)).mono ?_
  rintro e w4 ⟨m4, rfl, own4, hb4⟩
  go_wp2_with fail
  have hA : Blw w4 (w4.alloc (.cells #[.slice m4.a1 M.n1 m4.c1, .slice m4.a2 M.n2 m4.c2, .slice m4.a3 M.n3 m4.c3] 26)) := (Blw.refl _).alloc _
  refine (toIntS_any ao c n f _ _ hN (HI.out.blw ((hA3.trans hb4).trans hA))).mono ?_
  rintro e wi ⟨rfl, ri, hbi⟩
  rw [World.size_alloc] at ri ⊢
  have HJ : Hid (IntsAt _ _ _ _ _) := ints_row ri hN
  obtain ⟨p0, p1, p2⟩ := get3 ((box3 w4 (.slice m4.a1 M.n1 m4.c1) (.slice m4.a2 M.n2 m4.c2) (.slice m4.a3 M.n3 m4.c3) 26).blw hbi)
  go_wp2_with fail
  clear p0 p1 p2
  refine (implFail_any m4 M _ _ _  _ n n f (own4.at.blw (hA.trans hbi)) HJ.out).mono ?_
  rintro e w5 ⟨m5, M5, bi, rfl, hbi5, own5, hb5⟩
  obtain ⟨rfl, rfl⟩ := fwOut_same hbi5 HBS.out
  clear hA hA3 hbi5 HJ
  have tot : M5.total ≤ 108 := fwOut_total HBS.out
  have S := LawSI.start hb3 h HI.out rA own3 (fun b hb => hb.2) hb4 own4 hbi ri hb5 own5
  clear hb3 h rA own3 hb4 own4 hb5 own5 HI hbi ri
  have hne : (bi != bi) = false := by simp
  have HSt : Hid _ := S
  obtain ⟨p0, p1, p2⟩ := (box_of S.s.b8).1
  clear S
  go_wp2_with fail
  clear p0 p1 p2
  refine (eqMemory_same m5 m3 M5 _ HSt.out.s.own5.at HSt.out.s.at3).mono ?_
  rintro e w6 ⟨rfl, hb6⟩
  replace HSt : Hid _ := HSt.out.blw hb6
  clear hb6
  generalize w3.heap.size = z3 at *
  generalize w4.heap.size + 1 = zi at *
  generalize w4.heap.size = z4 at *
  generalize w5.heap.size = z5 at *
  generalize w2.heap.size = zj at *
  clear w1 w2 w3 w4 w5 wi wj
  go_upto_region 13 with fail
  go_cut [56] from 52 to 56 (fun c wx => c = .bool false ∧ Blw w6 wx)
  case first =>
    obtain ⟨A0, A1, A2⟩ := box3_all HSt.out.s.A
    obtain ⟨B0, B1, B2⟩ := box3_all HSt.out.s.b10
    go_region_held3 (fun w' => Blw w6 w') ((first | exact (Blw.refl _).drew | assumption | exact Blw.trans (by assumption) (by assumption))) (first
      | (go_at_call 46; refine (toMemory_any m M _ _ HS.out (HSt.out.s.h.blw (by assumption))).mono ?_; rintro e w7 ⟨m6, rfl, o6, hb7⟩)
      | (go_at_call 42; refine (eqMemory_same m4 m6 M _ (HSt.out.s.own4.at.blw (by assumption)) o6.at).mono ?_; rintro e w8 ⟨rfl, hb8⟩))
    all_goals go_wp2_with fail
    all_goals go_meet
    all_goals exact ⟨rfl, by assumption⟩
  case rest =>
    obtain ⟨rfl, hb7⟩ := hcut
    replace HSt : Hid _ := HSt.out.blw hb7
    clear hb7
    have htM : M.total ≤ 1048576 := HS.out.t
    go_wp2_with fail
    refine (toIntS_any ao c n f _ _ hN HSt.out.hI).mono ?_
    rintro e wk ⟨rfl, rk, hbk⟩
    replace HSt : Hid _ := HSt.out.blw hbk
    have HK : Hid (IntsAt _ _ _ _ _) := ints_row rk hN
    clear rk hbk
    go_wp2_with fail
    refine (eqIntS_same _ _ _ _ n f _ (ints_row HSt.out.i4 hN) HK.out).mono ?_
    rintro e wl ⟨rfl, nl, el⟩
    have hbl : Blw wk wl := by subst el; exact (Blw.refl _).drewN nl
    replace HSt : Hid _ := HSt.out.blw hbl
    clear hbl HK el
    obtain ⟨p0, p1, p2⟩ := (box_of HSt.out.s.b10).1
    go_wp2_with fail
    clear p0 p1 p2
    refine (markMemory_any m4 M _ 1 _ (by omega) (by omega) HSt.out.s.own4 (fun b hb => by have := HSt.out.s.o3; have := HSt.out.s.o4; omega)).mono ?_
    rintro e w8 ⟨rfl, own4, hm8⟩
    replace HSt : Hid _ := HSt.out.mark4 hm8 own4
    clear own4 hm8
    go_wp2_with fail
    refine (markIntS_any _ _ n f _ (1 + (M.total : Int)) _ (by omega) (by omega) (own_row HSt.out.i4 hN)).mono ?_
    rintro e wm ⟨rfl, -, hmm⟩
    have HT : Hid _ := HSt.out.markI (fun b hb => hb.1) hmm
    have HO5 : Hid _ := HSt.out.o
    clear hmm HSt
    have k1 : ¬ (1 + (M.total : Int) + (n : Int) < 0) := by omega
    obtain ⟨p0, p1, p2⟩ := (box_of HT.out.1.b11).1
    obtain ⟨r0, r1, r2⟩ := (box_of HT.out.1.b8).1
    go_wp2_with fail
    clear p0 p1 p2 r0 r1 r2
    refine (eqMemory_same m5 m3 M5 _ HT.out.1.own5.at HT.out.1.at3).mono ?_
    rintro e w9 ⟨rfl, hb9⟩
    have HSt : Hid _ := HT.out.1.blw hb9
    have HI : Hid (IntsAt (fun b => b < w.heap.size) _ ao n f) := HT.out.2.2.blw hb9
    clear hb9 k1 HT
    obtain ⟨p0, p1, p2⟩ := (box_of HSt.out.b11).1
    go_wp2_with fail
    clear p0 p1 p2
    refine (markMemory_any m5 M5 _ 1 _ (by omega) (by omega) HSt.out.own5 (fun b hb => by have := HSt.out.o4; omega)).mono ?_
    rintro e w10 ⟨rfl, own5, hm10⟩
    replace HI : Hid (IntsAt (fun b => b < w.heap.size) _ ao n f) := HI.out.mod hm10 (fun b hb hh => by have := HSt.out.o1; have := HSt.out.o2; omega)
    replace HSt : Hid _ := HSt.out.mark5 hm10 own5
    clear own5 hm10
    have k1 : ¬ (1 + (M5.total : Int) < 0) := by omega
    have k2 : ((1 + (M5.total : Int)) != (1 + (M5.total : Int))) = false := by simp
    obtain ⟨p0, p1, p2⟩ := (box_of HSt.out.b11).1
    go_wp2_with fail
    clear p0 p1 p2
    refine (heldMemory_any m5 M5 _ 1 _ (by omega) (by omega) HSt.out.own5.at).mono ?_
    rintro e w11 ⟨rfl, hb11⟩
    replace HSt : Hid _ := HSt.out.blw hb11
    replace HI : Hid (IntsAt (fun b => b < w.heap.size) _ ao n f) := HI.out.blw hb11
    clear hb11
    obtain ⟨p0, p1, p2⟩ := (box_of HSt.out.A).1
    go_wp2_with fail
    clear p0 p1 p2
    refine (toMemory_any m M _ _ HS.out HSt.out.h).mono ?_
    rintro e w12 ⟨m7, rfl, own7, hb12⟩
    replace HSt : Hid _ := HSt.out.blw hb12
    replace HI : Hid (IntsAt (fun b => b < w.heap.size) _ ao n f) := HI.out.blw hb12
    clear hb12
    go_wp2_with fail
    refine (toIntS_any ao c n f _ _ hN HI.out).mono ?_
    rintro e wo ⟨rfl, ro, hbo⟩
    have HJ : Hid (IntsAt _ _ _ _ _) := ints_row ro hN
    replace own7 := own7.blw hbo
    replace HSt : Hid _ := HSt.out.blw hbo
    clear ro hbo HI
    go_wp2_with fail
    refine (implFail_any m7 M _ _ _  _ n n f own7.at HJ.out).mono ?_
    rintro e w13 ⟨m8, M8, b8, rfl, hb8, own8, hb13⟩
    obtain ⟨rfl, rfl⟩ := fwOut_same hb8 HBS.out
    replace HSt : Hid _ := HSt.out.blw hb13
    clear own7 hb13 hb8 HJ
    have hA : Blw w13 (w13.alloc (.cells #[.slice m8.a1 M8.n1 m8.c1, .slice m8.a2 M8.n2 m8.c2, .slice m8.a3 M8.n3 m8.c3] 26)) := (Blw.refl _).alloc _
    have pa := (box_of HSt.out.b8).2
    go_wp2_with fail
    clear pa
    refine (eqMemory_same m8 m3 M8 _ (own8.at.blw hA) (HSt.out.at3.blw hA)).mono ?_
    rintro e w14 ⟨rfl, hb14⟩
    replace HSt : Hid _ := HSt.out.blw (hA.trans hb14)
    clear own8 hA hb14
    obtain ⟨p0, p1, p2⟩ := (box_of HSt.out.b11).1
    go_wp2_with fail
    clear p0 p1 p2
    refine (heldMemory_any m5 M8 _ 1 _ (by omega) (by omega) HSt.out.own5.at).mono ?_
    rintro e w15 ⟨rfl, hb15⟩
    replace HSt : Hid _ := HSt.out.blw hb15
    clear hb15
    go_wp2
    go_ret
    exact ⟨rfl, HSt.out.hB⟩
end Go.Proofs.Ytchfkflidlgbpaa
