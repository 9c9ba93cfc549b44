/- Law 13: the program's answer is the model's, in new memory; the argument reads as it did. -/
import Derived.Test.YtnbcjdoohmjghaaLawG
namespace Go.Proofs.Ytnbcjdoohmjghaa
open Go.RowKit
set_option linter.unusedSimpArgs false
set_option maxRecDepth 10000 in
set_option maxHeartbeats 6400000 in
theorem lawCommitP (m : MV) (M : MD) (e a b : Int) (w : World) (h : MemAt (fun b => b < w.heap.size) w m M) : Calls Try.prog 13 #[m.val M, slotV e a b] w fun r w' => r = .returned (.bool true) ∧ Blw w w' := by
  go_enter Try.func13, Try.ntmps13
  go_wp2_with fail
  obtain ⟨hb0, rA, rS⟩ := boxes2 w m M e a b
  refine (szMemory_any m M _ _ _ (by omega) (by omega) (h.blw hb0)).mono ?_
  rintro r w1 ⟨r, rfl, hr, hb1⟩
  replace rA := rA.blw hb1
  replace rS := rS.blw hb1
  replace hb1 := hb0.trans hb1
  replace h := h.blw hb1
  clear hb0
  rcases hr with rfl | ⟨q0, q1⟩
  · clear rA rS
    go_wp2
    go_ret
    exact ⟨rfl, hb1⟩
  have hS : M.Small := small_of (by omega)
  have HS : Hid M.Small := hS
  clear q1 hS
  have H1 : Hid (MemAt (fun b => b < w.heap.size) w1 m M) := h
  obtain ⟨A0, A1, A2⟩ := box3_all rA
  obtain ⟨S0, S1, S2⟩ := box3_all rS
  clear h
  go_upto_region 5 with fail
  go_cut [6, 7] from 21 to 28 (fun c d wx => ∃ z m3 M3 ok, c = .pointer (some ⟨z, 0, none⟩) ∧ d = .bool ok ∧ csOut M e a b M3 ok ∧ Boxed w1 wx z m3 M3)
  case first =>
    have zs : w1.heap.size ≤ w1.drew.heap.size := Nat.le_refl _
    go_region_held3 (fun w' => Blw w1 w') ((first | exact (Blw.refl _).drew | assumption | exact Blw.alloc k4 _ | exact Blw.alloc k3 _ | exact Blw.alloc k2 _ | exact Blw.alloc (Blw.refl _).drew _ | exact Mod.blw k4 (mod_set3 _ _ _ _ _) (fun i hi => by omega))) (first
      | (go_at_call 66; refine (toMemory_any m M _ _ HS.out (by exact H1.out.blw (by assumption))).mono ?_; rintro r w2 ⟨m2, rfl, own2, hb2⟩; have k2 : Blw w1 w2 := Blw.trans (by assumption) hb2; have zk2 := k2.size; have sb2 := hb2.size)
      | (go_at_call 64; refine (toSlot_any e a b _).mono ?_; rintro r w3 ⟨rfl, hb3⟩; have k3 : Blw w1 w3 := Blw.trans (by assumption) hb3; have k23 : Blw w2 w3 := (by first | exact hb3 | exact Blw.trans ((Blw.refl _).alloc _) hb3); have zk3 := k23.size; have sb3 := hb3.size)
      | (go_at_call 50; refine (specCommit_any m2 M _ _ e a b (by first | exact own2.at.blw k23 | exact own2.at.blw (k23.alloc _))).mono ?_; rintro r w4 ⟨m4, M4, ok, rfl, hout, own4, hb4⟩; have sb4 := hb4.size; have k4 : Blw w1 w4 := Blw.trans (by assumption) hb4; have zk4 : w3.heap.size ≤ w4.heap.size := (by first | exact hb4.size | exact (Blw.trans ((Blw.refl _).alloc _) hb4).size); (first | (have rZ := (row_box w3 26).blw hb4; have hz : w1.heap.size ≤ w3.heap.size := (by omega); obtain ⟨⟨x0, x1, x2⟩, f0, f1, f2⟩ := res6 rZ) | (have rZ := (row_box w2 26).blw (hb3.trans hb4); have hz : w1.heap.size ≤ w2.heap.size := (by omega); obtain ⟨⟨x0, x1, x2⟩, f0, f1, f2⟩ := res6 rZ) | (have rZ : Row w4 w1.heap.size 3 (fun _ => .slice none 0 0) := (row_box w1.drew 26).blw (hb2.trans (hb3.trans hb4)); have hz : w1.heap.size ≤ w1.heap.size := (by omega); obtain ⟨⟨x0, x1, x2⟩, f0, f1, f2⟩ := res6 rZ) | skip)))
    all_goals go_wp2_with fail
    all_goals go_meet
    all_goals try simp only [World.size_alloc, World.size_drew] at own4 sb2 sb3 sb4
    all_goals first
      | exact ⟨_, m4, M4, ok, rfl, rfl, hout, Boxed.late k4 own4 (fun b hb => ⟨by have := hb.1; omega, hb.2⟩)⟩
      | exact ⟨_, m4, M4, ok, rfl, rfl, hout, Boxed.early k4 rZ hz own4 (fun b hb => ⟨by have := hb.1; omega, hb.2, by have := hb.1; omega⟩)⟩
  case rest =>
    obtain ⟨z3, m3, M3, bs, rfl, rfl, hbs, B3⟩ := hcut
    have HBS : Hid (csOut M e a b M3 bs) := hbs
    clear hbs A0 A1 A2 S0 S1 S2
    obtain ⟨p0, p1, p2⟩ := get3 (rA.blw B3.blw)
    go_wp2_with fail
    clear p0 p1 p2
    refine (toMemory_any m M _ _ HS.out (H1.out.blw B3.blw)).mono ?_
    rintro r w4 ⟨m4, rfl, own4, hb4⟩
    have b4 := box3 w4 (.slice m4.a1 M.n1 m4.c1) (.slice m4.a2 M.n2 m4.c2) (.slice m4.a3 M.n3 m4.c3) 26
    have hA4 : Blw w4 (w4.alloc (.cells #[.slice m4.a1 M.n1 m4.c1, .slice m4.a2 M.n2 m4.c2, .slice m4.a3 M.n3 m4.c3] 26)) := (Blw.refl _).alloc _
    go_upto_region 7 with fail
    obtain ⟨w5, hw5⟩ : ∃ w5, w4.alloc (.cells #[.slice m4.a1 M.n1 m4.c1, .slice m4.a2 M.n2 m4.c2, .slice m4.a3 M.n3 m4.c3] 26) = w5 := ⟨_, rfl⟩
    rw [hw5] at b4 hA4 ⊢
    have H4 : Hid (MemAt _ w5 m4 M) := own4.at.blw hA4
    obtain ⟨A0, A1, A2⟩ := box3_all b4
    obtain ⟨S0, S1, S2⟩ := box3_all (rS.blw (B3.blw.trans (hb4.trans hA4)))
    go_cut [9, 10] from 31 to 37 (fun c d wx => ∃ z m3 M3 ok, c = .pointer (some ⟨z, 0, none⟩) ∧ d = .bool ok ∧ csOut M e a b M3 ok ∧ Boxed w5 wx z m3 M3)
    case first =>
      go_region_held3 (fun w' => Blw w5 w') ((first | exact (Blw.refl _).drew | assumption | exact Blw.alloc k7 _ | exact Blw.alloc k6 _ | exact Blw.alloc (Blw.refl _).drew _ | exact Mod.blw k7 (mod_set3 _ _ _ _ _) (fun i hi => by omega))) (first
        | (go_at_call 64; refine (toSlot_any e a b _).mono ?_; rintro r w6 ⟨rfl, hb6⟩; have k6 : Blw w5 w6 := Blw.trans (by assumption) hb6; have zk6 := k6.size; have sb6 := hb6.size)
        | (go_at_call 48; refine (implCommit_any m4 M _ _ e a b (by exact H4.out.blw (by assumption))).mono ?_; rintro r w7 ⟨m7, M7, ok, rfl, hout, own7, hb7⟩; have sb7 := hb7.size; have k7 : Blw w5 w7 := Blw.trans (by assumption) hb7; (first | (have rZ := (row_box w6 26).blw hb7; have hz : w5.heap.size ≤ w6.heap.size := (by omega); obtain ⟨⟨x0, x1, x2⟩, f0, f1, f2⟩ := res6 rZ) | (have rZ : Row w7 w5.heap.size 3 (fun _ => .slice none 0 0) := (row_box w5.drew 26).blw (hb6.trans hb7); have hz : w5.heap.size ≤ w5.heap.size := (by omega); obtain ⟨⟨x0, x1, x2⟩, f0, f1, f2⟩ := res6 rZ) | skip)))
      all_goals go_wp2_with fail
      all_goals go_meet
      all_goals try simp only [World.size_alloc, World.size_drew] at own7 sb6 sb7
      all_goals first
        | exact ⟨_, m7, M7, ok, rfl, rfl, hout, Boxed.late k7 own7 (fun b hb => ⟨by have := hb.1; omega, hb.2⟩)⟩
        | exact ⟨_, m7, M7, ok, rfl, rfl, hout, Boxed.early k7 rZ hz own7 (fun b hb => ⟨by have := hb.1; omega, hb.2, by have := hb.1; omega⟩)⟩
    case rest =>
      obtain ⟨z5, m5, M5, bi, rfl, rfl, hbi, B5⟩ := hcut
      obtain ⟨rfl, rfl⟩ := csOut_same hbi HBS.out
      subst hw5
      have tot : M5.total ≤ 108 := csOut_total HBS.out
      have S := LawG.start hb1 H1.out rA rS B3 hb4 own4 B5
      clear hbi b4 hA4 H4 A0 A1 A2 S0 S1 S2 B5 B3 own4 hb4 rA rS
      have hne : (bi != bi) = false := by simp
      have HSt : Hid _ := S
      obtain ⟨p0, p1, p2⟩ := (box_of S.b8).1
      obtain ⟨q0, q1, q2⟩ := (box_of S.b11).1
      clear S
      go_wp2_with fail
      clear p0 p1 p2 q0 q1 q2
      refine (eqMemory_same m5 m3 M5 _ HSt.out.own5.at HSt.out.at3).mono ?_
      rintro r w6 ⟨rfl, hb6⟩
      replace HSt : Hid _ := HSt.out.blw hb6
      clear hb6
      go_upto_region 10 with fail
      go_cut [51] from 47 to 51 (fun c wx => c = .bool false ∧ Blw w6 wx)
      case first =>
        obtain ⟨A0, A1, A2⟩ := box3_all HSt.out.A
        obtain ⟨B0, B1, B2⟩ := box3_all HSt.out.b10
        go_region_held3 (fun w' => Blw w6 w') ((first | exact (Blw.refl _).drew | assumption | exact Blw.trans (by assumption) (by assumption))) (first
          | (go_at_call 66; refine (toMemory_any m M _ _ HS.out (HSt.out.h.blw (by assumption))).mono ?_; rintro e w7 ⟨m6, rfl, o6, hb7⟩)
          | (go_at_call 67; refine (eqMemory_same m4 m6 M _ (HSt.out.own4.at.blw (by assumption)) o6.at).mono ?_; rintro e w8 ⟨rfl, hb8⟩))
        all_goals go_wp2_with fail
        all_goals go_meet
        all_goals exact ⟨rfl, by assumption⟩
      case rest =>
        obtain ⟨rfl, hb7⟩ := hcut
        replace HSt : Hid _ := HSt.out.blw hb7
        clear hb7
        have htM : M.total ≤ 1048576 := HS.out.t
        obtain ⟨p0, p1, p2⟩ := (box_of HSt.out.b10).1
        go_wp2_with fail
        clear p0 p1 p2
        refine (markMemory_any m4 M _ 1 _ (by omega) (by omega) HSt.out.own4 (fun b hb => by have := HSt.out.o5; have := HSt.out.o; omega)).mono ?_
        rintro r w8 ⟨rfl, own4, hm8⟩
        replace HSt : Hid _ := HSt.out.mark4 hm8 own4
        clear own4 hm8
        have k1 : ¬ (1 + (M.total : Int) < 0) := by omega
        obtain ⟨p0, p1, p2⟩ := (box_of HSt.out.b11).1
        obtain ⟨r0, r1, r2⟩ := (box_of HSt.out.b8).1
        go_wp2_with fail
        clear p0 p1 p2 r0 r1 r2
        refine (eqMemory_same m5 m3 M5 _ HSt.out.own5.at HSt.out.at3).mono ?_
        rintro r w9 ⟨rfl, hb9⟩
        replace HSt : Hid _ := HSt.out.blw hb9
        clear hb9 k1
        obtain ⟨p0, p1, p2⟩ := (box_of HSt.out.b11).1
        go_wp2_with fail
        clear p0 p1 p2
        refine (markMemory_any m5 M5 _ 1 _ (by omega) (by omega) HSt.out.own5 (fun b hb => by have := HSt.out.o; omega)).mono ?_
        rintro r w10 ⟨rfl, own5, hm10⟩
        replace HSt : Hid _ := HSt.out.mark5 hm10 own5
        clear own5 hm10
        have k1 : ¬ (1 + (M5.total : Int) < 0) := by omega
        have k2 : ((1 + (M5.total : Int)) != (1 + (M5.total : Int))) = false := by simp
        obtain ⟨p0, p1, p2⟩ := (box_of HSt.out.b11).1
        go_wp2_with fail
        clear p0 p1 p2
        refine (heldMemory_any m5 M5 _ 1 _ (by omega) (by omega) HSt.out.own5.at).mono ?_
        rintro r w11 ⟨rfl, hb11⟩
        replace HSt : Hid _ := HSt.out.blw hb11
        clear hb11
        go_upto_region 24 with fail
        have H1 : Hid _ := HSt.out.h
        obtain ⟨A0, A1, A2⟩ := box3_all HSt.out.A
        obtain ⟨S0, S1, S2⟩ := box3_all HSt.out.sl
        go_cut [14, 15] from 79 to 86 (fun c d wx => ∃ z m3 M3 ok, c = .pointer (some ⟨z, 0, none⟩) ∧ d = .bool ok ∧ csOut M e a b M3 ok ∧ Boxed w11 wx z m3 M3)
        case first =>
          have zs : w11.heap.size ≤ w11.drew.heap.size := Nat.le_refl _
          go_region_held3 (fun w' => Blw w11 w') ((first | exact (Blw.refl _).drew | assumption | exact Blw.alloc k4 _ | exact Blw.alloc k3 _ | exact Blw.alloc k2 _ | exact Blw.alloc (Blw.refl _).drew _ | exact Mod.blw k4 (mod_set3 _ _ _ _ _) (fun i hi => by omega))) (first
            | (go_at_call 66; refine (toMemory_any m M _ _ HS.out (by exact H1.out.blw (by assumption))).mono ?_; rintro r w2 ⟨m2, rfl, own2, hb2⟩; have k2 : Blw w11 w2 := Blw.trans (by assumption) hb2; have zk2 := k2.size; have sb2 := hb2.size)
            | (go_at_call 64; refine (toSlot_any e a b _).mono ?_; rintro r w3 ⟨rfl, hb3⟩; have k3 : Blw w11 w3 := Blw.trans (by assumption) hb3; have k23 : Blw w2 w3 := (by first | exact hb3 | exact Blw.trans ((Blw.refl _).alloc _) hb3); have zk3 := k23.size; have sb3 := hb3.size)
            | (go_at_call 48; refine (implCommit_any m2 M _ _ e a b (by first | exact own2.at.blw k23 | exact own2.at.blw (k23.alloc _))).mono ?_; rintro r w4 ⟨m4, M4, ok, rfl, hout, own4, hb4⟩; have sb4 := hb4.size; have k4 : Blw w11 w4 := Blw.trans (by assumption) hb4; have zk4 : w3.heap.size ≤ w4.heap.size := (by first | exact hb4.size | exact (Blw.trans ((Blw.refl _).alloc _) hb4).size); (first | (have rZ := (row_box w3 26).blw hb4; have hz : w11.heap.size ≤ w3.heap.size := (by omega); obtain ⟨⟨x0, x1, x2⟩, f0, f1, f2⟩ := res6 rZ) | (have rZ := (row_box w2 26).blw (hb3.trans hb4); have hz : w11.heap.size ≤ w2.heap.size := (by omega); obtain ⟨⟨x0, x1, x2⟩, f0, f1, f2⟩ := res6 rZ) | (have rZ : Row w4 w11.heap.size 3 (fun _ => .slice none 0 0) := (row_box w11.drew 26).blw (hb2.trans (hb3.trans hb4)); have hz : w11.heap.size ≤ w11.heap.size := (by omega); obtain ⟨⟨x0, x1, x2⟩, f0, f1, f2⟩ := res6 rZ) | skip)))
          all_goals go_wp2_with fail
          all_goals go_meet
          all_goals try simp only [World.size_alloc, World.size_drew] at own4 sb2 sb3 sb4
          all_goals first
            | exact ⟨_, m4, M4, ok, rfl, rfl, hout, Boxed.late k4 own4 (fun b hb => ⟨by have := hb.1; omega, hb.2⟩)⟩
            | exact ⟨_, m4, M4, ok, rfl, rfl, hout, Boxed.early k4 rZ hz own4 (fun b hb => ⟨by have := hb.1; omega, hb.2, by have := hb.1; omega⟩)⟩
        case rest =>
          obtain ⟨z8, m8, M8, b8, rfl, rfl, hb8, B8⟩ := hcut
          obtain ⟨rfl, rfl⟩ := csOut_same hb8 HBS.out
          replace HSt : Hid _ := HSt.out.blw B8.blw
          clear hb8 A0 A1 A2 S0 S1 S2 H1
          obtain ⟨p0, p1, p2⟩ := (box_of B8.box).1
          obtain ⟨r0, r1, r2⟩ := (box_of HSt.out.b8).1
          go_wp2_with fail
          clear p0 p1 p2 r0 r1 r2
          refine (eqMemory_same m8 m3 M8 _ B8.own.at HSt.out.at3).mono ?_
          rintro r w14 ⟨rfl, hb14⟩
          replace HSt : Hid _ := HSt.out.blw hb14
          clear B8 hb14
          obtain ⟨p0, p1, p2⟩ := (box_of HSt.out.b11).1
          go_wp2_with fail
          clear p0 p1 p2
          refine (heldMemory_any m5 M8 _ 1 _ (by omega) (by omega) HSt.out.own5.at).mono ?_
          rintro r w15 ⟨rfl, hb15⟩
          replace HSt : Hid _ := HSt.out.blw hb15
          clear hb15
          go_wp2
          go_ret
          exact ⟨rfl, HSt.out.hB⟩
end Go.Proofs.Ytnbcjdoohmjghaa
