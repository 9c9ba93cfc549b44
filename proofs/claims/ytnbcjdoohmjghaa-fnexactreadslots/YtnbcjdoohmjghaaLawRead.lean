/- Law 9: ReadSlots. -/
import Derived.Test.YtnbcjdoohmjghaaSlotM
namespace Go.Proofs.Ytnbcjdoohmjghaa
open Go.RowKit
set_option linter.unusedSimpArgs false
structure LawR (w W : World) (m m4 : MV) (M M4 : MD) (z3 z4 z5 : Nat) (ao3 ao5 : Option Addr) (n : Nat) (f g : Nat → T3) : Prop where
  hB : Blw w W
  h : MemAt (fun b => b < w.heap.size) W m M
  A : Box W w.heap.size m M
  at3 : SlotsOwn (fun b => b < z3) W ao3 n f
  own4 : MemOwn (fun b => z3 ≤ b ∧ b < z4) W m4 M4
  b10 : Box W z4 m4 M
  own5 : SlotsOwn (fun b => z4 < b ∧ b < z5) W ao5 n g
  o1 : w.heap.size < z3
  o2 : z3 ≤ z4
  o3 : z4 < z5
  o4 : z5 ≤ W.heap.size
theorem LawR.blw {w W W' : World} {m m4 : MV} {M M4 : MD} {z3 z4 z5 : Nat} {ao3 ao5 : Option Addr} {n : Nat} {f g : Nat → T3} (S : LawR w W m m4 M M4 z3 z4 z5 ao3 ao5 n f g) (hb : Blw W W') : LawR w W' m m4 M M4 z3 z4 z5 ao3 ao5 n f g :=
  ⟨S.hB.trans hb, S.h.blw hb, S.A.blw hb, S.at3.blw hb, S.own4.blw hb, S.b10.blw hb, S.own5.blw hb, S.o1, S.o2, S.o3, Nat.le_trans S.o4 hb.size⟩
theorem LawR.mark4 {w W W' : World} {m m4 : MV} {M M4 M4' : MD} {z3 z4 z5 : Nat} {ao3 ao5 : Option Addr} {n : Nat} {f g : Nat → T3} (S : LawR w W m m4 M M4 z3 z4 z5 ao3 ao5 n f g) (hm : Mod (fun b => z3 ≤ b ∧ b < z4) W W') (own : MemOwn (fun b => z3 ≤ b ∧ b < z4) W' m4 M4') : LawR w W' m m4 M M4' z3 z4 z5 ao3 ao5 n f g := by
  have o1 := S.o1
  have o2 := S.o2
  have o3 := S.o3
  exact ⟨Mod.blw S.hB hm (fun i hi => by omega), S.h.mod hm (fun b hb hh => by omega), S.A.mod hm (fun hh => by omega), S.at3.mod hm (fun b hb hh => by omega), own, S.b10.mod hm (fun hh => by omega), S.own5.mod hm (fun b hb hh => by omega), o1, o2, o3, Nat.le_trans S.o4 hm.size⟩
theorem LawR.mark5 {w W W' : World} {m m4 : MV} {M M4 : MD} {z3 z4 z5 : Nat} {ao3 ao5 : Option Addr} {n : Nat} {f g g' : Nat → T3} (S : LawR w W m m4 M M4 z3 z4 z5 ao3 ao5 n f g) (hm : Mod (fun b => z4 < b ∧ b < z5) W W') (own : SlotsOwn (fun b => z4 < b ∧ b < z5) W' ao5 n g') : LawR w W' m m4 M M4 z3 z4 z5 ao3 ao5 n f g' := by
  have o1 := S.o1
  have o2 := S.o2
  have o3 := S.o3
  exact ⟨Mod.blw S.hB hm (fun i hi => by omega), S.h.mod hm (fun b hb hh => by omega), S.A.mod hm (fun hh => by omega), S.at3.mod hm (fun b hb hh => by omega), S.own4.mod hm (fun b hb hh => by omega), S.b10.mod hm (fun hh => by omega), own, o1, o2, o3, Nat.le_trans S.o4 hm.size⟩
theorem LawR.start {w w3 w4 w5 : World} {m m4 : MV} {M : MD} {Y3 : Nat → Prop} {ao3 ao5 : Option Addr} {n : Nat} {f : Nat → T3} (hB : Blw w w3) (h : MemAt (fun b => b < w.heap.size) w3 m M) (A : Box w3 w.heap.size m M) (own3 : SlotsOwn Y3 w3 ao3 n f) (hY : ∀ b, Y3 b → b < w3.heap.size) (hb4 : Blw w3 w4)
    (own4 : MemOwn (fun b => w3.heap.size ≤ b ∧ b < w4.heap.size) w4 m4 M)
    (hb5 : Blw (w4.alloc (.cells #[.slice m4.a1 M.n1 m4.c1, .slice m4.a2 M.n2 m4.c2, .slice m4.a3 M.n3 m4.c3] 26)) w5)
    (own5 : SlotsOwn (fun b => (w4.alloc (.cells #[.slice m4.a1 M.n1 m4.c1, .slice m4.a2 M.n2 m4.c2, .slice m4.a3 M.n3 m4.c3] 26)).heap.size ≤ b ∧ b < w5.heap.size) w5 ao5 n f) :
    LawR w w5 m m4 M M w3.heap.size w4.heap.size w5.heap.size ao3 ao5 n f f := by
  have a4 : Blw w4 (w4.alloc (.cells #[.slice m4.a1 M.n1 m4.c1, .slice m4.a2 M.n2 m4.c2, .slice m4.a3 M.n3 m4.c3] 26)) := (Blw.refl _).alloc _
  have c5 := a4.trans hb5
  have c3 := hb4.trans c5
  have s4 := hb4.size
  have s5 := hb5.size
  rw [World.size_alloc] at s5
  exact ⟨hB.trans c3, h.blw c3, A.blw c3, (own3.mono hY).blw c3, own4.blw c5, (box3 w4 _ _ _ 26).blw hb5, own5.mono (fun b hb => ⟨by have := hb.1; rw [World.size_alloc] at this; omega, hb.2⟩), A.lt, s4, by omega, Nat.le_refl _⟩
set_option maxRecDepth 10000 in
set_option maxHeartbeats 6400000 in
theorem lawReadP (m : MV) (M : MD) (w : World) (h : MemAt (fun b => b < w.heap.size) w m M) : Calls Try.prog 9 #[m.val M] w fun e w' => e = .returned (.bool true) ∧ Blw w w' := by
  go_enter Try.func9, Try.ntmps9
  go_wp2_with fail
  have hb0 : Blw w (w.alloc (.cells #[.slice m.a1 M.n1 m.c1, .slice m.a2 M.n2 m.c2, .slice m.a3 M.n3 m.c3] 77)) := (Blw.refl _).alloc _
  have rA := box3 w (.slice m.a1 M.n1 m.c1) (.slice m.a2 M.n2 m.c2) (.slice m.a3 M.n3 m.c3) 77
  refine (szMemory_any m M _ _ _ (by omega) (by omega) (h.blw hb0)).mono ?_
  rintro e w1 ⟨r, rfl, hr, hb1⟩
  replace rA := rA.blw hb1
  replace hb1 := hb0.trans hb1
  replace h := h.blw hb1
  clear hb0
  rcases hr with rfl | ⟨q0, q1⟩
  · clear rA
    go_wp2
    go_ret
    exact ⟨rfl, hb1⟩
  have hS : M.Small := small_of (by omega)
  have HS : Hid M.Small := hS
  obtain ⟨p0, p1, p2⟩ := get3 rA
  clear q1 hS
  go_wp2_with fail
  clear p0 p1 p2
  refine (toMemory_any m M _ _ HS.out h).mono ?_
  rintro e w2 ⟨m2, rfl, own2, hb2⟩
  replace rA := rA.blw hb2
  replace h := h.blw hb2
  replace hb2 := hb1.trans hb2
  clear hb1
  go_wp2_with fail
  refine (specRead_any m2 M _ _ own2.at).mono ?_
  rintro e w3 ⟨ao3, n, c3, f, bs, rfl, hbs, own3, hb3⟩
  replace rA := rA.blw hb3
  replace h := h.blw hb3
  replace hb3 := hb2.trans hb3
  clear hb2 own2
  have HBS : Hid (rsOut M n f bs) := hbs
  have HO3 : Hid (SlotsOwn _ _ _ _ _) := own3
  clear hbs own3
  obtain ⟨p0, p1, p2⟩ := get3 rA
  go_wp2_with fail
  clear p0 p1 p2
  refine (toMemory_any m M _ _ HS.out h).mono ?_
  rintro e w4 ⟨m4, rfl, own4, hb4⟩
  go_wp2_with fail
  have hA : Blw w4 (w4.alloc (.cells #[.slice m4.a1 M.n1 m4.c1, .slice m4.a2 M.n2 m4.c2, .slice m4.a3 M.n3 m4.c3] 26)) := (Blw.refl _).alloc _
  refine (implRead_any m4 M _ _ (own4.at.blw hA)).mono ?_
  rintro e w5 ⟨ao5, n5, c5, f5, bi, rfl, hbi, own5, hb5⟩
  obtain ⟨rfl, rfl, rfl⟩ := rsOut_same hbi HBS.out
  clear hA hbi
  have hn8 : n5 ≤ 2 := own5.1
  have HSt : Hid (LawR _ _ _ _ _ _ _ _ _ _ _ _ _ _) := LawR.start hb3 h rA HO3.out (fun b hb => hb.2) hb4 own4 hb5 own5
  clear hb3 h rA HO3 hb4 own4 hb5 own5
  have hne : (bi != bi) = false := by simp
  go_wp2_with fail
  refine (eqSlotS_same _ _ _ _ n5 f5 _ _ _ HSt.out.own5 HSt.out.at3).mono ?_
  rintro e w6 ⟨rfl, hb6⟩
  replace HSt : Hid (LawR _ _ _ _ _ _ _ _ _ _ _ _ _ _) := HSt.out.blw hb6
  clear hb6
  generalize w3.heap.size = z3 at *
  generalize w4.heap.size = z4 at *
  generalize w5.heap.size = z5 at *
  clear w1 w2 w3 w4 w5
  go_upto_region 10 with fail
  go_cut [45] from 41 to 45 (fun c wx => c = .bool false ∧ Blw w6 wx)
  case first =>
    obtain ⟨A0, A1, A2⟩ := box3_all HSt.out.A
    obtain ⟨B0, B1, B2⟩ := box3_all HSt.out.b10
    go_region_held3 (fun w' => Blw w6 w') ((first | exact (Blw.refl _).drew | assumption | exact Blw.trans (by assumption) (by assumption))) (first
      | (go_at_call 66; refine (toMemory_any m M _ _ HS.out (HSt.out.h.blw (by assumption))).mono ?_; rintro e w7 ⟨m6, rfl, o6, hb7⟩)
      | (go_at_call 67; refine (eqMemory_same m4 m6 M _ (HSt.out.own4.at.blw (by assumption)) o6.at).mono ?_; rintro e w8 ⟨rfl, hb8⟩))
    all_goals go_wp2_with fail
    all_goals go_meet
    all_goals exact ⟨rfl, by assumption⟩
  case rest =>
    obtain ⟨rfl, hb7⟩ := hcut
    replace HSt : Hid (LawR _ _ _ _ _ _ _ _ _ _ _ _ _ _) := HSt.out.blw hb7
    clear hb7
    have htM : M.total ≤ 1048576 := HS.out.t
    obtain ⟨p0, p1, p2⟩ := (box_of HSt.out.b10).1
    go_wp2_with fail
    clear p0 p1 p2
    refine (markMemory_any m4 M _ 1 _ (by omega) (by omega) HSt.out.own4 (fun b hb => by have := HSt.out.o3; have := HSt.out.o4; omega)).mono ?_
    rintro e w8 ⟨rfl, own4, hm8⟩
    replace HSt : Hid (LawR _ _ _ _ _ _ _ _ _ _ _ _ _ _) := HSt.out.mark4 hm8 own4
    clear own4 hm8
    have k1 : ¬ (1 + (M.total : Int) < 0) := by omega
    go_wp2_with fail
    refine (eqSlotS_same _ _ _ _ n5 f5 _ _ _ HSt.out.own5 HSt.out.at3).mono ?_
    rintro e w9 ⟨rfl, hb9⟩
    replace HSt : Hid (LawR _ _ _ _ _ _ _ _ _ _ _ _ _ _) := HSt.out.blw hb9
    clear hb9 k1
    go_wp2_with fail
    refine (markSlotS_any _ _ n5 f5 _ 1 _ (by omega) (by omega) HSt.out.own5).mono ?_
    rintro e w10 ⟨rfl, own5, hm10⟩
    replace HSt : Hid (LawR _ _ _ _ _ _ _ _ _ _ _ _ _ _) := HSt.out.mark5 hm10 own5
    clear own5 hm10
    have k1 : ¬ (1 + 3 * (n5 : Int) < 0) := by omega
    have k2 : ((1 + 3 * (n5 : Int)) != (1 + 3 * (n5 : Int))) = false := by simp
    go_wp2_with fail
    refine (heldSlotS_any _ _ n5 _ 1 _ (by omega) (by omega) HSt.out.own5).mono ?_
    rintro e w11 ⟨rfl, hb11⟩
    replace HSt : Hid (LawR _ _ _ _ _ _ _ _ _ _ _ _ _ _) := HSt.out.blw hb11
    clear hb11
    obtain ⟨p0, p1, p2⟩ := (box_of HSt.out.A).1
    go_wp2_with fail
    clear p0 p1 p2
    refine (toMemory_any m M _ _ HS.out HSt.out.h).mono ?_
    rintro e w12 ⟨m7, rfl, own7, hb12⟩
    replace HSt : Hid (LawR _ _ _ _ _ _ _ _ _ _ _ _ _ _) := HSt.out.blw hb12
    clear hb12
    go_wp2_with fail
    refine (implRead_any m7 M _ _ own7.at).mono ?_
    rintro e w13 ⟨ao8, n8, c8, f8, b8, rfl, hb8, own8, hb13⟩
    obtain ⟨rfl, rfl, rfl⟩ := rsOut_same hb8 HBS.out
    replace HSt : Hid (LawR _ _ _ _ _ _ _ _ _ _ _ _ _ _) := HSt.out.blw hb13
    have HO8 : Hid (SlotsOwn _ _ _ _ _) := own8
    clear own7 hb13 hb8 own8
    go_wp2_with fail
    refine (eqSlotS_same _ _ _ _ n8 f8 _ _ _ HO8.out HSt.out.at3).mono ?_
    rintro e w14 ⟨rfl, hb14⟩
    replace HSt : Hid (LawR _ _ _ _ _ _ _ _ _ _ _ _ _ _) := HSt.out.blw hb14
    clear hb14 HO8
    go_wp2_with fail
    refine (heldSlotS_any _ _ n8 _ 1 _ (by omega) (by omega) HSt.out.own5).mono ?_
    rintro e w15 ⟨rfl, hb15⟩
    replace HSt : Hid (LawR _ _ _ _ _ _ _ _ _ _ _ _ _ _) := HSt.out.blw hb15
    clear hb15
    go_wp2
    go_ret
    exact ⟨rfl, HSt.out.hB⟩
end Go.Proofs.Ytnbcjdoohmjghaa
