/- What the laws on owners draw. -/
import Derived.Test.YtfmmpddknanhbaaOw
namespace Go.Proofs.Ytfmmpddknanhbaa
open Go.RowKit
set_option linter.unusedSimpArgs false
set_option linter.unusedVariables false
theorem bytes_more {w w' : World} {ao : Option Addr} {n : Nat} {f : Nat → Int} (h : BytesAt (fun b => b < w.heap.size) w ao n f) (hb : Blw w w') : BytesAt (fun b => b < w'.heap.size) w' ao n f :=
  ⟨h.1, fun i hi => let ⟨b, o, h1, hX, h2⟩ := (h.blw hb).2 i hi; ⟨b, o, h1, Nat.lt_of_lt_of_le hX hb.size, h2⟩⟩
theorem draw_start (w : World) (ao : Option Addr) (n cc : Nat) (f : Nat → Int) (h : BytesAt (fun b => b < w.heap.size) w ao n f) :
    Blw w ((w.alloc (.cells #[.slice none 0 0, .slice none 0 0] 25)).alloc (.cells #[.slice ao n cc, .int .i64 0, .int .u64 0] 66)) ∧ Cur (fun b => b < w.heap.size) ((w.alloc (.cells #[.slice none 0 0, .slice none 0 0] 25)).alloc (.cells #[.slice ao n cc, .int .i64 0, .int .u64 0] 66)) (w.heap.size + 1) 0 ∧ Row ((w.alloc (.cells #[.slice none 0 0, .slice none 0 0] 25)).alloc (.cells #[.slice ao n cc, .int .i64 0, .int .u64 0] 66)) w.heap.size 2 (fun i => if i = 0 then .slice none 0 0 else .slice none 0 0) ∧ ((w.alloc (.cells #[.slice none 0 0, .slice none 0 0] 25)).alloc (.cells #[.slice ao n cc, .int .i64 0, .int .u64 0] 66)).heap.size = w.heap.size + 2 := by
  have hb0 : Blw w ((w.alloc (.cells #[.slice none 0 0, .slice none 0 0] 25)).alloc (.cells #[.slice ao n cc, .int .i64 0, .int .u64 0] 66)) := ((Blw.refl _).alloc _).alloc _
  refine ⟨hb0, ⟨ao, n, cc, 0, f, 0, ?_, h.blw hb0, Nat.le_refl _, fun b hb => by omega⟩, (box2 w _ _ 25).blw ((Blw.refl _).alloc _), by simp⟩
  have := box3 (w.alloc (.cells #[.slice none 0 0, .slice none 0 0] 25)) (.slice ao n cc) (.int .i64 0) (.int .u64 0) 66
  rw [World.size_alloc] at this
  exact this
/-- Owners that were drawn, the cursor at w's size and one. -/
structure Dr (w wr : World) (k : Nat) (b : BV) (c l : Nat → Int) : Prop where
  blw : Blw w wr
  cur : Cur (fun x => x < w.heap.size) wr (w.heap.size + 1) k
  out : Row wr w.heap.size 2 (fun i => if i = 0 then .slice none 0 0 else .slice none 0 0)
  at_ : BookAt (fun x => w.heap.size + 1 < x ∧ x < wr.heap.size) wr b ⟨16, c, 16, l⟩
theorem Dr.go {w wr w1 : World} {k k' : Nat} {b : BV} {c l : Nat → Int} (h : Dr w wr k b c l) (hc : Cur (fun x => x < w.heap.size) w1 (w.heap.size + 1) k') (hm : Mod (fun b => b = w.heap.size + 1) wr w1) : Dr w w1 k' b c l := by
  have hs := hm.size
  exact ⟨Mod.blw h.blw hm (fun i hi => by omega), hc, h.out.mod hm (by omega), (h.at_.mod hm (fun x hx e => by omega)).mono (fun x hx => by omega)⟩
abbrev bput (w wr : World) (b : BV) : World := (wr.setCell ⟨w.heap.size, 0, none⟩ (.slice b.a1 16 b.c1)).setCell ⟨w.heap.size, 1, none⟩ (.slice b.a2 16 b.c2)
def Drawn (w w' : World) (b : BV) (c l : Nat → Int) : Prop := BookAt (fun x => w.heap.size < x ∧ x < w'.heap.size) w' b ⟨16, c, 16, l⟩ ∧ Blw w w'
theorem Dr.fin {w wr : World} {k : Nat} {b : BV} {c l : Nat → Int} (h : Dr w wr k b c l) : Drawn w (bput w wr b) b c l := by
  have ms := set2_mod (X := fun x => x = w.heap.size) wr rfl (.slice b.a1 16 b.c1) (.slice b.a2 16 b.c2)
  have hs := ms.size
  exact ⟨(h.at_.mod ms (fun x hx e => by omega)).mono (fun x hx => ⟨by omega, Nat.lt_of_lt_of_le hx.2 hs⟩), Mod.blw h.blw ms (fun i hi => by omega)⟩
set_option maxHeartbeats 3200000 in
theorem goodOwners_any (ao : Option Addr) (n cc : Nat) (f : Nat → Int) (w : World) (h : BytesAt (fun b => b < w.heap.size) w ao n f) :
    Calls Try.prog 70 #[.slice ao n cc] w fun e w' => ∃ b c l, e = .returned (b.val ⟨16, c, 16, l⟩) ∧ Drawn w w' b c l := by
  obtain ⟨hb0, c0, rR, sz⟩ := draw_start w ao n cc f h
  clear h
  go_enter Try.func70, Try.ntmps70
  go_wp2_with fail
  refine (owners_any _ (w.heap.size + 1) 0 _ (by omega) (fun b hb => by omega) c0).mono ?_
  rintro e w1 ⟨b, c, l, rfl, own, c1, m1⟩
  have HD : Hid (Dr w w1 (0 + 400) b c l) := ⟨Mod.blw hb0 m1 (fun i hi => by omega), c1, rR.mod m1 (by omega), own.at.mono (fun x hx => by omega)⟩
  clear hb0 c0 rR sz own c1 m1
  obtain ⟨t0, t1⟩ := get2 HD.out.out
  have f0 := HD.out.out.frozen 0
  have f1 := HD.out.out.frozen 1
  have FIN : Hid _ := HD.out.fin
  clear HD
  go_wp2
  exact bodyPost_ret (v := b.val ⟨16, c, 16, l⟩) (by simp [results, Try.results70, go_sem, t0, t1, BV.val]) rfl ⟨b, c, l, rfl, FIN.out⟩
set_option maxHeartbeats 3200000 in
theorem drawTake_any (ao : Option Addr) (n cc : Nat) (f : Nat → Int) (w : World) (h : BytesAt (fun b => b < w.heap.size) w ao n f) :
    Calls Try.prog 14 #[.slice ao n cc] w fun e w' => ∃ b c l y0 y1, e = .returned (.tuple #[b.val ⟨16, c, 16, l⟩, .int .i64 y0, .int .i64 y1]) ∧ Drawn w w' b c l := by
  obtain ⟨hb0, c0, rR, sz⟩ := draw_start w ao n cc f h
  clear h
  go_enter Try.func14, Try.ntmps14
  go_wp2_with fail
  refine (owners_any _ (w.heap.size + 1) 0 _ (by omega) (fun b hb => by omega) c0).mono ?_
  rintro e w1 ⟨b, c, l, rfl, own, c1, m1⟩
  have HD : Hid (Dr w w1 (0 + 400) b c l) := ⟨Mod.blw hb0 m1 (fun i hi => by omega), c1, rR.mod m1 (by omega), own.at.mono (fun x hx => by omega)⟩
  clear hb0 c0 rR sz own c1 m1
  go_wp2_with fail
  refine (pick_any _ (w.heap.size + 1) _ 8 _ (by omega) (by omega) HD.out.cur).mono ?_
  rintro e v0 ⟨x0, rfl, hx0, hc, hm⟩
  replace HD : Hid (Dr w v0 (0 + 400 + 2) b c l) := HD.out.go hc hm
  clear hc hm
  go_wp2_with fail
  refine (pick_any _ (w.heap.size + 1) _ 7 _ (by omega) (by omega) HD.out.cur).mono ?_
  rintro e v1 ⟨x1, rfl, hx1, hc, hm⟩
  replace HD : Hid (Dr w v1 (0 + 400 + 2 + 2) b c l) := HD.out.go hc hm
  clear hc hm
  obtain ⟨t0, t1⟩ := get2 HD.out.out
  have f0 := HD.out.out.frozen 0
  have f1 := HD.out.out.frozen 1
  have FIN : Hid _ := HD.out.fin
  clear HD
  go_wp2
  exact bodyPost_ret (v := .tuple #[b.val ⟨16, c, 16, l⟩, .int .i64 ((x0 : Int)), .int .i64 ((x1 : Int) - 1)]) (by simp [results, Try.results14, go_sem, t0, t1, BV.val]) rfl ⟨b, c, l, _, _, rfl, FIN.out⟩
set_option maxHeartbeats 3200000 in
theorem drawFree_any (ao : Option Addr) (n cc : Nat) (f : Nat → Int) (w : World) (h : BytesAt (fun b => b < w.heap.size) w ao n f) :
    Calls Try.prog 25 #[.slice ao n cc] w fun e w' => ∃ b c l y0 y1 y2, e = .returned (.tuple #[b.val ⟨16, c, 16, l⟩, .int .i64 y0, .int .i64 y1, .int .i64 y2]) ∧ Drawn w w' b c l := by
  obtain ⟨hb0, c0, rR, sz⟩ := draw_start w ao n cc f h
  clear h
  go_enter Try.func25, Try.ntmps25
  go_wp2_with fail
  refine (owners_any _ (w.heap.size + 1) 0 _ (by omega) (fun b hb => by omega) c0).mono ?_
  rintro e w1 ⟨b, c, l, rfl, own, c1, m1⟩
  have HD : Hid (Dr w w1 (0 + 400) b c l) := ⟨Mod.blw hb0 m1 (fun i hi => by omega), c1, rR.mod m1 (by omega), own.at.mono (fun x hx => by omega)⟩
  clear hb0 c0 rR sz own c1 m1
  go_wp2_with fail
  refine (pick_any _ (w.heap.size + 1) _ 3 _ (by omega) (by omega) HD.out.cur).mono ?_
  rintro e v0 ⟨x0, rfl, hx0, hc, hm⟩
  replace HD : Hid (Dr w v0 (0 + 400 + 2) b c l) := HD.out.go hc hm
  clear hc hm
  go_wp2_with fail
  refine (pick_any _ (w.heap.size + 1) _ 9 _ (by omega) (by omega) HD.out.cur).mono ?_
  rintro e v1 ⟨x1, rfl, hx1, hc, hm⟩
  replace HD : Hid (Dr w v1 (0 + 400 + 2 + 2) b c l) := HD.out.go hc hm
  clear hc hm
  go_wp2_with fail
  refine (pick_any _ (w.heap.size + 1) _ 9 _ (by omega) (by omega) HD.out.cur).mono ?_
  rintro e v2 ⟨x2, rfl, hx2, hc, hm⟩
  replace HD : Hid (Dr w v2 (0 + 400 + 2 + 2 + 2) b c l) := HD.out.go hc hm
  clear hc hm
  obtain ⟨y, ey, hy⟩ : ∃ y : Nat, Int.tdiv (x2 : Int) 8 = (y : Int) ∧ y ≤ 1 := ⟨x2 / 8, by rw [Int.tdiv_eq_ediv_of_nonneg (by omega)]; rfl, by omega⟩
  go_wp2_with fail
  refine (pick_any _ (w.heap.size + 1) _ 3 _ (by omega) (by omega) HD.out.cur).mono ?_
  rintro e v3 ⟨x3, rfl, hx3, hc, hm⟩
  replace HD : Hid (Dr w v3 (0 + 400 + 2 + 2 + 2 + 2) b c l) := HD.out.go hc hm
  clear hc hm
  obtain ⟨t0, t1⟩ := get2 HD.out.out
  have f0 := HD.out.out.frozen 0
  have f1 := HD.out.out.frozen 1
  have FIN : Hid _ := HD.out.fin
  clear HD
  go_wp2
  exact bodyPost_ret (v := .tuple #[b.val ⟨16, c, 16, l⟩, .int .i64 (1 + (x0 : Int)), .int .i64 ((x1 : Int) - (y : Int)), .int .i64 ((x3 : Int))]) (by simp [results, Try.results25, go_sem, t0, t1, BV.val]) rfl ⟨b, c, l, _, _, _, rfl, FIN.out⟩
set_option maxHeartbeats 3200000 in
theorem drawLend_any (ao : Option Addr) (n cc : Nat) (f : Nat → Int) (w : World) (h : BytesAt (fun b => b < w.heap.size) w ao n f) :
    Calls Try.prog 27 #[.slice ao n cc] w fun e w' => ∃ b c l y0 y1 y2, e = .returned (.tuple #[b.val ⟨16, c, 16, l⟩, .int .i64 y0, .int .i64 y1, .int .i64 y2]) ∧ Drawn w w' b c l := by
  obtain ⟨hb0, c0, rR, sz⟩ := draw_start w ao n cc f h
  clear h
  go_enter Try.func27, Try.ntmps27
  go_wp2_with fail
  refine (owners_any _ (w.heap.size + 1) 0 _ (by omega) (fun b hb => by omega) c0).mono ?_
  rintro e w1 ⟨b, c, l, rfl, own, c1, m1⟩
  have HD : Hid (Dr w w1 (0 + 400) b c l) := ⟨Mod.blw hb0 m1 (fun i hi => by omega), c1, rR.mod m1 (by omega), own.at.mono (fun x hx => by omega)⟩
  clear hb0 c0 rR sz own c1 m1
  go_wp2_with fail
  refine (pick_any _ (w.heap.size + 1) _ 3 _ (by omega) (by omega) HD.out.cur).mono ?_
  rintro e v0 ⟨x0, rfl, hx0, hc, hm⟩
  replace HD : Hid (Dr w v0 (0 + 400 + 2) b c l) := HD.out.go hc hm
  clear hc hm
  go_wp2_with fail
  refine (pick_any _ (w.heap.size + 1) _ 9 _ (by omega) (by omega) HD.out.cur).mono ?_
  rintro e v1 ⟨x1, rfl, hx1, hc, hm⟩
  replace HD : Hid (Dr w v1 (0 + 400 + 2 + 2) b c l) := HD.out.go hc hm
  clear hc hm
  go_wp2_with fail
  refine (pick_any _ (w.heap.size + 1) _ 9 _ (by omega) (by omega) HD.out.cur).mono ?_
  rintro e v2 ⟨x2, rfl, hx2, hc, hm⟩
  replace HD : Hid (Dr w v2 (0 + 400 + 2 + 2 + 2) b c l) := HD.out.go hc hm
  clear hc hm
  obtain ⟨y, ey, hy⟩ : ∃ y : Nat, Int.tdiv (x2 : Int) 8 = (y : Int) ∧ y ≤ 1 := ⟨x2 / 8, by rw [Int.tdiv_eq_ediv_of_nonneg (by omega)]; rfl, by omega⟩
  go_wp2_with fail
  refine (pick_any _ (w.heap.size + 1) _ 5 _ (by omega) (by omega) HD.out.cur).mono ?_
  rintro e v3 ⟨x3, rfl, hx3, hc, hm⟩
  replace HD : Hid (Dr w v3 (0 + 400 + 2 + 2 + 2 + 2) b c l) := HD.out.go hc hm
  clear hc hm
  obtain ⟨t0, t1⟩ := get2 HD.out.out
  have f0 := HD.out.out.frozen 0
  have f1 := HD.out.out.frozen 1
  have FIN : Hid _ := HD.out.fin
  clear HD
  go_wp2
  exact bodyPost_ret (v := .tuple #[b.val ⟨16, c, 16, l⟩, .int .i64 (1 + (x0 : Int)), .int .i64 ((x1 : Int) - (y : Int)), .int .i64 ((x3 : Int))]) (by simp [results, Try.results27, go_sem, t0, t1, BV.val]) rfl ⟨b, c, l, _, _, _, rfl, FIN.out⟩
set_option maxHeartbeats 3200000 in
theorem drawBack_any (ao : Option Addr) (n cc : Nat) (f : Nat → Int) (w : World) (h : BytesAt (fun b => b < w.heap.size) w ao n f) :
    Calls Try.prog 37 #[.slice ao n cc] w fun e w' => ∃ b c l y0 y1, e = .returned (.tuple #[b.val ⟨16, c, 16, l⟩, .int .i64 y0, .int .i64 y1]) ∧ Drawn w w' b c l := by
  obtain ⟨hb0, c0, rR, sz⟩ := draw_start w ao n cc f h
  clear h
  go_enter Try.func37, Try.ntmps37
  go_wp2_with fail
  refine (owners_any _ (w.heap.size + 1) 0 _ (by omega) (fun b hb => by omega) c0).mono ?_
  rintro e w1 ⟨b, c, l, rfl, own, c1, m1⟩
  have HD : Hid (Dr w w1 (0 + 400) b c l) := ⟨Mod.blw hb0 m1 (fun i hi => by omega), c1, rR.mod m1 (by omega), own.at.mono (fun x hx => by omega)⟩
  clear hb0 c0 rR sz own c1 m1
  go_wp2_with fail
  refine (pick_any _ (w.heap.size + 1) _ 3 _ (by omega) (by omega) HD.out.cur).mono ?_
  rintro e v0 ⟨x0, rfl, hx0, hc, hm⟩
  replace HD : Hid (Dr w v0 (0 + 400 + 2) b c l) := HD.out.go hc hm
  clear hc hm
  go_wp2_with fail
  refine (pick_any _ (w.heap.size + 1) _ 9 _ (by omega) (by omega) HD.out.cur).mono ?_
  rintro e v1 ⟨x1, rfl, hx1, hc, hm⟩
  replace HD : Hid (Dr w v1 (0 + 400 + 2 + 2) b c l) := HD.out.go hc hm
  clear hc hm
  go_wp2_with fail
  refine (pick_any _ (w.heap.size + 1) _ 9 _ (by omega) (by omega) HD.out.cur).mono ?_
  rintro e v2 ⟨x2, rfl, hx2, hc, hm⟩
  replace HD : Hid (Dr w v2 (0 + 400 + 2 + 2 + 2) b c l) := HD.out.go hc hm
  clear hc hm
  obtain ⟨y, ey, hy⟩ : ∃ y : Nat, Int.tdiv (x2 : Int) 8 = (y : Int) ∧ y ≤ 1 := ⟨x2 / 8, by rw [Int.tdiv_eq_ediv_of_nonneg (by omega)]; rfl, by omega⟩
  obtain ⟨t0, t1⟩ := get2 HD.out.out
  have f0 := HD.out.out.frozen 0
  have f1 := HD.out.out.frozen 1
  have FIN : Hid _ := HD.out.fin
  clear HD
  go_wp2
  exact bodyPost_ret (v := .tuple #[b.val ⟨16, c, 16, l⟩, .int .i64 (1 + (x0 : Int)), .int .i64 ((x1 : Int) - (y : Int))]) (by simp [results, Try.results37, go_sem, t0, t1, BV.val]) rfl ⟨b, c, l, _, _, rfl, FIN.out⟩
set_option maxHeartbeats 3200000 in
theorem drawMay_any (ao : Option Addr) (n cc : Nat) (f : Nat → Int) (w : World) (h : BytesAt (fun b => b < w.heap.size) w ao n f) :
    Calls Try.prog 75 #[.slice ao n cc] w fun e w' => ∃ b c l y0, e = .returned (.tuple #[b.val ⟨16, c, 16, l⟩, .int .i64 y0]) ∧ Drawn w w' b c l := by
  obtain ⟨hb0, c0, rR, sz⟩ := draw_start w ao n cc f h
  clear h
  go_enter Try.func75, Try.ntmps75
  go_wp2_with fail
  refine (owners_any _ (w.heap.size + 1) 0 _ (by omega) (fun b hb => by omega) c0).mono ?_
  rintro e w1 ⟨b, c, l, rfl, own, c1, m1⟩
  have HD : Hid (Dr w w1 (0 + 400) b c l) := ⟨Mod.blw hb0 m1 (fun i hi => by omega), c1, rR.mod m1 (by omega), own.at.mono (fun x hx => by omega)⟩
  clear hb0 c0 rR sz own c1 m1
  go_wp2_with fail
  refine (pick_any _ (w.heap.size + 1) _ 8 _ (by omega) (by omega) HD.out.cur).mono ?_
  rintro e v0 ⟨x0, rfl, hx0, hc, hm⟩
  replace HD : Hid (Dr w v0 (0 + 400 + 2) b c l) := HD.out.go hc hm
  clear hc hm
  obtain ⟨t0, t1⟩ := get2 HD.out.out
  have f0 := HD.out.out.frozen 0
  have f1 := HD.out.out.frozen 1
  have FIN : Hid _ := HD.out.fin
  clear HD
  go_wp2
  exact bodyPost_ret (v := .tuple #[b.val ⟨16, c, 16, l⟩, .int .i64 ((x0 : Int))]) (by simp [results, Try.results75, go_sem, t0, t1, BV.val]) rfl ⟨b, c, l, _, rfl, FIN.out⟩
set_option maxHeartbeats 3200000 in
theorem drawFreeBlocks_any (ao : Option Addr) (n cc : Nat) (f : Nat → Int) (w : World) (h : BytesAt (fun b => b < w.heap.size) w ao n f) :
    Calls Try.prog 23 #[.slice ao n cc] w fun e w' => ∃ b c l, e = .returned (b.val ⟨16, c, 16, l⟩) ∧ Drawn w w' b c l := by
  have hb0 : Blw w (w.alloc (.cells #[.slice none 0 0, .slice none 0 0] 25)) := (Blw.refl _).alloc _
  have rR := box2 w (.slice none 0 0) (.slice none 0 0) 25
  have HH : Hid (BytesAt (fun b => b < (w.alloc (.cells #[.slice none 0 0, .slice none 0 0] 25)).heap.size) (w.alloc (.cells #[.slice none 0 0, .slice none 0 0] 25)) ao n f) := bytes_more h hb0
  clear h
  go_enter Try.func23, Try.ntmps23
  go_wp2_with fail
  refine (goodOwners_any ao n cc f _ HH.out).mono ?_
  rintro e w1 ⟨b, c, l, rfl, hat, hb1⟩
  have sz : (w.alloc (.cells #[.slice none 0 0, .slice none 0 0] 25)).heap.size = w.heap.size + 1 := by simp
  have r1 := rR.blw hb1
  have ms := set2_mod (X := fun x => x = w.heap.size) w1 rfl (.slice b.a1 16 b.c1) (.slice b.a2 16 b.c2)
  have hs2 := ms.size
  have FIN : Hid (Drawn w (bput w w1 b) b c l) := ⟨(hat.mod ms (fun x hx e => by omega)).mono (fun x hx => ⟨by omega, Nat.lt_of_lt_of_le hx.2 hs2⟩), Mod.blw (hb0.trans hb1) ms (fun i hi => by omega)⟩
  obtain ⟨t0, t1⟩ := get2 r1
  have f0 := r1.frozen 0
  have f1 := r1.frozen 1
  clear hb0 rR HH hat hb1 sz r1 ms hs2
  go_wp2
  exact bodyPost_ret (v := b.val ⟨16, c, 16, l⟩) (by simp [results, Try.results23, go_sem, t0, t1, BV.val]) rfl ⟨b, c, l, rfl, FIN.out⟩
set_option maxHeartbeats 3200000 in
theorem drawDrop_any (ao : Option Addr) (n cc : Nat) (f : Nat → Int) (w : World) (h : BytesAt (fun b => b < w.heap.size) w ao n f) :
    Calls Try.prog 33 #[.slice ao n cc] w fun e w' => ∃ b c l y0, e = .returned (.tuple #[b.val ⟨16, c, 16, l⟩, .int .i64 y0]) ∧ Drawn w w' b c l := by
  have hb0 : Blw w (w.alloc (.cells #[.slice none 0 0, .slice none 0 0] 25)) := (Blw.refl _).alloc _
  have rR := box2 w (.slice none 0 0) (.slice none 0 0) 25
  have HH : Hid (BytesAt (fun b => b < (w.alloc (.cells #[.slice none 0 0, .slice none 0 0] 25)).heap.size) (w.alloc (.cells #[.slice none 0 0, .slice none 0 0] 25)) ao n f) := bytes_more h hb0
  clear h
  go_enter Try.func33, Try.ntmps33
  go_wp2_with fail
  refine (drawMay_any ao n cc f _ HH.out).mono ?_
  rintro e w1 ⟨b, c, l, y0, rfl, hat, hb1⟩
  have sz : (w.alloc (.cells #[.slice none 0 0, .slice none 0 0] 25)).heap.size = w.heap.size + 1 := by simp
  have r1 := rR.blw hb1
  have ms := set2_mod (X := fun x => x = w.heap.size) w1 rfl (.slice b.a1 16 b.c1) (.slice b.a2 16 b.c2)
  have hs2 := ms.size
  have FIN : Hid (Drawn w (bput w w1 b) b c l) := ⟨(hat.mod ms (fun x hx e => by omega)).mono (fun x hx => ⟨by omega, Nat.lt_of_lt_of_le hx.2 hs2⟩), Mod.blw (hb0.trans hb1) ms (fun i hi => by omega)⟩
  obtain ⟨t0, t1⟩ := get2 r1
  have f0 := r1.frozen 0
  have f1 := r1.frozen 1
  clear hb0 rR HH hat hb1 sz r1 ms hs2
  go_wp2
  exact bodyPost_ret (v := .tuple #[b.val ⟨16, c, 16, l⟩, .int .i64 y0]) (by simp [results, Try.results33, go_sem, t0, t1, BV.val]) rfl ⟨b, c, l, _, rfl, FIN.out⟩
end Go.Proofs.Ytfmmpddknanhbaa
