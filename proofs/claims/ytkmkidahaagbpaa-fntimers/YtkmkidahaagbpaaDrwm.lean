/- What the laws on wheels draw. -/
import Derived.Test.YtkmkidahaagbpaaWhdm
namespace Go.Proofs.Ytkmkidahaagbpaa
open Go.RowKit
set_option linter.unusedSimpArgs false
set_option linter.unusedVariables false
theorem bytes_more {w w' : World} {ao : Option Addr} {n : Nat} {f : Nat → Int} (h : BytesAt (fun b => b < w.heap.size) w ao n f) (hb : Blw w w') : BytesAt (fun b => b < w'.heap.size) w' ao n f :=
  ⟨h.1, fun i hi => let ⟨b, o, h1, hX, h2⟩ := (h.blw hb).2 i hi; ⟨b, o, h1, Nat.lt_of_lt_of_le hX hb.size, h2⟩⟩
theorem draw_start (w : World) (ao : Option Addr) (n cc : Nat) (f : Nat → Int) (h : BytesAt (fun b => b < w.heap.size) w ao n f) :
    Blw w ((w.alloc (.cells #[.int .i64 0, .slice none 0 0, .slice none 0 0] 25)).alloc (.cells #[.slice ao n cc, .int .i64 0, .int .u64 0] 66)) ∧ Cur (fun b => b < w.heap.size) ((w.alloc (.cells #[.int .i64 0, .slice none 0 0, .slice none 0 0] 25)).alloc (.cells #[.slice ao n cc, .int .i64 0, .int .u64 0] 66)) (w.heap.size + 1) 0 ∧ Row ((w.alloc (.cells #[.int .i64 0, .slice none 0 0, .slice none 0 0] 25)).alloc (.cells #[.slice ao n cc, .int .i64 0, .int .u64 0] 66)) w.heap.size 3 (t3 (.int .i64 0) (.slice none 0 0) (.slice none 0 0)) ∧ ((w.alloc (.cells #[.int .i64 0, .slice none 0 0, .slice none 0 0] 25)).alloc (.cells #[.slice ao n cc, .int .i64 0, .int .u64 0] 66)).heap.size = w.heap.size + 2 := by
  have hb0 : Blw w ((w.alloc (.cells #[.int .i64 0, .slice none 0 0, .slice none 0 0] 25)).alloc (.cells #[.slice ao n cc, .int .i64 0, .int .u64 0] 66)) := ((Blw.refl _).alloc _).alloc _
  refine ⟨hb0, ⟨ao, n, cc, 0, f, 0, ?_, h.blw hb0, Nat.le_refl _, fun b hb => by omega⟩, (box3 w _ _ _ 25).blw ((Blw.refl _).alloc _), by simp⟩
  have := box3 (w.alloc (.cells #[.int .i64 0, .slice none 0 0, .slice none 0 0] 25)) (.slice ao n cc) (.int .i64 0) (.int .u64 0) 66
  rw [World.size_alloc] at this
  exact this
/-- A wheel that was drawn, the cursor at w's size and one. -/
structure Dr (w wr : World) (k : Nat) (b : WV) (D : WD) : Prop where
  blw : Blw w wr
  cur : Cur (fun x => x < w.heap.size) wr (w.heap.size + 1) k
  out : Row wr w.heap.size 3 (t3 (.int .i64 0) (.slice none 0 0) (.slice none 0 0))
  own : WOwn (fun x => w.heap.size + 1 < x ∧ x < wr.heap.size) wr b D
  wf : D.wf
  small : D.small
theorem Dr.go {w wr w1 : World} {k k' : Nat} {b : WV} {D : WD} (h : Dr w wr k b D) (hc : Cur (fun x => x < w.heap.size) w1 (w.heap.size + 1) k') (hm : Mod (fun b => b = w.heap.size + 1) wr w1) : Dr w w1 k' b D := by
  have hs := hm.size
  exact ⟨Mod.blw h.blw hm (fun i hi => by omega), hc, h.out.mod hm (by omega), (h.own.mod hm (fun x hx e => by omega)).mono (fun x hx => by omega), h.wf, h.small⟩
theorem Dr.step {w wr w1 : World} {k : Nat} {b : WV} {D : WD} (h : Dr w wr k b D) (hb : Blw wr w1) : Dr w w1 k b D := by
  have hs := hb.size
  exact ⟨h.blw.trans hb, h.cur.blw hb, h.out.blw hb, (h.own.blw hb).mono (fun x hx => by omega), h.wf, h.small⟩
def DrawnW (w w' : World) (b : WV) (D : WD) : Prop := WOwn (fun x => w.heap.size < x ∧ x < w'.heap.size) w' b D ∧ D.wf ∧ D.small ∧ Blw w w'
theorem Dr.fin {w wr : World} {k : Nat} {b : WV} {D : WD} (h : Dr w wr k b D) : DrawnW w (wput wr w.heap.size b D) b D := by
  have ms := wput_mod wr w.heap.size b D
  have hs := ms.size
  exact ⟨(h.own.mod ms (fun x hx e => by omega)).mono (fun x hx => ⟨by omega, Nat.lt_of_lt_of_le hx.2 hs⟩), h.wf, h.small, Mod.blw h.blw ms (fun i hi => by omega)⟩
theorem Dr.of {w wr : World} {k : Nat} {b : WV} {D : WD} {w2 : World} (hb0 : Blw w w2) (rR : Row w2 w.heap.size 3 (t3 (.int .i64 0) (.slice none 0 0) (.slice none 0 0))) (sz : w2.heap.size = w.heap.size + 2) (h : Drawn (fun x => x < w.heap.size) w2 wr (w.heap.size + 1) k b D) : Dr w wr k b D := by
  obtain ⟨own, wf, sm, cur, hm⟩ := h
  exact ⟨Mod.blw hb0 hm (fun i hi => by omega), cur, rR.mod hm (by omega), own.mono (fun x hx => by omega), wf, sm⟩
set_option maxHeartbeats 3200000 in
theorem drawGoodWheel_any (ao : Option Addr) (n cc : Nat) (f : Nat → Int) (w : World) (h : BytesAt (fun b => b < w.heap.size) w ao n f) :
    Calls Try.prog 59 #[.slice ao n cc] w fun e w' => ∃ (b : WV) (D : WD), e = .returned (b.val D) ∧ DrawnW w w' b D := by
  obtain ⟨hb0, c0, rR, sz⟩ := draw_start w ao n cc f h
  clear h
  go_enter Try.func59, Try.ntmps59
  go_wp2_with fail
  refine (wheel_any _ (w.heap.size + 1) 0 _ (by omega) (fun b hb => by rw [sz]; omega) c0).mono ?_
  rintro e w1 ⟨b, D, rfl, hdr⟩
  have HD : Hid (Dr w w1 (0 + 400) b D) := Dr.of hb0 rR sz hdr
  clear hb0 c0 rR sz hdr
  obtain ⟨t0, t1, t2⟩ := get3 HD.out.out
  have f0 := HD.out.out.frozen 0
  have f1 := HD.out.out.frozen 1
  have f2 := HD.out.out.frozen 2
  have FIN : Hid (DrawnW w (wput w1 w.heap.size b D) b D) := HD.out.fin
  have r9 := wput_row HD.out.out b D
  obtain ⟨u0, u1, u2⟩ := get3 r9
  clear HD r9
  go_wp2
  exact bodyPost_ret (v := b.val D) (by simp [results, Try.results59, go_sem, t0, t1, t2, WV.val]) rfl ⟨b, D, rfl, FIN.out⟩
set_option maxHeartbeats 3200000 in
theorem drawRunWheel_any (ao : Option Addr) (n cc : Nat) (f : Nat → Int) (w : World) (h : BytesAt (fun b => b < w.heap.size) w ao n f) :
    Calls Try.prog 12 #[.slice ao n cc] w fun e w' => ∃ (b : WV) (D : WD) (y0 : Int), e = .returned (.tuple #[b.val D, .int .i64 y0]) ∧ DrawnW w w' b D := by
  obtain ⟨hb0, c0, rR, sz⟩ := draw_start w ao n cc f h
  clear h
  go_enter Try.func12, Try.ntmps12
  go_wp2_with fail
  refine (wheel_any _ (w.heap.size + 1) 0 _ (by omega) (fun b hb => by rw [sz]; omega) c0).mono ?_
  rintro e w1 ⟨b, D, rfl, hdr⟩
  have HD : Hid (Dr w w1 (0 + 400) b D) := Dr.of hb0 rR sz hdr
  clear hb0 c0 rR sz hdr
  have HI : Hid (IntsAt (fun b => b = w1.heap.size) (w1.alloc (.cells #[.int .i64 (-1), .int .i64 0, .int .i64 1, .int .i64 8, .int .i64 30, .int .i64 70, .int .i64 100, .int .i64 101] 3)) (some ⟨w1.heap.size, 0, none⟩) 8 (fun i => [-1, 0, 1, 8, 30, 70, 100, 101].getD i 0)) := ints_lit w1 [-1, 0, 1, 8, 30, 70, 100, 101] (by simp)
  have HCW : Hid (w.heap.size + 1 < w1.heap.size) := HD.out.cur.lt
  replace HD : Hid (Dr w (w1.alloc (.cells #[.int .i64 (-1), .int .i64 0, .int .i64 1, .int .i64 8, .int .i64 30, .int .i64 70, .int .i64 100, .int .i64 101] 3)) (0 + 400) b D) := HD.out.step ((Blw.refl _).alloc _)
  go_wp2_with fail
  refine (among_any _ _ (w.heap.size + 1) _ _ 8 8 _ _ (by omega) (by omega) HI.out (fun b hb => by have h5 := HCW.out; have h6 : b = w1.heap.size := hb; omega) HD.out.cur).mono ?_
  rintro e v0 ⟨x0, rfl, hc, hm⟩
  replace HD : Hid (Dr w v0 (0 + 400 + 2) b D) := HD.out.go hc hm
  clear hc hm HI HCW
  obtain ⟨t0, t1, t2⟩ := get3 HD.out.out
  have f0 := HD.out.out.frozen 0
  have f1 := HD.out.out.frozen 1
  have f2 := HD.out.out.frozen 2
  have FIN : Hid (DrawnW w (wput v0 w.heap.size b D) b D) := HD.out.fin
  have r9 := wput_row HD.out.out b D
  obtain ⟨u0, u1, u2⟩ := get3 r9
  clear HD r9
  go_wp2
  exact bodyPost_ret (v := .tuple #[b.val D, .int .i64 x0]) (by simp [results, Try.results12, go_sem, t0, t1, t2, WV.val]) rfl ⟨b, D, _, rfl, FIN.out⟩
set_option maxHeartbeats 3200000 in
theorem drawSetTimer_any (ao : Option Addr) (n cc : Nat) (f : Nat → Int) (w : World) (h : BytesAt (fun b => b < w.heap.size) w ao n f) :
    Calls Try.prog 24 #[.slice ao n cc] w fun e w' => ∃ (b : WV) (D : WD) (y0 y1 : Int), e = .returned (.tuple #[b.val D, .int .i64 y0, .int .i64 y1]) ∧ DrawnW w w' b D := by
  obtain ⟨hb0, c0, rR, sz⟩ := draw_start w ao n cc f h
  clear h
  go_enter Try.func24, Try.ntmps24
  go_wp2_with fail
  refine (wheel_any _ (w.heap.size + 1) 0 _ (by omega) (fun b hb => by rw [sz]; omega) c0).mono ?_
  rintro e w1 ⟨b, D, rfl, hdr⟩
  have HD : Hid (Dr w w1 (0 + 400) b D) := Dr.of hb0 rR sz hdr
  clear hb0 c0 rR sz hdr
  have HI : Hid (IntsAt (fun b => b = w1.heap.size) (w1.alloc (.cells #[.int .i64 0, .int .i64 1, .int .i64 5, .int .i64 30, .int .i64 99, .int .i64 100] 3)) (some ⟨w1.heap.size, 0, none⟩) 6 (fun i => [0, 1, 5, 30, 99, 100].getD i 0)) := ints_lit w1 [0, 1, 5, 30, 99, 100] (by simp)
  have HCW : Hid (w.heap.size + 1 < w1.heap.size) := HD.out.cur.lt
  replace HD : Hid (Dr w (w1.alloc (.cells #[.int .i64 0, .int .i64 1, .int .i64 5, .int .i64 30, .int .i64 99, .int .i64 100] 3)) (0 + 400) b D) := HD.out.step ((Blw.refl _).alloc _)
  go_wp2_with fail
  refine (among_any _ _ (w.heap.size + 1) _ _ 6 6 _ _ (by omega) (by omega) HI.out (fun b hb => by have h5 := HCW.out; have h6 : b = w1.heap.size := hb; omega) HD.out.cur).mono ?_
  rintro e v0 ⟨x0, rfl, hc, hm⟩
  replace HD : Hid (Dr w v0 (0 + 400 + 2) b D) := HD.out.go hc hm
  clear hc hm HI HCW
  have HI : Hid (IntsAt (fun b => b = v0.heap.size) (v0.alloc (.cells #[.int .i64 0, .int .i64 1, .int .i64 8, .int .i64 55, .int .i64 56] 3)) (some ⟨v0.heap.size, 0, none⟩) 5 (fun i => [0, 1, 8, 55, 56].getD i 0)) := ints_lit v0 [0, 1, 8, 55, 56] (by simp)
  have HCW : Hid (w.heap.size + 1 < v0.heap.size) := HD.out.cur.lt
  replace HD : Hid (Dr w (v0.alloc (.cells #[.int .i64 0, .int .i64 1, .int .i64 8, .int .i64 55, .int .i64 56] 3)) (0 + 400 + 2) b D) := HD.out.step ((Blw.refl _).alloc _)
  go_wp2_with fail
  refine (among_any _ _ (w.heap.size + 1) _ _ 5 5 _ _ (by omega) (by omega) HI.out (fun b hb => by have h5 := HCW.out; have h6 : b = v0.heap.size := hb; omega) HD.out.cur).mono ?_
  rintro e v1 ⟨x1, rfl, hc, hm⟩
  replace HD : Hid (Dr w v1 (0 + 400 + 2 + 2) b D) := HD.out.go hc hm
  clear hc hm HI HCW
  obtain ⟨t0, t1, t2⟩ := get3 HD.out.out
  have f0 := HD.out.out.frozen 0
  have f1 := HD.out.out.frozen 1
  have f2 := HD.out.out.frozen 2
  have FIN : Hid (DrawnW w (wput v1 w.heap.size b D) b D) := HD.out.fin
  have r9 := wput_row HD.out.out b D
  obtain ⟨u0, u1, u2⟩ := get3 r9
  clear HD r9
  go_wp2
  exact bodyPost_ret (v := .tuple #[b.val D, .int .i64 x0, .int .i64 x1]) (by simp [results, Try.results24, go_sem, t0, t1, t2, WV.val]) rfl ⟨b, D, _, _, rfl, FIN.out⟩
set_option maxHeartbeats 3200000 in
theorem drawDropTimer_any (ao : Option Addr) (n cc : Nat) (f : Nat → Int) (w : World) (h : BytesAt (fun b => b < w.heap.size) w ao n f) :
    Calls Try.prog 29 #[.slice ao n cc] w fun e w' => ∃ (b : WV) (D : WD) (y0 : Int), e = .returned (.tuple #[b.val D, .int .i64 y0]) ∧ DrawnW w w' b D := by
  obtain ⟨hb0, c0, rR, sz⟩ := draw_start w ao n cc f h
  clear h
  go_enter Try.func29, Try.ntmps29
  go_wp2_with fail
  refine (wheel_any _ (w.heap.size + 1) 0 _ (by omega) (fun b hb => by rw [sz]; omega) c0).mono ?_
  rintro e w1 ⟨b, D, rfl, hdr⟩
  have HD : Hid (Dr w w1 (0 + 400) b D) := Dr.of hb0 rR sz hdr
  clear hb0 c0 rR sz hdr
  go_wp2_with fail
  refine (pick_any _ (w.heap.size + 1) _ 22 _ (by omega) (by omega) HD.out.cur).mono ?_
  rintro e v0 ⟨x0, rfl, hx0, hc, hm⟩
  replace HD : Hid (Dr w v0 (0 + 400 + 2) b D) := HD.out.go hc hm
  clear hc hm
  obtain ⟨t0, t1, t2⟩ := get3 HD.out.out
  have f0 := HD.out.out.frozen 0
  have f1 := HD.out.out.frozen 1
  have f2 := HD.out.out.frozen 2
  have FIN : Hid (DrawnW w (wput v0 w.heap.size b D) b D) := HD.out.fin
  have r9 := wput_row HD.out.out b D
  obtain ⟨u0, u1, u2⟩ := get3 r9
  clear HD r9
  go_wp2
  exact bodyPost_ret (v := .tuple #[b.val D, .int .i64 (x0 : Int)]) (by simp [results, Try.results29, go_sem, t0, t1, t2, WV.val]) rfl ⟨b, D, _, rfl, FIN.out⟩
set_option maxHeartbeats 3200000 in
theorem drawTickWheel_any (ao : Option Addr) (n cc : Nat) (f : Nat → Int) (w : World) (h : BytesAt (fun b => b < w.heap.size) w ao n f) :
    Calls Try.prog 21 #[.slice ao n cc] w fun e w' => ∃ (b : WV) (D : WD), e = .returned (b.val D) ∧ DrawnW w w' b D := by
  have hb0 : Blw w (w.alloc (.cells #[.int .i64 0, .slice none 0 0, .slice none 0 0] 25)) := (Blw.refl _).alloc _
  have rR := box3 w (.int .i64 0) (.slice none 0 0) (.slice none 0 0) 25
  have HH : Hid (BytesAt (fun b => b < (w.alloc (.cells #[.int .i64 0, .slice none 0 0, .slice none 0 0] 25)).heap.size) (w.alloc (.cells #[.int .i64 0, .slice none 0 0, .slice none 0 0] 25)) ao n f) := bytes_more h hb0
  clear h
  go_enter Try.func21, Try.ntmps21
  go_wp2_with fail
  refine (drawGoodWheel_any ao n cc f _ HH.out).mono ?_
  rintro e w1 ⟨b, D, rfl, own, wf, sm, hb1⟩
  have sz : (w.alloc (.cells #[.int .i64 0, .slice none 0 0, .slice none 0 0] 25)).heap.size = w.heap.size + 1 := by simp
  have r1 := rR.blw hb1
  have ms := wput_mod w1 w.heap.size b D
  have hs2 := ms.size
  have FIN : Hid (DrawnW w (wput w1 w.heap.size b D) b D) := ⟨(own.mod ms (fun x hx e => by omega)).mono (fun x hx => ⟨by omega, Nat.lt_of_lt_of_le hx.2 hs2⟩), wf, sm, Mod.blw (hb0.trans hb1) ms (fun i hi => by omega)⟩
  obtain ⟨t0, t1, t2⟩ := get3 r1
  have f0 := r1.frozen 0
  have f1 := r1.frozen 1
  have f2 := r1.frozen 2
  have r9 := wput_row r1 b D
  obtain ⟨u0, u1, u2⟩ := get3 r9
  clear hb0 rR HH own wf sm hb1 sz r1 r9 ms hs2
  go_wp2
  exact bodyPost_ret (v := b.val D) (by simp [results, Try.results21, go_sem, t0, t1, t2, WV.val]) rfl ⟨b, D, rfl, FIN.out⟩
set_option maxHeartbeats 3200000 in
theorem drawNewWheel_any (ao : Option Addr) (n cc : Nat) (f : Nat → Int) (w : World) (h : BytesAt (fun b => b < w.heap.size) w ao n f) :
    Calls Try.prog 31 #[.slice ao n cc] w fun e w' => ∃ y : Int, e = .returned (.int .i64 y) ∧ Blw w w' := by
  have hb0 : Blw w (w.alloc (.cells #[.slice ao n cc, .int .i64 0, .int .u64 0] 66)) := (Blw.refl _).alloc _
  have hc : Cur (fun b => b < w.heap.size) (w.alloc (.cells #[.slice ao n cc, .int .i64 0, .int .u64 0] 66)) w.heap.size 0 := ⟨ao, n, cc, 0, f, 0, box3 w _ _ _ 66, h.blw hb0, Nat.le_refl _, fun b hb => by omega⟩
  have hb1 : Blw (w.alloc (.cells #[.slice ao n cc, .int .i64 0, .int .u64 0] 66)) ((w.alloc (.cells #[.slice ao n cc, .int .i64 0, .int .u64 0] 66)).alloc (.cells #[.int .i64 (-1), .int .i64 0, .int .i64 7, .int .i64 1000, .int .i64 1001] 3)) := (Blw.refl _).alloc _
  have HI : Hid (IntsAt (fun b => b = (w.alloc (.cells #[.slice ao n cc, .int .i64 0, .int .u64 0] 66)).heap.size) ((w.alloc (.cells #[.slice ao n cc, .int .i64 0, .int .u64 0] 66)).alloc (.cells #[.int .i64 (-1), .int .i64 0, .int .i64 7, .int .i64 1000, .int .i64 1001] 3)) (some ⟨(w.alloc (.cells #[.slice ao n cc, .int .i64 0, .int .u64 0] 66)).heap.size, 0, none⟩) 5 (fun i => [-1, 0, 7, 1000, 1001].getD i 0)) := ints_lit _ [-1, 0, 7, 1000, 1001] (by simp)
  have HC1 : Hid (Cur (fun b => b < w.heap.size) ((w.alloc (.cells #[.slice ao n cc, .int .i64 0, .int .u64 0] 66)).alloc (.cells #[.int .i64 (-1), .int .i64 0, .int .i64 7, .int .i64 1000, .int .i64 1001] 3)) w.heap.size 0) := hc.blw hb1
  have HB : Hid (Blw w ((w.alloc (.cells #[.slice ao n cc, .int .i64 0, .int .u64 0] 66)).alloc (.cells #[.int .i64 (-1), .int .i64 0, .int .i64 7, .int .i64 1000, .int .i64 1001] 3))) := hb0.trans hb1
  clear h hb0 hb1 hc
  have hsz : (w.alloc (.cells #[.slice ao n cc, .int .i64 0, .int .u64 0] 66)).heap.size = w.heap.size + 1 := World.size_alloc _ _
  rw [hsz] at HI
  go_enter Try.func31, Try.ntmps31
  go_wp2_with fail
  refine (among_any _ _ w.heap.size 0 _ 5 5 _ _ (by omega) (by omega) HI.out (fun b hb => by have h6 : b = w.heap.size + 1 := hb; omega) HC1.out).mono ?_
  rintro e w1 ⟨x, rfl, -, hm⟩
  have FIN : Hid (Blw w w1) := Mod.blw HB.out hm (fun i hi => by omega)
  clear hm HB HI HC1
  go_wp2
  go_ret
  exact ⟨_, rfl, FIN.out⟩
end Go.Proofs.Ytkmkidahaagbpaa
