/- What the laws on tables draw. -/
import Derived.Test.YtbnencabjechjaaTw
namespace Go.Proofs.Ytbnencabjechjaa
open Go.RowKit
set_option linter.unusedSimpArgs false
set_option linter.unusedVariables false
theorem bytes_more {w w' : World} {ao : Option Addr} {n : Nat} {f : Nat → Int} (h : BytesAt (fun b => b < w.heap.size) w ao n f) (hb : Blw w w') : BytesAt (fun b => b < w'.heap.size) w' ao n f :=
  ⟨h.1, fun i hi => let ⟨b, o, h1, hX, h2⟩ := (h.blw hb).2 i hi; ⟨b, o, h1, Nat.lt_of_lt_of_le hX hb.size, h2⟩⟩
theorem draw_start (w : World) (ao : Option Addr) (n cc : Nat) (f : Nat → Int) (h : BytesAt (fun b => b < w.heap.size) w ao n f) :
    Blw w ((w.alloc (.cells #[.slice none 0 0, .slice none 0 0] 26)).alloc (.cells #[.slice ao n cc, .int .i64 0, .int .u64 0] 67)) ∧ Cur (fun b => b < w.heap.size) ((w.alloc (.cells #[.slice none 0 0, .slice none 0 0] 26)).alloc (.cells #[.slice ao n cc, .int .i64 0, .int .u64 0] 67)) (w.heap.size + 1) 0 ∧ Row ((w.alloc (.cells #[.slice none 0 0, .slice none 0 0] 26)).alloc (.cells #[.slice ao n cc, .int .i64 0, .int .u64 0] 67)) w.heap.size 2 (fun i => if i = 0 then .slice none 0 0 else .slice none 0 0) ∧ ((w.alloc (.cells #[.slice none 0 0, .slice none 0 0] 26)).alloc (.cells #[.slice ao n cc, .int .i64 0, .int .u64 0] 67)).heap.size = w.heap.size + 2 := by
  have hb0 : Blw w ((w.alloc (.cells #[.slice none 0 0, .slice none 0 0] 26)).alloc (.cells #[.slice ao n cc, .int .i64 0, .int .u64 0] 67)) := ((Blw.refl _).alloc _).alloc _
  refine ⟨hb0, ⟨ao, n, cc, 0, f, 0, ?_, h.blw hb0, Nat.le_refl _, fun b hb => by omega⟩, (box2 w _ _ 26).blw ((Blw.refl _).alloc _), by simp⟩
  have := box3 (w.alloc (.cells #[.slice none 0 0, .slice none 0 0] 26)) (.slice ao n cc) (.int .i64 0) (.int .u64 0) 67
  rw [World.size_alloc] at this
  exact this
/-- A table that was drawn, the cursor at w's size and one. -/
structure Dr (w wr : World) (k : Nat) (b : BV) (B : BD) : Prop where
  blw : Blw w wr
  cur : Cur (fun x => x < w.heap.size) wr (w.heap.size + 1) k
  out : Row wr w.heap.size 2 (fun i => if i = 0 then .slice none 0 0 else .slice none 0 0)
  at_ : BookAt (fun x => w.heap.size + 1 < x ∧ x < wr.heap.size) wr b B
theorem Dr.go {w wr w1 : World} {k k' : Nat} {b : BV} {B : BD} (h : Dr w wr k b B) (hc : Cur (fun x => x < w.heap.size) w1 (w.heap.size + 1) k') (hm : Mod (fun b => b = w.heap.size + 1) wr w1) : Dr w w1 k' b B := by
  have hs := hm.size
  exact ⟨Mod.blw h.blw hm (fun i hi => by omega), hc, h.out.mod hm (by omega), (h.at_.mod hm (fun x hx e => by omega)).mono (fun x hx => by omega)⟩
theorem Dr.step {w wr w1 : World} {k : Nat} {b : BV} {B : BD} (h : Dr w wr k b B) (hb : Blw wr w1) : Dr w w1 k b B := by
  have hs := hb.size
  exact ⟨h.blw.trans hb, h.cur.blw hb, h.out.blw hb, (h.at_.blw hb).mono (fun x hx => by omega)⟩
abbrev bput (w wr : World) (b : BV) (B : BD) : World := (wr.setCell ⟨w.heap.size, 0, none⟩ (.slice b.a1 B.n b.c1)).setCell ⟨w.heap.size, 1, none⟩ (.slice b.a2 B.D.n b.c2)
def Drawn (w w' : World) (b : BV) (B : BD) : Prop := BookAt (fun x => w.heap.size < x ∧ x < w'.heap.size) w' b B ∧ Blw w w'
theorem Dr.fin {w wr : World} {k : Nat} {b : BV} {B : BD} (h : Dr w wr k b B) : Drawn w (bput w wr b B) b B := by
  have ms := set2_mod (X := fun x => x = w.heap.size) wr rfl (.slice b.a1 B.n b.c1) (.slice b.a2 B.D.n b.c2)
  have hs := ms.size
  exact ⟨(h.at_.mod ms (fun x hx e => by omega)).mono (fun x hx => ⟨by omega, Nat.lt_of_lt_of_le hx.2 hs⟩), Mod.blw h.blw ms (fun i hi => by omega)⟩
theorem five_ints (W : World) : IntsAt (fun b => b = W.heap.size) (W.alloc (.cells #[.int .i64 (-1), .int .i64 0, .int .i64 7, .int .i64 15, .int .i64 16] 3)) (some ⟨W.heap.size, 0, none⟩) 5 (fun i => if i = 0 then -1 else if i = 1 then 0 else if i = 2 then 7 else if i = 3 then 15 else 16) := by
  have r5 := row5 W (.int .i64 (-1)) (.int .i64 0) (.int .i64 7) (.int .i64 15) (.int .i64 16) 3
  refine ⟨by omega, fun i hi => ⟨W.heap.size, 0, rfl, rfl, ?_⟩⟩
  rw [Nat.zero_add, r5.cell hi]
  match i, hi with
  | 0, _ => rfl
  | 1, _ => rfl
  | 2, _ => rfl
  | 3, _ => rfl
  | 4, _ => rfl
set_option maxHeartbeats 3200000 in
theorem goodTable_any (ao : Option Addr) (n cc : Nat) (f : Nat → Int) (w : World) (h : BytesAt (fun b => b < w.heap.size) w ao n f) :
    Calls Try.prog 69 #[.slice ao n cc] w fun e w' => ∃ b B, e = .returned (b.val B) ∧ B.n = 4 ∧ Drawn w w' b B := by
  obtain ⟨hb0, c0, rR, sz⟩ := draw_start w ao n cc f h
  clear h
  go_enter Try.func69, Try.ntmps69
  go_wp2_with fail
  refine (table_any _ (w.heap.size + 1) 0 _ (by omega) (fun b hb => by omega) c0).mono ?_
  rintro e w1 ⟨b, c, kn, p, m, rfl, -, own, c1, m1⟩
  have HD : Hid (Dr w w1 (0 + 400) b (T4 c kn p m)) := ⟨Mod.blw hb0 m1 (fun i hi => by omega), c1, rR.mod m1 (by omega), own.at.mono (fun x hx => by omega)⟩
  clear hb0 c0 rR sz own c1 m1
  obtain ⟨t0, t1⟩ := get2 HD.out.out
  have f0 := HD.out.out.frozen 0
  have f1 := HD.out.out.frozen 1
  have FIN : Hid (Drawn w (bput w w1 b (T4 c kn p m)) b (T4 c kn p m)) := HD.out.fin
  clear HD
  go_wp2
  exact bodyPost_ret (v := b.val (T4 c kn p m)) (by simp [results, Try.results69, go_sem, t0, t1, BV.val]) rfl ⟨b, _, rfl, rfl, FIN.out⟩
set_option maxHeartbeats 3200000 in
theorem drawMap_any (ao : Option Addr) (n cc : Nat) (f : Nat → Int) (w : World) (h : BytesAt (fun b => b < w.heap.size) w ao n f) :
    Calls Try.prog 13 #[.slice ao n cc] w fun e w' => ∃ b B y0 y1 y2, e = .returned (.tuple #[b.val B, .int .i64 y0, .int .i64 y1, .int .i64 y2]) ∧ B.n = 4 ∧ Drawn w w' b B := by
  obtain ⟨hb0, c0, rR, sz⟩ := draw_start w ao n cc f h
  clear h
  go_enter Try.func13, Try.ntmps13
  go_wp2_with fail
  refine (table_any _ (w.heap.size + 1) 0 _ (by omega) (fun b hb => by omega) c0).mono ?_
  rintro e w1 ⟨b, c, kn, p, m, rfl, -, own, c1, m1⟩
  have HD : Hid (Dr w w1 (0 + 400) b (T4 c kn p m)) := ⟨Mod.blw hb0 m1 (fun i hi => by omega), c1, rR.mod m1 (by omega), own.at.mono (fun x hx => by omega)⟩
  clear hb0 c0 rR sz own c1 m1
  go_wp2_with fail
  refine (pick_any _ (w.heap.size + 1) _ 18 _ (by omega) (by omega) HD.out.cur).mono ?_
  rintro e v0 ⟨x0, rfl, hx0, hc, hm⟩
  replace HD : Hid (Dr w v0 (0 + 400 + 2) b (T4 c kn p m)) := HD.out.go hc hm
  clear hc hm
  have HF5 : Hid (IntsAt (fun b => b = v0.heap.size) (v0.alloc (.cells #[.int .i64 (-1), .int .i64 0, .int .i64 7, .int .i64 15, .int .i64 16] 3)) (some ⟨v0.heap.size, 0, none⟩) 5 (fun i => if i = 0 then -1 else if i = 1 then 0 else if i = 2 then 7 else if i = 3 then 15 else 16)) := five_ints v0
  have HCW : Hid (w.heap.size + 1 < v0.heap.size) := HD.out.cur.lt
  replace HD : Hid (Dr w (v0.alloc (.cells #[.int .i64 (-1), .int .i64 0, .int .i64 7, .int .i64 15, .int .i64 16] 3)) (0 + 400 + 2) b (T4 c kn p m)) := HD.out.step ((Blw.refl _).alloc _)
  go_wp2_with fail
  refine (among_any _ _ (w.heap.size + 1) _ _ 5 5 _ _ (by omega) (by omega) HF5.out (fun b hb => by have := HCW.out; omega) HD.out.cur).mono ?_
  rintro e v1 ⟨x1, rfl, hc, hm⟩
  replace HD : Hid (Dr w v1 (0 + 400 + 2 + 2) b (T4 c kn p m)) := HD.out.go hc hm
  clear hc hm HF5 HCW
  go_wp2_with fail
  refine (pick_any _ (w.heap.size + 1) _ 5 _ (by omega) (by omega) HD.out.cur).mono ?_
  rintro e v2 ⟨x2, rfl, hx2, hc, hm⟩
  replace HD : Hid (Dr w v2 (0 + 400 + 2 + 2 + 2) b (T4 c kn p m)) := HD.out.go hc hm
  clear hc hm
  obtain ⟨t0, t1⟩ := get2 HD.out.out
  have f0 := HD.out.out.frozen 0
  have f1 := HD.out.out.frozen 1
  have FIN : Hid (Drawn w (bput w v2 b (T4 c kn p m)) b (T4 c kn p m)) := HD.out.fin
  clear HD
  go_wp2
  exact bodyPost_ret (v := .tuple #[b.val (T4 c kn p m), .int .i64 ((x0 : Int) - 1), .int .i64 (x1), .int .i64 ((x2 : Int))]) (by simp [results, Try.results13, go_sem, t0, t1, BV.val]) rfl ⟨b, _, _, _, _, rfl, rfl, FIN.out⟩
set_option maxHeartbeats 3200000 in
theorem drawProt_any (ao : Option Addr) (n cc : Nat) (f : Nat → Int) (w : World) (h : BytesAt (fun b => b < w.heap.size) w ao n f) :
    Calls Try.prog 24 #[.slice ao n cc] w fun e w' => ∃ b B y0 y1, e = .returned (.tuple #[b.val B, .int .i64 y0, .int .i64 y1]) ∧ B.n = 4 ∧ Drawn w w' b B := by
  obtain ⟨hb0, c0, rR, sz⟩ := draw_start w ao n cc f h
  clear h
  go_enter Try.func24, Try.ntmps24
  go_wp2_with fail
  refine (table_any _ (w.heap.size + 1) 0 _ (by omega) (fun b hb => by omega) c0).mono ?_
  rintro e w1 ⟨b, c, kn, p, m, rfl, -, own, c1, m1⟩
  have HD : Hid (Dr w w1 (0 + 400) b (T4 c kn p m)) := ⟨Mod.blw hb0 m1 (fun i hi => by omega), c1, rR.mod m1 (by omega), own.at.mono (fun x hx => by omega)⟩
  clear hb0 c0 rR sz own c1 m1
  go_wp2_with fail
  refine (pick_any _ (w.heap.size + 1) _ 18 _ (by omega) (by omega) HD.out.cur).mono ?_
  rintro e v0 ⟨x0, rfl, hx0, hc, hm⟩
  replace HD : Hid (Dr w v0 (0 + 400 + 2) b (T4 c kn p m)) := HD.out.go hc hm
  clear hc hm
  go_wp2_with fail
  refine (pick_any _ (w.heap.size + 1) _ 5 _ (by omega) (by omega) HD.out.cur).mono ?_
  rintro e v1 ⟨x1, rfl, hx1, hc, hm⟩
  replace HD : Hid (Dr w v1 (0 + 400 + 2 + 2) b (T4 c kn p m)) := HD.out.go hc hm
  clear hc hm
  obtain ⟨t0, t1⟩ := get2 HD.out.out
  have f0 := HD.out.out.frozen 0
  have f1 := HD.out.out.frozen 1
  have FIN : Hid (Drawn w (bput w v1 b (T4 c kn p m)) b (T4 c kn p m)) := HD.out.fin
  clear HD
  go_wp2
  exact bodyPost_ret (v := .tuple #[b.val (T4 c kn p m), .int .i64 ((x0 : Int) - 1), .int .i64 ((x1 : Int))]) (by simp [results, Try.results24, go_sem, t0, t1, BV.val]) rfl ⟨b, _, _, _, rfl, rfl, FIN.out⟩
set_option maxHeartbeats 3200000 in
theorem drawUnmap_any (ao : Option Addr) (n cc : Nat) (f : Nat → Int) (w : World) (h : BytesAt (fun b => b < w.heap.size) w ao n f) :
    Calls Try.prog 27 #[.slice ao n cc] w fun e w' => ∃ b B y0, e = .returned (.tuple #[b.val B, .int .i64 y0]) ∧ B.n = 4 ∧ Drawn w w' b B := by
  obtain ⟨hb0, c0, rR, sz⟩ := draw_start w ao n cc f h
  clear h
  go_enter Try.func27, Try.ntmps27
  go_wp2_with fail
  refine (table_any _ (w.heap.size + 1) 0 _ (by omega) (fun b hb => by omega) c0).mono ?_
  rintro e w1 ⟨b, c, kn, p, m, rfl, -, own, c1, m1⟩
  have HD : Hid (Dr w w1 (0 + 400) b (T4 c kn p m)) := ⟨Mod.blw hb0 m1 (fun i hi => by omega), c1, rR.mod m1 (by omega), own.at.mono (fun x hx => by omega)⟩
  clear hb0 c0 rR sz own c1 m1
  go_wp2_with fail
  refine (pick_any _ (w.heap.size + 1) _ 18 _ (by omega) (by omega) HD.out.cur).mono ?_
  rintro e v0 ⟨x0, rfl, hx0, hc, hm⟩
  replace HD : Hid (Dr w v0 (0 + 400 + 2) b (T4 c kn p m)) := HD.out.go hc hm
  clear hc hm
  obtain ⟨t0, t1⟩ := get2 HD.out.out
  have f0 := HD.out.out.frozen 0
  have f1 := HD.out.out.frozen 1
  have FIN : Hid (Drawn w (bput w v0 b (T4 c kn p m)) b (T4 c kn p m)) := HD.out.fin
  clear HD
  go_wp2
  exact bodyPost_ret (v := .tuple #[b.val (T4 c kn p m), .int .i64 ((x0 : Int) - 1)]) (by simp [results, Try.results27, go_sem, t0, t1, BV.val]) rfl ⟨b, _, _, rfl, rfl, FIN.out⟩
set_option maxHeartbeats 3200000 in
theorem drawWalk_any (ao : Option Addr) (n cc : Nat) (f : Nat → Int) (w : World) (h : BytesAt (fun b => b < w.heap.size) w ao n f) :
    Calls Try.prog 22 #[.slice ao n cc] w fun e w' => ∃ b B y0 y1, e = .returned (.tuple #[b.val B, .int .i64 y0, .int .i64 y1]) ∧ B.n = 4 ∧ Drawn w w' b B := by
  have hb0 : Blw w (w.alloc (.cells #[.slice none 0 0, .slice none 0 0] 26)) := (Blw.refl _).alloc _
  have rR := box2 w (.slice none 0 0) (.slice none 0 0) 26
  have HH : Hid (BytesAt (fun b => b < (w.alloc (.cells #[.slice none 0 0, .slice none 0 0] 26)).heap.size) (w.alloc (.cells #[.slice none 0 0, .slice none 0 0] 26)) ao n f) := bytes_more h hb0
  clear h
  go_enter Try.func22, Try.ntmps22
  go_wp2_with fail
  refine (drawProt_any ao n cc f _ HH.out).mono ?_
  rintro e w1 ⟨b, B, y0, y1, rfl, h4, hat, hb1⟩
  have sz : (w.alloc (.cells #[.slice none 0 0, .slice none 0 0] 26)).heap.size = w.heap.size + 1 := by simp
  have r1 := rR.blw hb1
  have ms := set2_mod (X := fun x => x = w.heap.size) w1 rfl (.slice b.a1 B.n b.c1) (.slice b.a2 B.D.n b.c2)
  have hs2 := ms.size
  have FIN : Hid (Drawn w (bput w w1 b B) b B) := ⟨(hat.mod ms (fun x hx e => by omega)).mono (fun x hx => ⟨by omega, Nat.lt_of_lt_of_le hx.2 hs2⟩), Mod.blw (hb0.trans hb1) ms (fun i hi => by omega)⟩
  have H4 : Hid (B.n = 4) := h4
  obtain ⟨t0, t1⟩ := get2 r1
  have f0 := r1.frozen 0
  have f1 := r1.frozen 1
  clear hb0 rR HH hat hb1 sz r1 ms hs2 h4
  go_wp2
  exact bodyPost_ret (v := .tuple #[b.val B, .int .i64 y0, .int .i64 y1]) (by simp [results, Try.results22, go_sem, t0, t1, BV.val]) rfl ⟨b, B, _, _, rfl, H4.out, FIN.out⟩
set_option maxHeartbeats 3200000 in
theorem drawMapped_any (ao : Option Addr) (n cc : Nat) (f : Nat → Int) (w : World) (h : BytesAt (fun b => b < w.heap.size) w ao n f) :
    Calls Try.prog 31 #[.slice ao n cc] w fun e w' => ∃ b B, e = .returned (b.val B) ∧ B.n = 4 ∧ Drawn w w' b B := by
  have hb0 : Blw w (w.alloc (.cells #[.slice none 0 0, .slice none 0 0] 26)) := (Blw.refl _).alloc _
  have rR := box2 w (.slice none 0 0) (.slice none 0 0) 26
  have HH : Hid (BytesAt (fun b => b < (w.alloc (.cells #[.slice none 0 0, .slice none 0 0] 26)).heap.size) (w.alloc (.cells #[.slice none 0 0, .slice none 0 0] 26)) ao n f) := bytes_more h hb0
  clear h
  go_enter Try.func31, Try.ntmps31
  go_wp2_with fail
  refine (goodTable_any ao n cc f _ HH.out).mono ?_
  rintro e w1 ⟨b, B, rfl, h4, hat, hb1⟩
  have sz : (w.alloc (.cells #[.slice none 0 0, .slice none 0 0] 26)).heap.size = w.heap.size + 1 := by simp
  have r1 := rR.blw hb1
  have ms := set2_mod (X := fun x => x = w.heap.size) w1 rfl (.slice b.a1 B.n b.c1) (.slice b.a2 B.D.n b.c2)
  have hs2 := ms.size
  have FIN : Hid (Drawn w (bput w w1 b B) b B) := ⟨(hat.mod ms (fun x hx e => by omega)).mono (fun x hx => ⟨by omega, Nat.lt_of_lt_of_le hx.2 hs2⟩), Mod.blw (hb0.trans hb1) ms (fun i hi => by omega)⟩
  have H4 : Hid (B.n = 4) := h4
  obtain ⟨t0, t1⟩ := get2 r1
  have f0 := r1.frozen 0
  have f1 := r1.frozen 1
  clear hb0 rR HH hat hb1 sz r1 ms hs2 h4
  go_wp2
  exact bodyPost_ret (v := b.val B) (by simp [results, Try.results31, go_sem, t0, t1, BV.val]) rfl ⟨b, B, rfl, H4.out, FIN.out⟩
set_option maxHeartbeats 3200000 in
theorem drawUsed_any (ao : Option Addr) (n cc : Nat) (f : Nat → Int) (w : World) (h : BytesAt (fun b => b < w.heap.size) w ao n f) :
    Calls Try.prog 33 #[.slice ao n cc] w fun e w' => ∃ b B, e = .returned (b.val B) ∧ B.n = 4 ∧ Drawn w w' b B := by
  have hb0 : Blw w (w.alloc (.cells #[.slice none 0 0, .slice none 0 0] 26)) := (Blw.refl _).alloc _
  have rR := box2 w (.slice none 0 0) (.slice none 0 0) 26
  have HH : Hid (BytesAt (fun b => b < (w.alloc (.cells #[.slice none 0 0, .slice none 0 0] 26)).heap.size) (w.alloc (.cells #[.slice none 0 0, .slice none 0 0] 26)) ao n f) := bytes_more h hb0
  clear h
  go_enter Try.func33, Try.ntmps33
  go_wp2_with fail
  refine (goodTable_any ao n cc f _ HH.out).mono ?_
  rintro e w1 ⟨b, B, rfl, h4, hat, hb1⟩
  have sz : (w.alloc (.cells #[.slice none 0 0, .slice none 0 0] 26)).heap.size = w.heap.size + 1 := by simp
  have r1 := rR.blw hb1
  have ms := set2_mod (X := fun x => x = w.heap.size) w1 rfl (.slice b.a1 B.n b.c1) (.slice b.a2 B.D.n b.c2)
  have hs2 := ms.size
  have FIN : Hid (Drawn w (bput w w1 b B) b B) := ⟨(hat.mod ms (fun x hx e => by omega)).mono (fun x hx => ⟨by omega, Nat.lt_of_lt_of_le hx.2 hs2⟩), Mod.blw (hb0.trans hb1) ms (fun i hi => by omega)⟩
  have H4 : Hid (B.n = 4) := h4
  obtain ⟨t0, t1⟩ := get2 r1
  have f0 := r1.frozen 0
  have f1 := r1.frozen 1
  clear hb0 rR HH hat hb1 sz r1 ms hs2 h4
  go_wp2
  exact bodyPost_ret (v := b.val B) (by simp [results, Try.results33, go_sem, t0, t1, BV.val]) rfl ⟨b, B, rfl, H4.out, FIN.out⟩
set_option maxHeartbeats 3200000 in
theorem drawNew_any (ao : Option Addr) (n cc : Nat) (f : Nat → Int) (w : World) (h : BytesAt (fun b => b < w.heap.size) w ao n f) :
    Calls Try.prog 36 #[.slice ao n cc] w fun e w' => ∃ y : Int, e = .returned (.int .i64 y) ∧ Blw w w' := by
  have hb0 : Blw w (w.alloc (.cells #[.slice ao n cc, .int .i64 0, .int .u64 0] 67)) := (Blw.refl _).alloc _
  have hc : Cur (fun b => b < w.heap.size) (w.alloc (.cells #[.slice ao n cc, .int .i64 0, .int .u64 0] 67)) w.heap.size 0 := ⟨ao, n, cc, 0, f, 0, box3 w _ _ _ 67, h.blw hb0, Nat.le_refl _, fun b hb => by omega⟩
  clear h
  go_enter Try.func36, Try.ntmps36
  go_wp2_with fail
  refine (pick_any _ w.heap.size 0 7 _ (by omega) (by omega) hc).mono ?_
  rintro e w1 ⟨x, rfl, hx, -, hm⟩
  have FIN : Hid (Blw w w1) := Mod.blw hb0 hm (fun i hi => by omega)
  clear hm hb0 hc
  go_wp2
  go_ret
  exact ⟨_, rfl, FIN.out⟩
end Go.Proofs.Ytbnencabjechjaa
