/- What the laws on books draw. -/
import Derived.Test.YtagjfkkjmgfoiaaDrawB
namespace Go.Proofs.Ytagjfkkjmgfoiaa
open Go.RowKit
set_option linter.unusedSimpArgs false
set_option linter.unusedVariables false
theorem bytes_more {w w' : World} {ao : Option Addr} {n : Nat} {f : Nat → Int} (h : BytesAt (fun b => b < w.heap.size) w ao n f) (hb : Blw w w') : BytesAt (fun b => b < w'.heap.size) w' ao n f :=
  ⟨h.1, fun i hi => let ⟨b, o, h1, hX, h2⟩ := (h.blw hb).2 i hi; ⟨b, o, h1, Nat.lt_of_lt_of_le hX hb.size, h2⟩⟩
theorem draw_start (w : World) (ao : Option Addr) (n cc : Nat) (f : Nat → Int) (h : BytesAt (fun b => b < w.heap.size) w ao n f) :
    Blw w ((w.alloc (.cells z2 26)).alloc (.cells #[.slice ao n cc, .int .i64 0, .int .u64 0] 64)) ∧ Cur (fun b => b < w.heap.size) ((w.alloc (.cells z2 26)).alloc (.cells #[.slice ao n cc, .int .i64 0, .int .u64 0] 64)) (w.heap.size + 1) 0 ∧ Row ((w.alloc (.cells z2 26)).alloc (.cells #[.slice ao n cc, .int .i64 0, .int .u64 0] 64)) w.heap.size 2 (fun i => if i = 0 then .slice none 0 0 else .slice none 0 0) ∧ ((w.alloc (.cells z2 26)).alloc (.cells #[.slice ao n cc, .int .i64 0, .int .u64 0] 64)).heap.size = w.heap.size + 2 := by
  have hb0 : Blw w ((w.alloc (.cells z2 26)).alloc (.cells #[.slice ao n cc, .int .i64 0, .int .u64 0] 64)) := ((Blw.refl _).alloc _).alloc _
  refine ⟨hb0, ⟨ao, n, cc, 0, f, 0, ?_, h.blw hb0, Nat.le_refl _, fun b hb => by omega⟩, (box2 w _ _ 26).blw ((Blw.refl _).alloc _), by simp⟩
  have := box3 (w.alloc (.cells z2 26)) (.slice ao n cc) (.int .i64 0) (.int .u64 0) 64
  rw [World.size_alloc] at this
  exact this
abbrev bput (w wr : World) (b : BV) (S : BD) : World := (wr.setCell ⟨w.heap.size, 0, none⟩ (.slice b.a1 S.n b.c1)).setCell ⟨w.heap.size, 1, none⟩ (.slice b.a2 S.k b.c2)
theorem put_fin {w wr : World} {b : BV} {S : BD} (hb : Blw w wr) (hz : w.heap.size < wr.heap.size) (hat : BookAt (fun x => w.heap.size < x ∧ x < wr.heap.size) wr b S) :
    BookAt (fun x => x < (bput w wr b S).heap.size) (bput w wr b S) b S ∧ Blw w (bput w wr b S) := by
  have ms := set2_mod (X := fun x => x = w.heap.size) wr rfl (.slice b.a1 S.n b.c1) (.slice b.a2 S.k b.c2)
  have hs := ms.size
  exact ⟨(hat.mod ms (fun x hx e => by omega)).mono (fun x hx => by have := hx.2; show x < (bput w wr b S).heap.size; exact Nat.lt_of_lt_of_le this hs), Mod.blw hb ms (fun i hi => by omega)⟩
set_option maxHeartbeats 1600000 in
theorem goodBook_any (ao : Option Addr) (n cc : Nat) (f : Nat → Int) (w : World) (h : BytesAt (fun b => b < w.heap.size) w ao n f) :
    Calls Try.prog 69 #[.slice ao n cc] w fun e w' => ∃ b S, e = .returned (b.val S) ∧ S.n = 8 ∧ S.k ≤ 9 ∧ BookAt (fun x => w.heap.size < x ∧ x < w'.heap.size) w' b S ∧ Blw w w' := by
  obtain ⟨hb0, c0, rR, sz⟩ := draw_start w ao n cc f h
  clear h
  go_enter Try.func69, Try.ntmps69
  go_wp2_with fail
  refine (book_any _ (w.heap.size + 1) 0 _ (by omega) (fun b hb => by omega) c0).mono ?_
  rintro e w1 ⟨b, S, rfl, h8, h9, hat, c1, m1⟩
  have hs := m1.size
  have r1 := rR.mod m1 (by omega)
  have ms := set2_mod (X := fun x => x = w.heap.size) w1 rfl (.slice b.a1 S.n b.c1) (.slice b.a2 S.k b.c2)
  have hs2 := ms.size
  have FIN : Hid _ := And.intro h8 (And.intro h9 (And.intro ((hat.mod ms (fun x hx e => by omega)).mono (Y := fun x => w.heap.size < x ∧ x < (bput w w1 b S).heap.size) (fun x hx => ⟨by omega, Nat.lt_of_lt_of_le hx.2 hs2⟩)) (Mod.blw (Mod.blw hb0 m1 (fun i hi => by omega)) ms (fun i hi => by omega))))
  obtain ⟨t0, t1⟩ := get2 r1
  have f0 := r1.frozen 0
  have f1 := r1.frozen 1
  clear hb0 c0 rR sz hat c1 m1 hs r1 ms hs2 h8 h9
  go_wp2
  exact bodyPost_ret (v := b.val S) (by simp [results, Try.results69, go_sem, t0, t1, BV.val]) rfl ⟨b, S, rfl, FIN.out⟩
set_option maxHeartbeats 1600000 in
theorem drawRoll_any (ao : Option Addr) (n cc : Nat) (f : Nat → Int) (w : World) (h : BytesAt (fun b => b < w.heap.size) w ao n f) :
    Calls Try.prog 23 #[.slice ao n cc] w fun e w' => ∃ b S, e = .returned (b.val S) ∧ S.n = 8 ∧ S.k ≤ 9 ∧ BookAt (fun x => w.heap.size < x ∧ x < w'.heap.size) w' b S ∧ Blw w w' := by
  have hb0 : Blw w (w.alloc (.cells z2 26)) := (Blw.refl _).alloc _
  have rR := box2 w (.slice none 0 0) (.slice none 0 0) 26
  have HH : Hid (BytesAt (fun b => b < (w.alloc (.cells z2 26)).heap.size) (w.alloc (.cells z2 26)) ao n f) := bytes_more h hb0
  clear h
  go_enter Try.func23, Try.ntmps23
  go_wp2_with fail
  refine (goodBook_any ao n cc f _ HH.out).mono ?_
  rintro e w1 ⟨b, S, rfl, h8, h9, hat, hb1⟩
  have hs := hb1.size
  have sz : (w.alloc (.cells z2 26)).heap.size = w.heap.size + 1 := by simp
  have r1 := rR.blw hb1
  have ms := set2_mod (X := fun x => x = w.heap.size) w1 rfl (.slice b.a1 S.n b.c1) (.slice b.a2 S.k b.c2)
  have hs2 := ms.size
  have FIN : Hid _ := And.intro h8 (And.intro h9 (And.intro ((hat.mod ms (fun x hx e => by omega)).mono (Y := fun x => w.heap.size < x ∧ x < (bput w w1 b S).heap.size) (fun x hx => ⟨by omega, Nat.lt_of_lt_of_le hx.2 hs2⟩)) (Mod.blw (hb0.trans hb1) ms (fun i hi => by omega))))
  obtain ⟨t0, t1⟩ := get2 r1
  have f0 := r1.frozen 0
  have f1 := r1.frozen 1
  clear hb0 rR sz hat hb1 hs r1 ms hs2 h8 h9 HH
  go_wp2
  exact bodyPost_ret (v := b.val S) (by simp [results, Try.results23, go_sem, t0, t1, BV.val]) rfl ⟨b, S, rfl, FIN.out⟩
set_option maxHeartbeats 1600000 in
theorem drawEnd_any (ao : Option Addr) (n cc : Nat) (f : Nat → Int) (w : World) (h : BytesAt (fun b => b < w.heap.size) w ao n f) :
    Calls Try.prog 25 #[.slice ao n cc] w fun e w' => ∃ b S, e = .returned (b.val S) ∧ S.n = 8 ∧ S.k ≤ 9 ∧ BookAt (fun x => w.heap.size < x ∧ x < w'.heap.size) w' b S ∧ Blw w w' := by
  have hb0 : Blw w (w.alloc (.cells z2 26)) := (Blw.refl _).alloc _
  have rR := box2 w (.slice none 0 0) (.slice none 0 0) 26
  have HH : Hid (BytesAt (fun b => b < (w.alloc (.cells z2 26)).heap.size) (w.alloc (.cells z2 26)) ao n f) := bytes_more h hb0
  clear h
  go_enter Try.func25, Try.ntmps25
  go_wp2_with fail
  refine (goodBook_any ao n cc f _ HH.out).mono ?_
  rintro e w1 ⟨b, S, rfl, h8, h9, hat, hb1⟩
  have hs := hb1.size
  have sz : (w.alloc (.cells z2 26)).heap.size = w.heap.size + 1 := by simp
  have r1 := rR.blw hb1
  have ms := set2_mod (X := fun x => x = w.heap.size) w1 rfl (.slice b.a1 S.n b.c1) (.slice b.a2 S.k b.c2)
  have hs2 := ms.size
  have FIN : Hid _ := And.intro h8 (And.intro h9 (And.intro ((hat.mod ms (fun x hx e => by omega)).mono (Y := fun x => w.heap.size < x ∧ x < (bput w w1 b S).heap.size) (fun x hx => ⟨by omega, Nat.lt_of_lt_of_le hx.2 hs2⟩)) (Mod.blw (hb0.trans hb1) ms (fun i hi => by omega))))
  obtain ⟨t0, t1⟩ := get2 r1
  have f0 := r1.frozen 0
  have f1 := r1.frozen 1
  clear hb0 rR sz hat hb1 hs r1 ms hs2 h8 h9 HH
  go_wp2
  exact bodyPost_ret (v := b.val S) (by simp [results, Try.results25, go_sem, t0, t1, BV.val]) rfl ⟨b, S, rfl, FIN.out⟩
set_option maxHeartbeats 1600000 in
theorem drawBefore_any (ao : Option Addr) (n cc : Nat) (f : Nat → Int) (w : World) (h : BytesAt (fun b => b < w.heap.size) w ao n f) :
    Calls Try.prog 27 #[.slice ao n cc] w fun e w' => ∃ b S, e = .returned (b.val S) ∧ S.n = 8 ∧ S.k ≤ 9 ∧ BookAt (fun x => w.heap.size < x ∧ x < w'.heap.size) w' b S ∧ Blw w w' := by
  have hb0 : Blw w (w.alloc (.cells z2 26)) := (Blw.refl _).alloc _
  have rR := box2 w (.slice none 0 0) (.slice none 0 0) 26
  have HH : Hid (BytesAt (fun b => b < (w.alloc (.cells z2 26)).heap.size) (w.alloc (.cells z2 26)) ao n f) := bytes_more h hb0
  clear h
  go_enter Try.func27, Try.ntmps27
  go_wp2_with fail
  refine (goodBook_any ao n cc f _ HH.out).mono ?_
  rintro e w1 ⟨b, S, rfl, h8, h9, hat, hb1⟩
  have hs := hb1.size
  have sz : (w.alloc (.cells z2 26)).heap.size = w.heap.size + 1 := by simp
  have r1 := rR.blw hb1
  have ms := set2_mod (X := fun x => x = w.heap.size) w1 rfl (.slice b.a1 S.n b.c1) (.slice b.a2 S.k b.c2)
  have hs2 := ms.size
  have FIN : Hid _ := And.intro h8 (And.intro h9 (And.intro ((hat.mod ms (fun x hx e => by omega)).mono (Y := fun x => w.heap.size < x ∧ x < (bput w w1 b S).heap.size) (fun x hx => ⟨by omega, Nat.lt_of_lt_of_le hx.2 hs2⟩)) (Mod.blw (hb0.trans hb1) ms (fun i hi => by omega))))
  obtain ⟨t0, t1⟩ := get2 r1
  have f0 := r1.frozen 0
  have f1 := r1.frozen 1
  clear hb0 rR sz hat hb1 hs r1 ms hs2 h8 h9 HH
  go_wp2
  exact bodyPost_ret (v := b.val S) (by simp [results, Try.results27, go_sem, t0, t1, BV.val]) rfl ⟨b, S, rfl, FIN.out⟩
set_option maxHeartbeats 1600000 in
theorem drawTouch_any (ao : Option Addr) (n cc : Nat) (f : Nat → Int) (w : World) (h : BytesAt (fun b => b < w.heap.size) w ao n f) :
    Calls Try.prog 34 #[.slice ao n cc] w fun e w' => ∃ b S, e = .returned (b.val S) ∧ S.n = 8 ∧ S.k ≤ 9 ∧ BookAt (fun x => w.heap.size < x ∧ x < w'.heap.size) w' b S ∧ Blw w w' := by
  have hb0 : Blw w (w.alloc (.cells z2 26)) := (Blw.refl _).alloc _
  have rR := box2 w (.slice none 0 0) (.slice none 0 0) 26
  have HH : Hid (BytesAt (fun b => b < (w.alloc (.cells z2 26)).heap.size) (w.alloc (.cells z2 26)) ao n f) := bytes_more h hb0
  clear h
  go_enter Try.func34, Try.ntmps34
  go_wp2_with fail
  refine (goodBook_any ao n cc f _ HH.out).mono ?_
  rintro e w1 ⟨b, S, rfl, h8, h9, hat, hb1⟩
  have hs := hb1.size
  have sz : (w.alloc (.cells z2 26)).heap.size = w.heap.size + 1 := by simp
  have r1 := rR.blw hb1
  have ms := set2_mod (X := fun x => x = w.heap.size) w1 rfl (.slice b.a1 S.n b.c1) (.slice b.a2 S.k b.c2)
  have hs2 := ms.size
  have FIN : Hid _ := And.intro h8 (And.intro h9 (And.intro ((hat.mod ms (fun x hx e => by omega)).mono (Y := fun x => w.heap.size < x ∧ x < (bput w w1 b S).heap.size) (fun x hx => ⟨by omega, Nat.lt_of_lt_of_le hx.2 hs2⟩)) (Mod.blw (hb0.trans hb1) ms (fun i hi => by omega))))
  obtain ⟨t0, t1⟩ := get2 r1
  have f0 := r1.frozen 0
  have f1 := r1.frozen 1
  clear hb0 rR sz hat hb1 hs r1 ms hs2 h8 h9 HH
  go_wp2
  exact bodyPost_ret (v := b.val S) (by simp [results, Try.results34, go_sem, t0, t1, BV.val]) rfl ⟨b, S, rfl, FIN.out⟩
set_option maxHeartbeats 1600000 in
theorem drawNew_any (ao : Option Addr) (n cc : Nat) (f : Nat → Int) (w : World) (h : BytesAt (fun b => b < w.heap.size) w ao n f) :
    Calls Try.prog 36 #[.slice ao n cc] w fun e w' => ∃ a cap c, e = .returned (.slice a 8 cap) ∧ IntsAt (fun x => x < w'.heap.size) w' a 8 c ∧ Blw w w' := by
  have hb0 : Blw w (w.alloc (.cells #[.slice ao n cc, .int .i64 0, .int .u64 0] 64)) := (Blw.refl _).alloc _
  have c0 : Cur (fun b => b < w.heap.size) (w.alloc (.cells #[.slice ao n cc, .int .i64 0, .int .u64 0] 64)) w.heap.size 0 := ⟨ao, n, cc, 0, f, 0, box3 w _ _ _ 64, h.blw hb0, Nat.le_refl _, fun b hb => by omega⟩
  have sz : (w.alloc (.cells #[.slice ao n cc, .int .i64 0, .int .u64 0] 64)).heap.size = w.heap.size + 1 := by simp
  clear h
  go_enter Try.func36, Try.ntmps36
  go_wp2_with fail
  refine (cells_any _ w.heap.size 0 _ (by omega) (fun b hb => by omega) c0).mono ?_
  rintro e w1 ⟨v, rfl, hbl⟩
  obtain ⟨c, hbf⟩ := hbl.ex
  obtain ⟨a, cap, rfl, hio⟩ := BufI.own hbf (by omega)
  have FIN : Hid _ := And.intro (hio.at.mono (Y := fun x => x < w1.heap.size) (fun x hx => hx.2)) (Mod.blw hb0 hbl.mod (fun i hi => by omega))
  clear hbl hbf hio c0 sz hb0
  go_wp2
  exact bodyPost_ret (v := .slice a 8 cap) (by simp [results, Try.results36, go_sem]) rfl ⟨a, cap, c, rfl, FIN.out⟩
end Go.Proofs.Ytagjfkkjmgfoiaa
