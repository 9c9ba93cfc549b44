/- What DrawWriteCell and DrawWriteAll draw. -/
import Derived.Test.YtagjfkkjmgfoiaaDrawD
namespace Go.Proofs.Ytagjfkkjmgfoiaa
open Go.RowKit
set_option linter.unusedSimpArgs false
set_option linter.unusedVariables false
def five : Nat → Int := fun i => if i = 0 then -1 else if i = 1 then 0 else if i = 2 then 5 else if i = 3 then 65535 else 65536
theorem five_at (w : World) : IntsAt (fun x => x = w.heap.size) (w.alloc (.cells #[.int .i64 (-1), .int .i64 0, .int .i64 5, .int .i64 65535, .int .i64 65536] 3)) (some ⟨w.heap.size, 0, none⟩) 5 five :=
  ⟨by omega, fun i hi => ⟨_, 0, rfl, rfl, by
    have r : Row (w.alloc (.cells #[.int .i64 (-1), .int .i64 0, .int .i64 5, .int .i64 65535, .int .i64 65536] 3)) w.heap.size 5 (fun i => .int .i64 (five i)) := ⟨_, _, heap_alloc_new _ _, by simp, fun j hj => by
      match j, hj with
      | 0, _ => rfl
      | 1, _ => rfl
      | 2, _ => rfl
      | 3, _ => rfl
      | 4, _ => rfl⟩
    rw [Nat.zero_add]; exact r.cell hi⟩⟩
set_option maxHeartbeats 3200000 in
theorem drawWrite_any (ao : Option Addr) (n cc : Nat) (f : Nat → Int) (w : World) (h : BytesAt (fun b => b < w.heap.size) w ao n f) :
    Calls Try.prog 29 #[.slice ao n cc] w fun e w' => ∃ b S k x, e = .returned (.tuple #[b.val S, .int .i64 k, .int .i64 x]) ∧ S.n = 8 ∧ S.k ≤ 9 ∧ BookAt (fun x => w.heap.size < x ∧ x < w'.heap.size) w' b S ∧ Blw w w' := by
  obtain ⟨hb0, c0, rR, sz⟩ := draw_start w ao n cc f h
  clear h
  go_enter Try.func29, Try.ntmps29
  go_wp2_with fail
  refine (book_any _ (w.heap.size + 1) 0 _ (by omega) (fun b hb => by omega) c0).mono ?_
  rintro e w1 ⟨b, S, rfl, h8, h9, hat, c1, m1⟩
  have hs := m1.size
  have r1 := rR.mod m1 (by omega)
  have hb1 := Mod.blw hb0 m1 (fun i hi => by omega)
  have H8 : Hid (S.n = 8) := h8
  have H9 : Hid (S.k ≤ 9) := h9
  have hat1 := hat.mono (Y := fun x => w.heap.size + 1 < x ∧ x < w1.heap.size) (fun x hx => by omega)
  rw [sz] at hs
  clear hb0 c0 rR sz m1 h8 h9 hat
  have HC1 : Hid (Cur (fun b => b < w.heap.size) w1 (w.heap.size + 1) (0 + 400)) := c1
  have HR1 : Hid (Row w1 w.heap.size 2 (fun i => if i = 0 then .slice none 0 0 else .slice none 0 0)) := r1
  have HB1 : Hid (Blw w w1) := hb1
  have HA1 : Hid (BookAt (fun x => w.heap.size + 1 < x ∧ x < w1.heap.size) w1 b S) := hat1
  have HS : Hid (w.heap.size + 2 ≤ w1.heap.size) := hs
  clear c1 r1 hb1 hat1 hs
  go_wp2_with fail
  refine (pick_any _ (w.heap.size + 1) _ 10 _ (by omega) (by omega) HC1.out).mono ?_
  rintro e w2 ⟨x, rfl, hx, c2, m2⟩
  have hA : Blw w2 (w2.alloc (.cells #[.int .i64 (-1), .int .i64 0, .int .i64 5, .int .i64 65535, .int .i64 65536] 3)) := (Blw.refl _).alloc _
  have hs2 := m2.size
  have HC2 : Hid (Cur (fun b => b < w.heap.size) (w2.alloc (.cells #[.int .i64 (-1), .int .i64 0, .int .i64 5, .int .i64 65535, .int .i64 65536] 3)) (w.heap.size + 1) (0 + 400 + 2)) := c2.blw hA
  have HR2 : Hid (Row (w2.alloc (.cells #[.int .i64 (-1), .int .i64 0, .int .i64 5, .int .i64 65535, .int .i64 65536] 3)) w.heap.size 2 (fun i => if i = 0 then .slice none 0 0 else .slice none 0 0)) := (HR1.out.mod m2 (by omega)).blw hA
  have HB2 : Hid (Blw w (w2.alloc (.cells #[.int .i64 (-1), .int .i64 0, .int .i64 5, .int .i64 65535, .int .i64 65536] 3))) := (Mod.blw HB1.out m2 (fun i hi => by omega)).trans hA
  have HA2 : Hid (BookAt (fun x => w.heap.size + 1 < x ∧ x < w1.heap.size) (w2.alloc (.cells #[.int .i64 (-1), .int .i64 0, .int .i64 5, .int .i64 65535, .int .i64 65536] 3)) b S) := (HA1.out.mod m2 (fun x hx e => by omega)).blw hA
  have HS2 : Hid (w1.heap.size ≤ w2.heap.size) := hs2
  clear c2 m2 hA HC1 HR1 HB1 HA1 hs2
  go_wp2_with fail
  refine (among_any _ _ (w.heap.size + 1) _ _ 5 5 five _ (by omega) (by omega) (five_at w2) (fun b hb => by have := HS.out; have := HS2.out; omega) HC2.out).mono ?_
  rintro e w3 ⟨y, rfl, c3, m3⟩
  have hs3 := m3.size
  have sz2 : (w2.alloc (.cells #[.int .i64 (-1), .int .i64 0, .int .i64 5, .int .i64 65535, .int .i64 65536] 3)).heap.size = w2.heap.size + 1 := by simp
  have r3 := HR2.out.mod m3 (by omega)
  have hb3 := Mod.blw HB2.out m3 (fun i hi => by omega)
  have at3 := HA2.out.mod m3 (fun x hx e => by omega)
  have ms := set2_mod (X := fun x => x = w.heap.size) w3 rfl (.slice b.a1 S.n b.c1) (.slice b.a2 S.k b.c2)
  have hs4 := ms.size
  have FIN : Hid _ := And.intro H8.out (And.intro H9.out (And.intro ((at3.mod ms (fun x hx e => by omega)).mono (Y := fun x => w.heap.size < x ∧ x < (bput w w3 b S).heap.size) (fun x hx => ⟨by omega, Nat.lt_of_lt_of_le (by have := HS2.out; omega : x < w3.heap.size) hs4⟩)) (Mod.blw hb3 ms (fun i hi => by omega))))
  obtain ⟨t0, t1⟩ := get2 r3
  have f0 := r3.frozen 0
  have f1 := r3.frozen 1
  clear HC2 HR2 HB2 HA2 HS HS2 hs3 sz2 r3 hb3 at3 ms hs4 H8 H9 c3 m3
  go_wp2
  exact bodyPost_ret (v := .tuple #[b.val S, .int .i64 ((x : Int) - 1), .int .i64 y]) (by simp [results, Try.results29, go_sem, t0, t1, BV.val]) rfl ⟨b, S, _, _, rfl, FIN.out⟩
theorem pushU' {X : Nat → Prop} {W : World} {v : Value} {n : Nat} {f g : Nat → Int} (h : BufU X W v n f g) (hn : n ≤ 1048576) (x y : Int) :
    ∃ ao' cap w', (Builtin.append_ #[24, 24] 24 #[v, .slice (some ⟨W.heap.size, 0, none⟩) 1 1]).run Try.prog (W.alloc (.cells #[.int .i64 x, .int .i64 y] 69)) = .ok (.slice ao' (n + 1) cap) w' ∧ BufU (fun b => (X b ∨ W.heap.size < b) ∧ b < w'.heap.size) w' (.slice ao' (n + 1) cap) (n + 1) (snoc n f x) (snoc n g y) ∧ Mod (fun b => v.ownBlock = some b) W w' := by
  have ha : Blw W (W.alloc (.cells #[.int .i64 x, .int .i64 y] 69)) := (Blw.refl W).alloc _
  obtain ⟨a, cap, w', h1, h2, h3⟩ := BufU.append (w := (W.alloc (.cells #[.int .i64 x, .int .i64 y] 69))) (Buf.blw h ha) 1 (one_undo W x y) (by omega) 24
  refine ⟨a, cap, w', h1, (Buf.congr h2 (fun i hi => ?_)).mono (fun b hb => ⟨hb.1.imp id (fun e => ?_), hb.2⟩), (ha.mod _).trans h3⟩
  · by_cases e : i / 2 < n
    · have e2 : i / 2 ≠ n := by omega
      simp [uc, icat, snoc, e, e2]
    · have e2 : i / 2 = n := by omega
      simp [uc, icat, snoc, e2]
  · have : (W.alloc (.cells #[.int .i64 x, .int .i64 y] 69)).heap.size = W.heap.size + 1 := by simp
    omega
/-- A book that is drawn, in its box at zs, the cursor at w's size and one, and i pairs behind. -/
structure Dw (w wr : World) (k zs : Nat) (b : BV) (S : BD) (v : Value) (i : Nat) : Prop where
  blw : Blw w wr
  cur : Cur (fun x => x < w.heap.size) wr (w.heap.size + 1) k
  out : Row wr w.heap.size 2 (fun i => if i = 0 then .slice none 0 0 else .slice none 0 0)
  zl : w.heap.size + 1 < zs ∧ zs < wr.heap.size
  box : Row wr zs 2 (fun i => if i = 0 then .slice b.a1 S.n b.c1 else .slice b.a2 S.k b.c2)
  at_ : BookAt (fun x => w.heap.size + 1 < x ∧ x < zs) wr b S
  ex : ∃ f g, BufU (fun x => zs < x ∧ x < wr.heap.size) wr v i f g
theorem Dw.go {w wr w1 : World} {k k' zs : Nat} {b : BV} {S : BD} {v : Value} {i : Nat} (h : Dw w wr k zs b S v i) (hc : Cur (fun x => x < w.heap.size) w1 (w.heap.size + 1) k') (hm : Mod (fun b => b = w.heap.size + 1) wr w1) : Dw w w1 k' zs b S v i := by
  obtain ⟨f, g, hb⟩ := h.ex
  have hs := hm.size
  have hz := h.zl
  exact ⟨Mod.blw h.blw hm (fun i hi => by omega), hc, h.out.mod hm (by omega), by omega, h.box.mod hm (by omega), h.at_.mod hm (fun x hx e => by omega), f, g, (Buf.mod hb hm (fun b hb e => by omega)).mono (fun b hb => by omega)⟩
theorem Dw.push {w wr : World} {k zs : Nat} {b : BV} {S : BD} {v : Value} {i : Nat} (h : Dw w wr k zs b S v i) (hi : i ≤ 100) (x y : Int) :
    ∃ ao cap w', (Builtin.append_ #[24, 24] 24 #[v, .slice (some ⟨wr.heap.size, 0, none⟩) 1 1]).run Try.prog (wr.alloc (.cells #[.int .i64 x, .int .i64 y] 69)) = .ok (.slice ao (i + 1) cap) w' ∧ Dw w w' k zs b S (.slice ao (i + 1) cap) (i + 1) := by
  obtain ⟨f, g, hb⟩ := h.ex
  obtain ⟨ao, cap, w', hr, hB, hM⟩ := pushU' hb (by omega) x y
  have hx : ∀ b, v.ownBlock = some b → zs < b := fun b hh => (hb.2 b hh).1
  have hs := hM.size
  have hz := h.zl
  refine ⟨ao, cap, w', hr, Mod.blw h.blw hM (fun i hi => by have := hx i hi; omega), h.cur.mod hM (fun e => by have := hx _ e; omega) (fun b hb' e => by have := hx b e; omega), h.out.mod hM (fun e => by have := hx _ e; omega), by omega, h.box.mod hM (fun e => by have := hx _ e; omega), h.at_.mod hM (fun z hz e => by have := hx _ e; omega), _, _, hB.mono (fun b hb' => ⟨?_, hb'.2⟩)⟩
  rcases hb'.1 with h1 | h1
  · exact h1.1
  · omega
set_option maxRecDepth 10000 in
set_option maxHeartbeats 3200000 in
theorem drawAll_any (ao : Option Addr) (n cc : Nat) (f : Nat → Int) (w : World) (h : BytesAt (fun b => b < w.heap.size) w ao n f) :
    Calls Try.prog 13 #[.slice ao n cc] w fun e w' => ∃ b S a m cap f g, e = .returned (.tuple #[b.val S, .slice a m cap]) ∧ S.n = 8 ∧ S.k ≤ 9 ∧ m ≤ 21 ∧ BookAt (fun x => w.heap.size < x ∧ x < w'.heap.size) w' b S ∧ UndosAt (fun x => w.heap.size < x ∧ x < w'.heap.size) w' a m f g ∧ Blw w w' := by
  obtain ⟨hb0, c0, rR, sz⟩ := draw_start w ao n cc f h
  clear h
  go_enter Try.func13, Try.ntmps13
  go_wp2_with fail
  refine (book_any _ (w.heap.size + 1) 0 _ (by omega) (fun b hb => by omega) c0).mono ?_
  rintro e w1 ⟨b, S, rfl, h8, h9, hat, c1, m1⟩
  have hs := m1.size
  have r1 := rR.mod m1 (by omega)
  have hb1 := Mod.blw hb0 m1 (fun i hi => by omega)
  have H8 : Hid (S.n = 8) := h8
  have H9 : Hid (S.k ≤ 9) := h9
  have hA : Blw w1 (w1.alloc (.cells #[.slice b.a1 S.n b.c1, .slice b.a2 S.k b.c2] 26)) := (Blw.refl _).alloc _
  have HD0 : Hid (Dw w (w1.alloc (.cells #[.slice b.a1 S.n b.c1, .slice b.a2 S.k b.c2] 26)) 400 w1.heap.size b S (.slice none 0 0) 0) := ⟨hb1.trans hA, c1.blw hA, r1.blw hA, by rw [World.size_alloc]; omega, box2 w1 _ _ 26, (hat.mono (fun x hx => by omega)).blw hA, fun _ => 0, fun _ => 0, Buf.nil _ _ _ _ _⟩
  clear hs r1 hb1 hA h8 h9 hat c1 m1 hb0 c0 rR sz
  go_wp2_with fail
  generalize w1.heap.size = zs at HD0
  refine (pick_any _ (w.heap.size + 1) _ 9 _ (by omega) (by omega) HD0.out.cur).mono ?_
  rintro e w2 ⟨n9, rfl, hn9, c2, m2⟩
  have HD2 : Hid (Dw w w2 (400 + 2) zs b S (.slice none 0 0) 0) := HD0.out.go c2 m2
  clear c2 m2 HD0
  go_wp2_with fail
  refine (one_any _ (w.heap.size + 1) _ 20 _ (by omega) (by omega) HD2.out.cur).mono ?_
  rintro e w3 ⟨q, rfl, c3, m3⟩
  have HD : Hid (Dw w w3 (400 + 2 + 2) zs b S (.slice none 0 0) 0) := HD2.out.go c3 m3
  clear c3 m3 HD2
  cases q
  · go_wp2_with fail
    go_loopw [6, 7] (fun v i wr => ∃ j t : Nat, j + t ≤ 21 ∧ i = .int .i64 j ∧ Dw w wr (404 + 2 + 4 * t) zs b S v t) (fun _ i _ => (intOf i).toNat)
    case atStart => exact ⟨n9, 0, by omega, by go_num, ⟨HD.out.blw, HD.out.cur.le (by omega), HD.out.out, HD.out.zl, HD.out.box, HD.out.at_, HD.out.ex⟩⟩
    case round =>
      obtain ⟨j, t, hjt, rfl, hd⟩ := hrel
      clear HD
      have HD : Hid (Dw w wr (404 + 2 + 4 * t) zs b S u6 t) := hd
      clear hd
      by_cases hj : 0 < j
      · have hj' : (0 : Int) < j := by omega
        go_wp2_with fail
        refine (pick_any _ (w.heap.size + 1) _ 8 _ (by omega) (by omega) HD.out.cur).mono ?_
        rintro e w5 ⟨x, rfl, hx, c5, m5⟩
        have HD5 : Hid (Dw w w5 (404 + 2 + 4 * t + 2) zs b S u6 t) := HD.out.go c5 m5
        clear c5 m5 HD
        go_wp2_with fail
        refine (pick_any _ (w.heap.size + 1) _ 9 _ (by omega) (by omega) HD5.out.cur).mono ?_
        rintro e w6 ⟨y, rfl, hy, c6, m6⟩
        obtain ⟨a, cap, w7, hrun, hD7⟩ := (HD5.out.go c6 m6).push (by omega) x y
        have HRN : Hid _ := hrun
        have HD7 : Hid (Dw w w7 (404 + 2 + 4 * t + 2 + 2) zs b S (.slice a (t + 1) cap) (t + 1)) := hD7
        clear c6 m6 HD5 hrun hD7
        go_wp2_with (first | (at_builtin; refine wpList_app (.tmp 24) (.tmp 30) 24 (by rfl) ?_; refine ⟨_, _, HRN.out, ?_⟩) | fail)
        go_wp2
        go_roundw
        case rel => exact ⟨j - 1, t + 1, by omega, by congr 1; omega, HD7.out⟩
        case measure => simp [intOf]; omega
      · obtain rfl : j = 0 := by omega
        obtain ⟨p0, p1⟩ := get2 HD.out.box
        obtain ⟨t0, t1⟩ := get2 HD.out.out
        have f0 := HD.out.out.frozen 0
        have f1 := HD.out.out.frozen 1
        obtain ⟨f, g, hbf⟩ := HD.out.ex
        obtain ⟨a, cap, rfl, hu⟩ := BufU.own hbf (by omega)
        have hz := HD.out.zl
        have ms := set2_mod (X := fun x => x = w.heap.size) wr rfl (.slice b.a1 S.n b.c1) (.slice b.a2 S.k b.c2)
        have hs4 := ms.size
        have FIN : Hid _ := And.intro H8.out (And.intro H9.out (And.intro (show t ≤ 21 by omega) (And.intro ((HD.out.at_.mod ms (fun x hx e => by omega)).mono (Y := fun x => w.heap.size < x ∧ x < (bput w wr b S).heap.size) (fun x hx => ⟨by omega, Nat.lt_of_lt_of_le (by omega : x < wr.heap.size) hs4⟩)) (And.intro ((hu.at.mod ms (fun x hx e => by omega)).mono (Y := fun x => w.heap.size < x ∧ x < (bput w wr b S).heap.size) (fun x hx => ⟨by omega, Nat.lt_of_lt_of_le hx.2 hs4⟩)) (Mod.blw HD.out.blw ms (fun i hi => by omega))))))
        clear HD hbf hu hz ms hs4 H8 H9
        go_wp2
        exact bodyPost_ret (v := .tuple #[b.val S, .slice a t cap]) (by simp [results, Try.results13, go_sem, t0, t1, BV.val]) rfl ⟨b, S, a, t, cap, f, g, rfl, FIN.out⟩
  · go_wp2_with fail
    refine (pick_any _ (w.heap.size + 1) _ 2 _ (by omega) (by omega) HD.out.cur).mono ?_
    rintro e w4 ⟨n2, rfl, hn2, c4, m4⟩
    have HD4 : Hid (Dw w w4 (400 + 2 + 2 + 2) zs b S (.slice none 0 0) 0) := HD.out.go c4 m4
    clear c4 m4 HD
    have HD : Hid (Dw w w4 (400 + 2 + 2 + 2) zs b S (.slice none 0 0) 0) := HD4.out
    clear HD4
    go_wp2_with fail
    go_loopw [6, 7] (fun v i wr => ∃ j t : Nat, j + t ≤ 21 ∧ i = .int .i64 j ∧ Dw w wr (404 + 2 + 4 * t) zs b S v t) (fun _ i _ => (intOf i).toNat)
    case atStart => exact ⟨20 + n2, 0, by omega, by go_num, ⟨HD.out.blw, HD.out.cur.le (by omega), HD.out.out, HD.out.zl, HD.out.box, HD.out.at_, HD.out.ex⟩⟩
    case round =>
      obtain ⟨j, t, hjt, rfl, hd⟩ := hrel
      clear HD
      have HD : Hid (Dw w wr (404 + 2 + 4 * t) zs b S u6 t) := hd
      clear hd
      by_cases hj : 0 < j
      · have hj' : (0 : Int) < j := by omega
        go_wp2_with fail
        refine (pick_any _ (w.heap.size + 1) _ 8 _ (by omega) (by omega) HD.out.cur).mono ?_
        rintro e w5 ⟨x, rfl, hx, c5, m5⟩
        have HD5 : Hid (Dw w w5 (404 + 2 + 4 * t + 2) zs b S u6 t) := HD.out.go c5 m5
        clear c5 m5 HD
        go_wp2_with fail
        refine (pick_any _ (w.heap.size + 1) _ 9 _ (by omega) (by omega) HD5.out.cur).mono ?_
        rintro e w6 ⟨y, rfl, hy, c6, m6⟩
        obtain ⟨a, cap, w7, hrun, hD7⟩ := (HD5.out.go c6 m6).push (by omega) x y
        have HRN : Hid _ := hrun
        have HD7 : Hid (Dw w w7 (404 + 2 + 4 * t + 2 + 2) zs b S (.slice a (t + 1) cap) (t + 1)) := hD7
        clear c6 m6 HD5 hrun hD7
        go_wp2_with (first | (at_builtin; refine wpList_app (.tmp 24) (.tmp 30) 24 (by rfl) ?_; refine ⟨_, _, HRN.out, ?_⟩) | fail)
        go_wp2
        go_roundw
        case rel => exact ⟨j - 1, t + 1, by omega, by congr 1; omega, HD7.out⟩
        case measure => simp [intOf]; omega
      · obtain rfl : j = 0 := by omega
        obtain ⟨p0, p1⟩ := get2 HD.out.box
        obtain ⟨t0, t1⟩ := get2 HD.out.out
        have f0 := HD.out.out.frozen 0
        have f1 := HD.out.out.frozen 1
        obtain ⟨f, g, hbf⟩ := HD.out.ex
        obtain ⟨a, cap, rfl, hu⟩ := BufU.own hbf (by omega)
        have hz := HD.out.zl
        have ms := set2_mod (X := fun x => x = w.heap.size) wr rfl (.slice b.a1 S.n b.c1) (.slice b.a2 S.k b.c2)
        have hs4 := ms.size
        have FIN : Hid _ := And.intro H8.out (And.intro H9.out (And.intro (show t ≤ 21 by omega) (And.intro ((HD.out.at_.mod ms (fun x hx e => by omega)).mono (Y := fun x => w.heap.size < x ∧ x < (bput w wr b S).heap.size) (fun x hx => ⟨by omega, Nat.lt_of_lt_of_le (by omega : x < wr.heap.size) hs4⟩)) (And.intro ((hu.at.mod ms (fun x hx e => by omega)).mono (Y := fun x => w.heap.size < x ∧ x < (bput w wr b S).heap.size) (fun x hx => ⟨by omega, Nat.lt_of_lt_of_le hx.2 hs4⟩)) (Mod.blw HD.out.blw ms (fun i hi => by omega))))))
        clear HD hbf hu hz ms hs4 H8 H9
        go_wp2
        exact bodyPost_ret (v := .tuple #[b.val S, .slice a t cap]) (by simp [results, Try.results13, go_sem, t0, t1, BV.val]) rfl ⟨b, S, a, t, cap, f, g, rfl, FIN.out⟩
end Go.Proofs.Ytagjfkkjmgfoiaa
