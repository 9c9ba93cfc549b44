/- The model's EndEpoch, RollBack, BeforeOf, TouchedIn and NewBook. -/
import Derived.Test.YtagjfkkjmgfoiaaSpecW
import Derived.Test.YtagjfkkjmgfoiaaSpecG
import Derived.Test.YtagjfkkjmgfoiaaImplR
namespace Go.Proofs.Ytagjfkkjmgfoiaa
open Go.RowKit
set_option linter.unusedSimpArgs false
set_option linter.unusedVariables false
/-- A book of new cells and no log, put into the answer's box at z. -/
theorem cells_fin {w w2 : World} {z : Nat} {ao : Option Addr} {cap : Nat} {c : Nat → Int} {X : Nat → Prop} (hio : IntsOwn X w2 ao 8 c) (hX : ∀ x, X x → w.heap.size ≤ x ∧ x < w2.heap.size ∧ x ≠ z) (hz : w.heap.size ≤ z) (hw : Blw w w2) {out : BD → Bool → Prop} (ho : out ⟨8, c, 0, zf, zf⟩ true) :
    GivesB out w (.returned (.tuple #[.agg #[.slice ao 8 cap, .slice none 0 0], .bool true])) ((w2.setCell ⟨z, 0, none⟩ (.slice ao 8 cap)).setCell ⟨z, 1, none⟩ (.slice none 0 0)) := by
  have hm := set2_mod (X := fun x => x = z) w2 rfl (.slice ao 8 cap) (.slice none 0 0)
  have hs := hm.size
  exact ⟨⟨ao, none, cap, 0⟩, ⟨8, c, 0, zf, zf⟩, true, rfl, ho, by show (8 : Nat) + 0 ≤ _; omega, ⟨X, fun _ => False, fun x hx => ⟨⟨(hX x hx).1, by have := (hX x hx).2.1; omega⟩, fun h => h⟩, fun x hx => hx.elim, hio.mod hm (fun x hx => (hX x hx).2.2), UndosOwn.nil _ _ _ _ _⟩, Mod.blw hw hm (fun i hi => by omega)⟩
theorem zero_fin {w W : World} {z : Nat} (hz : w.heap.size ≤ z) (hw : Blw w W) {out : BD → Bool → Prop} (ho : out BD.zero false) : GivesB out w (.returned (.tuple #[BV.zero.val BD.zero, .bool false])) ((W.setCell ⟨z, 0, none⟩ (.slice none 0 0)).setCell ⟨z, 1, none⟩ (.slice none 0 0)) :=
  ⟨BV.zero, BD.zero, false, rfl, ho, by show (0 : Nat) + 0 ≤ _; omega, BookOwn.zero _ _, set2_blw hw hz _ _⟩
/-- What stands in l3Before behind j entries. -/
structure Backing (Y : Nat → Prop) (w wr : World) (b : BV) (B : BD) (ao : Option Addr) (j : Nat) : Prop where
  blw : Blw w wr
  bk : BookAt Y wr b B
  io : IntsOwn (fun x => w.heap.size < x ∧ x < wr.heap.size) wr ao 8 (before j B.lc B.lw B.c)
set_option maxHeartbeats 3200000 in
theorem l3Before_any (b : BV) (B : BD) (Y : Nat → Prop) (w : World) (hg : B.Good) (h : BookAt Y w b B) (hY : ∀ x, Y x → x < w.heap.size) :
    Calls Try.prog 70 #[b.val B] w fun e w' => ∃ ao cap, e = .returned (.slice ao 8 cap) ∧ IntsOwn (fun x => w.heap.size < x ∧ x < w'.heap.size) w' ao 8 (before B.k B.lc B.lw B.c) ∧ Blw w w' := by
  have hk8 := hg.k8
  have HG : Hid B.Good := hg
  have hn8 := hg.n
  clear hg
  obtain ⟨n, c, k, lc, lw⟩ := B
  dsimp only at hk8 hn8
  subst hn8
  have hb0 : Blw w (w.alloc (.cells #[.slice b.a1 8 b.c1, .slice b.a2 k b.c2] 26)) := (Blw.refl _).alloc _
  have r0 := (box2 w (.slice b.a1 8 b.c1) (.slice b.a2 k b.c2) 26)
  obtain ⟨ao, cap, w1, hrun, hB1, hw1⟩ := copyI (W := w.alloc (.cells #[.slice b.a1 8 b.c1, .slice b.a2 k b.c2] 26)) (h.c.blw hb0) (by show 8 ≤ _; omega) b.c1
  rw [World.size_alloc] at hrun
  have HRN : Hid _ := hrun
  obtain ⟨q0, q1⟩ := get2 (r0.blw ((Blw.refl _).alloc (.cells #[] 3)))
  have r1 := r0.blw hw1
  obtain ⟨s0, s1⟩ := get2 r1
  obtain ⟨_, _, e0, hio⟩ := BufI.own hB1 (by show 8 ≤ _; omega)
  cases e0
  have H0 : Hid (Backing Y w w1 b ⟨8, c, k, lc, lw⟩ ao 0) := ⟨hb0.trans hw1, (h.blw hb0).blw hw1, hio.mono (fun x hx => by simp only [World.size_alloc] at hx; omega)⟩
  clear h hrun hB1 hw1 hb0 r0 r1 hio
  go_enter Try.func70, Try.ntmps70
  go_wp2_with (first | (at_builtin; refine wpList_app (.tmp 6) (.tmp 8) 23 (by rfl) ?_; refine ⟨_, _, HRN.out, ?_⟩) | go_in)
  clear q0 q1 s0 s1
  go_loopw [13] (fun i wr => ∃ j : Nat, j ≤ k ∧ i = .int .i64 j ∧ Backing Y w wr b ⟨8, c, k, lc, lw⟩ ao j) (fun i _ => k - (intOf i).toNat)
  case atStart => exact ⟨0, by omega, rfl, H0.out⟩
  case round =>
    obtain ⟨j, hj, rfl, hd⟩ := hrel
    clear H0
    have HD : Hid (Backing Y w wr b ⟨8, c, k, lc, lw⟩ ao j) := hd
    clear hd
    by_cases hlt : j < k
    · have hlt' : (j : Int) < k := by omega
      obtain ⟨b2, o2, e2, -, p0, p1⟩ := HD.out.bk.l.2 j hlt
      dsimp only at e2 p0 p1
      rw [e2]
      obtain ⟨m, hm, em⟩ : ∃ m : Nat, m < 8 ∧ lc j = m := ⟨(lc j).toNat, by have := (HG.out.l j hlt).1; unfold cellOK at this; dsimp only at this; omega, by have := (HG.out.l j hlt).1; unfold cellOK at this; dsimp only at this; omega⟩
      have hm' : (m : Int) < 8 := by omega
      obtain ⟨g, hg, rfl, hrow⟩ := HD.out.io.2 (by omega)
      rw [em] at p0
      have hA : Blw wr (wr.alloc (.cells #[.int .i64 (m : Int), .int .i64 (lw j)] 69)) := (Blw.refl _).alloc _
      obtain ⟨u0, u1⟩ := get2 (box2 wr (.int .i64 (m : Int)) (.int .i64 (lw j)) 69)
      have pm := (hrow.blw hA).cell hm
      have fm := (hrow.blw hA).frozen m
      have ms : Mod (fun x => x = g) (wr.alloc (.cells #[.int .i64 (m : Int), .int .i64 (lw j)] 69)) ((wr.alloc (.cells #[.int .i64 (m : Int), .int .i64 (lw j)] 69)).setCell ⟨g, m, none⟩ (.int .i64 (lw j))) := Mod.setCell (X := fun x => x = g) _ (p := ⟨g, m, none⟩) rfl _
      have HS : Hid (Backing Y w ((wr.alloc (.cells #[.int .i64 (m : Int), .int .i64 (lw j)] 69)).setCell ⟨g, m, none⟩ (.int .i64 (lw j))) b ⟨8, c, k, lc, lw⟩ (some ⟨g, 0, none⟩) (j + 1)) := by
        have s1 := ms.size
        have s2 := hA.size
        refine ⟨Mod.blw (HD.out.blw.trans hA) ms (fun i hi => by omega), (HD.out.bk.blw hA).mod ms (fun x hx e => by have := hY x hx; omega), ⟨by omega, fun _ => ⟨g, by omega, rfl, ((hrow.blw hA).set m _).congr (fun i hi => ?_)⟩⟩⟩
        by_cases e : i = m
        · subst e; simp [before, em]
        · have : ¬ (i : Int) = lc j := by omega
          simp [e, before, this]
      clear HD hrow hA ms e2 em hg
      go_wp2
      go_roundw
      case rel => exact ⟨j + 1, by omega, by go_num, HS.out⟩
      case measure => simp [intOf]; omega
    · obtain rfl : j = k := by omega
      go_wp2
      go_ret
      exact ⟨ao, cap, rfl, HD.out.io, HD.out.blw⟩
set_option maxHeartbeats 3200000 in
theorem specRoll_any (b : BV) (B : BD) (Y : Nat → Prop) (w : World) (h : BookAt Y w b B) (hY : ∀ b, Y b → b < w.heap.size) :
    Calls Try.prog 24 #[b.val B] w (GivesB (gOut B (rbA B)) w) := by
  have hb0 : Blw w ((w.alloc (.cells #[.slice b.a1 B.n b.c1, .slice b.a2 B.k b.c2] 26)).alloc (.cells z2 26)) := ((Blw.refl _).alloc _).alloc _
  have HB : Hid (BookAt Y ((w.alloc (.cells #[.slice b.a1 B.n b.c1, .slice b.a2 B.k b.c2] 26)).alloc (.cells z2 26)) b B) := h.blw hb0
  have rA := (box2 w (.slice b.a1 B.n b.c1) (.slice b.a2 B.k b.c2) 26).blw ((Blw.refl _).alloc (.cells z2 26))
  have r0 : Row ((w.alloc (.cells #[.slice b.a1 B.n b.c1, .slice b.a2 B.k b.c2] 26)).alloc (.cells z2 26)) (w.heap.size + 1) 2 (fun i => if i = 0 then .slice none 0 0 else .slice none 0 0) := by
    have := box2 (w.alloc (.cells #[.slice b.a1 B.n b.c1, .slice b.a2 B.k b.c2] 26)) (.slice none 0 0) (.slice none 0 0) 26
    rw [World.size_alloc] at this
    exact this
  clear h
  go_enter Try.func24, Try.ntmps24
  go_wp2_with fail
  refine (specGood_any b B Y _ HB.out (fun x hx => by have := hY x hx; simp; omega)).mono ?_
  rintro e w1 ⟨r, rfl, hr, hb1⟩
  replace r0 := r0.blw hb1
  replace rA := rA.blw hb1
  have HB1 : Hid (BookAt Y w1 b B) := HB.out.blw hb1
  have hw1 : Blw w w1 := hb0.trans hb1
  have HR : Hid (r = true ↔ B.Good) := hr
  clear hb0 hb1 HB hr
  cases r
  · have NG : Hid (¬ B.Good) := fun g => absurd (HR.out.2 g) (by decide)
    obtain ⟨p0, p1⟩ := get2 r0
    have f0 := r0.frozen 0
    have f1 := r0.frozen 1
    clear r0 rA HR HB1
    go_wp2
    exact bodyPost_ret (v := .tuple #[BV.zero.val BD.zero, .bool false]) (by simp [results, Try.results24, go_sem, p0, p1, BV.val]) rfl (zero_fin (Nat.le_succ _) hw1 (Or.inr ⟨NG.out, rfl, rfl⟩))
  · have GD : Hid B.Good := HR.out.1 rfl
    obtain ⟨p0, p1⟩ := get2 rA
    clear HR
    go_wp2_with fail
    refine (l3Before_any b B Y _ GD.out HB1.out (fun x hx => by have := hY x hx; have := hw1.size; omega)).mono ?_
    rintro e w2 ⟨ao, cap, rfl, hio, hb2⟩
    have hz := r0.lt
    replace r0 := r0.blw hb2
    obtain ⟨t0, t1⟩ := get2 r0
    have f0 := r0.frozen 0
    have f1 := r0.frozen 1
    have HF : Hid _ := cells_fin (w := w) (z := w.heap.size + 1) (cap := cap) hio (fun x hx => by have := hw1.size; omega) (by omega) (hw1.trans hb2) (out := gOut B (rbA B)) (Or.inl ⟨GD.out, rfl, rfl⟩)
    clear p0 p1 rA r0 hio hb2 HB1 hw1
    go_wp2
    exact bodyPost_ret (v := .tuple #[.agg #[.slice ao 8 cap, .slice none 0 0], .bool true]) (by simp [results, Try.results24, go_sem, t0, t1]) rfl HF.out
set_option maxHeartbeats 3200000 in
theorem specBefore_any (b : BV) (B : BD) (Y : Nat → Prop) (w : World) (h : BookAt Y w b B) (hY : ∀ b, Y b → b < w.heap.size) :
    Calls Try.prog 28 #[b.val B] w (GivesI (iOut B (bP B)) w) := by
  have hb0 : Blw w (w.alloc (.cells #[.slice b.a1 B.n b.c1, .slice b.a2 B.k b.c2] 26)) := (Blw.refl _).alloc _
  have HB : Hid (BookAt Y (w.alloc (.cells #[.slice b.a1 B.n b.c1, .slice b.a2 B.k b.c2] 26)) b B) := h.blw hb0
  have rA := (box2 w (.slice b.a1 B.n b.c1) (.slice b.a2 B.k b.c2) 26)
  clear h
  go_enter Try.func28, Try.ntmps28
  go_wp2_with fail
  refine (specGood_any b B Y _ HB.out (fun x hx => by have := hY x hx; simp; omega)).mono ?_
  rintro e w1 ⟨r, rfl, hr, hb1⟩
  replace rA := rA.blw hb1
  have HB1 : Hid (BookAt Y w1 b B) := HB.out.blw hb1
  have hw1 : Blw w w1 := hb0.trans hb1
  have HR : Hid (r = true ↔ B.Good) := hr
  clear hb0 hb1 HB hr
  cases r
  · have NG : Hid (¬ B.Good) := fun g => absurd (HR.out.2 g) (by decide)
    clear rA HR HB1
    go_wp2
    go_ret2
    exact ⟨none, 0, 0, zf, false, rfl, Or.inr ⟨NG.out, rfl, rfl⟩, by omega, IntsOwn.nil _ _ _ _, hw1⟩
  · have GD : Hid B.Good := HR.out.1 rfl
    obtain ⟨p0, p1⟩ := get2 rA
    clear HR
    go_wp2_with fail
    refine (l3Before_any b B Y _ GD.out HB1.out (fun x hx => by have := hY x hx; have := hw1.size; omega)).mono ?_
    rintro e w2 ⟨ao, cap, rfl, hio, hb2⟩
    have HIO : Hid (IntsOwn (fun x => w.heap.size ≤ x ∧ x < w2.heap.size) w2 ao 8 (before B.k B.lc B.lw B.c)) := hio.mono (fun x hx => by have := hw1.size; omega)
    have HW : Hid (Blw w w2) := hw1.trans hb2
    clear p0 p1 rA hio hb2 HB1 hw1
    go_wp2
    go_ret2
    exact ⟨ao, 8, cap, _, true, rfl, Or.inl ⟨GD.out, rfl, rfl, fun i hi => rfl⟩, by omega, HIO.out, HW.out⟩
set_option maxHeartbeats 3200000 in
theorem specTouch_any (b : BV) (B : BD) (Y : Nat → Prop) (w : World) (h : BookAt Y w b B) (hY : ∀ b, Y b → b < w.heap.size) :
    Calls Try.prog 35 #[b.val B] w (GivesI (iOut B (tOut B.k B.lc)) w) := by
  have hb0 : Blw w (w.alloc (.cells #[.slice b.a1 B.n b.c1, .slice b.a2 B.k b.c2] 26)) := (Blw.refl _).alloc _
  have HB : Hid (BookAt Y (w.alloc (.cells #[.slice b.a1 B.n b.c1, .slice b.a2 B.k b.c2] 26)) b B) := h.blw hb0
  have rA := (box2 w (.slice b.a1 B.n b.c1) (.slice b.a2 B.k b.c2) 26)
  clear h
  go_enter Try.func35, Try.ntmps35
  go_wp2_with fail
  refine (specGood_any b B Y _ HB.out (fun x hx => by have := hY x hx; simp; omega)).mono ?_
  rintro e w1 ⟨r, rfl, hr, hb1⟩
  replace rA := rA.blw hb1
  have HB1 : Hid (BookAt Y w1 b B) := HB.out.blw hb1
  have hw1 : Blw w w1 := hb0.trans hb1
  have HR : Hid (r = true ↔ B.Good) := hr
  clear hb0 hb1 HB hr
  cases r
  · have NG : Hid (¬ B.Good) := fun g => absurd (HR.out.2 g) (by decide)
    clear rA HR HB1
    go_wp2
    go_ret2
    exact ⟨none, 0, 0, zf, false, rfl, Or.inr ⟨NG.out, rfl, rfl⟩, by omega, IntsOwn.nil _ _ _ _, hw1⟩
  · have GD : Hid B.Good := HR.out.1 rfl
    obtain ⟨p0, p1⟩ := get2 rA
    clear HR
    have hk8 := GD.out.k8
    go_wp2_with fail
    refine (l3Touched_any b B Y _ (by omega) HB1.out).mono ?_
    rintro e w2 ⟨v, rfl, m, f, hto, hm, hbf, hb2⟩
    obtain ⟨ao, cap, rfl, hio⟩ := BufI.own hbf (by omega)
    have HTO : Hid (tOut B.k B.lc m f) := hto
    have HIO : Hid (IntsOwn (fun x => w.heap.size ≤ x ∧ x < w2.heap.size) w2 ao m f) := hio.mono (fun x hx => by have := hw1.size; omega)
    have HW : Hid (Blw w w2) := hw1.trans hb2
    clear p0 p1 rA hto hbf hio hb2 HB1 hw1
    go_wp2
    go_ret2
    exact ⟨ao, m, cap, f, true, rfl, Or.inl ⟨GD.out, rfl, HTO.out⟩, by omega, HIO.out, HW.out⟩
set_option maxHeartbeats 3200000 in
theorem specEnd_any (b : BV) (B : BD) (Y : Nat → Prop) (w : World) (h : BookAt Y w b B) (hY : ∀ b, Y b → b < w.heap.size) :
    Calls Try.prog 26 #[b.val B] w (GivesB (gOut B (eeA B)) w) := by
  have hb0 : Blw w ((w.alloc (.cells #[.slice b.a1 B.n b.c1, .slice b.a2 B.k b.c2] 26)).alloc (.cells z2 26)) := ((Blw.refl _).alloc _).alloc _
  have HB : Hid (BookAt Y ((w.alloc (.cells #[.slice b.a1 B.n b.c1, .slice b.a2 B.k b.c2] 26)).alloc (.cells z2 26)) b B) := h.blw hb0
  have rA := (box2 w (.slice b.a1 B.n b.c1) (.slice b.a2 B.k b.c2) 26).blw ((Blw.refl _).alloc (.cells z2 26))
  have r0 : Row ((w.alloc (.cells #[.slice b.a1 B.n b.c1, .slice b.a2 B.k b.c2] 26)).alloc (.cells z2 26)) (w.heap.size + 1) 2 (fun i => if i = 0 then .slice none 0 0 else .slice none 0 0) := by
    have := box2 (w.alloc (.cells #[.slice b.a1 B.n b.c1, .slice b.a2 B.k b.c2] 26)) (.slice none 0 0) (.slice none 0 0) 26
    rw [World.size_alloc] at this
    exact this
  clear h
  go_enter Try.func26, Try.ntmps26
  go_wp2_with fail
  refine (specGood_any b B Y _ HB.out (fun x hx => by have := hY x hx; simp; omega)).mono ?_
  rintro e w1 ⟨r, rfl, hr, hb1⟩
  replace r0 := r0.blw hb1
  replace rA := rA.blw hb1
  have HB1 : Hid (BookAt Y w1 b B) := HB.out.blw hb1
  have hw1 : Blw w w1 := hb0.trans hb1
  have HR : Hid (r = true ↔ B.Good) := hr
  clear hb0 hb1 HB hr
  cases r
  · have NG : Hid (¬ B.Good) := fun g => absurd (HR.out.2 g) (by decide)
    obtain ⟨p0, p1⟩ := get2 r0
    have f0 := r0.frozen 0
    have f1 := r0.frozen 1
    clear r0 rA HR HB1
    go_wp2
    exact bodyPost_ret (v := .tuple #[BV.zero.val BD.zero, .bool false]) (by simp [results, Try.results26, go_sem, p0, p1, BV.val]) rfl (zero_fin (Nat.le_succ _) hw1 (Or.inr ⟨NG.out, rfl, rfl⟩))
  · have GD : Hid B.Good := HR.out.1 rfl
    obtain ⟨p0, p1⟩ := get2 rA
    clear HR
    have hn8 : B.n = 8 := GD.out.n
    obtain ⟨ao, cap, w2, hrun, hB2, hw2⟩ := copyI HB1.out.c (by omega) b.c1
    rw [hn8] at hrun hB2
    have HRN : Hid _ := hrun
    obtain ⟨_, _, e0, hio⟩ := BufI.own hB2 (by omega)
    cases e0
    obtain ⟨q0, q1⟩ := get2 (rA.blw ((Blw.refl _).alloc (.cells #[] 3)))
    rw [hn8] at q0
    have hz := r0.lt
    replace r0 := r0.blw hw2
    obtain ⟨t0, t1⟩ := get2 r0
    have f0 := r0.frozen 0
    have f1 := r0.frozen 1
    have HF : Hid _ := cells_fin (w := w) (z := w.heap.size + 1) (cap := cap) hio (fun x hx => by have := hw1.size; omega) (by omega) (hw1.trans hw2) (out := gOut B (eeA B)) (Or.inl ⟨GD.out, rfl, rfl⟩)
    clear p0 p1 rA r0 hio hw2 HB1 hw1 hrun hB2 hn8
    go_wp2_with (first | (at_builtin; refine wpList_app (.tmp 8) (.tmp 10) 23 (by rfl) ?_; refine ⟨_, _, HRN.out, ?_⟩) | go_in)
    exact bodyPost_ret (v := .tuple #[.agg #[.slice ao 8 cap, .slice none 0 0], .bool true]) (by simp [results, Try.results26, go_sem, t0, t1]) rfl HF.out
set_option maxHeartbeats 3200000 in
theorem specNew_any (ao : Option Addr) (n cc : Nat) (c : Nat → Int) (Y : Nat → Prop) (w : World) (hn : n ≤ 1048576) (h : IntsAt Y w ao n c) :
    Calls Try.prog 38 #[.slice ao n cc] w (GivesB (nbOut n c) w) := by
  have hb0 : Blw w (w.alloc (.cells z2 26)) := (Blw.refl _).alloc _
  have r0 := box2 w (.slice none 0 0) (.slice none 0 0) 26
  obtain ⟨a1, cap, w1, hrun, hB1, hw1⟩ := copyI (h.blw hb0) hn cc
  rw [World.size_alloc] at hrun
  have HRN : Hid _ := hrun
  obtain ⟨_, _, e0, hio⟩ := BufI.own hB1 (by omega)
  cases e0
  have hA : Blw w1 (w1.alloc (.cells #[.slice a1 n cap, .slice none 0 0] 26)) := (Blw.refl _).alloc _
  have HIO : Hid (IntsOwn (fun x => w.heap.size < x ∧ x < w1.heap.size) (w1.alloc (.cells #[.slice a1 n cap, .slice none 0 0] 26)) a1 n c) := (hio.blw hA).mono (fun x hx => by simp only [World.size_alloc] at hx; omega)
  have HBK : Hid (BookAt (fun x => w.heap.size < x ∧ x < w1.heap.size) (w1.alloc (.cells #[.slice a1 n cap, .slice none 0 0] 26)) ⟨a1, none, cap, 0⟩ ⟨n, c, 0, zf, zf⟩) := ⟨HIO.out.at, by show (0 : Nat) ≤ _; omega, fun i hi => absurd hi (Nat.not_lt_zero _)⟩
  have HW : Hid (Blw w (w1.alloc (.cells #[.slice a1 n cap, .slice none 0 0] 26))) := (hb0.trans hw1).trans hA
  have HR0 : Hid (Row (w1.alloc (.cells #[.slice a1 n cap, .slice none 0 0] 26)) w.heap.size 2 (fun i => if i = 0 then .slice none 0 0 else .slice none 0 0)) := (r0.blw hw1).blw hA
  have HR1 : Hid (Row (w1.alloc (.cells #[.slice a1 n cap, .slice none 0 0] 26)) w1.heap.size 2 (fun i => if i = 0 then .slice a1 n cap else .slice none 0 0)) := box2 w1 _ _ 26
  clear h hrun hB1 hw1 hio hA hb0 r0
  go_enter Try.func38, Try.ntmps38
  go_wp2_with (first | (at_builtin; refine wpList_app (.tmp 5) (.tmp 6) 23 (by rfl) ?_; refine ⟨_, _, HRN.out, ?_⟩) | fail)
  refine (specGood_any ⟨a1, none, cap, 0⟩ ⟨n, c, 0, zf, zf⟩ _ _ HBK.out (fun x hx => by simp; omega)).mono ?_
  rintro e w2 ⟨r, rfl, hr, hb2⟩
  have HRR : Hid (r = true ↔ (n = 8 ∧ ∀ i, i < 8 → wordOK (c i))) := by
    show _ ↔ _
    rw [hr]
    exact ⟨fun g => ⟨g.n, g.c⟩, fun g => ⟨g.1, g.2, fun i hi => absurd hi (Nat.not_lt_zero _), fun i j hi => absurd hi (Nat.not_lt_zero _)⟩⟩
  have r1 := HR1.out.blw hb2
  have r0 := HR0.out.blw hb2
  obtain ⟨p0, p1⟩ := get2 r1
  obtain ⟨t0, t1⟩ := get2 r0
  have f0 := r0.frozen 0
  have f1 := r0.frozen 1
  have HW2 : Hid (Blw w w2) := HW.out.trans hb2
  have HIO2 : Hid (IntsOwn (fun x => w.heap.size < x ∧ x < w1.heap.size) w2 a1 n c) := HIO.out.blw hb2
  have HL : Hid (w1.heap.size < w2.heap.size) := r1.lt
  clear hr hb2 r0 r1 HR0 HR1 HW HIO HBK
  cases r
  · have NG : Hid (¬ (n = 8 ∧ ∀ i, i < 8 → wordOK (c i))) := fun g => absurd (HRR.out.2 g) (by decide)
    go_wp2
    exact bodyPost_ret (v := .tuple #[BV.zero.val BD.zero, .bool false]) (by simp [results, Try.results38, go_sem, t0, t1, BV.val]) rfl (zero_fin (Nat.le_refl _) HW2.out (Or.inr ⟨NG.out, rfl, rfl⟩))
  · have GD : Hid (n = 8 ∧ ∀ i, i < 8 → wordOK (c i)) := HRR.out.1 rfl
    obtain ⟨rfl, -⟩ := GD.out
    have HF : Hid _ := cells_fin (w := w) (z := w.heap.size) (cap := cap) HIO2.out (fun x hx => by have := HL.out; omega) (Nat.le_refl _) HW2.out (out := nbOut 8 c) (Or.inl ⟨GD.out, rfl, rfl⟩)
    go_wp2
    exact bodyPost_ret (v := .tuple #[.agg #[.slice a1 8 cap, .slice none 0 0], .bool true]) (by simp [results, Try.results38, go_sem, t0, t1]) rfl HF.out
end Go.Proofs.Ytagjfkkjmgfoiaa
