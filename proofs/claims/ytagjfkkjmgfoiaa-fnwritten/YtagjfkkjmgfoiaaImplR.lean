/- The program's EndEpoch, RollBack, BeforeOf and TouchedIn. -/
import Derived.Test.YtagjfkkjmgfoiaaUndoB
import Derived.Test.YtagjfkkjmgfoiaaImplW
namespace Go.Proofs.Ytagjfkkjmgfoiaa
open Go.RowKit
set_option linter.unusedSimpArgs false
set_option linter.unusedVariables false
/-- An answer that hangs on a book's being good. -/
def gOut (B : BD) (A R : BD) (r : Bool) : Prop := (B.Good ∧ r = true ∧ R = A) ∨ (¬ B.Good ∧ r = false ∧ R = BD.zero)
theorem gOut_same {B A R R' : BD} {r r' : Bool} (h : gOut B A R r) (h' : gOut B A R' r') : R = R' ∧ r = r' := by
  rcases h with ⟨g, rfl, rfl⟩ | ⟨g, rfl, rfl⟩ <;> rcases h' with ⟨g', rfl, rfl⟩ | ⟨g', rfl, rfl⟩
  · exact ⟨rfl, rfl⟩
  · exact absurd g g'
  · exact absurd g' g
  · exact ⟨rfl, rfl⟩
abbrev eeA (B : BD) : BD := ⟨8, B.c, 0, zf, zf⟩
abbrev rbA (B : BD) : BD := ⟨8, before B.k B.lc B.lw B.c, 0, zf, zf⟩
/-- A list that hangs on a book's being good. -/
def iOut (B : BD) (P : Nat → (Nat → Int) → Prop) (n : Nat) (f : Nat → Int) (r : Bool) : Prop := (B.Good ∧ r = true ∧ P n f) ∨ (¬ B.Good ∧ r = false ∧ n = 0)
theorem iOut_same {B : BD} {P : Nat → (Nat → Int) → Prop} (hP : ∀ n f n' f', P n f → P n' f' → n = n' ∧ ∀ i, i < n → f i = f' i) {n n' : Nat} {f f' : Nat → Int} {r r' : Bool} (h : iOut B P n f r) (h' : iOut B P n' f' r') : (n = n' ∧ ∀ i, i < n → f i = f' i) ∧ r = r' := by
  rcases h with ⟨g, rfl, h1⟩ | ⟨g, rfl, rfl⟩ <;> rcases h' with ⟨g', rfl, h1'⟩ | ⟨g', rfl, rfl⟩
  · exact ⟨hP _ _ _ _ h1 h1', rfl⟩
  · exact absurd g g'
  · exact absurd g' g
  · exact ⟨⟨rfl, fun i hi => absurd hi (Nat.not_lt_zero _)⟩, rfl⟩
def bP (B : BD) (n : Nat) (f : Nat → Int) : Prop := n = 8 ∧ ∀ i, i < 8 → f i = before B.k B.lc B.lw B.c i
theorem bP_same (B : BD) (n : Nat) (f : Nat → Int) (n' : Nat) (f' : Nat → Int) (h : bP B n f) (h' : bP B n' f') : n = n' ∧ ∀ i, i < n → f i = f' i :=
  ⟨h.1.trans h'.1.symm, fun i hi => (h.2 i (by have := h.1; omega)).trans (h'.2 i (by have := h.1; omega)).symm⟩
theorem tP_same (k : Nat) (lc : Nat → Int) (n : Nat) (f : Nat → Int) (n' : Nat) (f' : Nat → Int) (h : tOut k lc n f) (h' : tOut k lc n' f') : n = n' ∧ ∀ i, i < n → f i = f' i := tOut_same h h'
set_option maxHeartbeats 3200000 in
theorem implEnd_any (b : BV) (B : BD) (Y : Nat → Prop) (w : World) (h : BookAt Y w b B) (hY : ∀ b, Y b → b < w.heap.size) :
    Calls Try.prog 19 #[b.val B] w (GivesB (gOut B (eeA B)) w) := by
  have hb0 : Blw w ((w.alloc (.cells #[.slice b.a1 B.n b.c1, .slice b.a2 B.k b.c2] 26)).alloc (.cells z2 26)) := ((Blw.refl _).alloc _).alloc _
  have HB : Hid (BookAt Y ((w.alloc (.cells #[.slice b.a1 B.n b.c1, .slice b.a2 B.k b.c2] 26)).alloc (.cells z2 26)) b B) := h.blw hb0
  have r0 : Row ((w.alloc (.cells #[.slice b.a1 B.n b.c1, .slice b.a2 B.k b.c2] 26)).alloc (.cells z2 26)) (w.heap.size + 1) 2 (fun i => if i = 0 then .slice none 0 0 else .slice none 0 0) := by
    have := box2 (w.alloc (.cells #[.slice b.a1 B.n b.c1, .slice b.a2 B.k b.c2] 26)) (.slice none 0 0) (.slice none 0 0) 26
    rw [World.size_alloc] at this
    exact this
  clear h
  go_enter Try.func19, Try.ntmps19
  go_wp2_with fail
  refine (hold_any b B Y _ HB.out (fun x hx => by have := hY x hx; simp; omega)).mono ?_
  rintro e w1 ⟨h1, hb1⟩
  replace r0 := r0.blw hb1
  have hz1 := hb1.size
  replace hb1 := hb0.trans hb1
  clear hb0 HB
  rcases h1 with ⟨bm, hg, rfl, hl, hbm⟩ | ⟨hg, rfl⟩
  · have HG : Hid B.Good := hg
    have hk8 := hg.k8
    have HH : Hid (Held (w1.alloc (.cells (nine B.c (some bm)) 73)) w1.heap.size bm B.c B.k B.lc B.lw) := held_boxed hl
    have hA : Blw w1 (w1.alloc (.cells (nine B.c (some bm)) 73)) := (Blw.refl _).alloc _
    have HW : Hid (Blw w (w1.alloc (.cells (nine B.c (some bm)) 73))) := hb1.trans hA
    have HR : Hid (Row (w1.alloc (.cells (nine B.c (some bm)) 73)) (w.heap.size + 1) 2 (fun i => if i = 0 then .slice none 0 0 else .slice none 0 0)) := r0.blw hA
    have HZ : Hid (w.heap.size + 1 < w1.heap.size ∧ w.heap.size + 1 < bm) := ⟨r0.lt, by simp at hbm; omega⟩
    clear hg hl hbm r0 hb1 hA hz1
    go_wp2_with fail
    refine (end_any w1.heap.size bm B.k B.k B.c B.lc B.lw _ hk8 (Nat.le_refl _) HG.out.d HH.out.ne HH.out.box HH.out.log.ix).mono ?_
    rintro e w2 ⟨rfl, hbx, hlx, hm2⟩
    have HBX : Hid (Row w2 w1.heap.size 9 (hcell B.c bm)) := hbx
    have HLX : Hid (LogIx w2 bm B.k B.lc B.lw (List.range 0)) := hlx
    have HR2 : Hid (Row w2 (w.heap.size + 1) 2 (fun i => if i = 0 then .slice none 0 0 else .slice none 0 0)) := HR.out.mod hm2 (by have := HZ.out; omega)
    have HW2 : Hid (Blw w w2) := Mod.blw HW.out hm2 (fun i hi => by have := HZ.out; omega)
    clear hbx hlx hm2 HR HW HH
    go_wp2_with fail
    refine (give_any w1.heap.size bm B.k 0 B.c B.lc B.lw _ (by omega) (by omega) HBX.out HLX.out).mono ?_
    rintro e w3 ⟨b3, rfl, own, hb3⟩
    have R3 := HR2.out.blw hb3
    obtain ⟨p0, p1⟩ := get2 R3
    have f0 := R3.frozen 0
    have f1 := R3.frozen 1
    have HO : Hid (BookOwn (fun x => w.heap.size + 1 < x ∧ x < w3.heap.size) w3 b3 (eeA B)) := (own.congr (B := eeA B) ⟨rfl, rfl, fun i hi => rfl, fun i hi => absurd hi (Nat.not_lt_zero _)⟩).mono (fun x hx => by have := HR2.out.lt; omega)
    have HB3 : Hid (Blw w w3) := HW2.out.trans hb3
    clear HR2 HW2 own hb3 R3
    go_wp2
    refine bodyPost_ret (v := .tuple #[b3.val (eeA B), .bool true]) (by simp [results, Try.results19, go_sem, p0, p1, BV.val]) rfl ?_
    have hm := set2_mod (X := fun x => x = w.heap.size + 1) w3 rfl (.slice b3.a1 8 b3.c1) (.slice b3.a2 0 b3.c2)
    have hs := hm.size
    exact ⟨b3, _, true, rfl, Or.inl ⟨HG.out, rfl, rfl⟩, by show (8 : Nat) + 0 ≤ _; omega, (HO.out.mod hm (fun x hx e => by omega)).mono (fun x hx => by omega), Mod.blw HB3.out hm (fun i hi => by omega)⟩
  · have HG : Hid (¬ B.Good) := hg
    have hA : Blw w1 (w1.alloc (.cells (nine (fun _ => 0) none) 73)) := (Blw.refl _).alloc _
    replace r0 := r0.blw hA
    obtain ⟨p0, p1⟩ := get2 r0
    have f0 := r0.frozen 0
    have f1 := r0.frozen 1
    have HW : Hid (Blw w (w1.alloc (.cells (nine (fun _ => 0) none) 73))) := hb1.trans hA
    clear hg r0 hb1 hA
    go_wp2
    refine bodyPost_ret (v := .tuple #[BV.zero.val BD.zero, .bool false]) (by simp [results, Try.results19, go_sem, p0, p1, BV.val]) rfl ?_
    exact ⟨BV.zero, BD.zero, false, rfl, Or.inr ⟨HG.out, rfl, rfl⟩, by show (0 : Nat) + 0 ≤ _; omega, BookOwn.zero _ _, set2_blw HW.out (Nat.le_succ _) _ _⟩
set_option maxHeartbeats 3200000 in
theorem implRoll_any (b : BV) (B : BD) (Y : Nat → Prop) (w : World) (h : BookAt Y w b B) (hY : ∀ b, Y b → b < w.heap.size) :
    Calls Try.prog 20 #[b.val B] w (GivesB (gOut B (rbA B)) w) := by
  have hb0 : Blw w ((w.alloc (.cells #[.slice b.a1 B.n b.c1, .slice b.a2 B.k b.c2] 26)).alloc (.cells z2 26)) := ((Blw.refl _).alloc _).alloc _
  have HB : Hid (BookAt Y ((w.alloc (.cells #[.slice b.a1 B.n b.c1, .slice b.a2 B.k b.c2] 26)).alloc (.cells z2 26)) b B) := h.blw hb0
  have r0 : Row ((w.alloc (.cells #[.slice b.a1 B.n b.c1, .slice b.a2 B.k b.c2] 26)).alloc (.cells z2 26)) (w.heap.size + 1) 2 (fun i => if i = 0 then .slice none 0 0 else .slice none 0 0) := by
    have := box2 (w.alloc (.cells #[.slice b.a1 B.n b.c1, .slice b.a2 B.k b.c2] 26)) (.slice none 0 0) (.slice none 0 0) 26
    rw [World.size_alloc] at this
    exact this
  clear h
  go_enter Try.func20, Try.ntmps20
  go_wp2_with fail
  refine (hold_any b B Y _ HB.out (fun x hx => by have := hY x hx; simp; omega)).mono ?_
  rintro e w1 ⟨h1, hb1⟩
  replace r0 := r0.blw hb1
  have hz1 := hb1.size
  replace hb1 := hb0.trans hb1
  clear hb0 HB
  rcases h1 with ⟨bm, hg, rfl, hl, hbm⟩ | ⟨hg, rfl⟩
  · have HG : Hid B.Good := hg
    have hk8 := hg.k8
    have HH : Hid (Held (w1.alloc (.cells (nine B.c (some bm)) 73)) w1.heap.size bm B.c B.k B.lc B.lw) := held_boxed hl
    have hA : Blw w1 (w1.alloc (.cells (nine B.c (some bm)) 73)) := (Blw.refl _).alloc _
    have HW : Hid (Blw w (w1.alloc (.cells (nine B.c (some bm)) 73))) := hb1.trans hA
    have HR : Hid (Row (w1.alloc (.cells (nine B.c (some bm)) 73)) (w.heap.size + 1) 2 (fun i => if i = 0 then .slice none 0 0 else .slice none 0 0)) := r0.blw hA
    have HZ : Hid (w.heap.size + 1 < w1.heap.size ∧ w.heap.size + 1 < bm) := ⟨r0.lt, by simp at hbm; omega⟩
    clear hg hl hbm r0 hb1 hA hz1
    go_wp2_with fail
    refine (undo_any w1.heap.size bm B.k B.k B.c B.lc B.lw _ hk8 (Nat.le_refl _) HG.out.d (fun t ht => (HG.out.l t ht).1) HH.out.ne HH.out.box HH.out.log.ix).mono ?_
    rintro e w0 ⟨rfl, hbx0, hlx0, hm0⟩
    have HNE : Hid (w1.heap.size ≠ bm) := HH.out.ne
    have HBX0 : Hid (Row w0 w1.heap.size 9 (hcell (before B.k B.lc B.lw B.c) bm)) := hbx0
    have HLX0 : Hid (LogIx w0 bm B.k B.lc B.lw (List.range B.k)) := hlx0
    have HR0 : Hid (Row w0 (w.heap.size + 1) 2 (fun i => if i = 0 then .slice none 0 0 else .slice none 0 0)) := HR.out.mod hm0 (by have := HZ.out; omega)
    have HW0 : Hid (Blw w w0) := Mod.blw HW.out hm0 (fun i hi => by have := HZ.out; omega)
    clear hbx0 hlx0 hm0 HR HW HH
    go_wp2_with fail
    refine (end_any w1.heap.size bm B.k B.k (before B.k B.lc B.lw B.c) B.lc B.lw _ hk8 (Nat.le_refl _) HG.out.d HNE.out HBX0.out HLX0.out).mono ?_
    rintro e w2 ⟨rfl, hbx, hlx, hm2⟩
    have HBX : Hid (Row w2 w1.heap.size 9 (hcell (before B.k B.lc B.lw B.c) bm)) := hbx
    have HLX : Hid (LogIx w2 bm B.k B.lc B.lw (List.range 0)) := hlx
    have HR2 : Hid (Row w2 (w.heap.size + 1) 2 (fun i => if i = 0 then .slice none 0 0 else .slice none 0 0)) := HR0.out.mod hm2 (by have := HZ.out; omega)
    have HW2 : Hid (Blw w w2) := Mod.blw HW0.out hm2 (fun i hi => by have := HZ.out; omega)
    clear hbx hlx hm2 HR0 HW0 HBX0 HLX0
    go_wp2_with fail
    refine (give_any w1.heap.size bm B.k 0 (before B.k B.lc B.lw B.c) B.lc B.lw _ (by omega) (by omega) HBX.out HLX.out).mono ?_
    rintro e w3 ⟨b3, rfl, own, hb3⟩
    have R3 := HR2.out.blw hb3
    obtain ⟨p0, p1⟩ := get2 R3
    have f0 := R3.frozen 0
    have f1 := R3.frozen 1
    have HO : Hid (BookOwn (fun x => w.heap.size + 1 < x ∧ x < w3.heap.size) w3 b3 (rbA B)) := (own.congr (B := rbA B) ⟨rfl, rfl, fun i hi => rfl, fun i hi => absurd hi (Nat.not_lt_zero _)⟩).mono (fun x hx => by have := HR2.out.lt; omega)
    have HB3 : Hid (Blw w w3) := HW2.out.trans hb3
    clear HR2 HW2 own hb3 R3
    go_wp2
    refine bodyPost_ret (v := .tuple #[b3.val (rbA B), .bool true]) (by simp [results, Try.results20, go_sem, p0, p1, BV.val]) rfl ?_
    have hm := set2_mod (X := fun x => x = w.heap.size + 1) w3 rfl (.slice b3.a1 8 b3.c1) (.slice b3.a2 0 b3.c2)
    have hs := hm.size
    exact ⟨b3, _, true, rfl, Or.inl ⟨HG.out, rfl, rfl⟩, by show (8 : Nat) + 0 ≤ _; omega, (HO.out.mod hm (fun x hx e => by omega)).mono (fun x hx => by omega), Mod.blw HB3.out hm (fun i hi => by omega)⟩
  · have HG : Hid (¬ B.Good) := hg
    have hA : Blw w1 (w1.alloc (.cells (nine (fun _ => 0) none) 73)) := (Blw.refl _).alloc _
    replace r0 := r0.blw hA
    obtain ⟨p0, p1⟩ := get2 r0
    have f0 := r0.frozen 0
    have f1 := r0.frozen 1
    have HW : Hid (Blw w (w1.alloc (.cells (nine (fun _ => 0) none) 73))) := hb1.trans hA
    clear hg r0 hb1 hA
    go_wp2
    refine bodyPost_ret (v := .tuple #[BV.zero.val BD.zero, .bool false]) (by simp [results, Try.results20, go_sem, p0, p1, BV.val]) rfl ?_
    exact ⟨BV.zero, BD.zero, false, rfl, Or.inr ⟨HG.out, rfl, rfl⟩, by show (0 : Nat) + 0 ≤ _; omega, BookOwn.zero _ _, set2_blw HW.out (Nat.le_succ _) _ _⟩
set_option maxHeartbeats 3200000 in
theorem implTouch_any (b : BV) (B : BD) (Y : Nat → Prop) (w : World) (h : BookAt Y w b B) (hY : ∀ b, Y b → b < w.heap.size) :
    Calls Try.prog 32 #[b.val B] w (GivesI (iOut B (tOut B.k B.lc)) w) := by
  have hb0 : Blw w (w.alloc (.cells #[.slice b.a1 B.n b.c1, .slice b.a2 B.k b.c2] 26)) := (Blw.refl _).alloc _
  have HB : Hid (BookAt Y (w.alloc (.cells #[.slice b.a1 B.n b.c1, .slice b.a2 B.k b.c2] 26)) b B) := h.blw hb0
  clear h
  go_enter Try.func32, Try.ntmps32
  go_wp2_with fail
  refine (hold_any b B Y _ HB.out (fun x hx => by have := hY x hx; simp; omega)).mono ?_
  rintro e w1 ⟨h1, hb1⟩
  have hz1 := hb1.size
  replace hb1 := hb0.trans hb1
  clear hb0 HB
  rcases h1 with ⟨bm, hg, rfl, hl, hbm⟩ | ⟨hg, rfl⟩
  · have HG : Hid B.Good := hg
    have hk8 := hg.k8
    have HH : Hid (Held (w1.alloc (.cells (nine B.c (some bm)) 73)) w1.heap.size bm B.c B.k B.lc B.lw) := held_boxed hl
    have hA : Blw w1 (w1.alloc (.cells (nine B.c (some bm)) 73)) := (Blw.refl _).alloc _
    have HW : Hid (Blw w (w1.alloc (.cells (nine B.c (some bm)) 73))) := hb1.trans hA
    clear hg hl hbm hb1 hA hz1
    go_wp2_with fail
    refine (touched_any w1.heap.size bm B.k B.k B.c B.lc B.lw _ hk8 (Nat.le_refl _) HG.out.d HH.out.box HH.out.log.ix).mono ?_
    rintro e w2 ⟨ao, cap, f, rfl, hto, hio, hb2⟩
    have HTO : Hid (tOut B.k B.lc B.k f) := hto
    have HIO : Hid (IntsOwn (fun x => w.heap.size ≤ x ∧ x < w2.heap.size) w2 ao B.k f) := hio.mono (fun x hx => by have := HW.out.size; omega)
    have HB2 : Hid (Blw w w2) := HW.out.trans hb2
    clear hto hio hb2 HW HH
    go_wp2
    go_ret2
    exact ⟨ao, B.k, cap, f, true, rfl, Or.inl ⟨HG.out, rfl, HTO.out⟩, by omega, HIO.out, HB2.out⟩
  · have HG : Hid (¬ B.Good) := hg
    have hA : Blw w1 (w1.alloc (.cells (nine (fun _ => 0) none) 73)) := (Blw.refl _).alloc _
    have HW : Hid (Blw w (w1.alloc (.cells (nine (fun _ => 0) none) 73))) := hb1.trans hA
    clear hg hb1 hA
    go_wp2
    go_ret2
    exact ⟨none, 0, 0, zf, false, rfl, Or.inr ⟨HG.out, rfl, rfl⟩, by omega, IntsOwn.nil _ _ _ _, HW.out⟩
set_option maxHeartbeats 3200000 in
theorem implBefore_any (b : BV) (B : BD) (Y : Nat → Prop) (w : World) (h : BookAt Y w b B) (hY : ∀ b, Y b → b < w.heap.size) :
    Calls Try.prog 21 #[b.val B] w (GivesI (iOut B (bP B)) w) := by
  have hb0 : Blw w (w.alloc (.cells #[.slice b.a1 B.n b.c1, .slice b.a2 B.k b.c2] 26)) := (Blw.refl _).alloc _
  have HB : Hid (BookAt Y (w.alloc (.cells #[.slice b.a1 B.n b.c1, .slice b.a2 B.k b.c2] 26)) b B) := h.blw hb0
  clear h
  go_enter Try.func21, Try.ntmps21
  go_wp2_with fail
  refine (implRoll_any b B Y _ HB.out (fun x hx => by have := hY x hx; simp; omega)).mono ?_
  rintro e w1 ⟨b1, R, r, rfl, hout, hsz, own, hb1⟩
  have hA : Blw w1 (w1.alloc (.cells #[.slice b1.a1 R.n b1.c1, .slice b1.a2 R.k b1.c2] 26)) := (Blw.refl _).alloc _
  obtain ⟨p0, p1⟩ := get2 (box2 w1 (.slice b1.a1 R.n b1.c1) (.slice b1.a2 R.k b1.c2) 26)
  obtain ⟨X1, X2, d1, d2, hc, hl⟩ := own.ex
  have HO : Hid (gOut B (rbA B) R r) := hout
  have HIO : Hid (IntsOwn (fun x => w.heap.size ≤ x ∧ x < (w1.alloc (.cells #[.slice b1.a1 R.n b1.c1, .slice b1.a2 R.k b1.c2] 26)).heap.size) (w1.alloc (.cells #[.slice b1.a1 R.n b1.c1, .slice b1.a2 R.k b1.c2] 26)) b1.a1 R.n R.c) := (hc.blw hA).mono (fun x hx => by have := (d1 x hx).1; simp only [World.size_alloc] at this ⊢; omega)
  have HW : Hid (Blw w (w1.alloc (.cells #[.slice b1.a1 R.n b1.c1, .slice b1.a2 R.k b1.c2] 26))) := (hb0.trans hb1).trans hA
  clear hout own hc hl hA hb0 hb1 d1 d2 HB
  go_wp2
  go_ret2
  refine ⟨b1.a1, R.n, b1.c1, R.c, r, rfl, ?_, by omega, HIO.out, HW.out⟩
  rcases HO.out with ⟨g, rfl, rfl⟩ | ⟨g, rfl, rfl⟩
  · exact Or.inl ⟨g, rfl, rfl, fun i hi => rfl⟩
  · exact Or.inr ⟨g, rfl, rfl⟩
end Go.Proofs.Ytagjfkkjmgfoiaa
