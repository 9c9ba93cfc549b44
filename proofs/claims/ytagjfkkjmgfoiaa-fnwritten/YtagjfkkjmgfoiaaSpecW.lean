/- The model's 'l3Write'. -/
import Derived.Test.YtagjfkkjmgfoiaaSpecO
import Derived.Test.YtagjfkkjmgfoiaaImplW
namespace Go.Proofs.Ytagjfkkjmgfoiaa
open Go.RowKit
set_option linter.unusedSimpArgs false
set_option linter.unusedVariables false
/-- append(l, pair). -/
theorem pushU {X : Nat → Prop} {W : World} {v : Value} {n : Nat} {f g : Nat → Int} (h : BufU X W v n f g) (hn : n ≤ 1048576) (x y : Int) :
    ∃ ao' cap w', (Builtin.append_ #[24, 24] 24 #[v, .slice (some ⟨W.heap.size, 0, none⟩) 1 1]).run Try.prog (W.alloc (.cells #[.int .i64 x, .int .i64 y] 69)).drew = .ok (.slice ao' (n + 1) cap) w' ∧ BufU (fun b => (X b ∨ W.heap.size < b) ∧ b < w'.heap.size) w' (.slice ao' (n + 1) cap) (n + 1) (snoc n f x) (snoc n g y) ∧ Mod (fun b => v.ownBlock = some b) W w' := by
  have ha : Blw W (W.alloc (.cells #[.int .i64 x, .int .i64 y] 69)).drew := ((Blw.refl W).alloc _).drew
  obtain ⟨a, cap, w', h1, h2, h3⟩ := BufU.append (w := (W.alloc (.cells #[.int .i64 x, .int .i64 y] 69)).drew) (Buf.blw h ha) 1 ((one_undo W x y).blw (Blw.refl _).drew) (by omega) 24
  refine ⟨a, cap, w', h1, (Buf.congr h2 (fun i hi => ?_)).mono (fun b hb => ⟨hb.1.imp id (fun e => ?_), hb.2⟩), (ha.mod _).trans h3⟩
  · by_cases e : i / 2 < n
    · have e2 : i / 2 ≠ n := by omega
      simp [uc, icat, snoc, e, e2]
    · have e2 : i / 2 = n := by omega
      simp [uc, icat, snoc, e2]
  · have : (W.alloc (.cells #[.int .i64 x, .int .i64 y] 69)).drew.heap.size = W.heap.size + 1 := by show (W.alloc _).heap.size = _; simp
    omega
/-- What l3Write leaves. -/
structure Wrote (X1 X2 : Nat → Prop) (w w' : World) (b' : BV) (B R : BD) (n : Nat) (x : Int) : Prop where
  n8 : R.n = 8
  c : R.c = upd B.c n x
  l : logged B.k B.lc B.lw n (B.c n) R.k R.lc R.lw
  own : OwnB X1 (fun y => (X2 y ∨ w.heap.size ≤ y) ∧ y < w'.heap.size) w' b' R
  mod : Mod (fun y => X1 y ∨ X2 y) w w'
theorem wrote_fin {X1 X2 X2' : Nat → Prop} {w W : World} {a2' : Option Addr} {g n c1 c2' k k' : Nat} {c lc lw lc' lw' : Nat → Int} {x : Int} (hX : ∀ y, X1 y ∨ X2 y → y < w.heap.size) (hg : X1 g) (hn : n < 8) (hw : Mod (fun y => X1 y ∨ X2 y) w W) (hz : w.heap.size + 1 < W.heap.size)
    (own : OwnB X1 X2' W ⟨some ⟨g, 0, none⟩, a2', c1, c2'⟩ ⟨8, c, k', lc', lw'⟩) (h2 : ∀ y, X2' y → (X2 y ∨ w.heap.size ≤ y) ∧ y < W.heap.size ∧ y ≠ w.heap.size + 1) (hd : ∀ y, X1 y → ¬ X2 y) (hl : logged k lc lw n (c n) k' lc' lw') :
    Wrote X1 X2 w (((W.setCell ⟨g, n, none⟩ (.int .i64 x)).setCell ⟨w.heap.size + 1, 0, none⟩ (.slice (some ⟨g, 0, none⟩) 8 c1)).setCell ⟨w.heap.size + 1, 1, none⟩ (.slice a2' k' c2')) ⟨some ⟨g, 0, none⟩, a2', c1, c2'⟩ ⟨8, c, k, lc, lw⟩ ⟨8, upd c n x, k', lc', lw'⟩ n x := by
  have m1 : Mod (fun y => y = g) W (W.setCell ⟨g, n, none⟩ (.int .i64 x)) := Mod.setCell (X := fun y => y = g) _ (p := ⟨g, n, none⟩) rfl _
  have m2 := set2_mod (X := fun y => y = w.heap.size + 1) (W.setCell ⟨g, n, none⟩ (.int .i64 x)) rfl (.slice (some ⟨g, 0, none⟩) 8 c1) (.slice a2' k' c2')
  have s1 := m1.size
  have s2 := m2.size
  have hgl := hX g (Or.inl hg)
  refine ⟨rfl, rfl, hl, ⟨⟨by show 8 ≤ _; omega, fun _ => ?_⟩, ?_, fun y hy hh => ?_⟩, ?_⟩
  · obtain ⟨g', hg', e, r⟩ := own.c.2 (by show 0 < 8; omega)
    cases e
    refine ⟨g, hg, rfl, ((r.set n _).congr (fun i hi => ?_)).mod m2 (by omega)⟩
    by_cases e : i = n
    · subst e; simp [upd]
    · simp [e, upd]
  · refine Buf.mono (Buf.mod (Buf.mod own.l m1 (fun y hy e => ?_)) m2 (fun y hy e => ?_)) (fun y hy => ?_)
    · subst e; exact own.d y hg hy
    · exact (h2 y hy).2.2 e
    · exact ⟨(h2 y hy).1, by have := (h2 y hy).2.1; omega⟩
  · rcases hh.1 with h | h
    · exact hd y hy h
    · have := hX y (Or.inl hy); omega
  · exact ((hw.trans (m1.mono (fun y e => Or.inl (e ▸ hg)))).newer m2 (fun i hi => by omega))
set_option maxHeartbeats 6400000 in
theorem l3Write_any (b : BV) (B : BD) (X1 X2 : Nat → Prop) (n : Nat) (x : Int) (w : World) (hn8 : B.n = 8) (hk : B.k ≤ 100) (hn : n < 8) (hX : ∀ y, X1 y ∨ X2 y → y < w.heap.size) (h : OwnB X1 X2 w b B) :
    Calls Try.prog 62 #[b.val B, .int .i64 n, .int .i64 x] w fun e w' => ∃ b' R, e = .returned (b'.val R) ∧ Wrote X1 X2 w w' b' B R n x := by
  obtain ⟨N, c, k, lc, lw⟩ := B
  dsimp only at hn8 hk
  subst hn8
  obtain ⟨g, hgX, ea, hrow⟩ := h.c.2 (by show 0 < 8; omega)
  obtain ⟨a1, a2, c1, c2⟩ := b
  dsimp only at ea
  subst ea
  have hn' : (n : Int) < 8 := by omega
  have H : Hid (OwnB X1 X2 w ⟨some ⟨g, 0, none⟩, a2, c1, c2⟩ ⟨8, c, k, lc, lw⟩) := h
  have HAT : Hid (BookAt (fun y => X1 y ∨ X2 y) w ⟨some ⟨g, 0, none⟩, a2, c1, c2⟩ ⟨8, c, k, lc, lw⟩) := h.at (by show k ≤ _; omega)
  have HD : Hid (∀ y, X1 y → ¬ X2 y) := h.d
  have hb0 : Blw w ((w.alloc (.cells #[.slice (some ⟨g, 0, none⟩) 8 c1, .slice a2 k c2] 26)).alloc (.cells z2 26)) := ((Blw.refl _).alloc _).alloc _
  have r0 := (box2 w (.slice (some ⟨g, 0, none⟩) 8 c1) (.slice a2 k c2) 26).blw ((Blw.refl _).alloc (.cells z2 26))
  have r1 := box2 (w.alloc (.cells #[.slice (some ⟨g, 0, none⟩) 8 c1, .slice a2 k c2] 26)) (.slice none 0 0) (.slice none 0 0) 26
  rw [World.size_alloc] at r1
  have hgw : g < w.heap.size := hX g (Or.inl hgX)
  clear h hrow
  go_enter Try.func62, Try.ntmps62
  go_wp2_with fail
  refine (l3Touched_any ⟨some ⟨g, 0, none⟩, a2, c1, c2⟩ ⟨8, c, k, lc, lw⟩ _ _ hk (HAT.out.blw hb0)).mono ?_
  rintro e w1 ⟨v, rfl, m, f, hto, hm, hbf, hb1⟩
  obtain ⟨ao, cap, rfl, hio⟩ := BufI.own hbf (by dsimp only at hm; omega)
  have HTO : Hid (tOut k lc m f) := hto
  have HIO : Hid (IntsAt _ w1 ao m f) := hio.at
  replace r0 := r0.blw hb1
  replace r1 := r1.blw hb1
  have HW : Hid (Blw w w1) := hb0.trans hb1
  clear hto hbf hb1 hb0 hio HAT
  go_wp2_with fail
  refine (l1Has_any _ _ m f _ _ _ HIO.out).mono ?_
  rintro e w' ⟨r, rfl, hr, rfl⟩
  have HR : Hid (r = true ↔ hasLine m f n) := hr
  have H1 : Hid (OwnB X1 X2 w' ⟨some ⟨g, 0, none⟩, a2, c1, c2⟩ ⟨8, c, k, lc, lw⟩) := H.out.blw HW.out
  have HZ : Hid (w.heap.size + 1 < w'.heap.size) := r1.lt
  clear hr HIO H
  cases r
  · have FR : Hid (∀ t, t < k → lc t ≠ n) := fun t ht e => by
      obtain ⟨i, hi, e2⟩ := (HTO.out.2 n).2 ⟨t, ht, e⟩
      have := HR.out.2 ⟨i, hi, e2⟩
      cases this
    clear HR HTO
    obtain ⟨p0, p1⟩ := get2 r0
    obtain ⟨g', hg', e', hrow⟩ := H1.out.c.2 (by show 0 < 8; omega)
    cases e'
    have pn : w'.cell? ⟨g, n, none⟩ = some (.int .i64 (c n)) := hrow.cell hn
    have hA : Blw w' (w'.alloc (.cells #[.int .i64 n, .int .i64 (c n)] 69)) := (Blw.refl _).alloc _
    have qa : (w'.alloc (.cells #[.int .i64 n, .int .i64 (c n)] 69)).cell? ⟨w.heap.size, 1, none⟩ = some (.slice a2 k c2) := hA.cell p1
    obtain ⟨a2', cap2, w2, hrun, hB, hM⟩ := pushU H1.out.l (show k ≤ 1048576 by omega) n (c n)
    have HRN : Hid _ := hrun
    have hnx : ∀ y, (Value.slice a2 k c2).ownBlock = some y → X2 y := H1.out.l.2
    have hw0 : w.heap.size ≤ w'.heap.size := HW.out.size
    have hM0 : Mod (fun y => X2 y) w' w2 := hM.mono (fun y hy => hnx y hy)
    have r0' := r0.mod hM0 (fun e => by have := hX _ (Or.inr e); omega)
    have r1' := r1.mod hM0 (fun e => by have := hX _ (Or.inr e); omega)
    have hrow2 := hrow.mod hM0 (fun e => HD.out g hgX e)
    obtain ⟨u0, u1⟩ := get2 r0'
    obtain ⟨t0, t1⟩ := get2 r1'
    have fu := r0'.frozen 1
    have f0 := r1'.frozen 0
    have f1 := r1'.frozen 1
    have fn := hrow2.frozen n
    have pn2 : w2.cell? ⟨g, n, none⟩ = some (.int .i64 (c n)) := hrow2.cell hn
    have hne0 : g ≠ w.heap.size := by omega
    have hne1 : g ≠ w.heap.size + 1 := by omega
    have s2 := hM0.size
    -- the world behind the store into the book's box
    have ms : Mod (fun y => y = w.heap.size) w2 (w2.setCell ⟨w.heap.size, 1, none⟩ (.slice a2' (k + 1) cap2)) := Mod.setCell (X := fun y => y = w.heap.size) _ (p := ⟨w.heap.size, 1, none⟩) rfl _
    have ss := ms.size
    have hl0 := HZ.out
    have HF : Hid (Wrote X1 X2 w ((((w2.setCell ⟨w.heap.size, 1, none⟩ (.slice a2' (k + 1) cap2)).setCell ⟨g, n, none⟩ (.int .i64 x)).setCell ⟨w.heap.size + 1, 0, none⟩ (.slice (some ⟨g, 0, none⟩) 8 c1)).setCell ⟨w.heap.size + 1, 1, none⟩ (.slice a2' (k + 1) cap2)) ⟨some ⟨g, 0, none⟩, a2', c1, cap2⟩ ⟨8, c, k, lc, lw⟩ ⟨8, upd c n x, k + 1, snoc k lc n, snoc k lw (c n)⟩ n x) :=
      wrote_fin (X2' := fun b => (X2 b ∨ w'.heap.size < b) ∧ b < w2.heap.size) hX hgX hn (((HW.out.mod _).trans (hM0.mono (fun y hy => Or.inr hy))).newer ms (fun i hi => by omega)) (by omega)
        ⟨(H1.out.c.mod hM0 (fun y hy e => HD.out y hy e)).mod ms (fun y hy e => by have := hX y (Or.inl hy); omega), Buf.mod hB ms (fun y hy e => by
          rcases hy.1 with h | h
          · have := hX y (Or.inr h); omega
          · omega), fun y hy hh => by
          rcases hh.1 with h | h
          · exact HD.out y hy h
          · have := hX y (Or.inl hy); omega⟩
        (fun y hy => by
          rcases hy.1 with h | h
          · have := hX y (Or.inr h)
            exact ⟨Or.inl h, by omega, by omega⟩
          · exact ⟨Or.inr (by omega), by omega, by omega⟩) HD.out (Or.inr ⟨FR.out, rfl, rfl, rfl⟩)
    have u1' : (w2.setCell ⟨w.heap.size, 1, none⟩ (.slice a2' (k + 1) cap2)).cell? ⟨w.heap.size, 1, none⟩ = some (.slice a2' (k + 1) cap2) := by
      have := (r0'.set 1 (.slice a2' (k + 1) cap2)).cell (i := 1) (by omega)
      simpa using this
    have u0' : (w2.setCell ⟨w.heap.size, 1, none⟩ (.slice a2' (k + 1) cap2)).cell? ⟨w.heap.size, 0, none⟩ = some (.slice (some ⟨g, 0, none⟩) 8 c1) := by
      have := (r0'.set 1 (.slice a2' (k + 1) cap2)).cell (i := 0) (by omega)
      simpa using this
    have hS3 : (w2.setCell ⟨w.heap.size, 1, none⟩ (.slice a2' (k + 1) cap2)).cell? ⟨w.heap.size, 0, none⟩ = some (.slice (some ⟨g, 0, none⟩) 8 c1) ∧ (w2.setCell ⟨w.heap.size, 1, none⟩ (.slice a2' (k + 1) cap2)).cell? ⟨g, n, none⟩ = some (.int .i64 (c n)) := ⟨u0', ms.cell pn2 (by show ¬ g = w.heap.size; omega)⟩
    have p0' : ((w2.setCell ⟨w.heap.size, 1, none⟩ (.slice a2' (k + 1) cap2)).setCell ⟨g, n, none⟩ (.int .i64 x)).cell? ⟨w.heap.size, 0, none⟩ = some (.slice (some ⟨g, 0, none⟩) 8 c1) := Mod.cell (Mod.setCell (X := fun y => y = g) _ (p := ⟨g, n, none⟩) rfl _) u0' (by show ¬ w.heap.size = g; omega)
    have p1' : ((w2.setCell ⟨w.heap.size, 1, none⟩ (.slice a2' (k + 1) cap2)).setCell ⟨g, n, none⟩ (.int .i64 x)).cell? ⟨w.heap.size, 1, none⟩ = some (.slice a2' (k + 1) cap2) := Mod.cell (Mod.setCell (X := fun y => y = g) _ (p := ⟨g, n, none⟩) rfl _) u1' (by show ¬ w.heap.size = g; omega)
    have P3 : Hid ((w2.setCell ⟨w.heap.size, 1, none⟩ (.slice a2' (k + 1) cap2)).cell? ⟨g, n, none⟩ = some (.int .i64 (c n))) := hS3.2
    have P0 : Hid _ := p0'
    have P1 : Hid _ := p1'
    have U0 : Hid _ := u0'
    have fn3 : Hid ((w2.setCell ⟨w.heap.size, 1, none⟩ (.slice a2' (k + 1) cap2)).frozen? ⟨g, n, none⟩ = false) := (hrow2.mod ms (by omega)).frozen n
    have hS0 : w'.cell? ⟨w.heap.size, 0, none⟩ = some (.slice (some ⟨g, 0, none⟩) 8 c1) ∧ w'.cell? ⟨g, n, none⟩ = some (.int .i64 (c n)) := ⟨p0, pn⟩
    have hS2 : w2.cell? ⟨w.heap.size, 0, none⟩ = some (.slice (some ⟨g, 0, none⟩) 8 c1) ∧ w2.cell? ⟨g, n, none⟩ = some (.int .i64 (c n)) := ⟨u0, pn2⟩
    clear r0 r1 r0' r1' hrow hrow2 hB hM hrun hnx hM0 H1 HW HD FR hg' ms HZ
    go_wp2_with fail
    have HS3 : Hid _ := hS3
    clear hS3 p0' p1' u0' u1'
    refine wp_region_noPanic ?_
    refine wp_region_held_drew (S := fun w'' => w''.cell? ⟨w.heap.size, 0, none⟩ = some (.slice (some ⟨g, 0, none⟩) 8 c1) ∧ w''.cell? ⟨g, n, none⟩ = some (.int .i64 (c n))) (by kernel_rfl) hS0 (fun hB => ?_)
    clear hB
    refine wpAnyH_take (i := 0) (oi := { dst := some 12, op := Op.fieldAddr 26 (Operand.tmp 3) 1, type := 0, pos := _, after := #[], guard := none }) (v := (.pointer (some ⟨w.heap.size, 1, none⟩))) rfl (by kernel_rfl) (by kernel_rfl) (by kernel_rfl) (fun _ _ _ h => h) (Or.inl ⟨by rfl, fun w' hS => by (try dsimp only at hS); obtain ⟨hS1, hS2⟩ := hS; go_simp⟩) hS0 ?_
    simp only [Act.put, List.setIfInBounds_toArray, List.set_cons_zero, List.set_cons_succ]
    refine wpAnyH_take (i := 2) (oi := { dst := some 14, op := Op.move (Operand.tmp 1), type := 3, pos := _, after := #[], guard := none }) (v := (.int .i64 (n : Int))) rfl (by kernel_rfl) (by kernel_rfl) (by kernel_rfl) (fun _ _ _ h => h) (Or.inl ⟨by rfl, fun w' hS => by (try dsimp only at hS); obtain ⟨hS1, hS2⟩ := hS; go_simp⟩) hS0 ?_
    simp only [Act.put, List.setIfInBounds_toArray, List.set_cons_zero, List.set_cons_succ]
    refine wpAnyH_take (i := 3) (oi := { dst := some 15, op := Op.fieldAddr 26 (Operand.tmp 3) 0, type := 0, pos := _, after := #[], guard := none }) (v := (.pointer (some ⟨w.heap.size, 0, none⟩))) rfl (by kernel_rfl) (by kernel_rfl) (by kernel_rfl) (fun _ _ _ h => h) (Or.inl ⟨by rfl, fun w' hS => by (try dsimp only at hS); obtain ⟨hS1, hS2⟩ := hS; go_simp⟩) hS0 ?_
    simp only [Act.put, List.setIfInBounds_toArray, List.set_cons_zero, List.set_cons_succ]
    refine wpAnyH_take (i := 4) (oi := { dst := some 16, op := Op.load 23 (Operand.tmp 15), type := 23, pos := _, after := #[{ on := 3, ground := Ground.data }], guard := none }) (v := (.slice (some ⟨g, 0, none⟩) 8 c1)) rfl (by kernel_rfl) (by kernel_rfl) (by kernel_rfl) (fun _ _ _ h => h) (Or.inl ⟨by rfl, fun w' hS => by (try dsimp only at hS); obtain ⟨hS1, hS2⟩ := hS; go_simp⟩) hS0 ?_
    simp only [Act.put, List.setIfInBounds_toArray, List.set_cons_zero, List.set_cons_succ]
    refine wpAnyH_take (i := 5) (oi := { dst := some 17, op := Op.move (Operand.tmp 1), type := 3, pos := _, after := #[], guard := none }) (v := (.int .i64 (n : Int))) rfl (by kernel_rfl) (by kernel_rfl) (by kernel_rfl) (fun _ _ _ h => h) (Or.inl ⟨by rfl, fun w' hS => by (try dsimp only at hS); obtain ⟨hS1, hS2⟩ := hS; go_simp⟩) hS0 ?_
    simp only [Act.put, List.setIfInBounds_toArray, List.set_cons_zero, List.set_cons_succ]
    refine wpAnyH_take (i := 6) (oi := { dst := some 18, op := Op.indexAddr 23 (Operand.tmp 16) (Operand.tmp 17), type := 0, pos := _, after := #[{ on := 4, ground := Ground.data }, { on := 5, ground := Ground.data }], guard := none }) (v := (.pointer (some ⟨g, n, none⟩))) rfl (by kernel_rfl) (by kernel_rfl) (by kernel_rfl) (fun _ _ _ h => h) (Or.inl ⟨by rfl, fun w' hS => by (try dsimp only at hS); obtain ⟨hS1, hS2⟩ := hS; go_simp⟩) hS0 ?_
    simp only [Act.put, List.setIfInBounds_toArray, List.set_cons_zero, List.set_cons_succ]
    refine wpAnyH_take (i := 7) (oi := { dst := some 19, op := Op.load 3 (Operand.tmp 18), type := 3, pos := _, after := #[{ on := 6, ground := Ground.data }], guard := none }) (v := (.int .i64 (c n))) rfl (by kernel_rfl) (by kernel_rfl) (by kernel_rfl) (fun _ _ _ h => h) (Or.inl ⟨by rfl, fun w' hS => by (try dsimp only at hS); obtain ⟨hS1, hS2⟩ := hS; go_simp⟩) hS0 ?_
    simp only [Act.put, List.setIfInBounds_toArray, List.set_cons_zero, List.set_cons_succ]
    refine wpAnyH_take (i := 8) (oi := { dst := some 20, op := Op.build 69 #[(0, Operand.tmp 14), (1, Operand.tmp 19)], type := 69, pos := _, after := #[{ on := 2, ground := Ground.data }, { on := 7, ground := Ground.data }], guard := none }) (v := (.agg #[.int .i64 (n : Int), .int .i64 (c n)])) rfl (by kernel_rfl) (by kernel_rfl) (by kernel_rfl) (fun _ _ _ h => h) (Or.inl ⟨by rfl, fun w' hS => by (try dsimp only at hS); obtain ⟨hS1, hS2⟩ := hS; go_simp⟩) hS0 ?_
    simp only [Act.put, List.setIfInBounds_toArray, List.set_cons_zero, List.set_cons_succ]
    refine wpAnyH_ready (rs := [1, 9]) (by kernel_rfl) (by simp) ?_
    refine AllReadyH.cons (o := { dst := some 13, op := Op.load 24 (Operand.tmp 12), type := 24, pos := _, after := #[{ on := 0, ground := Ground.data }], guard := none }) rfl (fun K hK => ?_) (AllReadyH.cons (o := { dst := some 21, op := Op.buildSlice 24 1 #[(0, Operand.tmp 20)], type := 24, pos := _, after := #[{ on := 8, ground := Ground.data }], guard := none }) rfl (fun K hK => ?_) AllReadyH.nil)
    · go_simp
      refine hK.out _ _ hS0 (fun hB => ?_)
      clear hK K hB
      try simp only [Act.put, List.setIfInBounds_toArray, List.set_cons_zero, List.set_cons_succ]
      refine wpAnyH_ready (rs := [9]) (by kernel_rfl) (by simp) ?_
      refine AllReadyH.cons (o := { dst := some 21, op := Op.buildSlice 24 1 #[(0, Operand.tmp 20)], type := 24, pos := _, after := #[{ on := 8, ground := Ground.data }], guard := none }) rfl (fun K hK => ?_) AllReadyH.nil
      go_simp
      refine hK.out _ _ ⟨hA.cell hS0.1, hA.cell hS0.2⟩ (fun hB => ?_)
      clear hK K hB
      try simp only [Act.put, List.setIfInBounds_toArray, List.set_cons_zero, List.set_cons_succ]
      refine wpAnyH_ready (rs := [10]) (by kernel_rfl) (by simp) ?_
      refine AllReadyH.cons (o := { dst := some 22, op := Op.call { callee := Callee.builtin Builtin.append, args := #[Operand.tmp 13, Operand.tmp 21], argTypes := #[24, 24] }, type := 24, pos := _, after := #[{ on := 1, ground := Ground.data }, { on := 9, ground := Ground.data }], guard := none }) rfl (fun K hK => ?_) AllReadyH.nil
      refine step_appIs 13 21 24 (by decide +kernel) ?_
      refine ⟨_, _, HRN.out, ?_⟩
      refine hK.out _ _ hS2 (fun hB => ?_)
      clear hK K hB
      try simp only [Act.put, List.setIfInBounds_toArray, List.set_cons_zero, List.set_cons_succ]
      refine wpAnyH_take (i := 11) (oi := { dst := some 23, op := Op.fieldAddr 26 (Operand.tmp 3) 1, type := 0, pos := _, after := #[{ on := 0, ground := Ground.phase }, { on := 1, ground := Ground.phase }, { on := 2, ground := Ground.phase }, { on := 3, ground := Ground.phase }, { on := 4, ground := Ground.phase }, { on := 5, ground := Ground.phase }, { on := 6, ground := Ground.phase }, { on := 7, ground := Ground.phase }, { on := 8, ground := Ground.phase }, { on := 9, ground := Ground.phase }, { on := 10, ground := Ground.phase }], guard := none }) (v := (.pointer (some ⟨w.heap.size, 1, none⟩))) rfl (by kernel_rfl) (by kernel_rfl) (by kernel_rfl) (fun _ _ _ h => h) (Or.inl ⟨by rfl, fun w' hS => by (try dsimp only at hS); obtain ⟨hS1, hS2⟩ := hS; go_simp⟩) hS2 ?_
      simp only [Act.put, List.setIfInBounds_toArray, List.set_cons_zero, List.set_cons_succ]
      refine wpAnyH_ready (rs := [12]) (by kernel_rfl) (by simp) ?_
      refine AllReadyH.cons (o := { dst := none, op := Op.store 24 (Operand.tmp 23) (Operand.tmp 22), type := 0, pos := _, after := #[{ on := 11, ground := Ground.data }, { on := 10, ground := Ground.data }, { on := 10, ground := Ground.chain }, { on := 0, ground := Ground.phase }, { on := 1, ground := Ground.phase }, { on := 2, ground := Ground.phase }, { on := 3, ground := Ground.phase }, { on := 4, ground := Ground.phase }, { on := 5, ground := Ground.phase }, { on := 6, ground := Ground.phase }, { on := 7, ground := Ground.phase }, { on := 8, ground := Ground.phase }, { on := 9, ground := Ground.phase }, { on := 10, ground := Ground.phase }], guard := none }) rfl (fun K hK => ?_) AllReadyH.nil
      go_simp
      refine hK.out _ _ HS3.out (fun hB => ?_)
      clear hK K hB
      try simp only [Act.put, List.setIfInBounds_toArray, List.set_cons_zero, List.set_cons_succ]
      refine wpAnyH_done (by kernel_rfl) ?_ _
      refine NoPanic.normal ?_
      have q3 := P3.out
      have q0 := P0.out
      have q1 := P1.out
      have q4 := U0.out
      have q5 := fn3.out
      go_wp2
      exact bodyPost_ret (v := .agg #[.slice (some ⟨g, 0, none⟩) 8 c1, .slice a2' (k + 1) cap2]) (by simp [results, Try.results62, go_sem, t0, t1, hne0, hne1]) rfl ⟨_, _, rfl, HF.out⟩
    · go_simp
      refine hK.out _ _ ⟨hA.cell hS0.1, hA.cell hS0.2⟩ (fun hB => ?_)
      clear hK K hB
      try simp only [Act.put, List.setIfInBounds_toArray, List.set_cons_zero, List.set_cons_succ]
      refine wpAnyH_ready (rs := [1]) (by kernel_rfl) (by simp) ?_
      refine AllReadyH.cons (o := { dst := some 13, op := Op.load 24 (Operand.tmp 12), type := 24, pos := _, after := #[{ on := 0, ground := Ground.data }], guard := none }) rfl (fun K hK => ?_) AllReadyH.nil
      go_simp
      refine hK.out _ _ ⟨hA.cell hS0.1, hA.cell hS0.2⟩ (fun hB => ?_)
      clear hK K hB
      try simp only [Act.put, List.setIfInBounds_toArray, List.set_cons_zero, List.set_cons_succ]
      refine wpAnyH_ready (rs := [10]) (by kernel_rfl) (by simp) ?_
      refine AllReadyH.cons (o := { dst := some 22, op := Op.call { callee := Callee.builtin Builtin.append, args := #[Operand.tmp 13, Operand.tmp 21], argTypes := #[24, 24] }, type := 24, pos := _, after := #[{ on := 1, ground := Ground.data }, { on := 9, ground := Ground.data }], guard := none }) rfl (fun K hK => ?_) AllReadyH.nil
      refine step_appIs 13 21 24 (by decide +kernel) ?_
      refine ⟨_, _, HRN.out, ?_⟩
      refine hK.out _ _ hS2 (fun hB => ?_)
      clear hK K hB
      try simp only [Act.put, List.setIfInBounds_toArray, List.set_cons_zero, List.set_cons_succ]
      refine wpAnyH_take (i := 11) (oi := { dst := some 23, op := Op.fieldAddr 26 (Operand.tmp 3) 1, type := 0, pos := _, after := #[{ on := 0, ground := Ground.phase }, { on := 1, ground := Ground.phase }, { on := 2, ground := Ground.phase }, { on := 3, ground := Ground.phase }, { on := 4, ground := Ground.phase }, { on := 5, ground := Ground.phase }, { on := 6, ground := Ground.phase }, { on := 7, ground := Ground.phase }, { on := 8, ground := Ground.phase }, { on := 9, ground := Ground.phase }, { on := 10, ground := Ground.phase }], guard := none }) (v := (.pointer (some ⟨w.heap.size, 1, none⟩))) rfl (by kernel_rfl) (by kernel_rfl) (by kernel_rfl) (fun _ _ _ h => h) (Or.inl ⟨by rfl, fun w' hS => by (try dsimp only at hS); obtain ⟨hS1, hS2⟩ := hS; go_simp⟩) hS2 ?_
      simp only [Act.put, List.setIfInBounds_toArray, List.set_cons_zero, List.set_cons_succ]
      refine wpAnyH_ready (rs := [12]) (by kernel_rfl) (by simp) ?_
      refine AllReadyH.cons (o := { dst := none, op := Op.store 24 (Operand.tmp 23) (Operand.tmp 22), type := 0, pos := _, after := #[{ on := 11, ground := Ground.data }, { on := 10, ground := Ground.data }, { on := 10, ground := Ground.chain }, { on := 0, ground := Ground.phase }, { on := 1, ground := Ground.phase }, { on := 2, ground := Ground.phase }, { on := 3, ground := Ground.phase }, { on := 4, ground := Ground.phase }, { on := 5, ground := Ground.phase }, { on := 6, ground := Ground.phase }, { on := 7, ground := Ground.phase }, { on := 8, ground := Ground.phase }, { on := 9, ground := Ground.phase }, { on := 10, ground := Ground.phase }], guard := none }) rfl (fun K hK => ?_) AllReadyH.nil
      go_simp
      refine hK.out _ _ HS3.out (fun hB => ?_)
      clear hK K hB
      try simp only [Act.put, List.setIfInBounds_toArray, List.set_cons_zero, List.set_cons_succ]
      refine wpAnyH_done (by kernel_rfl) ?_ _
      refine NoPanic.normal ?_
      have q3 := P3.out
      have q0 := P0.out
      have q1 := P1.out
      have q4 := U0.out
      have q5 := fn3.out
      go_wp2
      exact bodyPost_ret (v := .agg #[.slice (some ⟨g, 0, none⟩) 8 c1, .slice a2' (k + 1) cap2]) (by simp [results, Try.results62, go_sem, t0, t1, hne0, hne1]) rfl ⟨_, _, rfl, HF.out⟩
  · have HIT : Hid (∃ t, t < k ∧ lc t = n) := (HTO.out.2 n).1 (HR.out.1 rfl)
    clear HR HTO
    obtain ⟨p0, p1⟩ := get2 r0
    obtain ⟨t0, t1⟩ := get2 r1
    have f0 := r1.frozen 0
    have f1 := r1.frozen 1
    obtain ⟨g', hg', e', hrow⟩ := H1.out.c.2 (by show 0 < 8; omega)
    cases e'
    have pn : w'.cell? ⟨g, n, none⟩ = some (.int .i64 (c n)) := hrow.cell hn
    have fn := hrow.frozen n
    have hne0 : g ≠ w.heap.size := by omega
    have hne1 : g ≠ w.heap.size + 1 := by omega
    clear r0 r1 hrow hg'
    have p0' : (w'.setCell ⟨g, n, none⟩ (.int .i64 x)).cell? ⟨w.heap.size, 0, none⟩ = some (.slice (some ⟨g, 0, none⟩) 8 c1) := Mod.cell (Mod.setCell (X := fun y => y = g) _ (p := ⟨g, n, none⟩) rfl _) p0 (by show ¬ w.heap.size = g; omega)
    have p1' : (w'.setCell ⟨g, n, none⟩ (.int .i64 x)).cell? ⟨w.heap.size, 1, none⟩ = some (.slice a2 k c2) := Mod.cell (Mod.setCell (X := fun y => y = g) _ (p := ⟨g, n, none⟩) rfl _) p1 (by show ¬ w.heap.size = g; omega)
    have HF : Hid _ := wrote_fin (x := x) (lc := lc) (lw := lw) (k := k) hX hgX hn (HW.out.mod _) HZ.out H1.out (fun y hy => ⟨Or.inl hy, by have := hX y (Or.inr hy); have := HZ.out; omega, by have := hX y (Or.inr hy); omega⟩) HD.out (Or.inl ⟨HIT.out, rfl, rfl, rfl⟩)
    clear H1 HW HD HIT HZ
    go_wp2
    exact bodyPost_ret (v := .agg #[.slice (some ⟨g, 0, none⟩) 8 c1, .slice a2 k c2]) (by simp [results, Try.results62, go_sem, t0, t1]) rfl ⟨_, _, rfl, HF.out⟩
end Go.Proofs.Ytagjfkkjmgfoiaa
