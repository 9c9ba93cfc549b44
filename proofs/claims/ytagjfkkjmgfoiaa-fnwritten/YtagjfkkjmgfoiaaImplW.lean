/- The program's NewBook and WriteCell. -/
import Derived.Test.YtagjfkkjmgfoiaaGive
import Derived.Test.YtagjfkkjmgfoiaaLawF
namespace Go.Proofs.Ytagjfkkjmgfoiaa
open Go.RowKit
set_option linter.unusedSimpArgs false
set_option linter.unusedVariables false
abbrev z2 : Array Value := #[.slice none 0 0, .slice none 0 0]
abbrev zf : Nat → Int := fun _ => 0
/-- NewBook's answer. -/
def nbOut (n : Nat) (c : Nat → Int) (R : BD) (r : Bool) : Prop :=
  ((n = 8 ∧ ∀ i, i < 8 → wordOK (c i)) ∧ r = true ∧ R = ⟨8, c, 0, zf, zf⟩) ∨ (¬ (n = 8 ∧ ∀ i, i < 8 → wordOK (c i)) ∧ r = false ∧ R = BD.zero)
theorem nbOut_same {n : Nat} {c : Nat → Int} {R R' : BD} {r r' : Bool} (h : nbOut n c R r) (h' : nbOut n c R' r') : R = R' ∧ r = r' := by
  rcases h with ⟨g, rfl, rfl⟩ | ⟨g, rfl, rfl⟩ <;> rcases h' with ⟨g', rfl, rfl⟩ | ⟨g', rfl, rfl⟩
  · exact ⟨rfl, rfl⟩
  · exact absurd g g'
  · exact absurd g' g
  · exact ⟨rfl, rfl⟩
/-- WriteCell's answer. -/
def wcOut (B : BD) (k x : Int) (R : BD) (r : Bool) : Prop :=
  ((B.Good ∧ cellOK k ∧ wordOK x) ∧ r = true ∧ R.n = 8 ∧ R.c = upd B.c k.toNat x ∧ logged B.k B.lc B.lw k (B.c k.toNat) R.k R.lc R.lw) ∨ (¬ (B.Good ∧ cellOK k ∧ wordOK x) ∧ r = false ∧ R = BD.zero)
theorem logged_same {k : Nat} {lc lw : Nat → Int} {x y : Int} {k1 k2 : Nat} {lc1 lw1 lc2 lw2 : Nat → Int} (h : logged k lc lw x y k1 lc1 lw1) (h' : logged k lc lw x y k2 lc2 lw2) : k1 = k2 ∧ lc1 = lc2 ∧ lw1 = lw2 := by
  rcases h with ⟨⟨i, hi, e⟩, rfl, rfl, rfl⟩ | ⟨g, rfl, rfl, rfl⟩ <;> rcases h' with ⟨⟨i', hi', e'⟩, rfl, rfl, rfl⟩ | ⟨g', rfl, rfl, rfl⟩
  · exact ⟨rfl, rfl, rfl⟩
  · exact absurd e (g' i hi)
  · exact absurd e' (g i' hi')
  · exact ⟨rfl, rfl, rfl⟩
theorem BD.ext' {A B : BD} (h1 : A.n = B.n) (h2 : A.c = B.c) (h3 : A.k = B.k) (h4 : A.lc = B.lc) (h5 : A.lw = B.lw) : A = B := by
  cases A; cases B
  simp_all
theorem wcOut_same {B : BD} {k x : Int} {R R' : BD} {r r' : Bool} (h : wcOut B k x R r) (h' : wcOut B k x R' r') : R = R' ∧ r = r' := by
  rcases h with ⟨g, rfl, h1, h2, h3⟩ | ⟨g, rfl, rfl⟩ <;> rcases h' with ⟨g', rfl, h1', h2', h3'⟩ | ⟨g', rfl, rfl⟩
  · obtain ⟨e1, e2, e3⟩ := logged_same h3 h3'
    exact ⟨BD.ext' (h1.trans h1'.symm) (h2.trans h2'.symm) e1 e2 e3, rfl⟩
  · exact absurd g g'
  · exact absurd g' g
  · exact ⟨rfl, rfl⟩
theorem logged_le {k : Nat} {lc lw : Nat → Int} {x y : Int} {k' : Nat} {lc' lw' : Nat → Int} (h : logged k lc lw x y k' lc' lw') : k' ≤ k + 1 := by
  rcases h with ⟨_, rfl, _⟩ | ⟨_, rfl, _⟩ <;> omega
theorem held_boxed {w : World} {bm k : Nat} {c lc lw : Nat → Int} (h : LogAt w bm k lc lw) : Held (w.alloc (.cells (nine c (some bm)) 73)) w.heap.size bm c k lc lw :=
  ⟨row_nine w c (some bm) 73, h.blw ((Blw.refl _).alloc _)⟩
set_option maxHeartbeats 1600000 in
theorem implNew_any (ao : Option Addr) (n cc : Nat) (c : Nat → Int) (Y : Nat → Prop) (w : World) (h : IntsAt Y w ao n c) (hY : ∀ b, Y b → b < w.heap.size) :
    Calls Try.prog 37 #[.slice ao n cc] w (GivesB (nbOut n c) w) := by
  have hb0 : Blw w (w.alloc (.cells z2 26)) := (Blw.refl _).alloc _
  have HB : Hid (BookAt Y (w.alloc (.cells z2 26)) ⟨ao, none, cc, 0⟩ ⟨n, c, 0, zf, zf⟩) := ⟨h.blw hb0, by show (0 : Nat) ≤ _; omega, fun i hi => absurd hi (Nat.not_lt_zero _)⟩
  have r0 := box2 w (.slice none 0 0) (.slice none 0 0) 26
  clear h
  go_enter Try.func37, Try.ntmps37
  go_wp2_with fail
  refine (hold_any ⟨ao, none, cc, 0⟩ ⟨n, c, 0, zf, zf⟩ Y _ HB.out (fun x hx => by have := hY x hx; simp; omega)).mono ?_
  rintro e w1 ⟨h1, hb1⟩
  replace r0 := r0.blw hb1
  replace hb1 := hb0.trans hb1
  clear hb0 HB
  rcases h1 with ⟨bm, hg, rfl, hl, hbm⟩ | ⟨hg, rfl⟩
  · have HG : Hid (n = 8 ∧ ∀ i, i < 8 → wordOK (c i)) := ⟨hg.n, hg.c⟩
    have HH : Hid (Held (w1.alloc (.cells (nine c (some bm)) 73)) w1.heap.size bm c 0 zf zf) := held_boxed hl
    have hA : Blw w1 (w1.alloc (.cells (nine c (some bm)) 73)) := (Blw.refl _).alloc _
    have HR : Hid (Row (w1.alloc (.cells (nine c (some bm)) 73)) w.heap.size 2 (fun i => if i = 0 then .slice none 0 0 else .slice none 0 0)) := r0.blw hA
    have HW : Hid (Blw w (w1.alloc (.cells (nine c (some bm)) 73))) := hb1.trans hA
    clear hg hl hbm r0 hb1 hA
    go_wp2_with fail
    refine (give_any w1.heap.size bm 0 0 c zf zf _ (by omega) (by omega) HH.out.box HH.out.log.ix).mono ?_
    rintro e w2 ⟨b2, rfl, own, hb2⟩
    have R2 := HR.out.blw hb2
    obtain ⟨p0, p1⟩ := get2 R2
    have f0 := R2.frozen 0
    have f1 := R2.frozen 1
    have HO : Hid (BookOwn (fun x => w.heap.size < x ∧ x < w2.heap.size) w2 b2 ⟨8, c, 0, zf, zf⟩) := own.mono (fun x hx => by have := HR.out.lt; omega)
    have HB2 : Hid (Blw w w2) := HW.out.trans hb2
    clear HR HW HH own hb2 R2
    go_wp2
    refine bodyPost_ret (v := .tuple #[b2.val ⟨8, c, 0, zf, zf⟩, .bool true]) (by simp [results, Try.results37, go_sem, p0, p1, BV.val]) rfl ?_
    have hm := set2_mod (X := fun x => x = w.heap.size) w2 rfl (.slice b2.a1 8 b2.c1) (.slice b2.a2 0 b2.c2)
    have hs := hm.size
    exact ⟨b2, _, true, rfl, Or.inl ⟨HG.out, rfl, rfl⟩, by show (8 : Nat) + 0 ≤ _; omega, (HO.out.mod hm (fun x hx e => by omega)).mono (fun x hx => by omega), Mod.blw HB2.out hm (fun i hi => by omega)⟩
  · have HG : Hid (¬ (n = 8 ∧ ∀ i, i < 8 → wordOK (c i))) := fun g => hg ⟨g.1, g.2, fun i hi => absurd hi (Nat.not_lt_zero _), fun i j hi => absurd hi (Nat.not_lt_zero _)⟩
    have hA : Blw w1 (w1.alloc (.cells (nine (fun _ => 0) none) 73)) := (Blw.refl _).alloc _
    replace r0 := r0.blw hA
    obtain ⟨p0, p1⟩ := get2 r0
    have f0 := r0.frozen 0
    have f1 := r0.frozen 1
    have HW : Hid (Blw w (w1.alloc (.cells (nine (fun _ => 0) none) 73))) := hb1.trans hA
    clear hg r0 hb1 hA
    go_wp2
    refine bodyPost_ret (v := .tuple #[BV.zero.val BD.zero, .bool false]) (by simp [results, Try.results37, go_sem, p0, p1, BV.val]) rfl ?_
    exact ⟨BV.zero, BD.zero, false, rfl, Or.inr ⟨HG.out, rfl, rfl⟩, by show (0 : Nat) + 0 ≤ _; omega, BookOwn.zero _ _, set2_blw HW.out (Nat.le_refl _) _ _⟩
set_option maxHeartbeats 3200000 in
theorem implWrite_any (b : BV) (B : BD) (k x : Int) (Y : Nat → Prop) (w : World) (h : BookAt Y w b B) (hY : ∀ b, Y b → b < w.heap.size) :
    Calls Try.prog 30 #[b.val B, .int .i64 k, .int .i64 x] w (GivesB (wcOut B k x) w) := by
  have hb0 : Blw w ((w.alloc (.cells #[.slice b.a1 B.n b.c1, .slice b.a2 B.k b.c2] 26)).alloc (.cells z2 26)) := ((Blw.refl _).alloc _).alloc _
  have HB : Hid (BookAt Y ((w.alloc (.cells #[.slice b.a1 B.n b.c1, .slice b.a2 B.k b.c2] 26)).alloc (.cells z2 26)) b B) := h.blw hb0
  have r0 : Row ((w.alloc (.cells #[.slice b.a1 B.n b.c1, .slice b.a2 B.k b.c2] 26)).alloc (.cells z2 26)) (w.heap.size + 1) 2 (fun i => if i = 0 then .slice none 0 0 else .slice none 0 0) := by
    have := box2 (w.alloc (.cells #[.slice b.a1 B.n b.c1, .slice b.a2 B.k b.c2] 26)) (.slice none 0 0) (.slice none 0 0) 26
    rw [World.size_alloc] at this
    exact this
  clear h
  go_enter Try.func30, Try.ntmps30
  go_wp2_with fail
  refine (hold_any b B Y _ HB.out (fun x hx => by have := hY x hx; simp; omega)).mono ?_
  rintro e w1 ⟨h1, hb1⟩
  replace r0 := r0.blw hb1
  replace hb1 := hb0.trans hb1
  clear hb0 HB
  rcases h1 with ⟨bm, hg, rfl, hl, hbm⟩ | ⟨hg, rfl⟩
  · have HG : Hid B.Good := hg
    have hk8 := hg.k8
    have HH : Hid (Held (w1.alloc (.cells (nine B.c (some bm)) 73)) w1.heap.size bm B.c B.k B.lc B.lw) := held_boxed hl
    have hA : Blw w1 (w1.alloc (.cells (nine B.c (some bm)) 73)) := (Blw.refl _).alloc _
    have HR : Hid (Row (w1.alloc (.cells (nine B.c (some bm)) 73)) (w.heap.size + 1) 2 (fun i => if i = 0 then .slice none 0 0 else .slice none 0 0)) := r0.blw hA
    have HW : Hid (Blw w (w1.alloc (.cells (nine B.c (some bm)) 73))) := hb1.trans hA
    have hz : w.heap.size + 1 < w1.heap.size := r0.lt
    have HZ : Hid (w.heap.size + 1 < w1.heap.size ∧ w.heap.size + 1 < bm) := ⟨hz, by simp at hbm; omega⟩
    clear hg hl hbm r0 hb1 hA hz
    by_cases okk : cellOK k
    · have OKK : Hid (cellOK k) := okk
      clear okk
      go_wp2_with fail
      refine (isCell_yes _ _ OKK.out).mono ?_
      rintro e w' ⟨rfl, rfl⟩
      by_cases okx : wordOK x
      · have OKX : Hid (wordOK x) := okx
        clear okx
        obtain ⟨n, hn, rfl⟩ : ∃ n : Nat, n < 8 ∧ k = n := ⟨k.toNat, by have := OKK.out; unfold cellOK at this; omega, by have := OKK.out; unfold cellOK at this; omega⟩
        go_wp2_with fail
        refine (isWord_yes _ _ OKX.out).mono ?_
        rintro e w' ⟨rfl, rfl⟩
        go_wp2_with fail
        refine (write_any w1.heap.size bm B.k B.c B.lc B.lw n x _ (by omega) hn HG.out.d HH.out).mono ?_
        rintro e w2 ⟨k', lc', lw', rfl, hlg, hh2, hm2⟩
        have hle := logged_le hlg
        have HLG : Hid (logged B.k B.lc B.lw n (B.c n) k' lc' lw') := hlg
        have HR2 : Hid (Row w2 (w.heap.size + 1) 2 (fun i => if i = 0 then .slice none 0 0 else .slice none 0 0)) := HR.out.mod hm2 (by have := HZ.out; omega)
        have HW2 : Hid (Blw w w2) := Mod.blw HW.out hm2 (fun i hi => by have := HZ.out; omega)
        have HH2 : Hid (Held w2 w1.heap.size bm (upd B.c n x) k' lc' lw') := hh2
        clear hlg hh2 hm2 HR HW HH
        go_wp2_with fail
        refine (give_any w1.heap.size bm k' k' (upd B.c n x) lc' lw' _ (by omega) (by omega) HH2.out.box HH2.out.log.ix).mono ?_
        rintro e w3 ⟨b3, rfl, own, hb3⟩
        have R3 := HR2.out.blw hb3
        obtain ⟨p0, p1⟩ := get2 R3
        have f0 := R3.frozen 0
        have f1 := R3.frozen 1
        have HO : Hid (BookOwn (fun x => w.heap.size + 1 < x ∧ x < w3.heap.size) w3 b3 ⟨8, upd B.c n x, k', lc', lw'⟩) := own.mono (fun x hx => by have := HR2.out.lt; omega)
        have HB3 : Hid (Blw w w3) := HW2.out.trans hb3
        clear HR2 HW2 HH2 own hb3 R3
        go_wp2
        refine bodyPost_ret (v := .tuple #[b3.val ⟨8, upd B.c n x, k', lc', lw'⟩, .bool true]) (by simp [results, Try.results30, go_sem, p0, p1, BV.val]) rfl ?_
        have hm := set2_mod (X := fun x => x = w.heap.size + 1) w3 rfl (.slice b3.a1 8 b3.c1) (.slice b3.a2 k' b3.c2)
        have hs := hm.size
        exact ⟨b3, _, true, rfl, Or.inl ⟨⟨HG.out, OKK.out, OKX.out⟩, rfl, rfl, by rw [Int.toNat_natCast], by rw [Int.toNat_natCast]; exact HLG.out⟩, by show (8 : Nat) + k' ≤ _; omega, (HO.out.mod hm (fun x hx e => by omega)).mono (fun x hx => by omega), Mod.blw HB3.out hm (fun i hi => by omega)⟩
      · have OKX : Hid (¬ wordOK x) := okx
        clear okx
        go_wp2_with fail
        refine (isWord_no _ _ OKX.out).mono ?_
        rintro e w' ⟨rfl, rfl⟩
        obtain ⟨p0, p1⟩ := get2 HR.out
        have f0 := HR.out.frozen 0
        have f1 := HR.out.frozen 1
        go_wp2
        refine bodyPost_ret (v := .tuple #[BV.zero.val BD.zero, .bool false]) (by simp [results, Try.results30, go_sem, p0, p1, BV.val]) rfl ?_
        exact ⟨BV.zero, BD.zero, false, rfl, Or.inr ⟨fun g => OKX.out g.2.2, rfl, rfl⟩, by show (0 : Nat) + 0 ≤ _; omega, BookOwn.zero _ _, set2_blw HW.out (Nat.le_succ _) _ _⟩
    · have OKK : Hid (¬ cellOK k) := okk
      clear okk
      go_wp2_with fail
      refine (isCell_no _ _ OKK.out).mono ?_
      rintro e w' ⟨rfl, rfl⟩
      obtain ⟨p0, p1⟩ := get2 HR.out
      have f0 := HR.out.frozen 0
      have f1 := HR.out.frozen 1
      go_wp2
      refine bodyPost_ret (v := .tuple #[BV.zero.val BD.zero, .bool false]) (by simp [results, Try.results30, go_sem, p0, p1, BV.val]) rfl ?_
      exact ⟨BV.zero, BD.zero, false, rfl, Or.inr ⟨fun g => OKK.out g.2.1, rfl, rfl⟩, by show (0 : Nat) + 0 ≤ _; omega, BookOwn.zero _ _, set2_blw HW.out (Nat.le_succ _) _ _⟩
  · have HG : Hid (¬ B.Good) := hg
    have hA : Blw w1 (w1.alloc (.cells (nine (fun _ => 0) none) 73)) := (Blw.refl _).alloc _
    replace r0 := r0.blw hA
    obtain ⟨p0, p1⟩ := get2 r0
    have f0 := r0.frozen 0
    have f1 := r0.frozen 1
    have HW : Hid (Blw w (w1.alloc (.cells (nine (fun _ => 0) none) 73))) := hb1.trans hA
    clear hg r0 hb1 hA
    go_wp2
    refine bodyPost_ret (v := .tuple #[BV.zero.val BD.zero, .bool false]) (by simp [results, Try.results30, go_sem, p0, p1, BV.val]) rfl ?_
    exact ⟨BV.zero, BD.zero, false, rfl, Or.inr ⟨fun g => HG.out g.1, rfl, rfl⟩, by show (0 : Nat) + 0 ≤ _; omega, BookOwn.zero _ _, set2_blw HW.out (Nat.le_succ _) _ _⟩
end Go.Proofs.Ytagjfkkjmgfoiaa
