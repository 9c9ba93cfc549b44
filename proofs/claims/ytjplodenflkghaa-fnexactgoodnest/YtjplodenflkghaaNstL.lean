/- Nests: what they read as, what is owned; compared, marked, held. -/
import Derived.Test.YtjplodenflkghaaTabL
import Derived.Test.YtjplodenflkghaaLawB
import Derived.Test.YtjplodenflkghaaWkL
namespace Go.Proofs.Ytjplodenflkghaa
open Go.RowKit
set_option linter.unusedSimpArgs false
set_option linter.unusedVariables false
/-- What a nest holds: two tables. -/
structure ND where
  G : BD
  H : BD
abbrev ND.zero : ND := ⟨BD.zero, BD.zero⟩
structure NV where
  g : BV
  h : BV
abbrev NV.zero : NV := ⟨BV.zero, BV.zero⟩
abbrev NV.cells (v : NV) (D : ND) : Array Value := #[.slice v.g.a1 D.G.n v.g.c1, .slice v.g.a2 D.G.D.n v.g.c2, .slice v.h.a1 D.H.n v.h.c1, .slice v.h.a2 D.H.D.n v.h.c2]
abbrev NV.val (v : NV) (D : ND) : Value := .agg (v.cells D)
abbrev nb (v : NV) (D : ND) : Nat → Value := fun i => if i = 0 then .slice v.g.a1 D.G.n v.g.c1 else if i = 1 then .slice v.g.a2 D.G.D.n v.g.c2 else if i = 2 then .slice v.h.a1 D.H.n v.h.c1 else .slice v.h.a2 D.H.D.n v.h.c2
structure NAt (Y : Nat → Prop) (w : World) (v : NV) (D : ND) : Prop where
  g : BookAt Y w v.g D.G
  h : BookAt Y w v.h D.H
structure NOwn (X : Nat → Prop) (w : World) (v : NV) (D : ND) : Prop where
  ex : ∃ X1 X2 : Nat → Prop, (∀ b, X1 b → X b ∧ ¬ X2 b) ∧ (∀ b, X2 b → X b) ∧ BookOwn X1 w v.g D.G ∧ BookOwn X2 w v.h D.H
theorem NAt.blw {Y : Nat → Prop} {w w' : World} {v : NV} {D : ND} (h : NAt Y w v D) (hb : Blw w w') : NAt Y w' v D := ⟨h.g.blw hb, h.h.blw hb⟩
theorem NAt.mod {X Y : Nat → Prop} {w w' : World} {v : NV} {D : ND} (h : NAt Y w v D) (hb : Mod X w w') (hxy : ∀ k, Y k → ¬ X k) : NAt Y w' v D := ⟨h.g.mod hb hxy, h.h.mod hb hxy⟩
theorem NAt.mono {X Y : Nat → Prop} {w : World} {v : NV} {D : ND} (h : NAt X w v D) (hxy : ∀ b, X b → Y b) : NAt Y w v D := ⟨h.g.mono hxy, h.h.mono hxy⟩
theorem NOwn.at {X : Nat → Prop} {w : World} {v : NV} {D : ND} (h : NOwn X w v D) : NAt X w v D := by
  obtain ⟨X1, X2, d1, d2, hg, hh⟩ := h.ex
  exact ⟨hg.at.mono (fun b hb => (d1 b hb).1), hh.at.mono d2⟩
theorem NOwn.mod {X Z : Nat → Prop} {w w' : World} {v : NV} {D : ND} (h : NOwn X w v D) (hb : Mod Z w w') (hxz : ∀ b, X b → ¬ Z b) : NOwn X w' v D := by
  obtain ⟨X1, X2, d1, d2, hg, hh⟩ := h.ex
  exact ⟨X1, X2, d1, d2, hg.mod hb (fun b hx => hxz b (d1 b hx).1), hh.mod hb (fun b hx => hxz b (d2 b hx))⟩
theorem NOwn.blw {X : Nat → Prop} {w w' : World} {v : NV} {D : ND} (h : NOwn X w v D) (hb : Blw w w') : NOwn X w' v D := h.mod (hb.mod (fun _ => False)) (fun _ _ => id)
theorem NOwn.mono {X Y : Nat → Prop} {w : World} {v : NV} {D : ND} (h : NOwn X w v D) (hxy : ∀ b, X b → Y b) : NOwn Y w v D := by
  obtain ⟨X1, X2, d1, d2, hg, hh⟩ := h.ex
  exact ⟨X1, X2, fun b hb => ⟨hxy b (d1 b hb).1, (d1 b hb).2⟩, fun b hb => hxy b (d2 b hb), hg, hh⟩
theorem NOwn.zero (X : Nat → Prop) (w : World) : NOwn X w NV.zero ND.zero := ⟨fun _ => False, fun _ => False, fun _ h => h.elim, fun _ h => h.elim, BookOwn.zero _ _, BookOwn.zero _ _⟩
abbrev BD.small (B : BD) : Prop := B.n + (B.D.n + B.D.tot) ≤ 1048576
def ND.marked (D : ND) (k : Int) : ND := ⟨D.G.marked k, D.H.marked (k + D.G.total)⟩
def ND.total (D : ND) : Nat := D.G.total + D.H.total
def ND.small (D : ND) : Prop := D.G.small ∧ D.H.small
theorem total_small {B : BD} (h : B.small) : B.total ≤ 2097152 := by unfold BD.small at h; unfold BD.total; omega
set_option maxHeartbeats 1600000 in
theorem szBookL_any (b : BV) (B : BD) (Y : Nat → Prop) (left : Int) (w : World) (hl0 : 0 ≤ left) (hl1 : left ≤ 1048576) (h : BookAt Y w b B) :
    Calls Try.prog 133 #[b.val B, .int .i64 left] w fun e w' => ∃ r : Int, e = .returned (.int .i64 r) ∧ Left left (B.n + (B.D.n + B.D.tot) : Nat) r ∧ Blw w w' := by
  have hn := h.c.1
  have HPS : Hid (PSAt Y w b.a2 B.D) := h.l
  clear h
  obtain ⟨n, c, ⟨k, len, lc, lw⟩⟩ := B
  dsimp only at hn
  go_enter Try.func133, Try.ntmps133
  go_wp2_with fail
  refine (szIntS_any _ _ _ _ _ hn hl0 hl1).mono ?_
  rintro e w1 ⟨r, rfl, hr, hb1⟩
  have rb := (box2 w (.slice b.a1 n b.c1) (.slice b.a2 k b.c2) 89).blw hb1
  obtain ⟨p0, p1⟩ := get2 rb
  replace hb1 : Blw w w1 := ((Blw.refl _).alloc _).trans hb1
  clear rb
  rcases hr with rfl | ⟨g0, g1⟩
  · clear p0 p1
    go_wp2
    go_ret
    exact ⟨_, rfl, Or.inl rfl, hb1⟩
  · have hnn : ¬ r < 0 := by omega
    go_wp2_with fail
    clear p0 p1
    refine (szSS_any _ _ ⟨k, len, lc, lw⟩ Y _ _ (by omega) (by omega) (HPS.out.blw hb1)).mono ?_
    rintro e w2 ⟨r2, rfl, hr2, hb2⟩
    replace hb2 := hb1.trans hb2
    clear hb1 hnn
    rcases hr2 with rfl | ⟨g2, g3⟩
    · go_wp2
      go_ret
      exact ⟨_, rfl, Or.inl rfl, hb2⟩
    · have hnn : ¬ r2 < 0 := by omega
      go_wp2
      go_ret
      exact ⟨_, rfl, Or.inr ⟨g2, by omega⟩, hb2⟩
set_option maxHeartbeats 1600000 in
theorem szNest_any (v : NV) (D : ND) (Y : Nat → Prop) (left : Int) (w : World) (hl0 : 0 ≤ left) (hl1 : left ≤ 1048576) (h : NAt Y w v D) :
    Calls Try.prog 69 #[v.val D, .int .i64 left] w fun e w' => ∃ r : Int, e = .returned (.int .i64 r) ∧ Left left ((D.G.n + (D.G.D.n + D.G.D.tot) + (D.H.n + (D.H.D.n + D.H.D.tot))) : Nat) r ∧ Blw w w' := by
  have hb0 : Blw w (w.alloc (.cells #[.slice v.g.a1 D.G.n v.g.c1, .slice v.g.a2 D.G.D.n v.g.c2, .slice v.h.a1 D.H.n v.h.c1, .slice v.h.a2 D.H.D.n v.h.c2] 91)) := (Blw.refl _).alloc _
  have HN : Hid (NAt Y (w.alloc (.cells #[.slice v.g.a1 D.G.n v.g.c1, .slice v.g.a2 D.G.D.n v.g.c2, .slice v.h.a1 D.H.n v.h.c1, .slice v.h.a2 D.H.D.n v.h.c2] 91)) v D) := h.blw hb0
  have HR : Hid (Row (w.alloc (.cells #[.slice v.g.a1 D.G.n v.g.c1, .slice v.g.a2 D.G.D.n v.g.c2, .slice v.h.a1 D.H.n v.h.c1, .slice v.h.a2 D.H.D.n v.h.c2] 91)) w.heap.size 4 (nb v D)) := box4 w _ _ _ _ 91
  have HB : Hid (Blw w (w.alloc (.cells #[.slice v.g.a1 D.G.n v.g.c1, .slice v.g.a2 D.G.D.n v.g.c2, .slice v.h.a1 D.H.n v.h.c1, .slice v.h.a2 D.H.D.n v.h.c2] 91))) := hb0
  clear h hb0
  go_enter Try.func69, Try.ntmps69
  obtain ⟨p0, p1, p2, p3⟩ := get4 HR.out
  go_wp2_with fail
  clear p0 p1 p2 p3
  refine (szBookL_any v.g D.G Y left _ hl0 hl1 HN.out.g).mono ?_
  rintro e w1 ⟨r, rfl, hr, hb1⟩
  replace HN : Hid (NAt Y w1 v D) := HN.out.blw hb1
  replace HR : Hid (Row w1 w.heap.size 4 (nb v D)) := HR.out.blw hb1
  replace HB : Hid (Blw w w1) := HB.out.trans hb1
  clear hb1
  rcases hr with rfl | ⟨g0, g1⟩
  · go_wp2
    go_ret
    exact ⟨_, rfl, Or.inl rfl, HB.out⟩
  · have hnn : ¬ r < 0 := by omega
    have hr1 : r ≤ 1048576 := by omega
    have G1 : Hid (r + (D.G.n + (D.G.D.n + D.G.D.tot) : Nat) ≤ left) := g1
    clear g1
    obtain ⟨p0, p1, p2, p3⟩ := get4 HR.out
    go_wp2_with fail
    clear p0 p1 p2 p3
    refine (szBookL_any v.h D.H Y r _ g0 hr1 HN.out.h).mono ?_
    rintro e w2 ⟨r2, rfl, hr2, hb2⟩
    replace HB : Hid (Blw w w2) := HB.out.trans hb2
    clear hb2 hnn HR HN
    rcases hr2 with rfl | ⟨g2, g3⟩
    · go_wp2
      go_ret
      exact ⟨_, rfl, Or.inl rfl, HB.out⟩
    · have hnn : ¬ r2 < 0 := by omega
      have G3 : Hid (r2 + (D.H.n + (D.H.D.n + D.H.D.tot) : Nat) ≤ r) := g3
      clear g3
      go_wp2
      go_ret
      exact ⟨_, rfl, Or.inr ⟨g2, by have := G1.out; have := G3.out; omega⟩, HB.out⟩
set_option maxHeartbeats 1600000 in
theorem eqNest_same (v u : NV) (D : ND) {X Y : Nat → Prop} (w : World) (h1 : NAt X w v D) (h2 : NAt Y w u D) :
    Calls Try.prog 72 #[v.val D, u.val D] w fun e w' => e = .returned (.bool true) ∧ Blw w w' := by
  have hb0 : Blw w ((w.alloc (.cells #[.slice v.g.a1 D.G.n v.g.c1, .slice v.g.a2 D.G.D.n v.g.c2, .slice v.h.a1 D.H.n v.h.c1, .slice v.h.a2 D.H.D.n v.h.c2] 60)).alloc (.cells #[.slice u.g.a1 D.G.n u.g.c1, .slice u.g.a2 D.G.D.n u.g.c2, .slice u.h.a1 D.H.n u.h.c1, .slice u.h.a2 D.H.D.n u.h.c2] 60)) := ((Blw.refl _).alloc _).alloc _
  have H1 : Hid (NAt X ((w.alloc (.cells #[.slice v.g.a1 D.G.n v.g.c1, .slice v.g.a2 D.G.D.n v.g.c2, .slice v.h.a1 D.H.n v.h.c1, .slice v.h.a2 D.H.D.n v.h.c2] 60)).alloc (.cells #[.slice u.g.a1 D.G.n u.g.c1, .slice u.g.a2 D.G.D.n u.g.c2, .slice u.h.a1 D.H.n u.h.c1, .slice u.h.a2 D.H.D.n u.h.c2] 60)) v D) := h1.blw hb0
  have H2 : Hid (NAt Y ((w.alloc (.cells #[.slice v.g.a1 D.G.n v.g.c1, .slice v.g.a2 D.G.D.n v.g.c2, .slice v.h.a1 D.H.n v.h.c1, .slice v.h.a2 D.H.D.n v.h.c2] 60)).alloc (.cells #[.slice u.g.a1 D.G.n u.g.c1, .slice u.g.a2 D.G.D.n u.g.c2, .slice u.h.a1 D.H.n u.h.c1, .slice u.h.a2 D.H.D.n u.h.c2] 60)) u D) := h2.blw hb0
  have R1 : Hid (Row ((w.alloc (.cells #[.slice v.g.a1 D.G.n v.g.c1, .slice v.g.a2 D.G.D.n v.g.c2, .slice v.h.a1 D.H.n v.h.c1, .slice v.h.a2 D.H.D.n v.h.c2] 60)).alloc (.cells #[.slice u.g.a1 D.G.n u.g.c1, .slice u.g.a2 D.G.D.n u.g.c2, .slice u.h.a1 D.H.n u.h.c1, .slice u.h.a2 D.H.D.n u.h.c2] 60)) w.heap.size 4 (nb v D)) := (box4 w _ _ _ _ 60).blw ((Blw.refl _).alloc _)
  have r2 := box4 (w.alloc (.cells #[.slice v.g.a1 D.G.n v.g.c1, .slice v.g.a2 D.G.D.n v.g.c2, .slice v.h.a1 D.H.n v.h.c1, .slice v.h.a2 D.H.D.n v.h.c2] 60)) (.slice u.g.a1 D.G.n u.g.c1) (.slice u.g.a2 D.G.D.n u.g.c2) (.slice u.h.a1 D.H.n u.h.c1) (.slice u.h.a2 D.H.D.n u.h.c2) 60
  rw [World.size_alloc] at r2
  have R2 : Hid (Row ((w.alloc (.cells #[.slice v.g.a1 D.G.n v.g.c1, .slice v.g.a2 D.G.D.n v.g.c2, .slice v.h.a1 D.H.n v.h.c1, .slice v.h.a2 D.H.D.n v.h.c2] 60)).alloc (.cells #[.slice u.g.a1 D.G.n u.g.c1, .slice u.g.a2 D.G.D.n u.g.c2, .slice u.h.a1 D.H.n u.h.c1, .slice u.h.a2 D.H.D.n u.h.c2] 60)) (w.heap.size + 1) 4 (nb u D)) := r2
  have HB : Hid (Blw w ((w.alloc (.cells #[.slice v.g.a1 D.G.n v.g.c1, .slice v.g.a2 D.G.D.n v.g.c2, .slice v.h.a1 D.H.n v.h.c1, .slice v.h.a2 D.H.D.n v.h.c2] 60)).alloc (.cells #[.slice u.g.a1 D.G.n u.g.c1, .slice u.g.a2 D.G.D.n u.g.c2, .slice u.h.a1 D.H.n u.h.c1, .slice u.h.a2 D.H.D.n u.h.c2] 60))) := hb0
  clear h1 h2 r2 hb0
  go_enter Try.func72, Try.ntmps72
  obtain ⟨p0, p1, p2, p3⟩ := get4 R1.out
  obtain ⟨q0, q1, q2, q3⟩ := get4 R2.out
  go_wp2_with fail
  clear p0 p1 p2 p3 q0 q1 q2 q3
  refine (eqBook_same v.g u.g D.G _ H1.out.g H2.out.g).mono ?_
  rintro e w1 ⟨rfl, hb1⟩
  replace H1 : Hid (NAt X w1 v D) := H1.out.blw hb1
  replace H2 : Hid (NAt Y w1 u D) := H2.out.blw hb1
  replace R1 : Hid (Row w1 w.heap.size 4 (nb v D)) := R1.out.blw hb1
  replace R2 : Hid (Row w1 (w.heap.size + 1) 4 (nb u D)) := R2.out.blw hb1
  replace HB : Hid (Blw w w1) := HB.out.trans hb1
  clear hb1
  obtain ⟨p0, p1, p2, p3⟩ := get4 R1.out
  obtain ⟨q0, q1, q2, q3⟩ := get4 R2.out
  go_wp2_with fail
  clear p0 p1 p2 p3 q0 q1 q2 q3
  refine (eqBook_same v.h u.h D.H _ H1.out.h H2.out.h).mono ?_
  rintro e w2 ⟨rfl, hb1⟩
  replace HB : Hid (Blw w w2) := HB.out.trans hb1
  clear hb1 H1 H2 R1 R2
  go_wp2
  go_ret
  exact ⟨rfl, HB.out⟩
set_option maxHeartbeats 1600000 in
theorem markBookK_any (b : BV) (B : BD) (X : Nat → Prop) (k0 : Int) (w : World) (hS : B.n + (B.D.n + B.D.tot) ≤ 1048576) (h0 : 0 ≤ k0) (h1 : k0 ≤ 16777216) (hX : ∀ b, X b → b < w.heap.size) (h : BookOwn X w b B) :
    Calls Try.prog 75 #[b.val B, .int .i64 k0] w fun e w' => e = .returned (.int .i64 (k0 + B.total)) ∧ BookOwn X w' b (B.marked k0) ∧ Mod X w w' := by
  obtain ⟨n, c, ⟨k, len, lc, lw⟩⟩ := B
  dsimp only at hS
  obtain ⟨X1, X2, d1, d2, hc, hl⟩ := h.ex
  have HC : Hid (IntsOwn X1 w b.a1 n c) := hc
  have HL : Hid (PSOwn X2 w b.a2 ⟨k, len, lc, lw⟩) := hl
  clear h hc hl
  go_enter Try.func75, Try.ntmps75
  go_wp2_with fail
  have hb0 : Blw w (w.alloc (.cells #[.slice b.a1 n b.c1, .slice b.a2 k b.c2] 29)) := (Blw.refl _).alloc _
  have rA := box2 w (.slice b.a1 n b.c1) (.slice b.a2 k b.c2) 29
  refine (markIntS_any _ _ n c X1 k0 _ (by omega) (by omega) (HC.out.blw hb0)).mono ?_
  rintro e w1 ⟨rfl, hc1, hm1⟩
  replace rA := rA.mod hm1 (fun hh => by have := hX _ (d1 _ hh.1).1; omega)
  obtain ⟨p0, p1⟩ := get2 rA
  have HM : Hid (Mod X w w1) := (hb0.mod X).trans (hm1.mono (fun x hx => (d1 x hx.1).1))
  have HL1 : Hid (PSOwn X2 w1 b.a2 ⟨k, len, lc, lw⟩) := (HL.out.blw hb0).mod hm1 (fun x hx hh => (d1 x hh.1).2 hx)
  have HC1 : Hid (IntsOwn X1 w1 b.a1 n (fun i => k0 + i)) := hc1
  clear hb0 rA hc1 hm1 HC HL
  go_wp2_with fail
  clear p0 p1
  refine (markSS_any _ _ ⟨k, len, lc, lw⟩ X2 _ _ (by omega) (by simp only [PD.tot] at *; omega) HL1.out).mono ?_
  rintro e w2 ⟨rfl, hl2, hm2⟩
  have HC2 : Hid (IntsOwn X1 w2 b.a1 n (fun i => k0 + i)) := HC1.out.mod hm2 (fun x hx hh => (d1 x hx).2 hh)
  have HL2 : Hid (PSOwn X2 w2 b.a2 (PD.marked ⟨k, len, lc, lw⟩ (k0 + n))) := hl2
  have HM2 : Hid (Mod X w w2) := HM.out.trans (hm2.mono d2)
  clear HL1 HC1 HM hl2 hm2
  go_wp2
  go_ret
  refine ⟨ret_int (by simp [BD.total]; omega), ⟨X1, X2, d1, d2, HC2.out, HL2.out⟩, HM2.out⟩
set_option maxHeartbeats 1600000 in
theorem heldBookK_any (b : BV) (B : BD) (X : Nat → Prop) (k0 : Int) (w : World) (hS : B.n + (B.D.n + B.D.tot) ≤ 1048576) (h0 : 0 ≤ k0) (h1 : k0 ≤ 16777216) (h : BookOwn X w b (B.marked k0)) :
    Calls Try.prog 76 #[b.val B, .int .i64 k0] w fun e w' => e = .returned (.int .i64 (k0 + B.total)) ∧ Blw w w' := by
  obtain ⟨n, c, ⟨k, len, lc, lw⟩⟩ := B
  dsimp only at hS
  obtain ⟨X1, X2, d1, d2, hc, hl⟩ := h.ex
  have HC : Hid (IntsOwn X1 w b.a1 n (fun i => k0 + i)) := hc
  have HL : Hid (PSOwn X2 w b.a2 (PD.marked ⟨k, len, lc, lw⟩ (k0 + n))) := hl
  clear h hc hl
  go_enter Try.func76, Try.ntmps76
  go_wp2_with fail
  have hb0 : Blw w (w.alloc (.cells #[.slice b.a1 n b.c1, .slice b.a2 k b.c2] 29)) := (Blw.refl _).alloc _
  have rA := box2 w (.slice b.a1 n b.c1) (.slice b.a2 k b.c2) 29
  refine (heldIntS_any _ _ n X1 k0 _ (by omega) (by omega) (HC.out.blw hb0).at).mono ?_
  rintro e w1 ⟨rfl, hb1⟩
  replace rA := rA.blw hb1
  replace hb1 := hb0.trans hb1
  obtain ⟨p0, p1⟩ := get2 rA
  have k1 : ¬ (k0 + (n : Int) < 0) := by omega
  clear hb0 rA HC
  go_wp2_with fail
  clear p0 p1
  refine (heldSS_any _ _ ⟨k, len, lc, lw⟩ X2 _ _ (by omega) (by simp only [PD.tot] at *; omega) (HL.out.blw hb1)).mono ?_
  rintro e w2 ⟨rfl, hb2⟩
  replace hb2 := hb1.trans hb2
  clear hb1 HL k1
  have k2 : ¬ (k0 + (n : Int) + 2 * (pre len k : Nat) < 0) := by omega
  go_wp2
  go_ret
  exact ⟨ret_int (by simp [BD.total]; omega), hb2⟩
set_option maxHeartbeats 1600000 in
theorem markNest_any (v : NV) (D : ND) (X : Nat → Prop) (w : World) (hS : D.small) (hX : ∀ b, X b → b < w.heap.size) (h : NOwn X w v D) :
    Calls Try.prog 74 #[v.val D, .int .i64 1] w fun e w' => e = .returned (.int .i64 (1 + D.total)) ∧ NOwn X w' v (D.marked 1) ∧ Mod X w w' := by
  obtain ⟨X1, X2, d1, d2, ht, hk⟩ := h.ex
  have hA : Blw w (w.alloc (.cells #[.slice v.g.a1 D.G.n v.g.c1, .slice v.g.a2 D.G.D.n v.g.c2, .slice v.h.a1 D.H.n v.h.c1, .slice v.h.a2 D.H.D.n v.h.c2] 60)) := (Blw.refl _).alloc _
  have HT : Hid (BookOwn X1 (w.alloc (.cells #[.slice v.g.a1 D.G.n v.g.c1, .slice v.g.a2 D.G.D.n v.g.c2, .slice v.h.a1 D.H.n v.h.c1, .slice v.h.a2 D.H.D.n v.h.c2] 60)) v.g D.G) := ht.blw hA
  have HK : Hid (BookOwn X2 (w.alloc (.cells #[.slice v.g.a1 D.G.n v.g.c1, .slice v.g.a2 D.G.D.n v.g.c2, .slice v.h.a1 D.H.n v.h.c1, .slice v.h.a2 D.H.D.n v.h.c2] 60)) v.h D.H) := hk.blw hA
  have R1 : Hid (Row (w.alloc (.cells #[.slice v.g.a1 D.G.n v.g.c1, .slice v.g.a2 D.G.D.n v.g.c2, .slice v.h.a1 D.H.n v.h.c1, .slice v.h.a2 D.H.D.n v.h.c2] 60)) w.heap.size 4 (nb v D)) := box4 w _ _ _ _ 60
  have HM : Hid (Mod X w (w.alloc (.cells #[.slice v.g.a1 D.G.n v.g.c1, .slice v.g.a2 D.G.D.n v.g.c2, .slice v.h.a1 D.H.n v.h.c1, .slice v.h.a2 D.H.D.n v.h.c2] 60))) := hA.mod _
  have hl : D.G.total ≤ 2097152 := total_small hS.1
  clear h ht hk hA
  go_enter Try.func74, Try.ntmps74
  obtain ⟨p0, p1, p2, p3⟩ := get4 R1.out
  go_wp2_with fail
  clear p0 p1 p2 p3
  refine (markBookK_any v.g D.G X1 1 _ hS.1 (by omega) (by omega) (fun b hb => by have := hX b (d1 b hb).1; simp; omega) HT.out).mono ?_
  rintro e w1 ⟨rfl, ht1, hm1⟩
  have R2 := R1.out.mod hm1 (fun hh => by have := hX _ (d1 _ hh).1; omega)
  have HK1 : Hid (BookOwn X2 w1 v.h D.H) := HK.out.mod hm1 (fun x hx hh => (d1 x hh).2 hx)
  have HT1 : Hid (BookOwn X1 w1 v.g (D.G.marked 1)) := ht1
  have hsz : w.heap.size ≤ w1.heap.size := by have h1 := hm1.size; simp only [World.size_alloc] at h1; omega
  replace HM : Hid (Mod X w w1) := HM.out.trans (hm1.mono (fun x hx => (d1 x hx).1))
  clear ht1 hm1 HT HK R1
  obtain ⟨p0, p1, p2, p3⟩ := get4 R2
  clear R2
  go_wp2_with fail
  clear p0 p1 p2 p3
  refine (markBookK_any v.h D.H X2 (1 + D.G.total) _ hS.2 (by omega) (by omega) (fun b hb => by have := hX b (d2 b hb); omega) HK1.out).mono ?_
  rintro e w2 ⟨rfl, hk2, hm2⟩
  have HT2 : Hid (BookOwn X1 w2 v.g (D.G.marked 1)) := HT1.out.mod hm2 (fun x hx hh => (d1 x hx).2 hh)
  replace HM : Hid (Mod X w w2) := HM.out.trans (hm2.mono d2)
  have HK2 : Hid (BookOwn X2 w2 v.h (D.H.marked (1 + D.G.total))) := hk2
  clear hk2 hm2 HT1 HK1
  go_wp2
  go_ret
  exact ⟨ret_int (by unfold ND.total; omega), ⟨X1, X2, d1, d2, HT2.out, HK2.out⟩, HM.out⟩
set_option maxHeartbeats 1600000 in
theorem heldNest_any (v : NV) (D : ND) (X : Nat → Prop) (w : World) (hS : D.small) (h : NOwn X w v (D.marked 1)) :
    Calls Try.prog 77 #[v.val D, .int .i64 1] w fun e w' => e = .returned (.int .i64 (1 + D.total)) ∧ Blw w w' := by
  obtain ⟨X1, X2, d1, d2, ht, hk⟩ := h.ex
  have hA : Blw w (w.alloc (.cells #[.slice v.g.a1 D.G.n v.g.c1, .slice v.g.a2 D.G.D.n v.g.c2, .slice v.h.a1 D.H.n v.h.c1, .slice v.h.a2 D.H.D.n v.h.c2] 60)) := (Blw.refl _).alloc _
  have HT : Hid (BookOwn X1 (w.alloc (.cells #[.slice v.g.a1 D.G.n v.g.c1, .slice v.g.a2 D.G.D.n v.g.c2, .slice v.h.a1 D.H.n v.h.c1, .slice v.h.a2 D.H.D.n v.h.c2] 60)) v.g (D.G.marked 1)) := ht.blw hA
  have HK : Hid (BookOwn X2 (w.alloc (.cells #[.slice v.g.a1 D.G.n v.g.c1, .slice v.g.a2 D.G.D.n v.g.c2, .slice v.h.a1 D.H.n v.h.c1, .slice v.h.a2 D.H.D.n v.h.c2] 60)) v.h (D.H.marked (1 + D.G.total))) := hk.blw hA
  have R1 : Hid (Row (w.alloc (.cells #[.slice v.g.a1 D.G.n v.g.c1, .slice v.g.a2 D.G.D.n v.g.c2, .slice v.h.a1 D.H.n v.h.c1, .slice v.h.a2 D.H.D.n v.h.c2] 60)) w.heap.size 4 (nb v D)) := box4 w _ _ _ _ 60
  have HB : Hid (Blw w (w.alloc (.cells #[.slice v.g.a1 D.G.n v.g.c1, .slice v.g.a2 D.G.D.n v.g.c2, .slice v.h.a1 D.H.n v.h.c1, .slice v.h.a2 D.H.D.n v.h.c2] 60))) := hA
  have hl : D.G.total ≤ 2097152 := total_small hS.1
  have hl2 : D.H.total ≤ 2097152 := total_small hS.2
  clear h ht hk hA
  go_enter Try.func77, Try.ntmps77
  obtain ⟨p0, p1, p2, p3⟩ := get4 R1.out
  go_wp2_with fail
  clear p0 p1 p2 p3
  refine (heldBookK_any v.g D.G X1 1 _ hS.1 (by omega) (by omega) HT.out).mono ?_
  rintro e w1 ⟨rfl, hb1⟩
  have R2 := R1.out.blw hb1
  replace HK : Hid (BookOwn X2 w1 v.h (D.H.marked (1 + D.G.total))) := HK.out.blw hb1
  replace HB : Hid (Blw w w1) := HB.out.trans hb1
  clear hb1 HT R1
  obtain ⟨p0, p1, p2, p3⟩ := get4 R2
  have k1 : ¬ (1 + (D.G.total : Int) < 0) := by omega
  clear R2
  go_wp2_with fail
  clear p0 p1 p2 p3
  refine (heldBookK_any v.h D.H X2 (1 + D.G.total) _ hS.2 (by omega) (by omega) HK.out).mono ?_
  rintro e w2 ⟨rfl, hb2⟩
  replace HB : Hid (Blw w w2) := HB.out.trans hb2
  have k2 : ¬ (1 + (D.G.total : Int) + (D.H.total : Int) < 0) := by omega
  clear hb2 HK k1
  go_wp2
  go_ret
  exact ⟨ret_int (by unfold ND.total; omega), HB.out⟩
end Go.Proofs.Ytjplodenflkghaa
