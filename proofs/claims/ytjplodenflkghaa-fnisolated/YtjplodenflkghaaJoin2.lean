/- Merged by program, in this order: NstL, NstT, Buf, Good, ImplA, ImplB, Stand, Eq8, HoldM. -/
import Derived.Deep.AppendLies
import Derived.Laws.OwnMore
import Derived.Test.YtjplodenflkghaaJoin1
/- Nests: what they read as, what is owned; compared, marked, held. -/
namespace Go.Proofs.Ytjplodenflkghaa
open Go.RowKit
set_option linter.unusedSimpArgs false
set_option linter.unusedVariables false
/-- What a nest holds: two tables. -/
structure ND where
  G : BD
  H : BD
abbrev ND.zero : ND := ⟨BD.zero, BD.zero⟩
structure NV where
  g : BV
  h : BV
abbrev NV.zero : NV := ⟨BV.zero, BV.zero⟩
abbrev NV.cells (v : NV) (D : ND) : Array Value := #[.slice v.g.a1 D.G.n v.g.c1, .slice v.g.a2 D.G.D.n v.g.c2, .slice v.h.a1 D.H.n v.h.c1, .slice v.h.a2 D.H.D.n v.h.c2]
abbrev NV.val (v : NV) (D : ND) : Value := .agg (v.cells D)
abbrev nb (v : NV) (D : ND) : Nat → Value := fun i => if i = 0 then .slice v.g.a1 D.G.n v.g.c1 else if i = 1 then .slice v.g.a2 D.G.D.n v.g.c2 else if i = 2 then .slice v.h.a1 D.H.n v.h.c1 else .slice v.h.a2 D.H.D.n v.h.c2
structure NAt (Y : Nat → Prop) (w : World) (v : NV) (D : ND) : Prop where
  g : BookAt Y w v.g D.G
  h : BookAt Y w v.h D.H
structure NOwn (X : Nat → Prop) (w : World) (v : NV) (D : ND) : Prop where
  ex : ∃ X1 X2 : Nat → Prop, (∀ b, X1 b → X b ∧ ¬ X2 b) ∧ (∀ b, X2 b → X b) ∧ BookOwn X1 w v.g D.G ∧ BookOwn X2 w v.h D.H
theorem NAt.blw {Y : Nat → Prop} {w w' : World} {v : NV} {D : ND} (h : NAt Y w v D) (hb : Blw w w') : NAt Y w' v D := ⟨h.g.blw hb, h.h.blw hb⟩
theorem NAt.mod {X Y : Nat → Prop} {w w' : World} {v : NV} {D : ND} (h : NAt Y w v D) (hb : Mod X w w') (hxy : ∀ k, Y k → ¬ X k) : NAt Y w' v D := ⟨h.g.mod hb hxy, h.h.mod hb hxy⟩
theorem NAt.mono {X Y : Nat → Prop} {w : World} {v : NV} {D : ND} (h : NAt X w v D) (hxy : ∀ b, X b → Y b) : NAt Y w v D := ⟨h.g.mono hxy, h.h.mono hxy⟩
theorem NOwn.at {X : Nat → Prop} {w : World} {v : NV} {D : ND} (h : NOwn X w v D) : NAt X w v D := by
  obtain ⟨X1, X2, d1, d2, hg, hh⟩ := h.ex
  exact ⟨hg.at.mono (fun b hb => (d1 b hb).1), hh.at.mono d2⟩
theorem NOwn.mod {X Z : Nat → Prop} {w w' : World} {v : NV} {D : ND} (h : NOwn X w v D) (hb : Mod Z w w') (hxz : ∀ b, X b → ¬ Z b) : NOwn X w' v D := by
  obtain ⟨X1, X2, d1, d2, hg, hh⟩ := h.ex
  exact ⟨X1, X2, d1, d2, hg.mod hb (fun b hx => hxz b (d1 b hx).1), hh.mod hb (fun b hx => hxz b (d2 b hx))⟩
theorem NOwn.blw {X : Nat → Prop} {w w' : World} {v : NV} {D : ND} (h : NOwn X w v D) (hb : Blw w w') : NOwn X w' v D := h.mod (hb.mod (fun _ => False)) (fun _ _ => id)
theorem NOwn.mono {X Y : Nat → Prop} {w : World} {v : NV} {D : ND} (h : NOwn X w v D) (hxy : ∀ b, X b → Y b) : NOwn Y w v D := by
  obtain ⟨X1, X2, d1, d2, hg, hh⟩ := h.ex
  exact ⟨X1, X2, fun b hb => ⟨hxy b (d1 b hb).1, (d1 b hb).2⟩, fun b hb => hxy b (d2 b hb), hg, hh⟩
theorem NOwn.zero (X : Nat → Prop) (w : World) : NOwn X w NV.zero ND.zero := ⟨fun _ => False, fun _ => False, fun _ h => h.elim, fun _ h => h.elim, BookOwn.zero _ _, BookOwn.zero _ _⟩
abbrev BD.small (B : BD) : Prop := B.n + (B.D.n + B.D.tot) ≤ 1048576
def ND.marked (D : ND) (k : Int) : ND := ⟨D.G.marked k, D.H.marked (k + D.G.total)⟩
def ND.total (D : ND) : Nat := D.G.total + D.H.total
def ND.small (D : ND) : Prop := D.G.small ∧ D.H.small
theorem total_small {B : BD} (h : B.small) : B.total ≤ 2097152 := by unfold BD.small at h; unfold BD.total; omega
set_option maxHeartbeats 1600000 in
theorem szBookL_any (b : BV) (B : BD) (Y : Nat → Prop) (left : Int) (w : World) (hl0 : 0 ≤ left) (hl1 : left ≤ 1048576) (h : BookAt Y w b B) :
    Calls Try.prog 133 #[b.val B, .int .i64 left] w fun e w' => ∃ r : Int, e = .returned (.int .i64 r) ∧ Left left (B.n + (B.D.n + B.D.tot) : Nat) r ∧ Blw w w' := by
  have hn := h.c.1
  have HPS : Hid (PSAt Y w b.a2 B.D) := h.l
  clear h
  obtain ⟨n, c, ⟨k, len, lc, lw⟩⟩ := B
  dsimp only at hn
  go_enter Try.func133, Try.ntmps133
  go_wp2_with fail
  refine (szIntS_any _ _ _ _ _ hn hl0 hl1).mono ?_
  rintro e w1 ⟨r, rfl, hr, hb1⟩
  have rb := (box2 w (.slice b.a1 n b.c1) (.slice b.a2 k b.c2) 89).blw hb1
  obtain ⟨p0, p1⟩ := get2 rb
  replace hb1 : Blw w w1 := ((Blw.refl _).alloc _).trans hb1
  clear rb
  rcases hr with rfl | ⟨g0, g1⟩
  · clear p0 p1
    go_wp2
    go_ret
    exact ⟨_, rfl, Or.inl rfl, hb1⟩
  · have hnn : ¬ r < 0 := by omega
    go_wp2_with fail
    clear p0 p1
    refine (szSS_any _ _ ⟨k, len, lc, lw⟩ Y _ _ (by omega) (by omega) (HPS.out.blw hb1)).mono ?_
    rintro e w2 ⟨r2, rfl, hr2, hb2⟩
    replace hb2 := hb1.trans hb2
    clear hb1 hnn
    rcases hr2 with rfl | ⟨g2, g3⟩
    · go_wp2
      go_ret
      exact ⟨_, rfl, Or.inl rfl, hb2⟩
    · have hnn : ¬ r2 < 0 := by omega
      go_wp2
      go_ret
      exact ⟨_, rfl, Or.inr ⟨g2, by omega⟩, hb2⟩
set_option maxHeartbeats 1600000 in
theorem szNest_any (v : NV) (D : ND) (Y : Nat → Prop) (left : Int) (w : World) (hl0 : 0 ≤ left) (hl1 : left ≤ 1048576) (h : NAt Y w v D) :
    Calls Try.prog 69 #[v.val D, .int .i64 left] w fun e w' => ∃ r : Int, e = .returned (.int .i64 r) ∧ Left left ((D.G.n + (D.G.D.n + D.G.D.tot) + (D.H.n + (D.H.D.n + D.H.D.tot))) : Nat) r ∧ Blw w w' := by
  have hb0 : Blw w (w.alloc (.cells #[.slice v.g.a1 D.G.n v.g.c1, .slice v.g.a2 D.G.D.n v.g.c2, .slice v.h.a1 D.H.n v.h.c1, .slice v.h.a2 D.H.D.n v.h.c2] 91)) := (Blw.refl _).alloc _
  have HN : Hid (NAt Y (w.alloc (.cells #[.slice v.g.a1 D.G.n v.g.c1, .slice v.g.a2 D.G.D.n v.g.c2, .slice v.h.a1 D.H.n v.h.c1, .slice v.h.a2 D.H.D.n v.h.c2] 91)) v D) := h.blw hb0
  have HR : Hid (Row (w.alloc (.cells #[.slice v.g.a1 D.G.n v.g.c1, .slice v.g.a2 D.G.D.n v.g.c2, .slice v.h.a1 D.H.n v.h.c1, .slice v.h.a2 D.H.D.n v.h.c2] 91)) w.heap.size 4 (nb v D)) := box4 w _ _ _ _ 91
  have HB : Hid (Blw w (w.alloc (.cells #[.slice v.g.a1 D.G.n v.g.c1, .slice v.g.a2 D.G.D.n v.g.c2, .slice v.h.a1 D.H.n v.h.c1, .slice v.h.a2 D.H.D.n v.h.c2] 91))) := hb0
  clear h hb0
  go_enter Try.func69, Try.ntmps69
  obtain ⟨p0, p1, p2, p3⟩ := get4 HR.out
  go_wp2_with fail
  clear p0 p1 p2 p3
  refine (szBookL_any v.g D.G Y left _ hl0 hl1 HN.out.g).mono ?_
  rintro e w1 ⟨r, rfl, hr, hb1⟩
  replace HN : Hid (NAt Y w1 v D) := HN.out.blw hb1
  replace HR : Hid (Row w1 w.heap.size 4 (nb v D)) := HR.out.blw hb1
  replace HB : Hid (Blw w w1) := HB.out.trans hb1
  clear hb1
  rcases hr with rfl | ⟨g0, g1⟩
  · go_wp2
    go_ret
    exact ⟨_, rfl, Or.inl rfl, HB.out⟩
  · have hnn : ¬ r < 0 := by omega
    have hr1 : r ≤ 1048576 := by omega
    have G1 : Hid (r + (D.G.n + (D.G.D.n + D.G.D.tot) : Nat) ≤ left) := g1
    clear g1
    obtain ⟨p0, p1, p2, p3⟩ := get4 HR.out
    go_wp2_with fail
    clear p0 p1 p2 p3
    refine (szBookL_any v.h D.H Y r _ g0 hr1 HN.out.h).mono ?_
    rintro e w2 ⟨r2, rfl, hr2, hb2⟩
    replace HB : Hid (Blw w w2) := HB.out.trans hb2
    clear hb2 hnn HR HN
    rcases hr2 with rfl | ⟨g2, g3⟩
    · go_wp2
      go_ret
      exact ⟨_, rfl, Or.inl rfl, HB.out⟩
    · have hnn : ¬ r2 < 0 := by omega
      have G3 : Hid (r2 + (D.H.n + (D.H.D.n + D.H.D.tot) : Nat) ≤ r) := g3
      clear g3
      go_wp2
      go_ret
      exact ⟨_, rfl, Or.inr ⟨g2, by have := G1.out; have := G3.out; omega⟩, HB.out⟩
set_option maxHeartbeats 1600000 in
theorem eqNest_same (v u : NV) (D : ND) {X Y : Nat → Prop} (w : World) (h1 : NAt X w v D) (h2 : NAt Y w u D) :
    Calls Try.prog 72 #[v.val D, u.val D] w fun e w' => e = .returned (.bool true) ∧ Blw w w' := by
  have hb0 : Blw w ((w.alloc (.cells #[.slice v.g.a1 D.G.n v.g.c1, .slice v.g.a2 D.G.D.n v.g.c2, .slice v.h.a1 D.H.n v.h.c1, .slice v.h.a2 D.H.D.n v.h.c2] 60)).alloc (.cells #[.slice u.g.a1 D.G.n u.g.c1, .slice u.g.a2 D.G.D.n u.g.c2, .slice u.h.a1 D.H.n u.h.c1, .slice u.h.a2 D.H.D.n u.h.c2] 60)) := ((Blw.refl _).alloc _).alloc _
  have H1 : Hid (NAt X ((w.alloc (.cells #[.slice v.g.a1 D.G.n v.g.c1, .slice v.g.a2 D.G.D.n v.g.c2, .slice v.h.a1 D.H.n v.h.c1, .slice v.h.a2 D.H.D.n v.h.c2] 60)).alloc (.cells #[.slice u.g.a1 D.G.n u.g.c1, .slice u.g.a2 D.G.D.n u.g.c2, .slice u.h.a1 D.H.n u.h.c1, .slice u.h.a2 D.H.D.n u.h.c2] 60)) v D) := h1.blw hb0
  have H2 : Hid (NAt Y ((w.alloc (.cells #[.slice v.g.a1 D.G.n v.g.c1, .slice v.g.a2 D.G.D.n v.g.c2, .slice v.h.a1 D.H.n v.h.c1, .slice v.h.a2 D.H.D.n v.h.c2] 60)).alloc (.cells #[.slice u.g.a1 D.G.n u.g.c1, .slice u.g.a2 D.G.D.n u.g.c2, .slice u.h.a1 D.H.n u.h.c1, .slice u.h.a2 D.H.D.n u.h.c2] 60)) u D) := h2.blw hb0
  have R1 : Hid (Row ((w.alloc (.cells #[.slice v.g.a1 D.G.n v.g.c1, .slice v.g.a2 D.G.D.n v.g.c2, .slice v.h.a1 D.H.n v.h.c1, .slice v.h.a2 D.H.D.n v.h.c2] 60)).alloc (.cells #[.slice u.g.a1 D.G.n u.g.c1, .slice u.g.a2 D.G.D.n u.g.c2, .slice u.h.a1 D.H.n u.h.c1, .slice u.h.a2 D.H.D.n u.h.c2] 60)) w.heap.size 4 (nb v D)) := (box4 w _ _ _ _ 60).blw ((Blw.refl _).alloc _)
  have r2 := box4 (w.alloc (.cells #[.slice v.g.a1 D.G.n v.g.c1, .slice v.g.a2 D.G.D.n v.g.c2, .slice v.h.a1 D.H.n v.h.c1, .slice v.h.a2 D.H.D.n v.h.c2] 60)) (.slice u.g.a1 D.G.n u.g.c1) (.slice u.g.a2 D.G.D.n u.g.c2) (.slice u.h.a1 D.H.n u.h.c1) (.slice u.h.a2 D.H.D.n u.h.c2) 60
  rw [World.size_alloc] at r2
  have R2 : Hid (Row ((w.alloc (.cells #[.slice v.g.a1 D.G.n v.g.c1, .slice v.g.a2 D.G.D.n v.g.c2, .slice v.h.a1 D.H.n v.h.c1, .slice v.h.a2 D.H.D.n v.h.c2] 60)).alloc (.cells #[.slice u.g.a1 D.G.n u.g.c1, .slice u.g.a2 D.G.D.n u.g.c2, .slice u.h.a1 D.H.n u.h.c1, .slice u.h.a2 D.H.D.n u.h.c2] 60)) (w.heap.size + 1) 4 (nb u D)) := r2
  have HB : Hid (Blw w ((w.alloc (.cells #[.slice v.g.a1 D.G.n v.g.c1, .slice v.g.a2 D.G.D.n v.g.c2, .slice v.h.a1 D.H.n v.h.c1, .slice v.h.a2 D.H.D.n v.h.c2] 60)).alloc (.cells #[.slice u.g.a1 D.G.n u.g.c1, .slice u.g.a2 D.G.D.n u.g.c2, .slice u.h.a1 D.H.n u.h.c1, .slice u.h.a2 D.H.D.n u.h.c2] 60))) := hb0
  clear h1 h2 r2 hb0
  go_enter Try.func72, Try.ntmps72
  obtain ⟨p0, p1, p2, p3⟩ := get4 R1.out
  obtain ⟨q0, q1, q2, q3⟩ := get4 R2.out
  go_wp2_with fail
  clear p0 p1 p2 p3 q0 q1 q2 q3
  refine (eqBook_same v.g u.g D.G _ H1.out.g H2.out.g).mono ?_
  rintro e w1 ⟨rfl, hb1⟩
  replace H1 : Hid (NAt X w1 v D) := H1.out.blw hb1
  replace H2 : Hid (NAt Y w1 u D) := H2.out.blw hb1
  replace R1 : Hid (Row w1 w.heap.size 4 (nb v D)) := R1.out.blw hb1
  replace R2 : Hid (Row w1 (w.heap.size + 1) 4 (nb u D)) := R2.out.blw hb1
  replace HB : Hid (Blw w w1) := HB.out.trans hb1
  clear hb1
  obtain ⟨p0, p1, p2, p3⟩ := get4 R1.out
  obtain ⟨q0, q1, q2, q3⟩ := get4 R2.out
  go_wp2_with fail
  clear p0 p1 p2 p3 q0 q1 q2 q3
  refine (eqBook_same v.h u.h D.H _ H1.out.h H2.out.h).mono ?_
  rintro e w2 ⟨rfl, hb1⟩
  replace HB : Hid (Blw w w2) := HB.out.trans hb1
  clear hb1 H1 H2 R1 R2
  go_wp2
  go_ret
  exact ⟨rfl, HB.out⟩
set_option maxHeartbeats 1600000 in
theorem markBookK_any (b : BV) (B : BD) (X : Nat → Prop) (k0 : Int) (w : World) (hS : B.n + (B.D.n + B.D.tot) ≤ 1048576) (h0 : 0 ≤ k0) (h1 : k0 ≤ 16777216) (hX : ∀ b, X b → b < w.heap.size) (h : BookOwn X w b B) :
    Calls Try.prog 75 #[b.val B, .int .i64 k0] w fun e w' => e = .returned (.int .i64 (k0 + B.total)) ∧ BookOwn X w' b (B.marked k0) ∧ Mod X w w' := by
  obtain ⟨n, c, ⟨k, len, lc, lw⟩⟩ := B
  dsimp only at hS
  obtain ⟨X1, X2, d1, d2, hc, hl⟩ := h.ex
  have HC : Hid (IntsOwn X1 w b.a1 n c) := hc
  have HL : Hid (PSOwn X2 w b.a2 ⟨k, len, lc, lw⟩) := hl
  clear h hc hl
  go_enter Try.func75, Try.ntmps75
  go_wp2_with fail
  have hb0 : Blw w (w.alloc (.cells #[.slice b.a1 n b.c1, .slice b.a2 k b.c2] 29)) := (Blw.refl _).alloc _
  have rA := box2 w (.slice b.a1 n b.c1) (.slice b.a2 k b.c2) 29
  refine (markIntS_any _ _ n c X1 k0 _ (by omega) (by omega) (HC.out.blw hb0)).mono ?_
  rintro e w1 ⟨rfl, hc1, hm1⟩
  replace rA := rA.mod hm1 (fun hh => by have := hX _ (d1 _ hh.1).1; omega)
  obtain ⟨p0, p1⟩ := get2 rA
  have HM : Hid (Mod X w w1) := (hb0.mod X).trans (hm1.mono (fun x hx => (d1 x hx.1).1))
  have HL1 : Hid (PSOwn X2 w1 b.a2 ⟨k, len, lc, lw⟩) := (HL.out.blw hb0).mod hm1 (fun x hx hh => (d1 x hh.1).2 hx)
  have HC1 : Hid (IntsOwn X1 w1 b.a1 n (fun i => k0 + i)) := hc1
  clear hb0 rA hc1 hm1 HC HL
  go_wp2_with fail
  clear p0 p1
  refine (markSS_any _ _ ⟨k, len, lc, lw⟩ X2 _ _ (by omega) (by simp only [PD.tot] at *; omega) HL1.out).mono ?_
  rintro e w2 ⟨rfl, hl2, hm2⟩
  have HC2 : Hid (IntsOwn X1 w2 b.a1 n (fun i => k0 + i)) := HC1.out.mod hm2 (fun x hx hh => (d1 x hx).2 hh)
  have HL2 : Hid (PSOwn X2 w2 b.a2 (PD.marked ⟨k, len, lc, lw⟩ (k0 + n))) := hl2
  have HM2 : Hid (Mod X w w2) := HM.out.trans (hm2.mono d2)
  clear HL1 HC1 HM hl2 hm2
  go_wp2
  go_ret
  refine ⟨ret_int (by simp [BD.total]; omega), ⟨X1, X2, d1, d2, HC2.out, HL2.out⟩, HM2.out⟩
set_option maxHeartbeats 1600000 in
theorem heldBookK_any (b : BV) (B : BD) (X : Nat → Prop) (k0 : Int) (w : World) (hS : B.n + (B.D.n + B.D.tot) ≤ 1048576) (h0 : 0 ≤ k0) (h1 : k0 ≤ 16777216) (h : BookOwn X w b (B.marked k0)) :
    Calls Try.prog 76 #[b.val B, .int .i64 k0] w fun e w' => e = .returned (.int .i64 (k0 + B.total)) ∧ Blw w w' := by
  obtain ⟨n, c, ⟨k, len, lc, lw⟩⟩ := B
  dsimp only at hS
  obtain ⟨X1, X2, d1, d2, hc, hl⟩ := h.ex
  have HC : Hid (IntsOwn X1 w b.a1 n (fun i => k0 + i)) := hc
  have HL : Hid (PSOwn X2 w b.a2 (PD.marked ⟨k, len, lc, lw⟩ (k0 + n))) := hl
  clear h hc hl
  go_enter Try.func76, Try.ntmps76
  go_wp2_with fail
  have hb0 : Blw w (w.alloc (.cells #[.slice b.a1 n b.c1, .slice b.a2 k b.c2] 29)) := (Blw.refl _).alloc _
  have rA := box2 w (.slice b.a1 n b.c1) (.slice b.a2 k b.c2) 29
  refine (heldIntS_any _ _ n X1 k0 _ (by omega) (by omega) (HC.out.blw hb0).at).mono ?_
  rintro e w1 ⟨rfl, hb1⟩
  replace rA := rA.blw hb1
  replace hb1 := hb0.trans hb1
  obtain ⟨p0, p1⟩ := get2 rA
  have k1 : ¬ (k0 + (n : Int) < 0) := by omega
  clear hb0 rA HC
  go_wp2_with fail
  clear p0 p1
  refine (heldSS_any _ _ ⟨k, len, lc, lw⟩ X2 _ _ (by omega) (by simp only [PD.tot] at *; omega) (HL.out.blw hb1)).mono ?_
  rintro e w2 ⟨rfl, hb2⟩
  replace hb2 := hb1.trans hb2
  clear hb1 HL k1
  have k2 : ¬ (k0 + (n : Int) + 2 * (pre len k : Nat) < 0) := by omega
  go_wp2
  go_ret
  exact ⟨ret_int (by simp [BD.total]; omega), hb2⟩
set_option maxHeartbeats 1600000 in
theorem markNest_any (v : NV) (D : ND) (X : Nat → Prop) (w : World) (hS : D.small) (hX : ∀ b, X b → b < w.heap.size) (h : NOwn X w v D) :
    Calls Try.prog 74 #[v.val D, .int .i64 1] w fun e w' => e = .returned (.int .i64 (1 + D.total)) ∧ NOwn X w' v (D.marked 1) ∧ Mod X w w' := by
  obtain ⟨X1, X2, d1, d2, ht, hk⟩ := h.ex
  have hA : Blw w (w.alloc (.cells #[.slice v.g.a1 D.G.n v.g.c1, .slice v.g.a2 D.G.D.n v.g.c2, .slice v.h.a1 D.H.n v.h.c1, .slice v.h.a2 D.H.D.n v.h.c2] 60)) := (Blw.refl _).alloc _
  have HT : Hid (BookOwn X1 (w.alloc (.cells #[.slice v.g.a1 D.G.n v.g.c1, .slice v.g.a2 D.G.D.n v.g.c2, .slice v.h.a1 D.H.n v.h.c1, .slice v.h.a2 D.H.D.n v.h.c2] 60)) v.g D.G) := ht.blw hA
  have HK : Hid (BookOwn X2 (w.alloc (.cells #[.slice v.g.a1 D.G.n v.g.c1, .slice v.g.a2 D.G.D.n v.g.c2, .slice v.h.a1 D.H.n v.h.c1, .slice v.h.a2 D.H.D.n v.h.c2] 60)) v.h D.H) := hk.blw hA
  have R1 : Hid (Row (w.alloc (.cells #[.slice v.g.a1 D.G.n v.g.c1, .slice v.g.a2 D.G.D.n v.g.c2, .slice v.h.a1 D.H.n v.h.c1, .slice v.h.a2 D.H.D.n v.h.c2] 60)) w.heap.size 4 (nb v D)) := box4 w _ _ _ _ 60
  have HM : Hid (Mod X w (w.alloc (.cells #[.slice v.g.a1 D.G.n v.g.c1, .slice v.g.a2 D.G.D.n v.g.c2, .slice v.h.a1 D.H.n v.h.c1, .slice v.h.a2 D.H.D.n v.h.c2] 60))) := hA.mod _
  have hl : D.G.total ≤ 2097152 := total_small hS.1
  clear h ht hk hA
  go_enter Try.func74, Try.ntmps74
  obtain ⟨p0, p1, p2, p3⟩ := get4 R1.out
  go_wp2_with fail
  clear p0 p1 p2 p3
  refine (markBookK_any v.g D.G X1 1 _ hS.1 (by omega) (by omega) (fun b hb => by have := hX b (d1 b hb).1; simp; omega) HT.out).mono ?_
  rintro e w1 ⟨rfl, ht1, hm1⟩
  have R2 := R1.out.mod hm1 (fun hh => by have := hX _ (d1 _ hh).1; omega)
  have HK1 : Hid (BookOwn X2 w1 v.h D.H) := HK.out.mod hm1 (fun x hx hh => (d1 x hh).2 hx)
  have HT1 : Hid (BookOwn X1 w1 v.g (D.G.marked 1)) := ht1
  have hsz : w.heap.size ≤ w1.heap.size := by have h1 := hm1.size; simp only [World.size_alloc] at h1; omega
  replace HM : Hid (Mod X w w1) := HM.out.trans (hm1.mono (fun x hx => (d1 x hx).1))
  clear ht1 hm1 HT HK R1
  obtain ⟨p0, p1, p2, p3⟩ := get4 R2
  clear R2
  go_wp2_with fail
  clear p0 p1 p2 p3
  refine (markBookK_any v.h D.H X2 (1 + D.G.total) _ hS.2 (by omega) (by omega) (fun b hb => by have := hX b (d2 b hb); omega) HK1.out).mono ?_
  rintro e w2 ⟨rfl, hk2, hm2⟩
  have HT2 : Hid (BookOwn X1 w2 v.g (D.G.marked 1)) := HT1.out.mod hm2 (fun x hx hh => (d1 x hx).2 hh)
  replace HM : Hid (Mod X w w2) := HM.out.trans (hm2.mono d2)
  have HK2 : Hid (BookOwn X2 w2 v.h (D.H.marked (1 + D.G.total))) := hk2
  clear hk2 hm2 HT1 HK1
  go_wp2
  go_ret
  exact ⟨ret_int (by unfold ND.total; omega), ⟨X1, X2, d1, d2, HT2.out, HK2.out⟩, HM.out⟩
set_option maxHeartbeats 1600000 in
theorem heldNest_any (v : NV) (D : ND) (X : Nat → Prop) (w : World) (hS : D.small) (h : NOwn X w v (D.marked 1)) :
    Calls Try.prog 77 #[v.val D, .int .i64 1] w fun e w' => e = .returned (.int .i64 (1 + D.total)) ∧ Blw w w' := by
  obtain ⟨X1, X2, d1, d2, ht, hk⟩ := h.ex
  have hA : Blw w (w.alloc (.cells #[.slice v.g.a1 D.G.n v.g.c1, .slice v.g.a2 D.G.D.n v.g.c2, .slice v.h.a1 D.H.n v.h.c1, .slice v.h.a2 D.H.D.n v.h.c2] 60)) := (Blw.refl _).alloc _
  have HT : Hid (BookOwn X1 (w.alloc (.cells #[.slice v.g.a1 D.G.n v.g.c1, .slice v.g.a2 D.G.D.n v.g.c2, .slice v.h.a1 D.H.n v.h.c1, .slice v.h.a2 D.H.D.n v.h.c2] 60)) v.g (D.G.marked 1)) := ht.blw hA
  have HK : Hid (BookOwn X2 (w.alloc (.cells #[.slice v.g.a1 D.G.n v.g.c1, .slice v.g.a2 D.G.D.n v.g.c2, .slice v.h.a1 D.H.n v.h.c1, .slice v.h.a2 D.H.D.n v.h.c2] 60)) v.h (D.H.marked (1 + D.G.total))) := hk.blw hA
  have R1 : Hid (Row (w.alloc (.cells #[.slice v.g.a1 D.G.n v.g.c1, .slice v.g.a2 D.G.D.n v.g.c2, .slice v.h.a1 D.H.n v.h.c1, .slice v.h.a2 D.H.D.n v.h.c2] 60)) w.heap.size 4 (nb v D)) := box4 w _ _ _ _ 60
  have HB : Hid (Blw w (w.alloc (.cells #[.slice v.g.a1 D.G.n v.g.c1, .slice v.g.a2 D.G.D.n v.g.c2, .slice v.h.a1 D.H.n v.h.c1, .slice v.h.a2 D.H.D.n v.h.c2] 60))) := hA
  have hl : D.G.total ≤ 2097152 := total_small hS.1
  have hl2 : D.H.total ≤ 2097152 := total_small hS.2
  clear h ht hk hA
  go_enter Try.func77, Try.ntmps77
  obtain ⟨p0, p1, p2, p3⟩ := get4 R1.out
  go_wp2_with fail
  clear p0 p1 p2 p3
  refine (heldBookK_any v.g D.G X1 1 _ hS.1 (by omega) (by omega) HT.out).mono ?_
  rintro e w1 ⟨rfl, hb1⟩
  have R2 := R1.out.blw hb1
  replace HK : Hid (BookOwn X2 w1 v.h (D.H.marked (1 + D.G.total))) := HK.out.blw hb1
  replace HB : Hid (Blw w w1) := HB.out.trans hb1
  clear hb1 HT R1
  obtain ⟨p0, p1, p2, p3⟩ := get4 R2
  have k1 : ¬ (1 + (D.G.total : Int) < 0) := by omega
  clear R2
  go_wp2_with fail
  clear p0 p1 p2 p3
  refine (heldBookK_any v.h D.H X2 (1 + D.G.total) _ hS.2 (by omega) (by omega) HK.out).mono ?_
  rintro e w2 ⟨rfl, hb2⟩
  replace HB : Hid (Blw w w2) := HB.out.trans hb2
  have k2 : ¬ (1 + (D.G.total : Int) + (D.H.total : Int) < 0) := by omega
  clear hb2 HK k1
  go_wp2
  go_ret
  exact ⟨ret_int (by unfold ND.total; omega), HB.out⟩
end Go.Proofs.Ytjplodenflkghaa
/- Nests in a law: copied, boxed. -/
namespace Go.Proofs.Ytjplodenflkghaa
open Go.RowKit
set_option linter.unusedSimpArgs false
set_option linter.unusedVariables false
theorem set4_01 {w : World} {B : Nat} {a b c d : Value} (r : Row w B 4 (fun i => if i = 0 then a else if i = 1 then b else if i = 2 then c else d)) (u v : Value) : Row ((w.setCell ⟨B, 0, none⟩ u).setCell ⟨B, 1, none⟩ v) B 4 (fun i => if i = 0 then u else if i = 1 then v else if i = 2 then c else d) :=
  ((r.set 0 u).set 1 v).congr fun i hi => by
    match i, hi with
    | 0, _ => rfl
    | 1, _ => rfl
    | 2, _ => rfl
    | 3, _ => rfl
theorem set4_23 {w : World} {B : Nat} {a b c d : Value} (r : Row w B 4 (fun i => if i = 0 then a else if i = 1 then b else if i = 2 then c else d)) (u v : Value) : Row ((w.setCell ⟨B, 2, none⟩ u).setCell ⟨B, 3, none⟩ v) B 4 (fun i => if i = 0 then a else if i = 1 then b else if i = 2 then u else v) :=
  ((r.set 2 u).set 3 v).congr fun i hi => by
    match i, hi with
    | 0, _ => rfl
    | 1, _ => rfl
    | 2, _ => rfl
    | 3, _ => rfl
theorem setn2_mod {X : Nat → Prop} (w1 : World) {B : Nat} (hB : X B) (i j : Nat) (v0 v1 : Value) : Mod X w1 ((w1.setCell ⟨B, i, none⟩ v0).setCell ⟨B, j, none⟩ v1) :=
  (Mod.setCell _ (p := ⟨B, i, none⟩) hB _).trans (Mod.setCell _ (p := ⟨B, j, none⟩) hB _)
set_option maxHeartbeats 1600000 in
theorem toNest_any (v : NV) (D : ND) (Y : Nat → Prop) (w : World) (hS : D.small) (h : NAt Y w v D) :
    Calls Try.prog 71 #[v.val D] w fun e w' => ∃ v' : NV, e = .returned (v'.val D) ∧ NOwn (fun x => w.heap.size ≤ x ∧ x < w'.heap.size) w' v' D ∧ Blw w w' := by
  have hb0 : Blw w (((w.alloc (.cells #[.slice v.g.a1 D.G.n v.g.c1, .slice v.g.a2 D.G.D.n v.g.c2, .slice v.h.a1 D.H.n v.h.c1, .slice v.h.a2 D.H.D.n v.h.c2] 91)).alloc (.cells #[.slice none 0 0, .slice none 0 0, .slice none 0 0, .slice none 0 0] 60)).alloc (.cells #[.slice none 0 0, .slice none 0 0, .slice none 0 0, .slice none 0 0] 60)) := (((Blw.refl _).alloc _).alloc _).alloc _
  have b1 : Blw (w.alloc (.cells #[.slice v.g.a1 D.G.n v.g.c1, .slice v.g.a2 D.G.D.n v.g.c2, .slice v.h.a1 D.H.n v.h.c1, .slice v.h.a2 D.H.D.n v.h.c2] 91)) (((w.alloc (.cells #[.slice v.g.a1 D.G.n v.g.c1, .slice v.g.a2 D.G.D.n v.g.c2, .slice v.h.a1 D.H.n v.h.c1, .slice v.h.a2 D.H.D.n v.h.c2] 91)).alloc (.cells #[.slice none 0 0, .slice none 0 0, .slice none 0 0, .slice none 0 0] 60)).alloc (.cells #[.slice none 0 0, .slice none 0 0, .slice none 0 0, .slice none 0 0] 60)) := ((Blw.refl _).alloc _).alloc _
  have b2 : Blw ((w.alloc (.cells #[.slice v.g.a1 D.G.n v.g.c1, .slice v.g.a2 D.G.D.n v.g.c2, .slice v.h.a1 D.H.n v.h.c1, .slice v.h.a2 D.H.D.n v.h.c2] 91)).alloc (.cells #[.slice none 0 0, .slice none 0 0, .slice none 0 0, .slice none 0 0] 60)) (((w.alloc (.cells #[.slice v.g.a1 D.G.n v.g.c1, .slice v.g.a2 D.G.D.n v.g.c2, .slice v.h.a1 D.H.n v.h.c1, .slice v.h.a2 D.H.D.n v.h.c2] 91)).alloc (.cells #[.slice none 0 0, .slice none 0 0, .slice none 0 0, .slice none 0 0] 60)).alloc (.cells #[.slice none 0 0, .slice none 0 0, .slice none 0 0, .slice none 0 0] 60)) := (Blw.refl _).alloc _
  have r0 : Row (((w.alloc (.cells #[.slice v.g.a1 D.G.n v.g.c1, .slice v.g.a2 D.G.D.n v.g.c2, .slice v.h.a1 D.H.n v.h.c1, .slice v.h.a2 D.H.D.n v.h.c2] 91)).alloc (.cells #[.slice none 0 0, .slice none 0 0, .slice none 0 0, .slice none 0 0] 60)).alloc (.cells #[.slice none 0 0, .slice none 0 0, .slice none 0 0, .slice none 0 0] 60)) w.heap.size 4 (nb v D) := (box4 w _ _ _ _ 91).blw b1
  have r1 := (box4 (w.alloc (.cells #[.slice v.g.a1 D.G.n v.g.c1, .slice v.g.a2 D.G.D.n v.g.c2, .slice v.h.a1 D.H.n v.h.c1, .slice v.h.a2 D.H.D.n v.h.c2] 91)) (.slice none 0 0) (.slice none 0 0) (.slice none 0 0) (.slice none 0 0) 60).blw b2
  have r2 := box4 ((w.alloc (.cells #[.slice v.g.a1 D.G.n v.g.c1, .slice v.g.a2 D.G.D.n v.g.c2, .slice v.h.a1 D.H.n v.h.c1, .slice v.h.a2 D.H.D.n v.h.c2] 91)).alloc (.cells #[.slice none 0 0, .slice none 0 0, .slice none 0 0, .slice none 0 0] 60)) (.slice none 0 0) (.slice none 0 0) (.slice none 0 0) (.slice none 0 0) 60
  rw [World.size_alloc] at r1
  rw [World.size_alloc, World.size_alloc] at r2
  have hz : (((w.alloc (.cells #[.slice v.g.a1 D.G.n v.g.c1, .slice v.g.a2 D.G.D.n v.g.c2, .slice v.h.a1 D.H.n v.h.c1, .slice v.h.a2 D.H.D.n v.h.c2] 91)).alloc (.cells #[.slice none 0 0, .slice none 0 0, .slice none 0 0, .slice none 0 0] 60)).alloc (.cells #[.slice none 0 0, .slice none 0 0, .slice none 0 0, .slice none 0 0] 60)).heap.size = w.heap.size + 1 + 1 + 1 := by simp
  have HN : Hid (NAt Y (((w.alloc (.cells #[.slice v.g.a1 D.G.n v.g.c1, .slice v.g.a2 D.G.D.n v.g.c2, .slice v.h.a1 D.H.n v.h.c1, .slice v.h.a2 D.H.D.n v.h.c2] 91)).alloc (.cells #[.slice none 0 0, .slice none 0 0, .slice none 0 0, .slice none 0 0] 60)).alloc (.cells #[.slice none 0 0, .slice none 0 0, .slice none 0 0, .slice none 0 0] 60)) v D) := h.blw hb0
  have HNW : Hid (NAt Y w v D) := h
  have HB : Hid (Blw w (((w.alloc (.cells #[.slice v.g.a1 D.G.n v.g.c1, .slice v.g.a2 D.G.D.n v.g.c2, .slice v.h.a1 D.H.n v.h.c1, .slice v.h.a2 D.H.D.n v.h.c2] 91)).alloc (.cells #[.slice none 0 0, .slice none 0 0, .slice none 0 0, .slice none 0 0] 60)).alloc (.cells #[.slice none 0 0, .slice none 0 0, .slice none 0 0, .slice none 0 0] 60))) := hb0
  have R0 : Hid (Row (((w.alloc (.cells #[.slice v.g.a1 D.G.n v.g.c1, .slice v.g.a2 D.G.D.n v.g.c2, .slice v.h.a1 D.H.n v.h.c1, .slice v.h.a2 D.H.D.n v.h.c2] 91)).alloc (.cells #[.slice none 0 0, .slice none 0 0, .slice none 0 0, .slice none 0 0] 60)).alloc (.cells #[.slice none 0 0, .slice none 0 0, .slice none 0 0, .slice none 0 0] 60)) w.heap.size 4 (nb v D)) := r0
  have R1 : Hid (Row (((w.alloc (.cells #[.slice v.g.a1 D.G.n v.g.c1, .slice v.g.a2 D.G.D.n v.g.c2, .slice v.h.a1 D.H.n v.h.c1, .slice v.h.a2 D.H.D.n v.h.c2] 91)).alloc (.cells #[.slice none 0 0, .slice none 0 0, .slice none 0 0, .slice none 0 0] 60)).alloc (.cells #[.slice none 0 0, .slice none 0 0, .slice none 0 0, .slice none 0 0] 60)) (w.heap.size + 1) 4 (fun i => if i = 0 then .slice none 0 0 else if i = 1 then .slice none 0 0 else if i = 2 then .slice none 0 0 else .slice none 0 0)) := r1
  have R2 : Hid (Row (((w.alloc (.cells #[.slice v.g.a1 D.G.n v.g.c1, .slice v.g.a2 D.G.D.n v.g.c2, .slice v.h.a1 D.H.n v.h.c1, .slice v.h.a2 D.H.D.n v.h.c2] 91)).alloc (.cells #[.slice none 0 0, .slice none 0 0, .slice none 0 0, .slice none 0 0] 60)).alloc (.cells #[.slice none 0 0, .slice none 0 0, .slice none 0 0, .slice none 0 0] 60)) (w.heap.size + 1 + 1) 4 (fun i => if i = 0 then .slice none 0 0 else if i = 1 then .slice none 0 0 else if i = 2 then .slice none 0 0 else .slice none 0 0)) := r2
  have HZ : Hid ((((w.alloc (.cells #[.slice v.g.a1 D.G.n v.g.c1, .slice v.g.a2 D.G.D.n v.g.c2, .slice v.h.a1 D.H.n v.h.c1, .slice v.h.a2 D.H.D.n v.h.c2] 91)).alloc (.cells #[.slice none 0 0, .slice none 0 0, .slice none 0 0, .slice none 0 0] 60)).alloc (.cells #[.slice none 0 0, .slice none 0 0, .slice none 0 0, .slice none 0 0] 60)).heap.size = w.heap.size + 1 + 1 + 1) := hz
  clear h hb0 b1 b2 r0 r1 r2 hz
  go_enter Try.func71, Try.ntmps71
  obtain ⟨p0, p1, p2, p3⟩ := get4 R0.out
  go_wp2_with fail
  clear p0 p1 p2 p3
  generalize (((w.alloc (.cells #[.slice v.g.a1 D.G.n v.g.c1, .slice v.g.a2 D.G.D.n v.g.c2, .slice v.h.a1 D.H.n v.h.c1, .slice v.h.a2 D.H.D.n v.h.c2] 91)).alloc (.cells #[.slice none 0 0, .slice none 0 0, .slice none 0 0, .slice none 0 0] 60)).alloc (.cells #[.slice none 0 0, .slice none 0 0, .slice none 0 0, .slice none 0 0] 60)) = W0 at *
  refine (toBook_any v.g D.G _ _ hS.1 HN.out.g).mono ?_
  rintro e w1 ⟨g1, rfl, own1, hb1⟩
  have hm1 := setn2_mod (X := fun x => x = w.heap.size + 1 + 1) w1 (B := w.heap.size + 1 + 1) rfl 0 1 (.slice g1.a1 D.G.n g1.c1) (.slice g1.a2 D.G.D.n g1.c2)
  obtain ⟨q0, q1, q2, q3⟩ := get4 (R2.out.blw hb1)
  have f0 := (R2.out.blw hb1).frozen 0
  have f1 := (R2.out.blw hb1).frozen 1
  have S2 := set4_01 (R2.out.blw hb1) (.slice g1.a1 D.G.n g1.c1) (.slice g1.a2 D.G.D.n g1.c2)
  have S0 := (R0.out.blw hb1).mod hm1 (by omega)
  have S1 := (R1.out.blw hb1).mod hm1 (by omega)
  obtain ⟨p0, p1, p2, p3⟩ := get4 S0
  have hz0 := HZ.out
  have hb2 : Blw w ((w1.setCell ⟨w.heap.size + 1 + 1, 0, none⟩ (.slice g1.a1 D.G.n g1.c1)).setCell ⟨w.heap.size + 1 + 1, 1, none⟩ (.slice g1.a2 D.G.D.n g1.c2)) := Mod.blw (HB.out.trans hb1) hm1 (fun i hi => by omega)
  have hs1 := hb1.size
  have hs2 := hm1.size
  have HG : Hid (BookOwn (fun x => w.heap.size + 1 + 1 + 1 ≤ x ∧ x < w1.heap.size) ((w1.setCell ⟨w.heap.size + 1 + 1, 0, none⟩ (.slice g1.a1 D.G.n g1.c1)).setCell ⟨w.heap.size + 1 + 1, 1, none⟩ (.slice g1.a2 D.G.D.n g1.c2)) g1 D.G) := (own1.mono (fun x hx => by rw [hz0] at hx; exact hx)).mod hm1 (fun x hx e => by omega)
  have HH : Hid (BookAt Y ((w1.setCell ⟨w.heap.size + 1 + 1, 0, none⟩ (.slice g1.a1 D.G.n g1.c1)).setCell ⟨w.heap.size + 1 + 1, 1, none⟩ (.slice g1.a2 D.G.D.n g1.c2)) v.h D.H) := HNW.out.h.blw hb2
  have H2 : Hid (Row ((w1.setCell ⟨w.heap.size + 1 + 1, 0, none⟩ (.slice g1.a1 D.G.n g1.c1)).setCell ⟨w.heap.size + 1 + 1, 1, none⟩ (.slice g1.a2 D.G.D.n g1.c2)) (w.heap.size + 1 + 1) 4 (fun i => if i = 0 then .slice g1.a1 D.G.n g1.c1 else if i = 1 then .slice g1.a2 D.G.D.n g1.c2 else if i = 2 then .slice none 0 0 else .slice none 0 0)) := S2
  have H1 : Hid (Row ((w1.setCell ⟨w.heap.size + 1 + 1, 0, none⟩ (.slice g1.a1 D.G.n g1.c1)).setCell ⟨w.heap.size + 1 + 1, 1, none⟩ (.slice g1.a2 D.G.D.n g1.c2)) (w.heap.size + 1) 4 (fun i => if i = 0 then .slice none 0 0 else if i = 1 then .slice none 0 0 else if i = 2 then .slice none 0 0 else .slice none 0 0)) := S1
  have HB2 : Hid (Blw w ((w1.setCell ⟨w.heap.size + 1 + 1, 0, none⟩ (.slice g1.a1 D.G.n g1.c1)).setCell ⟨w.heap.size + 1 + 1, 1, none⟩ (.slice g1.a2 D.G.D.n g1.c2))) := hb2
  have HS2 : Hid (w.heap.size + 1 + 1 + 1 ≤ w1.heap.size ∧ w1.heap.size ≤ ((w1.setCell ⟨w.heap.size + 1 + 1, 0, none⟩ (.slice g1.a1 D.G.n g1.c1)).setCell ⟨w.heap.size + 1 + 1, 1, none⟩ (.slice g1.a2 D.G.D.n g1.c2)).heap.size) := ⟨by omega, hs2⟩
  clear own1 hb1 hm1 S0 S1 S2 hz0 hb2 hs1 hs2 HN R0 R1 R2 HZ HB
  go_wp2_with fail
  clear p0 p1 p2 p3 q0 q1 q2 q3 f0 f1
  generalize ((w1.setCell ⟨w.heap.size + 1 + 1, 0, none⟩ (.slice g1.a1 D.G.n g1.c1)).setCell ⟨w.heap.size + 1 + 1, 1, none⟩ (.slice g1.a2 D.G.D.n g1.c2)) = w2 at *
  generalize w1.heap.size = z1 at *
  refine (toBook_any v.h D.H _ _ hS.2 HH.out).mono ?_
  rintro e w3 ⟨h1, rfl, own2, hb3⟩
  have hs2 := HS2.out
  have hm3 := setn2_mod (X := fun x => x = w.heap.size + 1 + 1) w3 (B := w.heap.size + 1 + 1) rfl 2 3 (.slice h1.a1 D.H.n h1.c1) (.slice h1.a2 D.H.D.n h1.c2)
  obtain ⟨q0, q1, q2, q3⟩ := get4 (H2.out.blw hb3)
  have f2 := (H2.out.blw hb3).frozen 2
  have f3 := (H2.out.blw hb3).frozen 3
  have S2 := set4_23 (H2.out.blw hb3) (.slice h1.a1 D.H.n h1.c1) (.slice h1.a2 D.H.D.n h1.c2)
  have S1 := (H1.out.blw hb3).mod hm3 (by omega)
  obtain ⟨p0, p1, p2, p3⟩ := get4 S2
  obtain ⟨t0, t1, t2, t3⟩ := get4 S1
  have e0 := S1.frozen 0; have e1 := S1.frozen 1; have e2 := S1.frozen 2; have e3 := S1.frozen 3
  have hs3 := hb3.size
  have HG3 : Hid (BookOwn (fun x => w.heap.size + 1 + 1 + 1 ≤ x ∧ x < z1) w3 g1 D.G) := HG.out.blw hb3
  have HH3 : Hid (BookOwn (fun x => z1 ≤ x ∧ x < w3.heap.size) w3 h1 D.H) := own2.mono (fun x hx => by omega)
  have HB3 : Hid (Blw w w3) := HB2.out.trans hb3
  have HS3 : Hid (w.heap.size + 1 + 1 + 1 ≤ z1 ∧ z1 ≤ w3.heap.size) := ⟨hs2.1, by omega⟩
  clear own2 hb3 hm3 S1 S2 hs2 hs3 HG HH H1 H2 HB2 HS2
  go_wp2
  refine bodyPost_ret (v := NV.val ⟨g1, h1⟩ D) (by simp [results, Try.results71, go_sem, t0, t1, t2, t3]) rfl ?_
  have m1 : Mod (fun x => x = w.heap.size + 1 ∨ x = w.heap.size + 1 + 1) w3 ((((((w3.setCell ⟨w.heap.size + 1 + 1, 2, none⟩ (.slice h1.a1 D.H.n h1.c1)).setCell ⟨w.heap.size + 1 + 1, 3, none⟩ (.slice h1.a2 D.H.D.n h1.c2)).setCell ⟨w.heap.size + 1, 0, none⟩ (.slice g1.a1 D.G.n g1.c1)).setCell ⟨w.heap.size + 1, 1, none⟩ (.slice g1.a2 D.G.D.n g1.c2)).setCell ⟨w.heap.size + 1, 2, none⟩ (.slice h1.a1 D.H.n h1.c1)).setCell ⟨w.heap.size + 1, 3, none⟩ (.slice h1.a2 D.H.D.n h1.c2)) :=
    ((setn2_mod _ (Or.inr rfl) _ _ _ _).trans (setn2_mod _ (Or.inl rfl) _ _ _ _)).trans (setn2_mod _ (Or.inl rfl) _ _ _ _)
  have h3 := HS3.out
  have h5 := m1.size
  exact ⟨⟨g1, h1⟩, rfl, ⟨fun x => w.heap.size + 1 + 1 + 1 ≤ x ∧ x < z1, fun x => z1 ≤ x ∧ x < w3.heap.size, fun x hx => ⟨⟨by omega, by omega⟩, by omega⟩, fun x hx => ⟨by omega, by omega⟩, HG3.out.mod m1 (fun x hx e => by omega), HH3.out.mod m1 (fun x hx e => by omega)⟩, Mod.blw HB3.out m1 (fun i hi => by omega)⟩
/-- A nest in its own box at z, all in blocks of X. -/
structure BBN (X : Nat → Prop) (z : Nat) (v : NV) (D D' : ND) (w : World) : Prop where
  own : NOwn (fun x => X x ∧ x ≠ z) w v D'
  box : Row w z 4 (nb v D)
theorem BBN.st {X : Nat → Prop} {z : Nat} {v : NV} {D D' : ND} {w : World} (h : BBN X z v D D' w) (hz : X z) (hX : ∀ b, X b → b < w.heap.size) : St X (BBN X z v D D') w :=
  ⟨hX, fun Z w' hm hx => ⟨h.own.mod hm (fun b hb => hx b hb.1), h.box.mod hm (hx z hz)⟩⟩
structure ArgN (n z : Nat) (v : NV) (D : ND) (w : World) : Prop where
  at_ : NAt (fun x => x < n) w v D
  box : Row w z 4 (nb v D)
theorem ArgN.st {n z a : Nat} {v : NV} {D : ND} {w : World} (h : ArgN n z v D w) (hn : n ≤ a) (hz : z < a) (ha : a ≤ w.heap.size) : St (fun x => x < a) (ArgN n z v D) w :=
  ⟨fun x hx => by omega, fun Z w' hm hx => ⟨h.at_.mod hm (fun b hb => hx b (by omega)), h.box.mod hm (hx z hz)⟩⟩
/-- What answers a nest and a bool. -/
def GivesN (out : ND → Bool → Prop) (w : World) : Ending → World → Prop := fun e w' =>
  ∃ (v : NV) (R : ND) (r : Bool), e = .returned (.tuple #[v.val R, .bool r]) ∧ out R r ∧ R.small ∧ NOwn (fun x => w.heap.size ≤ x ∧ x < w'.heap.size) w' v R ∧ Blw w w'
end Go.Proofs.Ytjplodenflkghaa
/- Slices that are appended to: what they hold, and what append leaves. -/
namespace Go.Proofs.Ytjplodenflkghaa
open Go.RowKit
set_option linter.unusedSimpArgs false
set_option linter.unusedVariables false
/-- The slice v is nil or owns its row, a block of X; its n elements' cells are F. -/
def Buf (e : TypeId) (size : Nat) (X : Nat → Prop) (w : World) (v : Value) (n : Nat) (F : Nat → Value) : Prop :=
  w.ownsRow 0 e size v n ((List.range (n * size)).map F) ∧ ∀ g, v.ownBlock = some g → X g
theorem Buf.nil (e : TypeId) (size : Nat) (X : Nat → Prop) (w : World) (F : Nat → Value) : Buf e size X w (.slice none 0 0) 0 F := ⟨⟨by simp, Or.inl ⟨rfl, rfl⟩⟩, fun g h => by simp [Value.ownBlock] at h⟩
theorem Buf.form {e : TypeId} {size : Nat} {X : Nat → Prop} {w : World} {v : Value} {n : Nat} {F : Nat → Value} (h : Buf e size X w v n F) :
    ∃ ao cap, v = .slice ao n cap ∧ (0 < n → ∃ g, X g ∧ ao = some ⟨g, 0, none⟩ ∧ Row w g (n * size) F) := by
  rcases h.1.2 with ⟨rfl, rfl⟩ | ⟨g, cap, cur, rfl, _, hb, h1, h2, h3, h4⟩
  · exact ⟨none, 0, rfl, fun h => absurd h (by omega)⟩
  · refine ⟨_, cap, rfl, fun hn => ⟨g, h.2 g rfl, rfl, cur, e, hb, ?_, fun i hi => ?_⟩⟩
    · rw [h3]; exact Nat.mul_le_mul_right _ h1
    · have := congrArg (fun l => l[i]?) h4
      simp [hi] at this
      exact this
theorem Buf.mod {e : TypeId} {size : Nat} {X Z : Nat → Prop} {w w' : World} {v : Value} {n : Nat} {F : Nat → Value} (h : Buf e size X w v n F) (hm : Mod Z w w') (hx : ∀ b, X b → ¬ Z b) : Buf e size X w' v n F := by
  refine ⟨⟨h.1.1, ?_⟩, h.2⟩
  rcases h.1.2 with h1 | ⟨g, cap, cur, rfl, h1, hb, h2⟩
  · exact Or.inl h1
  · exact Or.inr ⟨g, cap, cur, rfl, h1, (hm.block g (Array.getElem?_eq_some_iff.1 hb).1 (hx _ (h.2 g rfl))).trans hb, h2⟩
theorem Buf.blw {e : TypeId} {size : Nat} {X : Nat → Prop} {w w' : World} {v : Value} {n : Nat} {F : Nat → Value} (h : Buf e size X w v n F) (hb : Blw w w') : Buf e size X w' v n F := h.mod (hb.mod (fun _ => False)) (fun _ _ => id)
theorem Buf.mono {e : TypeId} {size : Nat} {X Y : Nat → Prop} {w : World} {v : Value} {n : Nat} {F : Nat → Value} (h : Buf e size X w v n F) (hxy : ∀ b, X b → Y b) : Buf e size Y w v n F := ⟨h.1, fun g hg => hxy _ (h.2 g hg)⟩
theorem Buf.congr {e : TypeId} {size : Nat} {X : Nat → Prop} {w : World} {v : Value} {n : Nat} {F G : Nat → Value} (h : Buf e size X w v n F) (he : ∀ i, i < n * size → F i = G i) : Buf e size X w v n G := by
  have : (List.range (n * size)).map F = (List.range (n * size)).map G := List.map_congr_left (fun i hi => he i (List.mem_range.1 hi))
  exact ⟨this ▸ h.1, h.2⟩
theorem Buf.lit {e : TypeId} {X : Nat → Prop} {w : World} {B : Nat} (h : w.heap[B]? = some (.cells #[] e (0, 0))) (size : Nat) (hx : X B) (F : Nat → Value) : Buf e size X w (.slice (some ⟨B, 0, none⟩) 0 0) 0 F :=
  ⟨⟨by simp, Or.inr ⟨B, 0, #[], rfl, Nat.zero_le _, h, Nat.le_refl _, by simp [maxLen], by simp, by simp⟩⟩, fun g hg => by simp [Value.ownBlock] at hg; subst hg; exact hx⟩
theorem append_none {t ty e : TypeId} {i : TypeInfo} {size : Nat} (ht : Try.prog.underlying t = some (.slice e)) (hi : Try.prog.info? e = some i) (w : World) (v : Value) (n c : Nat) (xs : List Value) (hown : w.ownsRow 0 e size v n xs) :
    (Builtin.append_ #[t, t] ty #[v, .slice none 0 c]).run Try.prog w = .ok v w := by
  rcases hown.2 with ⟨rfl, rfl⟩ | ⟨g, cap, cur, rfl, _, _, hnc, _⟩
  · simp [Builtin.append_, run_underlying ht, sizeOf, typeInfo, hi, Builtin.lenOf, Builtin.firstCells]
  · simp [Builtin.append_, run_underlying ht, sizeOf, typeInfo, hi, Builtin.lenOf, Builtin.firstCells, hnc, storeCells]
def cat (k : Nat) (F G : Nat → Value) : Nat → Value := fun i => if i < k then F i else G (i - k)
theorem cat_list (k m : Nat) (F G : Nat → Value) : (List.range k).map F ++ (List.range m).map G = (List.range (k + m)).map (cat k F G) := by
  apply List.ext_getElem?
  intro i
  by_cases h : i < k
  · rw [List.getElem?_append_left (by simpa using h)]
    simp [h, cat, Nat.lt_of_lt_of_le h (Nat.le_add_right k m)]
  · rw [List.getElem?_append_right (by simp; omega)]
    by_cases h2 : i < k + m
    · have : i - k < m := by omega
      simp [h, h2, this, cat]
    · have : ¬ i - k < m := by omega
      simp [h2, this]
/-- append of whatever is read at the source. -/
theorem Buf.append {t e : TypeId} {i : TypeInfo} {z : Value} {size bytes : Nat} (ht : Try.prog.underlying t = some (.slice e)) (hi : Try.prog.info? e = some i) (hz : i.zero = some z) (hsize : i.size = size) (hby : i.bytes = bytes) (hzs : z.cells.size = size) (hsz : 0 < size)
    {X : Nat → Prop} {w : World} {v : Value} {n : Nat} {F : Nat → Value} (h : Buf e size X w v n F) {ao : Option Addr} {m : Nat} (c : Nat) {G : Nat → Value} (hs : ao = none → m = 0) (hG : ∀ ad, ao = some ad → ∀ j, j < m * size → w.cell? (ad.add j) = some (G j)) (h1 : ∀ j, (G j).oneCell' = true)
    (hb : n + m ≤ 2097152) (hbb : bytes ≤ 1024) (ty : TypeId) :
    ∃ ao' cap w', (Builtin.append_ #[t, t] ty #[v, .slice ao m c]).run Try.prog w = .ok (.slice ao' (n + m) cap) w' ∧ Buf e size (fun b => (X b ∨ b = w.heap.size) ∧ b < w'.heap.size) w' (.slice ao' (n + m) cap) (n + m) (cat (n * size) F G) ∧ Mod (fun b => v.ownBlock = some b) w w' := by
  cases ao with
  | none =>
    obtain rfl := hs rfl
    obtain ⟨a0, cap, rfl, -⟩ := h.form
    refine ⟨a0, cap, w, append_none ht hi w _ n c _ h.1, ⟨?_, fun g hg => ⟨Or.inl (h.2 g hg), ?_⟩⟩, Mod.refl _ _⟩
    · have e1 : (List.range ((n + 0) * size)).map (cat (n * size) F G) = (List.range (n * size)).map F := by
        rw [Nat.add_zero]
        exact List.map_congr_left (fun i hi => by simp [cat, List.mem_range.1 hi])
      rw [e1]
      exact h.1
    · replace hg : (Value.slice a0 n cap).ownBlock = some g := hg
      rcases h.1.2 with ⟨e1, -⟩ | ⟨g', cap', cur, e1, _, hb', _⟩
      · rw [e1] at hg; simp [Value.ownBlock] at hg
      · rw [e1] at hg
        simp [Value.ownBlock] at hg
        subst hg
        exact (Array.getElem?_eq_some_iff.1 hb').1
  | some ad =>
    obtain ⟨v', w', hr, h2, h3, -, h5⟩ := run_append_own_at (P := Try.prog) w 0 t ty e i z size bytes ht hi hz hsize hby hzs hsz v n _ h.1 ad m c ((List.range (m * size)).map G) (by simp)
      (fun j u hu => by
        have hj : j < m * size := by
          have := (List.getElem?_eq_some_iff.1 hu).1
          simpa using this
        rw [hG ad rfl j hj]
        simpa [hj] using hu) (fun u hu => by
        obtain ⟨j, -, rfl⟩ := List.mem_map.1 hu
        exact h1 j) (by simp only [maxLen]; omega) (Nat.le_trans (Nat.mul_le_mul hb hbb) (by decide)) (Nat.zero_le _)
    rw [cat_list, ← Nat.add_mul] at h2
    have hm : Mod (fun b => v.ownBlock = some b) w w' := ⟨h3.os, h3.tape, h3.output, h3.size, fun k hk hx => h3.block k hk (fun e => hx e.symm)⟩
    have hB : Buf e size (fun b => (X b ∨ b = w.heap.size) ∧ b < w'.heap.size) w' v' (n + m) (cat (n * size) F G) := by
      refine ⟨h2, fun g hg => ⟨?_, ?_⟩⟩
      · rcases h5 with h5 | h5
        · exact Or.inl (h.2 g (h5 ▸ hg))
        · rw [h5] at hg
          exact Or.inr (Option.some.inj hg).symm
      · rcases h2.2 with ⟨e1, -⟩ | ⟨g', cap', cur, e1, _, hb', _⟩
        · rw [e1] at hg; simp [Value.ownBlock] at hg
        · rw [e1] at hg
          simp [Value.ownBlock] at hg
          subst hg
          exact (Array.getElem?_eq_some_iff.1 hb').1
    obtain ⟨a0, cap, rfl, -⟩ := hB.form
    exact ⟨a0, cap, w', hr, hB, hm⟩
abbrev ic (f : Nat → Int) : Nat → Value := fun i => .int .i64 (f i)
def BufI (X : Nat → Prop) (w : World) (v : Value) (n : Nat) (f : Nat → Int) : Prop := Buf 3 1 X w v n (ic f)
def BufU (X : Nat → Prop) (w : World) (v : Value) (n : Nat) (f g : Nat → Int) : Prop := Buf 144 2 X w v n (uc f g)
theorem BufI.own {X : Nat → Prop} {w : World} {v : Value} {n : Nat} {f : Nat → Int} (h : BufI X w v n f) (hn : n ≤ 9223372036854775807) : ∃ ao cap, v = .slice ao n cap ∧ IntsOwn X w ao n f := by
  obtain ⟨ao, cap, e, h1⟩ := h.form
  exact ⟨ao, cap, e, hn, fun h0 => let ⟨g, hx, ea, hr⟩ := h1 h0; ⟨g, hx, ea, by rw [Nat.mul_one] at hr; exact hr⟩⟩
theorem BufU.own {X : Nat → Prop} {w : World} {v : Value} {n : Nat} {f g : Nat → Int} (h : BufU X w v n f g) (hn : n ≤ 9223372036854775807) : ∃ ao cap, v = .slice ao n cap ∧ UndosOwn X w ao n f g := by
  obtain ⟨ao, cap, e, h1⟩ := h.form
  exact ⟨ao, cap, e, hn, h1⟩
theorem uinfo69 : (Try.prog.info? 144).map (fun i => (i.zero, i.size, i.bytes)) = some (some (.agg #[.int .i64 0, .int .i64 0]), 2, 16) := by kernel_rfl
def icat (n : Nat) (f g : Nat → Int) : Nat → Int := fun i => if i < n then f i else g (i - n)
theorem BufI.append {X Y : Nat → Prop} {w : World} {v : Value} {n : Nat} {f : Nat → Int} (h : BufI X w v n f) {ao : Option Addr} {m : Nat} (c : Nat) {g : Nat → Int} (hs : IntsAt Y w ao m g) (hb : n + m ≤ 2097152) (ty : TypeId) :
    ∃ ao' cap w', (Builtin.append_ #[26, 26] ty #[v, .slice ao m c]).run Try.prog w = .ok (.slice ao' (n + m) cap) w' ∧ BufI (fun b => (X b ∨ b = w.heap.size) ∧ b < w'.heap.size) w' (.slice ao' (n + m) cap) (n + m) (icat n f g) ∧ Mod (fun b => v.ownBlock = some b) w w' := by
  obtain ⟨i0, hi0, hz0, hz1, hz2⟩ := info_parts tinfo3
  obtain ⟨a, cap, w', h1, h2, h3⟩ := Buf.append Try.underlying26 hi0 hz0 hz1 hz2 rfl (by decide) h (ao := ao) (m := m) c (G := ic g) (fun e => by
      rcases Nat.eq_zero_or_pos m with h0 | h0
      · exact h0
      · obtain ⟨b, o, e2, -⟩ := hs.2 0 h0
        rw [e] at e2; cases e2) (fun ad e j hj => by
      obtain ⟨b, o, e2, -, h4⟩ := hs.2 j (by omega)
      rw [e] at e2
      cases e2
      rw [Addr.add_mid]
      exact h4) (fun j => rfl) hb (by decide) ty
  refine ⟨a, cap, w', h1, h2.congr (fun i hi => ?_), h3⟩
  simp only [cat, ic, icat, Nat.mul_one]
  split <;> rfl
theorem BufU.append {X Y : Nat → Prop} {w : World} {v : Value} {n : Nat} {f g : Nat → Int} (h : BufU X w v n f g) {ao : Option Addr} {m : Nat} (c : Nat) {f' g' : Nat → Int} (hs : UndosAt Y w ao m f' g') (hb : n + m ≤ 2097152) (ty : TypeId) :
    ∃ ao' cap w', (Builtin.append_ #[147, 147] ty #[v, .slice ao m c]).run Try.prog w = .ok (.slice ao' (n + m) cap) w' ∧ BufU (fun b => (X b ∨ b = w.heap.size) ∧ b < w'.heap.size) w' (.slice ao' (n + m) cap) (n + m) (icat n f f') (icat n g g') ∧ Mod (fun b => v.ownBlock = some b) w w' := by
  obtain ⟨i0, hi0, hz0, hz1, hz2⟩ := info_parts uinfo69
  obtain ⟨a, cap, w', h1, h2, h3⟩ := Buf.append Try.underlying147 hi0 hz0 hz1 hz2 rfl (by decide) h (ao := ao) (m := m) c (G := uc f' g') (fun e => by
      rcases Nat.eq_zero_or_pos m with h0 | h0
      · exact h0
      · obtain ⟨b, o, e2, -⟩ := hs.2 0 h0
        rw [e] at e2; cases e2) (fun ad e j hj => by
      obtain ⟨b, o, e2, -, h4, h5⟩ := hs.2 (j / 2) (by omega)
      rw [e] at e2
      cases e2
      rw [Addr.add_mid]
      rcases (show j % 2 = 0 ∨ j % 2 = 1 by omega) with h6 | h6
      · have e6 : o + j = o + j / 2 * 2 := by omega
        rw [e6, h4]; simp [uc, h6]
      · have e6 : o + j = o + j / 2 * 2 + 1 := by omega
        rw [e6, h5]; simp [uc, h6]) (fun j => by simp only [uc]; split <;> rfl) hb (by decide) ty
  refine ⟨a, cap, w', h1, h2.congr (fun i hi => ?_), h3⟩
  have e1 : (i - n * 2) % 2 = i % 2 ∨ i < n * 2 := by omega
  by_cases h6 : i < n * 2
  · have h7 : i / 2 < n := by omega
    simp [cat, uc, icat, h6, h7]
  · have h7 : ¬ i / 2 < n := by omega
    have h8 : (i - n * 2) % 2 = i % 2 := by omega
    have h9 : (i - n * 2) / 2 = i / 2 - n := by omega
    simp only [cat, uc, icat, h6, h7, h8, h9, if_false]
/-- append at the operation, its run being known. -/
theorem wpList_append_run {w : World} {ops : Array Oper} {rest : List Oper} {o : Oper} {a : Act} {Q : Exit → Act → World → Prop} (hgd : o.guard = none) (s x : Operand) (t : TypeId)
    (ho : o.op = .call { callee := .builtin .append, args := #[s, x], argTypes := #[t, t] }) (v u : Value) (hs : a.eval s = v) (hx : a.eval x = u) {r : Value} {w' : World} (hrun : (Builtin.append_ #[t, t] o.type #[v, u]).run Try.prog w = .ok r w')
    (h : wpList Try.prog ops Q rest (a.put o.dst r) w') : wpList Try.prog ops Q (o :: rest) a w := by
  refine wpList_plain hgd fun K hK => ?_
  unfold Oper.wp
  simp [execOp, ho, resolve, invoke, builtin, hs, hx, hrun, Result.andThen]
  exact hK _ _ h
/-- The same, in two steps: first the operation is met. -/
theorem wpList_append_at {w : World} {ops : Array Oper} {rest : List Oper} {o : Oper} {a : Act} {Q : Exit → Act → World → Prop} (hgd : o.guard = none) (s x : Operand) (t : TypeId)
    (ho : o.op = .call { callee := .builtin .append, args := #[s, x], argTypes := #[t, t] })
    (h : ∃ r w', (Builtin.append_ #[t, t] o.type #[a.eval s, a.eval x]).run Try.prog w = .ok r w' ∧ wpList Try.prog ops Q rest (a.put o.dst r) w') : wpList Try.prog ops Q (o :: rest) a w := by
  obtain ⟨r, w', h1, h2⟩ := h
  exact wpList_append_run hgd s x t ho _ _ rfl rfl h1 h2
/-- append as one step of a region that draws its order, its run being known. -/
theorem step_append_run {w : World} {ops : Array Oper} {o : Oper} {a : Act} {K : Act → World → Prop} {Q : Exit → Act → World → Prop} {E : Prop} (hgd : o.guard = none) (s x : Operand) (t : TypeId)
    (ho : o.op = .call { callee := .builtin .append, args := #[s, x], argTypes := #[t, t] }) (v u : Value) (hs : a.eval s = v) (hx : a.eval x = u) {r : Value} {w' : World} (hrun : (Builtin.append_ #[t, t] o.type #[v, u]).run Try.prog w = .ok r w')
    (h : K (a.put o.dst r) w') : if Region.wanted o (yielded ops a.tmps) = true then Oper.wp Try.prog o a w K Q else E := by
  have hw : Region.wanted o (yielded ops a.tmps) = true := by simp [Region.wanted, hgd]
  rw [if_pos hw]
  unfold Oper.wp
  simp [execOp, ho, resolve, invoke, builtin, hs, hx, hrun, Result.andThen]
  exact h
/-- The operands of an append that no guard turns off. -/
def appOf (o : Oper) : Option (Operand × Operand × TypeId) :=
  match o.guard, o.op with
  | none, .call { callee := .builtin .append, args := ⟨[s, x]⟩, argTypes := ⟨[t, t']⟩ } => if t = t' then some (s, x, t) else none
  | _, _ => none
theorem appOf_eq {o : Oper} {s x : Operand} {t : TypeId} (h : appOf o = some (s, x, t)) : o.guard = none ∧ o.op = .call { callee := .builtin .append, args := #[s, x], argTypes := #[t, t] } := by
  unfold appOf at h
  split at h
  · rename_i e1 e2
    split at h
    · rename_i e3
      subst e3
      simp only [Option.some.injEq, Prod.mk.injEq] at h
      obtain ⟨rfl, rfl, rfl⟩ := h
      exact ⟨e1, e2⟩
    · cases h
  · cases h
theorem step_app {w : World} {ops : Array Oper} {o : Oper} {a : Act} {K : Act → World → Prop} {Q : Exit → Act → World → Prop} {E : Prop} (s x : Operand) (t : TypeId) (ho : appOf o = some (s, x, t))
    (h : ∃ r w', (Builtin.append_ #[t, t] o.type #[a.eval s, a.eval x]).run Try.prog w = .ok r w' ∧ K (a.put o.dst r) w') :
    if Region.wanted o (yielded ops a.tmps) = true then Oper.wp Try.prog o a w K Q else E := by
  obtain ⟨r, w', h1, h2⟩ := h
  exact step_append_run (appOf_eq ho).1 s x t (appOf_eq ho).2 _ _ rfl rfl h1 h2
theorem wpList_app {w : World} {ops : Array Oper} {rest : List Oper} {o : Oper} {a : Act} {Q : Exit → Act → World → Prop} (s x : Operand) (t : TypeId) (ho : appOf o = some (s, x, t))
    (h : ∃ r w', (Builtin.append_ #[t, t] o.type #[a.eval s, a.eval x]).run Try.prog w = .ok r w' ∧ wpList Try.prog ops Q rest (a.put o.dst r) w') : wpList Try.prog ops Q (o :: rest) a w := by
  obtain ⟨r, w', h1, h2⟩ := h
  exact wpList_append_run (appOf_eq ho).1 s x t (appOf_eq ho).2 _ _ rfl rfl h1 h2
theorem one_ints (w : World) (x : Int) : IntsAt (fun b => b = w.heap.size) (w.alloc (.cells #[.int .i64 x] 3)) (some ⟨w.heap.size, 0, none⟩) 1 (fun _ => x) := by
  refine ⟨by omega, fun i hi => ⟨w.heap.size, 0, rfl, rfl, ?_⟩⟩
  obtain rfl : i = 0 := by omega
  exact (Row.of_cells (heap_alloc_new w (.cells #[.int .i64 x] 3)) (fun _ => .int .i64 x) (fun i hi => by obtain rfl : i = 0 := by simpa using hi
                                                                                                          rfl)).cell (i := 0) (by simp)
theorem one_undo (w : World) (x y : Int) : UndosAt (fun b => b = w.heap.size) (w.alloc (.cells #[.int .i64 x, .int .i64 y] 144)) (some ⟨w.heap.size, 0, none⟩) 1 (fun _ => x) (fun _ => y) := by
  refine ⟨by omega, fun i hi => ⟨w.heap.size, 0, rfl, rfl, ?_⟩⟩
  obtain rfl : i = 0 := by omega
  have := get2 (box2 w (.int .i64 x) (.int .i64 y) 144)
  exact this
end Go.Proofs.Ytjplodenflkghaa
/- Good tables: the model's test. -/
namespace Go.Proofs.Ytjplodenflkghaa
open Go.RowKit
set_option linter.unusedSimpArgs false
set_option linter.unusedVariables false
theorem iff_t {p : Prop} (h : p) : (true = true ↔ p) := ⟨fun _ => h, fun _ => rfl⟩
theorem iff_f {p : Prop} (h : ¬ p) : (false = true ↔ p) := ⟨fun e => Bool.noConfusion e, fun g => absurd g h⟩
def leafOK (p m : Int) : Prop := (0 ≤ p ∧ p ≤ 15) ∧ (0 ≤ m ∧ m ≤ 3) ∧ (0 < m ∨ p = 0)
/-- A good table. -/
structure BD.Good (B : BD) : Prop where
  n : B.n = 4
  k : 1 ≤ B.D.n ∧ B.D.n ≤ 4
  leaf : ∀ i, i < B.D.n → B.D.len i = 4 ∧ ∀ j, j < 4 → leafOK (B.D.p i j) (B.D.m i j)
  top : ∀ i, i < B.n → -1 ≤ B.c i ∧ B.c i ≤ (B.D.n : Int) - 1
  dis : ∀ i j, i < B.n → j < i → 0 ≤ B.c i → ¬ B.c j = B.c i
  idle : ∀ k, k < B.D.n → (∀ i, i < B.n → ¬ B.c i = (k : Int)) → ∀ j, j < 4 → ¬ 0 < B.D.m k j
theorem l1In_any (n lo hi : Int) (w : World) : Calls Try.prog 98 #[.int .i64 n, .int .i64 lo, .int .i64 hi] w fun e w' => ∃ r, e = .returned (.bool r) ∧ (r = true ↔ (lo ≤ n ∧ n ≤ hi)) ∧ w' = w := by
  by_cases h : lo ≤ n ∧ n ≤ hi
  · exact (l1In_yes n lo hi w h.1 h.2).mono fun e w' ⟨h1, h2⟩ => ⟨true, h1, ⟨fun _ => h, fun _ => rfl⟩, h2⟩
  · exact (l1In_no n lo hi w h).mono fun e w' ⟨h1, h2⟩ => ⟨false, h1, iff_f h, h2⟩
set_option maxHeartbeats 1600000 in
theorem l6Leaf_any (p m : Int) (w : World) : Calls Try.prog 154 #[.agg #[.int .i64 p, .int .i64 m]] w fun e w' => ∃ r, e = .returned (.bool r) ∧ (r = true ↔ leafOK p m) ∧ Blw w w' := by
  have hb0 : Blw w (w.alloc (.cells #[.int .i64 p, .int .i64 m] 144)) := (Blw.refl _).alloc _
  obtain ⟨p0, p1⟩ := get2 (box2 w (.int .i64 p) (.int .i64 m) 144)
  go_enter Try.func154, Try.ntmps154
  go_wp2_with fail
  revert hb0 p0 p1
  generalize w.alloc (.cells #[.int .i64 p, .int .i64 m] 144) = w0
  intro hb0 p0 p1
  refine (l1In_any p 0 15 _).mono ?_
  rintro e w0 ⟨r, rfl, hr, rfl⟩
  have HR : Hid (r = true ↔ (0 ≤ p ∧ p ≤ 15)) := hr
  clear hr
  cases r
  · have HN : Hid (¬ leafOK p m) := fun g => by have := HR.out.2 g.1; simp at this
    clear HR
    go_wp2
    go_ret
    exact ⟨false, rfl, iff_f HN.out, hb0⟩
  have H1 : Hid (0 ≤ p ∧ p ≤ 15) := HR.out.1 (by first | rfl | trivial)
  clear HR
  go_wp2_with fail
  refine (l1In_any m 0 3 _).mono ?_
  rintro e w0 ⟨r, rfl, hr, rfl⟩
  have HR : Hid (r = true ↔ (0 ≤ m ∧ m ≤ 3)) := hr
  clear hr
  cases r
  · have HN : Hid (¬ leafOK p m) := fun g => by have := HR.out.2 g.2.1; simp at this
    clear HR
    go_wp2
    go_ret
    exact ⟨false, rfl, iff_f HN.out, hb0⟩
  have H2 : Hid (0 ≤ m ∧ m ≤ 3) := HR.out.1 (by first | rfl | trivial)
  clear HR
  by_cases hm : 0 < m
  · have OK : Hid (leafOK p m) := ⟨H1.out, H2.out, Or.inl hm⟩
    have d1 : decide (m > 0) = true := by simp; omega
    clear hm
    go_wp2
    go_ret
    exact ⟨true, rfl, iff_t OK.out, hb0⟩
  · have d1 : decide (m > 0) = false := by simp; omega
    by_cases hp : p = 0
    · have OK : Hid (leafOK p m) := ⟨H1.out, H2.out, Or.inr hp⟩
      have d2 : (p == 0) = true := by simp [hp]
      clear hm hp
      go_wp2
      go_ret
      exact ⟨true, rfl, iff_t OK.out, hb0⟩
    · have HN : Hid (¬ leafOK p m) := fun g => g.2.2.elim hm hp
      have d2 : (p == 0) = false := by simp [hp]
      clear hm hp
      go_wp2
      go_ret
      exact ⟨false, rfl, iff_f HN.out, hb0⟩
def noMay (g : Nat → Int) (n : Nat) : Prop := ∀ j, j < n → ¬ 0 < g j
set_option maxHeartbeats 1600000 in
theorem l6Empty_any (ao : Option Addr) (c0 n : Nat) (f g : Nat → Int) (Y : Nat → Prop) (w : World) (h : UndosAt Y w ao n f g) :
    Calls Try.prog 155 #[.slice ao n c0] w fun e w' => ∃ r, e = .returned (.bool r) ∧ (r = true ↔ noMay g n) ∧ Blw w w' := by
  have hn := h.1
  have H : Hid (UndosAt Y w ao n f g) := h
  clear h
  go_enter Try.func155, Try.ntmps155
  go_wp2_with fail
  go_loopw [7] (fun i wr => ∃ j : Nat, j ≤ n ∧ i = .int .i64 j ∧ noMay g j ∧ Blw w wr) (fun i _ => n - (intOf i).toNat)
  case atStart => exact ⟨0, Nat.zero_le _, rfl, fun t ht => absurd ht (Nat.not_lt_zero _), Blw.refl _⟩
  case round =>
    obtain ⟨j, hj, rfl, hok, hb⟩ := hrel
    have HO : Hid (noMay g j) := hok
    have HB : Hid (Blw w wr) := hb
    clear hok hb
    by_cases hlt : j < n
    · obtain ⟨b, o, e, -, q0, q1⟩ := (H.out.blw HB.out).2 j hlt
      subst e
      have hbn : Blw wr (wr.alloc (.cells #[.int .i64 (f j), .int .i64 (g j)] 144)) := (Blw.refl _).alloc _
      obtain ⟨s0, s1⟩ := get2 (box2 wr (.int .i64 (f j)) (.int .i64 (g j)) 144)
      have HBN : Hid (Blw w (wr.alloc (.cells #[.int .i64 (f j), .int .i64 (g j)] 144))) := HB.out.trans hbn
      clear hbn
      by_cases hg : 0 < g j
      · have HN : Hid (¬ noMay g n) := fun q => q j hlt hg
        have d1 : decide (g j > 0) = true := by simp; omega
        clear hg HO
        go_wp2
        exact bodyPost_ret (v := .bool false) (by simp [results, Try.results155, go_sem]) rfl (by first | exact ⟨false, rfl, iff_f HN.out, HBN.out⟩ | exact Or.inl ⟨rfl, HN.out, HBN.out⟩)
      · have d1 : decide (g j > 0) = false := by simp; omega
        have HN : Hid (noMay g (j + 1)) := fun t ht => by
          by_cases e : t = j
          · subst e; exact hg
          · exact HO.out t (by omega)
        clear hg HO
        go_wp2
        go_roundw
        case rel => exact ⟨j + 1, by omega, by go_num, HN.out, HBN.out⟩
        case measure => simp [intOf]; omega
    · obtain rfl : j = n := by omega
      go_wp2
      exact bodyPost_ret (v := .bool true) (by simp [results, Try.results155, go_sem]) rfl (by first | exact ⟨true, rfl, iff_t HO.out, HB.out⟩ | exact Or.inr ⟨rfl, HO.out, HB.out⟩)
def snoc' (k : Nat) (f : Nat → Int) (x : Int) : Nat → Int := fun i => if i = k then x else f i
theorem pushI {X : Nat → Prop} {W : World} {v : Value} {n : Nat} {f : Nat → Int} (h : BufI X W v n f) (hn : n ≤ 1048576) (x : Int) :
    ∃ ao' cap w', (Builtin.append_ #[26, 26] 26 #[v, .slice (some ⟨W.heap.size, 0, none⟩) 1 1]).run Try.prog (W.alloc (.cells #[.int .i64 x] 3)) = .ok (.slice ao' (n + 1) cap) w' ∧ BufI (fun b => (X b ∨ W.heap.size < b) ∧ b < w'.heap.size) w' (.slice ao' (n + 1) cap) (n + 1) (snoc' n f x) ∧ Mod (fun b => v.ownBlock = some b) W w' := by
  obtain ⟨a, cap, w', h1, h2, h3⟩ := BufI.append (Buf.blw h ((Blw.refl _).alloc _)) 1 (one_ints W x) (by omega) 26
  refine ⟨a, cap, w', h1, (Buf.congr h2 (fun i hi => ?_)).mono (fun b hb => ?_), (((Blw.refl W).alloc _).mod _).trans h3⟩
  · by_cases e : i < n
    · have e2 : i ≠ n := by omega
      simp [ic, icat, e, e2, snoc']
    · have e2 : i = n := by omega
      simp [ic, icat, e2, snoc']
  · exact ⟨hb.1.imp id (fun e => by rw [World.size_alloc] at e; omega), hb.2⟩
/-- A list of numbers that grows behind w. -/
structure Gr (w wr : World) (v : Value) (n : Nat) (f : Nat → Int) : Prop where
  buf : BufI (fun x => w.heap.size ≤ x ∧ x < wr.heap.size) wr v n f
  blw : Blw w wr
theorem Gr.go {w wr w' : World} {v : Value} {n : Nat} {f : Nat → Int} (h : Gr w wr v n f) (hb : Blw wr w') : Gr w w' v n f :=
  ⟨(Buf.blw h.buf hb).mono (fun x hx => ⟨hx.1, Nat.lt_of_lt_of_le hx.2 hb.size⟩), h.blw.trans hb⟩
theorem Gr.push {w wr : World} {v : Value} {n : Nat} {f : Nat → Int} (h : Gr w wr v n f) (hn : n ≤ 1048576) (x : Int) :
    ∃ ao' cap w', (Builtin.append_ #[26, 26] 26 #[v, .slice (some ⟨wr.heap.size, 0, none⟩) 1 1]).run Try.prog (wr.alloc (.cells #[.int .i64 x] 3)) = .ok (.slice ao' (n + 1) cap) w' ∧ Gr w w' (.slice ao' (n + 1) cap) (n + 1) (snoc' n f x) := by
  obtain ⟨a, cap, w', h1, h2, h3⟩ := pushI h.buf hn x
  have hs := h.blw.size
  have hx : ∀ b, v.ownBlock = some b → w.heap.size ≤ b := fun b hb => (h.buf.2 b hb).1
  refine ⟨a, cap, w', h1, ⟨Buf.mono h2 (fun b hb => ⟨?_, hb.2⟩), Mod.blw h.blw h3 (fun b hb => hx b hb)⟩⟩
  rcases hb.1 with h | h
  · exact h.1
  · omega
theorem Gr.at {w wr : World} {v : Value} {n : Nat} {f : Nat → Int} (h : Gr w wr v n f) (hn : n ≤ 1048576) : ∃ ao cap, v = .slice ao n cap ∧ IntsAt (fun x => w.heap.size ≤ x ∧ x < wr.heap.size) wr ao n f := by
  obtain ⟨ao, cap, e, ho⟩ := BufI.own h.buf (by omega)
  exact ⟨ao, cap, e, ho.at⟩
theorem Gr.congr {w wr : World} {v : Value} {n : Nat} {f g : Nat → Int} (h : Gr w wr v n f) (e : ∀ i, i < n → f i = g i) : Gr w wr v n g := ⟨Buf.congr h.buf (fun i hi => by simp only [ic]; rw [e i (by omega)]), h.blw⟩
def listOK (D : PD) (i : Nat) : Prop := D.len i = 4 ∧ ∀ j, j < 4 → leafOK (D.p i j) (D.m i j)
def topOK (B : BD) (i : Nat) : Prop := (-1 ≤ B.c i ∧ B.c i ≤ (B.D.n : Int) - 1) ∧ (0 ≤ B.c i → ¬ hasLine i B.c (B.c i))
def idleOK (B : BD) (k : Nat) : Prop := ¬ hasLine B.n B.c (k : Int) → ∀ j, j < B.D.len k → ¬ 0 < B.D.m k j
theorem good_parts {B : BD} : B.Good ↔ (∀ i, i < B.D.n → listOK B.D i) ∧ (∀ i, i < B.n → topOK B i) ∧ (∀ k, k < B.D.n → idleOK B k) ∧ B.n = 4 ∧ 1 ≤ B.D.n ∧ B.D.n ≤ 4 := by
  constructor
  · intro g
    refine ⟨g.leaf, fun i hi => ⟨g.top i hi, fun h0 ⟨t, ht, e⟩ => g.dis i t hi ht h0 e⟩, fun k hk hn j hj => ?_, g.n, g.k.1, g.k.2⟩
    exact g.idle k hk (fun i hi e => hn ⟨i, hi, e⟩) j (by rw [(g.leaf k hk).1] at hj; exact hj)
  · rintro ⟨h1, h2, h3, h4, h5, h6⟩
    refine ⟨h4, ⟨h5, h6⟩, h1, fun i hi => (h2 i hi).1, fun i j hi hj h0 e => (h2 i hi).2 h0 ⟨j, hj, e⟩, fun k hk hn j hj => ?_⟩
    exact h3 k hk (fun ⟨t, ht, e⟩ => hn t ht e) j (by rw [(h1 k hk).1]; exact hj)
set_option maxRecDepth 10000 in
set_option maxHeartbeats 6400000 in
theorem specGood_any (b : BV) (B : BD) (Y : Nat → Prop) (w : World) (hn : B.n ≤ 1048576) (h : BookAt Y w b B) :
    Calls Try.prog 97 #[b.val B] w fun e w' => ∃ r, e = .returned (.bool r) ∧ (r = true ↔ B.Good) ∧ Blw w w' := by
  have HG : Hid (B.Good ↔ (∀ i, i < B.D.n → listOK B.D i) ∧ (∀ i, i < B.n → topOK B i) ∧ (∀ k, k < B.D.n → idleOK B k) ∧ B.n = 4 ∧ 1 ≤ B.D.n ∧ B.D.n ≤ 4) := good_parts
  obtain ⟨n, c, ⟨kn, len, p, m⟩⟩ := B
  obtain ⟨a1, a2, q1, q2⟩ := b
  simp only [BV.val] at *
  have hb0 : Blw w (w.alloc (.cells #[.slice a1 n q1, .slice a2 kn q2] 29)) := (Blw.refl _).alloc _
  have HC : Hid (IntsAt Y (w.alloc (.cells #[.slice a1 n q1, .slice a2 kn q2] 29)) a1 n c) := h.c.blw hb0
  have HL : Hid (PSAt Y (w.alloc (.cells #[.slice a1 n q1, .slice a2 kn q2] 29)) a2 ⟨kn, len, p, m⟩) := h.l.blw hb0
  have r0 := box2 w (.slice a1 n q1) (.slice a2 kn q2) 29
  have hkn := h.l.1
  dsimp only at hkn
  clear h
  obtain ⟨p0, p1⟩ := get2 r0
  go_enter Try.func97, Try.ntmps97
  go_wp2_with fail
  clear p0 p1
  revert hb0 HC HL r0
  generalize w.alloc (.cells #[.slice a1 n q1, .slice a2 kn q2] 29) = w0
  intro hb0 HC HL r0
  have HR0 : Hid (Row w0 w.heap.size 2 (fun i => if i = 0 then .slice a1 n q1 else .slice a2 kn q2)) := r0
  have HB0 : Hid (Blw w w0) := hb0
  clear r0 hb0
  go_loopw [15] (fun i wr => ∃ j : Nat, j ≤ kn ∧ i = .int .i64 j ∧ (∀ i, i < j → listOK ⟨kn, len, p, m⟩ i) ∧ Blw w0 wr) (fun i _ => kn - (intOf i).toNat)
  case atStart => exact ⟨0, Nat.zero_le _, rfl, fun t ht => absurd ht (Nat.not_lt_zero _), Blw.refl _⟩
  case round =>
    obtain ⟨j, hj, rfl, hok, hb⟩ := hrel
    have HO : Hid (∀ i, i < j → listOK ⟨kn, len, p, m⟩ i) := hok
    have HB : Hid (Blw w0 wr) := hb
    clear hok hb
    by_cases hlt : j < kn
    · obtain ⟨bb, oo, aa, cc, ea, -, g1, g2⟩ := (HL.out.blw HB.out).2 j hlt
      dsimp only at g1 g2
      have G2 : Hid (UndosAt Y wr aa (len j) (p j) (m j)) := g2
      clear g2
      subst ea
      by_cases hl4 : len j = 4
      case neg =>
        have HN : Hid (¬ BD.Good ⟨n, c, ⟨kn, len, p, m⟩⟩) := fun g => hl4 ((HG.out.1 g).1 j hlt).1
        have d1 : ((len j : Int) != 4) = true := by simp; omega
        clear hl4 HO
        go_wp2
        go_ret
        exact ⟨false, rfl, iff_f HN.out, HB0.out.trans HB.out⟩
      rw [hl4] at g1
      replace G2 : Hid (UndosAt Y wr aa 4 (p j) (m j)) := by have := G2.out; rw [hl4] at this; exact this
      have HL4 : Hid (len j = 4) := hl4
      clear hl4
      go_wp2_with fail
      clear g1
      go_loopw [24] (fun i wq => ∃ t : Nat, t ≤ 4 ∧ i = .int .i64 t ∧ (∀ s, s < t → leafOK (p j s) (m j s)) ∧ Blw wr wq) (fun i _ => 4 - (intOf i).toNat)
      case atStart => exact ⟨0, Nat.zero_le _, rfl, fun t ht => absurd ht (Nat.not_lt_zero _), Blw.refl _⟩
      case round =>
        obtain ⟨t, ht, rfl, hok2, hb2⟩ := hrel
        have HO2 : Hid (∀ s, s < t → leafOK (p j s) (m j s)) := hok2
        have HB2 : Hid (Blw w0 wr) := HB.out.trans hb2
        have HBQ : Hid (Blw _ wr) := hb2
        clear hok2 hb2
        by_cases ht4 : t < 4
        · have ht4' : (t : Int) < 4 := by omega
          obtain ⟨b3, o3, e3, -, q0, q1⟩ := (G2.out.blw HBQ.out).2 t ht4
          subst e3
          obtain ⟨s0, s1⟩ := get2 (box2 wr (.int .i64 (p j t)) (.int .i64 (m j t)) 144)
          have hA : Blw wr (wr.alloc (.cells #[.int .i64 (p j t), .int .i64 (m j t)] 144)) := (Blw.refl _).alloc _
          go_wp2_with fail
          clear q0 q1 s0 s1
          refine (l6Leaf_any (p j t) (m j t) _).mono ?_
          rintro e w1 ⟨r, rfl, hr, hb1⟩
          have HRR : Hid (r = true ↔ leafOK (p j t) (m j t)) := hr
          replace HB2 : Hid (Blw w0 w1) := (HB2.out.trans hA).trans hb1
          replace HBQ : Hid (Blw _ w1) := (HBQ.out.trans hA).trans hb1
          clear hr hA hb1
          cases r
          · have HN : Hid (¬ BD.Good ⟨n, c, ⟨kn, len, p, m⟩⟩) := fun g => by have := HRR.out.2 (((HG.out.1 g).1 j hlt).2 t ht4); simp at this
            clear HRR HO HO2
            go_wp2
            go_ret
            exact ⟨false, rfl, iff_f HN.out, HB0.out.trans HB2.out⟩
          · have HN : Hid (∀ s, s < t + 1 → leafOK (p j s) (m j s)) := fun s hs => by
              by_cases e : s = t
              · subst e; exact HRR.out.1 (by first | rfl | trivial)
              · exact HO2.out s (by omega)
            clear HRR HO2
            go_wp2
            go_roundw
            case rel => exact ⟨t + 1, by omega, by go_num, HN.out, HBQ.out⟩
            case measure => simp [intOf]; omega
        · obtain rfl : t = 4 := by omega
          have HN : Hid (∀ i, i < j + 1 → listOK ⟨kn, len, p, m⟩ i) := fun i hi => by
            by_cases e : i = j
            · subst e; exact ⟨HL4.out, HO2.out⟩
            · exact HO.out i (by omega)
          clear HO HO2 ht4
          go_wp2
          go_roundw
          case rel => exact ⟨j + 1, by omega, by go_num, HN.out, HB2.out⟩
          case measure => simp [intOf]; omega
    · obtain rfl : j = kn := by omega
      obtain ⟨p0, p1⟩ := get2 (HR0.out.blw HB.out)
      go_wp2_with fail
      clear p0 p1
      have HL1 : Hid (∀ i, i < j → listOK ⟨j, len, p, m⟩ i) := HO.out
      have HBL : Hid (Blw w wr) := HB0.out.trans HB.out
      replace HC : Hid (IntsAt Y wr a1 n c) := HC.out.blw HB.out
      replace HL : Hid (PSAt Y wr a2 ⟨j, len, p, m⟩) := HL.out.blw HB.out
      replace HR0 : Hid (Row wr w.heap.size 2 (fun i => if i = 0 then .slice a1 n q1 else .slice a2 j q2)) := HR0.out.blw HB.out
      clear HO HB hlt HB0
      generalize wr = wL at *
      go_loopw [7, 36] (fun v i wq => ∃ t : Nat, t ≤ n ∧ i = .int .i64 t ∧ (∀ i, i < t → topOK ⟨n, c, ⟨j, len, p, m⟩⟩ i) ∧ Gr wL wq v t c) (fun _ i _ => n - (intOf i).toNat)
      case atStart => exact ⟨0, Nat.zero_le _, rfl, fun t ht => absurd ht (Nat.not_lt_zero _), ⟨Buf.nil _ _ _ _ _, Blw.refl _⟩⟩
      case round =>
        obtain ⟨t, ht, rfl, hok, hgr⟩ := hrel
        have HO : Hid (∀ i, i < t → topOK ⟨n, c, ⟨j, len, p, m⟩⟩ i) := hok
        have HGr : Hid (Gr wL wr u7 t c) := hgr
        clear hok hgr
        obtain ⟨ua, uc', rfl, hua⟩ := HGr.out.at (by omega)
        have HUA : Hid (IntsAt _ wr ua t c) := hua
        clear hua
        by_cases hlt : t < n
        · obtain ⟨bb, oo, ea, -, g1⟩ := (HC.out.blw HGr.out.blw).2 t hlt
          subst ea
          have hlt' : (t : Int) < n := by omega
          obtain ⟨p0, p1⟩ := get2 (HR0.out.blw HGr.out.blw)
          go_wp2_with fail
          clear p0 p1 g1
          refine (l1In_any (c t) (-1) ((j : Int) - 1) _).mono ?_
          rintro e wr ⟨r, rfl, hr, rfl⟩
          have HRR : Hid (r = true ↔ (-1 ≤ c t ∧ c t ≤ (j : Int) - 1)) := hr
          clear hr
          cases r
          · have HN : Hid (¬ BD.Good ⟨n, c, ⟨j, len, p, m⟩⟩) := fun g => by have := HRR.out.2 ((HG.out.1 g).2.1 t hlt).1; simp at this
            have HBF : Hid (Blw w wr) := HBL.out.trans HGr.out.blw
            clear HRR HO HGr HUA
            go_wp2
            go_ret
            exact ⟨false, rfl, iff_f HN.out, HBF.out⟩
          have H1 : Hid (-1 ≤ c t ∧ c t ≤ (j : Int) - 1) := HRR.out.1 (by first | rfl | trivial)
          clear HRR
          by_cases h0 : 0 ≤ c t
          · have d0 : decide (c t ≥ 0) = true := by simp; omega
            have H0 : Hid (0 ≤ c t) := h0
            clear h0
            go_wp2_with fail
            refine (l1Has_any ua uc' t c _ _ (c t) HUA.out).mono ?_
            rintro e wr ⟨r, rfl, hr, rfl⟩
            have HRR : Hid (r = true ↔ hasLine t c (c t)) := hr
            clear hr
            cases r
            · have HN1 : Hid (topOK ⟨n, c, ⟨j, len, p, m⟩⟩ t) := ⟨H1.out, fun _ q => by have := HRR.out.2 q; simp at this⟩
              clear HRR
              have HTN : Hid (∀ i, i < t + 1 → topOK ⟨n, c, ⟨j, len, p, m⟩⟩ i) := fun i hi => by
                by_cases e : i = t
                · subst e; exact HN1.out
                · exact HO.out i (by omega)
              obtain ⟨ao, cap, w2, hrun, hG2⟩ := HGr.out.push (by omega) (c t)
              have HRN : Hid _ := hrun
              have HN : Hid (Gr wL w2 (.slice ao (t + 1) cap) (t + 1) c) := hG2.congr (fun i hi => by unfold snoc'; by_cases e : i = t; (rw [if_pos e, e]); (rw [if_neg e]))
              clear hrun hG2 HGr HUA HO HN1
              go_wp2_with (first | (at_builtin; refine wpList_app (.tmp 56) (.tmp 58) 26 (by rfl) ?_; refine ⟨_, _, HRN.out, ?_⟩) | fail)
              go_roundw
              case rel => exact ⟨t + 1, by omega, by go_num, HTN.out, HN.out⟩
              case measure => simp [intOf]; omega
            · have HN : Hid (¬ BD.Good ⟨n, c, ⟨j, len, p, m⟩⟩) := fun g => ((HG.out.1 g).2.1 t hlt).2 H0.out (HRR.out.1 (by first | rfl | trivial))
              have HBF : Hid (Blw w wr) := HBL.out.trans HGr.out.blw
              clear HRR HO HGr HUA
              go_wp2
              go_ret
              exact ⟨false, rfl, iff_f HN.out, HBF.out⟩
          · have d0 : decide (c t ≥ 0) = false := by simp; omega
            have HN1 : Hid (topOK ⟨n, c, ⟨j, len, p, m⟩⟩ t) := ⟨H1.out, fun q => absurd q h0⟩
            clear h0
            have HTN : Hid (∀ i, i < t + 1 → topOK ⟨n, c, ⟨j, len, p, m⟩⟩ i) := fun i hi => by
              by_cases e : i = t
              · subst e; exact HN1.out
              · exact HO.out i (by omega)
            obtain ⟨ao, cap, w2, hrun, hG2⟩ := HGr.out.push (by omega) (c t)
            have HRN : Hid _ := hrun
            have HN : Hid (Gr wL w2 (.slice ao (t + 1) cap) (t + 1) c) := hG2.congr (fun i hi => by unfold snoc'; by_cases e : i = t; (rw [if_pos e, e]); (rw [if_neg e]))
            clear hrun hG2 HGr HUA HO HN1
            go_wp2_with (first | (at_builtin; refine wpList_app (.tmp 56) (.tmp 58) 26 (by rfl) ?_; refine ⟨_, _, HRN.out, ?_⟩) | fail)
            go_roundw
            case rel => exact ⟨t + 1, by omega, by go_num, HTN.out, HN.out⟩
            case measure => simp [intOf]; omega
        · obtain rfl : t = n := by omega
          have HT : Hid (∀ i, i < t → topOK ⟨t, c, ⟨j, len, p, m⟩⟩ i) := HO.out
          obtain ⟨p0, p1⟩ := get2 (HR0.out.blw HGr.out.blw)
          go_wp2_with fail
          clear p0 p1
          replace HL : Hid (PSAt Y wr a2 ⟨j, len, p, m⟩) := HL.out.blw HGr.out.blw
          replace HR0 : Hid (Row wr w.heap.size 2 (fun i => if i = 0 then .slice a1 t q1 else .slice a2 j q2)) := HR0.out.blw HGr.out.blw
          replace HBL : Hid (Blw w wr) := HBL.out.trans HGr.out.blw
          clear HO HGr HC hlt
          generalize wr = wM at *
          go_loopw [64] (fun i wq => ∃ s : Nat, s ≤ j ∧ i = .int .i64 s ∧ (∀ i, i < s → idleOK ⟨t, c, ⟨j, len, p, m⟩⟩ i) ∧ Blw wM wq) (fun i _ => j - (intOf i).toNat)
          case atStart => exact ⟨0, Nat.zero_le _, rfl, fun t ht => absurd ht (Nat.not_lt_zero _), Blw.refl _⟩
          case round =>
            obtain ⟨s, hs, rfl, hok, hb⟩ := hrel
            have HO : Hid (∀ i, i < s → idleOK ⟨t, c, ⟨j, len, p, m⟩⟩ i) := hok
            have HB : Hid (Blw wM wr) := hb
            clear hok hb
            by_cases hlt : s < j
            · obtain ⟨bb, oo, aa, cc, ea, -, g1, g2⟩ := (HL.out.blw HB.out).2 s hlt
              dsimp only at g1 g2
              subst ea
              have G2 : Hid (UndosAt Y wr aa (len s) (p s) (m s)) := g2
              clear g2
              go_wp2_with fail
              clear g1
              refine (l1Has_any ua uc' t c _ _ (s : Int) (HUA.out.blw HB.out)).mono ?_
              rintro e wr ⟨r, rfl, hr, rfl⟩
              have HRR : Hid (r = true ↔ hasLine t c (s : Int)) := hr
              clear hr
              cases r
              · have HNH : Hid (¬ hasLine t c (s : Int)) := fun q => by have := HRR.out.2 q; simp at this
                clear HRR
                go_wp2_with fail
                refine (l6Empty_any aa cc (len s) (p s) (m s) Y _ G2.out).mono ?_
                rintro e w2 ⟨r, rfl, hr, hb2⟩
                have HRR : Hid (r = true ↔ noMay (m s) (len s)) := hr
                replace HB : Hid (Blw wM w2) := HB.out.trans hb2
                clear hr hb2 G2
                cases r
                · have HN : Hid (¬ BD.Good ⟨t, c, ⟨j, len, p, m⟩⟩) := fun g => by have := HRR.out.2 ((HG.out.1 g).2.2.1 s hlt HNH.out); simp at this
                  clear HRR HO
                  go_wp2
                  go_ret
                  exact ⟨false, rfl, iff_f HN.out, HBL.out.trans HB.out⟩
                · have HN : Hid (∀ i, i < s + 1 → idleOK ⟨t, c, ⟨j, len, p, m⟩⟩ i) := fun i hi => by
                    by_cases e : i = s
                    · subst e; exact fun _ => HRR.out.1 (by first | rfl | trivial)
                    · exact HO.out i (by omega)
                  clear HRR HO HNH
                  go_wp2
                  go_roundw
                  case rel => exact ⟨s + 1, by omega, by go_num, HN.out, HB.out⟩
                  case measure => simp [intOf]; omega
              · have HN : Hid (∀ i, i < s + 1 → idleOK ⟨t, c, ⟨j, len, p, m⟩⟩ i) := fun i hi => by
                  by_cases e : i = s
                  · subst e; exact fun q => absurd (HRR.out.1 (by first | rfl | trivial)) q
                  · exact HO.out i (by omega)
                clear HRR HO G2
                go_wp2
                go_roundw
                case rel => exact ⟨s + 1, by omega, by go_num, HN.out, HB.out⟩
                case measure => simp [intOf]; omega
            · obtain rfl : s = j := by omega
              obtain ⟨p0, p1⟩ := get2 (HR0.out.blw HB.out)
              have HI : Hid (∀ i, i < s → idleOK ⟨t, c, ⟨s, len, p, m⟩⟩ i) := HO.out
              have HBF : Hid (Blw w wr) := HBL.out.trans HB.out
              clear HO HB hlt HUA HL
              by_cases h4 : t = 4
              case neg =>
                have HN : Hid (¬ BD.Good ⟨t, c, ⟨s, len, p, m⟩⟩) := fun g => h4 g.n
                have d4 : ((t : Int) == 4) = false := by simp; omega
                clear h4
                go_wp2
                go_ret
                exact ⟨false, rfl, iff_f HN.out, HBF.out⟩
              have d4 : ((t : Int) == 4) = true := by simp; omega
              have H4 : Hid (t = 4) := h4
              clear h4
              go_wp2_with fail
              refine (l1In_any (s : Int) 1 4 _).mono ?_
              rintro e wr ⟨r, rfl, hr, rfl⟩
              have HRR : Hid (r = true ↔ (1 ≤ (s : Int) ∧ (s : Int) ≤ 4)) := hr
              clear hr p0 p1
              have HFI : Hid (r = true ↔ BD.Good ⟨t, c, ⟨s, len, p, m⟩⟩) := HRR.out.trans ⟨fun q => HG.out.2 ⟨HL1.out, HT.out, HI.out, H4.out, by show 1 ≤ s; omega, by show s ≤ 4; omega⟩, fun g => ⟨by have := g.k.1; dsimp only at this; omega, by have := g.k.2; dsimp only at this; omega⟩⟩
              clear HRR d4
              go_wp2
              go_ret
              exact ⟨r, rfl, HFI.out, HBF.out⟩
end Go.Proofs.Ytjplodenflkghaa
/- The program's leaves and lists of leaves. -/
namespace Go.Proofs.Ytjplodenflkghaa
open Go.RowKit
set_option linter.unusedSimpArgs false
set_option linter.unusedVariables false
def mayOK (n : Int) : Prop := 1 ≤ n ∧ n ≤ 3
instance (n : Int) : Decidable (mayOK n) := by unfold mayOK; exact inferInstance
def pgOK (n : Int) : Prop := 0 ≤ n ∧ n ≤ 15
instance (n : Int) : Decidable (pgOK n) := by unfold pgOK; exact inferInstance
def cntOK (n : Int) : Prop := 1 ≤ n ∧ n ≤ 4
instance (n : Int) : Decidable (cntOK n) := by unfold cntOK; exact inferInstance
set_option maxHeartbeats 400000 in
theorem isMay_yes (n : Int) (w : World) (h : mayOK n) : Calls Try.prog 103 #[.int .i64 n] w fun e w' => e = .returned (.bool true) ∧ w' = w := by
  obtain ⟨h1, h2⟩ := h
  skip
  go_enter Try.func103, Try.ntmps103
  go_wp2
  go_ret
  exact ⟨rfl, rfl⟩
set_option maxHeartbeats 400000 in
theorem isMay_no (n : Int) (w : World) (h : ¬ mayOK n) : Calls Try.prog 103 #[.int .i64 n] w fun e w' => e = .returned (.bool false) ∧ w' = w := by
  by_cases h1 : 1 ≤ n
  · have h2 : ¬ n ≤ 3 := fun h3 => h ⟨h1, by omega⟩
    clear h
    go_enter Try.func103, Try.ntmps103
    go_wp2
    go_ret
    exact ⟨rfl, rfl⟩
  · clear h
    have hd : decide (n ≥ 1) = false := by simpa using h1
    go_enter Try.func103, Try.ntmps103
    go_wp2
    go_ret
    exact ⟨rfl, rfl⟩
theorem isMay_any (n : Int) (w : World) : Calls Try.prog 103 #[.int .i64 n] w fun e w' => ∃ r, e = .returned (.bool r) ∧ (r = true ↔ mayOK n) ∧ w' = w := by
  by_cases h : mayOK n
  · exact (isMay_yes n w h).mono fun e w' ⟨h1, h2⟩ => ⟨true, h1, ⟨fun _ => h, fun _ => rfl⟩, h2⟩
  · exact (isMay_no n w h).mono fun e w' ⟨h1, h2⟩ => ⟨false, h1, iff_f h, h2⟩
set_option maxHeartbeats 400000 in
theorem isPage_yes (n : Int) (w : World) (h : pgOK n) : Calls Try.prog 153 #[.int .i64 n] w fun e w' => e = .returned (.bool true) ∧ w' = w := by
  obtain ⟨h1, h2⟩ := h
  have h2 : n < 16 := by omega
  go_enter Try.func153, Try.ntmps153
  go_wp2
  go_ret
  exact ⟨rfl, rfl⟩
set_option maxHeartbeats 400000 in
theorem isPage_no (n : Int) (w : World) (h : ¬ pgOK n) : Calls Try.prog 153 #[.int .i64 n] w fun e w' => e = .returned (.bool false) ∧ w' = w := by
  by_cases h1 : 0 ≤ n
  · have h2 : ¬ n < 16 := fun h3 => h ⟨h1, by omega⟩
    clear h
    go_enter Try.func153, Try.ntmps153
    go_wp2
    go_ret
    exact ⟨rfl, rfl⟩
  · clear h
    have hd : decide (n ≥ 0) = false := by simpa using h1
    go_enter Try.func153, Try.ntmps153
    go_wp2
    go_ret
    exact ⟨rfl, rfl⟩
theorem isPage_any (n : Int) (w : World) : Calls Try.prog 153 #[.int .i64 n] w fun e w' => ∃ r, e = .returned (.bool r) ∧ (r = true ↔ pgOK n) ∧ w' = w := by
  by_cases h : pgOK n
  · exact (isPage_yes n w h).mono fun e w' ⟨h1, h2⟩ => ⟨true, h1, ⟨fun _ => h, fun _ => rfl⟩, h2⟩
  · exact (isPage_no n w h).mono fun e w' ⟨h1, h2⟩ => ⟨false, h1, iff_f h, h2⟩
set_option maxHeartbeats 400000 in
theorem isCnt_yes (n : Int) (w : World) (h : cntOK n) : Calls Try.prog 158 #[.int .i64 n] w fun e w' => e = .returned (.bool true) ∧ w' = w := by
  obtain ⟨h1, h2⟩ := h
  skip
  go_enter Try.func158, Try.ntmps158
  go_wp2
  go_ret
  exact ⟨rfl, rfl⟩
set_option maxHeartbeats 400000 in
theorem isCnt_no (n : Int) (w : World) (h : ¬ cntOK n) : Calls Try.prog 158 #[.int .i64 n] w fun e w' => e = .returned (.bool false) ∧ w' = w := by
  by_cases h1 : 1 ≤ n
  · have h2 : ¬ n ≤ 4 := fun h3 => h ⟨h1, by omega⟩
    clear h
    go_enter Try.func158, Try.ntmps158
    go_wp2
    go_ret
    exact ⟨rfl, rfl⟩
  · clear h
    have hd : decide (n ≥ 1) = false := by simpa using h1
    go_enter Try.func158, Try.ntmps158
    go_wp2
    go_ret
    exact ⟨rfl, rfl⟩
theorem isCnt_any (n : Int) (w : World) : Calls Try.prog 158 #[.int .i64 n] w fun e w' => ∃ r, e = .returned (.bool r) ∧ (r = true ↔ cntOK n) ∧ w' = w := by
  by_cases h : cntOK n
  · exact (isCnt_yes n w h).mono fun e w' ⟨h1, h2⟩ => ⟨true, h1, ⟨fun _ => h, fun _ => rfl⟩, h2⟩
  · exact (isCnt_no n w h).mono fun e w' ⟨h1, h2⟩ => ⟨false, h1, iff_f h, h2⟩
set_option maxHeartbeats 400000 in
theorem isPlace_yes (n : Int) (w : World) (h : pgOK n) : Calls Try.prog 100 #[.int .i64 n] w fun e w' => e = .returned (.bool true) ∧ w' = w := by
  obtain ⟨h1, h2⟩ := h
  have h2 : n < 16 := by omega
  go_enter Try.func100, Try.ntmps100
  go_wp2
  go_ret
  exact ⟨rfl, rfl⟩
set_option maxHeartbeats 400000 in
theorem isPlace_no (n : Int) (w : World) (h : ¬ pgOK n) : Calls Try.prog 100 #[.int .i64 n] w fun e w' => e = .returned (.bool false) ∧ w' = w := by
  by_cases h1 : 0 ≤ n
  · have h2 : ¬ n < 16 := fun h3 => h ⟨h1, by omega⟩
    clear h
    go_enter Try.func100, Try.ntmps100
    go_wp2
    go_ret
    exact ⟨rfl, rfl⟩
  · clear h
    have hd : decide (n ≥ 0) = false := by simpa using h1
    go_enter Try.func100, Try.ntmps100
    go_wp2
    go_ret
    exact ⟨rfl, rfl⟩
theorem isPlace_any (n : Int) (w : World) : Calls Try.prog 100 #[.int .i64 n] w fun e w' => ∃ r, e = .returned (.bool r) ∧ (r = true ↔ pgOK n) ∧ w' = w := by
  by_cases h : pgOK n
  · exact (isPlace_yes n w h).mono fun e w' ⟨h1, h2⟩ => ⟨true, h1, ⟨fun _ => h, fun _ => rfl⟩, h2⟩
  · exact (isPlace_no n w h).mono fun e w' ⟨h1, h2⟩ => ⟨false, h1, iff_f h, h2⟩
theorem leaf_zero {p m : Int} (h : m = 0) : leafOK p m ↔ p = 0 := by unfold leafOK; omega
theorem leaf_some {p m : Int} (h : ¬ m = 0) : leafOK p m ↔ mayOK m ∧ pgOK p := by unfold leafOK mayOK pgOK; omega
set_option maxHeartbeats 1600000 in
theorem isLeaf_any (p m : Int) (w : World) : Calls Try.prog 191 #[.agg #[.int .i64 p, .int .i64 m]] w fun e w' => ∃ r, e = .returned (.bool r) ∧ (r = true ↔ leafOK p m) ∧ Blw w w' := by
  have hb0 : Blw w (w.alloc (.cells #[.int .i64 p, .int .i64 m] 144)) := (Blw.refl _).alloc _
  obtain ⟨p0, p1⟩ := get2 (box2 w (.int .i64 p) (.int .i64 m) 144)
  by_cases hm : m = 0
  · have HI : Hid (leafOK p m ↔ p = 0) := leaf_zero hm
    have d1 : (m == 0) = true := by simp [hm]
    clear hm
    by_cases hp : p = 0
    · have HO : Hid (leafOK p m) := HI.out.2 hp
      have d2 : (p == 0) = true := by simp [hp]
      clear hp HI
      go_enter Try.func191, Try.ntmps191
      go_wp2
      go_ret
      exact ⟨true, rfl, iff_t HO.out, hb0⟩
    · have HO : Hid (¬ leafOK p m) := fun g => hp (HI.out.1 g)
      have d2 : (p == 0) = false := by simp [hp]
      clear hp HI
      go_enter Try.func191, Try.ntmps191
      go_wp2
      go_ret
      exact ⟨false, rfl, iff_f HO.out, hb0⟩
  have HI : Hid (leafOK p m ↔ mayOK m ∧ pgOK p) := leaf_some hm
  have d1 : (m == 0) = false := by simp [hm]
  clear hm
  go_enter Try.func191, Try.ntmps191
  go_wp2_with fail
  revert hb0 p0 p1
  generalize w.alloc (.cells #[.int .i64 p, .int .i64 m] 144) = w0
  intro hb0 p0 p1
  refine (isMay_any m _).mono ?_
  rintro e w0 ⟨r, rfl, hr, rfl⟩
  have HR : Hid (r = true ↔ mayOK m) := hr
  clear hr
  cases r
  · have HN : Hid (¬ leafOK p m) := fun g => by have := HR.out.2 (HI.out.1 g).1; simp at this
    clear HR HI
    go_wp2
    go_ret
    exact ⟨false, rfl, iff_f HN.out, hb0⟩
  have H1 : Hid (mayOK m) := HR.out.1 (by first | rfl | trivial)
  clear HR
  go_wp2_with fail
  refine (isPage_any p _).mono ?_
  rintro e w0 ⟨r, rfl, hr, rfl⟩
  have HR : Hid (r = true ↔ leafOK p m) := hr.trans ⟨fun q => HI.out.2 ⟨H1.out, q⟩, fun g => (HI.out.1 g).2⟩
  clear hr HI
  go_wp2
  go_ret
  exact ⟨r, rfl, HR.out, hb0⟩
set_option maxHeartbeats 1600000 in
theorem notLeaf_any (p m : Int) (w : World) : Calls Try.prog 190 #[.agg #[.int .i64 p, .int .i64 m]] w fun e w' => ∃ r, e = .returned (.bool r) ∧ (r = true ↔ ¬ leafOK p m) ∧ Blw w w' := by
  have hb0 : Blw w (w.alloc (.cells #[.int .i64 p, .int .i64 m] 144)) := (Blw.refl _).alloc _
  obtain ⟨p0, p1⟩ := get2 (box2 w (.int .i64 p) (.int .i64 m) 144)
  go_enter Try.func190, Try.ntmps190
  go_wp2_with fail
  clear p0 p1
  refine (isLeaf_any p m _).mono ?_
  rintro e w1 ⟨r, rfl, hr, hb1⟩
  have HR : Hid (r = true ↔ leafOK p m) := hr
  replace hb0 := hb0.trans hb1
  clear hr hb1
  cases r
  · have HN : Hid (¬ leafOK p m) := fun g => by have := HR.out.2 g; simp at this
    clear HR
    go_wp2
    go_ret
    exact ⟨true, rfl, iff_t HN.out, hb0⟩
  · have HN : Hid (leafOK p m) := HR.out.1 (by first | rfl | trivial)
    clear HR
    go_wp2
    go_ret
    exact ⟨false, rfl, iff_f (fun q => q HN.out), hb0⟩
def allLeaf (f g : Nat → Int) (n : Nat) : Prop := ∀ j, j < n → leafOK (f j) (g j)
set_option maxRecDepth 10000 in
set_option maxHeartbeats 1600000 in
theorem indexLeaf_any (ao : Option Addr) (c0 n : Nat) (f g : Nat → Int) (Y : Nat → Prop) (w : World) (h : UndosAt Y w ao n f g) :
    Calls Try.prog 200 #[.slice ao n c0, .func (.func 190) #[] #[]] w fun e w' => ∃ r : Int, e = .returned (.int .i64 r) ∧ (0 ≤ r ↔ ¬ allLeaf f g n) ∧ Blw w w' := by
  have hn := h.1
  have H : Hid (UndosAt Y w ao n f g) := h
  clear h
  go_enter Try.func200, Try.ntmps200
  go_wp2_with fail
  go_loopw [8] (fun i wr => ∃ j : Nat, j ≤ n ∧ i = .int .i64 j ∧ allLeaf f g j ∧ Blw w wr) (fun i _ => n - (intOf i).toNat)
  case atStart => exact ⟨0, Nat.zero_le _, rfl, fun t ht => absurd ht (Nat.not_lt_zero _), Blw.refl _⟩
  case round =>
    obtain ⟨j, hj, rfl, hok, hb⟩ := hrel
    have HO : Hid (allLeaf f g j) := hok
    have HB : Hid (Blw w wr) := hb
    clear hok hb
    by_cases hlt : j < n
    · obtain ⟨b, o, e, -, q0, q1⟩ := (H.out.blw HB.out).2 j hlt
      subst e
      go_wp2_with fail
      clear q0 q1
      refine (notLeaf_any (f j) (g j) _).mono ?_
      rintro e w1 ⟨r, rfl, hr, hb1⟩
      have HR : Hid (r = true ↔ ¬ leafOK (f j) (g j)) := hr
      replace HB : Hid (Blw w w1) := HB.out.trans hb1
      clear hr hb1
      cases r
      · have HN : Hid (allLeaf f g (j + 1)) := fun t ht => by
          by_cases e : t = j
          · subst e; exact Classical.byContradiction fun q => by have := HR.out.2 q; simp at this
          · exact HO.out t (by omega)
        clear HR HO
        go_wp2
        go_roundw
        case rel => exact ⟨j + 1, by omega, by go_num, HN.out, HB.out⟩
        case measure => simp [intOf]; omega
      · have HN : Hid (0 ≤ (j : Int) ↔ ¬ allLeaf f g n) := ⟨fun _ q => HR.out.1 (by first | rfl | trivial) (q j hlt), fun _ => by omega⟩
        clear HR HO
        go_wp2
        exact bodyPost_ret (v := .int .i64 (j : Int)) (by simp [results, Try.results200, go_sem]) rfl ⟨_, rfl, HN.out, HB.out⟩
    · obtain rfl : j = n := by omega
      have HN : Hid (0 ≤ (-1 : Int) ↔ ¬ allLeaf f g j) := ⟨fun q => by omega, fun q => absurd HO.out q⟩
      clear HO
      go_wp2
      exact bodyPost_ret (v := .int .i64 (-1)) (by simp [results, Try.results200, go_sem]) rfl ⟨_, rfl, HN.out, HB.out⟩
set_option maxHeartbeats 800000 in
theorem anyBad_any (ao : Option Addr) (c0 n : Nat) (f g : Nat → Int) (Y : Nat → Prop) (w : World) (h : UndosAt Y w ao n f g) :
    Calls Try.prog 189 #[.slice ao n c0, .func (.func 190) #[] #[]] w fun e w' => ∃ r, e = .returned (.bool r) ∧ (r = true ↔ ¬ allLeaf f g n) ∧ Blw w w' := by
  go_enter Try.func189, Try.ntmps189
  go_wp2_with fail
  refine (indexLeaf_any ao c0 n f g Y _ h).mono ?_
  rintro e w1 ⟨r, rfl, hr, hb1⟩
  have HR : Hid (0 ≤ r ↔ ¬ allLeaf f g n) := hr
  clear hr h
  by_cases h0 : 0 ≤ r
  · have d0 : decide (r ≥ 0) = true := by simp; omega
    have HN : Hid (¬ allLeaf f g n) := HR.out.1 h0
    clear h0 HR
    go_wp2
    go_ret
    exact ⟨true, rfl, iff_t HN.out, hb1⟩
  · have d0 : decide (r ≥ 0) = false := by simp; omega
    have HN : Hid (¬ ¬ allLeaf f g n) := fun q => h0 (HR.out.2 q)
    clear h0 HR
    go_wp2
    go_ret
    exact ⟨false, rfl, iff_f HN.out, hb1⟩
end Go.Proofs.Ytjplodenflkghaa
/- The program's lists of leaves, held as values. -/
namespace Go.Proofs.Ytjplodenflkghaa
open Go.RowKit
set_option linter.unusedSimpArgs false
set_option linter.unusedVariables false
abbrev eight (f g : Nat → Int) : Array Value := #[.int .i64 (f 0), .int .i64 (g 0), .int .i64 (f 1), .int .i64 (g 1), .int .i64 (f 2), .int .i64 (g 2), .int .i64 (f 3), .int .i64 (g 3)]
abbrev zf : Nat → Int := fun _ => 0
theorem undo8 {Y : Nat → Prop} {w : World} {b o : Nat} {f g : Nat → Int} (h : UndosAt Y w (some ⟨b, o, none⟩) 4 f g) :
    w.cell? ⟨b, o, none⟩ = some (.int .i64 (f 0)) ∧ w.cell? ⟨b, o + 1, none⟩ = some (.int .i64 (g 0)) ∧ w.cell? ⟨b, o + 2, none⟩ = some (.int .i64 (f 1)) ∧ w.cell? ⟨b, o + 3, none⟩ = some (.int .i64 (g 1)) ∧
    w.cell? ⟨b, o + 4, none⟩ = some (.int .i64 (f 2)) ∧ w.cell? ⟨b, o + 5, none⟩ = some (.int .i64 (g 2)) ∧ w.cell? ⟨b, o + 6, none⟩ = some (.int .i64 (f 3)) ∧ w.cell? ⟨b, o + 7, none⟩ = some (.int .i64 (g 3)) := by
  have hh : ∀ i, i < 4 → w.cell? ⟨b, o + i * 2, none⟩ = some (.int .i64 (f i)) ∧ w.cell? ⟨b, o + i * 2 + 1, none⟩ = some (.int .i64 (g i)) := fun i hi => by
    obtain ⟨b', o', e, -, h1, h2⟩ := h.2 i hi
    cases e
    exact ⟨h1, h2⟩
  exact ⟨(hh 0 (by omega)).1, (hh 0 (by omega)).2, (hh 1 (by omega)).1, (hh 1 (by omega)).2, (hh 2 (by omega)).1, (hh 2 (by omega)).2, (hh 3 (by omega)).1, (hh 3 (by omega)).2⟩
theorem row8 {w : World} {b n : Nat} {f : Nat → Value} (r : Row w b n f) (h : 8 ≤ n) : w.cell? ⟨b, 0, none⟩ = some (f 0) ∧ w.cell? ⟨b, 1, none⟩ = some (f 1) ∧ w.cell? ⟨b, 2, none⟩ = some (f 2) ∧ w.cell? ⟨b, 3, none⟩ = some (f 3) ∧ w.cell? ⟨b, 4, none⟩ = some (f 4) ∧ w.cell? ⟨b, 5, none⟩ = some (f 5) ∧ w.cell? ⟨b, 6, none⟩ = some (f 6) ∧ w.cell? ⟨b, 7, none⟩ = some (f 7) :=
  ⟨r.cell (by omega), r.cell (by omega), r.cell (by omega), r.cell (by omega), r.cell (by omega), r.cell (by omega), r.cell (by omega), r.cell (by omega)⟩
theorem row_zero8 (w : World) (t : TypeId) : Row (w.alloc (.cells #[.int .i64 0, .int .i64 0, .int .i64 0, .int .i64 0, .int .i64 0, .int .i64 0, .int .i64 0, .int .i64 0] t)) w.heap.size 8 (fun _ => .int .i64 0) :=
  ⟨_, t, heap_alloc_new _ _, by simp, fun i hi => by
    match i, hi with
    | 0, _ => rfl
    | 1, _ => rfl
    | 2, _ => rfl
    | 3, _ => rfl
    | 4, _ => rfl
    | 5, _ => rfl
    | 6, _ => rfl
    | 7, _ => rfl⟩
theorem set8_blw {w W : World} {z : Nat} (h : Blw w W) (hz : w.heap.size ≤ z) (v0 v1 v2 v3 v4 v5 v6 v7 : Value) : Blw w ((((((((W.setCell ⟨z, 0, none⟩ v0).setCell ⟨z, 1, none⟩ v1).setCell ⟨z, 2, none⟩ v2).setCell ⟨z, 3, none⟩ v3).setCell ⟨z, 4, none⟩ v4).setCell ⟨z, 5, none⟩ v5).setCell ⟨z, 6, none⟩ v6).setCell ⟨z, 7, none⟩ v7) :=
  ((((((((h.setCell hz _).setCell hz _).setCell hz _).setCell hz _).setCell hz _).setCell hz _).setCell hz _).setCell hz _)
theorem arrayAt4 (b o c : Nat) (w : World) : (Instr.arrayAt 186 (.slice (some ⟨b, o, none⟩) 4 c)).run Try.prog w = .ok (.pointer (some ⟨b, o, none⟩)) w := by
  simp [Instr.arrayAt, run_underlying Try.underlying186]
def lsOK (n : Nat) (f g : Nat → Int) : Prop := n = 4 ∧ allLeaf f g 4
set_option maxRecDepth 10000 in
set_option maxHeartbeats 1000000 in
theorem holdLeaves_any (ao : Option Addr) (c0 n : Nat) (f g : Nat → Int) (Y : Nat → Prop) (w : World) (h : UndosAt Y w ao n f g) :
    Calls Try.prog 159 #[.slice ao n c0] w fun e w' => ((lsOK n f g ∧ e = .returned (.tuple #[.agg (eight f g), .bool true])) ∨ (¬ lsOK n f g ∧ e = .returned (.tuple #[.agg (eight zf zf), .bool false]))) ∧ Blw w w' := by
  have hb0 : Blw w (w.alloc (.cells #[.int .i64 0, .int .i64 0, .int .i64 0, .int .i64 0, .int .i64 0, .int .i64 0, .int .i64 0, .int .i64 0] 186)) := (Blw.refl _).alloc _
  have r0 := row_zero8 w 186
  have H : Hid (UndosAt Y (w.alloc (.cells #[.int .i64 0, .int .i64 0, .int .i64 0, .int .i64 0, .int .i64 0, .int .i64 0, .int .i64 0, .int .i64 0] 186)) ao n f g) := h.blw hb0
  have hn := h.1
  clear h
  go_enter Try.func159, Try.ntmps159
  by_cases h4 : n = 4
  case neg =>
    have HN : Hid (¬ lsOK n f g) := fun q => h4 q.1
    have d4 : ((n : Int) != 4) = true := by simp; omega
    obtain ⟨z0, z1, z2, z3, z4, z5, z6, z7⟩ := row8 r0 (by omega)
    have f0 := r0.frozen 0; have f1 := r0.frozen 1; have f2 := r0.frozen 2; have f3 := r0.frozen 3; have f4 := r0.frozen 4; have f5 := r0.frozen 5; have f6 := r0.frozen 6; have f7 := r0.frozen 7
    clear h4 r0
    go_wp2
    refine bodyPost_ret (v := .tuple #[.agg (eight zf zf), .bool false]) (by simp [results, Try.results159, go_sem, z0, z1, z2, z3, z4, z5, z6, z7]) rfl ?_
    refine ⟨Or.inr ⟨HN.out, rfl⟩, ?_⟩
    exact hb0
  subst h4
  go_wp2_with fail
  refine (anyBad_any ao c0 4 f g Y _ H.out).mono ?_
  rintro e w1 ⟨r, rfl, hr, hb1⟩
  have HR : Hid (r = true ↔ ¬ allLeaf f g 4) := hr
  have HB : Hid (Blw w w1) := hb0.trans hb1
  replace H : Hid (UndosAt Y w1 ao 4 f g) := H.out.blw hb1
  replace r0 := r0.blw hb1
  obtain ⟨z0, z1, z2, z3, z4, z5, z6, z7⟩ := row8 r0 (by omega)
  have f0 := r0.frozen 0; have f1 := r0.frozen 1; have f2 := r0.frozen 2; have f3 := r0.frozen 3; have f4 := r0.frozen 4; have f5 := r0.frozen 5; have f6 := r0.frozen 6; have f7 := r0.frozen 7
  clear hr hb1 hb0 r0
  cases r
  · have HO : Hid (lsOK 4 f g) := ⟨rfl, Classical.byContradiction fun q => by have := HR.out.2 q; simp at this⟩
    clear HR
    obtain ⟨b, o, e, -⟩ := H.out.2 0 (by omega)
    subst e
    obtain ⟨q0, q1, q2, q3, q4, q5, q6, q7⟩ := undo8 H.out
    have hat := arrayAt4 b o c0
    clear H
    go_wp2
    refine bodyPost_ret (v := .tuple #[.agg (eight f g), .bool true]) (by simp [results, Try.results159, go_sem, z0, z1, z2, z3, z4, z5, z6, z7]) rfl ?_
    refine ⟨Or.inl ⟨HO.out, rfl⟩, ?_⟩
    exact set8_blw HB.out (by omega) _ _ _ _ _ _ _ _
  · have HN : Hid (¬ lsOK 4 f g) := fun q => HR.out.1 (by first | rfl | trivial) q.2
    clear HR H
    go_wp2
    refine bodyPost_ret (v := .tuple #[.agg (eight zf zf), .bool false]) (by simp [results, Try.results159, go_sem, z0, z1, z2, z3, z4, z5, z6, z7]) rfl ?_
    refine ⟨Or.inr ⟨HN.out, rfl⟩, ?_⟩
    exact set8_blw HB.out (by omega) _ _ _ _ _ _ _ _
end Go.Proofs.Ytjplodenflkghaa
/- The program's test of tops. -/
namespace Go.Proofs.Ytjplodenflkghaa
open Go.RowKit
set_option linter.unusedSimpArgs false
set_option linter.unusedVariables false
def isZero8 (f g : Nat → Int) : Prop := ∀ j, j < 4 → f j = 0 ∧ g j = 0
/-- How often a list stands at one of the first j tops. -/
def cn (c : Nat → Int) : Nat → Nat → Int
  | 0, _ => 0
  | j + 1, k => cn c j k + (if c j = (k : Int) then 1 else 0)
theorem cn_nonneg (c : Nat → Int) (k : Nat) : ∀ j, 0 ≤ cn c j k ∧ cn c j k ≤ j
  | 0 => by simp [cn]
  | j + 1 => by have := cn_nonneg c k j; simp only [cn]; split <;> omega
theorem cn_zero (c : Nat → Int) (k : Nat) : ∀ j, (cn c j k = 0 ↔ ¬ hasLine j c (k : Int))
  | 0 => by simp only [cn]; exact ⟨fun _ ⟨t, ht, _⟩ => absurd ht (Nat.not_lt_zero _), fun _ => trivial⟩
  | j + 1 => by
    have h1 := cn_zero c k j
    have h2 := (cn_nonneg c k j).1
    simp only [cn]
    by_cases e : c j = (k : Int)
    · rw [if_pos e]
      exact ⟨fun q => by omega, fun q => absurd ⟨j, by omega, e⟩ q⟩
    · rw [if_neg e]
      refine ⟨fun q ⟨t, ht, et⟩ => ?_, fun q => ?_⟩
      · by_cases e2 : t = j
        · subst e2; exact e et
        · exact h1.1 (by omega) ⟨t, by omega, et⟩
      · have := h1.2 (fun ⟨t, ht, et⟩ => q ⟨t, by omega, et⟩); omega
abbrev four (c : Nat → Int) : Array Value := #[.int .i64 (c 0), .int .i64 (c 1), .int .i64 (c 2), .int .i64 (c 3)]
theorem index4 (c : Nat → Int) (k : Nat) (hk : k < 4) (w : World) : (Instr.index 126 (.agg (four c)) (.int .i64 (k : Int))).run Try.prog w = .ok (.int .i64 (c k)) w := by
  match k, hk with
  | 0, _ => exact (show (Instr.index 126 (.agg (four c)) (.int .i64 0)).run Try.prog w = .ok (.int .i64 (c 0)) w by kernel_rfl)
  | 1, _ => exact (show (Instr.index 126 (.agg (four c)) (.int .i64 1)).run Try.prog w = .ok (.int .i64 (c 1)) w by kernel_rfl)
  | 2, _ => exact (show (Instr.index 126 (.agg (four c)) (.int .i64 2)).run Try.prog w = .ok (.int .i64 (c 2)) w by kernel_rfl)
  | 3, _ => exact (show (Instr.index 126 (.agg (four c)) (.int .i64 3)).run Try.prog w = .ok (.int .i64 (c 3)) w by kernel_rfl)
/-- The cells of a held table's lists. -/
def lc (p m : Nat → Nat → Int) : Nat → Value := fun i => if i % 2 = 0 then .int .i64 (p (i / 8) (i % 8 / 2)) else .int .i64 (m (i / 8) (i % 8 / 2))
theorem lc8 {w : World} {z n : Nat} {p m : Nat → Nat → Int} (r : Row w z (n * 8) (lc p m)) {k : Nat} (hk : k < n) :
    w.cell? ⟨z, k * 8, none⟩ = some (.int .i64 (p k 0)) ∧ w.cell? ⟨z, k * 8 + 1, none⟩ = some (.int .i64 (m k 0)) ∧ w.cell? ⟨z, k * 8 + 2, none⟩ = some (.int .i64 (p k 1)) ∧ w.cell? ⟨z, k * 8 + 3, none⟩ = some (.int .i64 (m k 1)) ∧
    w.cell? ⟨z, k * 8 + 4, none⟩ = some (.int .i64 (p k 2)) ∧ w.cell? ⟨z, k * 8 + 5, none⟩ = some (.int .i64 (m k 2)) ∧ w.cell? ⟨z, k * 8 + 6, none⟩ = some (.int .i64 (p k 3)) ∧ w.cell? ⟨z, k * 8 + 7, none⟩ = some (.int .i64 (m k 3)) := by
  have hh : ∀ t, t < 8 → w.cell? ⟨z, k * 8 + t, none⟩ = some (lc p m (k * 8 + t)) := fun t ht => r.cell (by omega)
  have ev : ∀ t, t < 8 → lc p m (k * 8 + t) = if t % 2 = 0 then .int .i64 (p k (t / 2)) else .int .i64 (m k (t / 2)) := fun t ht => by
    unfold lc
    rw [show (k * 8 + t) / 8 = k by omega, show (k * 8 + t) % 8 = t by omega, show (k * 8 + t) % 2 = t % 2 by omega]
  have h0 := hh 0 (by omega); have h1 := hh 1 (by omega); have h2 := hh 2 (by omega); have h3 := hh 3 (by omega)
  have h4 := hh 4 (by omega); have h5 := hh 5 (by omega); have h6 := hh 6 (by omega); have h7 := hh 7 (by omega)
  rw [ev 0 (by omega)] at h0; rw [ev 1 (by omega)] at h1; rw [ev 2 (by omega)] at h2; rw [ev 3 (by omega)] at h3
  rw [ev 4 (by omega)] at h4; rw [ev 5 (by omega)] at h5; rw [ev 6 (by omega)] at h6; rw [ev 7 (by omega)] at h7
  exact ⟨h0, h1, h2, h3, h4, h5, h6, h7⟩
theorem row5 (w : World) (a b c d e : Value) (t : TypeId) : Row (w.alloc (.cells #[a, b, c, d, e] t)) w.heap.size 5 (fun i => if i = 0 then a else if i = 1 then b else if i = 2 then c else if i = 3 then d else e) :=
  ⟨_, t, heap_alloc_new _ _, by simp, fun i hi => by
    match i, hi with
    | 0, _ => rfl
    | 1, _ => rfl
    | 2, _ => rfl
    | 3, _ => rfl
    | 4, _ => rfl⟩
theorem get5 {w : World} {B : Nat} {a b c d e : Value} (r : Row w B 5 (fun i => if i = 0 then a else if i = 1 then b else if i = 2 then c else if i = 3 then d else e)) : w.cell? ⟨B, 0, none⟩ = some a ∧ w.cell? ⟨B, 1, none⟩ = some b ∧ w.cell? ⟨B, 2, none⟩ = some c ∧ w.cell? ⟨B, 3, none⟩ = some d ∧ w.cell? ⟨B, 4, none⟩ = some e :=
  ⟨r.cell (i := 0) (by omega), r.cell (i := 1) (by omega), r.cell (i := 2) (by omega), r.cell (i := 3) (by omega), r.cell (i := 4) (by omega)⟩
theorem row_zero4 (w : World) (t : TypeId) : Row (w.alloc (.cells #[.int .i64 0, .int .i64 0, .int .i64 0, .int .i64 0] t)) w.heap.size 4 (fun _ => .int .i64 0) :=
  ⟨_, t, heap_alloc_new _ _, by simp, fun i hi => by
    match i, hi with
    | 0, _ => rfl
    | 1, _ => rfl
    | 2, _ => rfl
    | 3, _ => rfl⟩
abbrev held5 (c : Nat → Int) (zl kn : Nat) : Array Value := #[.int .i64 (c 0), .int .i64 (c 1), .int .i64 (c 2), .int .i64 (c 3), .slice (some ⟨zl, 0, none⟩) kn kn]
abbrev row5f (c : Nat → Int) (v : Value) : Nat → Value := fun i => if i = 0 then .int .i64 (c 0) else if i = 1 then .int .i64 (c 1) else if i = 2 then .int .i64 (c 2) else if i = 3 then .int .i64 (c 3) else v
def topIs (c : Nat → Int) (kn i : Nat) : Prop := (-1 ≤ c i ∧ c i ≤ (kn : Int) - 1) ∧ (0 ≤ c i → ¬ hasLine i c (c i))
def idleIs (c : Nat → Int) (p m : Nat → Nat → Int) (k : Nat) : Prop := ¬ hasLine 4 c (k : Int) → isZero8 (p k) (m k)
def swOK (c : Nat → Int) (kn : Nat) (p m : Nat → Nat → Int) : Prop := (∀ i, i < 4 → topIs c kn i) ∧ ∀ k, k < kn → idleIs c p m k
set_option maxRecDepth 10000 in
set_option maxHeartbeats 6400000 in
theorem standWell_of (HNS : Hid (∀ f g : Nat → Int, isZero8 f g → ∀ w, (binOp .neq 186 (.agg (eight f g)) (.agg (eight zf zf))).run Try.prog w = .ok (.bool false) w)) (HNO : Hid (∀ f g : Nat → Int, ¬ isZero8 f g → ∀ w, (binOp .neq 186 (.agg (eight f g)) (.agg (eight zf zf))).run Try.prog w = .ok (.bool true) w)) (c : Nat → Int) (zl kn : Nat) (p m : Nat → Nat → Int) (w : World) (hkn : kn ≤ 4) (h : Row w zl (kn * 8) (lc p m)) :
    Calls Try.prog 160 #[.agg (held5 c zl kn)] w fun e w' => ∃ r, e = .returned (.bool r) ∧ (r = true ↔ swOK c kn p m) ∧ Blw w w' := by
  have hb0 : Blw w ((w.alloc (.cells (held5 c zl kn) 129)).alloc (.cells #[.int .i64 0, .int .i64 0, .int .i64 0, .int .i64 0] 126)) := ((Blw.refl _).alloc _).alloc _
  have rB := (row5 w (.int .i64 (c 0)) (.int .i64 (c 1)) (.int .i64 (c 2)) (.int .i64 (c 3)) (.slice (some ⟨zl, 0, none⟩) kn kn) 129).blw ((Blw.refl _).alloc (.cells #[.int .i64 0, .int .i64 0, .int .i64 0, .int .i64 0] 126))
  have rC := row_zero4 (w.alloc (.cells (held5 c zl kn) 129)) 126
  rw [World.size_alloc] at rC
  have H : Hid (Row ((w.alloc (.cells (held5 c zl kn) 129)).alloc (.cells #[.int .i64 0, .int .i64 0, .int .i64 0, .int .i64 0] 126)) zl (kn * 8) (lc p m)) := h.blw hb0
  have hzl := h.lt
  clear h
  obtain ⟨p0, p1, p2, p3, p4⟩ := get5 rB
  go_enter Try.func160, Try.ntmps160
  go_wp2_with fail
  clear p0 p1 p2 p3 p4
  revert hb0 rB rC H
  generalize (w.alloc (.cells (held5 c zl kn) 129)).alloc (.cells #[.int .i64 0, .int .i64 0, .int .i64 0, .int .i64 0] 126) = w0
  intro hb0 rB rC H
  have HB0 : Hid (Blw w w0) := hb0
  have HRB : Hid (Row w0 w.heap.size 5 (row5f c (.slice (some ⟨zl, 0, none⟩) kn kn))) := rB
  have HRC : Hid (Row w0 (w.heap.size + 1) 4 (fun k => .int .i64 (cn c 0 k))) := rC
  clear hb0 rB rC
  go_loopw [10] (fun i wr => ∃ j : Nat, j ≤ 4 ∧ i = .int .i64 j ∧ (∀ i, i < j → topIs c kn i) ∧ Row wr (w.heap.size + 1) 4 (fun k => .int .i64 (cn c j k)) ∧ Mod (fun x => x = w.heap.size + 1) w0 wr) (fun i _ => 4 - (intOf i).toNat)
  case atStart => exact ⟨0, Nat.zero_le _, rfl, fun t ht => absurd ht (Nat.not_lt_zero _), HRC.out, Mod.refl _ _⟩
  case round =>
    obtain ⟨j, hj, rfl, hok, hrc, hm⟩ := hrel
    have HO : Hid (∀ i, i < j → topIs c kn i) := hok
    have HM : Hid (Mod (fun x => x = w.heap.size + 1) w0 wr) := hm
    have HRW : Hid (Row wr (w.heap.size + 1) 4 (fun k => .int .i64 (cn c j k))) := hrc
    have HBW : Hid (Blw w wr) := Mod.blw HB0.out hm (fun i hi => by omega)
    clear hok hm hrc HRC
    by_cases hlt : j < 4
    · have hlt' : (j : Int) < 4 := by omega
      have hix := index4 c j hlt
      by_cases h1 : c j = -1
      · have d1 : (c j == -1) = true := by simp [h1]
        have HN : Hid (∀ i, i < j + 1 → topIs c kn i) := fun i hi => by
          by_cases e : i = j
          · subst e; exact ⟨by omega, fun q => by omega⟩
          · exact HO.out i (by omega)
        have HRN : Hid (Row wr (w.heap.size + 1) 4 (fun k => .int .i64 (cn c (j + 1) k))) := HRW.out.congr (fun k hk => by simp only [cn]; rw [if_neg (by omega)]; simp)
        clear h1 HO HRW
        go_wp2
        go_roundw
        case rel => exact ⟨j + 1, by omega, by go_num, HN.out, HRN.out, HM.out⟩
        case measure => simp [intOf]; omega
      have d1 : (c j == -1) = false := by simp [h1]
      obtain ⟨p0, p1, p2, p3, p4⟩ := get5 (HRB.out.mod HM.out (by omega))
      by_cases h2 : c j < 0
      · have HN : Hid (¬ swOK c kn p m) := fun g => by have := (g.1 j hlt).1; omega
        clear h1 HO HRW
        go_wp2
        go_ret
        exact ⟨false, rfl, iff_f HN.out, HBW.out⟩
      obtain ⟨q, hq⟩ : ∃ q : Nat, c j = q := ⟨(c j).toNat, by omega⟩
      by_cases h3 : q < kn
      case neg =>
        have HN : Hid (¬ swOK c kn p m) := fun g => by have := (g.1 j hlt).1; omega
        have h3' : (kn : Int) ≤ (q : Int) := by omega
        rw [hq] at hix d1
        clear h1 h2 HO HRW
        go_wp2
        go_ret
        exact ⟨false, rfl, iff_f HN.out, HBW.out⟩
      have h3' : (q : Int) < (kn : Int) := by omega
      have hq4 : q < 4 := by omega
      have hq4' : (q : Int) < 4 := by omega
      have g0 : wr.cell? ⟨w.heap.size + 1, q, none⟩ = some (.int .i64 (cn c j q)) := HRW.out.cell hq4
      have gf := HRW.out.frozen q
      have hcz := cn_zero c q j
      obtain ⟨hc0, hc1⟩ := cn_nonneg c q j
      have HQ : Hid (c j = (q : Int)) := hq
      rw [hq] at hix d1
      by_cases h4 : cn c j q = 0
      · have HN : Hid (∀ i, i < j + 1 → topIs c kn i) := fun i hi => by
          by_cases e : i = j
          · subst e; exact ⟨by omega, fun _ => by rw [HQ.out]; exact hcz.1 h4⟩
          · exact HO.out i (by omega)
        have HRN : Hid (Row (wr.setCell ⟨w.heap.size + 1, q, none⟩ (.int .i64 (0 + 1))) (w.heap.size + 1) 4 (fun k => .int .i64 (cn c (j + 1) k))) := (HRW.out.set q _).congr (fun k hk => by
          simp only [cn]
          by_cases e : k = q
          · subst e; rw [if_pos rfl, if_pos HQ.out, h4]
          · rw [if_neg e, if_neg (by rw [HQ.out]; omega)]; simp)
        have HMN : Hid (Mod (fun x => x = w.heap.size + 1) w0 (wr.setCell ⟨w.heap.size + 1, q, none⟩ (.int .i64 (0 + 1)))) := HM.out.trans (Mod.setCell (X := fun x => x = w.heap.size + 1) _ (p := ⟨w.heap.size + 1, q, none⟩) rfl _)
        rw [h4] at g0
        clear h1 h2 hq HO HRW hcz hc0 hc1 h4
        go_wp2
        go_roundw
        case rel => exact ⟨j + 1, by omega, by go_num, HN.out, HRN.out, HMN.out⟩
        case measure => simp [intOf]; omega
      · have HN : Hid (¬ swOK c kn p m) := fun g => h4 (hcz.2 (by have := (g.1 j hlt).2 (by omega); rw [HQ.out] at this; exact this))
        have d4 : decide (cn c j q > 0) = true := by simp; omega
        clear h1 h2 hq HO HRW hcz hc0 hc1 h4
        go_wp2
        go_ret
        exact ⟨false, rfl, iff_f HN.out, HBW.out⟩
    · obtain rfl : j = 4 := by omega
      have HT : Hid (∀ i, i < 4 → topIs c kn i) := HO.out
      obtain ⟨p0, p1, p2, p3, p4⟩ := get5 (HRB.out.mod HM.out (by omega))
      replace H : Hid (Row wr zl (kn * 8) (lc p m)) := H.out.mod HM.out (by omega)
      go_wp2_with fail
      clear p0 p1 p2 p3 p4 HO HM HRB hlt HB0
      generalize wr = wM at *
      go_loopw [39] (fun i wq => ∃ s : Nat, s ≤ kn ∧ i = .int .i64 s ∧ (∀ i, i < s → idleIs c p m i) ∧ Blw wM wq) (fun i _ => kn - (intOf i).toNat)
      case atStart => exact ⟨0, Nat.zero_le _, rfl, fun t ht => absurd ht (Nat.not_lt_zero _), Blw.refl _⟩
      case round =>
        obtain ⟨s, hs, rfl, hok, hb⟩ := hrel
        have HO : Hid (∀ i, i < s → idleIs c p m i) := hok
        have HB : Hid (Blw wM wr) := hb
        clear hok hb
        by_cases hlt : s < kn
        · have hlt' : (s : Int) < (kn : Int) := by omega
          have hs4' : (s : Int) < 4 := by omega
          obtain ⟨q0, q1, q2, q3, q4, q5, q6, q7⟩ := lc8 (H.out.blw HB.out) hlt
          have g0 : (wr.alloc (.cells (eight (p s) (m s)) 186)).cell? ⟨w.heap.size + 1, s, none⟩ = some (.int .i64 (cn c 4 s)) := ((HRW.out.blw HB.out).blw ((Blw.refl _).alloc _)).cell (by omega)
          have hA : Blw wr (wr.alloc (.cells (eight (p s) (m s)) 186)) := (Blw.refl _).alloc _
          have HBN : Hid (Blw wM (wr.alloc (.cells (eight (p s) (m s)) 186))) := HB.out.trans hA
          have hcz := cn_zero c s 4
          clear hA
          by_cases h4 : cn c 4 s = 0
          · have d4 : (cn c 4 s == 0) = true := by simp [h4]
            have HNL : Hid (¬ hasLine 4 c (s : Int)) := hcz.1 h4
            by_cases hz : isZero8 (p s) (m s)
            · have HN : Hid (∀ i, i < s + 1 → idleIs c p m i) := fun i hi => by
                by_cases e : i = s
                · subst e; exact fun _ => hz
                · exact HO.out i (by omega)
              have hne := HNS.out (p s) (m s) hz
              clear hcz h4 HO hz
              go_wp2
              go_roundw
              case rel => exact ⟨s + 1, by omega, by go_num, HN.out, HBN.out⟩
              case measure => simp [intOf]; omega
            · have HN : Hid (¬ swOK c kn p m) := fun g => hz (g.2 s hlt HNL.out)
              have hne := HNO.out (p s) (m s) hz
              clear hcz h4 HO hz
              go_wp2
              go_ret
              exact ⟨false, rfl, iff_f HN.out, HBW.out.trans HBN.out⟩
          · have d4 : (cn c 4 s == 0) = false := by simp [h4]
            have HN : Hid (∀ i, i < s + 1 → idleIs c p m i) := fun i hi => by
              by_cases e : i = s
              · subst e; exact fun q => absurd (hcz.2 q) h4
              · exact HO.out i (by omega)
            clear hcz h4 HO
            go_wp2
            go_roundw
            case rel => exact ⟨s + 1, by omega, by go_num, HN.out, HBN.out⟩
            case measure => simp [intOf]; omega
        · obtain rfl : s = kn := by omega
          have HN : Hid (swOK c s p m) := ⟨HT.out, HO.out⟩
          clear HO HT
          go_wp2
          go_ret
          exact ⟨true, rfl, iff_t HN.out, HBW.out.trans HB.out⟩
end Go.Proofs.Ytjplodenflkghaa
/- Arrays of leaves held against the empty one. -/
namespace Go.Proofs.Ytjplodenflkghaa
open Go.RowKit
set_option linter.unusedSimpArgs false
set_option linter.unusedVariables false
theorem part73 (w : World) (f g : Nat → Int) (i : Nat) (hi : i < 4) : (part 144 (eight f g) (i * 2)).run Try.prog w = .ok (.agg #[.int .i64 (f i), .int .i64 (g i)]) w := by
  match i, hi with
  | 0, _ => exact (show (part 144 (eight f g) 0).run Try.prog w = .ok (.agg #[.int .i64 (f 0), .int .i64 (g 0)]) w by kernel_rfl)
  | 1, _ => exact (show (part 144 (eight f g) 2).run Try.prog w = .ok (.agg #[.int .i64 (f 1), .int .i64 (g 1)]) w by kernel_rfl)
  | 2, _ => exact (show (part 144 (eight f g) 4).run Try.prog w = .ok (.agg #[.int .i64 (f 2), .int .i64 (g 2)]) w by kernel_rfl)
  | 3, _ => exact (show (part 144 (eight f g) 6).run Try.prog w = .ok (.agg #[.int .i64 (f 3), .int .i64 (g 3)]) w by kernel_rfl)
theorem size73 (w : World) : (sizeOf 144).run Try.prog w = .ok 2 w := by kernel_rfl
theorem pairEq (d : Nat) (a b a' b' : Int) (w : World) : (Op.equalIn (d + 2) 144 (.agg #[.int .i64 a, .int .i64 b]) (.agg #[.int .i64 a', .int .i64 b'])).run Try.prog w = .ok ((a == a') && (b == b')) w := by
  have u : Try.prog.underlying 144 = some (.struct (Try.prog.fieldsOf 144)) := by kernel_rfl
  have hp : Try.prog.stoodInHeld 144 = false := by kernel_rfl
  have hf : (Try.prog.fieldsOf 144).map (fun f => (f.name, f.type, f.offset)) = #[("Page", 3, 0), ("May", 3, 1)] := by kernel_rfl
  have p0 : ∀ w, (part 3 #[Value.int .i64 a, .int .i64 b] 0).run Try.prog w = .ok (.int .i64 a) w := fun w => by kernel_rfl
  have p1 : ∀ w, (part 3 #[Value.int .i64 a, .int .i64 b] 1).run Try.prog w = .ok (.int .i64 b) w := fun w => by kernel_rfl
  have q0 : ∀ w, (part 3 #[Value.int .i64 a', .int .i64 b'] 0).run Try.prog w = .ok (.int .i64 a') w := fun w => by kernel_rfl
  have q1 : ∀ w, (part 3 #[Value.int .i64 a', .int .i64 b'] 1).run Try.prog w = .ok (.int .i64 b') w := fun w => by kernel_rfl
  have H : ∀ x y w, (Op.equalIn (d + 1) 3 (.int .i64 x) (.int .i64 y)).run Try.prog w = .ok (x == y) w := fun x y w => run_equalIn_int w d 3 .i64 .i64 x y Try.underlying3
  by_cases h0 : a = a' <;> by_cases h1 : b = b' <;> simp [go_sem, h0, h1]
set_option maxHeartbeats 3200000 in
theorem eqArr8 (d : Nat) (f g f' g' : Nat → Int) (w : World) (H : ∀ a b a' b' w, (Op.equalIn d 144 (.agg #[.int .i64 a, .int .i64 b]) (.agg #[.int .i64 a', .int .i64 b'])).run Try.prog w = .ok ((a == a') && (b == b')) w) :
    (Op.equalIn (d + 1) 186 (.agg (eight f g)) (.agg (eight f' g'))).run Try.prog w = .ok (((f 0 == f' 0) && (g 0 == g' 0)) && (((f 1 == f' 1) && (g 1 == g' 1)) && (((f 2 == f' 2) && (g 2 == g' 2)) && ((f 3 == f' 3) && (g 3 == g' 3))))) w := by
  have p0 : ∀ w, (part 144 (eight f g) 0).run Try.prog w = .ok (.agg #[.int .i64 (f 0), .int .i64 (g 0)]) w := fun w => part73 w f g 0 (by omega)
  have q0 : ∀ w, (part 144 (eight f' g') 0).run Try.prog w = .ok (.agg #[.int .i64 (f' 0), .int .i64 (g' 0)]) w := fun w => part73 w f' g' 0 (by omega)
  have p1 : ∀ w, (part 144 (eight f g) 2).run Try.prog w = .ok (.agg #[.int .i64 (f 1), .int .i64 (g 1)]) w := fun w => part73 w f g 1 (by omega)
  have q1 : ∀ w, (part 144 (eight f' g') 2).run Try.prog w = .ok (.agg #[.int .i64 (f' 1), .int .i64 (g' 1)]) w := fun w => part73 w f' g' 1 (by omega)
  have p2 : ∀ w, (part 144 (eight f g) 4).run Try.prog w = .ok (.agg #[.int .i64 (f 2), .int .i64 (g 2)]) w := fun w => part73 w f g 2 (by omega)
  have q2 : ∀ w, (part 144 (eight f' g') 4).run Try.prog w = .ok (.agg #[.int .i64 (f' 2), .int .i64 (g' 2)]) w := fun w => part73 w f' g' 2 (by omega)
  have p3 : ∀ w, (part 144 (eight f g) 6).run Try.prog w = .ok (.agg #[.int .i64 (f 3), .int .i64 (g 3)]) w := fun w => part73 w f g 3 (by omega)
  have q3 : ∀ w, (part 144 (eight f' g') 6).run Try.prog w = .ok (.agg #[.int .i64 (f' 3), .int .i64 (g' 3)]) w := fun w => part73 w f' g' 3 (by omega)
  generalize eight f g = xs at *
  generalize eight f' g' = ys at *
  simp only [Op.equalIn, Sem.run_bind, run_underlying Try.underlying186, Result.andThen_ok, size73]
  generalize h0 : ((f 0 == f' 0) && (g 0 == g' 0)) = b0 at *
  generalize h1 : ((f 1 == f' 1) && (g 1 == g' 1)) = b1 at *
  generalize h2 : ((f 2 == f' 2) && (g 2 == g' 2)) = b2 at *
  generalize h3 : ((f 3 == f' 3) && (g 3 == g' 3)) = b3 at *
  have e0 := fun w => H (f 0) (g 0) (f' 0) (g' 0) w
  have e1 := fun w => H (f 1) (g 1) (f' 1) (g' 1) w
  have e2 := fun w => H (f 2) (g 2) (f' 2) (g' 2) w
  have e3 := fun w => H (f 3) (g 3) (f' 3) (g' 3) w
  rw [h0] at e0
  rw [h1] at e1
  rw [h2] at e2
  rw [h3] at e3
  clear H h0 h1 h2 h3
  cases b0 <;> cases b1 <;> cases b2 <;> cases b3 <;> simp [Sem.run_bind, p0, p1, p2, p3, q0, q1, q2, q3, e0, e1, e2, e3, List.range']
theorem neq8_same (f g : Nat → Int) (h : isZero8 f g) (w : World) : (binOp .neq 186 (.agg (eight f g)) (.agg (eight zf zf))).run Try.prog w = .ok (.bool false) w := by
  rw [run_neq_struct, eqArr8 9999 f g zf zf w (fun a b a' b' w => pairEq 9997 a b a' b' w), (h 0 (by omega)).1, (h 0 (by omega)).2, (h 1 (by omega)).1, (h 1 (by omega)).2, (h 2 (by omega)).1, (h 2 (by omega)).2, (h 3 (by omega)).1, (h 3 (by omega)).2]
  rfl
theorem neq8_other (f g : Nat → Int) (h : ¬ isZero8 f g) (w : World) : (binOp .neq 186 (.agg (eight f g)) (.agg (eight zf zf))).run Try.prog w = .ok (.bool true) w := by
  rw [run_neq_struct, eqArr8 9999 f g zf zf w (fun a b a' b' w => pairEq 9997 a b a' b' w)]
  have : (((f 0 == zf 0) && (g 0 == zf 0)) && (((f 1 == zf 1) && (g 1 == zf 1)) && (((f 2 == zf 2) && (g 2 == zf 2)) && ((f 3 == zf 3) && (g 3 == zf 3))))) = false := by
    rw [Bool.eq_false_iff]
    intro hh
    simp at hh
    refine h fun j hj => ?_
    match j, hj with
    | 0, _ => exact hh.1
    | 1, _ => exact hh.2.1
    | 2, _ => exact hh.2.2.1
    | 3, _ => exact hh.2.2.2
  rw [this]
  rfl
end Go.Proofs.Ytjplodenflkghaa
/- The program's tables, held as values. -/
namespace Go.Proofs.Ytjplodenflkghaa
open Go.RowKit
set_option linter.unusedSimpArgs false
set_option linter.unusedVariables false
theorem standWell_any (c : Nat → Int) (zl kn : Nat) (p m : Nat → Nat → Int) (w : World) (hkn : kn ≤ 4) (h : Row w zl (kn * 8) (lc p m)) :
    Calls Try.prog 160 #[.agg (held5 c zl kn)] w fun e w' => ∃ r, e = .returned (.bool r) ∧ (r = true ↔ swOK c kn p m) ∧ Blw w w' := standWell_of (fun f g h w => neq8_same f g h w) (fun f g h w => neq8_other f g h w) c zl kn p m w hkn h
theorem tinfo101 : (Try.prog.info? 186).map (fun i => (i.zero, i.size, i.bytes)) = some (some (.agg #[.int .i64 0, .int .i64 0, .int .i64 0, .int .i64 0, .int .i64 0, .int .i64 0, .int .i64 0, .int .i64 0]), 8, 64) := by kernel_rfl
theorem mk8 (n : Nat) (hn : n ≤ 4) (w : World) : (Instr.makeSlice 127 (.int .i64 n) (.int .i64 n)).run Try.prog w = .ok (.slice (some ⟨w.heap.size, 0, none⟩) n n) (w.alloc (.cells (madeCells #[.int .i64 0, .int .i64 0, .int .i64 0, .int .i64 0, .int .i64 0, .int .i64 0, .int .i64 0, .int .i64 0] (n * 8)) 186)) := by
  obtain ⟨i0, hi, hz0, hz1, hz2⟩ := info_parts tinfo101
  have h := run_make (P := Try.prog) w 127 186 i0 (.agg #[.int .i64 0, .int .i64 0, .int .i64 0, .int .i64 0, .int .i64 0, .int .i64 0, .int .i64 0, .int .i64 0]) Try.underlying127 hi hz0 .i64 .i64 (n : Int) (n : Int) (by omega) (Int.le_refl _) (by rw [hz2]; omega) (by omega)
  simpa [hz1, Value.cells] using h
theorem Row.made8 (w : World) (z : Value) (n : Nat) (t : TypeId) : Row (w.alloc (.cells (madeCells #[z, z, z, z, z, z, z, z] n) t)) w.heap.size n (fun _ => z) := by
  refine ⟨_, t, heap_alloc_new _ _, by simp [madeCells], fun i hi => ?_⟩
  have h2 : i % 8 = 0 ∨ i % 8 = 1 ∨ i % 8 = 2 ∨ i % 8 = 3 ∨ i % 8 = 4 ∨ i % 8 = 5 ∨ i % 8 = 6 ∨ i % 8 = 7 := by omega
  rcases h2 with h2 | h2 | h2 | h2 | h2 | h2 | h2 | h2 <;> simp [madeCells, hi, h2]
def upTo (j : Nat) (p : Nat → Nat → Int) : Nat → Nat → Int := fun k t => if k < j then p k t else 0
abbrev set8 (w : World) (z o : Nat) (f g : Nat → Int) : World := (((((((w.setCell ⟨z, o, none⟩ (.int .i64 (f 0))).setCell ⟨z, o + 1, none⟩ (.int .i64 (g 0))).setCell ⟨z, o + 2, none⟩ (.int .i64 (f 1))).setCell ⟨z, o + 3, none⟩ (.int .i64 (g 1))).setCell ⟨z, o + 4, none⟩ (.int .i64 (f 2))).setCell ⟨z, o + 5, none⟩ (.int .i64 (g 2))).setCell ⟨z, o + 6, none⟩ (.int .i64 (f 3))).setCell ⟨z, o + 7, none⟩ (.int .i64 (g 3))
theorem set8_mod (w : World) (z o : Nat) (f g : Nat → Int) : Mod (fun x => x = z) w (set8 w z o f g) :=
  (((((((Mod.setCell (X := fun x => x = z) _ (p := ⟨z, o, none⟩) rfl _).trans (Mod.setCell (X := fun x => x = z) _ (p := ⟨z, o + 1, none⟩) rfl _)).trans (Mod.setCell (X := fun x => x = z) _ (p := ⟨z, o + 2, none⟩) rfl _)).trans (Mod.setCell (X := fun x => x = z) _ (p := ⟨z, o + 3, none⟩) rfl _)).trans (Mod.setCell (X := fun x => x = z) _ (p := ⟨z, o + 4, none⟩) rfl _)).trans (Mod.setCell (X := fun x => x = z) _ (p := ⟨z, o + 5, none⟩) rfl _)).trans (Mod.setCell (X := fun x => x = z) _ (p := ⟨z, o + 6, none⟩) rfl _)).trans (Mod.setCell (X := fun x => x = z) _ (p := ⟨z, o + 7, none⟩) rfl _)
theorem row_set8 {w : World} {z n : Nat} {F : Nat → Value} (r : Row w z n F) (o : Nat) (f g : Nat → Int) : Row (set8 w z o f g) z n (fun i => if o ≤ i ∧ i < o + 8 then (if (i - o) % 2 = 0 then .int .i64 (f ((i - o) / 2)) else .int .i64 (g ((i - o) / 2))) else F i) := by
  refine ((((((((r.set o _).set (o + 1) _).set (o + 2) _).set (o + 3) _).set (o + 4) _).set (o + 5) _).set (o + 6) _).set (o + 7) _).congr (fun i hi => ?_)
  by_cases h : o ≤ i ∧ i < o + 8
  · rw [if_pos h]
    obtain ⟨t, rfl⟩ : ∃ t, i = o + t := ⟨i - o, by omega⟩
    have ht : t = 0 ∨ t = 1 ∨ t = 2 ∨ t = 3 ∨ t = 4 ∨ t = 5 ∨ t = 6 ∨ t = 7 := by omega
    rcases ht with rfl | rfl | rfl | rfl | rfl | rfl | rfl | rfl <;> simp
  · rw [if_neg h]
    have e0 : ¬ i = o := by omega
    have e1 : ¬ i = o + 1 := by omega
    have e2 : ¬ i = o + 2 := by omega
    have e3 : ¬ i = o + 3 := by omega
    have e4 : ¬ i = o + 4 := by omega
    have e5 : ¬ i = o + 5 := by omega
    have e6 : ¬ i = o + 6 := by omega
    have e7 : ¬ i = o + 7 := by omega
    simp [e0, e1, e2, e3, e4, e5, e6, e7]
theorem lc_step {w : World} {z n : Nat} {p m : Nat → Nat → Int} {j : Nat} (r : Row w z (n * 8) (lc (upTo j p) (upTo j m))) : Row (set8 w z (j * 8) (p j) (m j)) z (n * 8) (lc (upTo (j + 1) p) (upTo (j + 1) m)) :=
  (row_set8 r (j * 8) (p j) (m j)).congr (fun i hi => by
    unfold lc upTo
    by_cases h : j * 8 ≤ i ∧ i < j * 8 + 8
    · rw [if_pos h]
      have e1 : i / 8 = j := by omega
      have e2 : (i - j * 8) % 2 = i % 2 := by omega
      have e3 : (i - j * 8) / 2 = i % 8 / 2 := by omega
      have e4 : j < j + 1 := by omega
      simp only [e1, e2, e3, e4, if_true]
    · rw [if_neg h]
      have e5 : (i / 8 < j + 1) = (i / 8 < j) := propext ⟨fun q => by omega, fun q => by omega⟩
      simp only [e5])
theorem good_sw {n kn : Nat} {c : Nat → Int} {len : Nat → Nat} {p m : Nat → Nat → Int} (hn : n = 4) (hk : 1 ≤ kn ∧ kn ≤ 4) (hl : ∀ i, i < kn → listOK ⟨kn, len, p, m⟩ i) : BD.Good ⟨n, c, ⟨kn, len, p, m⟩⟩ ↔ swOK c kn p m := by
  subst hn
  refine good_parts.trans ?_
  constructor
  · rintro ⟨h1, h2, h3, -⟩
    refine ⟨h2, fun k hkk hnl j hj => ?_⟩
    have hm := h3 k hkk hnl j (by show j < len k; have h6 : len k = 4 := (h1 k hkk).1; omega)
    have hlf := (h1 k hkk).2 j hj
    have hm' : ¬ 0 < m k j := hm
    have hlf' : leafOK (p k j) (m k j) := hlf
    unfold leafOK at hlf'
    omega
  · rintro ⟨h2, h3⟩
    refine ⟨hl, h2, fun k hkk hnl j hj => ?_, rfl, hk.1, hk.2⟩
    have := (h3 k hkk hnl j (by have h4 := (hl k hkk).1; have h5 : j < len k := hj; have h6 : len k = 4 := h4; omega)).2
    show ¬ 0 < m k j
    omega
theorem list_ls {kn : Nat} {len : Nat → Nat} {p m : Nat → Nat → Int} {i : Nat} : listOK ⟨kn, len, p, m⟩ i ↔ lsOK (len i) (p i) (m i) := Iff.rfl
theorem set5_blw {w W : World} {z : Nat} (h : Blw w W) (hz : w.heap.size ≤ z) (v0 v1 v2 v3 v4 : Value) : Blw w (((((W.setCell ⟨z, 0, none⟩ v0).setCell ⟨z, 1, none⟩ v1).setCell ⟨z, 2, none⟩ v2).setCell ⟨z, 3, none⟩ v3).setCell ⟨z, 4, none⟩ v4) :=
  ((((h.setCell hz _).setCell hz _).setCell hz _).setCell hz _).setCell hz _
def zrow (v : Value) : Nat → Value := fun i => if i < 4 then .int .i64 0 else v
theorem zrow5 (w : World) (v : Value) (t : TypeId) : Row (w.alloc (.cells #[.int .i64 0, .int .i64 0, .int .i64 0, .int .i64 0, v] t)) w.heap.size 5 (zrow v) :=
  (row5 w (.int .i64 0) (.int .i64 0) (.int .i64 0) (.int .i64 0) v t).congr (fun i hi => by
    match i, hi with
    | 0, _ => rfl
    | 1, _ => rfl
    | 2, _ => rfl
    | 3, _ => rfl
    | 4, _ => rfl)
theorem zget {w : World} {B : Nat} {v : Value} (r : Row w B 5 (zrow v)) : w.cell? ⟨B, 0, none⟩ = some (.int .i64 0) ∧ w.cell? ⟨B, 1, none⟩ = some (.int .i64 0) ∧ w.cell? ⟨B, 2, none⟩ = some (.int .i64 0) ∧ w.cell? ⟨B, 3, none⟩ = some (.int .i64 0) ∧ w.cell? ⟨B, 4, none⟩ = some v :=
  ⟨r.cell (i := 0) (by omega), r.cell (i := 1) (by omega), r.cell (i := 2) (by omega), r.cell (i := 3) (by omega), r.cell (i := 4) (by omega)⟩
abbrev zero5 : Array Value := #[.int .i64 0, .int .i64 0, .int .i64 0, .int .i64 0, .slice none 0 0]
end Go.Proofs.Ytjplodenflkghaa
