/- What stands in a drawn law on owners. -/
import Derived.Test.YtfmmpddknanhbaaDrawO
import Derived.Test.YtfmmpddknanhbaaFactO
namespace Go.Proofs.Ytfmmpddknanhbaa
open Go.RowKit
set_option linter.unusedSimpArgs false
set_option linter.unusedVariables false
/-- Owners and their box. -/
structure BX (W : World) (z : Nat) (b : BV) (B : BD) : Prop where
  at_ : BookAt (fun x => x < W.heap.size) W b B
  box : Row W z 2 (fun i => if i = 0 then .slice b.a1 B.n b.c1 else .slice b.a2 B.k b.c2)
theorem BX.blw {W W' : World} {z : Nat} {b : BV} {B : BD} (h : BX W z b B) (hb : Blw W W') : BX W' z b B :=
  ⟨(h.at_.blw hb).mono (fun x hx => Nat.lt_of_lt_of_le hx hb.size), h.box.blw hb⟩
theorem BX.all {W : World} {z : Nat} {b : BV} {B : BD} (h : BX W z b B) : (∀ w', Blw W w' → w'.cell? ⟨z, 0, none⟩ = some (.slice b.a1 B.n b.c1)) ∧ (∀ w', Blw W w' → w'.cell? ⟨z, 1, none⟩ = some (.slice b.a2 B.k b.c2)) :=
  ⟨fun w' hb => (get2 (h.box.blw hb)).1, fun w' hb => (get2 (h.box.blw hb)).2⟩
def LI (W : World) (a : Option Addr) (n : Nat) (f : Nat → Int) : Prop := IntsAt (fun x => x < W.heap.size) W a n f
theorem LI.blw {W W' : World} {a : Option Addr} {n : Nat} {f : Nat → Int} (h : LI W a n f) (hb : Blw W W') : LI W' a n f := (IntsAt.blw h hb).mono (fun x hx => Nat.lt_of_lt_of_le hx hb.size)
def LS (W : World) (a : Option Addr) (D : SD) : Prop := SSAt (fun x => x < W.heap.size) W a D
theorem LS.blw {W W' : World} {a : Option Addr} {D : SD} (h : LS W a D) (hb : Blw W W') : LS W' a D := (LinesAt.blw h hb : SSAt _ W' a D).mono (fun x hx => Nat.lt_of_lt_of_le hx hb.size)
def BY (W : World) (a : Option Addr) (n : Nat) (f : Nat → Int) : Prop := BytesAt (fun b => b < W.heap.size) W a n f
theorem BY.blw {W W' : World} {a : Option Addr} {n : Nat} {f : Nat → Int} (h : BY W a n f) (hb : Blw W W') : BY W' a n f := bytes_more h hb
theorem same39 (a1 a2 : Option Addr) (c1 c2 n0 : Nat) (f g : Nat → Int) {Y Z : Nat → Prop} (w : World) (h1 : IntsAt Y w a1 n0 f) (h2 : IntsAt Z w a2 n0 g) (he : ∀ i, i < n0 → f i = g i) :
    Calls Try.prog 39 #[.slice a1 n0 c1, .slice a2 n0 c2] w fun e w' => e = .returned (.bool true) ∧ Blw w w' :=
  (sameInts_yes a1 a2 c1 c2 n0 f g w h1 h2 he).mono fun e w' ⟨he, n, hw⟩ => ⟨he, by subst hw; exact (Blw.refl _).drewN n⟩
set_option maxHeartbeats 1600000 in
theorem sameOwners_same (b b' : BV) (B : BD) {Y Z : Nat → Prop} (w : World) (h1 : BookAt Y w b B) (h2 : BookAt Z w b' B) :
    Calls Try.prog 17 #[b.val B, b'.val B] w fun e w' => e = .returned (.bool true) ∧ Blw w w' := by
  have hb0 : Blw w ((w.alloc (.cells #[.slice b.a1 B.n b.c1, .slice b.a2 B.k b.c2] 25)).alloc (.cells #[.slice b'.a1 B.n b'.c1, .slice b'.a2 B.k b'.c2] 25)) := ((Blw.refl _).alloc _).alloc _
  have HA : Hid (BookAt Y ((w.alloc (.cells #[.slice b.a1 B.n b.c1, .slice b.a2 B.k b.c2] 25)).alloc (.cells #[.slice b'.a1 B.n b'.c1, .slice b'.a2 B.k b'.c2] 25)) b B) := h1.blw hb0
  have HB : Hid (BookAt Z ((w.alloc (.cells #[.slice b.a1 B.n b.c1, .slice b.a2 B.k b.c2] 25)).alloc (.cells #[.slice b'.a1 B.n b'.c1, .slice b'.a2 B.k b'.c2] 25)) b' B) := h2.blw hb0
  have r0 := (box2 w (.slice b.a1 B.n b.c1) (.slice b.a2 B.k b.c2) 25).blw ((Blw.refl _).alloc (.cells #[.slice b'.a1 B.n b'.c1, .slice b'.a2 B.k b'.c2] 25))
  have r1 := box2 (w.alloc (.cells #[.slice b.a1 B.n b.c1, .slice b.a2 B.k b.c2] 25)) (.slice b'.a1 B.n b'.c1) (.slice b'.a2 B.k b'.c2) 25
  rw [World.size_alloc] at r1
  clear h1 h2
  obtain ⟨n, c, k, l⟩ := B
  dsimp only at *
  go_enter Try.func17, Try.ntmps17
  go_wp2_with fail
  refine (same39 b.a1 b'.a1 b.c1 b'.c1 n c c _ HA.out.c HB.out.c (fun _ _ => rfl)).mono ?_
  rintro e w1 ⟨rfl, hb1⟩
  replace HA : Hid (BookAt Y w1 b ⟨n, c, k, l⟩) := HA.out.blw hb1
  replace HB : Hid (BookAt Z w1 b' ⟨n, c, k, l⟩) := HB.out.blw hb1
  obtain ⟨p0, p1⟩ := get2 (r0.blw hb1)
  obtain ⟨q0, q1⟩ := get2 (r1.blw hb1)
  replace hb0 := hb0.trans hb1
  clear r0 r1 hb1
  go_wp2_with fail
  clear p0 p1 q0 q1
  refine (same39 b.a2 b'.a2 b.c2 b'.c2 k l l _ HA.out.l HB.out.l (fun _ _ => rfl)).mono ?_
  rintro e w2 ⟨rfl, hb2⟩
  replace hb0 := hb0.trans hb2
  clear HA HB hb2
  go_wp2
  go_ret
  exact ⟨rfl, hb0⟩
set_option maxHeartbeats 800000 in
theorem sameRows_same (a1 a2 : Option Addr) (c1 c2 : Nat) (D : SD) {Y Z : Nat → Prop} (w : World) (h1 : SSAt Y w a1 D) (h2 : SSAt Z w a2 D) :
    Calls Try.prog 22 #[.slice a1 D.n c1, .slice a2 D.n c2] w fun e w' => e = .returned (.bool true) ∧ Blw w w' := by
  obtain ⟨n0, len, f⟩ := D
  obtain ⟨hl, h1⟩ := h1
  obtain ⟨-, h2⟩ := h2
  dsimp only at hl h1 h2 ⊢
  go_enter Try.func22, Try.ntmps22
  go_wp2
  go_loopw [13] (fun i wr => ∃ k : Nat, k ≤ n0 ∧ i = .int .i64 k ∧ Blw w wr) (fun i _ => n0 - (intOf i).toNat)
  case atStart => exact ⟨0, Nat.zero_le _, rfl, Blw.refl _⟩
  case round =>
    obtain ⟨k, hk, rfl, hb⟩ := hrel
    by_cases hlt : k < n0
    · obtain ⟨b, o, e, ce, rfl, -, g1, k1⟩ := h1 k hlt
      obtain ⟨b', o', e', ce', rfl, -, g2, k2⟩ := h2 k hlt
      replace g1 := hb.cell g1
      replace g2 := hb.cell g2
      replace k1 := k1.blw hb
      replace k2 := k2.blw hb
      clear h1 h2
      generalize len k = lk at *
      go_wp2
      go_region_with (go_at_call 39; refine (same39 _ _ _ _ lk (f k) (f k) _ (k1.blw (Blw.refl _).drew) (k2.blw (Blw.refl _).drew) (fun _ _ => rfl)).mono ?_; rintro e w' ⟨rfl, hb2⟩)
      all_goals go_wp2
      all_goals go_roundw
      all_goals first | exact ⟨k + 1, by omega, by go_num, hb.trans ((Blw.refl _).drew.trans (by assumption))⟩ | (simp [intOf]; omega)
    · go_wp2
      go_ret
      exact ⟨rfl, hb⟩
end Go.Proofs.Ytfmmpddknanhbaa
