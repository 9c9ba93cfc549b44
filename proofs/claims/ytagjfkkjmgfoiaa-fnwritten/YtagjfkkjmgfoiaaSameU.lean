/- What the laws' own 'sameUndos' and 'sameBook' answer of what is the same. -/
import Derived.Test.YtagjfkkjmgfoiaaInts
import Derived.Test.YtagjfkkjmgfoiaaBookL
import Derived.Test.YtagjfkkjmgfoiaaLawF
namespace Go.Proofs.Ytagjfkkjmgfoiaa
open Go.RowKit
set_option linter.unusedSimpArgs false
set_option linter.unusedVariables false
set_option maxHeartbeats 1600000 in
theorem sameUndos_same (a1 a2 : Option Addr) (c1 c2 n0 : Nat) (f g : Nat → Int) {Y Z : Nat → Prop} (w : World) (h1 : UndosAt Y w a1 n0 f g) (h2 : UndosAt Z w a2 n0 f g) :
    Calls Try.prog 63 #[.slice a1 n0 c1, .slice a2 n0 c2] w fun e w' => e = .returned (.bool true) ∧ Blw w w' := by
  have hl := h1.1
  have H1 : Hid (UndosAt Y w a1 n0 f g) := h1
  have H2 : Hid (UndosAt Z w a2 n0 f g) := h2
  clear h1 h2
  go_enter Try.func63, Try.ntmps63
  go_wp2
  go_loopw [13] (fun i wr => ∃ k : Nat, k ≤ n0 ∧ i = .int .i64 k ∧ Blw w wr) (fun i _ => n0 - (intOf i).toNat)
  case atStart => exact ⟨0, Nat.zero_le _, rfl, Blw.refl _⟩
  case round =>
    obtain ⟨k, hk, rfl, hb⟩ := hrel
    have HB : Hid (Blw w wr) := hb
    by_cases hlt : k < n0
    · obtain ⟨b, o, e1, -, g1, g2⟩ := (H1.out.blw hb).2 k hlt
      obtain ⟨b', o', e2, -, g3, g4⟩ := (H2.out.blw hb).2 k hlt
      subst e1 e2
      have hlt' : (k : Int) < n0 := by omega
      clear hb H1 H2
      go_wp2
      go_quiet (fail)
      go_wp2
      go_roundw
      case rel => exact ⟨k + 1, by omega, by go_num, by first | exact HB.out | exact HB.out.drew | exact HB.out.drewN _⟩
      case measure => simp [intOf]; omega
    · clear hb
      go_wp2
      go_ret
      exact ⟨rfl, HB.out⟩
set_option maxHeartbeats 1600000 in
theorem sameBook_same (b b' : BV) (B : BD) {X Y : Nat → Prop} (w : World) (h1 : BookAt X w b B) (h2 : BookAt Y w b' B) :
    Calls Try.prog 16 #[b.val B, b'.val B] w fun e w' => e = .returned (.bool true) ∧ Blw w w' := by
  obtain ⟨n, c, k, lc, lw⟩ := B
  have H1 : Hid (BookAt X w b ⟨n, c, k, lc, lw⟩) := h1
  have H2 : Hid (BookAt Y w b' ⟨n, c, k, lc, lw⟩) := h2
  clear h1 h2
  go_enter Try.func16, Try.ntmps16
  go_wp2_with fail
  have rA := (box2 w (.slice b.a1 n b.c1) (.slice b.a2 k b.c2) 26).blw ((Blw.refl _).alloc (.cells #[.slice b'.a1 n b'.c1, .slice b'.a2 k b'.c2] 26))
  have rB := box2 (w.alloc (.cells #[.slice b.a1 n b.c1, .slice b.a2 k b.c2] 26)) (.slice b'.a1 n b'.c1) (.slice b'.a2 k b'.c2) 26
  rw [World.size_alloc] at rB
  have hb0 : Blw w ((w.alloc (.cells #[.slice b.a1 n b.c1, .slice b.a2 k b.c2] 26)).alloc (.cells #[.slice b'.a1 n b'.c1, .slice b'.a2 k b'.c2] 26)) := ((Blw.refl _).alloc _).alloc _
  refine (sameInts_yes _ _ _ _ n c c _ (H1.out.c.blw hb0) (H2.out.c.blw hb0) (fun _ _ => rfl)).mono ?_
  rintro e w1 ⟨rfl, m, rfl⟩
  have hb1 := drewN_blw ((w.alloc (.cells #[.slice b.a1 n b.c1, .slice b.a2 k b.c2] 26)).alloc (.cells #[.slice b'.a1 n b'.c1, .slice b'.a2 k b'.c2] 26)) m
  replace rA := rA.blw hb1
  replace rB := rB.blw hb1
  replace hb1 := hb0.trans hb1
  clear hb0
  revert rA rB hb1
  generalize ((w.alloc (.cells #[.slice b.a1 n b.c1, .slice b.a2 k b.c2] 26)).alloc (.cells #[.slice b'.a1 n b'.c1, .slice b'.a2 k b'.c2] 26)).drewN m = w1
  intro rA rB hb1
  obtain ⟨p0, p1⟩ := get2 rA
  obtain ⟨q0, q1⟩ := get2 rB
  clear rA rB
  go_wp2_with fail
  clear p0 p1 q0 q1
  refine (sameUndos_same _ _ _ _ k lc lw _ (H1.out.l.blw hb1) (H2.out.l.blw hb1)).mono ?_
  rintro e w2 ⟨rfl, hb2⟩
  replace hb2 := hb1.trans hb2
  clear hb1 H1 H2
  go_wp2
  go_ret
  exact ⟨rfl, hb2⟩
end Go.Proofs.Ytagjfkkjmgfoiaa
