/- What 'eqMemory' and its parts answer where both sides read alike: true. -/
import Derived.Test.YtglllnklcnlcjaaBase
namespace Go.Proofs.Ytglllnklcnlcjaa
open Go.RowKit
set_option maxHeartbeats 400000 in
theorem eqIntS_same (a1 a2 : Option Addr) (c1 c2 : Nat) (n0 : Nat) (f : Nat → Int) {Y Z : Nat → Prop} (w : World) (h1 : IntsAt Y w a1 n0 f) (h2 : IntsAt Z w a2 n0 f) :
    Calls Try.prog 47 #[.slice a1 n0 c1, .slice a2 n0 c2] w fun e w' => e = .returned (.bool true) ∧ ∃ n, w' = w.drewN n := by
  obtain ⟨hl, h1⟩ := h1
  obtain ⟨-, h2⟩ := h2
  go_enter Try.func47, Try.ntmps47
  go_wp2
  go_loopw [5] (fun i wr => ∃ k n : Nat, k ≤ n0 ∧ i = .int .i64 k ∧ wr = w.drewN n) (fun i _ => n0 - (intOf i).toNat)
  case atStart => exact ⟨0, 0, Nat.zero_le _, rfl, rfl⟩
  case round =>
    obtain ⟨k, n, hk, rfl, rfl⟩ := hrel
    by_cases hlt : k < n0
    · obtain ⟨b, o, rfl, -, g1⟩ := h1 k hlt
      obtain ⟨b', o', rfl, -, g2⟩ := h2 k hlt
      clear h1 h2
      go_wp2
      go_quiet (fail)
      go_wp2
      go_roundw
      case rel => exact ⟨k + 1, _, by omega, by go_num, rfl⟩
      case measure => simp [intOf]; omega
    · go_wp2
      go_ret
      exact ⟨rfl, n, rfl⟩
set_option maxHeartbeats 400000 in
theorem eqBoolS_same (a1 a2 : Option Addr) (c1 c2 : Nat) (n0 : Nat) (f : Nat → Bool) {Y Z : Nat → Prop} (w : World) (h1 : BoolsAt Y w a1 n0 f) (h2 : BoolsAt Z w a2 n0 f) :
    Calls Try.prog 88 #[.slice a1 n0 c1, .slice a2 n0 c2] w fun e w' => e = .returned (.bool true) ∧ ∃ n, w' = w.drewN n := by
  obtain ⟨hl, h1⟩ := h1
  obtain ⟨-, h2⟩ := h2
  go_enter Try.func88, Try.ntmps88
  go_wp2
  go_loopw [5] (fun i wr => ∃ k n : Nat, k ≤ n0 ∧ i = .int .i64 k ∧ wr = w.drewN n) (fun i _ => n0 - (intOf i).toNat)
  case atStart => exact ⟨0, 0, Nat.zero_le _, rfl, rfl⟩
  case round =>
    obtain ⟨k, n, hk, rfl, rfl⟩ := hrel
    by_cases hlt : k < n0
    · obtain ⟨b, o, rfl, -, g1⟩ := h1 k hlt
      obtain ⟨b', o', rfl, -, g2⟩ := h2 k hlt
      clear h1 h2
      go_wp2
      go_quiet (fail)
      go_wp2
      go_roundw
      case rel => exact ⟨k + 1, _, by omega, by go_num, rfl⟩
      case measure => simp [intOf]; omega
    · go_wp2
      go_ret
      exact ⟨rfl, n, rfl⟩
set_option maxHeartbeats 400000 in
theorem eqLine_same (a1 a2 : Option Addr) (c1 c2 : Nat) (n0 : Nat) (f : Nat → Int) {Y Z : Nat → Prop} (w : World) (h1 : IntsAt Y w a1 n0 f) (h2 : IntsAt Z w a2 n0 f) :
    Calls Try.prog 118 #[.agg #[.slice a1 n0 c1], .agg #[.slice a2 n0 c2]] w fun e w' => e = .returned (.bool true) ∧ Blw w w' := by
  go_enter Try.func118, Try.ntmps118
  go_wp2_with fail
  refine (eqIntS_same _ _ _ _ n0 f _ (h1.blw (((Blw.refl _).alloc _).alloc _)) (h2.blw (((Blw.refl _).alloc _).alloc _))).mono ?_
  rintro e w' ⟨rfl, n, rfl⟩
  go_wp2
  go_ret
  exact ⟨rfl, (((Blw.refl _).alloc _).alloc _).drewN _⟩
set_option maxHeartbeats 800000 in
theorem eqLineS_same (a1 a2 : Option Addr) (c1 c2 : Nat) (n0 : Nat) (len : Nat → Nat) (f : Nat → Nat → Int) {Y Z : Nat → Prop} (w : World) (h1 : LinesAt Y w a1 n0 len f) (h2 : LinesAt Z w a2 n0 len f) :
    Calls Try.prog 87 #[.slice a1 n0 c1, .slice a2 n0 c2] w fun e w' => e = .returned (.bool true) ∧ Blw w w' := by
  obtain ⟨hl, h1⟩ := h1
  obtain ⟨-, h2⟩ := h2
  go_enter Try.func87, Try.ntmps87
  go_wp2
  go_loopw [5] (fun i wr => ∃ k : Nat, k ≤ n0 ∧ i = .int .i64 k ∧ Blw w wr) (fun i _ => n0 - (intOf i).toNat)
  case atStart => exact ⟨0, Nat.zero_le _, rfl, Blw.refl _⟩
  case round =>
    obtain ⟨k, hk, rfl, hb⟩ := hrel
    by_cases hlt : k < n0
    · obtain ⟨b, o, e, ce, rfl, -, g1, k1⟩ := h1 k hlt
      obtain ⟨b', o', e', ce', rfl, -, g2, k2⟩ := h2 k hlt
      replace g1 := hb.cell g1
      replace g2 := hb.cell g2
      replace k1 := k1.blw hb
      replace k2 := k2.blw hb
      clear h1 h2
      generalize len k = lk at *
      go_wp2
      go_region_with (go_at_call 118; refine (eqLine_same _ _ _ _ lk (f k) _ (k1.blw (Blw.refl _).drew) (k2.blw (Blw.refl _).drew)).mono ?_; rintro e w' ⟨rfl, hb2⟩)
      all_goals go_wp2
      all_goals go_roundw
      all_goals first | exact ⟨k + 1, by omega, by go_num, hb.trans ((Blw.refl _).drew.trans (by assumption))⟩ | (simp [intOf]; omega)
    · go_wp2
      go_ret
      exact ⟨rfl, hb⟩
set_option maxHeartbeats 800000 in
theorem eqMemory_same (m m' : MV) (M : MD) {Y Z : Nat → Prop} (w : World) (h1 : MemAt Y w m M) (h2 : MemAt Z w m' M) :
    Calls Try.prog 41 #[m.val M, m'.val M] w fun e w' => e = .returned (.bool true) ∧ Blw w w' := by
  obtain ⟨a1, a2, a3, c1, c2, c3⟩ := m
  obtain ⟨b1, b2, b3, d1, d2, d3⟩ := m'
  obtain ⟨n1, n2, n3, l1, l2, v1, v2, dd⟩ := M
  obtain ⟨s1, s2, s3⟩ := h1
  obtain ⟨t1, t2, t3⟩ := h2
  simp only [MV.val] at *
  go_enter Try.func41, Try.ntmps41
  go_wp2_with fail
  have hb0 : Blw w ((w.alloc (.cells #[.slice a1 n1 c1, .slice a2 n2 c2, .slice a3 n3 c3] 26)).alloc (.cells #[.slice b1 n1 d1, .slice b2 n2 d2, .slice b3 n3 d3] 26)) := ((Blw.refl _).alloc _).alloc _
  refine (eqLineS_same _ _ _ _ n1 l1 v1 _ (s1.blw hb0) (t1.blw hb0)).mono ?_
  rintro e w1 ⟨rfl, hb1⟩
  have p1 : w1.cell? ⟨w.heap.size, 1, none⟩ = some (.slice a2 n2 c2) := hb1.cell (by go_cell)
  have p2 : w1.cell? ⟨w.heap.size, 2, none⟩ = some (.slice a3 n3 c3) := hb1.cell (by go_cell)
  have q1 : w1.cell? ⟨w.heap.size + 1, 1, none⟩ = some (.slice b2 n2 d2) := hb1.cell (by go_cell)
  have q2 : w1.cell? ⟨w.heap.size + 1, 2, none⟩ = some (.slice b3 n3 d3) := hb1.cell (by go_cell)
  have hB1 : Blw w w1 := hb0.trans hb1
  clear hb0 hb1
  go_wp2_with fail
  refine (eqLineS_same _ _ _ _ n2 l2 v2 _ (s2.blw hB1) (t2.blw hB1)).mono ?_
  rintro e w2 ⟨rfl, hb2⟩
  replace p2 := hb2.cell p2
  replace q2 := hb2.cell q2
  have hB2 : Blw w w2 := hB1.trans hb2
  clear p1 q1 hB1 hb2
  go_wp2_with fail
  refine (eqBoolS_same _ _ _ _ n3 dd _ (s3.blw hB2) (t3.blw hB2)).mono ?_
  rintro e w3 ⟨rfl, n, rfl⟩
  go_wp2
  go_ret
  exact ⟨rfl, hB2.drewN _⟩
end Go.Proofs.Ytglllnklcnlcjaa
