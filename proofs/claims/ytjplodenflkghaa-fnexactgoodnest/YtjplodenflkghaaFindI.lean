/- The leaf at a place: the program's. -/
import Derived.Test.YtjplodenflkghaaFind
namespace Go.Proofs.Ytjplodenflkghaa
open Go.RowKit
set_option linter.unusedSimpArgs false
set_option linter.unusedVariables false
theorem row5_top {w : World} {z : Nat} {c : Nat → Int} {v : Value} (r : Row w z 5 (row5f c v)) {i : Nat} (hi : i < 4) : w.cell? ⟨z, i, none⟩ = some (.int .i64 (c i)) := by
  rw [r.cell (i := i) (by omega)]
  match i, hi with
  | 0, _ => rfl
  | 1, _ => rfl
  | 2, _ => rfl
  | 3, _ => rfl
theorem lc_at {w : World} {z n : Nat} {p m : Nat → Nat → Int} (r : Row w z (n * 8) (lc p m)) {k t : Nat} (hk : k < n) (ht : t < 4) : w.cell? ⟨z, k * 8 + t * 2, none⟩ = some (.int .i64 (p k t)) ∧ w.cell? ⟨z, k * 8 + t * 2 + 1, none⟩ = some (.int .i64 (m k t)) := by
  refine ⟨?_, ?_⟩
  · rw [r.cell (i := k * 8 + t * 2) (by omega)]
    unfold lc
    rw [if_pos (by omega), show (k * 8 + t * 2) / 8 = k by omega, show (k * 8 + t * 2) % 8 / 2 = t by omega]
  · rw [r.cell (i := k * 8 + t * 2 + 1) (by omega)]
    unfold lc
    rw [if_neg (by omega), show (k * 8 + t * 2 + 1) / 8 = k by omega, show (k * 8 + t * 2 + 1) % 8 / 2 = t by omega]
set_option maxRecDepth 10000 in
set_option maxHeartbeats 3200000 in
theorem leafAt_any (c : Nat → Int) (zl kn : Nat) (p m : Nat → Nat → Int) (a : Nat) (w : World) (hk : kn ≤ 4) (ht : ∀ i, i < 4 → -1 ≤ c i ∧ c i ≤ (kn : Int) - 1) (ha : a < 16) (h : Row w zl (kn * 8) (lc p m)) :
    Calls Try.prog 161 #[.agg (held5 c zl kn), .int .i64 a] w fun e w' => e = .returned (.agg #[.int .i64 (lfP c p a), .int .i64 (lfP c m a)]) ∧ Blw w w' := by
  have hb0 : Blw w ((w.alloc (.cells (held5 c zl kn) 129)).alloc (.cells #[.int .i64 0, .int .i64 0] 144)) := ((Blw.refl _).alloc _).alloc _
  have rA : Row ((w.alloc (.cells (held5 c zl kn) 129)).alloc (.cells #[.int .i64 0, .int .i64 0] 144)) w.heap.size 5 (row5f c (.slice (some ⟨zl, 0, none⟩) kn kn)) := (row5 w (.int .i64 (c 0)) (.int .i64 (c 1)) (.int .i64 (c 2)) (.int .i64 (c 3)) (.slice (some ⟨zl, 0, none⟩) kn kn) 129).blw ((Blw.refl _).alloc (.cells #[.int .i64 0, .int .i64 0] 144))
  have rR := box2 (w.alloc (.cells (held5 c zl kn) 129)) (.int .i64 0) (.int .i64 0) 144
  rw [World.size_alloc] at rR
  have rL := h.blw hb0
  have hd : Int.tdiv (a : Int) 4 = ((a / 4 : Nat) : Int) := by rw [Int.tdiv_eq_ediv_of_nonneg (by omega)]; rfl
  have hr : Int.tmod (a : Int) 4 = ((a % 4 : Nat) : Int) := by rw [Int.tmod_eq_emod_of_nonneg (by omega)]; rfl
  have hd4 : a / 4 < 4 := by omega
  have hr4 : a % 4 < 4 := by omega
  have g1 := row5_top rA hd4
  obtain ⟨-, -, -, -, g9⟩ := get5 rA
  have htop := ht (a / 4) hd4
  obtain ⟨t0, t1⟩ := get2 rR
  have f0 := rR.frozen 0
  have f1 := rR.frozen 1
  have hd4' : ((a / 4 : Nat) : Int) < 4 := by omega
  have hr4' : ((a % 4 : Nat) : Int) < 4 := by omega
  clear ht h rA rR
  by_cases h0 : 0 ≤ c (a / 4)
  · obtain ⟨q, hq⟩ : ∃ q : Nat, c (a / 4) = q := ⟨(c (a / 4)).toNat, by omega⟩
    have hqk : q < kn := by omega
    have hqk' : (q : Int) < (kn : Int) := by omega
    have E1 : Hid (lfP c p a = p q (a % 4)) := lfP_yes hq
    have E2 : Hid (lfP c m a = m q (a % 4)) := lfP_yes hq
    obtain ⟨g4, g5⟩ := lc_at rL hqk hr4
    have dq : ((q : Int) == -1) = false := by simp
    rw [hq] at g1
    clear h0 htop hq rL
    generalize a / 4 = x at *
    generalize a % 4 = y at *
    go_enter Try.func161, Try.ntmps161
    go_wp2
    refine bodyPost_ret (v := .agg #[.int .i64 (p q y), .int .i64 (m q y)]) (by simp [results, Try.results161, go_sem, t0, t1]) rfl ?_
    refine ⟨by rw [E1.out, E2.out], ?_⟩
    first | exact ((Blw.refl _).alloc _).alloc _ | exact set2w_blw hb0 (by omega) _ _
  · have E1 : Hid (lfP c p a = 0) := lfP_no h0
    have E2 : Hid (lfP c m a = 0) := lfP_no h0
    have hcm : c (a / 4) = -1 := by omega
    rw [hcm] at g1
    clear h0 htop rL hcm
    generalize a / 4 = x at *
    generalize a % 4 = y at *
    go_enter Try.func161, Try.ntmps161
    go_wp2
    refine bodyPost_ret (v := .agg #[.int .i64 0, .int .i64 0]) (by simp [results, Try.results161, go_sem, t0, t1]) rfl ?_
    refine ⟨by rw [E1.out, E2.out], ?_⟩
    first | exact hb0 | exact ((Blw.refl _).alloc _).alloc _ | exact set2w_blw hb0 (by omega) _ _
end Go.Proofs.Ytjplodenflkghaa
