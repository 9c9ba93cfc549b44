/- What 'szMemory' and its parts answer: below 0, or the memory is small. -/
import Derived.Test.YtglllnklcnlcjaaMark
namespace Go.Proofs.Ytglllnklcnlcjaa
open Go.RowKit

/-- What a measure answers: below 0, or what is left. -/
def Left (left size r : Int) : Prop := r = -1 ∨ (0 ≤ r ∧ r + size ≤ left)

set_option maxHeartbeats 400000 in
theorem szIntS_any (ao : Option Addr) (c n : Nat) (left : Int) (w : World) (hn : n ≤ 9223372036854775807) (h0 : 0 ≤ left) (h1 : left ≤ 1048576) :
    Calls Try.prog 125 #[.slice ao n c, .int .i64 left] w fun e w' => ∃ r : Int, e = .returned (.int .i64 r) ∧ Left left n r ∧ Blw w w' := by
  by_cases h : left - n < 0
  · go_enter Try.func125, Try.ntmps125
    go_wp2
    go_ret
    exact ⟨_, rfl, Or.inl rfl, Blw.refl _⟩
  · go_enter Try.func125, Try.ntmps125
    go_wp2
    go_ret
    exact ⟨_, rfl, Or.inr ⟨by omega, by omega⟩, Blw.refl _⟩
set_option maxHeartbeats 400000 in
theorem szBoolS_any (ao : Option Addr) (c n : Nat) (left : Int) (w : World) (hn : n ≤ 9223372036854775807) (h0 : 0 ≤ left) (h1 : left ≤ 1048576) :
    Calls Try.prog 84 #[.slice ao n c, .int .i64 left] w fun e w' => ∃ r : Int, e = .returned (.int .i64 r) ∧ Left left n r ∧ Blw w w' := by
  by_cases h : left - n < 0
  · go_enter Try.func84, Try.ntmps84
    go_wp2
    go_ret
    exact ⟨_, rfl, Or.inl rfl, Blw.refl _⟩
  · go_enter Try.func84, Try.ntmps84
    go_wp2
    go_ret
    exact ⟨_, rfl, Or.inr ⟨by omega, by omega⟩, Blw.refl _⟩
set_option maxHeartbeats 400000 in
theorem szLine_any (ao : Option Addr) (c n : Nat) (left : Int) (w : World) (hn : n ≤ 9223372036854775807) (h0 : 0 ≤ left) (h1 : left ≤ 1048576) :
    Calls Try.prog 116 #[.agg #[.slice ao n c], .int .i64 left] w fun e w' => ∃ r : Int, e = .returned (.int .i64 r) ∧ Left left n r ∧ Blw w w' := by
  go_enter Try.func116, Try.ntmps116
  go_wp2_with fail
  refine (szIntS_any _ _ _ _ _ hn h0 h1).mono ?_
  rintro e w1 ⟨r, rfl, hr, hb⟩
  replace hb := ((Blw.refl w).alloc _).trans hb
  rcases hr with rfl | ⟨r0, r1⟩
  · go_wp2
    go_ret
    exact ⟨_, rfl, Or.inl rfl, hb⟩
  · go_wp2
    go_ret
    exact ⟨_, rfl, Or.inr ⟨r0, r1⟩, hb⟩
set_option maxHeartbeats 800000 in
theorem szLineS_any (ao : Option Addr) (c0 n : Nat) (len : Nat → Nat) (v : Nat → Nat → Int) (Y : Nat → Prop) (left : Int) (w : World) (h0 : 0 ≤ left) (h1 : left ≤ 1048576) (h : LinesAt Y w ao n len v) :
    Calls Try.prog 83 #[.slice ao n c0, .int .i64 left] w fun e w' => ∃ r : Int, e = .returned (.int .i64 r) ∧ Left left (n + pre len n) r ∧ Blw w w' := by
  obtain ⟨hn, h⟩ := h
  by_cases hl : left - n < 0
  · go_enter Try.func83, Try.ntmps83
    go_wp2
    go_ret
    exact ⟨_, rfl, Or.inl rfl, Blw.refl _⟩
  · go_enter Try.func83, Try.ntmps83
    go_wp2
    go_loopw [1, 5] (fun kk i wr => ∃ (j : Nat) (r : Int), j ≤ n ∧ i = .int .i64 j ∧ kk = .int .i64 r ∧ 0 ≤ r ∧ r + (n + pre len j) ≤ left ∧ Blw w wr) (fun _ i _ => n - (intOf i).toNat)
    case atStart => exact ⟨0, _, Nat.zero_le _, rfl, rfl, by omega, by simp only [pre]; omega, Blw.refl _⟩
    case round =>
      obtain ⟨j, r, hj, rfl, rfl, hr0, hr1, hb⟩ := hrel
      by_cases hlt : j < n
      · obtain ⟨b, o, a, c, rfl, -, g1, g2⟩ := h j hlt
        replace g1 := hb.cell g1
        have HP : Hid (pre len (j + 1) = pre len j + len j) := rfl
        have hlj := g2.1
        clear h g2
        go_wp2_with fail
        refine (szLine_any _ _ _ _ _ hlj hr0 (by omega)).mono ?_
        rintro e w1 ⟨r1, rfl, hr, hb1⟩
        replace hb := hb.trans hb1
        clear g1 hb1
        rcases hr with rfl | ⟨q0, q1⟩
        · go_wp2
          go_ret
          exact ⟨_, rfl, Or.inl rfl, hb⟩
        · go_wp2
          go_roundw
          case rel => exact ⟨j + 1, r1, by omega, by go_num, rfl, q0, by rw [HP.out]; omega, hb⟩
          case measure => simp [intOf]; omega
      · go_wp2
        go_ret
        obtain rfl : j = n := by omega
        exact ⟨r, rfl, Or.inr ⟨hr0, by omega⟩, hb⟩
def MD.size (M : MD) : Nat := M.n1 + pre M.l1 M.n1 + (M.n2 + pre M.l2 M.n2) + M.n3
set_option maxHeartbeats 800000 in
theorem szMemory_any (m : MV) (M : MD) (Y : Nat → Prop) (left : Int) (w : World) (h0 : 0 ≤ left) (h1 : left ≤ 1048576) (h : MemAt Y w m M) :
    Calls Try.prog 38 #[m.val M, .int .i64 left] w fun e w' => ∃ r : Int, e = .returned (.int .i64 r) ∧ Left left M.size r ∧ Blw w w' := by
  obtain ⟨s, c, d⟩ := h
  obtain ⟨a1, a2, a3, c1, c2, c3⟩ := m
  obtain ⟨n1, n2, n3, l1, l2, v1, v2, dd⟩ := M
  simp only [MV.val, MD.size] at *
  have hd := d.1
  go_enter Try.func38, Try.ntmps38
  go_wp2_with fail
  have hb0 : Blw w (w.alloc (.cells #[.slice a1 n1 c1, .slice a2 n2 c2, .slice a3 n3 c3] 60)) := (Blw.refl _).alloc _
  refine (szLineS_any _ _ n1 l1 v1 Y _ _ h0 h1 (s.blw hb0)).mono ?_
  rintro e w1 ⟨r1, rfl, hr1, hb1⟩
  have p1 : w1.cell? ⟨w.heap.size, 1, none⟩ = some (.slice a2 n2 c2) := hb1.cell (by go_cell)
  have p2 : w1.cell? ⟨w.heap.size, 2, none⟩ = some (.slice a3 n3 c3) := hb1.cell (by go_cell)
  replace hb1 := hb0.trans hb1
  clear hb0
  rcases hr1 with rfl | ⟨q0, q1⟩
  · go_wp2
    go_ret
    exact ⟨_, rfl, Or.inl rfl, hb1⟩
  go_wp2_with fail
  refine (szLineS_any _ _ n2 l2 v2 Y _ _ q0 (by omega) (c.blw hb1)).mono ?_
  rintro e w2 ⟨r2, rfl, hr2, hb2⟩
  replace p2 := hb2.cell p2
  replace hb2 := hb1.trans hb2
  clear p1 hb1
  rcases hr2 with rfl | ⟨q2, q3⟩
  · go_wp2
    go_ret
    exact ⟨_, rfl, Or.inl rfl, hb2⟩
  go_wp2_with fail
  refine (szBoolS_any _ _ n3 _ _ hd q2 (by omega)).mono ?_
  rintro e w3 ⟨r3, rfl, hr3, hb3⟩
  replace hb3 := hb2.trans hb3
  clear p2 hb2
  rcases hr3 with rfl | ⟨q4, q5⟩
  · go_wp2
    go_ret
    exact ⟨_, rfl, Or.inl rfl, hb3⟩
  go_wp2
  go_ret
  exact ⟨_, rfl, Or.inr ⟨q4, by omega⟩, hb3⟩
end Go.Proofs.Ytglllnklcnlcjaa
