/- 'spec.Load', 'impl.Load', and the law on them. -/
import Derived.Test.YtglllnklcnlcjaaXGood
namespace Go.Proofs.Ytglllnklcnlcjaa
open Go.RowKit
set_option linter.unusedSimpArgs false
/-- What Load answers. -/
def ldOut (M : MD) (at_ x : Int) (b : Bool) : Prop := (M.Good ∧ ∃ n : Nat, at_ = n ∧ n < 48 ∧ x = M.v2 (n / 4) (n % 4) ∧ b = true) ∨ (¬ (M.Good ∧ 0 ≤ at_ ∧ at_ ≤ 47) ∧ x = 0 ∧ b = false)
theorem ldOut_same {M : MD} {at_ x y : Int} {b c : Bool} (h : ldOut M at_ x b) (k : ldOut M at_ y c) : x = y ∧ b = c := by
  rcases h with ⟨g, n, rfl, hn, rfl, rfl⟩ | ⟨g, rfl, rfl⟩
  · rcases k with ⟨_, n', e, hn', rfl, rfl⟩ | ⟨g', rfl, rfl⟩
    · obtain rfl : n = n' := by omega
      exact ⟨rfl, rfl⟩
    · exact absurd ⟨g, by omega, by omega⟩ g'
  · rcases k with ⟨g', n', e, hn', rfl, rfl⟩ | ⟨g', rfl, rfl⟩
    · exact absurd ⟨g', by omega, by omega⟩ g
    · exact ⟨rfl, rfl⟩
set_option maxHeartbeats 400000 in
theorem l1At_yes (n : Int) (w : World) (h1 : 0 ≤ n) (h2 : n ≤ 47) : Calls Try.prog 124 #[.int .i64 n] w fun e w' => e = .returned (.bool true) ∧ w' = w := by
  go_enter Try.func124, Try.ntmps124
  go_wp2_with fail
  refine (l1In_yes _ _ _ _ h1 h2).mono ?_
  rintro e w' ⟨rfl, rfl⟩
  go_wp2
  go_ret
  exact ⟨rfl, rfl⟩
set_option maxHeartbeats 400000 in
theorem l1At_no (n : Int) (w : World) (h : ¬ (0 ≤ n ∧ n ≤ 47)) : Calls Try.prog 124 #[.int .i64 n] w fun e w' => e = .returned (.bool false) ∧ w' = w := by
  have HH : Hid (¬ (0 ≤ n ∧ n ≤ 47)) := h
  clear h
  go_enter Try.func124, Try.ntmps124
  go_wp2_with fail
  refine (l1In_no _ _ _ _ HH.out).mono ?_
  rintro e w' ⟨rfl, rfl⟩
  go_wp2
  go_ret
  exact ⟨rfl, rfl⟩
set_option maxHeartbeats 400000 in
theorem isPlace_yes (n : Int) (w : World) (h1 : 0 ≤ n) (h2 : n ≤ 47) : Calls Try.prog 102 #[.int .i64 n] w fun e w' => e = .returned (.bool true) ∧ w' = w := by
  have hd : decide (n < 48) = true := by simp; omega
  go_enter Try.func102, Try.ntmps102
  go_wp2
  go_ret
  exact ⟨rfl, rfl⟩
set_option maxHeartbeats 400000 in
theorem isPlace_no (n : Int) (w : World) (h : ¬ (0 ≤ n ∧ n ≤ 47)) : Calls Try.prog 102 #[.int .i64 n] w fun e w' => e = .returned (.bool false) ∧ w' = w := by
  by_cases h1 : 0 ≤ n
  · have h2 : ¬ n < 48 := fun h3 => h ⟨h1, by omega⟩
    clear h
    go_enter Try.func102, Try.ntmps102
    go_wp2
    go_ret
    exact ⟨rfl, rfl⟩
  · clear h
    have hd : decide (0 ≤ n) = false := by simpa using h1
    go_enter Try.func102, Try.ntmps102
    go_wp2
    go_ret
    exact ⟨rfl, rfl⟩
set_option maxHeartbeats 800000 in
theorem l1Load_any (m : MV) (M : MD) (Y : Nat → Prop) (w : World) (n : Nat) (hn : n < 48) (g : M.Good) (h : MemAt Y w m M) :
    Calls Try.prog 70 #[m.val M, .int .i64 n] w fun e w' => e = .returned (.int .i64 (M.v2 (n / 4) (n % 4))) ∧ Blw w w' := by
  obtain ⟨s, c, d⟩ := h
  obtain ⟨a1, a2, a3, c1, c2, c3⟩ := m
  obtain ⟨n1, n2, n3, l1, l2, v1, v2, dd⟩ := M
  obtain ⟨q1, q2, q3, ok⟩ := g
  simp only at q1 q2 q3
  subst q1 q2 q3
  simp only [MV.val] at *
  obtain ⟨b2, o2, e2, ce2, rfl, -, g2, k2⟩ := c.2 (n / 4) (by show n / 4 < 12; omega)
  have hl : l2 (n / 4) = 4 := (ok (n / 4) (by omega)).b.1
  rw [hl] at g2 k2
  obtain ⟨b3, o3, rfl, -, g3⟩ := k2.2 (n % 4) (by omega)
  clear s c d ok k2 hl
  have hb0 : Blw w (w.alloc (.cells #[.slice a1 12 c1, .slice (some ⟨b2, o2, none⟩) 12 c2, .slice a3 12 c3] 26)) := (Blw.refl _).alloc _
  replace g2 := hb0.cell g2
  replace g3 := hb0.cell g3
  have i1 : ((n : Int) / 4) < 12 := by omega
  have i2 : ((n : Int) % 4) < 4 := by omega
  go_enter Try.func70, Try.ntmps70
  go_wp2
  go_ret
  exact ⟨rfl, hb0⟩
set_option maxHeartbeats 800000 in
theorem wordAt_any (B : Nat) (s c : Nat → Nat → Int) (d : Nat → Bool) (n : Nat) (w : World) (hn : n < 48) (r : Row w B 108 (hcell s c d)) :
    Calls Try.prog 64 #[.pointer (some ⟨B, 0, none⟩), .int .i64 n] w fun e w' => e = .returned (.int .i64 (c (n / 4) (n % 4))) ∧ w' = w := by
  have g := r.cell (i := 48 + (n / 4 * 4 + n % 4)) (by omega)
  rw [hcell_c (by omega) (by omega)] at g
  have g' : w.cell? ⟨B, 48 + n / 4 * 4 + n % 4, none⟩ = some (.int .i64 (c (n / 4) (n % 4))) := by rw [Nat.add_assoc]; exact g
  have i1 : ((n : Int) / 4) < 12 := by omega
  have i2 : ((n : Int) % 4) < 4 := by omega
  clear g r
  go_enter Try.func64, Try.ntmps64
  go_wp2
  go_ret
  exact ⟨rfl, rfl⟩
theorem held_row {w : World} {B : Nat} {cs : Array Value} {f g : Nat → Value} (h : Row w B 108 (fun i => if 0 ≤ i ∧ i < 0 + cs.size then g (i - 0) else f i)) (hl : cs.size = 108) : Row w B 108 g :=
  h.congr fun i hi => by rw [if_pos ⟨Nat.zero_le _, by rw [hl]; omega⟩, Nat.sub_zero]
set_option maxRecDepth 10000 in
set_option maxHeartbeats 1600000 in
theorem implLoad_any (m : MV) (M : MD) (Y : Nat → Prop) (w : World) (at_ : Int) (h : MemAt Y w m M) :
    Calls Try.prog 65 #[m.val M, .int .i64 at_] w fun e w' => ∃ x b, e = .returned (.tuple #[.int .i64 x, .bool b]) ∧ ldOut M at_ x b ∧ Blw w w' := by
  go_enter Try.func65, Try.ntmps65
  go_wp2_with fail
  have hb0 : Blw w (w.alloc (.cells #[.slice m.a1 M.n1 m.c1, .slice m.a2 M.n2 m.c2, .slice m.a3 M.n3 m.c3] 26)) := (Blw.refl _).alloc _
  refine (holdMemory_any m M Y _ (h.blw hb0)).mono ?_
  rintro e w1 ⟨hr, hb1⟩
  replace hb1 := hb0.trans hb1
  have r79 := row79 w1
  have zw := hb1.size
  clear h hb0
  rcases hr with ⟨good, cs, z1, z2, rfl⟩ | ⟨bad, rfl⟩
  · have hi : (Try.prog.info? 91).map (·.size) = some cs.size := by rw [z1]; exact info79
    have one := one_cells' z1 z2
    have GD : Hid M.Good := good
    clear good
    by_cases hat : 0 ≤ at_ ∧ at_ ≤ 47
    · obtain ⟨n, rfl⟩ := Int.eq_ofNat_of_zero_le hat.1
      have hn : n < 48 := by omega
      clear hat
      go_wp2_with (first | (refine wpList_store_row rfl 91 (.tmp 6) (.tmp 11) rfl w1.heap.size 0 cs rfl rfl 108 _ (hcell M.v1 M.v2 M.d) r79 (by omega) hi one (fun j hj => z2 j (by omega)) ?_; intro wz qz1 qz2 qz3) | (go_at_call 102; refine (isPlace_yes _ _ (by omega) (by omega)).mono ?_; rintro e w' ⟨rfl, rfl⟩) | (go_at_call 64; refine (wordAt_any _ _ _ _ n _ hn (held_row (by assumption) z1)).mono ?_; rintro e w' ⟨rfl, rfl⟩))
      go_ret2
      exact ⟨_, true, rfl, Or.inl ⟨GD.out, n, rfl, hn, rfl, rfl⟩, Mod.blw (hb1.alloc _) (by assumption) (fun i hi => by omega)⟩
    · have HN : Hid (¬ (0 ≤ at_ ∧ at_ ≤ 47)) := hat
      clear hat
      go_wp2_with (first | (refine wpList_store_row rfl 91 (.tmp 6) (.tmp 11) rfl w1.heap.size 0 cs rfl rfl 108 _ (hcell M.v1 M.v2 M.d) r79 (by omega) hi one (fun j hj => z2 j (by omega)) ?_; intro wz qz1 qz2 qz3) | (go_at_call 102; refine (isPlace_no _ _ HN.out).mono ?_; rintro e w' ⟨rfl, rfl⟩))
      go_ret2
      exact ⟨0, false, rfl, Or.inr ⟨fun g => HN.out g.2, rfl, rfl⟩, Mod.blw (hb1.alloc _) (by assumption) (fun i hi => by omega)⟩
  · have GD : Hid (¬ M.Good) := bad
    clear bad
    go_wp2_with (refine wpList_store_row rfl 91 (.tmp 6) (.tmp 11) rfl w1.heap.size 0 Try.zeroCells91 rfl rfl 108 _ (hcell zeros zeros (fun _ => false)) r79 (by rw [size79]; omega) (by rw [size79]; exact info79) one79 cell79 ?_; intro wz qz1 qz2 qz3)
    go_ret2
    exact ⟨0, false, rfl, Or.inr ⟨fun g => GD.out g.1, rfl, rfl⟩, Mod.blw (hb1.alloc _) (by assumption) (fun i hi => by omega)⟩
end Go.Proofs.Ytglllnklcnlcjaa
