/- Two timers compared by time, then by Id. -/
import Derived.Test.YtkmkidahaagbpaaSml
import Derived.Test.YtkmkidahaagbpaaSrt
import Derived.Sort.Grow
import Derived.Shelf.SlSortCmp.WholeK
namespace Go.Proofs.Ytkmkidahaagbpaa
open Go.RowKit Go.Sort
set_option linter.unusedSimpArgs false
set_option linter.unusedVariables false
set_option maxHeartbeats 1600000 in
theorem orI_any (a b : Int) (B : Nat) (w : World) (h0 : w.cell? ⟨B, 0, none⟩ = some (.int .i64 a)) (h1 : w.cell? ⟨B, 1, none⟩ = some (.int .i64 b)) :
    Calls Try.prog 87 #[.slice (some ⟨B, 0, none⟩) 2 2] w fun e w' => e = .returned (.int .i64 (if a = 0 then b else a)) ∧ w' = w := by
  go_enter Try.func87, Try.ntmps87
  go_upto_region 3 with fail
  go_loopw [8] (fun i wr => ∃ k : Nat, k ≤ 2 ∧ i = .int .i64 k ∧ Hid (wr = w ∧ (1 ≤ k → a = 0) ∧ (2 ≤ k → b = 0))) (fun i _ => 2 - (intOf i).toNat)
  case atStart => exact ⟨0, by omega, rfl, ⟨rfl, by omega, by omega⟩⟩
  case round =>
    rename World => wr
    obtain ⟨k, hk, rfl, hE⟩ := hrel
    obtain ⟨hw, ha, hb⟩ := hE.out
    clear hE
    subst hw
    by_cases hk0 : k = 0
    · subst hk0
      clear h1 ha hb
      by_cases hz : a = 0
      · have hz1 : (a != 0) = false := by simp [hz]
        go_wp2_with fail
        go_roundw
        case rel => exact ⟨1, by omega, by go_num, ⟨trivial, fun _ => hz, by omega⟩⟩
        case measure => simp [intOf]
      · have hz1 : (a != 0) = true := by simp [hz]
        go_wp2_with fail
        go_ret
        exact ⟨by first | rfl | (rw [if_neg hz]; rfl), rfl⟩
    · by_cases hk1 : k = 1
      · subst hk1
        have ha0 := ha (by omega)
        clear h0 ha hb
        by_cases hz : b = 0
        · have hz1 : (b != 0) = false := by simp [hz]
          go_wp2_with fail
          go_roundw
          case rel => exact ⟨2, by omega, by go_num, ⟨trivial, fun _ => ha0, fun _ => hz⟩⟩
          case measure => simp [intOf]
        · have hz1 : (b != 0) = true := by simp [hz]
          go_wp2_with fail
          go_ret
          exact ⟨by first | rfl | (rw [if_pos ha0]; rfl), rfl⟩
      · obtain rfl : k = 2 := by omega
        have ha0 := ha (by omega)
        have hb0 := hb (by omega)
        clear h0 h1 ha hb
        go_wp2_with fail
        go_ret
        exact ⟨by first | rfl | (rw [if_pos ha0, hb0]; rfl) | (rw [hb0]; rfl), rfl⟩
theorem cfT_cmp (x y : Tm) : (if cmpI x.2 y.2 = 0 then cmpI x.1 y.1 else cmpI x.2 y.2) = cfT x y := rfl
set_option maxRecDepth 10000 in
set_option maxHeartbeats 1600000 in
theorem byTime_any (x y : Tm) (w : World) : Calls Try.prog 57 #[.agg #[.int .i64 x.1, .int .i64 x.2], .agg #[.int .i64 y.1, .int .i64 y.2]] w fun e w' => e = .returned (.int .i64 (cfT x y)) ∧ ∃ q os', w' = grow (w.drewN q) os' := by
  have hb1 : Blw (w.alloc (.cells #[.int .i64 x.1, .int .i64 x.2] 39)) ((w.alloc (.cells #[.int .i64 x.1, .int .i64 x.2] 39)).alloc (.cells #[.int .i64 y.1, .int .i64 y.2] 39)) := (Blw.refl _).alloc _
  have r0 := (box2 w (.int .i64 x.1) (.int .i64 x.2) 39).blw hb1
  have r1 := box2 (w.alloc (.cells #[.int .i64 x.1, .int .i64 x.2] 39)) (.int .i64 y.1) (.int .i64 y.2) 39
  rw [World.size_alloc] at r1
  obtain ⟨W1, hW1⟩ : ∃ W1, ((w.alloc (.cells #[.int .i64 x.1, .int .i64 x.2] 39)).alloc (.cells #[.int .i64 y.1, .int .i64 y.2] 39)) = W1 := ⟨_, rfl⟩
  rw [hW1] at r0 r1
  have a0 : ∀ W, Blw W1 W → W.cell? ⟨w.heap.size, 0, none⟩ = some (.int .i64 x.1) := fun W hb => (get2 (r0.blw hb)).1
  have a1 : ∀ W, Blw W1 W → W.cell? ⟨w.heap.size, 1, none⟩ = some (.int .i64 x.2) := fun W hb => (get2 (r0.blw hb)).2
  have c0 : ∀ W, Blw W1 W → W.cell? ⟨w.heap.size + 1, 0, none⟩ = some (.int .i64 y.1) := fun W hb => (get2 (r1.blw hb)).1
  have c1 : ∀ W, Blw W1 W → W.cell? ⟨w.heap.size + 1, 1, none⟩ = some (.int .i64 y.2) := fun W hb => (get2 (r1.blw hb)).2
  have hS0 : Blw W1 W1.drew := (Blw.refl _).drew
  have HOR : Hid (Calls Try.prog 87 #[.slice (some ⟨W1.heap.size, 0, none⟩) 2 2] (W1.drew.alloc (.cells #[.int .i64 (cmpI x.2 y.2), .int .i64 (cmpI x.1 y.1)] 3)) fun e w' => e = .returned (.int .i64 (cfT x y)) ∧ w' = (W1.drew.alloc (.cells #[.int .i64 (cmpI x.2 y.2), .int .i64 (cmpI x.1 y.1)] 3))) := by
    obtain ⟨q0, q1⟩ := get2 (box2 W1.drew (.int .i64 (cmpI x.2 y.2)) (.int .i64 (cmpI x.1 y.1)) 3)
    exact orI_any (cmpI x.2 y.2) (cmpI x.1 y.1) W1.heap.size _ q0 q1
  clear r0 r1 hb1
  go_enter Try.func57, Try.ntmps57
  go_upto_region 1 with fail
  try simp only [hW1]
  refine wp_region_noPanic ?_
  refine wp_region_held_drew (S := (Blw W1)) (by kernel_rfl) hS0 (fun hB => ?_)
  clear hB
  refine wpAnyH_take (i := 0) (oi := { dst := some 5, op := Op.fieldAddr 39 (Operand.tmp 2) 1, type := 0, pos := _, after := #[], guard := none }) (v := (.pointer (some ⟨w.heap.size, 1, none⟩))) rfl (by kernel_rfl) (by kernel_rfl) (by kernel_rfl) (fun _ _ _ h => h) (Or.inl ⟨by rfl, fun w' hS => by (try dsimp only at hS); go_simp⟩) hS0 ?_
  simp only [Act.put, List.setIfInBounds_toArray, List.set_cons_zero, List.set_cons_succ]
  refine wpAnyH_take (i := 2) (oi := { dst := some 7, op := Op.fieldAddr 39 (Operand.tmp 3) 1, type := 0, pos := _, after := #[], guard := none }) (v := (.pointer (some ⟨w.heap.size + 1, 1, none⟩))) rfl (by kernel_rfl) (by kernel_rfl) (by kernel_rfl) (fun _ _ _ h => h) (Or.inl ⟨by rfl, fun w' hS => by (try dsimp only at hS); go_simp⟩) hS0 ?_
  simp only [Act.put, List.setIfInBounds_toArray, List.set_cons_zero, List.set_cons_succ]
  refine wpAnyH_take (i := 5) (oi := { dst := some 10, op := Op.fieldAddr 39 (Operand.tmp 2) 0, type := 0, pos := _, after := #[], guard := none }) (v := (.pointer (some ⟨w.heap.size, 0, none⟩))) rfl (by kernel_rfl) (by kernel_rfl) (by kernel_rfl) (fun _ _ _ h => h) (Or.inl ⟨by rfl, fun w' hS => by (try dsimp only at hS); go_simp⟩) hS0 ?_
  simp only [Act.put, List.setIfInBounds_toArray, List.set_cons_zero, List.set_cons_succ]
  refine wpAnyH_take (i := 7) (oi := { dst := some 12, op := Op.fieldAddr 39 (Operand.tmp 3) 0, type := 0, pos := _, after := #[], guard := none }) (v := (.pointer (some ⟨w.heap.size + 1, 0, none⟩))) rfl (by kernel_rfl) (by kernel_rfl) (by kernel_rfl) (fun _ _ _ h => h) (Or.inl ⟨by rfl, fun w' hS => by (try dsimp only at hS); go_simp⟩) hS0 ?_
  simp only [Act.put, List.setIfInBounds_toArray, List.set_cons_zero, List.set_cons_succ]
  refine wpAnyH_take (i := 1) (oi := { dst := some 6, op := Op.load 3 (Operand.tmp 5), type := 3, pos := _, after := #[{ on := 0, ground := Ground.data }], guard := none }) (v := (.int .i64 x.2)) rfl (by kernel_rfl) (by kernel_rfl) (by kernel_rfl) (fun _ _ _ h => h) (Or.inl ⟨by rfl, fun w' hS => by (try dsimp only at hS); go_simp⟩) hS0 ?_
  simp only [Act.put, List.setIfInBounds_toArray, List.set_cons_zero, List.set_cons_succ]
  refine wpAnyH_take (i := 3) (oi := { dst := some 8, op := Op.load 3 (Operand.tmp 7), type := 3, pos := _, after := #[{ on := 2, ground := Ground.data }], guard := none }) (v := (.int .i64 y.2)) rfl (by kernel_rfl) (by kernel_rfl) (by kernel_rfl) (fun _ _ _ h => h) (Or.inl ⟨by rfl, fun w' hS => by (try dsimp only at hS); go_simp⟩) hS0 ?_
  simp only [Act.put, List.setIfInBounds_toArray, List.set_cons_zero, List.set_cons_succ]
  refine wpAnyH_take (i := 6) (oi := { dst := some 11, op := Op.load 3 (Operand.tmp 10), type := 3, pos := _, after := #[{ on := 5, ground := Ground.data }], guard := none }) (v := (.int .i64 x.1)) rfl (by kernel_rfl) (by kernel_rfl) (by kernel_rfl) (fun _ _ _ h => h) (Or.inl ⟨by rfl, fun w' hS => by (try dsimp only at hS); go_simp⟩) hS0 ?_
  simp only [Act.put, List.setIfInBounds_toArray, List.set_cons_zero, List.set_cons_succ]
  refine wpAnyH_take (i := 8) (oi := { dst := some 13, op := Op.load 3 (Operand.tmp 12), type := 3, pos := _, after := #[{ on := 7, ground := Ground.data }], guard := none }) (v := (.int .i64 y.1)) rfl (by kernel_rfl) (by kernel_rfl) (by kernel_rfl) (fun _ _ _ h => h) (Or.inl ⟨by rfl, fun w' hS => by (try dsimp only at hS); go_simp⟩) hS0 ?_
  simp only [Act.put, List.setIfInBounds_toArray, List.set_cons_zero, List.set_cons_succ]
  refine wpAnyH_ready (rs := [4]) (by kernel_rfl) (by simp) ?_
  refine AllReadyH.cons (o := { dst := some 9, op := Op.call { callee := Callee.value (Operand.func 88), args := #[Operand.tmp 6, Operand.tmp 8], argTypes := #[3, 3] }, type := 3, pos := _, after := #[{ on := 1, ground := Ground.data }, { on := 3, ground := Ground.data }], guard := none }) rfl (fun K hK => ?_) AllReadyH.nil
  go_simp
  refine (cmp_any _ _ _).mono ?_
  rintro e w4 ⟨rfl, rfl⟩
  refine hK.out _ _ hS0 (fun hB => ?_)
  clear hK K hB
  try simp only [Act.put, List.setIfInBounds_toArray, List.set_cons_zero, List.set_cons_succ]
  refine wpAnyH_ready (rs := [9]) (by kernel_rfl) (by simp) ?_
  refine AllReadyH.cons (o := { dst := some 14, op := Op.call { callee := Callee.value (Operand.func 88), args := #[Operand.tmp 11, Operand.tmp 13], argTypes := #[3, 3] }, type := 3, pos := _, after := #[{ on := 6, ground := Ground.data }, { on := 8, ground := Ground.data }, { on := 4, ground := Ground.chain }], guard := none }) rfl (fun K hK => ?_) AllReadyH.nil
  go_simp
  refine (cmp_any _ _ _).mono ?_
  rintro e w9 ⟨rfl, rfl⟩
  refine hK.out _ _ hS0 (fun hB => ?_)
  clear hK K hB
  try simp only [Act.put, List.setIfInBounds_toArray, List.set_cons_zero, List.set_cons_succ]
  refine wpAnyH_ready (rs := [10]) (by kernel_rfl) (by simp) ?_
  refine AllReadyH.cons (o := { dst := some 15, op := Op.buildSlice 28 2 #[(0, Operand.tmp 9), (1, Operand.tmp 14)], type := 28, pos := _, after := #[{ on := 4, ground := Ground.data }, { on := 9, ground := Ground.data }], guard := none }) rfl (fun K hK => ?_) AllReadyH.nil
  go_simp
  refine hK.out _ _ (hS0.alloc _) (fun hB => ?_)
  clear hK K hB
  try simp only [Act.put, List.setIfInBounds_toArray, List.set_cons_zero, List.set_cons_succ]
  refine wpAnyH_ready (rs := [11]) (by kernel_rfl) (by simp) ?_
  refine AllReadyH.cons (o := { dst := some 16, op := Op.call { callee := Callee.value (Operand.func 87), args := #[Operand.tmp 15], argTypes := #[28] }, type := 3, pos := _, after := #[{ on := 10, ground := Ground.data }, { on := 9, ground := Ground.chain }], guard := none }) rfl (fun K hK => ?_) AllReadyH.nil
  go_simp
  refine HOR.out.mono ?_
  rintro e w11 ⟨rfl, rfl⟩
  refine hK.out _ _ (hS0.alloc _) (fun hB => ?_)
  clear hK K hB
  try simp only [Act.put, List.setIfInBounds_toArray, List.set_cons_zero, List.set_cons_succ]
  refine wpAnyH_take (i := 12) (oi := { dst := some 4, op := Op.assign (Operand.tmp 16), type := 3, pos := _, after := #[{ on := 11, ground := Ground.data }, { on := 11, ground := Ground.chain }, { on := 0, ground := Ground.phase }, { on := 1, ground := Ground.phase }, { on := 2, ground := Ground.phase }, { on := 3, ground := Ground.phase }, { on := 4, ground := Ground.phase }, { on := 5, ground := Ground.phase }, { on := 6, ground := Ground.phase }, { on := 7, ground := Ground.phase }, { on := 8, ground := Ground.phase }, { on := 9, ground := Ground.phase }, { on := 10, ground := Ground.phase }, { on := 11, ground := Ground.phase }], guard := none }) (v := (.int .i64 (cfT x y))) rfl (by kernel_rfl) (by kernel_rfl) (by kernel_rfl) (fun _ _ _ h => h) (Or.inl ⟨by rfl, fun w' hS => by (try dsimp only at hS); go_simp⟩) (hS0.alloc _) ?_
  simp only [Act.put, List.setIfInBounds_toArray, List.set_cons_zero, List.set_cons_succ]
  refine wpAnyH_done (by kernel_rfl) ?_ _
  refine NoPanic.normal ?_
  go_wp2_with fail
  go_ret
  exact ⟨rfl, 1, _, by rw [← hW1, alloc_eq_grow, alloc_eq_grow, alloc_eq_grow, grow_grow, drew_grow, grow_grow]; rfl⟩
end Go.Proofs.Ytkmkidahaagbpaa
