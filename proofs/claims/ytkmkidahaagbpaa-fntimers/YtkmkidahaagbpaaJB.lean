/- Laid together, in this order: Bt, Ap, Shelf. -/
import Derived.Test.YtkmkidahaagbpaaSml
import Derived.Test.YtkmkidahaagbpaaSrt
import Derived.Sort.Grow
import Derived.Shelf.SlSortCmp.WholeK
import Derived.Test.YtkmkidahaagbpaaTk
import Derived.Test.YtkmkidahaagbpaaLawH
import Derived.Test.YtkmkidahaagbpaaPut
import Derived.RangeFuncBox
import Derived.Test.YtkmkidahaagbpaaProg
/- Two timers compared by time, then by Id. -/
namespace Go.Proofs.Ytkmkidahaagbpaa
open Go.RowKit Go.Sort
set_option linter.unusedSimpArgs false
set_option linter.unusedVariables false
set_option maxHeartbeats 1600000 in
theorem orI_any (a b : Int) (B : Nat) (w : World) (h0 : w.cell? ⟨B, 0, none⟩ = some (.int .i64 a)) (h1 : w.cell? ⟨B, 1, none⟩ = some (.int .i64 b)) :
    Calls Try.prog 87 #[.slice (some ⟨B, 0, none⟩) 2 2] w fun e w' => e = .returned (.int .i64 (if a = 0 then b else a)) ∧ w' = w := by
  go_enter Try.func87, Try.ntmps87
  go_upto_region 3 with fail
  go_loopw [8] (fun i wr => ∃ k : Nat, k ≤ 2 ∧ i = .int .i64 k ∧ Hid (wr = w ∧ (1 ≤ k → a = 0) ∧ (2 ≤ k → b = 0))) (fun i _ => 2 - (intOf i).toNat)
  case atStart => exact ⟨0, by omega, rfl, ⟨rfl, by omega, by omega⟩⟩
  case round =>
    rename World => wr
    obtain ⟨k, hk, rfl, hE⟩ := hrel
    obtain ⟨hw, ha, hb⟩ := hE.out
    clear hE
    subst hw
    by_cases hk0 : k = 0
    · subst hk0
      clear h1 ha hb
      by_cases hz : a = 0
      · have hz1 : (a != 0) = false := by simp [hz]
        go_wp2_with fail
        go_roundw
        case rel => exact ⟨1, by omega, by go_num, ⟨trivial, fun _ => hz, by omega⟩⟩
        case measure => simp [intOf]
      · have hz1 : (a != 0) = true := by simp [hz]
        go_wp2_with fail
        go_ret
        exact ⟨by first | rfl | (rw [if_neg hz]; rfl), rfl⟩
    · by_cases hk1 : k = 1
      · subst hk1
        have ha0 := ha (by omega)
        clear h0 ha hb
        by_cases hz : b = 0
        · have hz1 : (b != 0) = false := by simp [hz]
          go_wp2_with fail
          go_roundw
          case rel => exact ⟨2, by omega, by go_num, ⟨trivial, fun _ => ha0, fun _ => hz⟩⟩
          case measure => simp [intOf]
        · have hz1 : (b != 0) = true := by simp [hz]
          go_wp2_with fail
          go_ret
          exact ⟨by first | rfl | (rw [if_pos ha0]; rfl), rfl⟩
      · obtain rfl : k = 2 := by omega
        have ha0 := ha (by omega)
        have hb0 := hb (by omega)
        clear h0 h1 ha hb
        go_wp2_with fail
        go_ret
        exact ⟨by first | rfl | (rw [if_pos ha0, hb0]; rfl) | (rw [hb0]; rfl), rfl⟩
theorem cfT_cmp (x y : Tm) : (if cmpI x.2 y.2 = 0 then cmpI x.1 y.1 else cmpI x.2 y.2) = cfT x y := rfl
set_option maxRecDepth 10000 in
set_option maxHeartbeats 1600000 in
theorem byTime_any (x y : Tm) (w : World) : Calls Try.prog 57 #[.agg #[.int .i64 x.1, .int .i64 x.2], .agg #[.int .i64 y.1, .int .i64 y.2]] w fun e w' => e = .returned (.int .i64 (cfT x y)) ∧ ∃ q os', w' = grow (w.drewN q) os' := by
  have hb1 : Blw (w.alloc (.cells #[.int .i64 x.1, .int .i64 x.2] 39)) ((w.alloc (.cells #[.int .i64 x.1, .int .i64 x.2] 39)).alloc (.cells #[.int .i64 y.1, .int .i64 y.2] 39)) := (Blw.refl _).alloc _
  have r0 := (box2 w (.int .i64 x.1) (.int .i64 x.2) 39).blw hb1
  have r1 := box2 (w.alloc (.cells #[.int .i64 x.1, .int .i64 x.2] 39)) (.int .i64 y.1) (.int .i64 y.2) 39
  rw [World.size_alloc] at r1
  obtain ⟨W1, hW1⟩ : ∃ W1, ((w.alloc (.cells #[.int .i64 x.1, .int .i64 x.2] 39)).alloc (.cells #[.int .i64 y.1, .int .i64 y.2] 39)) = W1 := ⟨_, rfl⟩
  rw [hW1] at r0 r1
  have a0 : ∀ W, Blw W1 W → W.cell? ⟨w.heap.size, 0, none⟩ = some (.int .i64 x.1) := fun W hb => (get2 (r0.blw hb)).1
  have a1 : ∀ W, Blw W1 W → W.cell? ⟨w.heap.size, 1, none⟩ = some (.int .i64 x.2) := fun W hb => (get2 (r0.blw hb)).2
  have c0 : ∀ W, Blw W1 W → W.cell? ⟨w.heap.size + 1, 0, none⟩ = some (.int .i64 y.1) := fun W hb => (get2 (r1.blw hb)).1
  have c1 : ∀ W, Blw W1 W → W.cell? ⟨w.heap.size + 1, 1, none⟩ = some (.int .i64 y.2) := fun W hb => (get2 (r1.blw hb)).2
  have hS0 : Blw W1 W1.drew := (Blw.refl _).drew
  have HOR : Hid (Calls Try.prog 87 #[.slice (some ⟨W1.heap.size, 0, none⟩) 2 2] (W1.drew.alloc (.cells #[.int .i64 (cmpI x.2 y.2), .int .i64 (cmpI x.1 y.1)] 3)) fun e w' => e = .returned (.int .i64 (cfT x y)) ∧ w' = (W1.drew.alloc (.cells #[.int .i64 (cmpI x.2 y.2), .int .i64 (cmpI x.1 y.1)] 3))) := by
    obtain ⟨q0, q1⟩ := get2 (box2 W1.drew (.int .i64 (cmpI x.2 y.2)) (.int .i64 (cmpI x.1 y.1)) 3)
    exact orI_any (cmpI x.2 y.2) (cmpI x.1 y.1) W1.heap.size _ q0 q1
  clear r0 r1 hb1
  go_enter Try.func57, Try.ntmps57
  go_upto_region 1 with fail
  try simp only [hW1]
  refine wp_region_noPanic ?_
  refine wp_region_held_drew (S := (Blw W1)) (by kernel_rfl) hS0 (fun hB => ?_)
  clear hB
  refine wpAnyH_take (i := 0) (oi := { dst := some 5, op := Op.fieldAddr 39 (Operand.tmp 2) 1, type := 0, pos := _, after := #[], guard := none }) (v := (.pointer (some ⟨w.heap.size, 1, none⟩))) rfl (by kernel_rfl) (by kernel_rfl) (by kernel_rfl) (fun _ _ _ h => h) (Or.inl ⟨by rfl, fun w' hS => by (try dsimp only at hS); go_simp⟩) hS0 ?_
  simp only [Act.put, List.setIfInBounds_toArray, List.set_cons_zero, List.set_cons_succ]
  refine wpAnyH_take (i := 2) (oi := { dst := some 7, op := Op.fieldAddr 39 (Operand.tmp 3) 1, type := 0, pos := _, after := #[], guard := none }) (v := (.pointer (some ⟨w.heap.size + 1, 1, none⟩))) rfl (by kernel_rfl) (by kernel_rfl) (by kernel_rfl) (fun _ _ _ h => h) (Or.inl ⟨by rfl, fun w' hS => by (try dsimp only at hS); go_simp⟩) hS0 ?_
  simp only [Act.put, List.setIfInBounds_toArray, List.set_cons_zero, List.set_cons_succ]
  refine wpAnyH_take (i := 5) (oi := { dst := some 10, op := Op.fieldAddr 39 (Operand.tmp 2) 0, type := 0, pos := _, after := #[], guard := none }) (v := (.pointer (some ⟨w.heap.size, 0, none⟩))) rfl (by kernel_rfl) (by kernel_rfl) (by kernel_rfl) (fun _ _ _ h => h) (Or.inl ⟨by rfl, fun w' hS => by (try dsimp only at hS); go_simp⟩) hS0 ?_
  simp only [Act.put, List.setIfInBounds_toArray, List.set_cons_zero, List.set_cons_succ]
  refine wpAnyH_take (i := 7) (oi := { dst := some 12, op := Op.fieldAddr 39 (Operand.tmp 3) 0, type := 0, pos := _, after := #[], guard := none }) (v := (.pointer (some ⟨w.heap.size + 1, 0, none⟩))) rfl (by kernel_rfl) (by kernel_rfl) (by kernel_rfl) (fun _ _ _ h => h) (Or.inl ⟨by rfl, fun w' hS => by (try dsimp only at hS); go_simp⟩) hS0 ?_
  simp only [Act.put, List.setIfInBounds_toArray, List.set_cons_zero, List.set_cons_succ]
  refine wpAnyH_take (i := 1) (oi := { dst := some 6, op := Op.load 3 (Operand.tmp 5), type := 3, pos := _, after := #[{ on := 0, ground := Ground.data }], guard := none }) (v := (.int .i64 x.2)) rfl (by kernel_rfl) (by kernel_rfl) (by kernel_rfl) (fun _ _ _ h => h) (Or.inl ⟨by rfl, fun w' hS => by (try dsimp only at hS); go_simp⟩) hS0 ?_
  simp only [Act.put, List.setIfInBounds_toArray, List.set_cons_zero, List.set_cons_succ]
  refine wpAnyH_take (i := 3) (oi := { dst := some 8, op := Op.load 3 (Operand.tmp 7), type := 3, pos := _, after := #[{ on := 2, ground := Ground.data }], guard := none }) (v := (.int .i64 y.2)) rfl (by kernel_rfl) (by kernel_rfl) (by kernel_rfl) (fun _ _ _ h => h) (Or.inl ⟨by rfl, fun w' hS => by (try dsimp only at hS); go_simp⟩) hS0 ?_
  simp only [Act.put, List.setIfInBounds_toArray, List.set_cons_zero, List.set_cons_succ]
  refine wpAnyH_take (i := 6) (oi := { dst := some 11, op := Op.load 3 (Operand.tmp 10), type := 3, pos := _, after := #[{ on := 5, ground := Ground.data }], guard := none }) (v := (.int .i64 x.1)) rfl (by kernel_rfl) (by kernel_rfl) (by kernel_rfl) (fun _ _ _ h => h) (Or.inl ⟨by rfl, fun w' hS => by (try dsimp only at hS); go_simp⟩) hS0 ?_
  simp only [Act.put, List.setIfInBounds_toArray, List.set_cons_zero, List.set_cons_succ]
  refine wpAnyH_take (i := 8) (oi := { dst := some 13, op := Op.load 3 (Operand.tmp 12), type := 3, pos := _, after := #[{ on := 7, ground := Ground.data }], guard := none }) (v := (.int .i64 y.1)) rfl (by kernel_rfl) (by kernel_rfl) (by kernel_rfl) (fun _ _ _ h => h) (Or.inl ⟨by rfl, fun w' hS => by (try dsimp only at hS); go_simp⟩) hS0 ?_
  simp only [Act.put, List.setIfInBounds_toArray, List.set_cons_zero, List.set_cons_succ]
  refine wpAnyH_ready (rs := [4]) (by kernel_rfl) (by simp) ?_
  refine AllReadyH.cons (o := { dst := some 9, op := Op.call { callee := Callee.value (Operand.func 88), args := #[Operand.tmp 6, Operand.tmp 8], argTypes := #[3, 3] }, type := 3, pos := _, after := #[{ on := 1, ground := Ground.data }, { on := 3, ground := Ground.data }], guard := none }) rfl (fun K hK => ?_) AllReadyH.nil
  go_simp
  refine (cmp_any _ _ _).mono ?_
  rintro e w4 ⟨rfl, rfl⟩
  refine hK.out _ _ hS0 (fun hB => ?_)
  clear hK K hB
  try simp only [Act.put, List.setIfInBounds_toArray, List.set_cons_zero, List.set_cons_succ]
  refine wpAnyH_ready (rs := [9]) (by kernel_rfl) (by simp) ?_
  refine AllReadyH.cons (o := { dst := some 14, op := Op.call { callee := Callee.value (Operand.func 88), args := #[Operand.tmp 11, Operand.tmp 13], argTypes := #[3, 3] }, type := 3, pos := _, after := #[{ on := 6, ground := Ground.data }, { on := 8, ground := Ground.data }, { on := 4, ground := Ground.chain }], guard := none }) rfl (fun K hK => ?_) AllReadyH.nil
  go_simp
  refine (cmp_any _ _ _).mono ?_
  rintro e w9 ⟨rfl, rfl⟩
  refine hK.out _ _ hS0 (fun hB => ?_)
  clear hK K hB
  try simp only [Act.put, List.setIfInBounds_toArray, List.set_cons_zero, List.set_cons_succ]
  refine wpAnyH_ready (rs := [10]) (by kernel_rfl) (by simp) ?_
  refine AllReadyH.cons (o := { dst := some 15, op := Op.buildSlice 28 2 #[(0, Operand.tmp 9), (1, Operand.tmp 14)], type := 28, pos := _, after := #[{ on := 4, ground := Ground.data }, { on := 9, ground := Ground.data }], guard := none }) rfl (fun K hK => ?_) AllReadyH.nil
  go_simp
  refine hK.out _ _ (hS0.alloc _) (fun hB => ?_)
  clear hK K hB
  try simp only [Act.put, List.setIfInBounds_toArray, List.set_cons_zero, List.set_cons_succ]
  refine wpAnyH_ready (rs := [11]) (by kernel_rfl) (by simp) ?_
  refine AllReadyH.cons (o := { dst := some 16, op := Op.call { callee := Callee.value (Operand.func 87), args := #[Operand.tmp 15], argTypes := #[28] }, type := 3, pos := _, after := #[{ on := 10, ground := Ground.data }, { on := 9, ground := Ground.chain }], guard := none }) rfl (fun K hK => ?_) AllReadyH.nil
  go_simp
  refine HOR.out.mono ?_
  rintro e w11 ⟨rfl, rfl⟩
  refine hK.out _ _ (hS0.alloc _) (fun hB => ?_)
  clear hK K hB
  try simp only [Act.put, List.setIfInBounds_toArray, List.set_cons_zero, List.set_cons_succ]
  refine wpAnyH_take (i := 12) (oi := { dst := some 4, op := Op.assign (Operand.tmp 16), type := 3, pos := _, after := #[{ on := 11, ground := Ground.data }, { on := 11, ground := Ground.chain }, { on := 0, ground := Ground.phase }, { on := 1, ground := Ground.phase }, { on := 2, ground := Ground.phase }, { on := 3, ground := Ground.phase }, { on := 4, ground := Ground.phase }, { on := 5, ground := Ground.phase }, { on := 6, ground := Ground.phase }, { on := 7, ground := Ground.phase }, { on := 8, ground := Ground.phase }, { on := 9, ground := Ground.phase }, { on := 10, ground := Ground.phase }, { on := 11, ground := Ground.phase }], guard := none }) (v := (.int .i64 (cfT x y))) rfl (by kernel_rfl) (by kernel_rfl) (by kernel_rfl) (fun _ _ _ h => h) (Or.inl ⟨by rfl, fun w' hS => by (try dsimp only at hS); go_simp⟩) (hS0.alloc _) ?_
  simp only [Act.put, List.setIfInBounds_toArray, List.set_cons_zero, List.set_cons_succ]
  refine wpAnyH_done (by kernel_rfl) ?_ _
  refine NoPanic.normal ?_
  go_wp2_with fail
  go_ret
  exact ⟨rfl, 1, _, by rw [← hW1, alloc_eq_grow, alloc_eq_grow, alloc_eq_grow, grow_grow, drew_grow, grow_grow]; rfl⟩
end Go.Proofs.Ytkmkidahaagbpaa
/- The timers of an iterator gathered in a list. -/
namespace Go.Proofs.Ytkmkidahaagbpaa
open Go.RowKit Go.Shelf
attribute [local go_sem] Oper.semAt_some
set_option linter.unusedSimpArgs false
set_option linter.unusedVariables false
/-- A timer's cells. -/
def encT (x : Tm) : List Value := [.int .i64 x.1, .int .i64 x.2]
theorem flat_lst (l : List Tm) : l.flatMap encT = (List.range (l.length * 2)).map (uc (lf l) (la l)) := by
  refine List.ext_getElem? (fun i => ?_)
  have key : ∀ (l : List Tm) (i : Nat), (l.flatMap encT)[i]? = if i < l.length * 2 then some (uc (lf l) (la l) i) else none := by
    intro l
    induction l with
    | nil => intro i; simp
    | cons x l ih =>
      intro i
      match i with
      | 0 => simp [encT, uc, lf, nth]
      | 1 => simp [encT, uc, la, nth]; omega
      | i + 2 =>
        have e : ((x :: l).flatMap encT)[i + 2]? = (l.flatMap encT)[i]? := by simp [encT]
        rw [e, ih i]
        have h1 : (i + 2) % 2 = i % 2 := by omega
        have h2 : (i + 2) / 2 = i / 2 + 1 := by omega
        have h3 : uc (lf (x :: l)) (la (x :: l)) (i + 2) = uc (lf l) (la l) i := by
          simp only [uc, h1, h2, lf, la, nth_cons_succ]
        rw [h3]
        by_cases h : i < l.length * 2
        · rw [if_pos h, if_pos (by simp; omega)]
        · rw [if_neg h, if_neg (by simp; omega)]
  rw [key l i]
  by_cases h : i < l.length * 2
  · rw [if_pos h]; simp [h]
  · rw [if_neg h]; symm; rw [List.getElem?_eq_none]; simp; omega
/-- What stands between two rounds. -/
structure AI (w : World) (zb : Nat) (pre : List Tm) (W : World) : Prop where
  mod : Mod (fun b => zb ≤ b) w W
  ex : ∃ v, Boxed W zb 31 v ∧ W.ownsRow zb 39 2 v pre.length (pre.flatMap encT)
theorem AI.grown {w : World} {zb : Nat} {pre : List Tm} {A B : World} {row : Option Nat} (h : AI w zb pre A) (hz : zb ≤ w.heap.size) (hg : A.grownBy B row) (hr : ∀ r, row = some r → w.heap.size ≤ r ∧ ∃ o : Obj, A.heap[r]? = some o ∧ o.isCells = false) : AI w zb pre B := by
  obtain ⟨v, h1, h2⟩ := h.ex
  refine ⟨h.mod.trans ((grown_mod hg).mono (fun b e => by have := (hr b e).1; omega)), ?_⟩
  have h3 := holdsRow_own zb zb 31 39 2 (fun p : List Tm => p.length) (fun p => p.flatMap encT) (fun _ _ => True) pre A B row ⟨v, h1, h2, trivial⟩ hg (fun r e => (hr r e).2)
  obtain ⟨v', a, b, _⟩ := h3
  exact ⟨v', a, b⟩
theorem own_ge {w : World} {zb : Nat} {v : Value} {k : Nat} {xs : List Value} (h : w.ownsRow zb 39 2 v k xs) {i : Nat} (hi : v.ownBlock = some i) : zb ≤ i := by
  rcases h.2 with ⟨rfl, _⟩ | ⟨g, cap, cur, rfl, hb, _, _⟩
  · simp [Value.ownBlock] at hi
  · obtain rfl : g = i := by simpa [Value.ownBlock] using hi
    exact hb
set_option maxRecDepth 100000 in
set_option maxHeartbeats 3200000 in
theorem appendSeq_any (Bs nR cR : Nat) (ao : Option Addr) (R : Rws) (Y : Nat → Prop) (w : World) (hY : ∀ b, Y b → b < w.heap.size) (hBs : w.cell? ⟨Bs, 0, none⟩ = some (.slice ao nR cR)) (hp : PSAt Y w ao (pdn nR R)) (hl : (allN nR R).length ≤ 20) :
    Calls Try.prog 98 #[.slice none 0 0, .func (.func 86) #[] #[.pointer (some ⟨Bs, 0, none⟩)]] w fun e w' => ∃ a c, e = .returned (.slice a (allN nR R).length c) ∧ Hid (LB (fun b => w.heap.size ≤ b) w' a c (allN nR R) ∧ Blw w w') := by
  obtain ⟨i0, hi, hz0, hz1, hz2⟩ := info_parts uinfo69
  refine (callsIn_wide (n := 5)).1 ?_
  refine callsIn_of_wp_marks Try.func98 rfl trivial ?_ rfl
  simp only [Try.ntmps98, List.size_toArray, List.length_cons, List.length_nil, Nat.reduceAdd, Nat.reduceSub, Array.replicate_succ, Array.replicate_zero, List.push_toArray, List.append_toArray, List.nil_append, List.cons_append]
  have hb0 : Blw w (w.alloc (.cells #[.slice none 0 0] 31)) := (Blw.refl _).alloc _
  have bO := Boxed.new w 31 (.slice none 0 0)
  have hs0 : (w.alloc (.cells #[.slice none 0 0] 31)).heap.size = w.heap.size + 1 := World.size_alloc _ _
  gi_wp2
  obtain ⟨W0, hW0⟩ : ∃ W0, w.alloc (.cells #[.slice none 0 0] 31) = W0 := ⟨_, rfl⟩
  rw [hW0] at hb0 bO hs0 ⊢
  have HPS : Hid (PSAt Y W0 ao (pdn nR R)) := hp.blw hb0
  have hcB : W0.cell? ⟨Bs, 0, none⟩ = some (.slice ao nR cR) := hb0.cell hBs
  clear hW0 hp hBs
  refine wpIn_rangeFunc_ownH (α := Tm) rfl (by omega) (gf := 86) (lb := #[.pointer (some ⟨Bs, 0, none⟩)]) rfl trivial (enters_of Try.func86 (by kernel_rfl) rfl)
    (timersIn_stops Fence.wide 4 trivial rfl (by omega) Bs (fun b => w.heap.size ≤ b) Y _ nR cR R W0 (fun b hb hb2 => by have := hY b hb; omega) (fun b hb => by have := hY b hb; omega) hcB HPS.out)
    (fun h k => modK_t h k) (modK_b (fun l hl => by omega)) (Below.refl _ _) (fun _ => rfl)
    (fun pre W => AI W0 w.heap.size pre W)
    (fun _ _ _ => False)
    (fun s A B row hs hg hr => hs.grown (by omega) hg hr)
    (fun _ _ _ _ _ hs _ _ => hs)
    ⟨Mod.refl _ _, _, bO, World.ownsRow_nil _ _ _ _⟩
    (fun x a' W => ∃ Bx, W.cell? ⟨Bx, 0, none⟩ = some (.int .i64 x.1) ∧ W.cell? ⟨Bx, 1, none⟩ = some (.int .i64 x.2) ∧ a' = { tmps := #[.slice none 0 0, .func (.func 86) #[] #[.pointer (some ⟨Bs, 0, none⟩)], .pointer (some ⟨w.heap.size, 0, none⟩), undef, .slice none 0 0, .pointer (some ⟨Bx, 0, none⟩), .func (.func 86) #[] #[.pointer (some ⟨Bs, 0, none⟩)], .agg #[.int .i64 x.1, .int .i64 x.2], undef, undef, undef, undef, undef], defers := [] })
    (fun x a' s A B row hs hg hr => by
      obtain ⟨Bx, h1, h2, h3⟩ := hs
      exact ⟨Bx, cell_kept h1 hg (fun r e => (hr r e).2), cell_kept h2 hg (fun r e => (hr r e).2), h3⟩)
    ?assign ?body ?done ?stop
  case assign =>
    intro l pre x W K hi hK
    gi_wp2
    have hbx := get2 (box2 W (.int .i64 x.1) (.int .i64 x.2) 39)
    exact hK _ _ ((KeepsOthers.alloc _ _).from _) (((Blw.refl W).alloc _).mod _) (hi.grown (by omega) (alloc_grown W _) (fun r e => by cases e)) ⟨W.heap.size, hbx.1, hbx.2, rfl⟩
  case body =>
    rintro l pre x a' W hll hr0 hI ⟨Bx, bx0, bx1, rfl⟩ hlt
    obtain ⟨v, hv, hrow⟩ := hI.ex
    have hm := hI.mod
    have hc := hv.cell
    have hsz := hm.size
    have HL20 : Hid (pre.length ≤ 20) := by show _ ≤ _; omega
    have hnw := get2 (box2 W (.int .i64 x.1) (.int .i64 x.2) 39)
    gi_wp2_with (gi_at_builtin; refine wpListIn_append_own _ rfl _ _ 31 rfl w.heap.size 39 i0 (.agg #[.int .i64 0, .int .i64 0]) 2 16 Try.underlying31 hi hz0 hz1 hz2 rfl (by decide) _ _ _ rfl (hrow.alloc _) ⟨W.heap.size, 0, none⟩ 1 1 [.int .i64 x.1, .int .i64 x.2] rfl rfl (fun j u hj => by (match j, hj with | 0, hj => (cases hj; exact hnw.1) | 1, hj => (cases hj; exact hnw.2))) (by simp [Value.oneCell']) (by have := HL20.out; unfold maxLen; omega) (by have := HL20.out; omega) (by simp; omega) ?_; intro v' w1 hown' hgrow _; obtain ⟨g', cap', rfl⟩ := ownsRow_succ hown'; obtain ⟨hv1, hv2, hr2, hk2, hb2⟩ := hv.appended (by decide) hrow (by omega) (Nat.le_refl _) hown' hgrow; have hc1 := hv1.cell; have hf1 := hv1.frozen)
    have hmW : Mod (fun b => w.heap.size ≤ b) W (w1.setCell ⟨w.heap.size, 0, none⟩ (.slice (some ⟨g', 0, none⟩) (pre.length + 1) cap')) :=
      ((((Blw.refl W).alloc _).mod _).trans ((grown_mod hgrow).mono (fun b e => own_ge hrow e))).trans (Mod.setCell (X := fun b => w.heap.size ≤ b) _ (p := ⟨w.heap.size, 0, none⟩) (Nat.le_refl _) _)
    exact ⟨hk2.from _, hmW, hm.trans hmW, _, hv2, by simpa [encT] using hr2⟩
  case done =>
    rintro Dd xs W hD rfl hI hK
    obtain ⟨v, hv, hrow⟩ := hI.ex
    have hc := hv.cell
    have hrow2 := ownsRow_putObj hrow (.deferred none) hK rfl
    have hm := hI.mod
    have q2 : Mod (fun b => Dd = b) W (W.putObj Dd (.deferred none)) := (grown_mod (grownBy_putObj' W Dd (.deferred none))).mono (fun b e => Option.some.inj e)
    gi_wp2
    refine ⟨by simp, .inl ⟨_, _, rfl, run_takeDeferred hK, ?_⟩⟩
    have hblw : Blw w (W.putObj Dd (.deferred none)) := Mod.blw (Mod.blw hb0 hm (fun i e => e)) q2 (fun i e => by omega)
    have hown : ∃ a c, v = .slice a (allN nR R).length c := by
      rcases hrow.2 with ⟨h1, h2⟩ | ⟨g, cap, cur, h1, _⟩
      · exact ⟨none, 0, by rw [h1, h2]⟩
      · exact ⟨_, cap, h1⟩
    obtain ⟨a, c, rfl⟩ := hown
    refine ⟨_, results_tmp rfl _ _ _, a, c, rfl, ⟨?_, fun g e => own_ge hrow2 e⟩, hblw⟩
    rw [← flat_lst]
    refine ⟨hrow2.1, ?_⟩
    rcases hrow2.2 with h1 | ⟨g, cap, cur, h1, _, h3⟩
    · exact Or.inl h1
    · exact Or.inr ⟨g, cap, cur, h1, Nat.zero_le _, h3⟩
  case stop =>
    rintro D c pre W _ _ h _
    exact h.elim
end Go.Proofs.Ytkmkidahaagbpaa
/- The laying of slices.SortFunc and of what it calls at this program: the numbers, and each body as the library has it. -/
namespace Go.Proofs
open Go.Shelf
def Try.sortT_ren : Go.Shelf.Ren := ⟨fun | 6 => 85 | 15 => 100 | 14 => 99 | 28 => 115 | 29 => 116 | 20 => 107 | 21 => 108 | 22 => 109 | 23 => 110 | 24 => 111 | 25 => 112 | 26 => 113 | 27 => 114 | 46 => 118 | 47 => 119 | 48 => 120 | 49 => 121 | 50 => 122 | 57 => 124 | n => n, fun | 22 => 31 | 24 => 39 | 25 => 83 | 3 => 3 | 39 => 123 | 0 => 0 | 53 => 137 | 55 => 64 | 4 => 4 | 46 => 131 | 45 => 130 | 50 => 110 | 5 => 5 | 9 => 9 | 66 => 139 | 70 => 143 | 76 => 146 | 77 => 147 | n => n, fun | n => n⟩
theorem Try.sortT : Go.Proofs.SlLaysF0.n6 Try.prog Try.sortT_ren := {
  mixed := by kernel_rfl
  f6 := ⟨Try.f85.name, by decide, Try.func85.trans (congrArg some (by kernel_rfl))⟩
  f14 := ⟨Try.f99.name, by decide, Try.func99.trans (congrArg some (by kernel_rfl))⟩
  f15 := Try.func100.trans (congrArg some (by kernel_rfl))
  f20 := ⟨Try.f107.name, by decide, Try.func107.trans (congrArg some (by kernel_rfl))⟩
  f21 := ⟨Try.f108.name, by decide, Try.func108.trans (congrArg some (by kernel_rfl))⟩
  f22 := ⟨Try.f109.name, by decide, Try.func109.trans (congrArg some (by kernel_rfl))⟩
  f23 := ⟨Try.f110.name, by decide, Try.func110.trans (congrArg some (by kernel_rfl))⟩
  f24 := ⟨Try.f111.name, by decide, Try.func111.trans (congrArg some (by kernel_rfl))⟩
  f25 := ⟨Try.f112.name, by decide, Try.func112.trans (congrArg some (by kernel_rfl))⟩
  f26 := ⟨Try.f113.name, by decide, Try.func113.trans (congrArg some (by kernel_rfl))⟩
  f27 := ⟨Try.f114.name, by decide, Try.func114.trans (congrArg some (by kernel_rfl))⟩
  f28 := Try.func115.trans (congrArg some (by kernel_rfl))
  f29 := Try.func116.trans (congrArg some (by kernel_rfl))
  f46 := ⟨Try.f118.name, by decide, Try.func118.trans (congrArg some (by kernel_rfl))⟩
  f47 := Try.func119.trans (congrArg some (by kernel_rfl))
  f48 := Try.func120.trans (congrArg some (by kernel_rfl))
  f49 := ⟨Try.f121.name, by decide, Try.func121.trans (congrArg some (by kernel_rfl))⟩
  f50 := ⟨Try.f122.name, by decide, Try.func122.trans (congrArg some (by kernel_rfl))⟩
  f57 := ⟨Try.f124.name, by decide, Try.func124.trans (congrArg some (by kernel_rfl))⟩
  t0 := Try.underlying0
  a0 := Try.isAgg0
  z0 := Try.sizeOf0
  v0 := Try.zeroValue0
  t3 := Try.underlying3
  a3 := Try.isAgg3
  z3 := Try.sizeOf3
  v3 := Try.zeroValue3
  t4 := Try.underlying4
  a4 := Try.isAgg4
  z4 := Try.sizeOf4
  v4 := Try.zeroValue4
  t5 := Try.underlying5
  a5 := Try.isAgg5
  z5 := Try.sizeOf5
  v5 := Try.zeroValue5
  t9 := Try.underlying9
  a9 := Try.isAgg9
  z9 := Try.sizeOf9
  v9 := Try.zeroValue9
  t22 := Try.underlying31
  a22 := Try.isAgg31
  z22 := Try.sizeOf31
  v22 := Try.zeroValue31
  t25 := Try.underlying83
  a25 := Try.isAgg83
  z25 := Try.sizeOf83
  v25 := Try.zeroValue83
  t39 := Try.underlying123
  a39 := Try.isAgg123
  z39 := Try.sizeOf123
  v39 := Try.zeroValue123
  t45 := Try.underlying130
  a45 := Try.isAgg130
  z45 := Try.sizeOf130
  v45 := Try.zeroValue130
  t46 := Try.underlying131
  a46 := Try.isAgg131
  z46 := Try.sizeOf131
  v46 := Try.zeroValue131
  t50 := Try.underlying110
  a50 := Try.isAgg110
  z50 := Try.sizeOf110
  v50 := Try.zeroValue110
  t53 := Try.underlying137
  a53 := Try.isAgg137
  z53 := Try.sizeOf137
  v53 := Try.zeroValue137
  t55 := Try.underlying64
  a55 := Try.isAgg64
  z55 := Try.sizeOf64
  v55 := Try.zeroValue64
  t66 := Try.underlying139
  a66 := Try.isAgg139
  z66 := Try.sizeOf139
  v66 := Try.zeroValue139
  t70 := Try.underlying143
  a70 := Try.isAgg143
  z70 := Try.sizeOf143
  v70 := Try.zeroValue143
  t76 := Try.underlying146
  a76 := Try.isAgg146
  z76 := Try.sizeOf146
  v76 := Try.zeroValue146
  t77 := Try.underlying147
  a77 := Try.isAgg147
  z77 := Try.sizeOf147
  v77 := Try.zeroValue147 }
end Go.Proofs
