/- slices.Delete of one timer. -/
import Derived.Test.YtkmkidahaagbpaaSa
import Derived.Test.YtkmkidahaagbpaaHw
import Derived.ArgAppend
namespace Go.Proofs.Ytkmkidahaagbpaa
open Go.RowKit
set_option linter.unusedSimpArgs false
set_option linter.unusedVariables false
theorem RowE.set {w : World} {b n : Nat} {t : TypeId} {f : Nat → Value} (h : RowE w b t n f) (i : Nat) (v : Value) : RowE (w.setCell ⟨b, i, none⟩ v) b t n (fun j => if j = i then v else f j) := by
  obtain ⟨c, hb, hn, hc⟩ := h
  refine ⟨c.setIfInBounds i v, ?_, by simpa using hn, fun j hj => ?_⟩
  · simp [World.setCell, Array.getElem?_modify, hb]
  · rw [Array.getElem?_setIfInBounds]
    by_cases e : j = i
    · subst e
      simp [hn, hj]
    · rw [if_neg (fun h => e h.symm)]
      show c[j]? = some (if j = i then v else f j)
      rw [if_neg e]
      exact hc j hj
theorem RowE.setCells {b n : Nat} {t : TypeId} (l : List Value) : ∀ (k : Nat) (w : World) (f : Nat → Value), RowE w b t n f → RowE (w.setCells b k l) b t n (fun i => if k ≤ i ∧ i < k + l.length then l.getD (i - k) default else f i) ∧ Mod (fun x => x = b) w (w.setCells b k l) := by
  induction l with
  | nil => intro k w f h; exact ⟨h.congr (fun i _ => by rw [if_neg (by simp only [List.length_nil]; omega)]), Mod.refl _ _⟩
  | cons v l ih =>
    intro k w f h
    have hm : Mod (fun x => x = b) w (w.setCell ⟨b, k, none⟩ v) := Mod.setCell (X := fun x => x = b) _ (p := ⟨b, k, none⟩) rfl _
    obtain ⟨h1, h2⟩ := ih (k + 1) (w.setCell ⟨b, k, none⟩ v) _ (h.set k v)
    refine ⟨h1.congr (fun i hi => ?_), hm.trans h2⟩
    by_cases e : i = k
    · subst e
      rw [if_neg (by omega), if_pos rfl, if_pos ⟨Nat.le_refl _, by simp⟩]
      simp
    · by_cases e2 : k + 1 ≤ i ∧ i < k + 1 + l.length
      · rw [if_pos e2, if_pos ⟨by omega, by simp only [List.length_cons]; omega⟩, show i - k = (i - (k + 1)) + 1 by omega]
        simp
      · rw [if_neg e2, if_neg e, if_neg (by simp only [List.length_cons]; omega)]
theorem clear_one (g o c : Nat) (w : World) (h0 : (w.cell? ⟨g, o, none⟩).isSome = true) (h1 : (w.cell? ⟨g, o + 1, none⟩).isSome = true) (f0 : w.frozen? ⟨g, o, none⟩ = false) (f1 : w.frozen? ⟨g, o + 1, none⟩ = false) (ty : TypeId) :
    (Builtin.clear_ #[31] ty #[.slice (some ⟨g, o, none⟩) 1 c]).run Try.prog w = .ok (.tuple #[]) (w.setCells g o [.int .i64 0, .int .i64 0]) := by
  obtain ⟨i0, hi0, hz0, hz1, hz2⟩ := info_parts tmInfo
  have hv : ∀ w, (zeroValue 39).run Try.prog w = .ok (.agg #[.int .i64 0, .int .i64 0]) w := fun w => by simp [zeroValue, typeInfo, hi0, hz0]
  have hzc : (Builtin.zeroCells (Value.agg #[.int .i64 0, .int .i64 0]).cells 1).toList = [.int .i64 0, .int .i64 0] := by
    apply List.ext_getElem?
    intro i
    rw [Array.getElem?_toList]
    show (Builtin.zeroCells #[.int .i64 0, .int .i64 0] 1)[i]? = _
    by_cases hi : i < 2
    · rw [zc_get _ _ _ (by omega)]
      have hi2 : i = 0 ∨ i = 1 := by omega
      rcases hi2 with rfl | rfl <;> rfl
    · rw [Array.getElem?_eq_none (by rw [zc_size]; omega), List.getElem?_eq_none (by simp; omega)]
  have hst := run_storeCells_cells (P := Try.prog) g o [.int .i64 0, .int .i64 0] 0 w (by
    intro j hj
    have hj2 : j = 0 ∨ j = 1 := by simp at hj; omega
    rcases hj2 with rfl | rfl
    · simpa using h0
    · simpa using h1) (by
    intro j hj
    have hj2 : j = 0 ∨ j = 1 := by simp at hj; omega
    rcases hj2 with rfl | rfl
    · simpa using f0
    · simpa using f1) (by intro v hv; simp at hv; subst hv; rfl)
  simp only [Nat.add_zero] at hst
  simp [Builtin.clear_, run_underlying Try.underlying31, hv, hzc, hst]
theorem nth_del (l : List Tm) (p j : Nat) (hp : p < l.length) (hj : j < l.length - 1) : nth (l.take p ++ l.drop (p + 1)) j = if j < p then nth l j else nth l (j + 1) := by
  have hlen : (l.take p ++ l.drop (p + 1)).length = l.length - 1 := by simp; omega
  have ht : (l.take p).length = p := by simp; omega
  rw [nth_get (by omega)]
  split
  · rw [nth_get (by omega), List.getElem_append_left (by omega)]; simp
  · rw [nth_get (by omega), List.getElem_append_right (by omega)]
    simp only [List.getElem_drop, ht]
    congr 1; omega
set_option maxHeartbeats 1600000 in
set_option maxRecDepth 100000 in
theorem delete_at (g n c p : Nat) (f : Nat → Value) (w : World) (hp : p < n) (hnc : n ≤ c) (hc : c ≤ maxLen) (hr : RowE w g 39 (c * 2) f) (h1 : ∀ j, j < n * 2 → (f j).oneCell' = true) :
    Calls Try.prog 91 #[.slice (some ⟨g, 0, none⟩) n c, .int .i64 p, .int .i64 ((p : Int) + 1)] w fun e w' => e = .returned (.slice (some ⟨g, 0, none⟩) (n - 1) c) ∧
      (∃ f', RowE w' g 39 (c * 2) f' ∧ ∀ j, j < (n - 1) * 2 → f' j = if j < p * 2 then f j else f (j + 2)) ∧ Mod (fun b => b = g) w w' := by
  have hc63 : c ≤ 9223372036854775807 := by unfold maxLen at hc; omega
  by_cases hcp : c = p + 1
  · obtain rfl : n = p + 1 := by omega
    subst hcp
    rw [Nat.add_sub_cancel]
    obtain ⟨i0, hi0, hz0, hz1, hz2⟩ := info_parts tmInfo
    have hrow := hr.row
    have hrun : (Builtin.append_ #[31, 31] 31 #[.slice (some ⟨g, 0, none⟩) p (p + 1), .slice (some ⟨g, 0, none⟩) 0 0]).run Try.prog w.drew = .ok (.slice (some ⟨g, 0, none⟩) (p + 0) (p + 1)) (w.drew.setCells g (p * 2) ((List.range (0 * 2)).map (fun j => f ((p + 1) * 2 + j)))) := by
      have hrd : RowE w.drew g 39 ((p + 1) * 2) f := hr.of_block rfl
      have h9 := run_append_room_cells (P := Try.prog) w.drew 31 31 39 i0 Try.underlying31 hi0 g 0 p (p + 1) ⟨g, 0, none⟩ (0) 0 ((List.range (0 * 2)).map (fun j => f ((p + 1) * 2 + j))) (by rw [hz1]; simp)
        (fun j u hu => by
          have hj : j < 0 * 2 := by have h8 := (List.getElem?_eq_some_iff.1 hu).1; simp at h8
          rw [Addr.add_lit]
          rw [List.getElem?_map, List.getElem?_range hj] at hu
          simp only [Option.map_some, Option.some.injEq] at hu
          subst hu
          try (exfalso; omega)
          try exact hrd.row.cell (by omega))
        (fun u hu => by
          obtain ⟨j, hj, rfl⟩ := List.mem_map.1 hu
          exact h1 _ (by have := List.mem_range.1 hj; omega))
        (by omega) (fun j hj => by
          have hj2 : j < 0 * 2 := by simp at hj
          rw [hz1, hrd.row.cell (by omega)]; rfl) (fun j hj => hrd.row.frozen _)
      rw [hz1, Nat.zero_add] at h9
      exact h9
    obtain ⟨r1, m1⟩ := RowE.setCells ((List.range (0 * 2)).map (fun j => f ((p + 1) * 2 + j))) (p * 2) w.drew f (hr.of_block rfl)
    obtain ⟨w1, hw1⟩ : ∃ w1, w.drew.setCells g (p * 2) ((List.range (0 * 2)).map (fun j => f ((p + 1) * 2 + j))) = w1 := ⟨_, rfl⟩
    rw [hw1] at hrun r1 m1
    have hpl : p + 0 = p := by omega
    rw [hpl] at hrun
    have hcl := clear_one g (p * 2) 1 w1 (by rw [r1.row.cell (by omega)]; rfl) (by rw [r1.row.cell (by omega)]; rfl) (r1.row.frozen _) (r1.row.frozen _)
    obtain ⟨r2, m2⟩ := RowE.setCells [.int .i64 0, .int .i64 0] (p * 2) w1 _ r1
    obtain ⟨w2, hw2⟩ : ∃ w2, w1.setCells g (p * 2) [.int .i64 0, .int .i64 0] = w2 := ⟨_, rfl⟩
    rw [hw2] at r2 m2
    simp only [hw2] at hcl
    have HE : Hid ((∃ f', RowE w2 g 39 ((p + 1) * 2) f' ∧ ∀ j, j < p * 2 → f' j = if j < p * 2 then f j else f (j + 2)) ∧ Mod (fun b => b = g) w w2) := by
      refine ⟨⟨_, r2, fun j hj => ?_⟩, ((Blw.refl w).drew.mod _).trans (m1.trans m2)⟩
      rw [if_neg (by omega)]
      by_cases e1 : j < p * 2
      · rw [if_neg (by omega), if_pos e1]
      · rw [if_pos ⟨by omega, by simp; omega⟩, if_neg e1]
        have hjj : j - p * 2 < 0 * 2 := by omega
        simp only [List.getD_eq_getElem?_getD, List.getElem?_map, List.getElem?_range hjj, Option.map_some, Option.getD_some]
        congr 1; omega
    have hn1 : (0 : Int) ≤ (p : Int) + 1 := by omega
    have hn2 : (p : Int) + 1 ≤ ((p + 1) : Int) := by omega
    have hn3 : ¬ ((p : Int) = (p : Int) + 1) := by omega
    have hn4 : ((p : Int) + 1).toNat = p + 1 := by omega
    have hn5 : ((p + 1) : Int) ≤ ((p + 1) : Int) := by omega
    have hn6 : (p : Int) ≤ (p : Int) + 1 := by omega
    have hn7 : (p : Int) ≤ ((p + 1) : Int) := by omega
    have hn11 : ¬ ((p + 1) = p) := by omega
    have hn12 : p ≤ (p + 1) := by omega
    have hn13 : (p + 1) ≤ (p + 1) := by omega
    have hn14 : p + 1 ≤ (p + 1) := by omega
    have mixed : Try.prog.follows .mixedOrders = true := by kernel_rfl
    clear r1 m1 r2 m2 hr h1 hw1 hw2 hi0 hz0 hz1 hz2 hrow hpl
    go_enter Try.func91, Try.ntmps91
    go_upto_region 5 with fail
    go_region_law_o (refine step_append_run rfl _ _ 31 rfl _ _ (by simp [Act.eval, Act.put]) (by simp [Act.eval, Act.put]) hrun ?_)
    go_wp2_with fail
    go_ret
    exact ⟨rfl, HE.out⟩
  · have hcp2 : ¬ (c = p + 1) := hcp
    obtain ⟨i0, hi0, hz0, hz1, hz2⟩ := info_parts tmInfo
    have hrow := hr.row
    have hrun : (Builtin.append_ #[31, 31] 31 #[.slice (some ⟨g, 0, none⟩) p c, .slice (some ⟨g, ((p + 1) * 2), none⟩) (n - (p + 1)) (c - (p + 1))]).run Try.prog w.drew = .ok (.slice (some ⟨g, 0, none⟩) (p + (n - (p + 1))) c) (w.drew.setCells g (p * 2) ((List.range ((n - (p + 1)) * 2)).map (fun j => f ((p + 1) * 2 + j)))) := by
      have hrd : RowE w.drew g 39 (c * 2) f := hr.of_block rfl
      have h9 := run_append_room_cells (P := Try.prog) w.drew 31 31 39 i0 Try.underlying31 hi0 g 0 p c ⟨g, ((p + 1) * 2), none⟩ (n - (p + 1)) (c - (p + 1)) ((List.range ((n - (p + 1)) * 2)).map (fun j => f ((p + 1) * 2 + j))) (by rw [hz1]; simp)
        (fun j u hu => by
          have hj : j < (n - (p + 1)) * 2 := by have := (List.getElem?_eq_some_iff.1 hu).1; simpa using this
          rw [Addr.add_lit]
          rw [List.getElem?_map, List.getElem?_range hj] at hu
          simp only [Option.map_some, Option.some.injEq] at hu
          subst hu
          try (exfalso; omega)
          try exact hrd.row.cell (by omega))
        (fun u hu => by
          obtain ⟨j, hj, rfl⟩ := List.mem_map.1 hu
          exact h1 _ (by have := List.mem_range.1 hj; omega))
        (by omega) (fun j hj => by
          have hj2 : j < (n - (p + 1)) * 2 := by simpa using hj
          rw [hz1, hrd.row.cell (by omega)]; rfl) (fun j hj => hrd.row.frozen _)
      rw [hz1, Nat.zero_add] at h9
      exact h9
    obtain ⟨r1, m1⟩ := RowE.setCells ((List.range ((n - (p + 1)) * 2)).map (fun j => f ((p + 1) * 2 + j))) (p * 2) w.drew f (hr.of_block rfl)
    obtain ⟨w1, hw1⟩ : ∃ w1, w.drew.setCells g (p * 2) ((List.range ((n - (p + 1)) * 2)).map (fun j => f ((p + 1) * 2 + j))) = w1 := ⟨_, rfl⟩
    rw [hw1] at hrun r1 m1
    have hpl : p + (n - (p + 1)) = n - 1 := by omega
    rw [hpl] at hrun
    have hcl := clear_one g ((n - 1) * 2) (c - (n - 1)) w1 (by rw [r1.row.cell (by omega)]; rfl) (by rw [r1.row.cell (by omega)]; rfl) (r1.row.frozen _) (r1.row.frozen _)
    obtain ⟨r2, m2⟩ := RowE.setCells [.int .i64 0, .int .i64 0] ((n - 1) * 2) w1 _ r1
    obtain ⟨w2, hw2⟩ : ∃ w2, w1.setCells g ((n - 1) * 2) [.int .i64 0, .int .i64 0] = w2 := ⟨_, rfl⟩
    rw [hw2] at r2 m2
    simp only [hw2] at hcl
    have HE : Hid ((∃ f', RowE w2 g 39 (c * 2) f' ∧ ∀ j, j < (n - 1) * 2 → f' j = if j < p * 2 then f j else f (j + 2)) ∧ Mod (fun b => b = g) w w2) := by
      refine ⟨⟨_, r2, fun j hj => ?_⟩, ((Blw.refl w).drew.mod _).trans (m1.trans m2)⟩
      rw [if_neg (by omega)]
      by_cases e1 : j < p * 2
      · rw [if_neg (by omega), if_pos e1]
      · rw [if_pos ⟨by omega, by simp; omega⟩, if_neg e1]
        have hjj : j - p * 2 < (n - (p + 1)) * 2 := by omega
        simp only [List.getD_eq_getElem?_getD, List.getElem?_map, List.getElem?_range hjj, Option.map_some, Option.getD_some]
        congr 1; omega
    have hn1 : (0 : Int) ≤ (p : Int) + 1 := by omega
    have hn2 : (p : Int) + 1 ≤ (n : Int) := by omega
    have hn3 : ¬ ((p : Int) = (p : Int) + 1) := by omega
    have hn4 : ((p : Int) + 1).toNat = p + 1 := by omega
    have hn5 : (n : Int) ≤ (c : Int) := by omega
    have hn6 : (p : Int) ≤ (p : Int) + 1 := by omega
    have hn7 : (p : Int) ≤ (c : Int) := by omega
    have hn8 : ((n - 1 : Nat) : Int) ≤ (n : Int) := by omega
    have hn9 : n - (n - 1) = 1 := by omega
    have hn10 : ¬ (c = n - 1) := by omega
    have hn11 : ¬ (c = p) := by omega
    have hn12 : p ≤ c := by omega
    have hn13 : n ≤ c := by omega
    have hn14 : p + 1 ≤ n := by omega
    have mixed : Try.prog.follows .mixedOrders = true := by kernel_rfl
    clear r1 m1 r2 m2 hr h1 hw1 hw2 hi0 hz0 hz1 hz2 hrow hpl
    go_enter Try.func91, Try.ntmps91
    go_upto_region 5 with fail
    go_region_law_o (refine step_append_run rfl _ _ 31 rfl _ _ (by simp [Act.eval, Act.put]) (by simp [Act.eval, Act.put]) hrun ?_)
    go_wp2_with fail
    go_ret
    exact ⟨rfl, HE.out⟩
theorem delete_any (g c p : Nat) (l : List Tm) (w : World) (hp : p < l.length) (hn : l.length ≤ 1048576) (X : Nat → Prop) (h : BufU X w (.slice (some ⟨g, 0, none⟩) l.length c) l.length (lf l) (la l)) :
    Calls Try.prog 91 #[.slice (some ⟨g, 0, none⟩) l.length c, .int .i64 p, .int .i64 ((p : Int) + 1)] w fun e w' => e = .returned (.slice (some ⟨g, 0, none⟩) (l.take p ++ l.drop (p + 1)).length c) ∧
      BufU (fun b => b = g) w' (.slice (some ⟨g, 0, none⟩) (l.take p ++ l.drop (p + 1)).length c) (l.take p ++ l.drop (p + 1)).length (lf (l.take p ++ l.drop (p + 1))) (la (l.take p ++ l.drop (p + 1))) ∧ Mod (fun b => b = g) w w' := by
  rcases Buf.rowE h with ⟨h0, _⟩ | ⟨g', f', h0, _, h1, h2, h3, h4⟩
  · cases h0
  · cases h0
    have hlen : (l.take p ++ l.drop (p + 1)).length = l.length - 1 := by simp; omega
    refine (delete_at g l.length c p f' w hp h1 h2 h3 (fun j hj => by rw [h4 j hj]; exact uc_one _ _ j)).mono ?_
    rintro e w' ⟨rfl, ⟨F, hF, hFe⟩, hm⟩
    rw [hlen]
    refine ⟨rfl, Buf.of_rowE hF rfl (by omega) h2 (fun i hi => ?_), hm⟩
    rw [hFe i hi]
    have h5 := nth_del l p (i / 2) hp (by omega)
    by_cases e : i < p * 2
    · rw [if_pos e, h4 i (by omega)]
      rw [if_pos (by omega)] at h5
      simp only [uc, lf, la, h5]
    · rw [if_neg e, h4 (i + 2) (by omega)]
      rw [if_neg (by omega)] at h5
      simp only [uc, lf, la, h5, show (i + 2) / 2 = i / 2 + 1 by omega, show (i + 2) % 2 = i % 2 by omega]
end Go.Proofs.Ytkmkidahaagbpaa
