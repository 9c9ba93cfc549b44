/- A leaf that is put: the program's. -/
import Derived.Test.YtjplodenflkghaaIdle
namespace Go.Proofs.Ytjplodenflkghaa
open Go.RowKit
set_option linter.unusedSimpArgs false
set_option linter.unusedVariables false
theorem eql8_same (f g : Nat → Int) (h : isZero8 f g) (w : World) : (binOp .eql 186 (.agg (eight f g)) (.agg (eight zf zf))).run Try.prog w = .ok (.bool true) w := by
  rw [run_eql_struct, eqArr8 9999 f g zf zf w (fun a b a' b' w => pairEq 9997 a b a' b' w), (h 0 (by omega)).1, (h 0 (by omega)).2, (h 1 (by omega)).1, (h 1 (by omega)).2, (h 2 (by omega)).1, (h 2 (by omega)).2, (h 3 (by omega)).1, (h 3 (by omega)).2]
  rfl
theorem eql8_other (f g : Nat → Int) (h : ¬ isZero8 f g) (w : World) : (binOp .eql 186 (.agg (eight f g)) (.agg (eight zf zf))).run Try.prog w = .ok (.bool false) w := by
  rw [run_eql_struct, eqArr8 9999 f g zf zf w (fun a b a' b' w => pairEq 9997 a b a' b' w)]
  have : (((f 0 == zf 0) && (g 0 == zf 0)) && (((f 1 == zf 1) && (g 1 == zf 1)) && (((f 2 == zf 2) && (g 2 == zf 2)) && ((f 3 == zf 3) && (g 3 == zf 3))))) = false := by
    rw [Bool.eq_false_iff]
    intro hh
    simp at hh
    refine h fun j hj => ?_
    match j, hj with
    | 0, _ => exact hh.1
    | 1, _ => exact hh.2.1
    | 2, _ => exact hh.2.2.1
    | 3, _ => exact hh.2.2.2
  rw [this]
  rfl
theorem lc_put {w : World} {z n : Nat} {p m : Nat → Nat → Int} (r : Row w z (n * 8) (lc p m)) {q j : Nat} (hj : j < 4) (x y : Int) : Row ((w.setCell ⟨z, q * 8 + j * 2, none⟩ (.int .i64 x)).setCell ⟨z, q * 8 + j * 2 + 1, none⟩ (.int .i64 y)) z (n * 8) (lc (upd2 p q j x) (upd2 m q j y)) :=
  ((r.set (q * 8 + j * 2) _).set (q * 8 + j * 2 + 1) _).congr (fun i hi => by
    unfold lc upd2
    by_cases e1 : i = q * 8 + j * 2 + 1
    · have h1 : ¬ i % 2 = 0 := by omega
      have h2 : i / 8 = q := by omega
      have h3 : i % 8 / 2 = j := by omega
      simp only [e1, if_true]
      rw [← e1]
      simp only [h1, h2, h3, if_true, if_false, and_self]
    · by_cases e2 : i = q * 8 + j * 2
      · have h1 : i % 2 = 0 := by omega
        have h2 : i / 8 = q := by omega
        have h3 : i % 8 / 2 = j := by omega
        simp only [e1, if_false]
        simp only [e2, if_true]
        rw [← e2]
        simp only [h1, h2, h3, if_true, and_self]
      · have h3 : i % 2 = 0 → ¬ (i / 8 = q ∧ i % 8 / 2 = j) := fun a b => by omega
        have h4 : ¬ i % 2 = 0 → ¬ (i / 8 = q ∧ i % 8 / 2 = j) := fun a b => by omega
        simp only [e1, e2, if_false]
        by_cases h5 : i % 2 = 0
        · simp only [h5, h3 h5, if_true, if_false]
        · simp only [h5, h4 h5, if_false])
theorem row5_set {w : World} {z : Nat} {c : Nat → Int} {v : Value} (r : Row w z 5 (row5f c v)) {t : Nat} (ht : t < 4) (x : Int) : Row (w.setCell ⟨z, t, none⟩ (.int .i64 x)) z 5 (row5f (upd c t x) v) :=
  (r.set t _).congr (fun i hi => by
    unfold upd
    match t, ht, i, hi with
    | 0, _, 0, _ => rfl
    | 0, _, 1, _ => rfl
    | 0, _, 2, _ => rfl
    | 0, _, 3, _ => rfl
    | 0, _, 4, _ => rfl
    | 1, _, 0, _ => rfl
    | 1, _, 1, _ => rfl
    | 1, _, 2, _ => rfl
    | 1, _, 3, _ => rfl
    | 1, _, 4, _ => rfl
    | 2, _, 0, _ => rfl
    | 2, _, 1, _ => rfl
    | 2, _, 2, _ => rfl
    | 2, _, 3, _ => rfl
    | 2, _, 4, _ => rfl
    | 3, _, 0, _ => rfl
    | 3, _, 1, _ => rfl
    | 3, _, 2, _ => rfl
    | 3, _, 3, _ => rfl
    | 3, _, 4, _ => rfl)
theorem upd_self {c : Nat → Int} {t : Nat} {v : Int} (h : c t = v) : upd c t v = c := by
  funext i; unfold upd; split
  · next e => rw [e, h]
  · rfl
theorem upd_at (c : Nat → Int) (t : Nat) (v : Int) : upd c t v t = v := by unfold upd; rw [if_pos rfl]
theorem upd_upd (c : Nat → Int) (t : Nat) (v v' : Int) : upd (upd c t v) t v' = upd c t v' := by
  funext i; unfold upd; split <;> rfl
/-- The list that a leaf at top t comes into. -/
def goes (c : Nat → Int) (kn t q : Nat) : Prop := c t = (q : Int) ∨ (c t = -1 ∧ isIdle c kn q)
theorem goes_uniq {c : Nat → Int} {kn t q q' : Nat} (h : goes c kn t q) (h' : goes c kn t q') : q = q' := by
  rcases h with h | ⟨h1, h2⟩ <;> rcases h' with h' | ⟨h3, h4⟩
  · omega
  · omega
  · omega
  · exact idle_uniq h2 h4
open Classical in
noncomputable def topsOf (c : Nat → Int) (t q : Nat) (f g : Nat → Int) : Nat → Int := if isZero8 f g then upd c t (-1) else upd c t q
theorem topsOf_yes {c : Nat → Int} {t q : Nat} {f g : Nat → Int} (h : isZero8 f g) : topsOf c t q f g = upd c t (-1) := by unfold topsOf; rw [if_pos h]
theorem topsOf_no {c : Nat → Int} {t q : Nat} {f g : Nat → Int} (h : ¬ isZero8 f g) : topsOf c t q f g = upd c t q := by unfold topsOf; rw [if_neg h]
set_option maxRecDepth 10000 in
set_option maxHeartbeats 6400000 in
theorem put_any (c : Nat → Int) (zl kn : Nat) (p m : Nat → Nat → Int) (zb a : Nat) (x y : Int) (w : World) (hk : kn ≤ 4) (ht : ∀ i, i < 4 → -1 ≤ c i ∧ c i ≤ (kn : Int) - 1) (ha : a < 16) (hz : zb ≠ zl) (h5 : Row w zb 5 (row5f c (.slice (some ⟨zl, 0, none⟩) kn kn))) (hl : Row w zl (kn * 8) (lc p m)) :
    Calls Try.prog 168 #[.pointer (some ⟨zb, 0, none⟩), .int .i64 a, .agg #[.int .i64 x, .int .i64 y]] w fun e w' => ((∃ q : Nat, goes c kn (a / 4) q ∧ e = .returned (.bool true) ∧ Row w' zb 5 (row5f (topsOf c (a / 4) q (upd2 p q (a % 4) x q) (upd2 m q (a % 4) y q)) (.slice (some ⟨zl, 0, none⟩) kn kn)) ∧ Row w' zl (kn * 8) (lc (upd2 p q (a % 4) x) (upd2 m q (a % 4) y)) ∧ Mod (fun b => b = zb ∨ b = zl) w w') ∨ ((¬ ∃ q, goes c kn (a / 4) q) ∧ e = .returned (.bool false) ∧ Blw w w')) := by
  have hA : Blw w (w.alloc (.cells #[.int .i64 x, .int .i64 y] 144)) := (Blw.refl _).alloc _
  have HF : Hid (Row (w.alloc (.cells #[.int .i64 x, .int .i64 y] 144)) w.heap.size 2 (fun i => if i = 0 then .int .i64 x else .int .i64 y)) := box2 w _ _ 144
  have H5 : Hid (Row (w.alloc (.cells #[.int .i64 x, .int .i64 y] 144)) zb 5 (row5f c (.slice (some ⟨zl, 0, none⟩) kn kn))) := h5.blw hA
  have HL : Hid (Row (w.alloc (.cells #[.int .i64 x, .int .i64 y] 144)) zl (kn * 8) (lc p m)) := hl.blw hA
  have HM : Hid (Mod (fun b => b = zb ∨ b = zl) w (w.alloc (.cells #[.int .i64 x, .int .i64 y] 144))) := hA.mod _
  have HA : Hid (Blw w (w.alloc (.cells #[.int .i64 x, .int .i64 y] 144))) := hA
  have hbl := h5.lt
  have hll := hl.lt
  have hd : Int.tdiv (a : Int) 4 = ((a / 4 : Nat) : Int) := by rw [Int.tdiv_eq_ediv_of_nonneg (by omega)]; rfl
  have hr : Int.tmod (a : Int) 4 = ((a % 4 : Nat) : Int) := by rw [Int.tmod_eq_emod_of_nonneg (by omega)]; rfl
  have hd4 : a / 4 < 4 := by omega
  have hr4 : a % 4 < 4 := by omega
  have htop := ht (a / 4) hd4
  have hd4' : ((a / 4 : Nat) : Int) < 4 := by omega
  have hr4' : ((a % 4 : Nat) : Int) < 4 := by omega
  clear hA h5 hl ht
  go_enter Try.func168, Try.ntmps168
  generalize a / 4 = t at *
  generalize a % 4 = j at *
  by_cases h0 : 0 ≤ c t
  · obtain ⟨q, hq⟩ : ∃ q : Nat, c t = q := ⟨(c t).toNat, by omega⟩
    have hqk : q < kn := by omega
    have HGO : Hid (goes c kn t q) := Or.inl hq
    have dq : ((q : Int) == -1) = false := by simp
    have g1 : (w.alloc (.cells #[.int .i64 x, .int .i64 y] 144)).cell? ⟨zb, t, none⟩ = some (.int .i64 q) := by rw [row5_top H5.out hd4, hq]
    replace H5 : Hid (Row (w.alloc (.cells #[.int .i64 x, .int .i64 y] 144)) zb 5 (row5f (upd c t q) (.slice (some ⟨zl, 0, none⟩) kn kn))) := by rw [upd_self hq]; exact H5.out
    clear h0 htop hq HA
    go_upto_region 7 with fail
    clear g1 dq
    generalize w.alloc (.cells #[.int .i64 x, .int .i64 y] 144) = W at *
    have hqk' : (q : Int) < (kn : Int) := by omega
    have PT : ∀ w', Row w' zb 5 (row5f (upd c t q) (.slice (some ⟨zl, 0, none⟩) kn kn)) → w'.cell? ⟨zb, t, none⟩ = some (.int .i64 q) := fun w' hh => by rw [row5_top hh hd4, upd_at]
    have P4 : ∀ w', Row w' zb 5 (row5f (upd c t q) (.slice (some ⟨zl, 0, none⟩) kn kn)) → w'.cell? ⟨zb, 4, none⟩ = some (.slice (some ⟨zl, 0, none⟩) kn kn) := fun w' hh => (get5 hh).2.2.2.2
    replace HF : Hid (Row W.drew w.heap.size 2 (fun i => if i = 0 then .int .i64 x else .int .i64 y)) := HF.out.blw (Blw.refl _).drew
    replace H5 : Hid (Row W.drew zb 5 (row5f (upd c t q) (.slice (some ⟨zl, 0, none⟩) kn kn))) := H5.out.blw (Blw.refl _).drew
    replace HL : Hid (Row W.drew zl (kn * 8) (lc p m)) := HL.out.blw (Blw.refl _).drew
    replace HM : Hid (Mod (fun b => b = zb ∨ b = zl) w W.drew) := HM.out.trans ((Blw.refl _).drew.mod _)
    refine wp_region_noPanic ?_
    refine wp_region_held_drew (S := fun w' => Row w' zb 5 (row5f (upd c t q) (.slice (some ⟨zl, 0, none⟩) kn kn))) (by kernel_rfl) H5.out (fun hB => ?_)
    clear hB
    generalize W.drew = wd at *
    refine wpAnyH_take (i := 0) (oi := { dst := some 33, op := Op.move (Operand.tmp 0), type := 212, pos := _, after := #[], guard := none }) (v := (.pointer (some ⟨zb, 0, none⟩))) rfl (by kernel_rfl) (by kernel_rfl) (by kernel_rfl) (fun _ _ _ h => h) (Or.inl ⟨by rfl, fun w' hS => by (try dsimp only at hS); go_simp⟩) H5.out ?_
    simp only [Act.put, List.setIfInBounds_toArray, List.set_cons_zero, List.set_cons_succ]
    refine wpAnyH_take (i := 4) (oi := { dst := some 37, op := Op.move (Operand.tmp 7), type := 213, pos := _, after := #[], guard := none }) (v := (.pointer (some ⟨zb, t, none⟩))) rfl (by kernel_rfl) (by kernel_rfl) (by kernel_rfl) (fun _ _ _ h => h) (Or.inl ⟨by rfl, fun w' hS => by (try dsimp only at hS); go_simp⟩) H5.out ?_
    simp only [Act.put, List.setIfInBounds_toArray, List.set_cons_zero, List.set_cons_succ]
    refine wpAnyH_take (i := 1) (oi := { dst := some 34, op := Op.nilCheck (Operand.tmp 33), type := 0, pos := _, after := #[{ on := 0, ground := Ground.data }], guard := none }) (v := (.pointer (some ⟨zb, 0, none⟩))) rfl (by kernel_rfl) (by kernel_rfl) (by kernel_rfl) (fun _ _ _ h => h) (Or.inl ⟨by rfl, fun w' hS => by (try dsimp only at hS); go_simp⟩) H5.out ?_
    simp only [Act.put, List.setIfInBounds_toArray, List.set_cons_zero, List.set_cons_succ]
    refine wpAnyH_take (i := 5) (oi := { dst := some 38, op := Op.nilCheck (Operand.tmp 37), type := 0, pos := _, after := #[{ on := 4, ground := Ground.data }], guard := none }) (v := (.pointer (some ⟨zb, t, none⟩))) rfl (by kernel_rfl) (by kernel_rfl) (by kernel_rfl) (fun _ _ _ h => h) (Or.inl ⟨by rfl, fun w' hS => by (try dsimp only at hS); go_simp⟩) H5.out ?_
    simp only [Act.put, List.setIfInBounds_toArray, List.set_cons_zero, List.set_cons_succ]
    refine wpAnyH_take (i := 2) (oi := { dst := some 35, op := Op.fieldAddr 129 (Operand.tmp 34) 1, type := 0, pos := _, after := #[{ on := 1, ground := Ground.data }], guard := none }) (v := (.pointer (some ⟨zb, 4, none⟩))) rfl (by kernel_rfl) (by kernel_rfl) (by kernel_rfl) (fun _ _ _ h => h) (Or.inl ⟨by rfl, fun w' hS => by (try dsimp only at hS); go_simp⟩) H5.out ?_
    simp only [Act.put, List.setIfInBounds_toArray, List.set_cons_zero, List.set_cons_succ]
    refine wpAnyH_take (i := 6) (oi := { dst := some 39, op := Op.load 3 (Operand.tmp 38), type := 3, pos := _, after := #[{ on := 5, ground := Ground.data }], guard := none }) (v := (.int .i64 q)) rfl (by kernel_rfl) (by kernel_rfl) (by kernel_rfl) (fun _ _ _ h => h) (Or.inl ⟨by rfl, fun w' hS => by (try dsimp only at hS); go_simp⟩) H5.out ?_
    simp only [Act.put, List.setIfInBounds_toArray, List.set_cons_zero, List.set_cons_succ]
    refine wpAnyH_take (i := 3) (oi := { dst := some 36, op := Op.load 127 (Operand.tmp 35), type := 127, pos := _, after := #[{ on := 2, ground := Ground.data }], guard := none }) (v := (.slice (some ⟨zl, 0, none⟩) kn kn)) rfl (by kernel_rfl) (by kernel_rfl) (by kernel_rfl) (fun _ _ _ h => h) (Or.inl ⟨by rfl, fun w' hS => by (try dsimp only at hS); go_simp⟩) H5.out ?_
    simp only [Act.put, List.setIfInBounds_toArray, List.set_cons_zero, List.set_cons_succ]
    refine wpAnyH_take (i := 7) (oi := { dst := some 40, op := Op.indexAddr 127 (Operand.tmp 36) (Operand.tmp 39), type := 0, pos := _, after := #[{ on := 3, ground := Ground.data }, { on := 6, ground := Ground.data }], guard := none }) (v := (.pointer (some ⟨zl, q * 8, none⟩))) rfl (by kernel_rfl) (by kernel_rfl) (by kernel_rfl) (fun _ _ _ h => h) (Or.inl ⟨by rfl, fun w' hS => by (try dsimp only at hS); go_simp⟩) H5.out ?_
    simp only [Act.put, List.setIfInBounds_toArray, List.set_cons_zero, List.set_cons_succ]
    refine wpAnyH_take (i := 8) (oi := { dst := some 10, op := Op.assign (Operand.tmp 40), type := 216, pos := _, after := #[{ on := 7, ground := Ground.data }, { on := 0, ground := Ground.phase }, { on := 1, ground := Ground.phase }, { on := 2, ground := Ground.phase }, { on := 3, ground := Ground.phase }, { on := 4, ground := Ground.phase }, { on := 5, ground := Ground.phase }, { on := 6, ground := Ground.phase }, { on := 7, ground := Ground.phase }], guard := none }) (v := (.pointer (some ⟨zl, q * 8, none⟩))) rfl (by kernel_rfl) (by kernel_rfl) (by kernel_rfl) (fun _ _ _ h => h) (Or.inl ⟨by rfl, fun w' hS => by (try dsimp only at hS); go_simp⟩) H5.out ?_
    simp only [Act.put, List.setIfInBounds_toArray, List.set_cons_zero, List.set_cons_succ]
    refine wpAnyH_done (by kernel_rfl) ?_ _
    refine NoPanic.normal ?_
    clear PT P4
    go_upto_region 8 with fail
    replace HF : Hid (Row wd.drew w.heap.size 2 (fun i => if i = 0 then .int .i64 x else .int .i64 y)) := HF.out.blw (Blw.refl _).drew
    replace H5 : Hid (Row wd.drew zb 5 (row5f (upd c t q) (.slice (some ⟨zl, 0, none⟩) kn kn))) := H5.out.blw (Blw.refl _).drew
    replace HL : Hid (Row wd.drew zl (kn * 8) (lc p m)) := HL.out.blw (Blw.refl _).drew
    replace HM : Hid (Mod (fun b => b = zb ∨ b = zl) w wd.drew) := HM.out.trans ((Blw.refl _).drew.mod _)
    have P0 : ∀ w', Row w' w.heap.size 2 (fun i => if i = 0 then .int .i64 x else .int .i64 y) → w'.cell? ⟨w.heap.size, 0, none⟩ = some (.int .i64 x) ∧ w'.cell? ⟨w.heap.size, 1, none⟩ = some (.int .i64 y) := fun w' hh => get2 hh
    have l0 := (lc_at HL.out hqk hr4).1
    have l1 := (lc_at HL.out hqk hr4).2
    have f0 := HL.out.frozen (q * 8 + j * 2)
    have f1 := HL.out.frozen (q * 8 + j * 2 + 1)
    refine wp_region_noPanic ?_
    refine wp_region_held_drew (S := fun w' => Row w' w.heap.size 2 (fun i => if i = 0 then .int .i64 x else .int .i64 y)) (by kernel_rfl) HF.out (fun hB => ?_)
    clear hB
    generalize wd.drew = wd at *
    refine wpAnyH_take (i := 0) (oi := { dst := some 41, op := Op.move (Operand.tmp 10), type := 216, pos := _, after := #[], guard := none }) (v := (.pointer (some ⟨zl, q * 8, none⟩))) rfl (by kernel_rfl) (by kernel_rfl) (by kernel_rfl) (fun _ _ _ h => h) (Or.inl ⟨by rfl, fun w' hS => by (try dsimp only at hS); go_simp⟩) HF.out ?_
    simp only [Act.put, List.setIfInBounds_toArray, List.set_cons_zero, List.set_cons_succ]
    refine wpAnyH_take (i := 1) (oi := { dst := some 42, op := Op.move (Operand.tmp 1), type := 3, pos := _, after := #[], guard := none }) (v := (.int .i64 a)) rfl (by kernel_rfl) (by kernel_rfl) (by kernel_rfl) (fun _ _ _ h => h) (Or.inl ⟨by rfl, fun w' hS => by (try dsimp only at hS); go_simp⟩) HF.out ?_
    simp only [Act.put, List.setIfInBounds_toArray, List.set_cons_zero, List.set_cons_succ]
    refine wpAnyH_take (i := 3) (oi := { dst := some 44, op := Op.load 144 (Operand.tmp 5), type := 144, pos := _, after := #[], guard := none }) (v := (.agg #[.int .i64 x, .int .i64 y])) rfl (by kernel_rfl) (by kernel_rfl) (by kernel_rfl) (fun _ _ _ h => h) (Or.inl ⟨by rfl, fun w' hS => by (try dsimp only at hS); go_simp⟩) HF.out ?_
    simp only [Act.put, List.setIfInBounds_toArray, List.set_cons_zero, List.set_cons_succ]
    refine wpAnyH_take (i := 2) (oi := { dst := some 43, op := Op.binOp BinOp.rem 3 (Operand.tmp 42) (Operand.const (Value.int IntKind.i64 4)) 3, type := 3, pos := _, after := #[{ on := 1, ground := Ground.data }], guard := none }) (v := (.int .i64 j)) rfl (by kernel_rfl) (by kernel_rfl) (by kernel_rfl) (fun _ _ _ h => h) (Or.inl ⟨by rfl, fun w' hS => by (try dsimp only at hS); go_simp⟩) HF.out ?_
    simp only [Act.put, List.setIfInBounds_toArray, List.set_cons_zero, List.set_cons_succ]
    refine wpAnyH_take (i := 4) (oi := { dst := some 45, op := Op.nilCheck (Operand.tmp 41), type := 0, pos := _, after := #[{ on := 0, ground := Ground.data }], guard := none }) (v := (.pointer (some ⟨zl, q * 8, none⟩))) rfl (by kernel_rfl) (by kernel_rfl) (by kernel_rfl) (fun _ _ _ h => h) (Or.inl ⟨by rfl, fun w' hS => by (try dsimp only at hS); go_simp⟩) HF.out ?_
    simp only [Act.put, List.setIfInBounds_toArray, List.set_cons_zero, List.set_cons_succ]
    refine wpAnyH_take (i := 5) (oi := { dst := some 46, op := Op.indexAddr 186 (Operand.tmp 45) (Operand.tmp 43), type := 0, pos := _, after := #[{ on := 4, ground := Ground.data }, { on := 2, ground := Ground.data }, { on := 0, ground := Ground.phase }, { on := 1, ground := Ground.phase }, { on := 2, ground := Ground.phase }, { on := 3, ground := Ground.phase }], guard := none }) (v := (.pointer (some ⟨zl, q * 8 + j * 2, none⟩))) rfl (by kernel_rfl) (by kernel_rfl) (by kernel_rfl) (fun _ _ _ h => h) (Or.inl ⟨by rfl, fun w' hS => by (try dsimp only at hS); go_simp⟩) HF.out ?_
    simp only [Act.put, List.setIfInBounds_toArray, List.set_cons_zero, List.set_cons_succ]
    refine wpAnyH_ready (rs := [6]) (by kernel_rfl) (by simp) ?_
    refine AllReadyH.cons (o := { dst := none, op := Op.store 144 (Operand.tmp 46) (Operand.tmp 44), type := 0, pos := _, after := #[{ on := 5, ground := Ground.data }, { on := 3, ground := Ground.data }, { on := 0, ground := Ground.phase }, { on := 1, ground := Ground.phase }, { on := 2, ground := Ground.phase }, { on := 3, ground := Ground.phase }], guard := none }) rfl (fun K hK => ?_) AllReadyH.nil
    go_simp
    refine hK.out _ _ ((HF.out.setOther (a := ⟨zl, q * 8 + j * 2, none⟩) (by show w.heap.size ≠ zl; omega) (.int .i64 x)).setOther (a := ⟨zl, q * 8 + j * 2 + 1, none⟩) (by show w.heap.size ≠ zl; omega) (.int .i64 y)) (fun hB => ?_)
    clear hK K hB
    try simp only [Act.put, List.setIfInBounds_toArray, List.set_cons_zero, List.set_cons_succ]
    refine wpAnyH_done (by kernel_rfl) ?_ _
    refine NoPanic.normal ?_
    have hm2 : Mod (fun b => b = zb ∨ b = zl) wd ((wd.setCell ⟨zl, q * 8 + j * 2, none⟩ (.int .i64 x)).setCell ⟨zl, q * 8 + j * 2 + 1, none⟩ (.int .i64 y)) := (Mod.setCell (X := fun b => b = zb ∨ b = zl) _ (p := ⟨zl, q * 8 + j * 2, none⟩) (Or.inr rfl) _).trans (Mod.setCell (X := fun b => b = zb ∨ b = zl) _ (p := ⟨zl, q * 8 + j * 2 + 1, none⟩) (Or.inr rfl) _)
    have HL2 : Hid (Row ((wd.setCell ⟨zl, q * 8 + j * 2, none⟩ (.int .i64 x)).setCell ⟨zl, q * 8 + j * 2 + 1, none⟩ (.int .i64 y)) zl (kn * 8) (lc (upd2 p q j x) (upd2 m q j y))) := lc_put HL.out hr4 x y
    have H52 : Hid (Row ((wd.setCell ⟨zl, q * 8 + j * 2, none⟩ (.int .i64 x)).setCell ⟨zl, q * 8 + j * 2 + 1, none⟩ (.int .i64 y)) zb 5 (row5f (upd c t q) (.slice (some ⟨zl, 0, none⟩) kn kn))) := (H5.out.setOther (a := ⟨zl, q * 8 + j * 2, none⟩) hz _).setOther (a := ⟨zl, q * 8 + j * 2 + 1, none⟩) hz _
    have HM2 : Hid (Mod (fun b => b = zb ∨ b = zl) w ((wd.setCell ⟨zl, q * 8 + j * 2, none⟩ (.int .i64 x)).setCell ⟨zl, q * 8 + j * 2 + 1, none⟩ (.int .i64 y))) := HM.out.trans hm2
    clear hm2 HL H5 HM HF P0 l0 l1 f0 f1
    generalize ((wd.setCell ⟨zl, q * 8 + j * 2, none⟩ (.int .i64 x)).setCell ⟨zl, q * 8 + j * 2 + 1, none⟩ (.int .i64 y)) = W2 at *
    obtain ⟨p2, hp2⟩ : ∃ p2, p2 = upd2 p q j x := ⟨_, rfl⟩
    obtain ⟨m2, hm2⟩ : ∃ m2, m2 = upd2 m q j y := ⟨_, rfl⟩
    rw [← hp2, ← hm2] at HL2
    have HP : Hid (p2 = upd2 p q j x) := hp2
    have HQ : Hid (m2 = upd2 m q j y) := hm2
    clear hp2 hm2
    obtain ⟨q0, q1, q2, q3, q4, q5, q6, q7⟩ := lc8 HL2.out hqk
    have g1 : W2.cell? ⟨zb, t, none⟩ = some (.int .i64 q) := by rw [row5_top H52.out hd4, upd_at]
    have f1 := H52.out.frozen t
    by_cases hzz : isZero8 (p2 q) (m2 q)
    · have hne := eql8_same (p2 q) (m2 q) hzz
      have HZZ : Hid (isZero8 (p2 q) (m2 q)) := hzz
      have H53 : Hid (Row (W2.setCell ⟨zb, t, none⟩ (.int .i64 (-1))) zb 5 (row5f (upd c t (-1)) (.slice (some ⟨zl, 0, none⟩) kn kn))) := by have := row5_set H52.out hd4 (-1); rw [upd_upd] at this; exact this
      have HL3 : Hid (Row (W2.setCell ⟨zb, t, none⟩ (.int .i64 (-1))) zl (kn * 8) (lc p2 m2)) := HL2.out.setOther (a := ⟨zb, t, none⟩) (fun e => hz e.symm) _
      have HM3 : Hid (Mod (fun b => b = zb ∨ b = zl) w (W2.setCell ⟨zb, t, none⟩ (.int .i64 (-1)))) := HM2.out.trans (Mod.setCell (X := fun b => b = zb ∨ b = zl) _ (p := ⟨zb, t, none⟩) (Or.inl rfl) _)
      clear hzz HL2 H52 HM2
      go_wp2
      exact bodyPost_ret (v := .bool true) (by simp [results, Try.results168, go_sem]) rfl (Or.inl ⟨q, HGO.out, rfl, by rw [← HP.out, ← HQ.out, topsOf_yes HZZ.out]; exact H53.out, by rw [← HP.out, ← HQ.out]; exact HL3.out, HM3.out⟩)
    · have hne := eql8_other (p2 q) (m2 q) hzz
      have HZZ : Hid (¬ isZero8 (p2 q) (m2 q)) := hzz
      clear hzz
      go_wp2
      exact bodyPost_ret (v := .bool true) (by simp [results, Try.results168, go_sem]) rfl (Or.inl ⟨q, HGO.out, rfl, by rw [← HP.out, ← HQ.out, topsOf_no HZZ.out]; exact H52.out, by rw [← HP.out, ← HQ.out]; exact HL2.out, HM2.out⟩)
  · have hc : c t = -1 := by omega
    have g1 : (w.alloc (.cells #[.int .i64 x, .int .i64 y] 144)).cell? ⟨zb, t, none⟩ = some (.int .i64 (-1)) := by rw [row5_top H5.out hd4, hc]
    have HC : Hid (c t = -1) := hc
    obtain ⟨p0, p1, p2, p3, p4⟩ := get5 H5.out
    clear h0 htop hc
    go_wp2_with fail
    clear g1 p0 p1 p2 p3 p4
    refine (idle_any c zl kn _ hk).mono ?_
    rintro e w1 ⟨⟨q, ⟨hid, rfl⟩ | ⟨hno, rfl⟩⟩, hb1⟩
    · have hqk : q < kn := hid.1
      have HGO : Hid (goes c kn t q) := Or.inr ⟨HC.out, hid⟩
      replace HF : Hid (Row w1 w.heap.size 2 (fun i => if i = 0 then .int .i64 x else .int .i64 y)) := HF.out.blw hb1
      replace H5 : Hid (Row w1 zb 5 (row5f c (.slice (some ⟨zl, 0, none⟩) kn kn))) := H5.out.blw hb1
      replace HL : Hid (Row w1 zl (kn * 8) (lc p m)) := HL.out.blw hb1
      replace HM : Hid (Mod (fun b => b = zb ∨ b = zl) w w1) := HM.out.trans (hb1.mod _)
      have g1 := row5_top H5.out hd4
      have f1 := H5.out.frozen t
      replace H5 : Hid (Row (w1.setCell ⟨zb, t, none⟩ (.int .i64 q)) zb 5 (row5f (upd c t q) (.slice (some ⟨zl, 0, none⟩) kn kn))) := row5_set H5.out hd4 q
      replace HL : Hid (Row (w1.setCell ⟨zb, t, none⟩ (.int .i64 q)) zl (kn * 8) (lc p m)) := HL.out.setOther (a := ⟨zb, t, none⟩) (fun e => hz e.symm) _
      replace HF : Hid (Row (w1.setCell ⟨zb, t, none⟩ (.int .i64 q)) w.heap.size 2 (fun i => if i = 0 then .int .i64 x else .int .i64 y)) := HF.out.setOther (a := ⟨zb, t, none⟩) (by show w.heap.size ≠ zb; omega) _
      replace HM : Hid (Mod (fun b => b = zb ∨ b = zl) w (w1.setCell ⟨zb, t, none⟩ (.int .i64 q))) := HM.out.trans (Mod.setCell (X := fun b => b = zb ∨ b = zl) _ (p := ⟨zb, t, none⟩) (Or.inl rfl) _)
      clear hid hb1 HC HA
      go_upto_region 7 with fail
      clear g1 f1
      generalize w1.setCell ⟨zb, t, none⟩ (.int .i64 q) = W at *
      have hqk' : (q : Int) < (kn : Int) := by omega
      have PT : ∀ w', Row w' zb 5 (row5f (upd c t q) (.slice (some ⟨zl, 0, none⟩) kn kn)) → w'.cell? ⟨zb, t, none⟩ = some (.int .i64 q) := fun w' hh => by rw [row5_top hh hd4, upd_at]
      have P4 : ∀ w', Row w' zb 5 (row5f (upd c t q) (.slice (some ⟨zl, 0, none⟩) kn kn)) → w'.cell? ⟨zb, 4, none⟩ = some (.slice (some ⟨zl, 0, none⟩) kn kn) := fun w' hh => (get5 hh).2.2.2.2
      replace HF : Hid (Row W.drew w.heap.size 2 (fun i => if i = 0 then .int .i64 x else .int .i64 y)) := HF.out.blw (Blw.refl _).drew
      replace H5 : Hid (Row W.drew zb 5 (row5f (upd c t q) (.slice (some ⟨zl, 0, none⟩) kn kn))) := H5.out.blw (Blw.refl _).drew
      replace HL : Hid (Row W.drew zl (kn * 8) (lc p m)) := HL.out.blw (Blw.refl _).drew
      replace HM : Hid (Mod (fun b => b = zb ∨ b = zl) w W.drew) := HM.out.trans ((Blw.refl _).drew.mod _)
      refine wp_region_noPanic ?_
      refine wp_region_held_drew (S := fun w' => Row w' zb 5 (row5f (upd c t q) (.slice (some ⟨zl, 0, none⟩) kn kn))) (by kernel_rfl) H5.out (fun hB => ?_)
      clear hB
      generalize W.drew = wd at *
      refine wpAnyH_take (i := 0) (oi := { dst := some 33, op := Op.move (Operand.tmp 0), type := 212, pos := _, after := #[], guard := none }) (v := (.pointer (some ⟨zb, 0, none⟩))) rfl (by kernel_rfl) (by kernel_rfl) (by kernel_rfl) (fun _ _ _ h => h) (Or.inl ⟨by rfl, fun w' hS => by (try dsimp only at hS); go_simp⟩) H5.out ?_
      simp only [Act.put, List.setIfInBounds_toArray, List.set_cons_zero, List.set_cons_succ]
      refine wpAnyH_take (i := 4) (oi := { dst := some 37, op := Op.move (Operand.tmp 7), type := 213, pos := _, after := #[], guard := none }) (v := (.pointer (some ⟨zb, t, none⟩))) rfl (by kernel_rfl) (by kernel_rfl) (by kernel_rfl) (fun _ _ _ h => h) (Or.inl ⟨by rfl, fun w' hS => by (try dsimp only at hS); go_simp⟩) H5.out ?_
      simp only [Act.put, List.setIfInBounds_toArray, List.set_cons_zero, List.set_cons_succ]
      refine wpAnyH_take (i := 1) (oi := { dst := some 34, op := Op.nilCheck (Operand.tmp 33), type := 0, pos := _, after := #[{ on := 0, ground := Ground.data }], guard := none }) (v := (.pointer (some ⟨zb, 0, none⟩))) rfl (by kernel_rfl) (by kernel_rfl) (by kernel_rfl) (fun _ _ _ h => h) (Or.inl ⟨by rfl, fun w' hS => by (try dsimp only at hS); go_simp⟩) H5.out ?_
      simp only [Act.put, List.setIfInBounds_toArray, List.set_cons_zero, List.set_cons_succ]
      refine wpAnyH_take (i := 5) (oi := { dst := some 38, op := Op.nilCheck (Operand.tmp 37), type := 0, pos := _, after := #[{ on := 4, ground := Ground.data }], guard := none }) (v := (.pointer (some ⟨zb, t, none⟩))) rfl (by kernel_rfl) (by kernel_rfl) (by kernel_rfl) (fun _ _ _ h => h) (Or.inl ⟨by rfl, fun w' hS => by (try dsimp only at hS); go_simp⟩) H5.out ?_
      simp only [Act.put, List.setIfInBounds_toArray, List.set_cons_zero, List.set_cons_succ]
      refine wpAnyH_take (i := 2) (oi := { dst := some 35, op := Op.fieldAddr 129 (Operand.tmp 34) 1, type := 0, pos := _, after := #[{ on := 1, ground := Ground.data }], guard := none }) (v := (.pointer (some ⟨zb, 4, none⟩))) rfl (by kernel_rfl) (by kernel_rfl) (by kernel_rfl) (fun _ _ _ h => h) (Or.inl ⟨by rfl, fun w' hS => by (try dsimp only at hS); go_simp⟩) H5.out ?_
      simp only [Act.put, List.setIfInBounds_toArray, List.set_cons_zero, List.set_cons_succ]
      refine wpAnyH_take (i := 6) (oi := { dst := some 39, op := Op.load 3 (Operand.tmp 38), type := 3, pos := _, after := #[{ on := 5, ground := Ground.data }], guard := none }) (v := (.int .i64 q)) rfl (by kernel_rfl) (by kernel_rfl) (by kernel_rfl) (fun _ _ _ h => h) (Or.inl ⟨by rfl, fun w' hS => by (try dsimp only at hS); go_simp⟩) H5.out ?_
      simp only [Act.put, List.setIfInBounds_toArray, List.set_cons_zero, List.set_cons_succ]
      refine wpAnyH_take (i := 3) (oi := { dst := some 36, op := Op.load 127 (Operand.tmp 35), type := 127, pos := _, after := #[{ on := 2, ground := Ground.data }], guard := none }) (v := (.slice (some ⟨zl, 0, none⟩) kn kn)) rfl (by kernel_rfl) (by kernel_rfl) (by kernel_rfl) (fun _ _ _ h => h) (Or.inl ⟨by rfl, fun w' hS => by (try dsimp only at hS); go_simp⟩) H5.out ?_
      simp only [Act.put, List.setIfInBounds_toArray, List.set_cons_zero, List.set_cons_succ]
      refine wpAnyH_take (i := 7) (oi := { dst := some 40, op := Op.indexAddr 127 (Operand.tmp 36) (Operand.tmp 39), type := 0, pos := _, after := #[{ on := 3, ground := Ground.data }, { on := 6, ground := Ground.data }], guard := none }) (v := (.pointer (some ⟨zl, q * 8, none⟩))) rfl (by kernel_rfl) (by kernel_rfl) (by kernel_rfl) (fun _ _ _ h => h) (Or.inl ⟨by rfl, fun w' hS => by (try dsimp only at hS); go_simp⟩) H5.out ?_
      simp only [Act.put, List.setIfInBounds_toArray, List.set_cons_zero, List.set_cons_succ]
      refine wpAnyH_take (i := 8) (oi := { dst := some 10, op := Op.assign (Operand.tmp 40), type := 216, pos := _, after := #[{ on := 7, ground := Ground.data }, { on := 0, ground := Ground.phase }, { on := 1, ground := Ground.phase }, { on := 2, ground := Ground.phase }, { on := 3, ground := Ground.phase }, { on := 4, ground := Ground.phase }, { on := 5, ground := Ground.phase }, { on := 6, ground := Ground.phase }, { on := 7, ground := Ground.phase }], guard := none }) (v := (.pointer (some ⟨zl, q * 8, none⟩))) rfl (by kernel_rfl) (by kernel_rfl) (by kernel_rfl) (fun _ _ _ h => h) (Or.inl ⟨by rfl, fun w' hS => by (try dsimp only at hS); go_simp⟩) H5.out ?_
      simp only [Act.put, List.setIfInBounds_toArray, List.set_cons_zero, List.set_cons_succ]
      refine wpAnyH_done (by kernel_rfl) ?_ _
      refine NoPanic.normal ?_
      clear PT P4
      go_upto_region 8 with fail
      replace HF : Hid (Row wd.drew w.heap.size 2 (fun i => if i = 0 then .int .i64 x else .int .i64 y)) := HF.out.blw (Blw.refl _).drew
      replace H5 : Hid (Row wd.drew zb 5 (row5f (upd c t q) (.slice (some ⟨zl, 0, none⟩) kn kn))) := H5.out.blw (Blw.refl _).drew
      replace HL : Hid (Row wd.drew zl (kn * 8) (lc p m)) := HL.out.blw (Blw.refl _).drew
      replace HM : Hid (Mod (fun b => b = zb ∨ b = zl) w wd.drew) := HM.out.trans ((Blw.refl _).drew.mod _)
      have P0 : ∀ w', Row w' w.heap.size 2 (fun i => if i = 0 then .int .i64 x else .int .i64 y) → w'.cell? ⟨w.heap.size, 0, none⟩ = some (.int .i64 x) ∧ w'.cell? ⟨w.heap.size, 1, none⟩ = some (.int .i64 y) := fun w' hh => get2 hh
      have l0 := (lc_at HL.out hqk hr4).1
      have l1 := (lc_at HL.out hqk hr4).2
      have f0 := HL.out.frozen (q * 8 + j * 2)
      have f1 := HL.out.frozen (q * 8 + j * 2 + 1)
      refine wp_region_noPanic ?_
      refine wp_region_held_drew (S := fun w' => Row w' w.heap.size 2 (fun i => if i = 0 then .int .i64 x else .int .i64 y)) (by kernel_rfl) HF.out (fun hB => ?_)
      clear hB
      generalize wd.drew = wd at *
      refine wpAnyH_take (i := 0) (oi := { dst := some 41, op := Op.move (Operand.tmp 10), type := 216, pos := _, after := #[], guard := none }) (v := (.pointer (some ⟨zl, q * 8, none⟩))) rfl (by kernel_rfl) (by kernel_rfl) (by kernel_rfl) (fun _ _ _ h => h) (Or.inl ⟨by rfl, fun w' hS => by (try dsimp only at hS); go_simp⟩) HF.out ?_
      simp only [Act.put, List.setIfInBounds_toArray, List.set_cons_zero, List.set_cons_succ]
      refine wpAnyH_take (i := 1) (oi := { dst := some 42, op := Op.move (Operand.tmp 1), type := 3, pos := _, after := #[], guard := none }) (v := (.int .i64 a)) rfl (by kernel_rfl) (by kernel_rfl) (by kernel_rfl) (fun _ _ _ h => h) (Or.inl ⟨by rfl, fun w' hS => by (try dsimp only at hS); go_simp⟩) HF.out ?_
      simp only [Act.put, List.setIfInBounds_toArray, List.set_cons_zero, List.set_cons_succ]
      refine wpAnyH_take (i := 3) (oi := { dst := some 44, op := Op.load 144 (Operand.tmp 5), type := 144, pos := _, after := #[], guard := none }) (v := (.agg #[.int .i64 x, .int .i64 y])) rfl (by kernel_rfl) (by kernel_rfl) (by kernel_rfl) (fun _ _ _ h => h) (Or.inl ⟨by rfl, fun w' hS => by (try dsimp only at hS); go_simp⟩) HF.out ?_
      simp only [Act.put, List.setIfInBounds_toArray, List.set_cons_zero, List.set_cons_succ]
      refine wpAnyH_take (i := 2) (oi := { dst := some 43, op := Op.binOp BinOp.rem 3 (Operand.tmp 42) (Operand.const (Value.int IntKind.i64 4)) 3, type := 3, pos := _, after := #[{ on := 1, ground := Ground.data }], guard := none }) (v := (.int .i64 j)) rfl (by kernel_rfl) (by kernel_rfl) (by kernel_rfl) (fun _ _ _ h => h) (Or.inl ⟨by rfl, fun w' hS => by (try dsimp only at hS); go_simp⟩) HF.out ?_
      simp only [Act.put, List.setIfInBounds_toArray, List.set_cons_zero, List.set_cons_succ]
      refine wpAnyH_take (i := 4) (oi := { dst := some 45, op := Op.nilCheck (Operand.tmp 41), type := 0, pos := _, after := #[{ on := 0, ground := Ground.data }], guard := none }) (v := (.pointer (some ⟨zl, q * 8, none⟩))) rfl (by kernel_rfl) (by kernel_rfl) (by kernel_rfl) (fun _ _ _ h => h) (Or.inl ⟨by rfl, fun w' hS => by (try dsimp only at hS); go_simp⟩) HF.out ?_
      simp only [Act.put, List.setIfInBounds_toArray, List.set_cons_zero, List.set_cons_succ]
      refine wpAnyH_take (i := 5) (oi := { dst := some 46, op := Op.indexAddr 186 (Operand.tmp 45) (Operand.tmp 43), type := 0, pos := _, after := #[{ on := 4, ground := Ground.data }, { on := 2, ground := Ground.data }, { on := 0, ground := Ground.phase }, { on := 1, ground := Ground.phase }, { on := 2, ground := Ground.phase }, { on := 3, ground := Ground.phase }], guard := none }) (v := (.pointer (some ⟨zl, q * 8 + j * 2, none⟩))) rfl (by kernel_rfl) (by kernel_rfl) (by kernel_rfl) (fun _ _ _ h => h) (Or.inl ⟨by rfl, fun w' hS => by (try dsimp only at hS); go_simp⟩) HF.out ?_
      simp only [Act.put, List.setIfInBounds_toArray, List.set_cons_zero, List.set_cons_succ]
      refine wpAnyH_ready (rs := [6]) (by kernel_rfl) (by simp) ?_
      refine AllReadyH.cons (o := { dst := none, op := Op.store 144 (Operand.tmp 46) (Operand.tmp 44), type := 0, pos := _, after := #[{ on := 5, ground := Ground.data }, { on := 3, ground := Ground.data }, { on := 0, ground := Ground.phase }, { on := 1, ground := Ground.phase }, { on := 2, ground := Ground.phase }, { on := 3, ground := Ground.phase }], guard := none }) rfl (fun K hK => ?_) AllReadyH.nil
      go_simp
      refine hK.out _ _ ((HF.out.setOther (a := ⟨zl, q * 8 + j * 2, none⟩) (by show w.heap.size ≠ zl; omega) (.int .i64 x)).setOther (a := ⟨zl, q * 8 + j * 2 + 1, none⟩) (by show w.heap.size ≠ zl; omega) (.int .i64 y)) (fun hB => ?_)
      clear hK K hB
      try simp only [Act.put, List.setIfInBounds_toArray, List.set_cons_zero, List.set_cons_succ]
      refine wpAnyH_done (by kernel_rfl) ?_ _
      refine NoPanic.normal ?_
      have hm2 : Mod (fun b => b = zb ∨ b = zl) wd ((wd.setCell ⟨zl, q * 8 + j * 2, none⟩ (.int .i64 x)).setCell ⟨zl, q * 8 + j * 2 + 1, none⟩ (.int .i64 y)) := (Mod.setCell (X := fun b => b = zb ∨ b = zl) _ (p := ⟨zl, q * 8 + j * 2, none⟩) (Or.inr rfl) _).trans (Mod.setCell (X := fun b => b = zb ∨ b = zl) _ (p := ⟨zl, q * 8 + j * 2 + 1, none⟩) (Or.inr rfl) _)
      have HL2 : Hid (Row ((wd.setCell ⟨zl, q * 8 + j * 2, none⟩ (.int .i64 x)).setCell ⟨zl, q * 8 + j * 2 + 1, none⟩ (.int .i64 y)) zl (kn * 8) (lc (upd2 p q j x) (upd2 m q j y))) := lc_put HL.out hr4 x y
      have H52 : Hid (Row ((wd.setCell ⟨zl, q * 8 + j * 2, none⟩ (.int .i64 x)).setCell ⟨zl, q * 8 + j * 2 + 1, none⟩ (.int .i64 y)) zb 5 (row5f (upd c t q) (.slice (some ⟨zl, 0, none⟩) kn kn))) := (H5.out.setOther (a := ⟨zl, q * 8 + j * 2, none⟩) hz _).setOther (a := ⟨zl, q * 8 + j * 2 + 1, none⟩) hz _
      have HM2 : Hid (Mod (fun b => b = zb ∨ b = zl) w ((wd.setCell ⟨zl, q * 8 + j * 2, none⟩ (.int .i64 x)).setCell ⟨zl, q * 8 + j * 2 + 1, none⟩ (.int .i64 y))) := HM.out.trans hm2
      clear hm2 HL H5 HM HF P0 l0 l1 f0 f1
      generalize ((wd.setCell ⟨zl, q * 8 + j * 2, none⟩ (.int .i64 x)).setCell ⟨zl, q * 8 + j * 2 + 1, none⟩ (.int .i64 y)) = W2 at *
      obtain ⟨p2, hp2⟩ : ∃ p2, p2 = upd2 p q j x := ⟨_, rfl⟩
      obtain ⟨m2, hm2⟩ : ∃ m2, m2 = upd2 m q j y := ⟨_, rfl⟩
      rw [← hp2, ← hm2] at HL2
      have HP : Hid (p2 = upd2 p q j x) := hp2
      have HQ : Hid (m2 = upd2 m q j y) := hm2
      clear hp2 hm2
      obtain ⟨q0, q1, q2, q3, q4, q5, q6, q7⟩ := lc8 HL2.out hqk
      have g1 : W2.cell? ⟨zb, t, none⟩ = some (.int .i64 q) := by rw [row5_top H52.out hd4, upd_at]
      have f1 := H52.out.frozen t
      by_cases hzz : isZero8 (p2 q) (m2 q)
      · have hne := eql8_same (p2 q) (m2 q) hzz
        have HZZ : Hid (isZero8 (p2 q) (m2 q)) := hzz
        have H53 : Hid (Row (W2.setCell ⟨zb, t, none⟩ (.int .i64 (-1))) zb 5 (row5f (upd c t (-1)) (.slice (some ⟨zl, 0, none⟩) kn kn))) := by have := row5_set H52.out hd4 (-1); rw [upd_upd] at this; exact this
        have HL3 : Hid (Row (W2.setCell ⟨zb, t, none⟩ (.int .i64 (-1))) zl (kn * 8) (lc p2 m2)) := HL2.out.setOther (a := ⟨zb, t, none⟩) (fun e => hz e.symm) _
        have HM3 : Hid (Mod (fun b => b = zb ∨ b = zl) w (W2.setCell ⟨zb, t, none⟩ (.int .i64 (-1)))) := HM2.out.trans (Mod.setCell (X := fun b => b = zb ∨ b = zl) _ (p := ⟨zb, t, none⟩) (Or.inl rfl) _)
        clear hzz HL2 H52 HM2
        go_wp2
        exact bodyPost_ret (v := .bool true) (by simp [results, Try.results168, go_sem]) rfl (Or.inl ⟨q, HGO.out, rfl, by rw [← HP.out, ← HQ.out, topsOf_yes HZZ.out]; exact H53.out, by rw [← HP.out, ← HQ.out]; exact HL3.out, HM3.out⟩)
      · have hne := eql8_other (p2 q) (m2 q) hzz
        have HZZ : Hid (¬ isZero8 (p2 q) (m2 q)) := hzz
        clear hzz
        go_wp2
        exact bodyPost_ret (v := .bool true) (by simp [results, Try.results168, go_sem]) rfl (Or.inl ⟨q, HGO.out, rfl, by rw [← HP.out, ← HQ.out, topsOf_no HZZ.out]; exact H52.out, by rw [← HP.out, ← HQ.out]; exact HL2.out, HM2.out⟩)
    · have HN : Hid (¬ ∃ q, goes c kn t q) := fun ⟨q, g⟩ => by
        rcases g with g | ⟨-, g⟩
        · have := HC.out; omega
        · exact hno ⟨q, g⟩
      have HBB : Hid (Blw w w1) := HA.out.trans hb1
      clear hno hb1 HC
      go_wp2
      exact bodyPost_ret (v := .bool false) (by simp [results, Try.results168, go_sem]) rfl (Or.inr ⟨HN.out, rfl, HBB.out⟩)
end Go.Proofs.Ytjplodenflkghaa
