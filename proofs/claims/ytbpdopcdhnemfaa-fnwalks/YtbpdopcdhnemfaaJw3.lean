/- Merged by program, in this order: Put, Walk, Mapped, MappedI, Clo. -/
import Derived.Test.YtbpdopcdhnemfaaJw2
/- A leaf that is put: the program's. -/
namespace Go.Proofs.Ytbpdopcdhnemfaa
open Go.RowKit
set_option linter.unusedSimpArgs false
set_option linter.unusedVariables false
theorem eql8_same (f g : Nat → Int) (h : isZero8 f g) (w : World) : (binOp .eql 202 (.agg (eight f g)) (.agg (eight zf zf))).run Try.prog w = .ok (.bool true) w := by
  rw [run_eql_struct, eqArr8 9999 f g zf zf w (fun a b a' b' w => pairEq 9997 a b a' b' w), (h 0 (by omega)).1, (h 0 (by omega)).2, (h 1 (by omega)).1, (h 1 (by omega)).2, (h 2 (by omega)).1, (h 2 (by omega)).2, (h 3 (by omega)).1, (h 3 (by omega)).2]
  rfl
theorem eql8_other (f g : Nat → Int) (h : ¬ isZero8 f g) (w : World) : (binOp .eql 202 (.agg (eight f g)) (.agg (eight zf zf))).run Try.prog w = .ok (.bool false) w := by
  rw [run_eql_struct, eqArr8 9999 f g zf zf w (fun a b a' b' w => pairEq 9997 a b a' b' w)]
  have : (((f 0 == zf 0) && (g 0 == zf 0)) && (((f 1 == zf 1) && (g 1 == zf 1)) && (((f 2 == zf 2) && (g 2 == zf 2)) && ((f 3 == zf 3) && (g 3 == zf 3))))) = false := by
    rw [Bool.eq_false_iff]
    intro hh
    simp at hh
    refine h fun j hj => ?_
    match j, hj with
    | 0, _ => exact hh.1
    | 1, _ => exact hh.2.1
    | 2, _ => exact hh.2.2.1
    | 3, _ => exact hh.2.2.2
  rw [this]
  rfl
theorem lc_put {w : World} {z n : Nat} {p m : Nat → Nat → Int} (r : Row w z (n * 8) (lc p m)) {q j : Nat} (hj : j < 4) (x y : Int) : Row ((w.setCell ⟨z, q * 8 + j * 2, none⟩ (.int .i64 x)).setCell ⟨z, q * 8 + j * 2 + 1, none⟩ (.int .i64 y)) z (n * 8) (lc (upd2 p q j x) (upd2 m q j y)) :=
  ((r.set (q * 8 + j * 2) _).set (q * 8 + j * 2 + 1) _).congr (fun i hi => by
    unfold lc upd2
    by_cases e1 : i = q * 8 + j * 2 + 1
    · have h1 : ¬ i % 2 = 0 := by omega
      have h2 : i / 8 = q := by omega
      have h3 : i % 8 / 2 = j := by omega
      simp only [e1, if_true]
      rw [← e1]
      simp only [h1, h2, h3, if_true, if_false, and_self]
    · by_cases e2 : i = q * 8 + j * 2
      · have h1 : i % 2 = 0 := by omega
        have h2 : i / 8 = q := by omega
        have h3 : i % 8 / 2 = j := by omega
        simp only [e1, if_false]
        simp only [e2, if_true]
        rw [← e2]
        simp only [h1, h2, h3, if_true, and_self]
      · have h3 : i % 2 = 0 → ¬ (i / 8 = q ∧ i % 8 / 2 = j) := fun a b => by omega
        have h4 : ¬ i % 2 = 0 → ¬ (i / 8 = q ∧ i % 8 / 2 = j) := fun a b => by omega
        simp only [e1, e2, if_false]
        by_cases h5 : i % 2 = 0
        · simp only [h5, h3 h5, if_true, if_false]
        · simp only [h5, h4 h5, if_false])
theorem row5_set {w : World} {z : Nat} {c : Nat → Int} {v : Value} (r : Row w z 5 (row5f c v)) {t : Nat} (ht : t < 4) (x : Int) : Row (w.setCell ⟨z, t, none⟩ (.int .i64 x)) z 5 (row5f (upd c t x) v) :=
  (r.set t _).congr (fun i hi => by
    unfold upd
    match t, ht, i, hi with
    | 0, _, 0, _ => rfl
    | 0, _, 1, _ => rfl
    | 0, _, 2, _ => rfl
    | 0, _, 3, _ => rfl
    | 0, _, 4, _ => rfl
    | 1, _, 0, _ => rfl
    | 1, _, 1, _ => rfl
    | 1, _, 2, _ => rfl
    | 1, _, 3, _ => rfl
    | 1, _, 4, _ => rfl
    | 2, _, 0, _ => rfl
    | 2, _, 1, _ => rfl
    | 2, _, 2, _ => rfl
    | 2, _, 3, _ => rfl
    | 2, _, 4, _ => rfl
    | 3, _, 0, _ => rfl
    | 3, _, 1, _ => rfl
    | 3, _, 2, _ => rfl
    | 3, _, 3, _ => rfl
    | 3, _, 4, _ => rfl)
theorem upd_self {c : Nat → Int} {t : Nat} {v : Int} (h : c t = v) : upd c t v = c := by
  funext i; unfold upd; split
  · next e => rw [e, h]
  · rfl
theorem upd_at (c : Nat → Int) (t : Nat) (v : Int) : upd c t v t = v := by unfold upd; rw [if_pos rfl]
theorem upd_upd (c : Nat → Int) (t : Nat) (v v' : Int) : upd (upd c t v) t v' = upd c t v' := by
  funext i; unfold upd; split <;> rfl
/-- The list that a leaf at top t comes into. -/
def goes (c : Nat → Int) (kn t q : Nat) : Prop := c t = (q : Int) ∨ (c t = -1 ∧ isIdle c kn q)
theorem goes_uniq {c : Nat → Int} {kn t q q' : Nat} (h : goes c kn t q) (h' : goes c kn t q') : q = q' := by
  rcases h with h | ⟨h1, h2⟩ <;> rcases h' with h' | ⟨h3, h4⟩
  · omega
  · omega
  · omega
  · exact idle_uniq h2 h4
open Classical in
noncomputable def topsOf (c : Nat → Int) (t q : Nat) (f g : Nat → Int) : Nat → Int := if isZero8 f g then upd c t (-1) else upd c t q
theorem topsOf_yes {c : Nat → Int} {t q : Nat} {f g : Nat → Int} (h : isZero8 f g) : topsOf c t q f g = upd c t (-1) := by unfold topsOf; rw [if_pos h]
theorem topsOf_no {c : Nat → Int} {t q : Nat} {f g : Nat → Int} (h : ¬ isZero8 f g) : topsOf c t q f g = upd c t q := by unfold topsOf; rw [if_neg h]
set_option maxRecDepth 10000 in
set_option maxHeartbeats 6400000 in
theorem put_any (c : Nat → Int) (zl kn : Nat) (p m : Nat → Nat → Int) (zb a : Nat) (x y : Int) (w : World) (hk : kn ≤ 4) (ht : ∀ i, i < 4 → -1 ≤ c i ∧ c i ≤ (kn : Int) - 1) (ha : a < 16) (hz : zb ≠ zl) (h5 : Row w zb 5 (row5f c (.slice (some ⟨zl, 0, none⟩) kn kn))) (hl : Row w zl (kn * 8) (lc p m)) :
    Calls Try.prog 210 #[.pointer (some ⟨zb, 0, none⟩), .int .i64 a, .agg #[.int .i64 x, .int .i64 y]] w fun e w' => ((∃ q : Nat, goes c kn (a / 4) q ∧ e = .returned (.bool true) ∧ Row w' zb 5 (row5f (topsOf c (a / 4) q (upd2 p q (a % 4) x q) (upd2 m q (a % 4) y q)) (.slice (some ⟨zl, 0, none⟩) kn kn)) ∧ Row w' zl (kn * 8) (lc (upd2 p q (a % 4) x) (upd2 m q (a % 4) y)) ∧ Mod (fun b => b = zb ∨ b = zl) w w') ∨ ((¬ ∃ q, goes c kn (a / 4) q) ∧ e = .returned (.bool false) ∧ Blw w w')) := by
  have hA : Blw w (w.alloc (.cells #[.int .i64 x, .int .i64 y] 189)) := (Blw.refl _).alloc _
  have HF : Hid (Row (w.alloc (.cells #[.int .i64 x, .int .i64 y] 189)) w.heap.size 2 (fun i => if i = 0 then .int .i64 x else .int .i64 y)) := box2 w _ _ 189
  have H5 : Hid (Row (w.alloc (.cells #[.int .i64 x, .int .i64 y] 189)) zb 5 (row5f c (.slice (some ⟨zl, 0, none⟩) kn kn))) := h5.blw hA
  have HL : Hid (Row (w.alloc (.cells #[.int .i64 x, .int .i64 y] 189)) zl (kn * 8) (lc p m)) := hl.blw hA
  have HM : Hid (Mod (fun b => b = zb ∨ b = zl) w (w.alloc (.cells #[.int .i64 x, .int .i64 y] 189))) := hA.mod _
  have HA : Hid (Blw w (w.alloc (.cells #[.int .i64 x, .int .i64 y] 189))) := hA
  have hbl := h5.lt
  have hll := hl.lt
  have hd : Int.tdiv (a : Int) 4 = ((a / 4 : Nat) : Int) := by rw [Int.tdiv_eq_ediv_of_nonneg (by omega)]; rfl
  have hr : Int.tmod (a : Int) 4 = ((a % 4 : Nat) : Int) := by rw [Int.tmod_eq_emod_of_nonneg (by omega)]; rfl
  have hd4 : a / 4 < 4 := by omega
  have hr4 : a % 4 < 4 := by omega
  have htop := ht (a / 4) hd4
  have hd4' : ((a / 4 : Nat) : Int) < 4 := by omega
  have hr4' : ((a % 4 : Nat) : Int) < 4 := by omega
  clear hA h5 hl ht
  go_enter Try.func210, Try.ntmps210
  generalize a / 4 = t at *
  generalize a % 4 = j at *
  by_cases h0 : 0 ≤ c t
  · obtain ⟨q, hq⟩ : ∃ q : Nat, c t = q := ⟨(c t).toNat, by omega⟩
    have hqk : q < kn := by omega
    have HGO : Hid (goes c kn t q) := Or.inl hq
    have dq : ((q : Int) == -1) = false := by simp
    have g1 : (w.alloc (.cells #[.int .i64 x, .int .i64 y] 189)).cell? ⟨zb, t, none⟩ = some (.int .i64 q) := by rw [row5_top H5.out hd4, hq]
    replace H5 : Hid (Row (w.alloc (.cells #[.int .i64 x, .int .i64 y] 189)) zb 5 (row5f (upd c t q) (.slice (some ⟨zl, 0, none⟩) kn kn))) := by rw [upd_self hq]; exact H5.out
    clear h0 htop hq HA
    go_upto_region 7 with fail
    clear g1 dq
    generalize w.alloc (.cells #[.int .i64 x, .int .i64 y] 189) = W at *
    have hqk' : (q : Int) < (kn : Int) := by omega
    have PT : ∀ w', Row w' zb 5 (row5f (upd c t q) (.slice (some ⟨zl, 0, none⟩) kn kn)) → w'.cell? ⟨zb, t, none⟩ = some (.int .i64 q) := fun w' hh => by rw [row5_top hh hd4, upd_at]
    have P4 : ∀ w', Row w' zb 5 (row5f (upd c t q) (.slice (some ⟨zl, 0, none⟩) kn kn)) → w'.cell? ⟨zb, 4, none⟩ = some (.slice (some ⟨zl, 0, none⟩) kn kn) := fun w' hh => (get5 hh).2.2.2.2
    replace HF : Hid (Row W.drew w.heap.size 2 (fun i => if i = 0 then .int .i64 x else .int .i64 y)) := HF.out.blw (Blw.refl _).drew
    replace H5 : Hid (Row W.drew zb 5 (row5f (upd c t q) (.slice (some ⟨zl, 0, none⟩) kn kn))) := H5.out.blw (Blw.refl _).drew
    replace HL : Hid (Row W.drew zl (kn * 8) (lc p m)) := HL.out.blw (Blw.refl _).drew
    replace HM : Hid (Mod (fun b => b = zb ∨ b = zl) w W.drew) := HM.out.trans ((Blw.refl _).drew.mod _)
    refine wp_region_noPanic ?_
    refine wp_region_held_drew (S := fun w' => Row w' zb 5 (row5f (upd c t q) (.slice (some ⟨zl, 0, none⟩) kn kn))) (by kernel_rfl) H5.out (fun hB => ?_)
    clear hB
    generalize W.drew = wd at *
    refine wpAnyH_take (i := 0) (oi := { dst := some 33, op := Op.move (Operand.tmp 0), type := 247, pos := _, after := #[], guard := none }) (v := (.pointer (some ⟨zb, 0, none⟩))) rfl (by kernel_rfl) (by kernel_rfl) (by kernel_rfl) (fun _ _ _ h => h) (Or.inl ⟨by rfl, fun w' hS => by (try dsimp only at hS); go_simp⟩) H5.out ?_
    simp only [Act.put, List.setIfInBounds_toArray, List.set_cons_zero, List.set_cons_succ]
    refine wpAnyH_take (i := 4) (oi := { dst := some 37, op := Op.move (Operand.tmp 7), type := 248, pos := _, after := #[], guard := none }) (v := (.pointer (some ⟨zb, t, none⟩))) rfl (by kernel_rfl) (by kernel_rfl) (by kernel_rfl) (fun _ _ _ h => h) (Or.inl ⟨by rfl, fun w' hS => by (try dsimp only at hS); go_simp⟩) H5.out ?_
    simp only [Act.put, List.setIfInBounds_toArray, List.set_cons_zero, List.set_cons_succ]
    refine wpAnyH_take (i := 1) (oi := { dst := some 34, op := Op.nilCheck (Operand.tmp 33), type := 0, pos := _, after := #[{ on := 0, ground := Ground.data }], guard := none }) (v := (.pointer (some ⟨zb, 0, none⟩))) rfl (by kernel_rfl) (by kernel_rfl) (by kernel_rfl) (fun _ _ _ h => h) (Or.inl ⟨by rfl, fun w' hS => by (try dsimp only at hS); go_simp⟩) H5.out ?_
    simp only [Act.put, List.setIfInBounds_toArray, List.set_cons_zero, List.set_cons_succ]
    refine wpAnyH_take (i := 5) (oi := { dst := some 38, op := Op.nilCheck (Operand.tmp 37), type := 0, pos := _, after := #[{ on := 4, ground := Ground.data }], guard := none }) (v := (.pointer (some ⟨zb, t, none⟩))) rfl (by kernel_rfl) (by kernel_rfl) (by kernel_rfl) (fun _ _ _ h => h) (Or.inl ⟨by rfl, fun w' hS => by (try dsimp only at hS); go_simp⟩) H5.out ?_
    simp only [Act.put, List.setIfInBounds_toArray, List.set_cons_zero, List.set_cons_succ]
    refine wpAnyH_take (i := 2) (oi := { dst := some 35, op := Op.fieldAddr 136 (Operand.tmp 34) 1, type := 0, pos := _, after := #[{ on := 1, ground := Ground.data }], guard := none }) (v := (.pointer (some ⟨zb, 4, none⟩))) rfl (by kernel_rfl) (by kernel_rfl) (by kernel_rfl) (fun _ _ _ h => h) (Or.inl ⟨by rfl, fun w' hS => by (try dsimp only at hS); go_simp⟩) H5.out ?_
    simp only [Act.put, List.setIfInBounds_toArray, List.set_cons_zero, List.set_cons_succ]
    refine wpAnyH_take (i := 6) (oi := { dst := some 39, op := Op.load 3 (Operand.tmp 38), type := 3, pos := _, after := #[{ on := 5, ground := Ground.data }], guard := none }) (v := (.int .i64 q)) rfl (by kernel_rfl) (by kernel_rfl) (by kernel_rfl) (fun _ _ _ h => h) (Or.inl ⟨by rfl, fun w' hS => by (try dsimp only at hS); go_simp⟩) H5.out ?_
    simp only [Act.put, List.setIfInBounds_toArray, List.set_cons_zero, List.set_cons_succ]
    refine wpAnyH_take (i := 3) (oi := { dst := some 36, op := Op.load 134 (Operand.tmp 35), type := 134, pos := _, after := #[{ on := 2, ground := Ground.data }], guard := none }) (v := (.slice (some ⟨zl, 0, none⟩) kn kn)) rfl (by kernel_rfl) (by kernel_rfl) (by kernel_rfl) (fun _ _ _ h => h) (Or.inl ⟨by rfl, fun w' hS => by (try dsimp only at hS); go_simp⟩) H5.out ?_
    simp only [Act.put, List.setIfInBounds_toArray, List.set_cons_zero, List.set_cons_succ]
    refine wpAnyH_take (i := 7) (oi := { dst := some 40, op := Op.indexAddr 134 (Operand.tmp 36) (Operand.tmp 39), type := 0, pos := _, after := #[{ on := 3, ground := Ground.data }, { on := 6, ground := Ground.data }], guard := none }) (v := (.pointer (some ⟨zl, q * 8, none⟩))) rfl (by kernel_rfl) (by kernel_rfl) (by kernel_rfl) (fun _ _ _ h => h) (Or.inl ⟨by rfl, fun w' hS => by (try dsimp only at hS); go_simp⟩) H5.out ?_
    simp only [Act.put, List.setIfInBounds_toArray, List.set_cons_zero, List.set_cons_succ]
    refine wpAnyH_take (i := 8) (oi := { dst := some 10, op := Op.assign (Operand.tmp 40), type := 251, pos := _, after := #[{ on := 7, ground := Ground.data }, { on := 0, ground := Ground.phase }, { on := 1, ground := Ground.phase }, { on := 2, ground := Ground.phase }, { on := 3, ground := Ground.phase }, { on := 4, ground := Ground.phase }, { on := 5, ground := Ground.phase }, { on := 6, ground := Ground.phase }, { on := 7, ground := Ground.phase }], guard := none }) (v := (.pointer (some ⟨zl, q * 8, none⟩))) rfl (by kernel_rfl) (by kernel_rfl) (by kernel_rfl) (fun _ _ _ h => h) (Or.inl ⟨by rfl, fun w' hS => by (try dsimp only at hS); go_simp⟩) H5.out ?_
    simp only [Act.put, List.setIfInBounds_toArray, List.set_cons_zero, List.set_cons_succ]
    refine wpAnyH_done (by kernel_rfl) ?_ _
    refine NoPanic.normal ?_
    clear PT P4
    go_upto_region 8 with fail
    replace HF : Hid (Row wd.drew w.heap.size 2 (fun i => if i = 0 then .int .i64 x else .int .i64 y)) := HF.out.blw (Blw.refl _).drew
    replace H5 : Hid (Row wd.drew zb 5 (row5f (upd c t q) (.slice (some ⟨zl, 0, none⟩) kn kn))) := H5.out.blw (Blw.refl _).drew
    replace HL : Hid (Row wd.drew zl (kn * 8) (lc p m)) := HL.out.blw (Blw.refl _).drew
    replace HM : Hid (Mod (fun b => b = zb ∨ b = zl) w wd.drew) := HM.out.trans ((Blw.refl _).drew.mod _)
    have P0 : ∀ w', Row w' w.heap.size 2 (fun i => if i = 0 then .int .i64 x else .int .i64 y) → w'.cell? ⟨w.heap.size, 0, none⟩ = some (.int .i64 x) ∧ w'.cell? ⟨w.heap.size, 1, none⟩ = some (.int .i64 y) := fun w' hh => get2 hh
    have l0 := (lc_at HL.out hqk hr4).1
    have l1 := (lc_at HL.out hqk hr4).2
    have f0 := HL.out.frozen (q * 8 + j * 2)
    have f1 := HL.out.frozen (q * 8 + j * 2 + 1)
    refine wp_region_noPanic ?_
    refine wp_region_held_drew (S := fun w' => Row w' w.heap.size 2 (fun i => if i = 0 then .int .i64 x else .int .i64 y)) (by kernel_rfl) HF.out (fun hB => ?_)
    clear hB
    generalize wd.drew = wd at *
    refine wpAnyH_take (i := 0) (oi := { dst := some 41, op := Op.move (Operand.tmp 10), type := 251, pos := _, after := #[], guard := none }) (v := (.pointer (some ⟨zl, q * 8, none⟩))) rfl (by kernel_rfl) (by kernel_rfl) (by kernel_rfl) (fun _ _ _ h => h) (Or.inl ⟨by rfl, fun w' hS => by (try dsimp only at hS); go_simp⟩) HF.out ?_
    simp only [Act.put, List.setIfInBounds_toArray, List.set_cons_zero, List.set_cons_succ]
    refine wpAnyH_take (i := 1) (oi := { dst := some 42, op := Op.move (Operand.tmp 1), type := 3, pos := _, after := #[], guard := none }) (v := (.int .i64 a)) rfl (by kernel_rfl) (by kernel_rfl) (by kernel_rfl) (fun _ _ _ h => h) (Or.inl ⟨by rfl, fun w' hS => by (try dsimp only at hS); go_simp⟩) HF.out ?_
    simp only [Act.put, List.setIfInBounds_toArray, List.set_cons_zero, List.set_cons_succ]
    refine wpAnyH_take (i := 3) (oi := { dst := some 44, op := Op.load 189 (Operand.tmp 5), type := 189, pos := _, after := #[], guard := none }) (v := (.agg #[.int .i64 x, .int .i64 y])) rfl (by kernel_rfl) (by kernel_rfl) (by kernel_rfl) (fun _ _ _ h => h) (Or.inl ⟨by rfl, fun w' hS => by (try dsimp only at hS); go_simp⟩) HF.out ?_
    simp only [Act.put, List.setIfInBounds_toArray, List.set_cons_zero, List.set_cons_succ]
    refine wpAnyH_take (i := 2) (oi := { dst := some 43, op := Op.binOp BinOp.rem 3 (Operand.tmp 42) (Operand.const (Value.int IntKind.i64 4)) 3, type := 3, pos := _, after := #[{ on := 1, ground := Ground.data }], guard := none }) (v := (.int .i64 j)) rfl (by kernel_rfl) (by kernel_rfl) (by kernel_rfl) (fun _ _ _ h => h) (Or.inl ⟨by rfl, fun w' hS => by (try dsimp only at hS); go_simp⟩) HF.out ?_
    simp only [Act.put, List.setIfInBounds_toArray, List.set_cons_zero, List.set_cons_succ]
    refine wpAnyH_take (i := 4) (oi := { dst := some 45, op := Op.nilCheck (Operand.tmp 41), type := 0, pos := _, after := #[{ on := 0, ground := Ground.data }], guard := none }) (v := (.pointer (some ⟨zl, q * 8, none⟩))) rfl (by kernel_rfl) (by kernel_rfl) (by kernel_rfl) (fun _ _ _ h => h) (Or.inl ⟨by rfl, fun w' hS => by (try dsimp only at hS); go_simp⟩) HF.out ?_
    simp only [Act.put, List.setIfInBounds_toArray, List.set_cons_zero, List.set_cons_succ]
    refine wpAnyH_take (i := 5) (oi := { dst := some 46, op := Op.indexAddr 202 (Operand.tmp 45) (Operand.tmp 43), type := 0, pos := _, after := #[{ on := 4, ground := Ground.data }, { on := 2, ground := Ground.data }, { on := 0, ground := Ground.phase }, { on := 1, ground := Ground.phase }, { on := 2, ground := Ground.phase }, { on := 3, ground := Ground.phase }], guard := none }) (v := (.pointer (some ⟨zl, q * 8 + j * 2, none⟩))) rfl (by kernel_rfl) (by kernel_rfl) (by kernel_rfl) (fun _ _ _ h => h) (Or.inl ⟨by rfl, fun w' hS => by (try dsimp only at hS); go_simp⟩) HF.out ?_
    simp only [Act.put, List.setIfInBounds_toArray, List.set_cons_zero, List.set_cons_succ]
    refine wpAnyH_ready (rs := [6]) (by kernel_rfl) (by simp) ?_
    refine AllReadyH.cons (o := { dst := none, op := Op.store 189 (Operand.tmp 46) (Operand.tmp 44), type := 0, pos := _, after := #[{ on := 5, ground := Ground.data }, { on := 3, ground := Ground.data }, { on := 0, ground := Ground.phase }, { on := 1, ground := Ground.phase }, { on := 2, ground := Ground.phase }, { on := 3, ground := Ground.phase }], guard := none }) rfl (fun K hK => ?_) AllReadyH.nil
    go_simp
    refine hK.out _ _ ((HF.out.setOther (a := ⟨zl, q * 8 + j * 2, none⟩) (by show w.heap.size ≠ zl; omega) (.int .i64 x)).setOther (a := ⟨zl, q * 8 + j * 2 + 1, none⟩) (by show w.heap.size ≠ zl; omega) (.int .i64 y)) (fun hB => ?_)
    clear hK K hB
    try simp only [Act.put, List.setIfInBounds_toArray, List.set_cons_zero, List.set_cons_succ]
    refine wpAnyH_done (by kernel_rfl) ?_ _
    refine NoPanic.normal ?_
    have hm2 : Mod (fun b => b = zb ∨ b = zl) wd ((wd.setCell ⟨zl, q * 8 + j * 2, none⟩ (.int .i64 x)).setCell ⟨zl, q * 8 + j * 2 + 1, none⟩ (.int .i64 y)) := (Mod.setCell (X := fun b => b = zb ∨ b = zl) _ (p := ⟨zl, q * 8 + j * 2, none⟩) (Or.inr rfl) _).trans (Mod.setCell (X := fun b => b = zb ∨ b = zl) _ (p := ⟨zl, q * 8 + j * 2 + 1, none⟩) (Or.inr rfl) _)
    have HL2 : Hid (Row ((wd.setCell ⟨zl, q * 8 + j * 2, none⟩ (.int .i64 x)).setCell ⟨zl, q * 8 + j * 2 + 1, none⟩ (.int .i64 y)) zl (kn * 8) (lc (upd2 p q j x) (upd2 m q j y))) := lc_put HL.out hr4 x y
    have H52 : Hid (Row ((wd.setCell ⟨zl, q * 8 + j * 2, none⟩ (.int .i64 x)).setCell ⟨zl, q * 8 + j * 2 + 1, none⟩ (.int .i64 y)) zb 5 (row5f (upd c t q) (.slice (some ⟨zl, 0, none⟩) kn kn))) := (H5.out.setOther (a := ⟨zl, q * 8 + j * 2, none⟩) hz _).setOther (a := ⟨zl, q * 8 + j * 2 + 1, none⟩) hz _
    have HM2 : Hid (Mod (fun b => b = zb ∨ b = zl) w ((wd.setCell ⟨zl, q * 8 + j * 2, none⟩ (.int .i64 x)).setCell ⟨zl, q * 8 + j * 2 + 1, none⟩ (.int .i64 y))) := HM.out.trans hm2
    clear hm2 HL H5 HM HF P0 l0 l1 f0 f1
    generalize ((wd.setCell ⟨zl, q * 8 + j * 2, none⟩ (.int .i64 x)).setCell ⟨zl, q * 8 + j * 2 + 1, none⟩ (.int .i64 y)) = W2 at *
    obtain ⟨p2, hp2⟩ : ∃ p2, p2 = upd2 p q j x := ⟨_, rfl⟩
    obtain ⟨m2, hm2⟩ : ∃ m2, m2 = upd2 m q j y := ⟨_, rfl⟩
    rw [← hp2, ← hm2] at HL2
    have HP : Hid (p2 = upd2 p q j x) := hp2
    have HQ : Hid (m2 = upd2 m q j y) := hm2
    clear hp2 hm2
    obtain ⟨q0, q1, q2, q3, q4, q5, q6, q7⟩ := lc8 HL2.out hqk
    have g1 : W2.cell? ⟨zb, t, none⟩ = some (.int .i64 q) := by rw [row5_top H52.out hd4, upd_at]
    have f1 := H52.out.frozen t
    by_cases hzz : isZero8 (p2 q) (m2 q)
    · have hne := eql8_same (p2 q) (m2 q) hzz
      have HZZ : Hid (isZero8 (p2 q) (m2 q)) := hzz
      have H53 : Hid (Row (W2.setCell ⟨zb, t, none⟩ (.int .i64 (-1))) zb 5 (row5f (upd c t (-1)) (.slice (some ⟨zl, 0, none⟩) kn kn))) := by have := row5_set H52.out hd4 (-1); rw [upd_upd] at this; exact this
      have HL3 : Hid (Row (W2.setCell ⟨zb, t, none⟩ (.int .i64 (-1))) zl (kn * 8) (lc p2 m2)) := HL2.out.setOther (a := ⟨zb, t, none⟩) (fun e => hz e.symm) _
      have HM3 : Hid (Mod (fun b => b = zb ∨ b = zl) w (W2.setCell ⟨zb, t, none⟩ (.int .i64 (-1)))) := HM2.out.trans (Mod.setCell (X := fun b => b = zb ∨ b = zl) _ (p := ⟨zb, t, none⟩) (Or.inl rfl) _)
      clear hzz HL2 H52 HM2
      go_wp2
      exact bodyPost_ret (v := .bool true) (by simp [results, Try.results210, go_sem]) rfl (Or.inl ⟨q, HGO.out, rfl, by rw [← HP.out, ← HQ.out, topsOf_yes HZZ.out]; exact H53.out, by rw [← HP.out, ← HQ.out]; exact HL3.out, HM3.out⟩)
    · have hne := eql8_other (p2 q) (m2 q) hzz
      have HZZ : Hid (¬ isZero8 (p2 q) (m2 q)) := hzz
      clear hzz
      go_wp2
      exact bodyPost_ret (v := .bool true) (by simp [results, Try.results210, go_sem]) rfl (Or.inl ⟨q, HGO.out, rfl, by rw [← HP.out, ← HQ.out, topsOf_no HZZ.out]; exact H52.out, by rw [← HP.out, ← HQ.out]; exact HL2.out, HM2.out⟩)
  · have hc : c t = -1 := by omega
    have g1 : (w.alloc (.cells #[.int .i64 x, .int .i64 y] 189)).cell? ⟨zb, t, none⟩ = some (.int .i64 (-1)) := by rw [row5_top H5.out hd4, hc]
    have HC : Hid (c t = -1) := hc
    obtain ⟨p0, p1, p2, p3, p4⟩ := get5 H5.out
    clear h0 htop hc
    go_wp2_with fail
    clear g1 p0 p1 p2 p3 p4
    refine (idle_any c zl kn _ hk).mono ?_
    rintro e w1 ⟨⟨q, ⟨hid, rfl⟩ | ⟨hno, rfl⟩⟩, hb1⟩
    · have hqk : q < kn := hid.1
      have HGO : Hid (goes c kn t q) := Or.inr ⟨HC.out, hid⟩
      replace HF : Hid (Row w1 w.heap.size 2 (fun i => if i = 0 then .int .i64 x else .int .i64 y)) := HF.out.blw hb1
      replace H5 : Hid (Row w1 zb 5 (row5f c (.slice (some ⟨zl, 0, none⟩) kn kn))) := H5.out.blw hb1
      replace HL : Hid (Row w1 zl (kn * 8) (lc p m)) := HL.out.blw hb1
      replace HM : Hid (Mod (fun b => b = zb ∨ b = zl) w w1) := HM.out.trans (hb1.mod _)
      have g1 := row5_top H5.out hd4
      have f1 := H5.out.frozen t
      replace H5 : Hid (Row (w1.setCell ⟨zb, t, none⟩ (.int .i64 q)) zb 5 (row5f (upd c t q) (.slice (some ⟨zl, 0, none⟩) kn kn))) := row5_set H5.out hd4 q
      replace HL : Hid (Row (w1.setCell ⟨zb, t, none⟩ (.int .i64 q)) zl (kn * 8) (lc p m)) := HL.out.setOther (a := ⟨zb, t, none⟩) (fun e => hz e.symm) _
      replace HF : Hid (Row (w1.setCell ⟨zb, t, none⟩ (.int .i64 q)) w.heap.size 2 (fun i => if i = 0 then .int .i64 x else .int .i64 y)) := HF.out.setOther (a := ⟨zb, t, none⟩) (by show w.heap.size ≠ zb; omega) _
      replace HM : Hid (Mod (fun b => b = zb ∨ b = zl) w (w1.setCell ⟨zb, t, none⟩ (.int .i64 q))) := HM.out.trans (Mod.setCell (X := fun b => b = zb ∨ b = zl) _ (p := ⟨zb, t, none⟩) (Or.inl rfl) _)
      clear hid hb1 HC HA
      go_upto_region 7 with fail
      clear g1 f1
      generalize w1.setCell ⟨zb, t, none⟩ (.int .i64 q) = W at *
      have hqk' : (q : Int) < (kn : Int) := by omega
      have PT : ∀ w', Row w' zb 5 (row5f (upd c t q) (.slice (some ⟨zl, 0, none⟩) kn kn)) → w'.cell? ⟨zb, t, none⟩ = some (.int .i64 q) := fun w' hh => by rw [row5_top hh hd4, upd_at]
      have P4 : ∀ w', Row w' zb 5 (row5f (upd c t q) (.slice (some ⟨zl, 0, none⟩) kn kn)) → w'.cell? ⟨zb, 4, none⟩ = some (.slice (some ⟨zl, 0, none⟩) kn kn) := fun w' hh => (get5 hh).2.2.2.2
      replace HF : Hid (Row W.drew w.heap.size 2 (fun i => if i = 0 then .int .i64 x else .int .i64 y)) := HF.out.blw (Blw.refl _).drew
      replace H5 : Hid (Row W.drew zb 5 (row5f (upd c t q) (.slice (some ⟨zl, 0, none⟩) kn kn))) := H5.out.blw (Blw.refl _).drew
      replace HL : Hid (Row W.drew zl (kn * 8) (lc p m)) := HL.out.blw (Blw.refl _).drew
      replace HM : Hid (Mod (fun b => b = zb ∨ b = zl) w W.drew) := HM.out.trans ((Blw.refl _).drew.mod _)
      refine wp_region_noPanic ?_
      refine wp_region_held_drew (S := fun w' => Row w' zb 5 (row5f (upd c t q) (.slice (some ⟨zl, 0, none⟩) kn kn))) (by kernel_rfl) H5.out (fun hB => ?_)
      clear hB
      generalize W.drew = wd at *
      refine wpAnyH_take (i := 0) (oi := { dst := some 33, op := Op.move (Operand.tmp 0), type := 247, pos := _, after := #[], guard := none }) (v := (.pointer (some ⟨zb, 0, none⟩))) rfl (by kernel_rfl) (by kernel_rfl) (by kernel_rfl) (fun _ _ _ h => h) (Or.inl ⟨by rfl, fun w' hS => by (try dsimp only at hS); go_simp⟩) H5.out ?_
      simp only [Act.put, List.setIfInBounds_toArray, List.set_cons_zero, List.set_cons_succ]
      refine wpAnyH_take (i := 4) (oi := { dst := some 37, op := Op.move (Operand.tmp 7), type := 248, pos := _, after := #[], guard := none }) (v := (.pointer (some ⟨zb, t, none⟩))) rfl (by kernel_rfl) (by kernel_rfl) (by kernel_rfl) (fun _ _ _ h => h) (Or.inl ⟨by rfl, fun w' hS => by (try dsimp only at hS); go_simp⟩) H5.out ?_
      simp only [Act.put, List.setIfInBounds_toArray, List.set_cons_zero, List.set_cons_succ]
      refine wpAnyH_take (i := 1) (oi := { dst := some 34, op := Op.nilCheck (Operand.tmp 33), type := 0, pos := _, after := #[{ on := 0, ground := Ground.data }], guard := none }) (v := (.pointer (some ⟨zb, 0, none⟩))) rfl (by kernel_rfl) (by kernel_rfl) (by kernel_rfl) (fun _ _ _ h => h) (Or.inl ⟨by rfl, fun w' hS => by (try dsimp only at hS); go_simp⟩) H5.out ?_
      simp only [Act.put, List.setIfInBounds_toArray, List.set_cons_zero, List.set_cons_succ]
      refine wpAnyH_take (i := 5) (oi := { dst := some 38, op := Op.nilCheck (Operand.tmp 37), type := 0, pos := _, after := #[{ on := 4, ground := Ground.data }], guard := none }) (v := (.pointer (some ⟨zb, t, none⟩))) rfl (by kernel_rfl) (by kernel_rfl) (by kernel_rfl) (fun _ _ _ h => h) (Or.inl ⟨by rfl, fun w' hS => by (try dsimp only at hS); go_simp⟩) H5.out ?_
      simp only [Act.put, List.setIfInBounds_toArray, List.set_cons_zero, List.set_cons_succ]
      refine wpAnyH_take (i := 2) (oi := { dst := some 35, op := Op.fieldAddr 136 (Operand.tmp 34) 1, type := 0, pos := _, after := #[{ on := 1, ground := Ground.data }], guard := none }) (v := (.pointer (some ⟨zb, 4, none⟩))) rfl (by kernel_rfl) (by kernel_rfl) (by kernel_rfl) (fun _ _ _ h => h) (Or.inl ⟨by rfl, fun w' hS => by (try dsimp only at hS); go_simp⟩) H5.out ?_
      simp only [Act.put, List.setIfInBounds_toArray, List.set_cons_zero, List.set_cons_succ]
      refine wpAnyH_take (i := 6) (oi := { dst := some 39, op := Op.load 3 (Operand.tmp 38), type := 3, pos := _, after := #[{ on := 5, ground := Ground.data }], guard := none }) (v := (.int .i64 q)) rfl (by kernel_rfl) (by kernel_rfl) (by kernel_rfl) (fun _ _ _ h => h) (Or.inl ⟨by rfl, fun w' hS => by (try dsimp only at hS); go_simp⟩) H5.out ?_
      simp only [Act.put, List.setIfInBounds_toArray, List.set_cons_zero, List.set_cons_succ]
      refine wpAnyH_take (i := 3) (oi := { dst := some 36, op := Op.load 134 (Operand.tmp 35), type := 134, pos := _, after := #[{ on := 2, ground := Ground.data }], guard := none }) (v := (.slice (some ⟨zl, 0, none⟩) kn kn)) rfl (by kernel_rfl) (by kernel_rfl) (by kernel_rfl) (fun _ _ _ h => h) (Or.inl ⟨by rfl, fun w' hS => by (try dsimp only at hS); go_simp⟩) H5.out ?_
      simp only [Act.put, List.setIfInBounds_toArray, List.set_cons_zero, List.set_cons_succ]
      refine wpAnyH_take (i := 7) (oi := { dst := some 40, op := Op.indexAddr 134 (Operand.tmp 36) (Operand.tmp 39), type := 0, pos := _, after := #[{ on := 3, ground := Ground.data }, { on := 6, ground := Ground.data }], guard := none }) (v := (.pointer (some ⟨zl, q * 8, none⟩))) rfl (by kernel_rfl) (by kernel_rfl) (by kernel_rfl) (fun _ _ _ h => h) (Or.inl ⟨by rfl, fun w' hS => by (try dsimp only at hS); go_simp⟩) H5.out ?_
      simp only [Act.put, List.setIfInBounds_toArray, List.set_cons_zero, List.set_cons_succ]
      refine wpAnyH_take (i := 8) (oi := { dst := some 10, op := Op.assign (Operand.tmp 40), type := 251, pos := _, after := #[{ on := 7, ground := Ground.data }, { on := 0, ground := Ground.phase }, { on := 1, ground := Ground.phase }, { on := 2, ground := Ground.phase }, { on := 3, ground := Ground.phase }, { on := 4, ground := Ground.phase }, { on := 5, ground := Ground.phase }, { on := 6, ground := Ground.phase }, { on := 7, ground := Ground.phase }], guard := none }) (v := (.pointer (some ⟨zl, q * 8, none⟩))) rfl (by kernel_rfl) (by kernel_rfl) (by kernel_rfl) (fun _ _ _ h => h) (Or.inl ⟨by rfl, fun w' hS => by (try dsimp only at hS); go_simp⟩) H5.out ?_
      simp only [Act.put, List.setIfInBounds_toArray, List.set_cons_zero, List.set_cons_succ]
      refine wpAnyH_done (by kernel_rfl) ?_ _
      refine NoPanic.normal ?_
      clear PT P4
      go_upto_region 8 with fail
      replace HF : Hid (Row wd.drew w.heap.size 2 (fun i => if i = 0 then .int .i64 x else .int .i64 y)) := HF.out.blw (Blw.refl _).drew
      replace H5 : Hid (Row wd.drew zb 5 (row5f (upd c t q) (.slice (some ⟨zl, 0, none⟩) kn kn))) := H5.out.blw (Blw.refl _).drew
      replace HL : Hid (Row wd.drew zl (kn * 8) (lc p m)) := HL.out.blw (Blw.refl _).drew
      replace HM : Hid (Mod (fun b => b = zb ∨ b = zl) w wd.drew) := HM.out.trans ((Blw.refl _).drew.mod _)
      have P0 : ∀ w', Row w' w.heap.size 2 (fun i => if i = 0 then .int .i64 x else .int .i64 y) → w'.cell? ⟨w.heap.size, 0, none⟩ = some (.int .i64 x) ∧ w'.cell? ⟨w.heap.size, 1, none⟩ = some (.int .i64 y) := fun w' hh => get2 hh
      have l0 := (lc_at HL.out hqk hr4).1
      have l1 := (lc_at HL.out hqk hr4).2
      have f0 := HL.out.frozen (q * 8 + j * 2)
      have f1 := HL.out.frozen (q * 8 + j * 2 + 1)
      refine wp_region_noPanic ?_
      refine wp_region_held_drew (S := fun w' => Row w' w.heap.size 2 (fun i => if i = 0 then .int .i64 x else .int .i64 y)) (by kernel_rfl) HF.out (fun hB => ?_)
      clear hB
      generalize wd.drew = wd at *
      refine wpAnyH_take (i := 0) (oi := { dst := some 41, op := Op.move (Operand.tmp 10), type := 251, pos := _, after := #[], guard := none }) (v := (.pointer (some ⟨zl, q * 8, none⟩))) rfl (by kernel_rfl) (by kernel_rfl) (by kernel_rfl) (fun _ _ _ h => h) (Or.inl ⟨by rfl, fun w' hS => by (try dsimp only at hS); go_simp⟩) HF.out ?_
      simp only [Act.put, List.setIfInBounds_toArray, List.set_cons_zero, List.set_cons_succ]
      refine wpAnyH_take (i := 1) (oi := { dst := some 42, op := Op.move (Operand.tmp 1), type := 3, pos := _, after := #[], guard := none }) (v := (.int .i64 a)) rfl (by kernel_rfl) (by kernel_rfl) (by kernel_rfl) (fun _ _ _ h => h) (Or.inl ⟨by rfl, fun w' hS => by (try dsimp only at hS); go_simp⟩) HF.out ?_
      simp only [Act.put, List.setIfInBounds_toArray, List.set_cons_zero, List.set_cons_succ]
      refine wpAnyH_take (i := 3) (oi := { dst := some 44, op := Op.load 189 (Operand.tmp 5), type := 189, pos := _, after := #[], guard := none }) (v := (.agg #[.int .i64 x, .int .i64 y])) rfl (by kernel_rfl) (by kernel_rfl) (by kernel_rfl) (fun _ _ _ h => h) (Or.inl ⟨by rfl, fun w' hS => by (try dsimp only at hS); go_simp⟩) HF.out ?_
      simp only [Act.put, List.setIfInBounds_toArray, List.set_cons_zero, List.set_cons_succ]
      refine wpAnyH_take (i := 2) (oi := { dst := some 43, op := Op.binOp BinOp.rem 3 (Operand.tmp 42) (Operand.const (Value.int IntKind.i64 4)) 3, type := 3, pos := _, after := #[{ on := 1, ground := Ground.data }], guard := none }) (v := (.int .i64 j)) rfl (by kernel_rfl) (by kernel_rfl) (by kernel_rfl) (fun _ _ _ h => h) (Or.inl ⟨by rfl, fun w' hS => by (try dsimp only at hS); go_simp⟩) HF.out ?_
      simp only [Act.put, List.setIfInBounds_toArray, List.set_cons_zero, List.set_cons_succ]
      refine wpAnyH_take (i := 4) (oi := { dst := some 45, op := Op.nilCheck (Operand.tmp 41), type := 0, pos := _, after := #[{ on := 0, ground := Ground.data }], guard := none }) (v := (.pointer (some ⟨zl, q * 8, none⟩))) rfl (by kernel_rfl) (by kernel_rfl) (by kernel_rfl) (fun _ _ _ h => h) (Or.inl ⟨by rfl, fun w' hS => by (try dsimp only at hS); go_simp⟩) HF.out ?_
      simp only [Act.put, List.setIfInBounds_toArray, List.set_cons_zero, List.set_cons_succ]
      refine wpAnyH_take (i := 5) (oi := { dst := some 46, op := Op.indexAddr 202 (Operand.tmp 45) (Operand.tmp 43), type := 0, pos := _, after := #[{ on := 4, ground := Ground.data }, { on := 2, ground := Ground.data }, { on := 0, ground := Ground.phase }, { on := 1, ground := Ground.phase }, { on := 2, ground := Ground.phase }, { on := 3, ground := Ground.phase }], guard := none }) (v := (.pointer (some ⟨zl, q * 8 + j * 2, none⟩))) rfl (by kernel_rfl) (by kernel_rfl) (by kernel_rfl) (fun _ _ _ h => h) (Or.inl ⟨by rfl, fun w' hS => by (try dsimp only at hS); go_simp⟩) HF.out ?_
      simp only [Act.put, List.setIfInBounds_toArray, List.set_cons_zero, List.set_cons_succ]
      refine wpAnyH_ready (rs := [6]) (by kernel_rfl) (by simp) ?_
      refine AllReadyH.cons (o := { dst := none, op := Op.store 189 (Operand.tmp 46) (Operand.tmp 44), type := 0, pos := _, after := #[{ on := 5, ground := Ground.data }, { on := 3, ground := Ground.data }, { on := 0, ground := Ground.phase }, { on := 1, ground := Ground.phase }, { on := 2, ground := Ground.phase }, { on := 3, ground := Ground.phase }], guard := none }) rfl (fun K hK => ?_) AllReadyH.nil
      go_simp
      refine hK.out _ _ ((HF.out.setOther (a := ⟨zl, q * 8 + j * 2, none⟩) (by show w.heap.size ≠ zl; omega) (.int .i64 x)).setOther (a := ⟨zl, q * 8 + j * 2 + 1, none⟩) (by show w.heap.size ≠ zl; omega) (.int .i64 y)) (fun hB => ?_)
      clear hK K hB
      try simp only [Act.put, List.setIfInBounds_toArray, List.set_cons_zero, List.set_cons_succ]
      refine wpAnyH_done (by kernel_rfl) ?_ _
      refine NoPanic.normal ?_
      have hm2 : Mod (fun b => b = zb ∨ b = zl) wd ((wd.setCell ⟨zl, q * 8 + j * 2, none⟩ (.int .i64 x)).setCell ⟨zl, q * 8 + j * 2 + 1, none⟩ (.int .i64 y)) := (Mod.setCell (X := fun b => b = zb ∨ b = zl) _ (p := ⟨zl, q * 8 + j * 2, none⟩) (Or.inr rfl) _).trans (Mod.setCell (X := fun b => b = zb ∨ b = zl) _ (p := ⟨zl, q * 8 + j * 2 + 1, none⟩) (Or.inr rfl) _)
      have HL2 : Hid (Row ((wd.setCell ⟨zl, q * 8 + j * 2, none⟩ (.int .i64 x)).setCell ⟨zl, q * 8 + j * 2 + 1, none⟩ (.int .i64 y)) zl (kn * 8) (lc (upd2 p q j x) (upd2 m q j y))) := lc_put HL.out hr4 x y
      have H52 : Hid (Row ((wd.setCell ⟨zl, q * 8 + j * 2, none⟩ (.int .i64 x)).setCell ⟨zl, q * 8 + j * 2 + 1, none⟩ (.int .i64 y)) zb 5 (row5f (upd c t q) (.slice (some ⟨zl, 0, none⟩) kn kn))) := (H5.out.setOther (a := ⟨zl, q * 8 + j * 2, none⟩) hz _).setOther (a := ⟨zl, q * 8 + j * 2 + 1, none⟩) hz _
      have HM2 : Hid (Mod (fun b => b = zb ∨ b = zl) w ((wd.setCell ⟨zl, q * 8 + j * 2, none⟩ (.int .i64 x)).setCell ⟨zl, q * 8 + j * 2 + 1, none⟩ (.int .i64 y))) := HM.out.trans hm2
      clear hm2 HL H5 HM HF P0 l0 l1 f0 f1
      generalize ((wd.setCell ⟨zl, q * 8 + j * 2, none⟩ (.int .i64 x)).setCell ⟨zl, q * 8 + j * 2 + 1, none⟩ (.int .i64 y)) = W2 at *
      obtain ⟨p2, hp2⟩ : ∃ p2, p2 = upd2 p q j x := ⟨_, rfl⟩
      obtain ⟨m2, hm2⟩ : ∃ m2, m2 = upd2 m q j y := ⟨_, rfl⟩
      rw [← hp2, ← hm2] at HL2
      have HP : Hid (p2 = upd2 p q j x) := hp2
      have HQ : Hid (m2 = upd2 m q j y) := hm2
      clear hp2 hm2
      obtain ⟨q0, q1, q2, q3, q4, q5, q6, q7⟩ := lc8 HL2.out hqk
      have g1 : W2.cell? ⟨zb, t, none⟩ = some (.int .i64 q) := by rw [row5_top H52.out hd4, upd_at]
      have f1 := H52.out.frozen t
      by_cases hzz : isZero8 (p2 q) (m2 q)
      · have hne := eql8_same (p2 q) (m2 q) hzz
        have HZZ : Hid (isZero8 (p2 q) (m2 q)) := hzz
        have H53 : Hid (Row (W2.setCell ⟨zb, t, none⟩ (.int .i64 (-1))) zb 5 (row5f (upd c t (-1)) (.slice (some ⟨zl, 0, none⟩) kn kn))) := by have := row5_set H52.out hd4 (-1); rw [upd_upd] at this; exact this
        have HL3 : Hid (Row (W2.setCell ⟨zb, t, none⟩ (.int .i64 (-1))) zl (kn * 8) (lc p2 m2)) := HL2.out.setOther (a := ⟨zb, t, none⟩) (fun e => hz e.symm) _
        have HM3 : Hid (Mod (fun b => b = zb ∨ b = zl) w (W2.setCell ⟨zb, t, none⟩ (.int .i64 (-1)))) := HM2.out.trans (Mod.setCell (X := fun b => b = zb ∨ b = zl) _ (p := ⟨zb, t, none⟩) (Or.inl rfl) _)
        clear hzz HL2 H52 HM2
        go_wp2
        exact bodyPost_ret (v := .bool true) (by simp [results, Try.results210, go_sem]) rfl (Or.inl ⟨q, HGO.out, rfl, by rw [← HP.out, ← HQ.out, topsOf_yes HZZ.out]; exact H53.out, by rw [← HP.out, ← HQ.out]; exact HL3.out, HM3.out⟩)
      · have hne := eql8_other (p2 q) (m2 q) hzz
        have HZZ : Hid (¬ isZero8 (p2 q) (m2 q)) := hzz
        clear hzz
        go_wp2
        exact bodyPost_ret (v := .bool true) (by simp [results, Try.results210, go_sem]) rfl (Or.inl ⟨q, HGO.out, rfl, by rw [← HP.out, ← HQ.out, topsOf_no HZZ.out]; exact H52.out, by rw [← HP.out, ← HQ.out]; exact HL2.out, HM2.out⟩)
    · have HN : Hid (¬ ∃ q, goes c kn t q) := fun ⟨q, g⟩ => by
        rcases g with g | ⟨-, g⟩
        · have := HC.out; omega
        · exact hno ⟨q, g⟩
      have HBB : Hid (Blw w w1) := HA.out.trans hb1
      clear hno hb1 HC
      go_wp2
      exact bodyPost_ret (v := .bool false) (by simp [results, Try.results210, go_sem]) rfl (Or.inr ⟨HN.out, rfl, HBB.out⟩)
end Go.Proofs.Ytbpdopcdhnemfaa
/- WalkTo: the model's, the program's, and the law. -/
namespace Go.Proofs.Ytbpdopcdhnemfaa
open Go.RowKit
set_option linter.unusedSimpArgs false
set_option linter.unusedVariables false
def wtOK (B : BD) (a k : Int) : Prop := B.Good ∧ pgOK a ∧ mayOK k
/-- What a leaf may has all of k. -/
def hasMay (y k : Int) : Prop := bits .and .i64 y k = k
def wtOut (B : BD) (a k x y : Int) (r : Bool) : Prop := (¬ wtOK B a k ∧ x = 0 ∧ y = 0 ∧ r = false) ∨ (wtOK B a k ∧ y = lfP B.c B.D.m a.toNat ∧ ((hasMay (lfP B.c B.D.m a.toNat) k ∧ x = lfP B.c B.D.p a.toNat ∧ r = true) ∨ (¬ hasMay (lfP B.c B.D.m a.toNat) k ∧ x = 0 ∧ r = false)))
theorem wtOut_same {B : BD} {a k x y x' y' : Int} {r r' : Bool} (h : wtOut B a k x y r) (j : wtOut B a k x' y' r') : x = x' ∧ y = y' ∧ r = r' := by
  rcases h with ⟨g, rfl, rfl, rfl⟩ | ⟨g, rfl, h⟩
  · rcases j with ⟨_, rfl, rfl, rfl⟩ | ⟨g', _⟩
    · exact ⟨rfl, rfl, rfl⟩
    · exact absurd g' g
  · rcases j with ⟨g', _⟩ | ⟨_, rfl, j⟩
    · exact absurd g g'
    · rcases h with ⟨q, rfl, rfl⟩ | ⟨q, rfl, rfl⟩ <;> rcases j with ⟨q', rfl, rfl⟩ | ⟨q', rfl, rfl⟩
      · exact ⟨rfl, rfl, rfl⟩
      · exact absurd q q'
      · exact absurd q' q
      · exact ⟨rfl, rfl, rfl⟩
set_option maxHeartbeats 400000 in
theorem l6At_any (n : Int) (w : World) : Calls Try.prog 106 #[.int .i64 n] w fun e w' => ∃ r, e = .returned (.bool r) ∧ (r = true ↔ pgOK n) ∧ w' = w := by
  go_enter Try.func106, Try.ntmps106
  go_wp2_with fail
  refine (l1In_any n 0 15 _).mono ?_
  rintro e w' ⟨r, rfl, hr, hw⟩
  subst hw
  have HR : Hid (r = true ↔ pgOK n) := hr
  clear hr
  go_wp2
  go_ret
  exact ⟨r, rfl, HR.out, rfl⟩
set_option maxHeartbeats 3200000 in
theorem specWalk_any (b : BV) (B : BD) (a k : Int) (Y : Nat → Prop) (w : World) (hn : B.n ≤ 1048576) (h : BookAt Y w b B) :
    Calls Try.prog 90 #[b.val B, .int .i64 a, .int .i64 k] w fun e w' => ∃ x y r, e = .returned (.tuple #[.int .i64 x, .int .i64 y, .bool r]) ∧ wtOut B a k x y r ∧ Blw w w' := by
  have hb0 : Blw w (w.alloc (.cells #[.slice b.a1 B.n b.c1, .slice b.a2 B.D.n b.c2] 29)) := (Blw.refl _).alloc _
  have r0 := box2 w (.slice b.a1 B.n b.c1) (.slice b.a2 B.D.n b.c2) 29
  have HA : Hid (BookAt Y (w.alloc (.cells #[.slice b.a1 B.n b.c1, .slice b.a2 B.D.n b.c2] 29)) b B) := h.blw hb0
  clear h
  go_enter Try.func90, Try.ntmps90
  go_wp2_with fail
  refine (specGood_any b B Y _ hn HA.out).mono ?_
  rintro e w1 ⟨r, rfl, hr, hb1⟩
  have HT : Hid (r = true ↔ B.Good) := hr
  have HB : Hid (Blw w w1) := hb0.trans hb1
  have HR0 : Hid (Row w1 w.heap.size 2 (fun i => if i = 0 then .slice b.a1 B.n b.c1 else .slice b.a2 B.D.n b.c2)) := r0.blw hb1
  replace HA : Hid (BookAt Y w1 b B) := HA.out.blw hb1
  clear hr hb0 hb1 r0
  cases r
  · have HN : Hid (¬ B.Good) := fun g => by have := HT.out.2 g; simp at this
    clear HT
    go_wp2
    exact bodyPost_ret (v := .tuple #[.int .i64 0, .int .i64 0, .bool false]) (by simp [results, Try.results90, go_sem]) rfl ⟨_, _, _, rfl, Or.inl ⟨fun q => HN.out q.1, rfl, rfl, rfl⟩, HB.out⟩
  have HG : Hid (B.Good) := HT.out.1 (by first | rfl | trivial)
  clear HT
  go_wp2_with fail
  refine (l6At_any a _).mono ?_
  rintro e w1 ⟨r, rfl, hr, rfl⟩
  have HT : Hid (r = true ↔ pgOK a) := hr
  clear hr
  cases r
  · have HN : Hid (¬ pgOK a) := fun g => by have := HT.out.2 g; simp at this
    clear HT
    go_wp2
    exact bodyPost_ret (v := .tuple #[.int .i64 0, .int .i64 0, .bool false]) (by simp [results, Try.results90, go_sem]) rfl ⟨_, _, _, rfl, Or.inl ⟨fun q => HN.out q.2.1, rfl, rfl, rfl⟩, HB.out⟩
  have H1 : Hid (pgOK a) := HT.out.1 (by first | rfl | trivial)
  clear HT
  go_wp2_with fail
  refine (l1In_any k 1 3 _).mono ?_
  rintro e w1 ⟨r, rfl, hr, rfl⟩
  have HT : Hid (r = true ↔ (1 ≤ k ∧ k ≤ 3)) := hr
  clear hr
  cases r
  · have HN : Hid (¬ (1 ≤ k ∧ k ≤ 3)) := fun g => by have := HT.out.2 g; simp at this
    clear HT
    go_wp2
    exact bodyPost_ret (v := .tuple #[.int .i64 0, .int .i64 0, .bool false]) (by simp [results, Try.results90, go_sem]) rfl ⟨_, _, _, rfl, Or.inl ⟨fun q => HN.out q.2.2, rfl, rfl, rfl⟩, HB.out⟩
  have H2 : Hid (mayOK k) := HT.out.1 (by first | rfl | trivial)
  clear HT
  obtain ⟨n, c, ⟨kn, len, p, m⟩⟩ := B
  obtain ⟨a1, a2, q1, q2⟩ := b
  have hn4 : n = 4 := HG.out.n
  subst hn4
  simp only [BV.val] at *
  obtain ⟨x, hx, hx16⟩ : ∃ x : Nat, a = x ∧ x < 16 := ⟨a.toNat, by have := H1.out; unfold pgOK at this; omega, by have := H1.out; unfold pgOK at this; omega⟩
  subst hx
  obtain ⟨p0, p1⟩ := get2 HR0.out
  go_wp2_with fail
  clear p0 p1
  refine (l6Find_any ⟨a1, a2, q1, q2⟩ c kn len p m x Y _ HG.out hx16 HA.out).mono ?_
  rintro e w2 ⟨rfl, hb2⟩
  have hA : Blw w2 (w2.alloc (.cells #[.int .i64 (lfP c p x), .int .i64 (lfP c m x)] 189)) := (Blw.refl _).alloc _
  obtain ⟨l0, l1⟩ := get2 (box2 w2 (.int .i64 (lfP c p x)) (.int .i64 (lfP c m x)) 189)
  have L0 : ∀ w', Blw (w2.alloc (.cells #[.int .i64 (lfP c p x), .int .i64 (lfP c m x)] 189)) w' → w'.cell? ⟨w2.heap.size, 0, none⟩ = some (.int .i64 (lfP c p x)) := fun w' hh => hh.cell l0
  have L1 : ∀ w', Blw (w2.alloc (.cells #[.int .i64 (lfP c p x), .int .i64 (lfP c m x)] 189)) w' → w'.cell? ⟨w2.heap.size, 1, none⟩ = some (.int .i64 (lfP c m x)) := fun w' hh => hh.cell l1
  have HW : Hid (Blw w (w2.alloc (.cells #[.int .i64 (lfP c p x), .int .i64 (lfP c m x)] 189))) := (HB.out.trans hb2).trans hA
  have OKK : Hid (wtOK ⟨4, c, ⟨kn, len, p, m⟩⟩ (x : Int) k) := ⟨HG.out, H1.out, H2.out⟩
  clear hb2 hA
  by_cases hm : hasMay (lfP c m x) k
  · have HM : Hid (hasMay (lfP c m x) k) := hm
    have d1 : (bits .and .i64 (lfP c m x) k != k) = false := by rw [show bits .and .i64 (lfP c m x) k = k from hm]; simp
    clear hm
    go_wp2_with fail
    go_quiet (fail)
    go_wp2
    exact bodyPost_ret (v := .tuple #[.int .i64 (lfP c p x), .int .i64 (lfP c m x), .bool true]) (by simp [results, Try.results90, go_sem]) rfl ⟨_, _, _, rfl, Or.inr ⟨OKK.out, by rw [Int.toNat_natCast], Or.inl ⟨by rw [Int.toNat_natCast]; exact HM.out, by rw [Int.toNat_natCast], rfl⟩⟩, HW.out.drewN _⟩
  · have HM : Hid (¬ hasMay (lfP c m x) k) := hm
    have d1 : (bits .and .i64 (lfP c m x) k != k) = true := by simp; exact hm
    clear hm
    go_wp2_with fail
    go_quiet (fail)
    go_wp2
    exact bodyPost_ret (v := .tuple #[.int .i64 0, .int .i64 (lfP c m x), .bool false]) (by simp [results, Try.results90, go_sem]) rfl ⟨_, _, _, rfl, Or.inr ⟨OKK.out, by rw [Int.toNat_natCast], Or.inr ⟨by rw [Int.toNat_natCast]; exact HM.out, rfl, rfl⟩⟩, HW.out.drewN _⟩
/-- What a look-up in a held table tells. -/
def luOut (c : Nat → Int) (p m : Nat → Nat → Int) (a : Nat) (k x y : Int) (r : Bool) : Prop :=
  y = lfP c m a ∧ ((hasMay (lfP c m a) k ∧ x = lfP c p a ∧ r = true) ∨ (¬ hasMay (lfP c m a) k ∧ x = 0 ∧ r = false))
set_option maxHeartbeats 3200000 in
theorem lookUp_any (c : Nat → Int) (zl kn : Nat) (p m : Nat → Nat → Int) (a : Nat) (k : Int) (w : World) (hk : kn ≤ 4) (ht : ∀ i, i < 4 → -1 ≤ c i ∧ c i ≤ (kn : Int) - 1) (ha : a < 16) (h : Row w zl (kn * 8) (lc p m)) :
    Calls Try.prog 105 #[.agg (held5 c zl kn), .int .i64 a, .int .i64 k] w fun e w' => ∃ x y r, e = .returned (.tuple #[.int .i64 x, .int .i64 y, .bool r]) ∧ luOut c p m a k x y r ∧ Blw w w' := by
  have hA : Blw w (w.alloc (.cells (held5 c zl kn) 136)) := (Blw.refl _).alloc _
  have HR5 : Hid (Row (w.alloc (.cells (held5 c zl kn) 136)) w.heap.size 5 (row5f c (.slice (some ⟨zl, 0, none⟩) kn kn))) := row5 w (.int .i64 (c 0)) (.int .i64 (c 1)) (.int .i64 (c 2)) (.int .i64 (c 3)) (.slice (some ⟨zl, 0, none⟩) kn kn) 136
  have HRL : Hid (Row (w.alloc (.cells (held5 c zl kn) 136)) zl (kn * 8) (lc p m)) := h.blw hA
  have HB : Hid (Blw w (w.alloc (.cells (held5 c zl kn) 136))) := hA
  have HTT : Hid (∀ i, i < 4 → -1 ≤ c i ∧ c i ≤ (kn : Int) - 1) := ht
  clear h hA ht
  go_enter Try.func105, Try.ntmps105
  obtain ⟨p0, p1, p2, p3, p4⟩ := get5 HR5.out
  go_wp2_with fail
  clear p0 p1 p2 p3 p4
  refine (leafAt_any c zl kn p m a _ hk HTT.out ha HRL.out).mono ?_
  rintro e w3 ⟨rfl, hb2⟩
  have hA : Blw w3 (w3.alloc (.cells #[.int .i64 (lfP c p a), .int .i64 (lfP c m a)] 189)) := (Blw.refl _).alloc _
  obtain ⟨l0, l1⟩ := get2 (box2 w3 (.int .i64 (lfP c p a)) (.int .i64 (lfP c m a)) 189)
  have L0 : ∀ w', Blw (w3.alloc (.cells #[.int .i64 (lfP c p a), .int .i64 (lfP c m a)] 189)) w' → w'.cell? ⟨w3.heap.size, 0, none⟩ = some (.int .i64 (lfP c p a)) := fun w' hh => hh.cell l0
  have L1 : ∀ w', Blw (w3.alloc (.cells #[.int .i64 (lfP c p a), .int .i64 (lfP c m a)] 189)) w' → w'.cell? ⟨w3.heap.size, 1, none⟩ = some (.int .i64 (lfP c m a)) := fun w' hh => hh.cell l1
  have HW : Hid (Blw w (w3.alloc (.cells #[.int .i64 (lfP c p a), .int .i64 (lfP c m a)] 189))) := (HB.out.trans hb2).trans hA
  clear hb2 hA
  by_cases hm : hasMay (lfP c m a) k
  · have HM : Hid (hasMay (lfP c m a) k) := hm
    have d1 : (bits .and .i64 (lfP c m a) k != k) = false := by rw [show bits .and .i64 (lfP c m a) k = k from hm]; simp
    clear hm
    go_wp2_with fail
    go_quiet (fail)
    go_wp2
    exact bodyPost_ret (v := .tuple #[.int .i64 (lfP c p a), .int .i64 (lfP c m a), .bool true]) (by simp [results, Try.results105, go_sem]) rfl ⟨_, _, _, rfl, ⟨rfl, Or.inl ⟨HM.out, rfl, rfl⟩⟩, by first | exact HW.out.drewN _ | exact HW.out | exact HW.out.drew⟩
  · have HM : Hid (¬ hasMay (lfP c m a) k) := hm
    have d1 : (bits .and .i64 (lfP c m a) k != k) = true := by simp; exact hm
    clear hm
    go_wp2_with fail
    go_quiet (fail)
    go_wp2
    exact bodyPost_ret (v := .tuple #[.int .i64 0, .int .i64 (lfP c m a), .bool false]) (by simp [results, Try.results105, go_sem]) rfl ⟨_, _, _, rfl, ⟨rfl, Or.inr ⟨HM.out, rfl, rfl⟩⟩, by first | exact HW.out.drewN _ | exact HW.out | exact HW.out.drew⟩
set_option maxHeartbeats 3200000 in
theorem implWalk_any (b : BV) (B : BD) (a k : Int) (Y : Nat → Prop) (w : World) (h : BookAt Y w b B) (hY : ∀ x, Y x → x < w.heap.size) :
    Calls Try.prog 28 #[b.val B, .int .i64 a, .int .i64 k] w fun e w' => ∃ x y r, e = .returned (.tuple #[.int .i64 x, .int .i64 y, .bool r]) ∧ wtOut B a k x y r ∧ Blw w w' := by
  have hb0 : Blw w (w.alloc (.cells #[.slice b.a1 B.n b.c1, .slice b.a2 B.D.n b.c2] 29)) := (Blw.refl _).alloc _
  have HA : Hid (BookAt Y (w.alloc (.cells #[.slice b.a1 B.n b.c1, .slice b.a2 B.D.n b.c2] 29)) b B) := h.blw hb0
  clear h
  go_enter Try.func28, Try.ntmps28
  go_wp2_with fail
  refine (hold_any b B Y _ HA.out (fun x hx => by have := hY x hx; simp; omega)).mono ?_
  rintro e w1 ⟨h1, hb1⟩
  replace hb1 := hb0.trans hb1
  clear hb0 HA
  rcases h1 with ⟨z, hg, rfl, hrow, -⟩ | ⟨hg, rfl⟩
  case inr =>
    have HG : Hid (¬ B.Good) := hg
    have HB : Hid (Blw w (w1.alloc (.cells zero5 136))) := hb1.alloc _
    clear hg hb1
    go_wp2
    exact bodyPost_ret (v := .tuple #[.int .i64 0, .int .i64 0, .bool false]) (by simp [results, Try.results28, go_sem]) rfl ⟨_, _, _, rfl, Or.inl ⟨fun q => HG.out q.1, rfl, rfl, rfl⟩, HB.out⟩
  have HG : Hid B.Good := hg
  have hA : Blw w1 (w1.alloc (.cells (held5 B.c z B.D.n) 136)) := (Blw.refl _).alloc _
  have HR5 : Hid (Row (w1.alloc (.cells (held5 B.c z B.D.n) 136)) w1.heap.size 5 (row5f B.c (.slice (some ⟨z, 0, none⟩) B.D.n B.D.n))) := row5 w1 (.int .i64 (B.c 0)) (.int .i64 (B.c 1)) (.int .i64 (B.c 2)) (.int .i64 (B.c 3)) (.slice (some ⟨z, 0, none⟩) B.D.n B.D.n) 136
  have HB : Hid (Blw w (w1.alloc (.cells (held5 B.c z B.D.n) 136))) := hb1.trans hA
  have HRL : Hid (Row (w1.alloc (.cells (held5 B.c z B.D.n) 136)) z (B.D.n * 8) (lc B.D.p B.D.m)) := hrow.blw hA
  clear hg hA hb1 hrow
  go_wp2_with fail
  generalize w1.heap.size = z9 at *
  generalize w1.alloc (.cells (held5 B.c z B.D.n) 136) = w2 at *
  refine (isPlace_any a _).mono ?_
  rintro e w2 ⟨r, rfl, hr, rfl⟩
  have HT : Hid (r = true ↔ pgOK a) := hr
  clear hr
  cases r
  · have HN : Hid (¬ pgOK a) := fun g => by have := HT.out.2 g; simp at this
    clear HT
    go_wp2
    exact bodyPost_ret (v := .tuple #[.int .i64 0, .int .i64 0, .bool false]) (by simp [results, Try.results28, go_sem]) rfl ⟨_, _, _, rfl, Or.inl ⟨fun q => HN.out q.2.1, rfl, rfl, rfl⟩, HB.out⟩
  have H1 : Hid (pgOK a) := HT.out.1 (by first | rfl | trivial)
  clear HT
  go_wp2_with fail
  refine (isMay_any k _).mono ?_
  rintro e w2 ⟨r, rfl, hr, rfl⟩
  have HT : Hid (r = true ↔ mayOK k) := hr
  clear hr
  cases r
  · have HN : Hid (¬ mayOK k) := fun g => by have := HT.out.2 g; simp at this
    clear HT
    go_wp2
    exact bodyPost_ret (v := .tuple #[.int .i64 0, .int .i64 0, .bool false]) (by simp [results, Try.results28, go_sem]) rfl ⟨_, _, _, rfl, Or.inl ⟨fun q => HN.out q.2.2, rfl, rfl, rfl⟩, HB.out⟩
  have H2 : Hid (mayOK k) := HT.out.1 (by first | rfl | trivial)
  clear HT
  obtain ⟨n, c, ⟨kn, len, p, m⟩⟩ := B
  obtain ⟨a1, a2, q1, q2⟩ := b
  have hn4 : n = 4 := HG.out.n
  subst hn4
  have hk4 : kn ≤ 4 := HG.out.k.2
  simp only [BV.val] at *
  obtain ⟨x, hx, hx16⟩ : ∃ x : Nat, a = x ∧ x < 16 := ⟨a.toNat, by have := H1.out; unfold pgOK at this; omega, by have := H1.out; unfold pgOK at this; omega⟩
  subst hx
  obtain ⟨p0, p1, p2, p3, p4⟩ := get5 HR5.out
  go_wp2_with fail
  clear p0 p1 p2 p3 p4
  refine (lookUp_any c z kn p m x k _ hk4 (fun i hi => HG.out.top i hi) hx16 HRL.out).mono ?_
  rintro e w3 ⟨x3, y3, r3, rfl, hl, hb3⟩
  have FIN : Hid (∃ x' y' r', (Ending.returned (.tuple #[.int .i64 x3, .int .i64 y3, .bool r3])) = .returned (.tuple #[.int .i64 x', .int .i64 y', .bool r']) ∧ wtOut ⟨4, c, ⟨kn, len, p, m⟩⟩ (x : Int) k x' y' r' ∧ Blw w w3) :=
    ⟨x3, y3, r3, rfl, Or.inr ⟨⟨HG.out, H1.out, H2.out⟩, by rw [Int.toNat_natCast]; exact hl.1, by rw [Int.toNat_natCast]; exact hl.2⟩, HB.out.trans hb3⟩
  clear hl hb3 HB HRL HR5
  go_wp2
  exact bodyPost_ret (v := .tuple #[.int .i64 x3, .int .i64 y3, .bool r3]) (by simp [results, Try.results28, go_sem]) rfl FIN.out
end Go.Proofs.Ytbpdopcdhnemfaa
/- Lists of places that are gathered, and MappedIn. -/
namespace Go.Proofs.Ytbpdopcdhnemfaa
open Go.RowKit
set_option linter.unusedSimpArgs false
set_option linter.unusedVariables false
def lf (L : List Nat) : Nat → Int := fun i => (L.getD i 0 : Nat)
def pk (p : Nat → Bool) (j : Nat) : List Nat := (List.range j).filter p
theorem pk_len (p : Nat → Bool) (j : Nat) : (pk p j).length ≤ j := by
  have := List.length_filter_le p (List.range j)
  simpa [pk] using this
theorem pk_yes {p : Nat → Bool} {j : Nat} (h : p j = true) : pk p (j + 1) = pk p j ++ [j] := by
  unfold pk; rw [List.range_succ, List.filter_append]; simp [h]
theorem pk_no {p : Nat → Bool} {j : Nat} (h : p j = false) : pk p (j + 1) = pk p j := by
  unfold pk; rw [List.range_succ, List.filter_append]; simp [h]
/-- The slice holds the list. -/
def BufL (X : Nat → Prop) (w : World) (v : Value) (L : List Nat) : Prop := BufI X w v L.length (lf L)
theorem BufL.nil (X : Nat → Prop) (w : World) : BufL X w (.slice none 0 0) [] := Buf.nil _ _ _ _ _
theorem BufL.push {X : Nat → Prop} {W : World} {v : Value} {L : List Nat} (h : BufL X W v L) (hn : L.length ≤ 1048576) (x : Nat) :
    ∃ ao' cap w', (Builtin.append_ #[26, 26] 26 #[v, .slice (some ⟨W.heap.size, 0, none⟩) 1 1]).run Try.prog (W.alloc (.cells #[.int .i64 x] 3)) = .ok (.slice ao' (L.length + 1) cap) w' ∧ BufL (fun b => (X b ∨ W.heap.size < b) ∧ b < w'.heap.size) w' (.slice ao' (L.length + 1) cap) (L ++ [x]) ∧ Mod (fun b => v.ownBlock = some b) W w' := by
  obtain ⟨a, cap, w', h1, h2, h3⟩ := pushI h hn (x : Int)
  refine ⟨a, cap, w', h1, ?_, h3⟩
  unfold BufL
  rw [List.length_append, List.length_singleton]
  refine Buf.congr h2 (fun i hi => ?_)
  simp only [ic, snoc', lf]
  by_cases e : i = L.length
  · subst e; simp
  · have : i < L.length := by omega
    rw [if_neg e, List.getD_eq_getElem?_getD, List.getD_eq_getElem?_getD, List.getElem?_append_left this]
/-- What stands while places are gathered into a new list. -/
structure Gath (w wr : World) (v : Value) (L : List Nat) : Prop where
  buf : BufL (fun x => w.heap.size ≤ x ∧ x < wr.heap.size) wr v L
  blw : Blw w wr
theorem Gath.push {w wr : World} {v : Value} {L : List Nat} (h : Gath w wr v L) (hn : L.length ≤ 1048576) (x : Nat) :
    ∃ ao' cap w', (Builtin.append_ #[26, 26] 26 #[v, .slice (some ⟨wr.heap.size, 0, none⟩) 1 1]).run Try.prog (wr.alloc (.cells #[.int .i64 x] 3)) = .ok (.slice ao' (L.length + 1) cap) w' ∧ Gath w w' (.slice ao' (L.length + 1) cap) (L ++ [x]) := by
  obtain ⟨a, cap, w', h1, h2, h3⟩ := h.buf.push hn x
  have hs := h.blw.size
  have hx : ∀ b, v.ownBlock = some b → w.heap.size ≤ b := fun b hb => (h.buf.2 b hb).1
  refine ⟨a, cap, w', h1, ⟨Buf.mono h2 (fun b hb => ⟨?_, hb.2⟩), Mod.blw h.blw h3 (fun b hb => hx b hb)⟩⟩
  rcases hb.1 with h | h
  · exact h.1
  · omega
theorem Gath.go {w wr w' : World} {v : Value} {L : List Nat} (h : Gath w wr v L) (hb : Blw wr w') : Gath w w' v L :=
  ⟨(Buf.blw h.buf hb).mono (fun x hx => ⟨hx.1, Nat.lt_of_lt_of_le hx.2 hb.size⟩), h.blw.trans hb⟩
theorem Gath.own {w wr : World} {v : Value} {L : List Nat} (h : Gath w wr v L) (hn : L.length ≤ 1048576) : ∃ ao cap, v = .slice ao L.length cap ∧ IntsOwn (fun x => w.heap.size ≤ x ∧ x < wr.heap.size) wr ao L.length (lf L) := BufI.own h.buf (by omega)
theorem IntsAt.st {Y : Nat → Prop} {W : World} {ao : Option Addr} {n : Nat} {f : Nat → Int} (h : IntsAt Y W ao n f) (hY : ∀ b, Y b → b < W.heap.size) : St Y (fun W => IntsAt Y W ao n f) W :=
  ⟨hY, fun _ _ hm hx => h.mod hm hx⟩
theorem IntsOwn.st {Y : Nat → Prop} {W : World} {ao : Option Addr} {n : Nat} {f : Nat → Int} (h : IntsOwn Y W ao n f) (hY : ∀ b, Y b → b < W.heap.size) : St Y (fun W => IntsOwn Y W ao n f) W :=
  ⟨hY, fun _ _ hm hx => h.mod hm hx⟩
theorem zero_givesI {out : Nat → (Nat → Int) → Bool → Prop} {w w1 : World} (ho : out 0 (fun _ => 0) false) (hb : Blw w w1) : GivesI out w (.returned (.tuple #[.slice none 0 0, .bool false])) w1 :=
  ⟨none, 0, 0, fun _ => 0, false, rfl, ho, by omega, IntsOwn.nil _ _ _ _, hb⟩
theorem fieldMay (x y : Int) (w : World) : (Instr.field 189 (.agg #[.int .i64 x, .int .i64 y]) 1).run Try.prog w = .ok (.int .i64 y) w := by kernel_rfl
def mpP (c : Nat → Int) (m : Nat → Nat → Int) : Nat → Bool := fun a => decide (0 < lfP c m a)
def miOut (B : BD) (n : Nat) (f : Nat → Int) (r : Bool) : Prop := (B.Good ∧ n = (pk (mpP B.c B.D.m) 16).length ∧ f = lf (pk (mpP B.c B.D.m) 16) ∧ r = true) ∨ (¬ B.Good ∧ n = 0 ∧ r = false)
theorem miOut_same {B : BD} {n n' : Nat} {f f' : Nat → Int} {r r' : Bool} (h : miOut B n f r) (k : miOut B n' f' r') : (n = n' ∧ ∀ i, i < n → f i = f' i) ∧ r = r' := by
  rcases h with ⟨g, rfl, rfl, rfl⟩ | ⟨g, rfl, rfl⟩
  · rcases k with ⟨_, rfl, rfl, rfl⟩ | ⟨g', _, _⟩
    · exact ⟨⟨rfl, fun _ _ => rfl⟩, rfl⟩
    · exact absurd g g'
  · rcases k with ⟨g', _⟩ | ⟨_, rfl, rfl⟩
    · exact absurd g' g
    · exact ⟨⟨rfl, fun i hi => absurd hi (Nat.not_lt_zero _)⟩, rfl⟩
end Go.Proofs.Ytbpdopcdhnemfaa
/- MappedIn: the program's. -/
namespace Go.Proofs.Ytbpdopcdhnemfaa
open Go.RowKit
set_option linter.unusedSimpArgs false
set_option linter.unusedVariables false
theorem box1 (w : World) (v : Value) (t : TypeId) : Row (w.alloc (.cells #[v] t)) w.heap.size 1 (fun _ => v) :=
  ⟨_, t, heap_alloc_new _ _, by simp, fun i hi => by obtain rfl : i = 0 := by omega
                                                     rfl⟩
/-- A list that is gathered in a box at pb, behind w. -/
structure GB (w wr : World) (pb zk : Nat) (F : Nat → Value) (v : Value) (L : List Nat) : Prop where
  box : Row wr pb 1 (fun _ => v)
  buf : BufL (fun x => w.heap.size ≤ x ∧ x < wr.heap.size ∧ x ≠ pb ∧ x ≠ zk) wr v L
  blw : Blw w wr
  lo : w.heap.size ≤ pb
  kp : Row wr zk 5 F
  ne : zk ≠ pb
theorem GB.go {w wr w' : World} {pb zk : Nat} {F : Nat → Value} {v : Value} {L : List Nat} (h : GB w wr pb zk F v L) (hb : Blw wr w') : GB w w' pb zk F v L :=
  ⟨h.box.blw hb, (Buf.blw h.buf hb).mono (fun x hx => ⟨hx.1, Nat.lt_of_lt_of_le hx.2.1 hb.size, hx.2.2⟩), h.blw.trans hb, h.lo, h.kp.blw hb, h.ne⟩
theorem GB.push {w wr : World} {pb zk : Nat} {F : Nat → Value} {v : Value} {L : List Nat} (h : GB w wr pb zk F v L) (hn : L.length ≤ 1048576) (x : Nat) :
    ∃ ao' cap w', (Builtin.append_ #[26, 26] 26 #[v, .slice (some ⟨wr.heap.size, 0, none⟩) 1 1]).run Try.prog (wr.alloc (.cells #[.int .i64 x] 3)) = .ok (.slice ao' (L.length + 1) cap) w' ∧ w'.cell? ⟨pb, 0, none⟩ = some v ∧ w'.frozen? ⟨pb, 0, none⟩ = false ∧ GB w (w'.setCell ⟨pb, 0, none⟩ (.slice ao' (L.length + 1) cap)) pb zk F (.slice ao' (L.length + 1) cap) (L ++ [x]) := by
  obtain ⟨a, cap, w', h1, h2, h3⟩ := h.buf.push hn x
  have hs := h.blw.size
  have hpl := h.box.lt
  have hkl := h.kp.lt
  have hs3 := h3.size
  have hx : ∀ b, v.ownBlock = some b → w.heap.size ≤ b ∧ b ≠ pb ∧ b ≠ zk := fun b hb => ⟨(h.buf.2 b hb).1, (h.buf.2 b hb).2.2⟩
  have rb := h.box.mod h3 (fun e => (hx _ e).2.1 rfl)
  have ms : Mod (fun x => x = pb) w' (w'.setCell ⟨pb, 0, none⟩ (.slice a (L.length + 1) cap)) := Mod.setCell (X := fun x => x = pb) _ (p := ⟨pb, 0, none⟩) rfl _
  have hs4 := ms.size
  refine ⟨a, cap, w', h1, rb.cell (i := 0) (by omega), rb.frozen 0, ⟨(rb.set 0 _).congr (fun i hi => by obtain rfl : i = 0 := by omega
                                                                                                        rfl), (Buf.mod (X := fun x => w.heap.size ≤ x ∧ x < w'.heap.size ∧ x ≠ pb ∧ x ≠ zk) (Buf.mono h2 (fun b hb => ?_)) ms (fun b hb e => hb.2.2.1 e)).mono (fun b hb => ⟨hb.1, by omega, hb.2.2⟩), Mod.blw (Mod.blw h.blw h3 (fun b hb => (hx b hb).1)) ms (fun i hi => by have := h.lo; omega), h.lo, (h.kp.mod h3 (fun e => (hx _ e).2.2 rfl)).mod ms h.ne, h.ne⟩⟩
  rcases hb.1 with q | q
  · exact ⟨q.1, hb.2, q.2.2⟩
  · exact ⟨by omega, hb.2, by omega, by omega⟩
def addM (L : List Nat) (a : Nat) (y : Int) : List Nat := if 0 < y then L ++ [a] else L
theorem addM_yes {L : List Nat} {a : Nat} {y : Int} (h : 0 < y) : addM L a y = L ++ [a] := if_pos h
theorem addM_no {L : List Nat} {a : Nat} {y : Int} (h : ¬ 0 < y) : addM L a y = L := if_neg h
theorem mp_next (c : Nat → Int) (m : Nat → Nat → Int) (j : Nat) : addM (pk (mpP c m) j) j (lfP c m j) = pk (mpP c m) (j + 1) := by
  by_cases h : 0 < lfP c m j
  · rw [addM_yes h, pk_yes (by simp [mpP, h])]
  · rw [addM_no h, pk_no (by simp [mpP]; omega)]
end Go.Proofs.Ytbpdopcdhnemfaa
/- What a change makes of a leaf: the program's closures. -/
namespace Go.Proofs.Ytbpdopcdhnemfaa
open Go.RowKit
set_option linter.unusedSimpArgs false
set_option linter.unusedVariables false
set_option maxRecDepth 10000 in
set_option maxHeartbeats 3200000 in
theorem mapFn_any (ox oy g y : Int) (b1 b2 : Nat) (w : World) (hb1 : Row w b1 1 (fun _ => .int .i64 g)) (hb2 : Row w b2 1 (fun _ => .int .i64 y)) :
    Calls Try.prog 207 #[.agg #[.int .i64 ox, .int .i64 oy], .pointer (some ⟨b1, 0, none⟩), .pointer (some ⟨b2, 0, none⟩)] w fun e w' => ∃ r, e = .returned (.tuple #[.agg #[.int .i64 g, .int .i64 y], .bool r]) ∧ (r = true ↔ oy = 0 ∧ pgOK g ∧ mayOK y) ∧ Blw w w' := by
  have hA1 : Blw w (w.alloc (.cells #[.int .i64 ox, .int .i64 oy] 189)) := (Blw.refl _).alloc _
  have hA2 : Blw (w.alloc (.cells #[.int .i64 ox, .int .i64 oy] 189)) ((w.alloc (.cells #[.int .i64 ox, .int .i64 oy] 189)).alloc (.cells #[.int .i64 0, .int .i64 0] 189)) := (Blw.refl _).alloc _
  have HB : Hid (Blw w ((w.alloc (.cells #[.int .i64 ox, .int .i64 oy] 189)).alloc (.cells #[.int .i64 0, .int .i64 0] 189))) := hA1.trans hA2
  have HL : Hid (Row ((w.alloc (.cells #[.int .i64 ox, .int .i64 oy] 189)).alloc (.cells #[.int .i64 0, .int .i64 0] 189)) w.heap.size 2 (fun i => if i = 0 then .int .i64 ox else .int .i64 oy)) := (box2 w _ _ 189).blw hA2
  have rR := box2 (w.alloc (.cells #[.int .i64 ox, .int .i64 oy] 189)) (.int .i64 0) (.int .i64 0) 189
  rw [World.size_alloc] at rR
  have HR : Hid (Row ((w.alloc (.cells #[.int .i64 ox, .int .i64 oy] 189)).alloc (.cells #[.int .i64 0, .int .i64 0] 189)) (w.heap.size + 1) 2 (fun i => if i = 0 then .int .i64 0 else .int .i64 0)) := rR
  have Hb1 : Hid (Row ((w.alloc (.cells #[.int .i64 ox, .int .i64 oy] 189)).alloc (.cells #[.int .i64 0, .int .i64 0] 189)) b1 1 (fun _ => .int .i64 g)) := hb1.blw (hA1.trans hA2)
  have lb1 := hb1.lt
  have Hb2 : Hid (Row ((w.alloc (.cells #[.int .i64 ox, .int .i64 oy] 189)).alloc (.cells #[.int .i64 0, .int .i64 0] 189)) b2 1 (fun _ => .int .i64 y)) := hb2.blw (hA1.trans hA2)
  have lb2 := hb2.lt
  clear hA1 hA2 rR hb1 hb2
  go_enter Try.func207, Try.ntmps207
  by_cases h0 : oy = 0
  case neg =>
    have d1 : (oy == 0) = false := by simp [h0]
    have HN : Hid (¬ (oy = 0 ∧ pgOK g ∧ mayOK y)) := fun q => h0 q.1
    clear h0
    go_upto_region 1 with fail
    generalize ((w.alloc (.cells #[.int .i64 ox, .int .i64 oy] 189)).alloc (.cells #[.int .i64 0, .int .i64 0] 189)) = W at *
    replace Hb1 : Hid (Row W.drew b1 1 (fun _ => .int .i64 g)) := Hb1.out.blw (Blw.refl _).drew
    replace Hb2 : Hid (Row W.drew b2 1 (fun _ => .int .i64 y)) := Hb2.out.blw (Blw.refl _).drew
    replace HL : Hid (Row W.drew w.heap.size 2 (fun i => if i = 0 then .int .i64 ox else .int .i64 oy)) := HL.out.blw (Blw.refl _).drew
    replace HR : Hid (Row W.drew (w.heap.size + 1) 2 (fun i => if i = 0 then .int .i64 0 else .int .i64 0)) := HR.out.blw (Blw.refl _).drew
    replace HB : Hid (Blw w W.drew) := HB.out.drew
    have Pb1 : ∀ w', (Row w' b1 1 (fun _ => .int .i64 g) ∧ Row w' b2 1 (fun _ => .int .i64 y) ∧ Row w' w.heap.size 2 (fun i => if i = 0 then .int .i64 ox else .int .i64 oy)) → w'.cell? ⟨b1, 0, none⟩ = some (.int .i64 g) := fun w' hh => (hh.1).cell (i := 0) (by omega)
    have Pb2 : ∀ w', (Row w' b1 1 (fun _ => .int .i64 g) ∧ Row w' b2 1 (fun _ => .int .i64 y) ∧ Row w' w.heap.size 2 (fun i => if i = 0 then .int .i64 ox else .int .i64 oy)) → w'.cell? ⟨b2, 0, none⟩ = some (.int .i64 y) := fun w' hh => (hh.2.1).cell (i := 0) (by omega)
    have PL0 : ∀ w', (Row w' b1 1 (fun _ => .int .i64 g) ∧ Row w' b2 1 (fun _ => .int .i64 y) ∧ Row w' w.heap.size 2 (fun i => if i = 0 then .int .i64 ox else .int .i64 oy)) → w'.cell? ⟨w.heap.size, 0, none⟩ = some (.int .i64 ox) := fun w' hh => (get2 hh.2.2).1
    have PL1 : ∀ w', (Row w' b1 1 (fun _ => .int .i64 g) ∧ Row w' b2 1 (fun _ => .int .i64 y) ∧ Row w' w.heap.size 2 (fun i => if i = 0 then .int .i64 ox else .int .i64 oy)) → w'.cell? ⟨w.heap.size, 1, none⟩ = some (.int .i64 oy) := fun w' hh => (get2 hh.2.2).2
    obtain ⟨t0, t1⟩ := get2 HR.out
    have f0 := HR.out.frozen 0
    have f1 := HR.out.frozen 1
    refine wp_region_noPanic ?_
    refine wp_region_held_drew (S := fun w' => Row w' b1 1 (fun _ => .int .i64 g) ∧ Row w' b2 1 (fun _ => .int .i64 y) ∧ Row w' w.heap.size 2 (fun i => if i = 0 then .int .i64 ox else .int .i64 oy)) (by kernel_rfl) ⟨Hb1.out, Hb2.out, HL.out⟩ (fun hB => ?_)
    clear hB
    generalize W.drew = wd at *
    refine wpAnyH_take (i := 0) (oi := { dst := some 6, op := Op.load 3 (Operand.tmp 1), type := 3, pos := _, after := #[], guard := none }) (v := (.int .i64 g)) rfl (by kernel_rfl) (by kernel_rfl) (by kernel_rfl) (fun _ _ _ h => h) (Or.inl ⟨by rfl, fun w' hS => by (try dsimp only at hS); go_simp⟩) ⟨Hb1.out, Hb2.out, HL.out⟩ ?_
    simp only [Act.put, List.setIfInBounds_toArray, List.set_cons_zero, List.set_cons_succ]
    refine wpAnyH_take (i := 1) (oi := { dst := some 7, op := Op.load 3 (Operand.tmp 2), type := 3, pos := _, after := #[], guard := none }) (v := (.int .i64 y)) rfl (by kernel_rfl) (by kernel_rfl) (by kernel_rfl) (fun _ _ _ h => h) (Or.inl ⟨by rfl, fun w' hS => by (try dsimp only at hS); go_simp⟩) ⟨Hb1.out, Hb2.out, HL.out⟩ ?_
    simp only [Act.put, List.setIfInBounds_toArray, List.set_cons_zero, List.set_cons_succ]
    refine wpAnyH_take (i := 3) (oi := { dst := some 9, op := Op.fieldAddr 189 (Operand.tmp 3) 1, type := 0, pos := _, after := #[], guard := none }) (v := (.pointer (some ⟨w.heap.size, 1, none⟩))) rfl (by kernel_rfl) (by kernel_rfl) (by kernel_rfl) (fun _ _ _ h => h) (Or.inl ⟨by rfl, fun w' hS => by (try dsimp only at hS); go_simp⟩) ⟨Hb1.out, Hb2.out, HL.out⟩ ?_
    simp only [Act.put, List.setIfInBounds_toArray, List.set_cons_zero, List.set_cons_succ]
    refine wpAnyH_take (i := 2) (oi := { dst := some 8, op := Op.build 189 #[(0, Operand.tmp 6), (1, Operand.tmp 7)], type := 189, pos := _, after := #[{ on := 0, ground := Ground.data }, { on := 1, ground := Ground.data }], guard := none }) (v := (.agg #[.int .i64 g, .int .i64 y])) rfl (by kernel_rfl) (by kernel_rfl) (by kernel_rfl) (fun _ _ _ h => h) (Or.inl ⟨by rfl, fun w' hS => by (try dsimp only at hS); go_simp⟩) ⟨Hb1.out, Hb2.out, HL.out⟩ ?_
    simp only [Act.put, List.setIfInBounds_toArray, List.set_cons_zero, List.set_cons_succ]
    refine wpAnyH_take (i := 4) (oi := { dst := some 10, op := Op.load 3 (Operand.tmp 9), type := 3, pos := _, after := #[{ on := 3, ground := Ground.data }], guard := none }) (v := (.int .i64 oy)) rfl (by kernel_rfl) (by kernel_rfl) (by kernel_rfl) (fun _ _ _ h => h) (Or.inl ⟨by rfl, fun w' hS => by (try dsimp only at hS); go_simp⟩) ⟨Hb1.out, Hb2.out, HL.out⟩ ?_
    simp only [Act.put, List.setIfInBounds_toArray, List.set_cons_zero, List.set_cons_succ]
    refine wpAnyH_take (i := 5) (oi := { dst := some 11, op := Op.binOp BinOp.eql 3 (Operand.tmp 10) (Operand.const (Value.int IntKind.i64 0)) 3, type := 4, pos := _, after := #[{ on := 4, ground := Ground.data }], guard := none }) (v := (.bool false)) rfl (by kernel_rfl) (by kernel_rfl) (by kernel_rfl) (fun _ _ _ h => h) (Or.inl ⟨by rfl, fun w' hS => by (try dsimp only at hS); go_simp⟩) ⟨Hb1.out, Hb2.out, HL.out⟩ ?_
    simp only [Act.put, List.setIfInBounds_toArray, List.set_cons_zero, List.set_cons_succ]
    refine wpAnyH_take (i := 6) (oi := { dst := some 12, op := Op.move (Operand.tmp 11), type := 4, pos := _, after := #[{ on := 5, ground := Ground.data }], guard := none }) (v := (.bool false)) rfl (by kernel_rfl) (by kernel_rfl) (by kernel_rfl) (fun _ _ _ h => h) (Or.inl ⟨by rfl, fun w' hS => by (try dsimp only at hS); go_simp⟩) ⟨Hb1.out, Hb2.out, HL.out⟩ ?_
    simp only [Act.put, List.setIfInBounds_toArray, List.set_cons_zero, List.set_cons_succ]
    refine wpAnyH_take (i := 7) (oi := { dst := some 13, op := Op.load 3 (Operand.tmp 1), type := 3, pos := _, after := #[{ on := 6, ground := Ground.guard }], guard := some (6, true) }) (v := undef) rfl (by kernel_rfl) (by kernel_rfl) (by kernel_rfl) (fun _ _ _ h => h) (Or.inr ⟨by rfl, rfl⟩) ⟨Hb1.out, Hb2.out, HL.out⟩ ?_
    simp only [Act.put, List.setIfInBounds_toArray, List.set_cons_zero, List.set_cons_succ]
    refine wpAnyH_take (i := 8) (oi := { dst := some 14, op := Op.call { callee := Callee.value (Operand.func 160), args := #[Operand.tmp 13], argTypes := #[3] }, type := 4, pos := _, after := #[{ on := 7, ground := Ground.data }, { on := 6, ground := Ground.chain }, { on := 6, ground := Ground.guard }], guard := some (6, true) }) (v := undef) rfl (by kernel_rfl) (by kernel_rfl) (by kernel_rfl) (fun _ _ _ h => h) (Or.inr ⟨by rfl, rfl⟩) ⟨Hb1.out, Hb2.out, HL.out⟩ ?_
    simp only [Act.put, List.setIfInBounds_toArray, List.set_cons_zero, List.set_cons_succ]
    refine wpAnyH_take (i := 9) (oi := { dst := some 15, op := Op.pick (Operand.tmp 12) (Operand.tmp 14) (Operand.const (Value.bool false)), type := 4, pos := _, after := #[{ on := 6, ground := Ground.data }, { on := 8, ground := Ground.data }], guard := none }) (v := (.bool false)) rfl (by kernel_rfl) (by kernel_rfl) (by kernel_rfl) (fun _ _ _ h => h) (Or.inl ⟨by rfl, fun w' hS => by (try dsimp only at hS); go_simp⟩) ⟨Hb1.out, Hb2.out, HL.out⟩ ?_
    simp only [Act.put, List.setIfInBounds_toArray, List.set_cons_zero, List.set_cons_succ]
    refine wpAnyH_take (i := 10) (oi := { dst := some 16, op := Op.move (Operand.tmp 15), type := 4, pos := _, after := #[{ on := 9, ground := Ground.data }, { on := 8, ground := Ground.chain }], guard := none }) (v := (.bool false)) rfl (by kernel_rfl) (by kernel_rfl) (by kernel_rfl) (fun _ _ _ h => h) (Or.inl ⟨by rfl, fun w' hS => by (try dsimp only at hS); go_simp⟩) ⟨Hb1.out, Hb2.out, HL.out⟩ ?_
    simp only [Act.put, List.setIfInBounds_toArray, List.set_cons_zero, List.set_cons_succ]
    refine wpAnyH_take (i := 11) (oi := { dst := some 17, op := Op.load 3 (Operand.tmp 2), type := 3, pos := _, after := #[{ on := 10, ground := Ground.guard }], guard := some (10, true) }) (v := undef) rfl (by kernel_rfl) (by kernel_rfl) (by kernel_rfl) (fun _ _ _ h => h) (Or.inr ⟨by rfl, rfl⟩) ⟨Hb1.out, Hb2.out, HL.out⟩ ?_
    simp only [Act.put, List.setIfInBounds_toArray, List.set_cons_zero, List.set_cons_succ]
    refine wpAnyH_take (i := 12) (oi := { dst := some 18, op := Op.call { callee := Callee.value (Operand.func 104), args := #[Operand.tmp 17], argTypes := #[3] }, type := 4, pos := _, after := #[{ on := 11, ground := Ground.data }, { on := 10, ground := Ground.chain }, { on := 10, ground := Ground.guard }], guard := some (10, true) }) (v := undef) rfl (by kernel_rfl) (by kernel_rfl) (by kernel_rfl) (fun _ _ _ h => h) (Or.inr ⟨by rfl, rfl⟩) ⟨Hb1.out, Hb2.out, HL.out⟩ ?_
    simp only [Act.put, List.setIfInBounds_toArray, List.set_cons_zero, List.set_cons_succ]
    refine wpAnyH_take (i := 13) (oi := { dst := some 19, op := Op.pick (Operand.tmp 16) (Operand.tmp 18) (Operand.const (Value.bool false)), type := 4, pos := _, after := #[{ on := 10, ground := Ground.data }, { on := 12, ground := Ground.data }, { on := 14, ground := Ground.gcOnly Departure.lateStores }], guard := none }) (v := (.bool false)) rfl (by kernel_rfl) (by kernel_rfl) (by kernel_rfl) (fun _ _ _ h => h) (Or.inl ⟨by rfl, fun w' hS => by (try dsimp only at hS); go_simp⟩) ⟨Hb1.out, Hb2.out, HL.out⟩ ?_
    simp only [Act.put, List.setIfInBounds_toArray, List.set_cons_zero, List.set_cons_succ]
    refine wpAnyH_ready (rs := [14]) (by kernel_rfl) (by simp) ?_
    refine AllReadyH.cons (o := { dst := none, op := Op.store 189 (Operand.tmp 4) (Operand.tmp 8), type := 0, pos := _, after := #[{ on := 2, ground := Ground.data }, { on := 12, ground := Ground.chain }, { on := 0, ground := Ground.phase }, { on := 1, ground := Ground.phase }, { on := 2, ground := Ground.phase }, { on := 3, ground := Ground.textOnly Departure.lateStores }, { on := 4, ground := Ground.textOnly Departure.lateStores }, { on := 5, ground := Ground.textOnly Departure.lateStores }, { on := 6, ground := Ground.textOnly Departure.lateStores }, { on := 7, ground := Ground.textOnly Departure.lateStores }, { on := 8, ground := Ground.textOnly Departure.lateStoresUnsure }, { on := 9, ground := Ground.textOnly Departure.lateStores }, { on := 10, ground := Ground.textOnly Departure.lateStores }, { on := 11, ground := Ground.textOnly Departure.lateStores }, { on := 12, ground := Ground.textOnly Departure.lateStoresUnsure }, { on := 13, ground := Ground.textOnly Departure.lateStores }], guard := none }) rfl (fun K hK => ?_) AllReadyH.nil
    go_simp
    have hSt := (And.intro ((Hb1.out.setOther (a := ⟨w.heap.size + 1, 0, none⟩) (by show b1 ≠ w.heap.size + 1; omega) (.int .i64 g)).setOther (a := ⟨w.heap.size + 1, 1, none⟩) (by show b1 ≠ w.heap.size + 1; omega) (.int .i64 y)) (And.intro ((Hb2.out.setOther (a := ⟨w.heap.size + 1, 0, none⟩) (by show b2 ≠ w.heap.size + 1; omega) (.int .i64 g)).setOther (a := ⟨w.heap.size + 1, 1, none⟩) (by show b2 ≠ w.heap.size + 1; omega) (.int .i64 y)) ((HL.out.setOther (a := ⟨w.heap.size + 1, 0, none⟩) (by show w.heap.size ≠ w.heap.size + 1; omega) (.int .i64 g)).setOther (a := ⟨w.heap.size + 1, 1, none⟩) (by show w.heap.size ≠ w.heap.size + 1; omega) (.int .i64 y))))
    refine hK.out _ _ hSt (fun hB => ?_)
    clear hK K hB
    try simp only [Act.put, List.setIfInBounds_toArray, List.set_cons_zero, List.set_cons_succ]
    refine wpAnyH_take (i := 15) (oi := { dst := some 5, op := Op.assign (Operand.tmp 19), type := 4, pos := _, after := #[{ on := 13, ground := Ground.data }, { on := 14, ground := Ground.chain }, { on := 0, ground := Ground.phase }, { on := 1, ground := Ground.phase }, { on := 2, ground := Ground.phase }, { on := 3, ground := Ground.phase }, { on := 4, ground := Ground.phase }, { on := 5, ground := Ground.phase }, { on := 6, ground := Ground.phase }, { on := 7, ground := Ground.phase }, { on := 8, ground := Ground.phase }, { on := 9, ground := Ground.phase }, { on := 10, ground := Ground.phase }, { on := 11, ground := Ground.phase }, { on := 12, ground := Ground.phase }, { on := 13, ground := Ground.phase }, { on := 14, ground := Ground.phase }], guard := none }) (v := (.bool false)) rfl (by kernel_rfl) (by kernel_rfl) (by kernel_rfl) (fun _ _ _ h => h) (Or.inl ⟨by rfl, fun w' hS => by (try dsimp only at hS); go_simp⟩) hSt ?_
    simp only [Act.put, List.setIfInBounds_toArray, List.set_cons_zero, List.set_cons_succ]
    refine wpAnyH_done (by kernel_rfl) ?_ _
    refine NoPanic.normal ?_
    have HBF : Hid _ := set2_blw HB.out (B := w.heap.size + 1) (by omega) (.int .i64 g) (.int .i64 y)
    clear hSt HL HR HB PL0 PL1 Hb1 Pb1 Hb2 Pb2
    go_wp2
    exact bodyPost_ret (v := .tuple #[.agg #[.int .i64 g, .int .i64 y], .bool false]) (by simp [results, Try.results207, go_sem, t0, t1]) rfl ⟨false, rfl, iff_f HN.out, HBF.out⟩
  have d1 : (oy == 0) = true := by simp [h0]
  have H0 : Hid (oy = 0) := h0
  clear h0
  by_cases hp : pgOK g
  case neg =>
    have HP : Hid (¬ pgOK g) := hp
    have HN : Hid (¬ (oy = 0 ∧ pgOK g ∧ mayOK y)) := fun q => hp q.2.1
    clear hp
    go_upto_region 1 with fail
    generalize ((w.alloc (.cells #[.int .i64 ox, .int .i64 oy] 189)).alloc (.cells #[.int .i64 0, .int .i64 0] 189)) = W at *
    replace Hb1 : Hid (Row W.drew b1 1 (fun _ => .int .i64 g)) := Hb1.out.blw (Blw.refl _).drew
    replace Hb2 : Hid (Row W.drew b2 1 (fun _ => .int .i64 y)) := Hb2.out.blw (Blw.refl _).drew
    replace HL : Hid (Row W.drew w.heap.size 2 (fun i => if i = 0 then .int .i64 ox else .int .i64 oy)) := HL.out.blw (Blw.refl _).drew
    replace HR : Hid (Row W.drew (w.heap.size + 1) 2 (fun i => if i = 0 then .int .i64 0 else .int .i64 0)) := HR.out.blw (Blw.refl _).drew
    replace HB : Hid (Blw w W.drew) := HB.out.drew
    have Pb1 : ∀ w', (Row w' b1 1 (fun _ => .int .i64 g) ∧ Row w' b2 1 (fun _ => .int .i64 y) ∧ Row w' w.heap.size 2 (fun i => if i = 0 then .int .i64 ox else .int .i64 oy)) → w'.cell? ⟨b1, 0, none⟩ = some (.int .i64 g) := fun w' hh => (hh.1).cell (i := 0) (by omega)
    have Pb2 : ∀ w', (Row w' b1 1 (fun _ => .int .i64 g) ∧ Row w' b2 1 (fun _ => .int .i64 y) ∧ Row w' w.heap.size 2 (fun i => if i = 0 then .int .i64 ox else .int .i64 oy)) → w'.cell? ⟨b2, 0, none⟩ = some (.int .i64 y) := fun w' hh => (hh.2.1).cell (i := 0) (by omega)
    have PL0 : ∀ w', (Row w' b1 1 (fun _ => .int .i64 g) ∧ Row w' b2 1 (fun _ => .int .i64 y) ∧ Row w' w.heap.size 2 (fun i => if i = 0 then .int .i64 ox else .int .i64 oy)) → w'.cell? ⟨w.heap.size, 0, none⟩ = some (.int .i64 ox) := fun w' hh => (get2 hh.2.2).1
    have PL1 : ∀ w', (Row w' b1 1 (fun _ => .int .i64 g) ∧ Row w' b2 1 (fun _ => .int .i64 y) ∧ Row w' w.heap.size 2 (fun i => if i = 0 then .int .i64 ox else .int .i64 oy)) → w'.cell? ⟨w.heap.size, 1, none⟩ = some (.int .i64 oy) := fun w' hh => (get2 hh.2.2).2
    obtain ⟨t0, t1⟩ := get2 HR.out
    have f0 := HR.out.frozen 0
    have f1 := HR.out.frozen 1
    refine wp_region_noPanic ?_
    refine wp_region_held_drew (S := fun w' => Row w' b1 1 (fun _ => .int .i64 g) ∧ Row w' b2 1 (fun _ => .int .i64 y) ∧ Row w' w.heap.size 2 (fun i => if i = 0 then .int .i64 ox else .int .i64 oy)) (by kernel_rfl) ⟨Hb1.out, Hb2.out, HL.out⟩ (fun hB => ?_)
    clear hB
    generalize W.drew = wd at *
    refine wpAnyH_take (i := 0) (oi := { dst := some 6, op := Op.load 3 (Operand.tmp 1), type := 3, pos := _, after := #[], guard := none }) (v := (.int .i64 g)) rfl (by kernel_rfl) (by kernel_rfl) (by kernel_rfl) (fun _ _ _ h => h) (Or.inl ⟨by rfl, fun w' hS => by (try dsimp only at hS); go_simp⟩) ⟨Hb1.out, Hb2.out, HL.out⟩ ?_
    simp only [Act.put, List.setIfInBounds_toArray, List.set_cons_zero, List.set_cons_succ]
    refine wpAnyH_take (i := 1) (oi := { dst := some 7, op := Op.load 3 (Operand.tmp 2), type := 3, pos := _, after := #[], guard := none }) (v := (.int .i64 y)) rfl (by kernel_rfl) (by kernel_rfl) (by kernel_rfl) (fun _ _ _ h => h) (Or.inl ⟨by rfl, fun w' hS => by (try dsimp only at hS); go_simp⟩) ⟨Hb1.out, Hb2.out, HL.out⟩ ?_
    simp only [Act.put, List.setIfInBounds_toArray, List.set_cons_zero, List.set_cons_succ]
    refine wpAnyH_take (i := 3) (oi := { dst := some 9, op := Op.fieldAddr 189 (Operand.tmp 3) 1, type := 0, pos := _, after := #[], guard := none }) (v := (.pointer (some ⟨w.heap.size, 1, none⟩))) rfl (by kernel_rfl) (by kernel_rfl) (by kernel_rfl) (fun _ _ _ h => h) (Or.inl ⟨by rfl, fun w' hS => by (try dsimp only at hS); go_simp⟩) ⟨Hb1.out, Hb2.out, HL.out⟩ ?_
    simp only [Act.put, List.setIfInBounds_toArray, List.set_cons_zero, List.set_cons_succ]
    refine wpAnyH_take (i := 2) (oi := { dst := some 8, op := Op.build 189 #[(0, Operand.tmp 6), (1, Operand.tmp 7)], type := 189, pos := _, after := #[{ on := 0, ground := Ground.data }, { on := 1, ground := Ground.data }], guard := none }) (v := (.agg #[.int .i64 g, .int .i64 y])) rfl (by kernel_rfl) (by kernel_rfl) (by kernel_rfl) (fun _ _ _ h => h) (Or.inl ⟨by rfl, fun w' hS => by (try dsimp only at hS); go_simp⟩) ⟨Hb1.out, Hb2.out, HL.out⟩ ?_
    simp only [Act.put, List.setIfInBounds_toArray, List.set_cons_zero, List.set_cons_succ]
    refine wpAnyH_take (i := 4) (oi := { dst := some 10, op := Op.load 3 (Operand.tmp 9), type := 3, pos := _, after := #[{ on := 3, ground := Ground.data }], guard := none }) (v := (.int .i64 oy)) rfl (by kernel_rfl) (by kernel_rfl) (by kernel_rfl) (fun _ _ _ h => h) (Or.inl ⟨by rfl, fun w' hS => by (try dsimp only at hS); go_simp⟩) ⟨Hb1.out, Hb2.out, HL.out⟩ ?_
    simp only [Act.put, List.setIfInBounds_toArray, List.set_cons_zero, List.set_cons_succ]
    refine wpAnyH_take (i := 5) (oi := { dst := some 11, op := Op.binOp BinOp.eql 3 (Operand.tmp 10) (Operand.const (Value.int IntKind.i64 0)) 3, type := 4, pos := _, after := #[{ on := 4, ground := Ground.data }], guard := none }) (v := (.bool true)) rfl (by kernel_rfl) (by kernel_rfl) (by kernel_rfl) (fun _ _ _ h => h) (Or.inl ⟨by rfl, fun w' hS => by (try dsimp only at hS); go_simp⟩) ⟨Hb1.out, Hb2.out, HL.out⟩ ?_
    simp only [Act.put, List.setIfInBounds_toArray, List.set_cons_zero, List.set_cons_succ]
    refine wpAnyH_take (i := 6) (oi := { dst := some 12, op := Op.move (Operand.tmp 11), type := 4, pos := _, after := #[{ on := 5, ground := Ground.data }], guard := none }) (v := (.bool true)) rfl (by kernel_rfl) (by kernel_rfl) (by kernel_rfl) (fun _ _ _ h => h) (Or.inl ⟨by rfl, fun w' hS => by (try dsimp only at hS); go_simp⟩) ⟨Hb1.out, Hb2.out, HL.out⟩ ?_
    simp only [Act.put, List.setIfInBounds_toArray, List.set_cons_zero, List.set_cons_succ]
    refine wpAnyH_take (i := 7) (oi := { dst := some 13, op := Op.load 3 (Operand.tmp 1), type := 3, pos := _, after := #[{ on := 6, ground := Ground.guard }], guard := some (6, true) }) (v := (.int .i64 g)) rfl (by kernel_rfl) (by kernel_rfl) (by kernel_rfl) (fun _ _ _ h => h) (Or.inl ⟨by rfl, fun w' hS => by (try dsimp only at hS); go_simp⟩) ⟨Hb1.out, Hb2.out, HL.out⟩ ?_
    simp only [Act.put, List.setIfInBounds_toArray, List.set_cons_zero, List.set_cons_succ]
    refine wpAnyH_ready (rs := [8]) (by kernel_rfl) (by simp) ?_
    refine AllReadyH.cons (o := { dst := some 14, op := Op.call { callee := Callee.value (Operand.func 160), args := #[Operand.tmp 13], argTypes := #[3] }, type := 4, pos := _, after := #[{ on := 7, ground := Ground.data }, { on := 6, ground := Ground.chain }, { on := 6, ground := Ground.guard }], guard := some (6, true) }) rfl (fun K hK => ?_) AllReadyH.nil
    go_simp
    refine (isPage_no g _ HP.out).mono ?_
    rintro e w1 ⟨rfl, rfl⟩
    refine hK.out _ _ ⟨Hb1.out, Hb2.out, HL.out⟩ (fun hB => ?_)
    clear hK K hB
    try simp only [Act.put, List.setIfInBounds_toArray, List.set_cons_zero, List.set_cons_succ]
    refine wpAnyH_take (i := 9) (oi := { dst := some 15, op := Op.pick (Operand.tmp 12) (Operand.tmp 14) (Operand.const (Value.bool false)), type := 4, pos := _, after := #[{ on := 6, ground := Ground.data }, { on := 8, ground := Ground.data }], guard := none }) (v := (.bool false)) rfl (by kernel_rfl) (by kernel_rfl) (by kernel_rfl) (fun _ _ _ h => h) (Or.inl ⟨by rfl, fun w' hS => by (try dsimp only at hS); go_simp⟩) ⟨Hb1.out, Hb2.out, HL.out⟩ ?_
    simp only [Act.put, List.setIfInBounds_toArray, List.set_cons_zero, List.set_cons_succ]
    refine wpAnyH_take (i := 10) (oi := { dst := some 16, op := Op.move (Operand.tmp 15), type := 4, pos := _, after := #[{ on := 9, ground := Ground.data }, { on := 8, ground := Ground.chain }], guard := none }) (v := (.bool false)) rfl (by kernel_rfl) (by kernel_rfl) (by kernel_rfl) (fun _ _ _ h => h) (Or.inl ⟨by rfl, fun w' hS => by (try dsimp only at hS); go_simp⟩) ⟨Hb1.out, Hb2.out, HL.out⟩ ?_
    simp only [Act.put, List.setIfInBounds_toArray, List.set_cons_zero, List.set_cons_succ]
    refine wpAnyH_take (i := 11) (oi := { dst := some 17, op := Op.load 3 (Operand.tmp 2), type := 3, pos := _, after := #[{ on := 10, ground := Ground.guard }], guard := some (10, true) }) (v := undef) rfl (by kernel_rfl) (by kernel_rfl) (by kernel_rfl) (fun _ _ _ h => h) (Or.inr ⟨by rfl, rfl⟩) ⟨Hb1.out, Hb2.out, HL.out⟩ ?_
    simp only [Act.put, List.setIfInBounds_toArray, List.set_cons_zero, List.set_cons_succ]
    refine wpAnyH_take (i := 12) (oi := { dst := some 18, op := Op.call { callee := Callee.value (Operand.func 104), args := #[Operand.tmp 17], argTypes := #[3] }, type := 4, pos := _, after := #[{ on := 11, ground := Ground.data }, { on := 10, ground := Ground.chain }, { on := 10, ground := Ground.guard }], guard := some (10, true) }) (v := undef) rfl (by kernel_rfl) (by kernel_rfl) (by kernel_rfl) (fun _ _ _ h => h) (Or.inr ⟨by rfl, rfl⟩) ⟨Hb1.out, Hb2.out, HL.out⟩ ?_
    simp only [Act.put, List.setIfInBounds_toArray, List.set_cons_zero, List.set_cons_succ]
    refine wpAnyH_take (i := 13) (oi := { dst := some 19, op := Op.pick (Operand.tmp 16) (Operand.tmp 18) (Operand.const (Value.bool false)), type := 4, pos := _, after := #[{ on := 10, ground := Ground.data }, { on := 12, ground := Ground.data }, { on := 14, ground := Ground.gcOnly Departure.lateStores }], guard := none }) (v := (.bool false)) rfl (by kernel_rfl) (by kernel_rfl) (by kernel_rfl) (fun _ _ _ h => h) (Or.inl ⟨by rfl, fun w' hS => by (try dsimp only at hS); go_simp⟩) ⟨Hb1.out, Hb2.out, HL.out⟩ ?_
    simp only [Act.put, List.setIfInBounds_toArray, List.set_cons_zero, List.set_cons_succ]
    refine wpAnyH_ready (rs := [14]) (by kernel_rfl) (by simp) ?_
    refine AllReadyH.cons (o := { dst := none, op := Op.store 189 (Operand.tmp 4) (Operand.tmp 8), type := 0, pos := _, after := #[{ on := 2, ground := Ground.data }, { on := 12, ground := Ground.chain }, { on := 0, ground := Ground.phase }, { on := 1, ground := Ground.phase }, { on := 2, ground := Ground.phase }, { on := 3, ground := Ground.textOnly Departure.lateStores }, { on := 4, ground := Ground.textOnly Departure.lateStores }, { on := 5, ground := Ground.textOnly Departure.lateStores }, { on := 6, ground := Ground.textOnly Departure.lateStores }, { on := 7, ground := Ground.textOnly Departure.lateStores }, { on := 8, ground := Ground.textOnly Departure.lateStoresUnsure }, { on := 9, ground := Ground.textOnly Departure.lateStores }, { on := 10, ground := Ground.textOnly Departure.lateStores }, { on := 11, ground := Ground.textOnly Departure.lateStores }, { on := 12, ground := Ground.textOnly Departure.lateStoresUnsure }, { on := 13, ground := Ground.textOnly Departure.lateStores }], guard := none }) rfl (fun K hK => ?_) AllReadyH.nil
    go_simp
    have hSt := (And.intro ((Hb1.out.setOther (a := ⟨w.heap.size + 1, 0, none⟩) (by show b1 ≠ w.heap.size + 1; omega) (.int .i64 g)).setOther (a := ⟨w.heap.size + 1, 1, none⟩) (by show b1 ≠ w.heap.size + 1; omega) (.int .i64 y)) (And.intro ((Hb2.out.setOther (a := ⟨w.heap.size + 1, 0, none⟩) (by show b2 ≠ w.heap.size + 1; omega) (.int .i64 g)).setOther (a := ⟨w.heap.size + 1, 1, none⟩) (by show b2 ≠ w.heap.size + 1; omega) (.int .i64 y)) ((HL.out.setOther (a := ⟨w.heap.size + 1, 0, none⟩) (by show w.heap.size ≠ w.heap.size + 1; omega) (.int .i64 g)).setOther (a := ⟨w.heap.size + 1, 1, none⟩) (by show w.heap.size ≠ w.heap.size + 1; omega) (.int .i64 y))))
    refine hK.out _ _ hSt (fun hB => ?_)
    clear hK K hB
    try simp only [Act.put, List.setIfInBounds_toArray, List.set_cons_zero, List.set_cons_succ]
    refine wpAnyH_take (i := 15) (oi := { dst := some 5, op := Op.assign (Operand.tmp 19), type := 4, pos := _, after := #[{ on := 13, ground := Ground.data }, { on := 14, ground := Ground.chain }, { on := 0, ground := Ground.phase }, { on := 1, ground := Ground.phase }, { on := 2, ground := Ground.phase }, { on := 3, ground := Ground.phase }, { on := 4, ground := Ground.phase }, { on := 5, ground := Ground.phase }, { on := 6, ground := Ground.phase }, { on := 7, ground := Ground.phase }, { on := 8, ground := Ground.phase }, { on := 9, ground := Ground.phase }, { on := 10, ground := Ground.phase }, { on := 11, ground := Ground.phase }, { on := 12, ground := Ground.phase }, { on := 13, ground := Ground.phase }, { on := 14, ground := Ground.phase }], guard := none }) (v := (.bool false)) rfl (by kernel_rfl) (by kernel_rfl) (by kernel_rfl) (fun _ _ _ h => h) (Or.inl ⟨by rfl, fun w' hS => by (try dsimp only at hS); go_simp⟩) hSt ?_
    simp only [Act.put, List.setIfInBounds_toArray, List.set_cons_zero, List.set_cons_succ]
    refine wpAnyH_done (by kernel_rfl) ?_ _
    refine NoPanic.normal ?_
    have HBF : Hid _ := set2_blw HB.out (B := w.heap.size + 1) (by omega) (.int .i64 g) (.int .i64 y)
    clear hSt HL HR HB PL0 PL1 Hb1 Pb1 Hb2 Pb2
    go_wp2
    exact bodyPost_ret (v := .tuple #[.agg #[.int .i64 g, .int .i64 y], .bool false]) (by simp [results, Try.results207, go_sem, t0, t1]) rfl ⟨false, rfl, iff_f HN.out, HBF.out⟩
  have HP : Hid (pgOK g) := hp
  clear hp
  go_upto_region 1 with fail
  generalize ((w.alloc (.cells #[.int .i64 ox, .int .i64 oy] 189)).alloc (.cells #[.int .i64 0, .int .i64 0] 189)) = W at *
  replace Hb1 : Hid (Row W.drew b1 1 (fun _ => .int .i64 g)) := Hb1.out.blw (Blw.refl _).drew
  replace Hb2 : Hid (Row W.drew b2 1 (fun _ => .int .i64 y)) := Hb2.out.blw (Blw.refl _).drew
  replace HL : Hid (Row W.drew w.heap.size 2 (fun i => if i = 0 then .int .i64 ox else .int .i64 oy)) := HL.out.blw (Blw.refl _).drew
  replace HR : Hid (Row W.drew (w.heap.size + 1) 2 (fun i => if i = 0 then .int .i64 0 else .int .i64 0)) := HR.out.blw (Blw.refl _).drew
  replace HB : Hid (Blw w W.drew) := HB.out.drew
  have Pb1 : ∀ w', (Row w' b1 1 (fun _ => .int .i64 g) ∧ Row w' b2 1 (fun _ => .int .i64 y) ∧ Row w' w.heap.size 2 (fun i => if i = 0 then .int .i64 ox else .int .i64 oy)) → w'.cell? ⟨b1, 0, none⟩ = some (.int .i64 g) := fun w' hh => (hh.1).cell (i := 0) (by omega)
  have Pb2 : ∀ w', (Row w' b1 1 (fun _ => .int .i64 g) ∧ Row w' b2 1 (fun _ => .int .i64 y) ∧ Row w' w.heap.size 2 (fun i => if i = 0 then .int .i64 ox else .int .i64 oy)) → w'.cell? ⟨b2, 0, none⟩ = some (.int .i64 y) := fun w' hh => (hh.2.1).cell (i := 0) (by omega)
  have PL0 : ∀ w', (Row w' b1 1 (fun _ => .int .i64 g) ∧ Row w' b2 1 (fun _ => .int .i64 y) ∧ Row w' w.heap.size 2 (fun i => if i = 0 then .int .i64 ox else .int .i64 oy)) → w'.cell? ⟨w.heap.size, 0, none⟩ = some (.int .i64 ox) := fun w' hh => (get2 hh.2.2).1
  have PL1 : ∀ w', (Row w' b1 1 (fun _ => .int .i64 g) ∧ Row w' b2 1 (fun _ => .int .i64 y) ∧ Row w' w.heap.size 2 (fun i => if i = 0 then .int .i64 ox else .int .i64 oy)) → w'.cell? ⟨w.heap.size, 1, none⟩ = some (.int .i64 oy) := fun w' hh => (get2 hh.2.2).2
  obtain ⟨t0, t1⟩ := get2 HR.out
  have f0 := HR.out.frozen 0
  have f1 := HR.out.frozen 1
  refine wp_region_noPanic ?_
  refine wp_region_held_drew (S := fun w' => Row w' b1 1 (fun _ => .int .i64 g) ∧ Row w' b2 1 (fun _ => .int .i64 y) ∧ Row w' w.heap.size 2 (fun i => if i = 0 then .int .i64 ox else .int .i64 oy)) (by kernel_rfl) ⟨Hb1.out, Hb2.out, HL.out⟩ (fun hB => ?_)
  clear hB
  generalize W.drew = wd at *
  refine wpAnyH_take (i := 0) (oi := { dst := some 6, op := Op.load 3 (Operand.tmp 1), type := 3, pos := _, after := #[], guard := none }) (v := (.int .i64 g)) rfl (by kernel_rfl) (by kernel_rfl) (by kernel_rfl) (fun _ _ _ h => h) (Or.inl ⟨by rfl, fun w' hS => by (try dsimp only at hS); go_simp⟩) ⟨Hb1.out, Hb2.out, HL.out⟩ ?_
  simp only [Act.put, List.setIfInBounds_toArray, List.set_cons_zero, List.set_cons_succ]
  refine wpAnyH_take (i := 1) (oi := { dst := some 7, op := Op.load 3 (Operand.tmp 2), type := 3, pos := _, after := #[], guard := none }) (v := (.int .i64 y)) rfl (by kernel_rfl) (by kernel_rfl) (by kernel_rfl) (fun _ _ _ h => h) (Or.inl ⟨by rfl, fun w' hS => by (try dsimp only at hS); go_simp⟩) ⟨Hb1.out, Hb2.out, HL.out⟩ ?_
  simp only [Act.put, List.setIfInBounds_toArray, List.set_cons_zero, List.set_cons_succ]
  refine wpAnyH_take (i := 3) (oi := { dst := some 9, op := Op.fieldAddr 189 (Operand.tmp 3) 1, type := 0, pos := _, after := #[], guard := none }) (v := (.pointer (some ⟨w.heap.size, 1, none⟩))) rfl (by kernel_rfl) (by kernel_rfl) (by kernel_rfl) (fun _ _ _ h => h) (Or.inl ⟨by rfl, fun w' hS => by (try dsimp only at hS); go_simp⟩) ⟨Hb1.out, Hb2.out, HL.out⟩ ?_
  simp only [Act.put, List.setIfInBounds_toArray, List.set_cons_zero, List.set_cons_succ]
  refine wpAnyH_take (i := 2) (oi := { dst := some 8, op := Op.build 189 #[(0, Operand.tmp 6), (1, Operand.tmp 7)], type := 189, pos := _, after := #[{ on := 0, ground := Ground.data }, { on := 1, ground := Ground.data }], guard := none }) (v := (.agg #[.int .i64 g, .int .i64 y])) rfl (by kernel_rfl) (by kernel_rfl) (by kernel_rfl) (fun _ _ _ h => h) (Or.inl ⟨by rfl, fun w' hS => by (try dsimp only at hS); go_simp⟩) ⟨Hb1.out, Hb2.out, HL.out⟩ ?_
  simp only [Act.put, List.setIfInBounds_toArray, List.set_cons_zero, List.set_cons_succ]
  refine wpAnyH_take (i := 4) (oi := { dst := some 10, op := Op.load 3 (Operand.tmp 9), type := 3, pos := _, after := #[{ on := 3, ground := Ground.data }], guard := none }) (v := (.int .i64 oy)) rfl (by kernel_rfl) (by kernel_rfl) (by kernel_rfl) (fun _ _ _ h => h) (Or.inl ⟨by rfl, fun w' hS => by (try dsimp only at hS); go_simp⟩) ⟨Hb1.out, Hb2.out, HL.out⟩ ?_
  simp only [Act.put, List.setIfInBounds_toArray, List.set_cons_zero, List.set_cons_succ]
  refine wpAnyH_take (i := 5) (oi := { dst := some 11, op := Op.binOp BinOp.eql 3 (Operand.tmp 10) (Operand.const (Value.int IntKind.i64 0)) 3, type := 4, pos := _, after := #[{ on := 4, ground := Ground.data }], guard := none }) (v := (.bool true)) rfl (by kernel_rfl) (by kernel_rfl) (by kernel_rfl) (fun _ _ _ h => h) (Or.inl ⟨by rfl, fun w' hS => by (try dsimp only at hS); go_simp⟩) ⟨Hb1.out, Hb2.out, HL.out⟩ ?_
  simp only [Act.put, List.setIfInBounds_toArray, List.set_cons_zero, List.set_cons_succ]
  refine wpAnyH_take (i := 6) (oi := { dst := some 12, op := Op.move (Operand.tmp 11), type := 4, pos := _, after := #[{ on := 5, ground := Ground.data }], guard := none }) (v := (.bool true)) rfl (by kernel_rfl) (by kernel_rfl) (by kernel_rfl) (fun _ _ _ h => h) (Or.inl ⟨by rfl, fun w' hS => by (try dsimp only at hS); go_simp⟩) ⟨Hb1.out, Hb2.out, HL.out⟩ ?_
  simp only [Act.put, List.setIfInBounds_toArray, List.set_cons_zero, List.set_cons_succ]
  refine wpAnyH_take (i := 7) (oi := { dst := some 13, op := Op.load 3 (Operand.tmp 1), type := 3, pos := _, after := #[{ on := 6, ground := Ground.guard }], guard := some (6, true) }) (v := (.int .i64 g)) rfl (by kernel_rfl) (by kernel_rfl) (by kernel_rfl) (fun _ _ _ h => h) (Or.inl ⟨by rfl, fun w' hS => by (try dsimp only at hS); go_simp⟩) ⟨Hb1.out, Hb2.out, HL.out⟩ ?_
  simp only [Act.put, List.setIfInBounds_toArray, List.set_cons_zero, List.set_cons_succ]
  refine wpAnyH_ready (rs := [8]) (by kernel_rfl) (by simp) ?_
  refine AllReadyH.cons (o := { dst := some 14, op := Op.call { callee := Callee.value (Operand.func 160), args := #[Operand.tmp 13], argTypes := #[3] }, type := 4, pos := _, after := #[{ on := 7, ground := Ground.data }, { on := 6, ground := Ground.chain }, { on := 6, ground := Ground.guard }], guard := some (6, true) }) rfl (fun K hK => ?_) AllReadyH.nil
  go_simp
  refine (isPage_yes g _ HP.out).mono ?_
  rintro e w1 ⟨rfl, rfl⟩
  refine hK.out _ _ ⟨Hb1.out, Hb2.out, HL.out⟩ (fun hB => ?_)
  clear hK K hB
  try simp only [Act.put, List.setIfInBounds_toArray, List.set_cons_zero, List.set_cons_succ]
  refine wpAnyH_take (i := 9) (oi := { dst := some 15, op := Op.pick (Operand.tmp 12) (Operand.tmp 14) (Operand.const (Value.bool false)), type := 4, pos := _, after := #[{ on := 6, ground := Ground.data }, { on := 8, ground := Ground.data }], guard := none }) (v := (.bool true)) rfl (by kernel_rfl) (by kernel_rfl) (by kernel_rfl) (fun _ _ _ h => h) (Or.inl ⟨by rfl, fun w' hS => by (try dsimp only at hS); go_simp⟩) ⟨Hb1.out, Hb2.out, HL.out⟩ ?_
  simp only [Act.put, List.setIfInBounds_toArray, List.set_cons_zero, List.set_cons_succ]
  refine wpAnyH_take (i := 10) (oi := { dst := some 16, op := Op.move (Operand.tmp 15), type := 4, pos := _, after := #[{ on := 9, ground := Ground.data }, { on := 8, ground := Ground.chain }], guard := none }) (v := (.bool true)) rfl (by kernel_rfl) (by kernel_rfl) (by kernel_rfl) (fun _ _ _ h => h) (Or.inl ⟨by rfl, fun w' hS => by (try dsimp only at hS); go_simp⟩) ⟨Hb1.out, Hb2.out, HL.out⟩ ?_
  simp only [Act.put, List.setIfInBounds_toArray, List.set_cons_zero, List.set_cons_succ]
  refine wpAnyH_take (i := 11) (oi := { dst := some 17, op := Op.load 3 (Operand.tmp 2), type := 3, pos := _, after := #[{ on := 10, ground := Ground.guard }], guard := some (10, true) }) (v := (.int .i64 y)) rfl (by kernel_rfl) (by kernel_rfl) (by kernel_rfl) (fun _ _ _ h => h) (Or.inl ⟨by rfl, fun w' hS => by (try dsimp only at hS); go_simp⟩) ⟨Hb1.out, Hb2.out, HL.out⟩ ?_
  simp only [Act.put, List.setIfInBounds_toArray, List.set_cons_zero, List.set_cons_succ]
  refine wpAnyH_ready (rs := [12]) (by kernel_rfl) (by simp) ?_
  refine AllReadyH.cons (o := { dst := some 18, op := Op.call { callee := Callee.value (Operand.func 104), args := #[Operand.tmp 17], argTypes := #[3] }, type := 4, pos := _, after := #[{ on := 11, ground := Ground.data }, { on := 10, ground := Ground.chain }, { on := 10, ground := Ground.guard }], guard := some (10, true) }) rfl (fun K hK => ?_) AllReadyH.nil
  go_simp
  refine (isMay_any y _).mono ?_
  rintro e w1 ⟨r, rfl, hr, rfl⟩
  have HR2 : Hid (r = true ↔ (oy = 0 ∧ pgOK g ∧ mayOK y)) := hr.trans ⟨fun q => ⟨H0.out, HP.out, q⟩, fun q => q.2.2⟩
  clear hr
  refine hK.out _ _ ⟨Hb1.out, Hb2.out, HL.out⟩ (fun hB => ?_)
  clear hK K hB
  try simp only [Act.put, List.setIfInBounds_toArray, List.set_cons_zero, List.set_cons_succ]
  refine wpAnyH_take (i := 13) (oi := { dst := some 19, op := Op.pick (Operand.tmp 16) (Operand.tmp 18) (Operand.const (Value.bool false)), type := 4, pos := _, after := #[{ on := 10, ground := Ground.data }, { on := 12, ground := Ground.data }, { on := 14, ground := Ground.gcOnly Departure.lateStores }], guard := none }) (v := (.bool r)) rfl (by kernel_rfl) (by kernel_rfl) (by kernel_rfl) (fun _ _ _ h => h) (Or.inl ⟨by rfl, fun w' hS => by (try dsimp only at hS); go_simp⟩) ⟨Hb1.out, Hb2.out, HL.out⟩ ?_
  simp only [Act.put, List.setIfInBounds_toArray, List.set_cons_zero, List.set_cons_succ]
  refine wpAnyH_ready (rs := [14]) (by kernel_rfl) (by simp) ?_
  refine AllReadyH.cons (o := { dst := none, op := Op.store 189 (Operand.tmp 4) (Operand.tmp 8), type := 0, pos := _, after := #[{ on := 2, ground := Ground.data }, { on := 12, ground := Ground.chain }, { on := 0, ground := Ground.phase }, { on := 1, ground := Ground.phase }, { on := 2, ground := Ground.phase }, { on := 3, ground := Ground.textOnly Departure.lateStores }, { on := 4, ground := Ground.textOnly Departure.lateStores }, { on := 5, ground := Ground.textOnly Departure.lateStores }, { on := 6, ground := Ground.textOnly Departure.lateStores }, { on := 7, ground := Ground.textOnly Departure.lateStores }, { on := 8, ground := Ground.textOnly Departure.lateStoresUnsure }, { on := 9, ground := Ground.textOnly Departure.lateStores }, { on := 10, ground := Ground.textOnly Departure.lateStores }, { on := 11, ground := Ground.textOnly Departure.lateStores }, { on := 12, ground := Ground.textOnly Departure.lateStoresUnsure }, { on := 13, ground := Ground.textOnly Departure.lateStores }], guard := none }) rfl (fun K hK => ?_) AllReadyH.nil
  go_simp
  have hSt := (And.intro ((Hb1.out.setOther (a := ⟨w.heap.size + 1, 0, none⟩) (by show b1 ≠ w.heap.size + 1; omega) (.int .i64 g)).setOther (a := ⟨w.heap.size + 1, 1, none⟩) (by show b1 ≠ w.heap.size + 1; omega) (.int .i64 y)) (And.intro ((Hb2.out.setOther (a := ⟨w.heap.size + 1, 0, none⟩) (by show b2 ≠ w.heap.size + 1; omega) (.int .i64 g)).setOther (a := ⟨w.heap.size + 1, 1, none⟩) (by show b2 ≠ w.heap.size + 1; omega) (.int .i64 y)) ((HL.out.setOther (a := ⟨w.heap.size + 1, 0, none⟩) (by show w.heap.size ≠ w.heap.size + 1; omega) (.int .i64 g)).setOther (a := ⟨w.heap.size + 1, 1, none⟩) (by show w.heap.size ≠ w.heap.size + 1; omega) (.int .i64 y))))
  refine hK.out _ _ hSt (fun hB => ?_)
  clear hK K hB
  try simp only [Act.put, List.setIfInBounds_toArray, List.set_cons_zero, List.set_cons_succ]
  refine wpAnyH_take (i := 15) (oi := { dst := some 5, op := Op.assign (Operand.tmp 19), type := 4, pos := _, after := #[{ on := 13, ground := Ground.data }, { on := 14, ground := Ground.chain }, { on := 0, ground := Ground.phase }, { on := 1, ground := Ground.phase }, { on := 2, ground := Ground.phase }, { on := 3, ground := Ground.phase }, { on := 4, ground := Ground.phase }, { on := 5, ground := Ground.phase }, { on := 6, ground := Ground.phase }, { on := 7, ground := Ground.phase }, { on := 8, ground := Ground.phase }, { on := 9, ground := Ground.phase }, { on := 10, ground := Ground.phase }, { on := 11, ground := Ground.phase }, { on := 12, ground := Ground.phase }, { on := 13, ground := Ground.phase }, { on := 14, ground := Ground.phase }], guard := none }) (v := (.bool r)) rfl (by kernel_rfl) (by kernel_rfl) (by kernel_rfl) (fun _ _ _ h => h) (Or.inl ⟨by rfl, fun w' hS => by (try dsimp only at hS); go_simp⟩) hSt ?_
  simp only [Act.put, List.setIfInBounds_toArray, List.set_cons_zero, List.set_cons_succ]
  refine wpAnyH_done (by kernel_rfl) ?_ _
  refine NoPanic.normal ?_
  have HBF : Hid _ := set2_blw HB.out (B := w.heap.size + 1) (by omega) (.int .i64 g) (.int .i64 y)
  clear hSt HL HR HB PL0 PL1 Hb1 Pb1 Hb2 Pb2
  go_wp2
  exact bodyPost_ret (v := .tuple #[.agg #[.int .i64 g, .int .i64 y], .bool r]) (by simp [results, Try.results207, go_sem, t0, t1]) rfl ⟨r, rfl, HR2.out, HBF.out⟩
set_option maxRecDepth 10000 in
set_option maxHeartbeats 3200000 in
theorem unmapFn_any (ox oy : Int) (w : World) :
    Calls Try.prog 208 #[.agg #[.int .i64 ox, .int .i64 oy]] w fun e w' => ∃ r, e = .returned (.tuple #[.agg #[.int .i64 0, .int .i64 0], .bool r]) ∧ (r = true ↔ ¬ oy = 0) ∧ Blw w w' := by
  have hA1 : Blw w (w.alloc (.cells #[.int .i64 ox, .int .i64 oy] 189)) := (Blw.refl _).alloc _
  have hA2 : Blw (w.alloc (.cells #[.int .i64 ox, .int .i64 oy] 189)) ((w.alloc (.cells #[.int .i64 ox, .int .i64 oy] 189)).alloc (.cells #[.int .i64 0, .int .i64 0] 189)) := (Blw.refl _).alloc _
  have HB : Hid (Blw w ((w.alloc (.cells #[.int .i64 ox, .int .i64 oy] 189)).alloc (.cells #[.int .i64 0, .int .i64 0] 189))) := hA1.trans hA2
  have HL : Hid (Row ((w.alloc (.cells #[.int .i64 ox, .int .i64 oy] 189)).alloc (.cells #[.int .i64 0, .int .i64 0] 189)) w.heap.size 2 (fun i => if i = 0 then .int .i64 ox else .int .i64 oy)) := (box2 w _ _ 189).blw hA2
  have rR := box2 (w.alloc (.cells #[.int .i64 ox, .int .i64 oy] 189)) (.int .i64 0) (.int .i64 0) 189
  rw [World.size_alloc] at rR
  have HR : Hid (Row ((w.alloc (.cells #[.int .i64 ox, .int .i64 oy] 189)).alloc (.cells #[.int .i64 0, .int .i64 0] 189)) (w.heap.size + 1) 2 (fun i => if i = 0 then .int .i64 0 else .int .i64 0)) := rR
  clear hA1 hA2 rR 
  go_enter Try.func208, Try.ntmps208
  obtain ⟨r, hr, hr2⟩ : ∃ r, (oy != 0) = r ∧ (r = true ↔ ¬ oy = 0) := ⟨_, rfl, by simp⟩
  have HRR : Hid (r = true ↔ ¬ oy = 0) := hr2
  clear hr2
  go_upto_region 1 with fail
  generalize ((w.alloc (.cells #[.int .i64 ox, .int .i64 oy] 189)).alloc (.cells #[.int .i64 0, .int .i64 0] 189)) = W at *
  replace HL : Hid (Row W.drew w.heap.size 2 (fun i => if i = 0 then .int .i64 ox else .int .i64 oy)) := HL.out.blw (Blw.refl _).drew
  replace HR : Hid (Row W.drew (w.heap.size + 1) 2 (fun i => if i = 0 then .int .i64 0 else .int .i64 0)) := HR.out.blw (Blw.refl _).drew
  replace HB : Hid (Blw w W.drew) := HB.out.drew
  have PL0 : ∀ w', (Row w' w.heap.size 2 (fun i => if i = 0 then .int .i64 ox else .int .i64 oy)) → w'.cell? ⟨w.heap.size, 0, none⟩ = some (.int .i64 ox) := fun w' hh => (get2 hh).1
  have PL1 : ∀ w', (Row w' w.heap.size 2 (fun i => if i = 0 then .int .i64 ox else .int .i64 oy)) → w'.cell? ⟨w.heap.size, 1, none⟩ = some (.int .i64 oy) := fun w' hh => (get2 hh).2
  obtain ⟨t0, t1⟩ := get2 HR.out
  have f0 := HR.out.frozen 0
  have f1 := HR.out.frozen 1
  refine wp_region_noPanic ?_
  refine wp_region_held_drew (S := fun w' => Row w' w.heap.size 2 (fun i => if i = 0 then .int .i64 ox else .int .i64 oy)) (by kernel_rfl) HL.out (fun hB => ?_)
  clear hB
  generalize W.drew = wd at *
  refine wpAnyH_take (i := 0) (oi := { dst := some 4, op := Op.build 189 #[], type := 189, pos := _, after := #[], guard := none }) (v := (.agg #[.int .i64 0, .int .i64 0])) rfl (by kernel_rfl) (by kernel_rfl) (by kernel_rfl) (fun _ _ _ h => h) (Or.inl ⟨by rfl, fun w' hS => by (try dsimp only at hS); go_simp⟩) HL.out ?_
  simp only [Act.put, List.setIfInBounds_toArray, List.set_cons_zero, List.set_cons_succ]
  refine wpAnyH_take (i := 1) (oi := { dst := some 5, op := Op.fieldAddr 189 (Operand.tmp 1) 1, type := 0, pos := _, after := #[{ on := 4, ground := Ground.gcOnly Departure.lateStores }], guard := none }) (v := (.pointer (some ⟨w.heap.size, 1, none⟩))) rfl (by kernel_rfl) (by kernel_rfl) (by kernel_rfl) (fun _ _ _ h => h) (Or.inl ⟨by rfl, fun w' hS => by (try dsimp only at hS); go_simp⟩) HL.out ?_
  simp only [Act.put, List.setIfInBounds_toArray, List.set_cons_zero, List.set_cons_succ]
  refine wpAnyH_take (i := 2) (oi := { dst := some 6, op := Op.load 3 (Operand.tmp 5), type := 3, pos := _, after := #[{ on := 1, ground := Ground.data }, { on := 4, ground := Ground.gcOnly Departure.lateStores }], guard := none }) (v := (.int .i64 oy)) rfl (by kernel_rfl) (by kernel_rfl) (by kernel_rfl) (fun _ _ _ h => h) (Or.inl ⟨by rfl, fun w' hS => by (try dsimp only at hS); go_simp⟩) HL.out ?_
  simp only [Act.put, List.setIfInBounds_toArray, List.set_cons_zero, List.set_cons_succ]
  refine wpAnyH_take (i := 3) (oi := { dst := some 7, op := Op.binOp BinOp.neq 3 (Operand.tmp 6) (Operand.const (Value.int IntKind.i64 0)) 3, type := 4, pos := _, after := #[{ on := 2, ground := Ground.data }, { on := 4, ground := Ground.gcOnly Departure.lateStores }], guard := none }) (v := (.bool r)) rfl (by kernel_rfl) (by kernel_rfl) (by kernel_rfl) (fun _ _ _ h => h) (Or.inl ⟨by rfl, fun w' hS => by (try dsimp only at hS); go_simp⟩) HL.out ?_
  simp only [Act.put, List.setIfInBounds_toArray, List.set_cons_zero, List.set_cons_succ]
  refine wpAnyH_ready (rs := [4]) (by kernel_rfl) (by simp) ?_
  refine AllReadyH.cons (o := { dst := none, op := Op.store 189 (Operand.tmp 2) (Operand.tmp 4), type := 0, pos := _, after := #[{ on := 0, ground := Ground.data }, { on := 0, ground := Ground.phase }, { on := 1, ground := Ground.textOnly Departure.lateStores }, { on := 2, ground := Ground.textOnly Departure.lateStores }, { on := 3, ground := Ground.textOnly Departure.lateStores }], guard := none }) rfl (fun K hK => ?_) AllReadyH.nil
  go_simp
  have hSt := ((HL.out.setOther (a := ⟨w.heap.size + 1, 0, none⟩) (by show w.heap.size ≠ w.heap.size + 1; omega) (.int .i64 0)).setOther (a := ⟨w.heap.size + 1, 1, none⟩) (by show w.heap.size ≠ w.heap.size + 1; omega) (.int .i64 0))
  refine hK.out _ _ hSt (fun hB => ?_)
  clear hK K hB
  try simp only [Act.put, List.setIfInBounds_toArray, List.set_cons_zero, List.set_cons_succ]
  refine wpAnyH_take (i := 5) (oi := { dst := some 3, op := Op.assign (Operand.tmp 7), type := 4, pos := _, after := #[{ on := 3, ground := Ground.data }, { on := 4, ground := Ground.chain }, { on := 0, ground := Ground.phase }, { on := 1, ground := Ground.phase }, { on := 2, ground := Ground.phase }, { on := 3, ground := Ground.phase }, { on := 4, ground := Ground.phase }], guard := none }) (v := (.bool r)) rfl (by kernel_rfl) (by kernel_rfl) (by kernel_rfl) (fun _ _ _ h => h) (Or.inl ⟨by rfl, fun w' hS => by (try dsimp only at hS); go_simp⟩) hSt ?_
  simp only [Act.put, List.setIfInBounds_toArray, List.set_cons_zero, List.set_cons_succ]
  refine wpAnyH_done (by kernel_rfl) ?_ _
  refine NoPanic.normal ?_
  have HBF : Hid _ := set2_blw HB.out (B := w.heap.size + 1) (by omega) (.int .i64 0) (.int .i64 0)
  clear hSt HL HR HB PL0 PL1 
  go_wp2
  exact bodyPost_ret (v := .tuple #[.agg #[.int .i64 0, .int .i64 0], .bool r]) (by simp [results, Try.results208, go_sem, t0, t1]) rfl ⟨r, rfl, HRR.out, HBF.out⟩
set_option maxRecDepth 10000 in
set_option maxHeartbeats 3200000 in
theorem protFn_any (ox oy y : Int) (b2 : Nat) (w : World) (hb2 : Row w b2 1 (fun _ => .int .i64 y)) :
    Calls Try.prog 209 #[.agg #[.int .i64 ox, .int .i64 oy], .pointer (some ⟨b2, 0, none⟩)] w fun e w' => ∃ r, e = .returned (.tuple #[.agg #[.int .i64 ox, .int .i64 y], .bool r]) ∧ (r = true ↔ ¬ oy = 0 ∧ mayOK y) ∧ Blw w w' := by
  have hA1 : Blw w (w.alloc (.cells #[.int .i64 ox, .int .i64 oy] 189)) := (Blw.refl _).alloc _
  have hA2 : Blw (w.alloc (.cells #[.int .i64 ox, .int .i64 oy] 189)) ((w.alloc (.cells #[.int .i64 ox, .int .i64 oy] 189)).alloc (.cells #[.int .i64 0, .int .i64 0] 189)) := (Blw.refl _).alloc _
  have HB : Hid (Blw w ((w.alloc (.cells #[.int .i64 ox, .int .i64 oy] 189)).alloc (.cells #[.int .i64 0, .int .i64 0] 189))) := hA1.trans hA2
  have HL : Hid (Row ((w.alloc (.cells #[.int .i64 ox, .int .i64 oy] 189)).alloc (.cells #[.int .i64 0, .int .i64 0] 189)) w.heap.size 2 (fun i => if i = 0 then .int .i64 ox else .int .i64 oy)) := (box2 w _ _ 189).blw hA2
  have rR := box2 (w.alloc (.cells #[.int .i64 ox, .int .i64 oy] 189)) (.int .i64 0) (.int .i64 0) 189
  rw [World.size_alloc] at rR
  have HR : Hid (Row ((w.alloc (.cells #[.int .i64 ox, .int .i64 oy] 189)).alloc (.cells #[.int .i64 0, .int .i64 0] 189)) (w.heap.size + 1) 2 (fun i => if i = 0 then .int .i64 0 else .int .i64 0)) := rR
  have Hb2 : Hid (Row ((w.alloc (.cells #[.int .i64 ox, .int .i64 oy] 189)).alloc (.cells #[.int .i64 0, .int .i64 0] 189)) b2 1 (fun _ => .int .i64 y)) := hb2.blw (hA1.trans hA2)
  have lb2 := hb2.lt
  clear hA1 hA2 rR hb2
  go_enter Try.func209, Try.ntmps209
  by_cases h0 : oy = 0
  case pos =>
    have d1 : (oy != 0) = false := by simp [h0]
    have HN : Hid (¬ (¬ oy = 0 ∧ mayOK y)) := fun q => q.1 h0
    clear h0
    go_upto_region 1 with fail
    generalize ((w.alloc (.cells #[.int .i64 ox, .int .i64 oy] 189)).alloc (.cells #[.int .i64 0, .int .i64 0] 189)) = W at *
    replace Hb2 : Hid (Row W.drew b2 1 (fun _ => .int .i64 y)) := Hb2.out.blw (Blw.refl _).drew
    replace HL : Hid (Row W.drew w.heap.size 2 (fun i => if i = 0 then .int .i64 ox else .int .i64 oy)) := HL.out.blw (Blw.refl _).drew
    replace HR : Hid (Row W.drew (w.heap.size + 1) 2 (fun i => if i = 0 then .int .i64 0 else .int .i64 0)) := HR.out.blw (Blw.refl _).drew
    replace HB : Hid (Blw w W.drew) := HB.out.drew
    have Pb2 : ∀ w', (Row w' b2 1 (fun _ => .int .i64 y) ∧ Row w' w.heap.size 2 (fun i => if i = 0 then .int .i64 ox else .int .i64 oy)) → w'.cell? ⟨b2, 0, none⟩ = some (.int .i64 y) := fun w' hh => (hh.1).cell (i := 0) (by omega)
    have PL0 : ∀ w', (Row w' b2 1 (fun _ => .int .i64 y) ∧ Row w' w.heap.size 2 (fun i => if i = 0 then .int .i64 ox else .int .i64 oy)) → w'.cell? ⟨w.heap.size, 0, none⟩ = some (.int .i64 ox) := fun w' hh => (get2 hh.2).1
    have PL1 : ∀ w', (Row w' b2 1 (fun _ => .int .i64 y) ∧ Row w' w.heap.size 2 (fun i => if i = 0 then .int .i64 ox else .int .i64 oy)) → w'.cell? ⟨w.heap.size, 1, none⟩ = some (.int .i64 oy) := fun w' hh => (get2 hh.2).2
    obtain ⟨t0, t1⟩ := get2 HR.out
    have f0 := HR.out.frozen 0
    have f1 := HR.out.frozen 1
    refine wp_region_noPanic ?_
    refine wp_region_held_drew (S := fun w' => Row w' b2 1 (fun _ => .int .i64 y) ∧ Row w' w.heap.size 2 (fun i => if i = 0 then .int .i64 ox else .int .i64 oy)) (by kernel_rfl) ⟨Hb2.out, HL.out⟩ (fun hB => ?_)
    clear hB
    generalize W.drew = wd at *
    refine wpAnyH_take (i := 0) (oi := { dst := some 5, op := Op.fieldAddr 189 (Operand.tmp 2) 0, type := 0, pos := _, after := #[], guard := none }) (v := (.pointer (some ⟨w.heap.size, 0, none⟩))) rfl (by kernel_rfl) (by kernel_rfl) (by kernel_rfl) (fun _ _ _ h => h) (Or.inl ⟨by rfl, fun w' hS => by (try dsimp only at hS); go_simp⟩) ⟨Hb2.out, HL.out⟩ ?_
    simp only [Act.put, List.setIfInBounds_toArray, List.set_cons_zero, List.set_cons_succ]
    refine wpAnyH_take (i := 2) (oi := { dst := some 7, op := Op.load 3 (Operand.tmp 1), type := 3, pos := _, after := #[], guard := none }) (v := (.int .i64 y)) rfl (by kernel_rfl) (by kernel_rfl) (by kernel_rfl) (fun _ _ _ h => h) (Or.inl ⟨by rfl, fun w' hS => by (try dsimp only at hS); go_simp⟩) ⟨Hb2.out, HL.out⟩ ?_
    simp only [Act.put, List.setIfInBounds_toArray, List.set_cons_zero, List.set_cons_succ]
    refine wpAnyH_take (i := 4) (oi := { dst := some 9, op := Op.fieldAddr 189 (Operand.tmp 2) 1, type := 0, pos := _, after := #[], guard := none }) (v := (.pointer (some ⟨w.heap.size, 1, none⟩))) rfl (by kernel_rfl) (by kernel_rfl) (by kernel_rfl) (fun _ _ _ h => h) (Or.inl ⟨by rfl, fun w' hS => by (try dsimp only at hS); go_simp⟩) ⟨Hb2.out, HL.out⟩ ?_
    simp only [Act.put, List.setIfInBounds_toArray, List.set_cons_zero, List.set_cons_succ]
    refine wpAnyH_take (i := 1) (oi := { dst := some 6, op := Op.load 3 (Operand.tmp 5), type := 3, pos := _, after := #[{ on := 0, ground := Ground.data }], guard := none }) (v := (.int .i64 ox)) rfl (by kernel_rfl) (by kernel_rfl) (by kernel_rfl) (fun _ _ _ h => h) (Or.inl ⟨by rfl, fun w' hS => by (try dsimp only at hS); go_simp⟩) ⟨Hb2.out, HL.out⟩ ?_
    simp only [Act.put, List.setIfInBounds_toArray, List.set_cons_zero, List.set_cons_succ]
    refine wpAnyH_take (i := 5) (oi := { dst := some 10, op := Op.load 3 (Operand.tmp 9), type := 3, pos := _, after := #[{ on := 4, ground := Ground.data }], guard := none }) (v := (.int .i64 oy)) rfl (by kernel_rfl) (by kernel_rfl) (by kernel_rfl) (fun _ _ _ h => h) (Or.inl ⟨by rfl, fun w' hS => by (try dsimp only at hS); go_simp⟩) ⟨Hb2.out, HL.out⟩ ?_
    simp only [Act.put, List.setIfInBounds_toArray, List.set_cons_zero, List.set_cons_succ]
    refine wpAnyH_take (i := 3) (oi := { dst := some 8, op := Op.build 189 #[(0, Operand.tmp 6), (1, Operand.tmp 7)], type := 189, pos := _, after := #[{ on := 1, ground := Ground.data }, { on := 2, ground := Ground.data }], guard := none }) (v := (.agg #[.int .i64 ox, .int .i64 y])) rfl (by kernel_rfl) (by kernel_rfl) (by kernel_rfl) (fun _ _ _ h => h) (Or.inl ⟨by rfl, fun w' hS => by (try dsimp only at hS); go_simp⟩) ⟨Hb2.out, HL.out⟩ ?_
    simp only [Act.put, List.setIfInBounds_toArray, List.set_cons_zero, List.set_cons_succ]
    refine wpAnyH_take (i := 6) (oi := { dst := some 11, op := Op.binOp BinOp.neq 3 (Operand.tmp 10) (Operand.const (Value.int IntKind.i64 0)) 3, type := 4, pos := _, after := #[{ on := 5, ground := Ground.data }], guard := none }) (v := (.bool false)) rfl (by kernel_rfl) (by kernel_rfl) (by kernel_rfl) (fun _ _ _ h => h) (Or.inl ⟨by rfl, fun w' hS => by (try dsimp only at hS); go_simp⟩) ⟨Hb2.out, HL.out⟩ ?_
    simp only [Act.put, List.setIfInBounds_toArray, List.set_cons_zero, List.set_cons_succ]
    refine wpAnyH_take (i := 7) (oi := { dst := some 12, op := Op.move (Operand.tmp 11), type := 4, pos := _, after := #[{ on := 6, ground := Ground.data }], guard := none }) (v := (.bool false)) rfl (by kernel_rfl) (by kernel_rfl) (by kernel_rfl) (fun _ _ _ h => h) (Or.inl ⟨by rfl, fun w' hS => by (try dsimp only at hS); go_simp⟩) ⟨Hb2.out, HL.out⟩ ?_
    simp only [Act.put, List.setIfInBounds_toArray, List.set_cons_zero, List.set_cons_succ]
    refine wpAnyH_take (i := 8) (oi := { dst := some 13, op := Op.load 3 (Operand.tmp 1), type := 3, pos := _, after := #[{ on := 7, ground := Ground.guard }], guard := some (7, true) }) (v := undef) rfl (by kernel_rfl) (by kernel_rfl) (by kernel_rfl) (fun _ _ _ h => h) (Or.inr ⟨by rfl, rfl⟩) ⟨Hb2.out, HL.out⟩ ?_
    simp only [Act.put, List.setIfInBounds_toArray, List.set_cons_zero, List.set_cons_succ]
    refine wpAnyH_take (i := 9) (oi := { dst := some 14, op := Op.call { callee := Callee.value (Operand.func 104), args := #[Operand.tmp 13], argTypes := #[3] }, type := 4, pos := _, after := #[{ on := 8, ground := Ground.data }, { on := 7, ground := Ground.chain }, { on := 7, ground := Ground.guard }], guard := some (7, true) }) (v := undef) rfl (by kernel_rfl) (by kernel_rfl) (by kernel_rfl) (fun _ _ _ h => h) (Or.inr ⟨by rfl, rfl⟩) ⟨Hb2.out, HL.out⟩ ?_
    simp only [Act.put, List.setIfInBounds_toArray, List.set_cons_zero, List.set_cons_succ]
    refine wpAnyH_take (i := 10) (oi := { dst := some 15, op := Op.pick (Operand.tmp 12) (Operand.tmp 14) (Operand.const (Value.bool false)), type := 4, pos := _, after := #[{ on := 7, ground := Ground.data }, { on := 9, ground := Ground.data }, { on := 11, ground := Ground.gcOnly Departure.lateStores }], guard := none }) (v := (.bool false)) rfl (by kernel_rfl) (by kernel_rfl) (by kernel_rfl) (fun _ _ _ h => h) (Or.inl ⟨by rfl, fun w' hS => by (try dsimp only at hS); go_simp⟩) ⟨Hb2.out, HL.out⟩ ?_
    simp only [Act.put, List.setIfInBounds_toArray, List.set_cons_zero, List.set_cons_succ]
    refine wpAnyH_ready (rs := [11]) (by kernel_rfl) (by simp) ?_
    refine AllReadyH.cons (o := { dst := none, op := Op.store 189 (Operand.tmp 3) (Operand.tmp 8), type := 0, pos := _, after := #[{ on := 3, ground := Ground.data }, { on := 9, ground := Ground.chain }, { on := 0, ground := Ground.phase }, { on := 1, ground := Ground.phase }, { on := 2, ground := Ground.phase }, { on := 3, ground := Ground.phase }, { on := 4, ground := Ground.textOnly Departure.lateStores }, { on := 5, ground := Ground.textOnly Departure.lateStores }, { on := 6, ground := Ground.textOnly Departure.lateStores }, { on := 7, ground := Ground.textOnly Departure.lateStores }, { on := 8, ground := Ground.textOnly Departure.lateStores }, { on := 9, ground := Ground.textOnly Departure.lateStoresUnsure }, { on := 10, ground := Ground.textOnly Departure.lateStores }], guard := none }) rfl (fun K hK => ?_) AllReadyH.nil
    go_simp
    have hSt := (And.intro ((Hb2.out.setOther (a := ⟨w.heap.size + 1, 0, none⟩) (by show b2 ≠ w.heap.size + 1; omega) (.int .i64 ox)).setOther (a := ⟨w.heap.size + 1, 1, none⟩) (by show b2 ≠ w.heap.size + 1; omega) (.int .i64 y)) ((HL.out.setOther (a := ⟨w.heap.size + 1, 0, none⟩) (by show w.heap.size ≠ w.heap.size + 1; omega) (.int .i64 ox)).setOther (a := ⟨w.heap.size + 1, 1, none⟩) (by show w.heap.size ≠ w.heap.size + 1; omega) (.int .i64 y)))
    refine hK.out _ _ hSt (fun hB => ?_)
    clear hK K hB
    try simp only [Act.put, List.setIfInBounds_toArray, List.set_cons_zero, List.set_cons_succ]
    refine wpAnyH_take (i := 12) (oi := { dst := some 4, op := Op.assign (Operand.tmp 15), type := 4, pos := _, after := #[{ on := 10, ground := Ground.data }, { on := 11, ground := Ground.chain }, { on := 0, ground := Ground.phase }, { on := 1, ground := Ground.phase }, { on := 2, ground := Ground.phase }, { on := 3, ground := Ground.phase }, { on := 4, ground := Ground.phase }, { on := 5, ground := Ground.phase }, { on := 6, ground := Ground.phase }, { on := 7, ground := Ground.phase }, { on := 8, ground := Ground.phase }, { on := 9, ground := Ground.phase }, { on := 10, ground := Ground.phase }, { on := 11, ground := Ground.phase }], guard := none }) (v := (.bool false)) rfl (by kernel_rfl) (by kernel_rfl) (by kernel_rfl) (fun _ _ _ h => h) (Or.inl ⟨by rfl, fun w' hS => by (try dsimp only at hS); go_simp⟩) hSt ?_
    simp only [Act.put, List.setIfInBounds_toArray, List.set_cons_zero, List.set_cons_succ]
    refine wpAnyH_done (by kernel_rfl) ?_ _
    refine NoPanic.normal ?_
    have HBF : Hid _ := set2_blw HB.out (B := w.heap.size + 1) (by omega) (.int .i64 ox) (.int .i64 y)
    clear hSt HL HR HB PL0 PL1 Hb2 Pb2
    go_wp2
    exact bodyPost_ret (v := .tuple #[.agg #[.int .i64 ox, .int .i64 y], .bool false]) (by simp [results, Try.results209, go_sem, t0, t1]) rfl ⟨false, rfl, iff_f HN.out, HBF.out⟩
  have d1 : (oy != 0) = true := by simp [h0]
  have H0 : Hid (¬ oy = 0) := h0
  clear h0
  go_upto_region 1 with fail
  generalize ((w.alloc (.cells #[.int .i64 ox, .int .i64 oy] 189)).alloc (.cells #[.int .i64 0, .int .i64 0] 189)) = W at *
  replace Hb2 : Hid (Row W.drew b2 1 (fun _ => .int .i64 y)) := Hb2.out.blw (Blw.refl _).drew
  replace HL : Hid (Row W.drew w.heap.size 2 (fun i => if i = 0 then .int .i64 ox else .int .i64 oy)) := HL.out.blw (Blw.refl _).drew
  replace HR : Hid (Row W.drew (w.heap.size + 1) 2 (fun i => if i = 0 then .int .i64 0 else .int .i64 0)) := HR.out.blw (Blw.refl _).drew
  replace HB : Hid (Blw w W.drew) := HB.out.drew
  have Pb2 : ∀ w', (Row w' b2 1 (fun _ => .int .i64 y) ∧ Row w' w.heap.size 2 (fun i => if i = 0 then .int .i64 ox else .int .i64 oy)) → w'.cell? ⟨b2, 0, none⟩ = some (.int .i64 y) := fun w' hh => (hh.1).cell (i := 0) (by omega)
  have PL0 : ∀ w', (Row w' b2 1 (fun _ => .int .i64 y) ∧ Row w' w.heap.size 2 (fun i => if i = 0 then .int .i64 ox else .int .i64 oy)) → w'.cell? ⟨w.heap.size, 0, none⟩ = some (.int .i64 ox) := fun w' hh => (get2 hh.2).1
  have PL1 : ∀ w', (Row w' b2 1 (fun _ => .int .i64 y) ∧ Row w' w.heap.size 2 (fun i => if i = 0 then .int .i64 ox else .int .i64 oy)) → w'.cell? ⟨w.heap.size, 1, none⟩ = some (.int .i64 oy) := fun w' hh => (get2 hh.2).2
  obtain ⟨t0, t1⟩ := get2 HR.out
  have f0 := HR.out.frozen 0
  have f1 := HR.out.frozen 1
  refine wp_region_noPanic ?_
  refine wp_region_held_drew (S := fun w' => Row w' b2 1 (fun _ => .int .i64 y) ∧ Row w' w.heap.size 2 (fun i => if i = 0 then .int .i64 ox else .int .i64 oy)) (by kernel_rfl) ⟨Hb2.out, HL.out⟩ (fun hB => ?_)
  clear hB
  generalize W.drew = wd at *
  refine wpAnyH_take (i := 0) (oi := { dst := some 5, op := Op.fieldAddr 189 (Operand.tmp 2) 0, type := 0, pos := _, after := #[], guard := none }) (v := (.pointer (some ⟨w.heap.size, 0, none⟩))) rfl (by kernel_rfl) (by kernel_rfl) (by kernel_rfl) (fun _ _ _ h => h) (Or.inl ⟨by rfl, fun w' hS => by (try dsimp only at hS); go_simp⟩) ⟨Hb2.out, HL.out⟩ ?_
  simp only [Act.put, List.setIfInBounds_toArray, List.set_cons_zero, List.set_cons_succ]
  refine wpAnyH_take (i := 2) (oi := { dst := some 7, op := Op.load 3 (Operand.tmp 1), type := 3, pos := _, after := #[], guard := none }) (v := (.int .i64 y)) rfl (by kernel_rfl) (by kernel_rfl) (by kernel_rfl) (fun _ _ _ h => h) (Or.inl ⟨by rfl, fun w' hS => by (try dsimp only at hS); go_simp⟩) ⟨Hb2.out, HL.out⟩ ?_
  simp only [Act.put, List.setIfInBounds_toArray, List.set_cons_zero, List.set_cons_succ]
  refine wpAnyH_take (i := 4) (oi := { dst := some 9, op := Op.fieldAddr 189 (Operand.tmp 2) 1, type := 0, pos := _, after := #[], guard := none }) (v := (.pointer (some ⟨w.heap.size, 1, none⟩))) rfl (by kernel_rfl) (by kernel_rfl) (by kernel_rfl) (fun _ _ _ h => h) (Or.inl ⟨by rfl, fun w' hS => by (try dsimp only at hS); go_simp⟩) ⟨Hb2.out, HL.out⟩ ?_
  simp only [Act.put, List.setIfInBounds_toArray, List.set_cons_zero, List.set_cons_succ]
  refine wpAnyH_take (i := 1) (oi := { dst := some 6, op := Op.load 3 (Operand.tmp 5), type := 3, pos := _, after := #[{ on := 0, ground := Ground.data }], guard := none }) (v := (.int .i64 ox)) rfl (by kernel_rfl) (by kernel_rfl) (by kernel_rfl) (fun _ _ _ h => h) (Or.inl ⟨by rfl, fun w' hS => by (try dsimp only at hS); go_simp⟩) ⟨Hb2.out, HL.out⟩ ?_
  simp only [Act.put, List.setIfInBounds_toArray, List.set_cons_zero, List.set_cons_succ]
  refine wpAnyH_take (i := 5) (oi := { dst := some 10, op := Op.load 3 (Operand.tmp 9), type := 3, pos := _, after := #[{ on := 4, ground := Ground.data }], guard := none }) (v := (.int .i64 oy)) rfl (by kernel_rfl) (by kernel_rfl) (by kernel_rfl) (fun _ _ _ h => h) (Or.inl ⟨by rfl, fun w' hS => by (try dsimp only at hS); go_simp⟩) ⟨Hb2.out, HL.out⟩ ?_
  simp only [Act.put, List.setIfInBounds_toArray, List.set_cons_zero, List.set_cons_succ]
  refine wpAnyH_take (i := 3) (oi := { dst := some 8, op := Op.build 189 #[(0, Operand.tmp 6), (1, Operand.tmp 7)], type := 189, pos := _, after := #[{ on := 1, ground := Ground.data }, { on := 2, ground := Ground.data }], guard := none }) (v := (.agg #[.int .i64 ox, .int .i64 y])) rfl (by kernel_rfl) (by kernel_rfl) (by kernel_rfl) (fun _ _ _ h => h) (Or.inl ⟨by rfl, fun w' hS => by (try dsimp only at hS); go_simp⟩) ⟨Hb2.out, HL.out⟩ ?_
  simp only [Act.put, List.setIfInBounds_toArray, List.set_cons_zero, List.set_cons_succ]
  refine wpAnyH_take (i := 6) (oi := { dst := some 11, op := Op.binOp BinOp.neq 3 (Operand.tmp 10) (Operand.const (Value.int IntKind.i64 0)) 3, type := 4, pos := _, after := #[{ on := 5, ground := Ground.data }], guard := none }) (v := (.bool true)) rfl (by kernel_rfl) (by kernel_rfl) (by kernel_rfl) (fun _ _ _ h => h) (Or.inl ⟨by rfl, fun w' hS => by (try dsimp only at hS); go_simp⟩) ⟨Hb2.out, HL.out⟩ ?_
  simp only [Act.put, List.setIfInBounds_toArray, List.set_cons_zero, List.set_cons_succ]
  refine wpAnyH_take (i := 7) (oi := { dst := some 12, op := Op.move (Operand.tmp 11), type := 4, pos := _, after := #[{ on := 6, ground := Ground.data }], guard := none }) (v := (.bool true)) rfl (by kernel_rfl) (by kernel_rfl) (by kernel_rfl) (fun _ _ _ h => h) (Or.inl ⟨by rfl, fun w' hS => by (try dsimp only at hS); go_simp⟩) ⟨Hb2.out, HL.out⟩ ?_
  simp only [Act.put, List.setIfInBounds_toArray, List.set_cons_zero, List.set_cons_succ]
  refine wpAnyH_take (i := 8) (oi := { dst := some 13, op := Op.load 3 (Operand.tmp 1), type := 3, pos := _, after := #[{ on := 7, ground := Ground.guard }], guard := some (7, true) }) (v := (.int .i64 y)) rfl (by kernel_rfl) (by kernel_rfl) (by kernel_rfl) (fun _ _ _ h => h) (Or.inl ⟨by rfl, fun w' hS => by (try dsimp only at hS); go_simp⟩) ⟨Hb2.out, HL.out⟩ ?_
  simp only [Act.put, List.setIfInBounds_toArray, List.set_cons_zero, List.set_cons_succ]
  refine wpAnyH_ready (rs := [9]) (by kernel_rfl) (by simp) ?_
  refine AllReadyH.cons (o := { dst := some 14, op := Op.call { callee := Callee.value (Operand.func 104), args := #[Operand.tmp 13], argTypes := #[3] }, type := 4, pos := _, after := #[{ on := 8, ground := Ground.data }, { on := 7, ground := Ground.chain }, { on := 7, ground := Ground.guard }], guard := some (7, true) }) rfl (fun K hK => ?_) AllReadyH.nil
  go_simp
  refine (isMay_any y _).mono ?_
  rintro e w1 ⟨r, rfl, hr, rfl⟩
  have HR2 : Hid (r = true ↔ (¬ oy = 0 ∧ mayOK y)) := hr.trans ⟨fun q => ⟨H0.out, q⟩, fun q => q.2⟩
  clear hr
  refine hK.out _ _ ⟨Hb2.out, HL.out⟩ (fun hB => ?_)
  clear hK K hB
  try simp only [Act.put, List.setIfInBounds_toArray, List.set_cons_zero, List.set_cons_succ]
  refine wpAnyH_take (i := 10) (oi := { dst := some 15, op := Op.pick (Operand.tmp 12) (Operand.tmp 14) (Operand.const (Value.bool false)), type := 4, pos := _, after := #[{ on := 7, ground := Ground.data }, { on := 9, ground := Ground.data }, { on := 11, ground := Ground.gcOnly Departure.lateStores }], guard := none }) (v := (.bool r)) rfl (by kernel_rfl) (by kernel_rfl) (by kernel_rfl) (fun _ _ _ h => h) (Or.inl ⟨by rfl, fun w' hS => by (try dsimp only at hS); go_simp⟩) ⟨Hb2.out, HL.out⟩ ?_
  simp only [Act.put, List.setIfInBounds_toArray, List.set_cons_zero, List.set_cons_succ]
  refine wpAnyH_ready (rs := [11]) (by kernel_rfl) (by simp) ?_
  refine AllReadyH.cons (o := { dst := none, op := Op.store 189 (Operand.tmp 3) (Operand.tmp 8), type := 0, pos := _, after := #[{ on := 3, ground := Ground.data }, { on := 9, ground := Ground.chain }, { on := 0, ground := Ground.phase }, { on := 1, ground := Ground.phase }, { on := 2, ground := Ground.phase }, { on := 3, ground := Ground.phase }, { on := 4, ground := Ground.textOnly Departure.lateStores }, { on := 5, ground := Ground.textOnly Departure.lateStores }, { on := 6, ground := Ground.textOnly Departure.lateStores }, { on := 7, ground := Ground.textOnly Departure.lateStores }, { on := 8, ground := Ground.textOnly Departure.lateStores }, { on := 9, ground := Ground.textOnly Departure.lateStoresUnsure }, { on := 10, ground := Ground.textOnly Departure.lateStores }], guard := none }) rfl (fun K hK => ?_) AllReadyH.nil
  go_simp
  have hSt := (And.intro ((Hb2.out.setOther (a := ⟨w.heap.size + 1, 0, none⟩) (by show b2 ≠ w.heap.size + 1; omega) (.int .i64 ox)).setOther (a := ⟨w.heap.size + 1, 1, none⟩) (by show b2 ≠ w.heap.size + 1; omega) (.int .i64 y)) ((HL.out.setOther (a := ⟨w.heap.size + 1, 0, none⟩) (by show w.heap.size ≠ w.heap.size + 1; omega) (.int .i64 ox)).setOther (a := ⟨w.heap.size + 1, 1, none⟩) (by show w.heap.size ≠ w.heap.size + 1; omega) (.int .i64 y)))
  refine hK.out _ _ hSt (fun hB => ?_)
  clear hK K hB
  try simp only [Act.put, List.setIfInBounds_toArray, List.set_cons_zero, List.set_cons_succ]
  refine wpAnyH_take (i := 12) (oi := { dst := some 4, op := Op.assign (Operand.tmp 15), type := 4, pos := _, after := #[{ on := 10, ground := Ground.data }, { on := 11, ground := Ground.chain }, { on := 0, ground := Ground.phase }, { on := 1, ground := Ground.phase }, { on := 2, ground := Ground.phase }, { on := 3, ground := Ground.phase }, { on := 4, ground := Ground.phase }, { on := 5, ground := Ground.phase }, { on := 6, ground := Ground.phase }, { on := 7, ground := Ground.phase }, { on := 8, ground := Ground.phase }, { on := 9, ground := Ground.phase }, { on := 10, ground := Ground.phase }, { on := 11, ground := Ground.phase }], guard := none }) (v := (.bool r)) rfl (by kernel_rfl) (by kernel_rfl) (by kernel_rfl) (fun _ _ _ h => h) (Or.inl ⟨by rfl, fun w' hS => by (try dsimp only at hS); go_simp⟩) hSt ?_
  simp only [Act.put, List.setIfInBounds_toArray, List.set_cons_zero, List.set_cons_succ]
  refine wpAnyH_done (by kernel_rfl) ?_ _
  refine NoPanic.normal ?_
  have HBF : Hid _ := set2_blw HB.out (B := w.heap.size + 1) (by omega) (.int .i64 ox) (.int .i64 y)
  clear hSt HL HR HB PL0 PL1 Hb2 Pb2
  go_wp2
  exact bodyPost_ret (v := .tuple #[.agg #[.int .i64 ox, .int .i64 y], .bool r]) (by simp [results, Try.results209, go_sem, t0, t1]) rfl ⟨r, rfl, HR2.out, HBF.out⟩
end Go.Proofs.Ytbpdopcdhnemfaa
