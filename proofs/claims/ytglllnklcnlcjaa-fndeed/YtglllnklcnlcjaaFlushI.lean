/- A line flushed in a memory held as a value; 'spec.FlushLine', 'impl.FlushLine'. -/
import Derived.Test.YtglllnklcnlcjaaFlushW
namespace Go.Proofs.Ytglllnklcnlcjaa
open Go.RowKit
set_option linter.unusedSimpArgs false
def words4 (f : Nat → Int) : List Value := [.int .i64 (f 0), .int .i64 (f 1), .int .i64 (f 2), .int .i64 (f 3)]
/-- The held memory under its flush. -/
structure FS (w0 w' : World) (B i : Nat) (c : Nat → Nat → Int) (n : Nat) : Prop where
  mod : Mod (fun x => x = B) w0 w'
  words : ∀ t, t < 4 → w'.cell? ⟨B, 48 + i * 4 + t, none⟩ = some (.int .i64 (c i t))
theorem FSrange {w0 w' : World} {B i n : Nat} {c : Nat → Nat → Int} (h : FS w0 w' B i c n) : w'.rangeAt B (48 + i * 4) (words4 (c i)) := by
  intro j v hv
  match j, hv with
  | 0, hv => rw [h.words 0 (by omega)]; exact hv
  | 1, hv => rw [h.words 1 (by omega)]; exact hv
  | 2, hv => rw [h.words 2 (by omega)]; exact hv
  | 3, hv => rw [h.words 3 (by omega)]; exact hv
  | j + 4, hv => simp [words4] at hv
theorem FSafter {w0 w1 w2 : World} {B i n : Nat} {c : Nat → Nat → Int} {s : Nat → Nat → Int} {d : Nat → Bool} (hi : i < 12) (h : FS w0 w1 B i c n) (r : Row w2 B 108 (fun j => if i * 4 ≤ j ∧ j < i * 4 + (words4 (c i)).toArray.size then .int .i64 (c i (j - i * 4)) else hcell s c d j)) (hm : Mod (fun x => x = B) w1 w2) : FS w0 w2 B i c n :=
  ⟨h.mod.trans hm, fun t ht => by
    have e : (words4 (c i)).toArray.size = 4 := rfl
    rw [r.cell (i := 48 + i * 4 + t) (by omega), e, if_neg (by omega), Nat.add_assoc, hcell_c hi ht]⟩
theorem hcell_flush {s c : Nat → Nat → Int} {d : Nat → Bool} {i : Nat} (hi : i < 12) (j : Nat) (hj : j < 108) :
    (if j = 96 + i then Value.bool false else if i * 4 ≤ j ∧ j < i * 4 + 4 then .int .i64 (c i (j - i * 4)) else hcell s c d j) = hcell (flS s c i) c (flD d i) j := by
  unfold hcell
  by_cases h1 : j < 48
  · rw [if_neg (by omega), if_pos h1, if_pos h1]
    unfold flS
    by_cases h2 : i * 4 ≤ j ∧ j < i * 4 + 4
    · have e1 : j / 4 = i := by omega
      have e2 : j % 4 = j - i * 4 := by omega
      rw [if_pos h2, if_pos e1, e1, e2]
    · rw [if_neg h2, if_neg (by omega)]
  · rw [if_neg h1, if_neg h1]
    by_cases h2 : j < 96
    · rw [if_neg (by omega), if_neg (by omega), if_pos h2, if_pos h2]
    · rw [if_neg h2, if_neg h2]
      unfold flD
      by_cases h3 : j = 96 + i
      · rw [if_pos h3, if_pos (by omega)]
      · rw [if_neg h3, if_neg (by omega), if_neg (by omega)]
set_option maxRecDepth 10000 in
set_option maxHeartbeats 1600000 in
theorem flushLine_any (B : Nat) (s c : Nat → Nat → Int) (d : Nat → Bool) (i : Nat) (w : World) (hi : i < 12) (r : Row w B 108 (hcell s c d)) :
    Calls Try.prog 80 #[.pointer (some ⟨B, 0, none⟩), .int .i64 i] w fun e w' => (∃ v, e = .returned v) ∧ Row w' B 108 (hcell (flS s c i) c (flD d i)) ∧ Mod (fun b => b = B) w w' := by
  have hI : ¬ (12 ≤ (i : Int)) := by omega
  have hI2 : (i : Int) < 12 := by omega
  go_enter Try.func80, Try.ntmps80
  go_wp2_with fail
  have r1 := r.blw (Blw.refl w).drew
  have hS0 : FS w w.drew B i c 0 := ⟨(Blw.refl w).drew.mod _, fun t ht => by rw [r1.cell (i := 48 + i * 4 + t) (by omega), Nat.add_assoc, hcell_c hi ht]⟩
  refine wp_region_noPanic ?_
  refine wp_region_held_drew (S := fun w' => FS w w' B i c 0) (by kernel_rfl) hS0 (fun hS1 => ?_)
  revert hS1 hS0 r1
  generalize w.drew = w1
  intro r1 hS0 hS1
  refine wpAnyH_take (i := 0) (oi := { dst := some 4, op := Op.move (Operand.tmp 0), type := 97, pos := _, after := #[], guard := none }) (v := .pointer (some ⟨B, 0, none⟩)) rfl (by kernel_rfl) (by kernel_rfl) (by kernel_rfl) (fun _ _ _ h => h) (Or.inl ⟨by rfl, fun w' hS => by (try dsimp only at hS); go_simp⟩) hS1 ?_
  simp only [Act.put, List.setIfInBounds_toArray, List.set_cons_zero, List.set_cons_succ]
  refine wpAnyH_take (i := 1) (oi := { dst := some 5, op := Op.move (Operand.tmp 1), type := 3, pos := _, after := #[], guard := none }) (v := .int .i64 i) rfl (by kernel_rfl) (by kernel_rfl) (by kernel_rfl) (fun _ _ _ h => h) (Or.inl ⟨by rfl, fun w' hS => by (try dsimp only at hS); go_simp⟩) hS1 ?_
  simp only [Act.put, List.setIfInBounds_toArray, List.set_cons_zero, List.set_cons_succ]
  refine wpAnyH_take (i := 2) (oi := { dst := some 6, op := Op.move (Operand.tmp 0), type := 97, pos := _, after := #[], guard := none }) (v := .pointer (some ⟨B, 0, none⟩)) rfl (by kernel_rfl) (by kernel_rfl) (by kernel_rfl) (fun _ _ _ h => h) (Or.inl ⟨by rfl, fun w' hS => by (try dsimp only at hS); go_simp⟩) hS1 ?_
  simp only [Act.put, List.setIfInBounds_toArray, List.set_cons_zero, List.set_cons_succ]
  refine wpAnyH_take (i := 3) (oi := { dst := some 7, op := Op.move (Operand.tmp 1), type := 3, pos := _, after := #[], guard := none }) (v := .int .i64 i) rfl (by kernel_rfl) (by kernel_rfl) (by kernel_rfl) (fun _ _ _ h => h) (Or.inl ⟨by rfl, fun w' hS => by (try dsimp only at hS); go_simp⟩) hS1 ?_
  simp only [Act.put, List.setIfInBounds_toArray, List.set_cons_zero, List.set_cons_succ]
  refine wpAnyH_take (i := 4) (oi := { dst := some 8, op := Op.nilCheck (Operand.tmp 6), type := 0, pos := _, after := #[{ on := 2, ground := Ground.data }], guard := none }) (v := .pointer (some ⟨B, 0, none⟩)) rfl (by kernel_rfl) (by kernel_rfl) (by kernel_rfl) (fun _ _ _ h => h) (Or.inl ⟨by rfl, fun w' hS => by (try dsimp only at hS); go_simp⟩) hS1 ?_
  simp only [Act.put, List.setIfInBounds_toArray, List.set_cons_zero, List.set_cons_succ]
  refine wpAnyH_take (i := 5) (oi := { dst := some 9, op := Op.fieldAddr 91 (Operand.tmp 8) 1, type := 0, pos := _, after := #[{ on := 4, ground := Ground.data }], guard := none }) (v := .pointer (some ⟨B, 48, none⟩)) rfl (by kernel_rfl) (by kernel_rfl) (by kernel_rfl) (fun _ _ _ h => h) (Or.inl ⟨by rfl, fun w' hS => by (try dsimp only at hS); go_simp⟩) hS1 ?_
  simp only [Act.put, List.setIfInBounds_toArray, List.set_cons_zero, List.set_cons_succ]
  refine wpAnyH_take (i := 6) (oi := { dst := some 10, op := Op.indexAddr 88 (Operand.tmp 9) (Operand.tmp 7), type := 0, pos := _, after := #[{ on := 5, ground := Ground.data }, { on := 3, ground := Ground.data }], guard := none }) (v := .pointer (some ⟨B, 48 + i * 4, none⟩)) rfl (by kernel_rfl) (by kernel_rfl) (by kernel_rfl) (fun _ _ _ h => h) (Or.inl ⟨by rfl, fun w' hS => by (try dsimp only at hS); go_simp⟩) hS1 ?_
  simp only [Act.put, List.setIfInBounds_toArray, List.set_cons_zero, List.set_cons_succ]
  refine wpAnyH_take (i := 7) (oi := { dst := some 11, op := Op.load 87 (Operand.tmp 10), type := 87, pos := _, after := #[{ on := 6, ground := Ground.data }], guard := none }) (v := .agg (words4 (c i)).toArray) rfl (by kernel_rfl) (by kernel_rfl) (by kernel_rfl) (fun _ _ _ h => h) (yieldsIf_load_mid (by rfl) 87 (.tmp 10) rfl B (48 + i * 4) rfl (words4 (c i)) _ (fun w' hS => FSrange hS) Try.underlying87 rfl info75) hS1 ?_
  simp only [Act.put, List.setIfInBounds_toArray, List.set_cons_zero, List.set_cons_succ]
  refine wpAnyH_take (i := 8) (oi := { dst := some 12, op := Op.nilCheck (Operand.tmp 4), type := 0, pos := _, after := #[{ on := 0, ground := Ground.data }], guard := none }) (v := .pointer (some ⟨B, 0, none⟩)) rfl (by kernel_rfl) (by kernel_rfl) (by kernel_rfl) (fun _ _ _ h => h) (Or.inl ⟨by rfl, fun w' hS => by (try dsimp only at hS); go_simp⟩) hS1 ?_
  simp only [Act.put, List.setIfInBounds_toArray, List.set_cons_zero, List.set_cons_succ]
  refine wpAnyH_take (i := 9) (oi := { dst := some 13, op := Op.fieldAddr 91 (Operand.tmp 12) 0, type := 0, pos := _, after := #[{ on := 8, ground := Ground.data }], guard := none }) (v := .pointer (some ⟨B, 0, none⟩)) rfl (by kernel_rfl) (by kernel_rfl) (by kernel_rfl) (fun _ _ _ h => h) (Or.inl ⟨by rfl, fun w' hS => by (try dsimp only at hS); go_simp⟩) hS1 ?_
  simp only [Act.put, List.setIfInBounds_toArray, List.set_cons_zero, List.set_cons_succ]
  refine wpAnyH_take (i := 10) (oi := { dst := some 14, op := Op.indexAddr 88 (Operand.tmp 13) (Operand.tmp 5), type := 0, pos := _, after := #[{ on := 9, ground := Ground.data }, { on := 1, ground := Ground.data }, { on := 0, ground := Ground.phase }, { on := 1, ground := Ground.phase }, { on := 2, ground := Ground.phase }, { on := 3, ground := Ground.phase }, { on := 4, ground := Ground.phase }, { on := 5, ground := Ground.phase }, { on := 6, ground := Ground.phase }, { on := 7, ground := Ground.phase }], guard := none }) (v := .pointer (some ⟨B, i * 4, none⟩)) rfl (by kernel_rfl) (by kernel_rfl) (by kernel_rfl) (fun _ _ _ h => h) (Or.inl ⟨by rfl, fun w' hS => by (try dsimp only at hS); go_simp⟩) hS1 ?_
  simp only [Act.put, List.setIfInBounds_toArray, List.set_cons_zero, List.set_cons_succ]
  refine wpAnyH_ready (rs := [11]) (by kernel_rfl) (by simp) ?_
  refine AllReadyH.cons (o := { dst := none, op := Op.store 87 (Operand.tmp 14) (Operand.tmp 11), type := 0, pos := _, after := #[{ on := 10, ground := Ground.data }, { on := 7, ground := Ground.data }, { on := 0, ground := Ground.phase }, { on := 1, ground := Ground.phase }, { on := 2, ground := Ground.phase }, { on := 3, ground := Ground.phase }, { on := 4, ground := Ground.phase }, { on := 5, ground := Ground.phase }, { on := 6, ground := Ground.phase }, { on := 7, ground := Ground.phase }], guard := none }) rfl (fun K hK => ?_) AllReadyH.nil
  rw [if_pos (by rfl)]
  refine wp_store_row 87 (.tmp 14) (.tmp 11) rfl B (i * 4) (words4 (c i)).toArray rfl rfl 108 _ (fun t => .int .i64 (c i t)) r1 (by show i * 4 + 4 ≤ 108; omega) info75 (one_four (c i)) (cell_four (c i)) ?_
  intro w2 r2 hm2 hz2
  refine hK.out _ _ (FSafter hi hS1 r2 hm2) (fun hSe => ?_)
  clear hK K hSe
  refine wpAnyH_done (by kernel_rfl) ?_ _
  refine NoPanic.normal ?_
  have e4 : (words4 (c i)).toArray.size = 4 := rfl
  rw [e4] at r2
  have k0 := r2.cell (i := 96 + i) (by omega)
  have kf := r2.frozen (96 + i)
  have R : Hid (Row _ B 108 (hcell (flS s c i) c (flD d i))) := (r2.set (96 + i) (.bool false)).congr (fun j hj => hcell_flush hi j hj)
  have hm : Hid (Mod (fun b => b = B) w (w2.setCell ⟨B, 96 + i, none⟩ (.bool false))) := (hS1.mod.trans hm2).trans (Mod.setCell (X := fun b => b = B) _ (p := ⟨B, 96 + i, none⟩) rfl _)
  clear r r1 r2 hm2 hS0 hS1
  go_wp2
  refine bodyPost_end (results_none rfl _ _ _) rfl ?_
  exact ⟨⟨_, rfl⟩, R.out, hm.out⟩
end Go.Proofs.Ytglllnklcnlcjaa
