/- The program's tables, held as values. -/
import Derived.Test.YtjplodenflkghaaEq8
namespace Go.Proofs.Ytjplodenflkghaa
open Go.RowKit
set_option linter.unusedSimpArgs false
set_option linter.unusedVariables false
theorem standWell_any (c : Nat → Int) (zl kn : Nat) (p m : Nat → Nat → Int) (w : World) (hkn : kn ≤ 4) (h : Row w zl (kn * 8) (lc p m)) :
    Calls Try.prog 160 #[.agg (held5 c zl kn)] w fun e w' => ∃ r, e = .returned (.bool r) ∧ (r = true ↔ swOK c kn p m) ∧ Blw w w' := standWell_of (fun f g h w => neq8_same f g h w) (fun f g h w => neq8_other f g h w) c zl kn p m w hkn h
theorem tinfo101 : (Try.prog.info? 186).map (fun i => (i.zero, i.size, i.bytes)) = some (some (.agg #[.int .i64 0, .int .i64 0, .int .i64 0, .int .i64 0, .int .i64 0, .int .i64 0, .int .i64 0, .int .i64 0]), 8, 64) := by kernel_rfl
theorem mk8 (n : Nat) (hn : n ≤ 4) (w : World) : (Instr.makeSlice 127 (.int .i64 n) (.int .i64 n)).run Try.prog w = .ok (.slice (some ⟨w.heap.size, 0, none⟩) n n) (w.alloc (.cells (madeCells #[.int .i64 0, .int .i64 0, .int .i64 0, .int .i64 0, .int .i64 0, .int .i64 0, .int .i64 0, .int .i64 0] (n * 8)) 186)) := by
  obtain ⟨i0, hi, hz0, hz1, hz2⟩ := info_parts tinfo101
  have h := run_make (P := Try.prog) w 127 186 i0 (.agg #[.int .i64 0, .int .i64 0, .int .i64 0, .int .i64 0, .int .i64 0, .int .i64 0, .int .i64 0, .int .i64 0]) Try.underlying127 hi hz0 .i64 .i64 (n : Int) (n : Int) (by omega) (Int.le_refl _) (by rw [hz2]; omega) (by omega)
  simpa [hz1, Value.cells] using h
theorem Row.made8 (w : World) (z : Value) (n : Nat) (t : TypeId) : Row (w.alloc (.cells (madeCells #[z, z, z, z, z, z, z, z] n) t)) w.heap.size n (fun _ => z) := by
  refine ⟨_, t, heap_alloc_new _ _, by simp [madeCells], fun i hi => ?_⟩
  have h2 : i % 8 = 0 ∨ i % 8 = 1 ∨ i % 8 = 2 ∨ i % 8 = 3 ∨ i % 8 = 4 ∨ i % 8 = 5 ∨ i % 8 = 6 ∨ i % 8 = 7 := by omega
  rcases h2 with h2 | h2 | h2 | h2 | h2 | h2 | h2 | h2 <;> simp [madeCells, hi, h2]
def upTo (j : Nat) (p : Nat → Nat → Int) : Nat → Nat → Int := fun k t => if k < j then p k t else 0
abbrev set8 (w : World) (z o : Nat) (f g : Nat → Int) : World := (((((((w.setCell ⟨z, o, none⟩ (.int .i64 (f 0))).setCell ⟨z, o + 1, none⟩ (.int .i64 (g 0))).setCell ⟨z, o + 2, none⟩ (.int .i64 (f 1))).setCell ⟨z, o + 3, none⟩ (.int .i64 (g 1))).setCell ⟨z, o + 4, none⟩ (.int .i64 (f 2))).setCell ⟨z, o + 5, none⟩ (.int .i64 (g 2))).setCell ⟨z, o + 6, none⟩ (.int .i64 (f 3))).setCell ⟨z, o + 7, none⟩ (.int .i64 (g 3))
theorem set8_mod (w : World) (z o : Nat) (f g : Nat → Int) : Mod (fun x => x = z) w (set8 w z o f g) :=
  (((((((Mod.setCell (X := fun x => x = z) _ (p := ⟨z, o, none⟩) rfl _).trans (Mod.setCell (X := fun x => x = z) _ (p := ⟨z, o + 1, none⟩) rfl _)).trans (Mod.setCell (X := fun x => x = z) _ (p := ⟨z, o + 2, none⟩) rfl _)).trans (Mod.setCell (X := fun x => x = z) _ (p := ⟨z, o + 3, none⟩) rfl _)).trans (Mod.setCell (X := fun x => x = z) _ (p := ⟨z, o + 4, none⟩) rfl _)).trans (Mod.setCell (X := fun x => x = z) _ (p := ⟨z, o + 5, none⟩) rfl _)).trans (Mod.setCell (X := fun x => x = z) _ (p := ⟨z, o + 6, none⟩) rfl _)).trans (Mod.setCell (X := fun x => x = z) _ (p := ⟨z, o + 7, none⟩) rfl _)
theorem row_set8 {w : World} {z n : Nat} {F : Nat → Value} (r : Row w z n F) (o : Nat) (f g : Nat → Int) : Row (set8 w z o f g) z n (fun i => if o ≤ i ∧ i < o + 8 then (if (i - o) % 2 = 0 then .int .i64 (f ((i - o) / 2)) else .int .i64 (g ((i - o) / 2))) else F i) := by
  refine ((((((((r.set o _).set (o + 1) _).set (o + 2) _).set (o + 3) _).set (o + 4) _).set (o + 5) _).set (o + 6) _).set (o + 7) _).congr (fun i hi => ?_)
  by_cases h : o ≤ i ∧ i < o + 8
  · rw [if_pos h]
    obtain ⟨t, rfl⟩ : ∃ t, i = o + t := ⟨i - o, by omega⟩
    have ht : t = 0 ∨ t = 1 ∨ t = 2 ∨ t = 3 ∨ t = 4 ∨ t = 5 ∨ t = 6 ∨ t = 7 := by omega
    rcases ht with rfl | rfl | rfl | rfl | rfl | rfl | rfl | rfl <;> simp
  · rw [if_neg h]
    have e0 : ¬ i = o := by omega
    have e1 : ¬ i = o + 1 := by omega
    have e2 : ¬ i = o + 2 := by omega
    have e3 : ¬ i = o + 3 := by omega
    have e4 : ¬ i = o + 4 := by omega
    have e5 : ¬ i = o + 5 := by omega
    have e6 : ¬ i = o + 6 := by omega
    have e7 : ¬ i = o + 7 := by omega
    simp [e0, e1, e2, e3, e4, e5, e6, e7]
theorem lc_step {w : World} {z n : Nat} {p m : Nat → Nat → Int} {j : Nat} (r : Row w z (n * 8) (lc (upTo j p) (upTo j m))) : Row (set8 w z (j * 8) (p j) (m j)) z (n * 8) (lc (upTo (j + 1) p) (upTo (j + 1) m)) :=
  (row_set8 r (j * 8) (p j) (m j)).congr (fun i hi => by
    unfold lc upTo
    by_cases h : j * 8 ≤ i ∧ i < j * 8 + 8
    · rw [if_pos h]
      have e1 : i / 8 = j := by omega
      have e2 : (i - j * 8) % 2 = i % 2 := by omega
      have e3 : (i - j * 8) / 2 = i % 8 / 2 := by omega
      have e4 : j < j + 1 := by omega
      simp only [e1, e2, e3, e4, if_true]
    · rw [if_neg h]
      have e5 : (i / 8 < j + 1) = (i / 8 < j) := propext ⟨fun q => by omega, fun q => by omega⟩
      simp only [e5])
theorem good_sw {n kn : Nat} {c : Nat → Int} {len : Nat → Nat} {p m : Nat → Nat → Int} (hn : n = 4) (hk : 1 ≤ kn ∧ kn ≤ 4) (hl : ∀ i, i < kn → listOK ⟨kn, len, p, m⟩ i) : BD.Good ⟨n, c, ⟨kn, len, p, m⟩⟩ ↔ swOK c kn p m := by
  subst hn
  refine good_parts.trans ?_
  constructor
  · rintro ⟨h1, h2, h3, -⟩
    refine ⟨h2, fun k hkk hnl j hj => ?_⟩
    have hm := h3 k hkk hnl j (by show j < len k; have h6 : len k = 4 := (h1 k hkk).1; omega)
    have hlf := (h1 k hkk).2 j hj
    have hm' : ¬ 0 < m k j := hm
    have hlf' : leafOK (p k j) (m k j) := hlf
    unfold leafOK at hlf'
    omega
  · rintro ⟨h2, h3⟩
    refine ⟨hl, h2, fun k hkk hnl j hj => ?_, rfl, hk.1, hk.2⟩
    have := (h3 k hkk hnl j (by have h4 := (hl k hkk).1; have h5 : j < len k := hj; have h6 : len k = 4 := h4; omega)).2
    show ¬ 0 < m k j
    omega
theorem list_ls {kn : Nat} {len : Nat → Nat} {p m : Nat → Nat → Int} {i : Nat} : listOK ⟨kn, len, p, m⟩ i ↔ lsOK (len i) (p i) (m i) := Iff.rfl
theorem set5_blw {w W : World} {z : Nat} (h : Blw w W) (hz : w.heap.size ≤ z) (v0 v1 v2 v3 v4 : Value) : Blw w (((((W.setCell ⟨z, 0, none⟩ v0).setCell ⟨z, 1, none⟩ v1).setCell ⟨z, 2, none⟩ v2).setCell ⟨z, 3, none⟩ v3).setCell ⟨z, 4, none⟩ v4) :=
  ((((h.setCell hz _).setCell hz _).setCell hz _).setCell hz _).setCell hz _
def zrow (v : Value) : Nat → Value := fun i => if i < 4 then .int .i64 0 else v
theorem zrow5 (w : World) (v : Value) (t : TypeId) : Row (w.alloc (.cells #[.int .i64 0, .int .i64 0, .int .i64 0, .int .i64 0, v] t)) w.heap.size 5 (zrow v) :=
  (row5 w (.int .i64 0) (.int .i64 0) (.int .i64 0) (.int .i64 0) v t).congr (fun i hi => by
    match i, hi with
    | 0, _ => rfl
    | 1, _ => rfl
    | 2, _ => rfl
    | 3, _ => rfl
    | 4, _ => rfl)
theorem zget {w : World} {B : Nat} {v : Value} (r : Row w B 5 (zrow v)) : w.cell? ⟨B, 0, none⟩ = some (.int .i64 0) ∧ w.cell? ⟨B, 1, none⟩ = some (.int .i64 0) ∧ w.cell? ⟨B, 2, none⟩ = some (.int .i64 0) ∧ w.cell? ⟨B, 3, none⟩ = some (.int .i64 0) ∧ w.cell? ⟨B, 4, none⟩ = some v :=
  ⟨r.cell (i := 0) (by omega), r.cell (i := 1) (by omega), r.cell (i := 2) (by omega), r.cell (i := 3) (by omega), r.cell (i := 4) (by omega)⟩
abbrev zero5 : Array Value := #[.int .i64 0, .int .i64 0, .int .i64 0, .int .i64 0, .slice none 0 0]
end Go.Proofs.Ytjplodenflkghaa
