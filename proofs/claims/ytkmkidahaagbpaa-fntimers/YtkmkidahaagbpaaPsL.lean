/- Lists of lists of timers copied. -/
import Derived.Test.YtkmkidahaagbpaaPs
namespace Go.Proofs.Ytkmkidahaagbpaa
open Go.RowKit
set_option linter.unusedSimpArgs false
set_option linter.unusedVariables false
theorem tinfo78 : (Try.prog.info? 31).map (fun i => (i.zero, i.size, i.bytes)) = some (some (.slice none 0 0), 1, 24) := by kernel_rfl
theorem mkLists (n : Nat) (hn : n ≤ 1048576) (w : World) : (Instr.makeSlice 23 (.int .i64 n) (.int .i64 n)).run Try.prog w = .ok (.slice (some ⟨w.heap.size, 0, none⟩) n n) (w.alloc (.cells (madeCells #[.slice none 0 0] n) 31)) := by
  obtain ⟨i0, hi, hz0, hz1, hz2⟩ := info_parts tinfo78
  have h := run_make (P := Try.prog) w 23 31 i0 (.slice none 0 0) Try.underlying23 hi hz0 .i64 .i64 (n : Int) (n : Int) (by omega) (Int.le_refl _) (by rw [hz2]; omega) (by omega)
  simpa [hz1, Value.cells] using h
/-- Lists that are copied one after another into a new list at z. -/
structure Cpy (w wr : World) (z : Nat) (D : PD) (F : Nat → Nat) (j : Nat) : Prop where
  row : Row wr z D.n (fun i => if i < j then .slice (some ⟨F i, 0, none⟩) (D.len i) (D.len i) else .slice none 0 0)
  inn : ∀ i, i < j → Row wr (F i) (D.len i * 2) (uc (D.p i) (D.m i)) ∧ z < F i ∧ F i < wr.heap.size
  dis : ∀ i i', i < j → i' < j → i ≠ i' → F i ≠ F i'
  blw : Blw w wr
  lo : w.heap.size ≤ z
theorem Cpy.next {w wr w1 : World} {z : Nat} {D : PD} {F : Nat → Nat} {j : Nat} (h : Cpy w wr z D F j) (hj : j < D.n) (hb : Blw wr w1) (hr : Row w1 wr.heap.size (D.len j * 2) (uc (D.p j) (D.m j))) :
    Cpy w (w1.setCell ⟨z, j, none⟩ (.slice (some ⟨wr.heap.size, 0, none⟩) (D.len j) (D.len j))) z D (fun i => if i = j then wr.heap.size else F i) (j + 1) := by
  have hz := h.row.lt
  have hs := hb.size
  have hl := hr.lt
  have ms : Mod (fun x => x = z) w1 (w1.setCell ⟨z, j, none⟩ (.slice (some ⟨wr.heap.size, 0, none⟩) (D.len j) (D.len j))) := Mod.setCell (X := fun x => x = z) _ (p := ⟨z, j, none⟩) rfl _
  have hs2 := ms.size
  refine ⟨((h.row.blw hb).set j _).congr (fun i hi => ?_), fun i hi => ?_, fun i i' hi hi' hne => ?_, Mod.blw (h.blw.trans hb) ms (fun i hi => by have := h.lo; omega), h.lo⟩
  · by_cases e : i = j
    · subst e; simp
    · by_cases e2 : i < j
      · simp [e, e2, Nat.lt_succ_of_lt e2]
      · have e3 : ¬ i < j + 1 := by omega
        simp [e, e2, e3]
  · by_cases e : i = j
    · subst e
      simp only [if_pos]
      exact ⟨hr.mod ms (by omega), by omega, by omega⟩
    · obtain ⟨g1, g2, g3⟩ := h.inn i (by omega)
      simp only [if_neg e]
      exact ⟨(g1.blw hb).mod ms (by omega), g2, by omega⟩
  · by_cases e : i = j
    · have e' : ¬ i' = j := by omega
      have := (h.inn i' (by omega)).2.2
      simp only [if_pos e, if_neg e']; omega
    · by_cases e' : i' = j
      · have := (h.inn i (by omega)).2.2
        simp only [if_neg e, if_pos e']; omega
      · simp only [if_neg e, if_neg e']; exact h.dis i i' (by omega) (by omega) hne
theorem Cpy.own {w wr : World} {z : Nat} {D : PD} {F : Nat → Nat} (h : Cpy w wr z D F D.n) (hn : D.n ≤ 1048576) (hl : ∀ i, i < D.n → D.len i ≤ 1048576) : PSOwn (fun x => z ≤ x ∧ x < wr.heap.size) wr (some ⟨z, 0, none⟩) D := by
  refine ⟨by omega, fun _ => ⟨z, fun i => some ⟨F i, 0, none⟩, fun i => D.len i, fun i x => x = F i, rfl, ⟨h.row.congr (fun i hi => by rw [if_pos hi]), fun i hi => ⟨by have := hl i hi; omega, fun _ => ⟨F i, rfl, rfl, (h.inn i hi).1⟩⟩, fun i hi x hx => ?_, fun i j hi hj hne x hx hx' => h.dis i j hi hj hne (hx.symm.trans hx'), ⟨Nat.le_refl _, h.row.lt⟩⟩⟩⟩
  have := (h.inn i hi).2
  omega
theorem len_le {D : PD} {i : Nat} (hi : i < D.n) : D.len i ≤ D.tot := by
  have h1 : pre D.len (i + 1) ≤ pre D.len D.n := pre_mono D.len (by omega)
  have h2 : pre D.len (i + 1) = pre D.len i + D.len i := rfl
  show D.len i ≤ pre D.len D.n
  omega
set_option maxHeartbeats 1600000 in
theorem toSS_any (ao : Option Addr) (c0 : Nat) (D : PD) (Y : Nat → Prop) (w : World) (hS : D.n + D.tot ≤ 1048576) (h : PSAt Y w ao D) :
    Calls Try.prog 73 #[.slice ao D.n c0] w fun e w' => e = .returned (.slice (some ⟨w.heap.size, 0, none⟩) D.n D.n) ∧ PSOwn (fun x => w.heap.size ≤ x ∧ x < w'.heap.size) w' (some ⟨w.heap.size, 0, none⟩) D ∧ Blw w w' := by
  have hlen : ∀ i, i < D.n → D.len i ≤ 1048576 := fun i hi => by have := len_le hi; omega
  have HLN : Hid (∀ i, i < D.n → D.len i ≤ 1048576) := hlen
  have hn : D.n ≤ 1048576 := by omega
  have H : Hid (PSAt Y w ao D) := h
  have hmk := mkLists D.n hn
  clear h hlen hS
  obtain ⟨n, len, p, m⟩ := D
  dsimp only at hn hmk
  go_enter Try.func73, Try.ntmps73
  go_wp2
  clear hmk
  go_loopw [4] (fun i wr => ∃ j : Nat, j ≤ n ∧ i = .int .i64 j ∧ ∃ F, Cpy w wr w.heap.size ⟨n, len, p, m⟩ F j) (fun i _ => n - (intOf i).toNat)
  case atStart => exact ⟨0, Nat.zero_le _, rfl, fun _ => 0, ⟨(Row.made w (.slice none 0 0) n 31).congr (fun i hi => by rw [if_neg (by omega)]), fun i hi => absurd hi (Nat.not_lt_zero _), fun i i' hi => absurd hi (Nat.not_lt_zero _), (Blw.refl _).alloc _, Nat.le_refl _⟩⟩
  case round =>
    obtain ⟨j, hj, rfl, F, hC⟩ := hrel
    have HC : Hid (Cpy w wr w.heap.size ⟨n, len, p, m⟩ F j) := hC
    clear hC
    by_cases hlt : j < n
    · obtain ⟨b, o, a, c, e, -, g1, g2⟩ := H.out.2 j hlt
      subst e
      dsimp only at g1 g2
      replace g1 := HC.out.blw.cell g1
      have G2 : Hid (UndosAt Y wr a (len j) (p j) (m j)) := g2.blw HC.out.blw
      have hlj : len j ≤ 1048576 := HLN.out j hlt
      clear g2
      go_wp2_with fail
      refine (toUndoS_any _ _ (len j) (p j) (m j) Y _ hlj G2.out).mono ?_
      rintro e w1 ⟨rfl, hr, hb1⟩
      have HN : Hid (Cpy w (w1.setCell ⟨w.heap.size, j, none⟩ (.slice (some ⟨wr.heap.size, 0, none⟩) (len j) (len j))) w.heap.size ⟨n, len, p, m⟩ (fun i => if i = j then wr.heap.size else F i) (j + 1)) := HC.out.next (D := ⟨n, len, p, m⟩) hlt hb1 hr
      have rz := HC.out.row.blw hb1
      obtain ⟨vv, gv⟩ : ∃ v, w1.cell? ⟨w.heap.size, j, none⟩ = some v := ⟨_, rz.cell hlt⟩
      have gz := rz.frozen j
      clear HC G2 hr hb1 g1 rz
      go_wp2
      go_roundw
      case rel => exact ⟨j + 1, by omega, by go_num, _, HN.out⟩
      case measure => simp [intOf]; omega
    · obtain rfl : j = n := by omega
      have HO : Hid (PSOwn (fun x => w.heap.size ≤ x ∧ x < wr.heap.size) wr (some ⟨w.heap.size, 0, none⟩) ⟨j, len, p, m⟩) := Cpy.own (D := ⟨j, len, p, m⟩) HC.out hn HLN.out
      have HB : Hid (Blw w wr) := HC.out.blw
      clear HC
      go_wp2
      go_ret
      exact ⟨rfl, HO.out, HB.out⟩
end Go.Proofs.Ytkmkidahaagbpaa
