/- The laws' functions on lists of pairs: measured, copied, compared, marked, held. -/
import Derived.Test.YtkmkidahaagbpaaBook
namespace Go.Proofs.Ytkmkidahaagbpaa
open Go.RowKit
set_option linter.unusedSimpArgs false
set_option linter.unusedVariables false
theorem tinfo69 : (Try.prog.info? 39).map (fun i => (i.zero, i.size, i.bytes)) = some (some (.agg #[.int .i64 0, .int .i64 0]), 2, 16) := by kernel_rfl
theorem mkUndos (n : Nat) (hn : n ≤ 1048576) (w : World) : (Instr.makeSlice 31 (.int .i64 n) (.int .i64 n)).run Try.prog w = .ok (.slice (some ⟨w.heap.size, 0, none⟩) n n) (w.alloc (.cells (madeCells #[.int .i64 0, .int .i64 0] (n * 2)) 39)) := by
  obtain ⟨i0, hi, hz0, hz1, hz2⟩ := info_parts tinfo69
  have h := run_make (P := Try.prog) w 31 39 i0 (.agg #[.int .i64 0, .int .i64 0]) Try.underlying31 hi hz0 .i64 .i64 (n : Int) (n : Int) (by omega) (Int.le_refl _) (by rw [hz2]; omega) (by omega)
  simpa [hz1, Value.cells] using h
theorem Row.made2 (w : World) (z : Value) (n : Nat) (t : TypeId) : Row (w.alloc (.cells (madeCells #[z, z] n) t)) w.heap.size n (fun _ => z) := by
  refine ⟨_, t, heap_alloc_new _ _, by simp [madeCells], fun i hi => ?_⟩
  have h2 : i % 2 = 0 ∨ i % 2 = 1 := by omega
  rcases h2 with h2 | h2 <;> simp [madeCells, hi, h2]
set_option maxHeartbeats 400000 in
theorem szUndoS_any (ao : Option Addr) (c n : Nat) (left : Int) (w : World) (hn : n ≤ 9223372036854775807) (h0 : 0 ≤ left) (h1 : left ≤ 1048576) :
    Calls Try.prog 93 #[.slice ao n c, .int .i64 left] w fun e w' => ∃ r : Int, e = .returned (.int .i64 r) ∧ Left left n r ∧ Blw w w' := by
  by_cases h : left - n < 0
  · go_enter Try.func93, Try.ntmps93
    go_wp2
    go_ret
    exact ⟨_, rfl, Or.inl rfl, Blw.refl _⟩
  · go_enter Try.func93, Try.ntmps93
    go_wp2
    go_ret
    exact ⟨_, rfl, Or.inr ⟨by omega, by omega⟩, Blw.refl _⟩
set_option maxHeartbeats 400000 in
theorem toUndo_any (x y : Int) (w : World) : Calls Try.prog 104 #[.agg #[.int .i64 x, .int .i64 y]] w fun e w' => e = .returned (.agg #[.int .i64 x, .int .i64 y]) ∧ Blw w w' := by
  go_enter Try.func104, Try.ntmps104
  go_wp2
  refine bodyPost_ret (v := .agg #[.int .i64 x, .int .i64 y]) (by simp [results, Try.results104, go_sem]) rfl ⟨rfl, ?_⟩
  exact (((Blw.refl _).alloc _).alloc _).alloc _
/-- A list that is being filled, j of it done. -/
theorem fill2_step {wr : World} {b n j : Nat} {f g f0 g0 : Nat → Int} (hj : j < n) (hr : Row wr b (n * 2) (uc (fun t => if t < j then f t else f0 t) (fun t => if t < j then g t else g0 t))) :
    Row ((wr.setCell ⟨b, j * 2, none⟩ (.int .i64 (f j))).setCell ⟨b, j * 2 + 1, none⟩ (.int .i64 (g j))) b (n * 2) (uc (fun t => if t < j + 1 then f t else f0 t) (fun t => if t < j + 1 then g t else g0 t)) := by
  refine ((hr.set (j * 2) _).set (j * 2 + 1) _).congr (fun t ht => ?_)
  by_cases e1 : t = j * 2 + 1
  · subst e1
    rw [if_pos rfl, (uc_at _ _ j).2]; simp
  · rw [if_neg e1]
    by_cases e0 : t = j * 2
    · subst e0
      rw [if_pos rfl, (uc_at _ _ j).1]; simp
    · rw [if_neg e0]
      have hq : (t / 2 < j + 1) = (t / 2 < j) := by simp; omega
      simp [uc, hq]
set_option maxHeartbeats 1600000 in
theorem toUndoS_any (ao : Option Addr) (c n : Nat) (f g : Nat → Int) (Y : Nat → Prop) (w : World) (hn : n ≤ 1048576) (h : UndosAt Y w ao n f g) :
    Calls Try.prog 94 #[.slice ao n c] w fun e w' => e = .returned (.slice (some ⟨w.heap.size, 0, none⟩) n n) ∧ Row w' w.heap.size (n * 2) (uc f g) ∧ Blw w w' := by
  have H : Hid (UndosAt Y w ao n f g) := h
  clear h
  have hmk := mkUndos n hn
  go_enter Try.func94, Try.ntmps94
  go_wp2
  clear hmk
  go_loopw [4] (fun i wr => ∃ j : Nat, j ≤ n ∧ i = .int .i64 j ∧ Row wr w.heap.size (n * 2) (uc (fun t => if t < j then f t else 0) (fun t => if t < j then g t else 0)) ∧ Blw w wr) (fun i _ => n - (intOf i).toNat)
  case atStart => exact ⟨0, Nat.zero_le _, rfl, (Row.made2 w (.int .i64 0) (n * 2) 39).congr (fun i _ => by simp [uc]), (Blw.refl _).alloc _⟩
  case round =>
    obtain ⟨j, hj, rfl, hr, hb⟩ := hrel
    have HR : Hid (Row wr w.heap.size (n * 2) (uc (fun t => if t < j then f t else 0) (fun t => if t < j then g t else 0))) := hr
    have HB : Hid (Blw w wr) := hb
    clear hr hb
    by_cases hlt : j < n
    · obtain ⟨b, o, rfl, -, g1, g2⟩ := (H.out.blw HB.out).2 j hlt
      have hlt' : (j : Int) < n := by omega
      have hw := HR.out.lt
      clear H
      go_wp2_with fail
      refine (toUndo_any _ _ _).mono ?_
      rintro e w1 ⟨rfl, hb1⟩
      clear g1 g2
      have HR1 : Hid (Row w1 w.heap.size (n * 2) (uc (fun t => if t < j then f t else 0) (fun t => if t < j then g t else 0))) := HR.out.blw hb1
      have HB1 : Hid (Blw w w1) := HB.out.trans hb1
      clear HR HB hb1
      have p0 := HR1.out.cell (i := j * 2) (by omega)
      have p1 := HR1.out.cell (i := j * 2 + 1) (by omega)
      have f0 := HR1.out.frozen (j * 2)
      have f1 := HR1.out.frozen (j * 2 + 1)
      rw [(uc_at _ _ j).1] at p0
      rw [(uc_at _ _ j).2] at p1
      have HS : Hid _ := fill2_step hlt HR1.out
      clear HR1 hw
      go_wp2
      go_roundw
      case rel => exact ⟨j + 1, by omega, by go_num, HS.out, (HB1.out.setCell (Nat.le_refl _) _).setCell (Nat.le_refl _) _⟩
      case measure => simp [intOf]; omega
    · go_wp2
      go_ret
      obtain rfl : j = n := by omega
      refine ⟨rfl, HR.out.congr fun i hi => ?_, HB.out⟩
      have : i / 2 < j := by omega
      simp [uc, this]
set_option maxHeartbeats 400000 in
theorem eqUndo_same (x y : Int) (w : World) : Calls Try.prog 74 #[.agg #[.int .i64 x, .int .i64 y], .agg #[.int .i64 x, .int .i64 y]] w fun e w' => e = .returned (.bool true) ∧ Blw w w' := by
  have h1 : (x != x) = false := by simp
  have h2 : (y != y) = false := by simp
  go_enter Try.func74, Try.ntmps74
  go_wp2
  go_ret
  exact ⟨rfl, ((Blw.refl _).alloc _).alloc _⟩
set_option maxHeartbeats 1600000 in
theorem eqUndoS_same (a1 a2 : Option Addr) (c1 c2 n : Nat) (f g : Nat → Int) {X Y : Nat → Prop} (w : World) (h1 : UndosAt X w a1 n f g) (h2 : UndosAt Y w a2 n f g) :
    Calls Try.prog 43 #[.slice a1 n c1, .slice a2 n c2] w fun e w' => e = .returned (.bool true) ∧ Blw w w' := by
  have H1 : Hid (UndosAt X w a1 n f g) := h1
  have H2 : Hid (UndosAt Y w a2 n f g) := h2
  have hn := h1.1
  clear h1 h2
  have hne : ((n : Int) != (n : Int)) = false := by simp
  go_enter Try.func43, Try.ntmps43
  go_wp2_with fail
  go_loopw [5] (fun i wr => ∃ k : Nat, k ≤ n ∧ i = .int .i64 k ∧ Blw w wr) (fun i _ => n - (intOf i).toNat)
  case atStart => exact ⟨0, Nat.zero_le _, rfl, Blw.refl _⟩
  case round =>
    obtain ⟨k, hk, rfl, hb⟩ := hrel
    by_cases hlt : k < n
    · have hlt' : (k : Int) < n := by omega
      obtain ⟨b1, o1, rfl, -, r10, r11⟩ := (H1.out.blw hb).2 k hlt
      obtain ⟨b2, o2, rfl, -, r20, r21⟩ := (H2.out.blw hb).2 k hlt
      have P0 : ∀ w', Blw wr w' → w'.cell? ⟨b1, o1 + k * 2, none⟩ = some (.int .i64 (f k)) := fun w' hh => hh.cell r10
      have P1 : ∀ w', Blw wr w' → w'.cell? ⟨b1, o1 + k * 2 + 1, none⟩ = some (.int .i64 (g k)) := fun w' hh => hh.cell r11
      have Q0 : ∀ w', Blw wr w' → w'.cell? ⟨b2, o2 + k * 2, none⟩ = some (.int .i64 (f k)) := fun w' hh => hh.cell r20
      have Q1 : ∀ w', Blw wr w' → w'.cell? ⟨b2, o2 + k * 2 + 1, none⟩ = some (.int .i64 (g k)) := fun w' hh => hh.cell r21
      have HB : Hid (Blw w wr) := hb
      clear r10 r11 r20 r21 H1 H2 hb
      go_wp2_with fail
      go_region_held3 (fun w' => Blw wr w') ((first | exact (Blw.refl _).drew | assumption | exact Blw.trans (by assumption) (by assumption))) (first
        | (go_at_call 74; refine (eqUndo_same (f k) (g k) _).mono ?_; rintro e w7 ⟨rfl, hb7⟩))
      all_goals go_wp2
      all_goals go_roundw
      all_goals first | exact ⟨k + 1, by omega, by go_num, HB.out.trans (by assumption)⟩ | (simp [intOf]; omega)
    · obtain rfl : k = n := by omega
      go_wp2
      go_ret
      exact ⟨rfl, hb⟩
def mkc (k : Int) : Nat → Int := fun j => k + 2 * j
def mkw (k : Int) : Nat → Int := fun j => k + 2 * j + 1
set_option maxHeartbeats 1600000 in
theorem markUndoS_any (ao : Option Addr) (c n : Nat) (f g : Nat → Int) (X : Nat → Prop) (k : Int) (w : World) (h1 : 0 ≤ k) (h2 : k + 2 * n ≤ 9223372036854775807) (h : UndosOwn X w ao n f g) :
    Calls Try.prog 44 #[.slice ao n c, .int .i64 k] w fun e w' => e = .returned (.int .i64 (k + 2 * n)) ∧ UndosOwn X w' ao n (mkc k) (mkw k) ∧ Mod X w w' := by
  have H : Hid (UndosOwn X w ao n f g) := h
  have hn := h.1
  clear h
  go_enter Try.func44, Try.ntmps44
  go_wp2_with fail
  go_loopw [1, 5] (fun kv iv wr => ∃ i : Nat, i ≤ n ∧ iv = .int .i64 i ∧ kv = .int .i64 (k + 2 * i) ∧ UndosOwn X wr ao n (fun j => if j < i then mkc k j else f j) (fun j => if j < i then mkw k j else g j) ∧ Mod X w wr) (fun _ i _ => n - (intOf i).toNat)
  case atStart => exact ⟨0, Nat.zero_le _, rfl, by simp, by simpa using H.out, Mod.refl _ _⟩
  case round =>
    obtain ⟨i, hi, rfl, rfl, S, hm⟩ := hrel
    clear H
    by_cases hlt : i < n
    · have hlt' : (i : Int) < n := by omega
      obtain ⟨b, hx, rfl, r⟩ := S.2 (by omega)
      obtain ⟨p0, p1⟩ := undo_get r hlt
      have f0 := r.frozen (i * 2)
      have f1 := r.frozen (i * 2 + 1)
      have HR : Hid (Row ((wr.setCell ⟨b, i * 2, none⟩ (.int .i64 (k + 2 * i))).setCell ⟨b, i * 2 + 1, none⟩ (.int .i64 (k + 2 * i + 1))) b (n * 2) (uc (fun t => if t < i + 1 then mkc k t else f t) (fun t => if t < i + 1 then mkw k t else g t))) := fill2_step (f := mkc k) (g := mkw k) hlt r
      have HM : Hid (Mod X w ((wr.setCell ⟨b, i * 2, none⟩ (.int .i64 (k + 2 * i))).setCell ⟨b, i * 2 + 1, none⟩ (.int .i64 (k + 2 * i + 1)))) := (hm.trans (Mod.setCell _ (p := ⟨b, i * 2, none⟩) hx _)).trans (Mod.setCell _ (p := ⟨b, i * 2 + 1, none⟩) hx _)
      clear S hm r
      have e1 : k + 2 * (i : Int) + 1 + 1 = k + 2 * i + 2 := by omega
      go_wp2
      go_roundw
      case rel => exact ⟨i + 1, by omega, by go_num, by congr 1; omega, ⟨hn, fun _ => ⟨b, hx, rfl, HR.out⟩⟩, HM.out⟩
      case measure => simp [intOf]; omega
    · obtain rfl : i = n := by omega
      go_wp2
      go_ret
      refine ⟨rfl, S.congr (fun t ht => by simp [ht]), hm⟩
set_option maxHeartbeats 1600000 in
theorem heldUndoS_any (ao : Option Addr) (c n : Nat) (X : Nat → Prop) (k : Int) (w : World) (h1 : 0 ≤ k) (h2 : k + 2 * n ≤ 9223372036854775807) (h : UndosOwn X w ao n (mkc k) (mkw k)) :
    Calls Try.prog 45 #[.slice ao n c, .int .i64 k] w fun e w' => e = .returned (.int .i64 (k + 2 * n)) ∧ Blw w w' := by
  have H : Hid (UndosOwn X w ao n (mkc k) (mkw k)) := h
  have hn := h.1
  clear h
  go_enter Try.func45, Try.ntmps45
  go_wp2_with fail
  go_loopw [1, 5] (fun kv iv wr => ∃ i : Nat, i ≤ n ∧ iv = .int .i64 i ∧ kv = .int .i64 (k + 2 * i) ∧ wr = w) (fun _ i _ => n - (intOf i).toNat)
  case atStart => exact ⟨0, Nat.zero_le _, rfl, by simp, rfl⟩
  case round =>
    obtain ⟨i, hi, rfl, rfl, rfl⟩ := hrel
    by_cases hlt : i < n
    · have hlt' : (i : Int) < n := by omega
      obtain ⟨b, hx, rfl, r⟩ := H.out.2 (by omega)
      obtain ⟨p0, p1⟩ := undo_get r hlt
      simp only [mkc, mkw] at p0 p1
      have e1 : k + 2 * (i : Int) + 1 + 1 = k + 2 * i + 2 := by omega
      have n0 : ((k + 2 * (i : Int)) != (k + 2 * (i : Int))) = false := by simp
      have n1 : ((k + 2 * (i : Int) + 1) != (k + 2 * (i : Int) + 1)) = false := by simp
      clear r
      go_wp2
      go_roundw
      case rel => exact ⟨i + 1, by omega, by go_num, by congr 1; omega, by first | rfl | trivial⟩
      case measure => simp [intOf]; omega
    · obtain rfl : i = n := by omega
      go_wp2
      go_ret
      exact ⟨rfl, Blw.refl _⟩
end Go.Proofs.Ytkmkidahaagbpaa
