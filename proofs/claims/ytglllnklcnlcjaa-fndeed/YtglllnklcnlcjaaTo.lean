/- 'toMemory' and its parts: new memory that reads as the old one. -/
import Derived.Test.YtglllnklcnlcjaaSz
import Derived.Test.YtglllnklcnlcjaaCopy
namespace Go.Proofs.Ytglllnklcnlcjaa
open Go.RowKit
theorem tinfo3 : (Try.prog.info? 3).map (fun i => (i.zero, i.size, i.bytes)) = some (some (.int .i64 0), 1, 8) := by kernel_rfl
theorem tinfo4 : (Try.prog.info? 4).map (fun i => (i.zero, i.size, i.bytes)) = some (some (.bool false), 1, 1) := by kernel_rfl
theorem tinfo37 : (Try.prog.info? 126).map (fun i => (i.zero, i.size, i.bytes)) = some (some (.agg #[.slice none 0 0]), 1, 24) := by kernel_rfl
theorem mkInts (n : Nat) (hn : n ≤ 1048576) (w : World) : (Instr.makeSlice 28 (.int .i64 n) (.int .i64 n)).run Try.prog w = .ok (.slice (some ⟨w.heap.size, 0, none⟩) n n) (w.alloc (.cells (madeCells #[.int .i64 0] n) 3)) :=
  run_make_row' (P := Try.prog) 28 3 (.int .i64 0) 8 Try.underlying28 tinfo3 rfl .i64 .i64 n (by omega) (by omega) w
theorem mkBools (n : Nat) (hn : n ≤ 1048576) (w : World) : (Instr.makeSlice 24 (.int .i64 n) (.int .i64 n)).run Try.prog w = .ok (.slice (some ⟨w.heap.size, 0, none⟩) n n) (w.alloc (.cells (madeCells #[.bool false] n) 4)) :=
  run_make_row' (P := Try.prog) 24 4 (.bool false) 1 Try.underlying24 tinfo4 rfl .i64 .i64 n (by omega) (by omega) w
theorem mkLines (n : Nat) (hn : n ≤ 1048576) (w : World) : (Instr.makeSlice 23 (.int .i64 n) (.int .i64 n)).run Try.prog w = .ok (.slice (some ⟨w.heap.size, 0, none⟩) n n) (w.alloc (.cells (madeCells #[.slice none 0 0] n) 126)) := by
  obtain ⟨i0, hi, hz0, hz1, hz2⟩ := info_parts tinfo37
  have h := run_make (P := Try.prog) w 23 126 i0 (.agg #[.slice none 0 0]) Try.underlying23 hi hz0 .i64 .i64 (n : Int) (n : Int) (by omega) (Int.le_refl _) (by rw [hz2]; omega) (by omega)
  simpa [hz1, Value.cells] using h

theorem fill_step {α : Type} {w wr : World} {n j : Nat} {f : Nat → α} {z : α} {mk : α → Value} (hb : Blw w wr) (hr : Row wr w.heap.size n (fun t => mk (if t < j then f t else z))) :
    Row (wr.setCell ⟨w.heap.size, j, none⟩ (mk (f j))) w.heap.size n (fun t => mk (if t < j + 1 then f t else z)) ∧ Blw w (wr.setCell ⟨w.heap.size, j, none⟩ (mk (f j))) := by
  refine ⟨(hr.set j _).congr fun i hi => ?_, hb.setCell (Nat.le_refl _) _⟩
  by_cases h1 : i = j
  · subst h1; simp
  · by_cases h2 : i < j
    · simp [h1, h2, Nat.lt_succ_of_lt h2]
    · have h3 : ¬ i < j + 1 := by omega
      simp [h1, h2, h3]

set_option maxHeartbeats 400000 in
theorem toIntS_any (ao : Option Addr) (c n : Nat) (f : Nat → Int) (Y : Nat → Prop) (w : World) (hn : n ≤ 1048576) (h : IntsAt Y w ao n f) :
    Calls Try.prog 50 #[.slice ao n c] w fun e w' => e = .returned (.slice (some ⟨w.heap.size, 0, none⟩) n n) ∧ Row w' w.heap.size n (fun t => .int .i64 (f t)) ∧ Blw w w' := by
  obtain ⟨-, h⟩ := h
  have hmk := mkInts n hn
  go_enter Try.func50, Try.ntmps50
  go_wp2
  clear hmk
  go_loopw [4] (fun i wr => ∃ j : Nat, j ≤ n ∧ i = .int .i64 j ∧ Row wr w.heap.size n (fun t => Value.int .i64 (if t < j then f t else 0)) ∧ Blw w wr) (fun i _ => n - (intOf i).toNat)
  case atStart => exact ⟨0, Nat.zero_le _, rfl, (Row.made w (.int .i64 0) n 3).congr (fun i _ => by simp), (Blw.refl _).alloc _⟩
  case round =>
    obtain ⟨j, hj, rfl, hr, hb⟩ := hrel
    by_cases hlt : j < n
    · obtain ⟨b, o, rfl, -, g1⟩ := h j hlt
      replace g1 := hb.cell g1
      have g2 : wr.cell? ⟨w.heap.size, j, none⟩ = some (.int .i64 0) := by simpa using hr.cell hlt
      have g3 := hr.frozen j
      have st := fill_step (mk := fun x => Value.int .i64 x) hb hr
      clear h hr
      go_wp2
      go_roundw
      case rel => exact ⟨j + 1, by omega, by go_num, st.1, st.2⟩
      case measure => simp [intOf]; omega
    · go_wp2
      go_ret
      obtain rfl : j = n := by omega
      exact ⟨rfl, hr.congr fun i hi => by simp [hi], hb⟩
set_option maxHeartbeats 400000 in
theorem toBoolS_any (ao : Option Addr) (c n : Nat) (f : Nat → Bool) (Y : Nat → Prop) (w : World) (hn : n ≤ 1048576) (h : BoolsAt Y w ao n f) :
    Calls Try.prog 86 #[.slice ao n c] w fun e w' => e = .returned (.slice (some ⟨w.heap.size, 0, none⟩) n n) ∧ Row w' w.heap.size n (fun t => .bool (f t)) ∧ Blw w w' := by
  obtain ⟨-, h⟩ := h
  have hmk := mkBools n hn
  go_enter Try.func86, Try.ntmps86
  go_wp2
  clear hmk
  go_loopw [4] (fun i wr => ∃ j : Nat, j ≤ n ∧ i = .int .i64 j ∧ Row wr w.heap.size n (fun t => Value.bool (if t < j then f t else false)) ∧ Blw w wr) (fun i _ => n - (intOf i).toNat)
  case atStart => exact ⟨0, Nat.zero_le _, rfl, (Row.made w (.bool false) n 4).congr (fun i _ => by simp), (Blw.refl _).alloc _⟩
  case round =>
    obtain ⟨j, hj, rfl, hr, hb⟩ := hrel
    by_cases hlt : j < n
    · obtain ⟨b, o, rfl, -, g1⟩ := h j hlt
      replace g1 := hb.cell g1
      have g2 : wr.cell? ⟨w.heap.size, j, none⟩ = some (.bool false) := by simpa using hr.cell hlt
      have g3 := hr.frozen j
      have st := fill_step (mk := fun x => Value.bool x) hb hr
      clear h hr
      go_wp2
      go_roundw
      case rel => exact ⟨j + 1, by omega, by go_num, st.1, st.2⟩
      case measure => simp [intOf]; omega
    · go_wp2
      go_ret
      obtain rfl : j = n := by omega
      exact ⟨rfl, hr.congr fun i hi => by simp [hi], hb⟩
theorem three_boxes (w : World) (c : Array Value) (t t1 t2 : TypeId) (a b : Value) :
    Blw w (((w.alloc (.cells c t)).alloc (.cells #[a] t1)).alloc (.cells #[b] t2)) ∧ Row (((w.alloc (.cells c t)).alloc (.cells #[a] t1)).alloc (.cells #[b] t2)) (w.heap.size + 1) 1 (fun _ => a) ∧
    Row (((w.alloc (.cells c t)).alloc (.cells #[a] t1)).alloc (.cells #[b] t2)) (w.heap.size + 1 + 1) 1 (fun _ => b) ∧ (((w.alloc (.cells c t)).alloc (.cells #[a] t1)).alloc (.cells #[b] t2)).heap.size = w.heap.size + 1 + 1 + 1 := by
  have one : ∀ (w : World) (a : Value) (t : TypeId), Row (w.alloc (.cells #[a] t)) w.heap.size 1 (fun _ => a) := fun w a t =>
    ⟨_, t, heap_alloc_new _ _, by simp, fun i hi => by obtain rfl : i = 0 := by omega
                                                       rfl⟩
  refine ⟨(((Blw.refl _).alloc _).alloc _).alloc _, ?_, ?_, by simp⟩
  · have := (one (w.alloc (.cells c t)) a t1).blw ((Blw.refl _).alloc (.cells #[b] t2))
    simpa using this
  · have := one ((w.alloc (.cells c t)).alloc (.cells #[a] t1)) b t2
    simpa using this
set_option maxHeartbeats 400000 in
theorem toLine_any (ao : Option Addr) (c n : Nat) (f : Nat → Int) (Y : Nat → Prop) (w : World) (hn : n ≤ 1048576) (h : IntsAt Y w ao n f) :
    Calls Try.prog 117 #[.agg #[.slice ao n c]] w fun e w' => ∃ b, e = .returned (.agg #[.slice (some ⟨b, 0, none⟩) n n]) ∧ w.heap.size ≤ b ∧ b < w'.heap.size ∧ Row w' b n (fun t => .int .i64 (f t)) ∧ Blw w w' := by
  go_enter Try.func117, Try.ntmps117
  go_wp2_with fail
  obtain ⟨hb0, r1, r2, hz⟩ := three_boxes w #[.slice ao n c] 138 126 126 (.slice none 0 0) (.slice none 0 0)
  revert hb0 r1 r2 hz
  generalize ((w.alloc (.cells #[.slice ao n c] 138)).alloc (.cells #[.slice none 0 0] 126)).alloc (.cells #[.slice none 0 0] 126) = w0
  intro hb0 r1 r2 hz
  refine (toIntS_any _ _ n f Y _ hn (h.blw hb0)).mono ?_
  rintro e w1 ⟨rfl, hr, hb1⟩
  replace r1 := r1.blw hb1
  replace r2 := r2.blw hb1
  have z1 : w0.heap.size < w1.heap.size := hr.lt
  replace hb0 := hb0.trans hb1
  clear hb1
  obtain ⟨b, hB⟩ : ∃ b, b = w0.heap.size := ⟨_, rfl⟩
  rw [← hB] at hr ⊢
  have hb1 : w.heap.size + 1 + 1 < b := by omega
  have hb2 : b < w1.heap.size := by omega
  clear hz hB
  have p1 : w1.cell? ⟨w.heap.size + 1, 0, none⟩ = some (.slice none 0 0) := r1.cell (by omega)
  have p2 : w1.cell? ⟨w.heap.size + 1 + 1, 0, none⟩ = some (.slice none 0 0) := r2.cell (by omega)
  have f1 := r1.frozen 0
  have f2 := r2.frozen 0
  go_wp2
  refine bodyPost_ret (v := .agg #[.slice (some ⟨b, 0, none⟩) n n]) (by simp [results, Try.results117, go_sem, p1]) rfl ⟨b, rfl, by omega, by simpa using hb2, ?_, ?_⟩
  · exact (hr.setOther (by show b ≠ w.heap.size + 1 + 1; omega) _).setOther (by show b ≠ w.heap.size + 1; omega) _
  · exact (hb0.setCell (by show w.heap.size ≤ w.heap.size + 1 + 1; omega) _).setCell (by show w.heap.size ≤ w.heap.size + 1; omega) _

/-- Lines that are being laid out, j of them done. -/
structure Lining (w wr : World) (n : Nat) (len : Nat → Nat) (v : Nat → Nat → Int) (j : Nat) (F : Nat → Nat) : Prop where
  blw : Blw w wr
  top : Row wr w.heap.size n (fun i => if i < j then .slice (some ⟨F i, 0, none⟩) (len i) (len i) else .slice none 0 0)
  row : ∀ i, i < j → w.heap.size < F i ∧ F i < wr.heap.size ∧ Row wr (F i) (len i) (fun t => .int .i64 (v i t))
  inc : ∀ i i', i < i' → i' < j → F i < F i'
theorem lining_step {w wr w1 : World} {n : Nat} {len : Nat → Nat} {v : Nat → Nat → Int} {j b : Nat} {F : Nat → Nat} (L : Lining w wr n len v j F) (hb : Blw wr w1) (h1 : wr.heap.size ≤ b) (h2 : b < w1.heap.size) (hr : Row w1 b (len j) (fun t => .int .i64 (v j t))) (hw : w.heap.size < wr.heap.size) :
    Lining w (w1.setCell ⟨w.heap.size, j, none⟩ (.slice (some ⟨b, 0, none⟩) (len j) (len j))) n len v (j + 1) (fun i => if i < j then F i else b) := by
  have hz : (w1.setCell ⟨w.heap.size, j, none⟩ (.slice (some ⟨b, 0, none⟩) (len j) (len j))).heap.size = w1.heap.size := by simp
  have hs := hb.size
  refine ⟨(L.blw.trans hb).setCell (Nat.le_refl _) _, ((L.top.blw hb).set j _).congr fun i hi => ?_, fun i hi => ?_, fun i i' hi hi' => ?_⟩
  · by_cases e : i = j
    · subst e; simp
    · by_cases e2 : i < j
      · simp [e, e2, Nat.lt_succ_of_lt e2]
      · have e3 : ¬ i < j + 1 := by omega
        simp [e, e2, e3]
  · rw [hz]
    by_cases e : i < j
    · obtain ⟨q1, q2, q3⟩ := L.row i e
      simp only [e, if_true]
      exact ⟨q1, by omega, (q3.blw hb).setOther (by show F i ≠ w.heap.size; omega) _⟩
    · obtain rfl : i = j := by omega
      simp only [e, if_false]
      exact ⟨by omega, h2, hr.setOther (by show b ≠ w.heap.size; omega) _⟩
  · show (if i < j then F i else b) < (if i' < j then F i' else b)
    by_cases e : i' < j
    · rw [if_pos (by omega), if_pos e]; exact L.inc i i' hi e
    · rw [if_pos (by omega), if_neg e]
      have := (L.row i (by omega)).2.1
      omega
theorem lining_done {w wr : World} {n : Nat} {len : Nat → Nat} {v : Nat → Nat → Int} {F : Nat → Nat} (L : Lining w wr n len v n F) (hn : n ≤ 1048576) (hl : ∀ i, i < n → len i ≤ 1048576) : LinesOwn (fun b => w.heap.size ≤ b ∧ b < wr.heap.size) wr (some ⟨w.heap.size, 0, none⟩) n len v := by
  refine ⟨by omega, fun h0 => ⟨w.heap.size, F, len, ⟨Nat.le_refl _, L.top.lt⟩, rfl, L.top.congr fun i hi => by simp [hi], fun i hi => ?_, fun i j hi hj hij => ?_⟩⟩
  · obtain ⟨q1, q2, q3⟩ := L.row i hi
    have := hl i hi
    exact ⟨by omega, ⟨by omega, q2⟩, by omega, q3⟩
  · rcases Nat.lt_or_gt_of_ne hij with h | h
    · have := L.inc i j h hj; omega
    · have := L.inc j i h hi; omega
set_option maxHeartbeats 800000 in
theorem toLineS_any (ao : Option Addr) (c0 n : Nat) (len : Nat → Nat) (v : Nat → Nat → Int) (Y : Nat → Prop) (w : World) (hn : n ≤ 1048576) (hl : ∀ i, i < n → len i ≤ 1048576) (h : LinesAt Y w ao n len v) :
    Calls Try.prog 85 #[.slice ao n c0] w fun e w' => ∃ a, e = .returned (.slice a n n) ∧ LinesOwn (fun b => w.heap.size ≤ b ∧ b < w'.heap.size) w' a n len v ∧ Blw w w' := by
  obtain ⟨-, h⟩ := h
  have hmk := mkLines n hn
  go_enter Try.func85, Try.ntmps85
  go_wp2
  clear hmk
  go_loopw [4] (fun i wr => ∃ (j : Nat) (F : Nat → Nat), j ≤ n ∧ i = .int .i64 j ∧ Lining w wr n len v j F ∧ w.heap.size < wr.heap.size) (fun i _ => n - (intOf i).toNat)
  case atStart => exact ⟨0, fun _ => 0, Nat.zero_le _, rfl, ⟨(Blw.refl _).alloc _, (Row.made w (.slice none 0 0) n 126).congr (fun i _ => by simp), fun i hi => absurd hi (Nat.not_lt_zero _), fun i i' _ hi => absurd hi (Nat.not_lt_zero _)⟩, by simp⟩
  case round =>
    obtain ⟨j, F, hj, rfl, L, hw⟩ := hrel
    by_cases hlt : j < n
    · obtain ⟨b, o, a, c, rfl, -, g1, g2⟩ := h j hlt
      replace g1 := L.blw.cell g1
      replace g2 := g2.blw L.blw
      have hlj := hl j hlt
      have st := fun (w1 : World) (b : Nat) hb h1 h2 hr => lining_step (w1 := w1) (b := b) L hb h1 h2 hr hw
      have ST : Hid (∀ (w1 : World) (b : Nat), Blw wr w1 → wr.heap.size ≤ b → b < w1.heap.size → _ → _) := st
      have t1 : wr.cell? ⟨w.heap.size, j, none⟩ = some (.slice none 0 0) := by simpa using L.top.cell hlt
      have t2 := L.top.frozen j
      have t3 := L.top.lt
      clear h st hl L
      go_wp2_with fail
      refine (toLine_any _ _ _ (v j) Y _ hlj g2).mono ?_
      rintro e w1 ⟨b', rfl, hb1, hb2, hr, hbw⟩
      have L1 := ST.out w1 b' hbw hb1 hb2 hr
      have u1 := hbw.cell t1
      have u2 : w1.frozen? ⟨w.heap.size, j, none⟩ = false := (hbw.frozen t3).trans t2
      have hw1 : w.heap.size < w1.heap.size := by omega
      clear ST g1 g2 t1 t2 hbw hr
      go_wp2
      go_roundw
      case rel => exact ⟨j + 1, _, by omega, by go_num, L1, by simpa using hw1⟩
      case measure => simp [intOf]; omega
    · go_wp2
      go_ret
      obtain rfl : j = n := by omega
      exact ⟨_, rfl, lining_done L hn hl, L.blw⟩
theorem box3 (w : World) (a b c : Value) (t : TypeId) : Row (w.alloc (.cells #[a, b, c] t)) w.heap.size 3 (fun i => if i = 0 then a else if i = 1 then b else c) :=
  ⟨_, t, heap_alloc_new _ _, by simp, fun i hi => by
    match i, hi with
    | 0, _ => rfl
    | 1, _ => rfl
    | 2, _ => rfl⟩
/-- The three blocks that a function over a memory lays first: its argument, its result, a local one. -/
theorem mem_boxes (w : World) (a b c : Value) (t : TypeId) :
    let w0 := ((w.alloc (.cells #[a, b, c] t)).alloc (.cells #[.slice none 0 0, .slice none 0 0, .slice none 0 0] 26)).alloc (.cells #[.slice none 0 0, .slice none 0 0, .slice none 0 0] 26)
    Blw w w0 ∧ Row w0 w.heap.size 3 (fun i => if i = 0 then a else if i = 1 then b else c) ∧ Row w0 (w.heap.size + 1) 3 (fun _ => .slice none 0 0) ∧ Row w0 (w.heap.size + 1 + 1) 3 (fun i => if i = 0 then .slice none 0 0 else if i = 1 then .slice none 0 0 else .slice none 0 0) ∧ w0.heap.size = w.heap.size + 1 + 1 + 1 := by
  intro w0
  refine ⟨(((Blw.refl _).alloc _).alloc _).alloc _, (box3 w a b c t).blw (((Blw.refl _).alloc _).alloc _), ?_, ?_, by simp [w0]⟩
  · have := ((box3 (w.alloc (.cells #[a, b, c] t)) (.slice none 0 0) (.slice none 0 0) (.slice none 0 0) 26).blw ((Blw.refl _).alloc (.cells #[.slice none 0 0, .slice none 0 0, .slice none 0 0] 26)))
    rw [World.size_alloc] at this
    exact this.congr fun i _ => by simp
  · have := box3 ((w.alloc (.cells #[a, b, c] t)).alloc (.cells #[.slice none 0 0, .slice none 0 0, .slice none 0 0] 26)) (.slice none 0 0) (.slice none 0 0) (.slice none 0 0) 26
    rw [World.size_alloc, World.size_alloc] at this
    exact this
theorem set3_0 {w : World} {B : Nat} {a b c : Value} (r : Row w B 3 (fun i => if i = 0 then a else if i = 1 then b else c)) (u : Value) : Row (w.setCell ⟨B, 0, none⟩ u) B 3 (fun i => if i = 0 then u else if i = 1 then b else c) :=
  (r.set 0 u).congr fun i _ => by by_cases e : i = 0 <;> simp [e]
theorem set3_1 {w : World} {B : Nat} {a b c : Value} (r : Row w B 3 (fun i => if i = 0 then a else if i = 1 then b else c)) (u : Value) : Row (w.setCell ⟨B, 1, none⟩ u) B 3 (fun i => if i = 0 then a else if i = 1 then u else c) :=
  (r.set 1 u).congr fun i _ => by by_cases e : i = 1 <;> simp [e]
theorem set3_2 {w : World} {B : Nat} {a b c : Value} (r : Row w B 3 (fun i => if i = 0 then a else if i = 1 then b else c)) (u : Value) : Row (w.setCell ⟨B, 2, none⟩ u) B 3 (fun i => if i = 0 then a else if i = 1 then b else u) :=
  (r.set 2 u).congr fun i hi => by
    match i, hi with
    | 0, _ => rfl
    | 1, _ => rfl
    | 2, _ => rfl
theorem get3 {w : World} {B : Nat} {a b c : Value} (r : Row w B 3 (fun i => if i = 0 then a else if i = 1 then b else c)) : w.cell? ⟨B, 0, none⟩ = some a ∧ w.cell? ⟨B, 1, none⟩ = some b ∧ w.cell? ⟨B, 2, none⟩ = some c :=
  ⟨r.cell (i := 0) (by omega), r.cell (i := 1) (by omega), r.cell (i := 2) (by omega)⟩
structure MD.Small (M : MD) : Prop where
  n1 : M.n1 ≤ 1048576
  n2 : M.n2 ≤ 1048576
  n3 : M.n3 ≤ 1048576
  l1 : ∀ i, i < M.n1 → M.l1 i ≤ 1048576
  l2 : ∀ i, i < M.n2 → M.l2 i ≤ 1048576
  t : M.total ≤ 1048576
theorem pre_part (len : Nat → Nat) {i n : Nat} (h : i < n) : len i ≤ pre len n := by
  have h1 : pre len (i + 1) ≤ pre len n := pre_mono len h
  have h2 : pre len (i + 1) = pre len i + len i := rfl
  omega
theorem small_of {M : MD} (h : M.size ≤ 1048576) : M.Small := by
  unfold MD.size at h
  refine ⟨by omega, by omega, by omega, fun i hi => ?_, fun i hi => ?_, by unfold MD.total; omega⟩
  · have := pre_part M.l1 hi; omega
  · have := pre_part M.l2 hi; omega

set_option maxHeartbeats 1600000 in
theorem toMemory_any (m : MV) (M : MD) (Y : Nat → Prop) (w : World) (hS : M.Small) (h : MemAt Y w m M) :
    Calls Try.prog 39 #[m.val M] w fun e w' => ∃ m' : MV, e = .returned (m'.val M) ∧ MemOwn (fun b => w.heap.size ≤ b ∧ b < w'.heap.size) w' m' M ∧ Blw w w' := by
  obtain ⟨s, c, d⟩ := h
  obtain ⟨S1, S2, S3, S4, S5, -⟩ := hS
  obtain ⟨a1, a2, a3, c1, c2, c3⟩ := m
  obtain ⟨n1, n2, n3, l1, l2, v1, v2, dd⟩ := M
  simp only [MV.val] at *
  go_enter Try.func39, Try.ntmps39
  go_wp2_with fail
  obtain ⟨hb0, r0, r1, r2, hz⟩ := mem_boxes w (.slice a1 n1 c1) (.slice a2 n2 c2) (.slice a3 n3 c3) 60
  revert hb0 r0 r1 r2 hz
  generalize ((w.alloc (.cells #[.slice a1 n1 c1, .slice a2 n2 c2, .slice a3 n3 c3] 60)).alloc (.cells #[.slice none 0 0, .slice none 0 0, .slice none 0 0] 26)).alloc (.cells #[.slice none 0 0, .slice none 0 0, .slice none 0 0] 26) = w0
  intro hb0 r0 r1 r2 hz
  have z0 : w.heap.size + 1 + 1 < w0.heap.size := by omega
  clear hz
  refine (toLineS_any _ _ n1 l1 v1 Y _ S1 S4 (s.blw hb0)).mono ?_
  rintro e w1 ⟨b1, rfl, o1, hb1⟩
  replace r0 := r0.blw hb1
  replace r1 := r1.blw hb1
  replace r2 := r2.blw hb1
  have z1 := hb1.size
  replace hb0 := hb0.trans hb1
  clear hb1
  obtain ⟨p0, p1, p2⟩ := get3 r0
  obtain ⟨q0, q1, q2⟩ := get3 r2
  have f0 := r2.frozen 0
  have hm1 : Mod (fun x => x = w.heap.size + 1 + 1) w1 (w1.setCell ⟨w.heap.size + 1 + 1, 0, none⟩ (.slice b1 n1 n1)) := Mod.setCell (X := fun x => x = w.heap.size + 1 + 1) w1 (p := ⟨w.heap.size + 1 + 1, 0, none⟩) rfl _
  have r2' := set3_0 r2 (.slice b1 n1 n1)
  have r0' := r0.mod hm1 (by omega)
  have r1' := r1.mod hm1 (by omega)
  have o1' := o1.mod hm1 (fun b hb => by have := hb.1; omega)
  have hb1 : Blw w (w1.setCell ⟨w.heap.size + 1 + 1, 0, none⟩ (.slice b1 n1 n1)) := Mod.blw hb0 hm1 (fun i hi => by omega)
  have z2 : w1.heap.size ≤ (w1.setCell ⟨w.heap.size + 1 + 1, 0, none⟩ (.slice b1 n1 n1)).heap.size := hm1.size
  clear r0 r1 r2 hm1 o1 hb0
  go_wp2_with fail
  clear p0 p1 p2 q0 q1 q2 f0
  revert r2' r0' r1' o1' hb1 z2
  generalize w1.setCell ⟨w.heap.size + 1 + 1, 0, none⟩ (.slice b1 n1 n1) = w2
  intro r2 r0 r1 o1 hb0 z2
  refine (toLineS_any _ _ n2 l2 v2 Y _ S2 S5 (c.blw hb0)).mono ?_
  rintro e w3 ⟨b2, rfl, o2, hb1⟩
  replace r0 := r0.blw hb1
  replace r1 := r1.blw hb1
  replace r2 := r2.blw hb1
  replace o1 := o1.blw hb1
  have z3 := hb1.size
  replace hb0 := hb0.trans hb1
  clear hb1
  obtain ⟨p0, p1, p2⟩ := get3 r0
  obtain ⟨q0, q1, q2⟩ := get3 r2
  have f0 := r2.frozen 1
  have hm1 : Mod (fun x => x = w.heap.size + 1 + 1) w3 (w3.setCell ⟨w.heap.size + 1 + 1, 1, none⟩ (.slice b2 n2 n2)) := Mod.setCell (X := fun x => x = w.heap.size + 1 + 1) w3 (p := ⟨w.heap.size + 1 + 1, 1, none⟩) rfl _
  have r2' := set3_1 r2 (.slice b2 n2 n2)
  have r0' := r0.mod hm1 (by omega)
  have r1' := r1.mod hm1 (by omega)
  have o1' := o1.mod hm1 (fun b hb => by have := hb.1; omega)
  have o2' := o2.mod hm1 (fun b hb => by have := hb.1; omega)
  have hb1 : Blw w (w3.setCell ⟨w.heap.size + 1 + 1, 1, none⟩ (.slice b2 n2 n2)) := Mod.blw hb0 hm1 (fun i hi => by omega)
  have z4 : w3.heap.size ≤ (w3.setCell ⟨w.heap.size + 1 + 1, 1, none⟩ (.slice b2 n2 n2)).heap.size := hm1.size
  clear r0 r1 r2 hm1 o1 o2 hb0
  go_wp2_with fail
  clear p0 p1 p2 q0 q1 q2 f0
  revert r2' r0' r1' o1' o2' hb1 z4
  generalize w3.setCell ⟨w.heap.size + 1 + 1, 1, none⟩ (.slice b2 n2 n2) = w4
  intro r2 r0 r1 o1 o2 hb0 z4
  refine (toBoolS_any _ _ n3 dd Y _ S3 (d.blw hb0)).mono ?_
  rintro e w5 ⟨rfl, o3, hb1⟩
  replace r1 := r1.blw hb1
  replace r2 := r2.blw hb1
  replace o1 := o1.blw hb1
  replace o2 := o2.blw hb1
  have z5 : w4.heap.size < w5.heap.size := o3.lt
  replace hb0 := hb0.trans hb1
  clear hb1 r0
  obtain ⟨q0, q1, q2⟩ := get3 r2
  have f0 := r2.frozen 2
  have hm1 : Mod (fun x => x = w.heap.size + 1 + 1) w5 (w5.setCell ⟨w.heap.size + 1 + 1, 2, none⟩ (.slice (some ⟨w4.heap.size, 0, none⟩) n3 n3)) := Mod.setCell (X := fun x => x = w.heap.size + 1 + 1) w5 (p := ⟨w.heap.size + 1 + 1, 2, none⟩) rfl _
  have r1' := r1.mod hm1 (by omega)
  have x0 : w5.cell? ⟨w.heap.size + 1, 0, none⟩ = some (.slice none 0 0) := r1.cell (by omega)
  have x1 : w5.cell? ⟨w.heap.size + 1, 1, none⟩ = some (.slice none 0 0) := r1.cell (by omega)
  have x2 : w5.cell? ⟨w.heap.size + 1, 2, none⟩ = some (.slice none 0 0) := r1.cell (by omega)
  have g0 := r1.frozen 0
  have g1 := r1.frozen 1
  have g2 := r1.frozen 2
  clear r1 r2
  go_wp2
  have hm2 : Mod (fun x => x = w.heap.size + 1 ∨ x = w.heap.size + 1 + 1) w5 ((((w5.setCell ⟨w.heap.size + 1 + 1, 2, none⟩ (.slice (some ⟨w4.heap.size, 0, none⟩) n3 n3)).setCell ⟨w.heap.size + 1, 0, none⟩ (.slice b1 n1 n1)).setCell ⟨w.heap.size + 1, 1, none⟩ (.slice b2 n2 n2)).setCell ⟨w.heap.size + 1, 2, none⟩ (.slice (some ⟨w4.heap.size, 0, none⟩) n3 n3)) :=
    (((hm1.mono (fun x hx => Or.inr hx)).trans (Mod.setCell (X := fun x => x = w.heap.size + 1 ∨ x = w.heap.size + 1 + 1) _ (p := ⟨w.heap.size + 1, 0, none⟩) (Or.inl rfl) _)).trans (Mod.setCell (X := fun x => x = w.heap.size + 1 ∨ x = w.heap.size + 1 + 1) _ (p := ⟨w.heap.size + 1, 1, none⟩) (Or.inl rfl) _)).trans (Mod.setCell (X := fun x => x = w.heap.size + 1 ∨ x = w.heap.size + 1 + 1) _ (p := ⟨w.heap.size + 1, 2, none⟩) (Or.inl rfl) _)
  refine bodyPost_ret (v := .agg #[.slice b1 n1 n1, .slice b2 n2 n2, .slice (some ⟨w4.heap.size, 0, none⟩) n3 n3]) (by simp [results, Try.results39, go_sem, x0, x1, x2]) rfl ⟨⟨b1, b2, some ⟨w4.heap.size, 0, none⟩, n1, n2, n3⟩, rfl, ?_, Mod.blw hb0 hm2 (fun i hi => by omega)⟩
  refine ⟨_, _, fun b => b = w4.heap.size, fun b hb => ⟨⟨?_, ?_⟩, fun hh => ?_, fun hh => ?_⟩, fun b hb => ⟨⟨?_, ?_⟩, fun hh => ?_⟩, fun b hb => ⟨?_, ?_⟩, o1.mod hm2 (fun b hb hh => ?_), o2.mod hm2 (fun b hb hh => ?_), ⟨by show n3 ≤ _; omega, fun _ => ⟨w4.heap.size, rfl, rfl, o3.mod hm2 (fun hh => ?_)⟩⟩⟩
  all_goals first | (have h9 := hb.1; have h8 := hb.2; simp <;> omega) | (have h9 := hb.1; have h8 := hb.2; omega) | (have h9 := hb.1; have h8 := hb.2; have h7 := hh.1; have h6 := hh.2; omega) | omega | (simp; omega)
end Go.Proofs.Ytglllnklcnlcjaa
