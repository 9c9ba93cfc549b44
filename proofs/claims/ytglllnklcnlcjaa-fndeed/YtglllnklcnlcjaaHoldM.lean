/- 'impl.holdMemory': what it answers. -/
import Derived.Test.YtglllnklcnlcjaaEq4
import Derived.Test.YtglllnklcnlcjaaXNew
namespace Go.Proofs.Ytglllnklcnlcjaa
open Go.RowKit
set_option linter.unusedSimpArgs false
theorem info79 : (Try.prog.info? 91).map (·.size) = some 108 := by kernel_rfl
theorem size79 : Try.zeroCells91.size = 108 := by kernel_rfl
theorem one79 : Try.zeroCells91.all (·.oneCell') = true := by kernel_rfl
theorem build79 (w : World) : (Instr.build 91 #[]).run Try.prog w = .ok (.agg Try.zeroCells91) w := run_build w 91 #[] _ (by kernel_rfl)
theorem wpList_build79 {w : World} {ops : Array Oper} {rest : List Oper} {o : Oper} {a : Act} {Q : Exit → Act → World → Prop} (hgd : o.guard = none) (ho : o.op = .build 91 #[])
    (h : wpList Try.prog ops Q rest (a.put o.dst (.agg Try.zeroCells91)) w) : wpList Try.prog ops Q (o :: rest) a w := by
  refine wpList_plain hgd fun K hK => ?_
  unfold Oper.wp execOp
  simp only [ho, List.map_toArray, List.map_nil, Sem.run_bind, build79, Result.andThen_ok, Sem.run_pure]
  exact hK _ _ h
theorem there_row {w : World} {b n : Nat} {f : Nat → Value} (r : Row w b n f) {o m : Nat} (h : o + m ≤ n) : w.there b o m := fun j hj => ⟨by rw [r.cell (by omega)]; rfl, r.frozen _⟩
/-- A row behind a store of many cells. -/
theorem row_setCells {w : World} {b n : Nat} {f : Nat → Value} (r : Row w b n f) (o : Nat) (cs : List Value) (g : Nat → Value) (hg : ∀ j, j < cs.length → cs[j]? = some (g j)) (h : o + cs.length ≤ n) :
    Row (w.setCells b o cs) b n (fun i => if o ≤ i ∧ i < o + cs.length then g (i - o) else f i) ∧ Mod (fun x => x = b) w (w.setCells b o cs) ∧ (w.setCells b o cs).heap.size = w.heap.size := by
  induction cs generalizing w o f g with
  | nil =>
    refine ⟨r.congr fun i hi => ?_, Mod.refl _ _, rfl⟩
    have : ¬ (o ≤ i ∧ i < o + ([] : List Value).length) := by simp only [List.length_nil]; omega
    rw [if_neg this]
  | cons c cs ih =>
    have r1 := r.set o c
    obtain ⟨h1, h2, h3⟩ := ih (w := w.setCell ⟨b, o, none⟩ c) r1 (o + 1) (fun j => g (j + 1)) (fun j hj => by simpa using hg (j + 1) (by simpa using hj)) (by simp only [List.length_cons] at h; omega)
    have hc : c = g 0 := by simpa using hg 0 (by simp)
    refine ⟨h1.congr fun i hi => ?_, (Mod.setCell (X := fun x => x = b) w (p := ⟨b, o, none⟩) rfl _).trans h2, by rw [World.setCells, h3]; simp⟩
    simp only [List.length_cons]
    by_cases e1 : o + 1 ≤ i ∧ i < o + 1 + cs.length
    · rw [if_pos e1, if_pos (by omega), show i - (o + 1) + 1 = i - o by omega]
    · rw [if_neg e1]
      by_cases e2 : i = o
      · subst e2
        rw [if_pos rfl, if_pos (by omega), hc, Nat.sub_self]
      · rw [if_neg e2, if_neg (by omega)]
/-- A store of a whole array into a row. -/
theorem wpList_store_row {w : World} {ops : Array Oper} {rest : List Oper} {op : Oper} {a : Act} {Q : Exit → Act → World → Prop} (hgd : op.guard = none) (ty : TypeId) (x y : Operand) (ho : op.op = .store ty x y)
    (b o : Nat) (cells : Array Value) (hx : a.eval x = .pointer (some ⟨b, o, none⟩)) (hy : a.eval y = .agg cells) (n : Nat) (f g : Nat → Value) (r : Row w b n f) (hfit : o + cells.size ≤ n)
    (hi : (Try.prog.info? ty).map (·.size) = some cells.size) (h1 : cells.all (·.oneCell') = true) (hg : ∀ j, j < cells.size → cells[j]? = some (g j))
    (h : ∀ w', Row w' b n (fun i => if o ≤ i ∧ i < o + cells.size then g (i - o) else f i) → Mod (fun x => x = b) w w' → w'.heap.size = w.heap.size → wpList Try.prog ops Q rest (a.put op.dst undef) w') :
    wpList Try.prog ops Q (op :: rest) a w := by
  obtain ⟨q1, q2, q3⟩ := row_setCells r o cells.toList g (fun j hj => by simpa using hg j (by simpa using hj)) (by simpa using hfit)
  refine wpList_store_mid hgd ty x y ho b o cells hx hy (there_row r hfit) hi h1 (h _ ?_ q2 q3)
  simpa using q1
/-- The two blocks that holdMemory lays first. -/
theorem hold_boxes (w : World) (a b c : Value) :
    let w0 := (w.alloc (.cells #[a, b, c] 26)).alloc (.cells Try.zeroCells91 91)
    Blw w w0 ∧ Row w0 w.heap.size 3 (fun i => if i = 0 then a else if i = 1 then b else c) ∧ Row w0 (w.heap.size + 1) 108 (hcell zeros zeros (fun _ => false)) ∧ w0.heap.size = w.heap.size + 1 + 1 := by
  intro w0
  refine ⟨((Blw.refl _).alloc _).alloc _, (row_mem w a b c 26).blw ((Blw.refl _).alloc _), ?_, by simp [w0]⟩
  have := row79 (w.alloc (.cells #[a, b, c] 26))
  rw [World.size_alloc] at this
  exact this
theorem results53 {w : World} {B : Nat} {s c : Nat → Nat → Int} {d : Nat → Bool} {tmps : Array Value} {b : Bool} {cs : Array Value} (r : Row w B 108 (hcell s c d)) (h2 : tmps[2]? = some (.pointer (some ⟨B, 0, none⟩))) (h3 : tmps[3]? = some (.bool b)) (hs : cs.size = 108) (hc : ∀ i, i < 108 → cs[i]? = some (hcell s c d i)) :
    (results Try.f63 tmps).run Try.prog w = .ok (.tuple #[.agg cs, .bool b]) w := by
  have hl : (loadVar 91 ⟨B, 0, none⟩).run Try.prog w = .ok (.agg cs) w := by
    have := run_loadVar_mid (P := Try.prog) w B 0 91 cs.toList _ (fun j v hv => by
      have hj : j < 108 := by
        have := (List.getElem?_eq_some_iff.1 hv).1
        simp at this; omega
      rw [Nat.zero_add, r.cell hj, ← hc j hj]
      simpa using hv) Try.underlying91 rfl (by rw [info79]; simp [hs])
    simpa using this
  simp [results, Try.results63, h2, h3, asAddr, hl]
theorem cell79 : ∀ j, j < Try.zeroCells91.size → Try.zeroCells91[j]? = some (hcell zeros zeros (fun _ => false) j) := by
  rw [zero79]; intro j hj; simp at hj; simp [hj]
theorem zero_row {w : World} {B : Nat} {f : Nat → Value} (h : Row w B 108 (fun i => if 0 ≤ i ∧ i < 0 + Try.zeroCells91.size then hcell zeros zeros (fun _ => false) (i - 0) else f i)) : Row w B 108 (hcell zeros zeros (fun _ => false)) :=
  h.congr fun i hi => by rw [if_pos ⟨Nat.zero_le _, by rw [size79]; omega⟩, Nat.sub_zero]
set_option maxHeartbeats 1600000 in
theorem holdMemory_short (m : MV) (M : MD) (Y : Nat → Prop) (w : World) (h : MemAt Y w m M) (hne : ¬ (M.n1 = 12 ∧ M.n2 = 12 ∧ M.n3 = 12)) :
    Calls Try.prog 63 #[m.val M] w fun e w' => e = .returned (.tuple #[.agg Try.zeroCells91, .bool false]) ∧ Blw w w' := by
  obtain ⟨s, c, d⟩ := h
  obtain ⟨a1, a2, a3, c1, c2, c3⟩ := m
  obtain ⟨n1, n2, n3, l1, l2, v1, v2, dd⟩ := M
  have z1 := s.1
  have z2 := c.1
  have z3 := d.1
  simp only [MV.val] at *
  obtain ⟨hb0, rB, r1, hz⟩ := hold_boxes w (.slice a1 n1 c1) (.slice a2 n2 c2) (.slice a3 n3 c3)
  clear s c d rB hz
  by_cases h1 : n1 = 12
  · subst h1
    by_cases h2 : n2 = 12
    · subst h2
      have hd : (((n3 : Nat) : Int) != 12) = true := by simp; omega
      clear hne
      go_enter Try.func63, Try.ntmps63
      go_wp2_with (first | (refine wpList_build79 rfl rfl ?_) | (refine wpList_store_row rfl 91 (.tmp 2) (.tmp 25) rfl (w.heap.size + 1) 0 Try.zeroCells91 rfl rfl 108 _ (hcell zeros zeros (fun _ => false)) r1 (by rw [size79]; omega) (by rw [size79]; exact info79) one79 cell79 ?_; intro w1 q1 q2 q3))
      refine bodyPost_ret (v := .tuple #[.agg Try.zeroCells91, .bool false]) (results53 (zero_row (by assumption)) rfl rfl size79 (by rw [← size79]; exact cell79)) rfl ⟨rfl, Mod.blw hb0 (by assumption) (fun i hi => by omega)⟩
    · have hd : (((n2 : Nat) : Int) != 12) = true := by simp; omega
      clear hne
      go_enter Try.func63, Try.ntmps63
      go_wp2_with (first | (refine wpList_build79 rfl rfl ?_) | (refine wpList_store_row rfl 91 (.tmp 2) (.tmp 25) rfl (w.heap.size + 1) 0 Try.zeroCells91 rfl rfl 108 _ (hcell zeros zeros (fun _ => false)) r1 (by rw [size79]; omega) (by rw [size79]; exact info79) one79 cell79 ?_; intro w1 q1 q2 q3))
      refine bodyPost_ret (v := .tuple #[.agg Try.zeroCells91, .bool false]) (results53 (zero_row (by assumption)) rfl rfl size79 (by rw [← size79]; exact cell79)) rfl ⟨rfl, Mod.blw hb0 (by assumption) (fun i hi => by omega)⟩
  · have hd : (((n1 : Nat) : Int) != 12) = true := by simp; omega
    clear hne
    go_enter Try.func63, Try.ntmps63
    go_wp2_with (first | (refine wpList_build79 rfl rfl ?_) | (refine wpList_store_row rfl 91 (.tmp 2) (.tmp 25) rfl (w.heap.size + 1) 0 Try.zeroCells91 rfl rfl 108 _ (hcell zeros zeros (fun _ => false)) r1 (by rw [size79]; omega) (by rw [size79]; exact info79) one79 cell79 ?_; intro w1 q1 q2 q3))
    refine bodyPost_ret (v := .tuple #[.agg Try.zeroCells91, .bool false]) (results53 (zero_row (by assumption)) rfl rfl size79 (by rw [← size79]; exact cell79)) rfl ⟨rfl, Mod.blw hb0 (by assumption) (fun i hi => by omega)⟩
theorem row_line (w : World) (f : Nat → Int) (t : TypeId) : Row (w.alloc (.cells (four f) t)) w.heap.size 4 (fun i => .int .i64 (f i)) :=
  (row_four w _ _ _ _ t).congr fun i hi => by
    match i, hi with
    | 0, _ => rfl
    | 1, _ => rfl
    | 2, _ => rfl
    | 3, _ => rfl
theorem one_four (f : Nat → Int) : (four f).all (·.oneCell') = true := by kernel_rfl
theorem info75 : (Try.prog.info? 87).map (·.size) = some 4 := by kernel_rfl
theorem cell_four (f : Nat → Int) : ∀ j, j < (four f).size → (four f)[j]? = some (.int .i64 (f j)) := fun j hj => by
  have hj' : j < 4 := hj
  match j, hj' with
  | 0, _ => rfl
  | 1, _ => rfl
  | 2, _ => rfl
  | 3, _ => rfl
/-- The same as an operation of a region that draws its order. -/
theorem wp_store_row {w : World} {op : Oper} {a : Act} {K : Act → World → Prop} {Q : Exit → Act → World → Prop} (ty : TypeId) (x y : Operand) (ho : op.op = .store ty x y)
    (b o : Nat) (cells : Array Value) (hx : a.eval x = .pointer (some ⟨b, o, none⟩)) (hy : a.eval y = .agg cells) (n : Nat) (f g : Nat → Value) (r : Row w b n f) (hfit : o + cells.size ≤ n)
    (hi : (Try.prog.info? ty).map (·.size) = some cells.size) (h1 : cells.all (·.oneCell') = true) (hg : ∀ j, j < cells.size → cells[j]? = some (g j))
    (h : ∀ w', Row w' b n (fun i => if o ≤ i ∧ i < o + cells.size then g (i - o) else f i) → Mod (fun x => x = b) w w' → w'.heap.size = w.heap.size → K (a.put op.dst undef) w') :
    op.wp Try.prog a w K Q := by
  obtain ⟨q1, q2, q3⟩ := row_setCells r o cells.toList g (fun j hj => by simpa using hg j (by simpa using hj)) (by simpa using hfit)
  refine wp_store_mid ty x y ho b o cells hx hy (there_row r hfit) hi h1 (h _ ?_ q2 q3)
  simpa using q1
/-- What holds in holdMemory behind k lines. -/
structure Holding (w wr : World) (k : Nat) (v1 v2 : Nat → Nat → Int) (d : Nat → Bool) (a b c : Value) : Prop where
  blw : Blw w wr
  box : Row wr w.heap.size 3 (fun i => if i = 0 then a else if i = 1 then b else c)
  res : Row wr (w.heap.size + 1) 108 (hcell zeros zeros (fun _ => false))
  cur : Row wr (w.heap.size + 1 + 1) 108 (hcell (fun i j => if i < k then v1 i j else 0) (fun i j => if i < k then v2 i j else 0) d)

theorem lines_fixed {Y : Nat → Prop} {w : World} {b o n : Nat} {len : Nat → Nat} {v : Nat → Nat → Int} (h : LinesAt Y w (some ⟨b, o, none⟩) n len v) : ∀ k, k < n → ∃ e ce, w.cell? ⟨b, o + k, none⟩ = some (.slice e (len k) ce) ∧ IntsAt Y w e (len k) (v k) := fun k hk => by
  obtain ⟨b', o', e, ce, h1, -, h2, h3⟩ := h.2 k hk
  simp only [Option.some.injEq, Addr.mk.injEq, and_true] at h1
  exact ⟨e, ce, by rw [h1.1, h1.2]; exact h2, h3⟩
theorem bools_fixed {Y : Nat → Prop} {w : World} {b o n : Nat} {f : Nat → Bool} (h : BoolsAt Y w (some ⟨b, o, none⟩) n f) : ∀ k, k < n → w.cell? ⟨b, o + k, none⟩ = some (.bool (f k)) := fun k hk => by
  obtain ⟨b', o', h1, -, h2⟩ := h.2 k hk
  simp only [Option.some.injEq, Addr.mk.injEq, and_true] at h1
  rw [h1.1, h1.2]; exact h2
theorem get3h {w : World} {B : Nat} {a b c : Value} (r : Row w B 3 (fun i => if i = 0 then a else if i = 1 then b else c)) : w.cell? ⟨B, 0, none⟩ = some a ∧ w.cell? ⟨B, 1, none⟩ = some b ∧ w.cell? ⟨B, 2, none⟩ = some c :=
  ⟨r.cell (i := 0) (by omega), r.cell (i := 1) (by omega), r.cell (i := 2) (by omega)⟩
theorem holding_start {w wA wB : World} {v1 v2 : Nat → Nat → Int} {d : Nat → Bool} {a b c : Value} (hb : Blw w wA) (rB : Row wA w.heap.size 3 (fun i => if i = 0 then a else if i = 1 then b else c)) (r1 : Row wA (w.heap.size + 1) 108 (hcell zeros zeros (fun _ => false)))
    (hr : Row wB (w.heap.size + 1 + 1) 108 (fun i => if 96 ≤ i ∧ i < 96 + 12 then .bool (d (i - 96)) else hcell zeros zeros (fun _ => false) i)) (hm : Mod (fun x => x = w.heap.size + 1 + 1) wA wB) : Holding w wB 0 v1 v2 d a b c := by
  refine ⟨Mod.blw hb hm (fun i hi => by omega), rB.mod hm (by omega), r1.mod hm (by omega), hr.congr fun i hi => ?_⟩
  by_cases h : 96 ≤ i
  · rw [if_pos ⟨h, by omega⟩]
    have h1 : ¬ i < 48 := by omega
    have h2 : ¬ i < 96 := by omega
    simp only [hcell, if_neg h1, if_neg h2]
  · rw [if_neg (by omega)]
    have h2 : i < 96 := by omega
    simp [hcell, h2]
theorem holding_step {w wX w9 : World} {k : Nat} {v1 v2 : Nat → Nat → Int} {d : Nat → Bool} {a b c : Value} (hb : Blw w wX) (rB : Row wX w.heap.size 3 (fun i => if i = 0 then a else if i = 1 then b else c)) (r1 : Row wX (w.heap.size + 1) 108 (hcell zeros zeros (fun _ => false)))
    (hr : Row w9 (w.heap.size + 1 + 1) 108 (fun i => if 48 + k * 4 ≤ i ∧ i < 48 + k * 4 + (four (v2 k)).size then .int .i64 (v2 k (i - (48 + k * 4))) else if k * 4 ≤ i ∧ i < k * 4 + (four (v1 k)).size then .int .i64 (v1 k (i - k * 4)) else hcell (fun i j => if i < k then v1 i j else 0) (fun i j => if i < k then v2 i j else 0) d i))
    (hm : Mod (fun x => x = w.heap.size + 1 + 1) wX w9) (hk12 : k < 12) : Holding w w9 (k + 1) v1 v2 d a b c := by
  have z1 : (four (v1 k)).size = 4 := rfl
  have z2 : (four (v2 k)).size = 4 := rfl
  rw [z1, z2] at hr
  refine ⟨Mod.blw hb hm (fun i hi => by omega), rB.mod hm (by omega), r1.mod hm (by omega), hr.congr fun i hi => ?_⟩
  by_cases h48 : i < 48
  · rw [if_neg (by omega)]
    by_cases hk : k * 4 ≤ i ∧ i < k * 4 + 4
    · have e1 : i / 4 = k := by omega
      have e2 : i - k * 4 = i % 4 := by omega
      rw [if_pos hk, e2]
      simp [hcell, h48, e1]
    · rw [if_neg hk]
      by_cases e : i / 4 < k
      · have e3 : i / 4 < k + 1 := by omega
        simp only [hcell, if_pos h48, if_pos e, if_pos e3]
      · have e3 : ¬ i / 4 < k + 1 := by omega
        simp only [hcell, if_pos h48, if_neg e, if_neg e3]
  · by_cases h96 : i < 96
    · by_cases hk : 48 + k * 4 ≤ i ∧ i < 48 + k * 4 + 4
      · have e1 : (i - 48) / 4 = k := by omega
        have e2 : i - (48 + k * 4) = (i - 48) % 4 := by omega
        rw [if_pos hk, e2]
        simp [hcell, h48, h96, e1]
      · rw [if_neg hk]
        by_cases hq : k * 4 ≤ i ∧ i < k * 4 + 4
        · exact absurd hq (by omega)
        · rw [if_neg hq]
          by_cases e : (i - 48) / 4 < k
          · have e3 : (i - 48) / 4 < k + 1 := by omega
            simp only [hcell, if_neg h48, if_pos h96, if_pos e, if_pos e3]
          · have e3 : ¬ (i - 48) / 4 < k + 1 := by omega
            simp only [hcell, if_neg h48, if_pos h96, if_neg e, if_neg e3]
    · rw [if_neg (by omega), if_neg (by omega)]
      simp only [hcell, if_neg h48, if_neg h96]
theorem full_row {w : World} {B : Nat} {v1 v2 : Nat → Nat → Int} {d : Nat → Bool} (r : Row w B 108 (hcell (fun i j => if i < 12 then v1 i j else 0) (fun i j => if i < 12 then v2 i j else 0) d)) : Row w B 108 (hcell v1 v2 d) :=
  r.congr fun i hi => by
    by_cases h : i < 48
    · have : i / 4 < 12 := by omega
      simp [hcell, h, this]
    · by_cases h2 : i < 96
      · have : (i - 48) / 4 < 12 := by omega
        simp [hcell, h, h2, this]
      · simp [hcell, h, h2]
theorem hcell_one (s c : Nat → Nat → Int) (d : Nat → Bool) (i : Nat) : (hcell s c d i).oneCell' = true := by
  unfold hcell
  split
  · rfl
  · split <;> rfl
theorem one_cells {cs : List Value} {s c : Nat → Nat → Int} {d : Nat → Bool} (hl : cs.length = 108) (h : ∀ j, j < 108 → cs.toArray[j]? = some (hcell s c d (0 + j))) : cs.toArray.all (·.oneCell') = true :=
  all_oneCell_toArray fun v hv => by
    obtain ⟨j, hj, rfl⟩ := List.getElem_of_mem hv
    have := h j (by omega)
    simp [hj] at this
    rw [this]
    exact hcell_one _ _ _ _
theorem one_cells' {cs : Array Value} {s c : Nat → Nat → Int} {d : Nat → Bool} (hl : cs.size = 108) (h : ∀ j, j < 108 → cs[j]? = some (hcell s c d j)) : cs.all (·.oneCell') = true :=
  Array.all_eq_true_iff_forall_mem.2 fun v hv => by
    obtain ⟨j, hj, rfl⟩ := Array.getElem_of_mem hv
    have := h j (by omega)
    simp [hj] at this
    rw [this]
    exact hcell_one _ _ _ _
theorem whole_row {w : World} {B : Nat} {cs : List Value} {f : Nat → Value} {g : Nat → Value} (hl : cs.length = 108) (h : Row w B 108 (fun i => if 0 ≤ i ∧ i < 0 + cs.toArray.size then g (i - 0) else f i)) : Row w B 108 g :=
  h.congr fun i hi => by rw [if_pos ⟨Nat.zero_le _, by simp [hl]; omega⟩, Nat.sub_zero]
set_option maxRecDepth 100000 in
set_option maxHeartbeats 1600000 in
theorem holdMemory_full (m : MV) (M : MD) (Y : Nat → Prop) (w : World) (h : MemAt Y w m M) (g1 : M.n1 = 12) (g2 : M.n2 = 12) (g3 : M.n3 = 12) :
    Calls Try.prog 63 #[m.val M] w fun e w' => ((M.Good ∧ ∃ cs : Array Value, cs.size = 108 ∧ (∀ i, i < 108 → cs[i]? = some (hcell M.v1 M.v2 M.d i)) ∧ e = .returned (.tuple #[.agg cs, .bool true])) ∨ (¬ M.Good ∧ e = .returned (.tuple #[.agg Try.zeroCells91, .bool false]))) ∧ Blw w w' := by
  obtain ⟨s, c, d⟩ := h
  obtain ⟨a1, a2, a3, c1, c2, c3⟩ := m
  obtain ⟨n1, n2, n3, l1, l2, v1, v2, dd⟩ := M
  simp only at g1 g2 g3
  subst g1 g2 g3
  simp only [MV.val] at *
  go_enter Try.func63, Try.ntmps63
  go_wp2
  obtain ⟨hb0, rB, r1, hz⟩ := hold_boxes w (.slice a1 12 c1) (.slice a2 12 c2) (.slice a3 12 c3)
  revert hb0 rB r1 hz
  generalize (w.alloc (.cells #[.slice a1 12 c1, .slice a2 12 c2, .slice a3 12 c3] 26)).alloc (.cells Try.zeroCells91 91) = w0
  intro hb0 rB r1 hz
  obtain ⟨b1, o1, e0, ce0, rfl, -⟩ := s.2 0 (by omega)
  obtain ⟨b2, o2, e0', ce0', rfl, -⟩ := c.2 0 (by omega)
  obtain ⟨b3, o3, rfl, -⟩ := d.2 0 (by omega)
  have hs := lines_fixed s
  have hc := lines_fixed c
  have hd := bools_fixed d
  clear s c d e0 ce0 e0' ce0'
  have hbA : Blw w0 (w0.alloc (.cells Try.zeroCells91 91)) := (Blw.refl _).alloc _
  have rH := row79 w0
  rw [hz] at rH
  revert hbA rH
  generalize w0.alloc (.cells Try.zeroCells91 91) = wA
  intro hbA rH
  replace rB := rB.blw hbA
  replace r1 := r1.blw hbA
  replace hb0 := hb0.trans hbA
  clear hbA hz
  have q2 := (get3h rB).2.2
  go_region_law (refine step_copy_fn rfl (.tmp 27) (.tmp 29) 24 24 rfl 4 Try.underlying24 info4s (w.heap.size + 1 + 1) 96 12 12 ⟨b3, o3, none⟩ 12 c3 rfl rfl 12 (fun t => .bool (dd t)) 108 (hcell zeros zeros (fun _ => false)) rfl (fun j hj => by rw [Addr.add_mid]; exact hb0.cell (hd j hj)) (fun _ _ => rfl) rH (by omega) ?_; intro wB hrB hmB hzB)
  replace hmB : Mod (fun x => x = w.heap.size + 1 + 1) wA wB := Mod.trans ((Blw.refl wA).drew.mod _) hmB
  have G0 : Holding w wB 0 v1 v2 dd (.slice (some ⟨b1, o1, none⟩) 12 c1) (.slice (some ⟨b2, o2, none⟩) 12 c2) (.slice (some ⟨b3, o3, none⟩) 12 c3) := holding_start hb0 rB r1 hrB hmB
  clear hb0 rB r1 rH q2 hrB hmB hzB
  go_wp2
  go_loopw [31] (fun i wr => ∃ k : Nat, k ≤ 12 ∧ i = .int .i64 k ∧ (∀ j, j < k → MD.OkAt ⟨12, 12, 12, l1, l2, v1, v2, dd⟩ j) ∧ Holding w wr k v1 v2 dd (.slice (some ⟨b1, o1, none⟩) 12 c1) (.slice (some ⟨b2, o2, none⟩) 12 c2) (.slice (some ⟨b3, o3, none⟩) 12 c3)) (fun i _ => 12 - (intOf i).toNat)
  case atStart => exact ⟨0, by omega, rfl, fun j hj => absurd hj (Nat.not_lt_zero _), G0⟩
  case round =>
    obtain ⟨k, hk, rfl, hok, G⟩ := hrel
    clear G0
    by_cases hlt : k < 12
    · obtain ⟨e1, ce1, g1, k1⟩ := hs k hlt
      obtain ⟨e2, ce2, g2, k2⟩ := hc k hlt
      replace g1 := G.blw.cell g1
      have HOK : Hid (∀ j, j < k → MD.OkAt ⟨12, 12, 12, l1, l2, v1, v2, dd⟩ j) := hok
      clear hs hc hd hok
      have q0 := (get3h G.box).1
      go_wp2_with fail
      refine (holdLine_any _ _ _ _ Y _ (k1.blw G.blw)).mono ?_
      rintro e w1 ⟨hr, hb1⟩
      rcases hr with ⟨ok1, rfl⟩ | ⟨bad1, rfl⟩
      · have q1 : ∀ o, (w1.alloc o).cell? ⟨w.heap.size, 1, none⟩ = some (.slice (some ⟨b2, o2, none⟩) 12 c2) := fun o => (hb1.alloc o).cell (get3h G.box).2.1
        have g2' : ∀ o, (w1.alloc o).cell? ⟨b2, o2 + k, none⟩ = some (.slice e2 (l2 k) ce2) := fun o => (hb1.alloc o).cell (G.blw.cell g2)
        go_wp2_with fail
        clear q0 q1 g2' g1
        obtain ⟨hbS, rS, hzS⟩ : Blw w1 (w1.alloc (.cells (four (v1 k)) 87)) ∧ Row (w1.alloc (.cells (four (v1 k)) 87)) w1.heap.size 4 (fun i => .int .i64 (v1 k i)) ∧ w1.heap.size < (w1.alloc (.cells (four (v1 k)) 87)).heap.size := ⟨(Blw.refl _).alloc _, row_line w1 (v1 k) 87, by simp⟩
        revert hbS rS hzS
        generalize w1.alloc (.cells (four (v1 k)) 87) = wS
        intro hbS rS hzS
        replace hbS := hb1.trans hbS
        have HB1w := hb1
        clear hb1
        refine (holdLine_any _ _ _ _ Y _ (k2.blw (G.blw.trans hbS))).mono ?_
        rintro e w2 ⟨hr, hb2⟩
        have HB2 := hbS.trans hb2
        have HB1 := HB1w
        replace rS := rS.blw hb2
        have hz1 : w1.heap.size < w2.heap.size := by have := hb2.size; omega
        rcases hr with ⟨ok2, rfl⟩ | ⟨bad2, rfl⟩
        · have OK1 : Hid (lineOK (l1 k) (v1 k)) := ok1
          have OK2 : Hid (lineOK (l2 k) (v2 k)) := ok2
          clear ok1 ok2 hbS hb2
          have cd : ∀ o, (w2.alloc o).cell? ⟨w.heap.size + 1 + 1, 96 + k, none⟩ = some (.bool (dd k)) := fun o => by
            have := (G.cur.blw (HB2.alloc o)).cell (i := 96 + k) (by omega)
            rw [hcell_d] at this
            exact this
          cases hdk : dd k
          · rw [hdk] at cd
            have HDK : Hid (dd k = false) := hdk
            clear hdk
            obtain ⟨s0, s1, s2, s3⟩ := row4 (rS.blw ((Blw.refl w2).alloc (.cells (four (v2 k)) 87))) (by omega)
            by_cases same : ∀ j, j < 4 → v1 k j = v2 k j
            · have hne := neq75_same _ _ same
              have SAME : Hid (MD.OkAt ⟨12, 12, 12, l1, l2, v1, v2, dd⟩ k) := ⟨OK1.out, OK2.out, fun _ => same⟩
              clear same
              go_wp2
              obtain ⟨hbX, rC, rS', rT⟩ : Blw w (w2.alloc (.cells (four (v2 k)) 87)) ∧ Row (w2.alloc (.cells (four (v2 k)) 87)) (w.heap.size + 1 + 1) 108 _ ∧ Row (w2.alloc (.cells (four (v2 k)) 87)) w1.heap.size 4 (fun i => .int .i64 (v1 k i)) ∧ Row (w2.alloc (.cells (four (v2 k)) 87)) w2.heap.size 4 (fun i => .int .i64 (v2 k i)) := ⟨G.blw.trans (HB2.alloc _), G.cur.blw (HB2.alloc _), rS.blw ((Blw.refl _).alloc _), row_line w2 (v2 k) 87⟩
              have rbx := G.box.blw (HB2.alloc (.cells (four (v2 k)) 87))
              have rrs := G.res.blw (HB2.alloc (.cells (four (v2 k)) 87))
              have nz1 : w.heap.size + 1 + 1 < w1.heap.size := by have := G.cur.lt; have := HB1.size; omega
              have nz2 : w.heap.size + 1 + 1 < w2.heap.size := by omega
              clear cd s0 s1 s2 s3 G HB2 rS
              revert hbX rC rS' rT rbx rrs
              generalize w2.alloc (.cells (four (v2 k)) 87) = wX
              intro hbX rC rS' rT rbx rrs
              have S0 : ∀ w', Mod (fun x => x = w.heap.size + 1 + 1) wX w' → ∀ i, i < 4 → w'.cell? ⟨w1.heap.size, i, none⟩ = some (.int .i64 (v1 k i)) := fun w' hm i hi => hm.cell (rS'.cell hi) (by show ¬ w1.heap.size = _; omega)
              have T0 : ∀ w', Mod (fun x => x = w.heap.size + 1 + 1) wX w' → ∀ i, i < 4 → w'.cell? ⟨w2.heap.size, i, none⟩ = some (.int .i64 (v2 k i)) := fun w' hm i hi => hm.cell (rT.cell hi) (by show ¬ w2.heap.size = _; omega)
              have A0 := fun w' hm => S0 w' hm 0 (by omega)
              have A1 := fun w' hm => S0 w' hm 1 (by omega)
              have A2 := fun w' hm => S0 w' hm 2 (by omega)
              have A3 := fun w' hm => S0 w' hm 3 (by omega)
              have B0 := fun w' hm => T0 w' hm 0 (by omega)
              have B1 := fun w' hm => T0 w' hm 1 (by omega)
              have B2 := fun w' hm => T0 w' hm 2 (by omega)
              have B3 := fun w' hm => T0 w' hm 3 (by omega)
              clear S0 T0 hne
              refine wp_region_noPanic ?_
              refine wp_region_held_drew (S := fun w' => Mod (fun x => x = w.heap.size + 1 + 1) wX w') (by kernel_rfl) ((Blw.refl wX).drew.mod _) (fun hB => ?_)
              have rC0 := rC.blw (Blw.refl wX).drew
              revert hB rC0
              generalize wX.drew = wY
              intro hB rC0
              refine wpAnyH_take (i := 0) (oi := { dst := some 69, op := Op.move (Operand.tmp 5), type := 3, pos := _, after := #[], guard := none }) (v := .int .i64 k) rfl (by kernel_rfl) (by kernel_rfl) (by kernel_rfl) (fun _ _ _ h => h) (Or.inl ⟨by rfl, fun w' hS => by (try dsimp only at hS); go_simp⟩) hB ?_
              simp only [Act.put, List.setIfInBounds_toArray, List.set_cons_zero, List.set_cons_succ]
              refine wpAnyH_take (i := 1) (oi := { dst := some 70, op := Op.move (Operand.tmp 5), type := 3, pos := _, after := #[{ on := 6, ground := Ground.gcOnly Departure.lateStores }], guard := none }) (v := .int .i64 k) rfl (by kernel_rfl) (by kernel_rfl) (by kernel_rfl) (fun _ _ _ h => h) (Or.inl ⟨by rfl, fun w' hS => by (try dsimp only at hS); go_simp⟩) hB ?_
              simp only [Act.put, List.setIfInBounds_toArray, List.set_cons_zero, List.set_cons_succ]
              refine wpAnyH_take (i := 2) (oi := { dst := some 71, op := Op.load 87 (Operand.tmp 6), type := 87, pos := _, after := #[], guard := none }) (v := .agg (four (v1 k))) rfl (by kernel_rfl) (by kernel_rfl) (by kernel_rfl) (fun _ _ _ h => h) (Or.inl ⟨by rfl, fun w' hS => by (try dsimp only at hS); go_simp⟩) hB ?_
              simp only [Act.put, List.setIfInBounds_toArray, List.set_cons_zero, List.set_cons_succ]
              refine wpAnyH_take (i := 3) (oi := { dst := some 72, op := Op.load 87 (Operand.tmp 8), type := 87, pos := _, after := #[{ on := 6, ground := Ground.gcOnly Departure.lateStores }], guard := none }) (v := .agg (four (v2 k))) rfl (by kernel_rfl) (by kernel_rfl) (by kernel_rfl) (fun _ _ _ h => h) (Or.inl ⟨by rfl, fun w' hS => by (try dsimp only at hS); go_simp⟩) hB ?_
              simp only [Act.put, List.setIfInBounds_toArray, List.set_cons_zero, List.set_cons_succ]
              refine wpAnyH_take (i := 4) (oi := { dst := some 73, op := Op.fieldAddr 91 (Operand.tmp 4) 0, type := 0, pos := _, after := #[], guard := none }) (v := .pointer (some ⟨w.heap.size + 1 + 1, 0, none⟩)) rfl (by kernel_rfl) (by kernel_rfl) (by kernel_rfl) (fun _ _ _ h => h) (Or.inl ⟨by rfl, fun w' hS => by (try dsimp only at hS); go_simp⟩) hB ?_
              simp only [Act.put, List.setIfInBounds_toArray, List.set_cons_zero, List.set_cons_succ]
              refine wpAnyH_take (i := 5) (oi := { dst := some 74, op := Op.indexAddr 88 (Operand.tmp 73) (Operand.tmp 69), type := 0, pos := _, after := #[{ on := 4, ground := Ground.data }, { on := 0, ground := Ground.data }, { on := 0, ground := Ground.phase }, { on := 1, ground := Ground.textOnly Departure.lateStores }, { on := 2, ground := Ground.phase }, { on := 3, ground := Ground.textOnly Departure.lateStores }], guard := none }) (v := .pointer (some ⟨w.heap.size + 1 + 1, k * 4, none⟩)) rfl (by kernel_rfl) (by kernel_rfl) (by kernel_rfl) (fun _ _ _ h => h) (Or.inl ⟨by rfl, fun w' hS => by (try dsimp only at hS); go_simp⟩) hB ?_
              simp only [Act.put, List.setIfInBounds_toArray, List.set_cons_zero, List.set_cons_succ]
              refine wpAnyH_take (i := 7) (oi := { dst := some 75, op := Op.fieldAddr 91 (Operand.tmp 4) 1, type := 0, pos := _, after := #[], guard := none }) (v := .pointer (some ⟨w.heap.size + 1 + 1, 48, none⟩)) rfl (by kernel_rfl) (by kernel_rfl) (by kernel_rfl) (fun _ _ _ h => h) (Or.inl ⟨by rfl, fun w' hS => by (try dsimp only at hS); go_simp⟩) hB ?_
              simp only [Act.put, List.setIfInBounds_toArray, List.set_cons_zero, List.set_cons_succ]
              refine wpAnyH_ready (rs := [6]) (by kernel_rfl) (by simp) ?_
              refine AllReadyH.cons (o := { dst := none, op := Op.store 87 (Operand.tmp 74) (Operand.tmp 71), type := 0, pos := _, after := #[{ on := 5, ground := Ground.data }, { on := 2, ground := Ground.data }, { on := 0, ground := Ground.phase }, { on := 1, ground := Ground.textOnly Departure.lateStores }, { on := 2, ground := Ground.phase }, { on := 3, ground := Ground.textOnly Departure.lateStores }], guard := none }) rfl (fun K hK => ?_) AllReadyH.nil
              rw [if_pos (by rfl)]
              refine wp_store_row 87 (.tmp 74) (.tmp 71) rfl (w.heap.size + 1 + 1) (k * 4) (four (v1 k)) rfl rfl 108 _ (fun t => .int .i64 (v1 k t)) rC0 (by show k * 4 + 4 ≤ 108; omega) info75 (one_four (v1 k)) (cell_four (v1 k)) ?_
              intro w6 rC6 hm6 hz6
              refine hK.out _ _ (hB.trans hm6) (fun hB6 => ?_)
              clear hK K
              try simp only [Act.put, List.setIfInBounds_toArray, List.set_cons_zero, List.set_cons_succ]
              refine wpAnyH_take (i := 8) (oi := { dst := some 76, op := Op.indexAddr 88 (Operand.tmp 75) (Operand.tmp 70), type := 0, pos := _, after := #[{ on := 7, ground := Ground.data }, { on := 1, ground := Ground.data }, { on := 0, ground := Ground.phase }, { on := 1, ground := Ground.phase }, { on := 2, ground := Ground.phase }, { on := 3, ground := Ground.phase }, { on := 4, ground := Ground.phase }, { on := 5, ground := Ground.phase }, { on := 6, ground := Ground.phase }], guard := none }) (v := .pointer (some ⟨w.heap.size + 1 + 1, 48 + k * 4, none⟩)) rfl (by kernel_rfl) (by kernel_rfl) (by kernel_rfl) (fun _ _ _ h => h) (Or.inl ⟨by rfl, fun w' hS => by (try dsimp only at hS); go_simp⟩) hB6 ?_
              simp only [Act.put, List.setIfInBounds_toArray, List.set_cons_zero, List.set_cons_succ]
              refine wpAnyH_ready (rs := [9]) (by kernel_rfl) (by simp) ?_
              refine AllReadyH.cons (o := { dst := none, op := Op.store 87 (Operand.tmp 76) (Operand.tmp 72), type := 0, pos := _, after := #[{ on := 8, ground := Ground.data }, { on := 3, ground := Ground.data }, { on := 6, ground := Ground.chain }, { on := 0, ground := Ground.phase }, { on := 1, ground := Ground.phase }, { on := 2, ground := Ground.phase }, { on := 3, ground := Ground.phase }, { on := 4, ground := Ground.phase }, { on := 5, ground := Ground.phase }, { on := 6, ground := Ground.phase }], guard := none }) rfl (fun K hK => ?_) AllReadyH.nil
              rw [if_pos (by rfl)]
              refine wp_store_row 87 (.tmp 76) (.tmp 72) rfl (w.heap.size + 1 + 1) (48 + k * 4) (four (v2 k)) rfl rfl 108 _ (fun t => .int .i64 (v2 k t)) rC6 (by show 48 + k * 4 + 4 ≤ 108; omega) info75 (one_four (v2 k)) (cell_four (v2 k)) ?_
              intro w9 rC9 hm9 hz9
              refine hK.out _ _ (hB6.trans hm9) (fun hB9 => ?_)
              clear hK K
              try simp only [Act.put, List.setIfInBounds_toArray, List.set_cons_zero, List.set_cons_succ]
              refine wpAnyH_done (by kernel_rfl) ?_ _
              refine NoPanic.normal ?_
              clear A0 A1 A2 A3 B0 B1 B2 B3
              have GN := holding_step hbX rbx rrs rC9 hB9 hlt
              clear hbX rbx rrs rC rC0 rC6 rC9 hm6 hm9 hB9 hB6 hB rS' rT
              go_wp2
              go_roundw
              case rel => exact ⟨k + 1, by omega, by go_num, fun j hj => by
                by_cases e : j = k
                · subst e; exact SAME.out
                · exact HOK.out j (by omega), GN⟩
              case measure => simp [intOf]; omega
            · have hne := neq75_other _ _ same
              have NG : Hid (¬ MD.Good ⟨12, 12, 12, l1, l2, v1, v2, dd⟩) := fun g => same ((g.ok k hlt).c HDK.out)
              have rz := G.res.blw (HB2.alloc (.cells (four (v2 k)) 87))
              have hbz := G.blw.trans (HB2.alloc (.cells (four (v2 k)) 87))
              clear same G HB2 rS
              go_wp2_with (first | (refine wpList_build79 rfl rfl ?_) | (refine wpList_store_row rfl 91 (.tmp 2) (.tmp 68) rfl (w.heap.size + 1) 0 Try.zeroCells91 rfl rfl 108 _ (hcell zeros zeros (fun _ => false)) rz (by rw [size79]; omega) (by rw [size79]; exact info79) one79 cell79 ?_; intro wz qz1 qz2 qz3))
              refine bodyPost_ret (v := .tuple #[.agg Try.zeroCells91, .bool false]) (results53 (zero_row (by assumption)) rfl rfl size79 (by rw [← size79]; exact cell79)) rfl ⟨Or.inr ⟨NG.out, rfl⟩, Mod.blw hbz (by assumption) (fun i hi => by omega)⟩
          · rw [hdk] at cd
            have SAME : Hid (MD.OkAt ⟨12, 12, 12, l1, l2, v1, v2, dd⟩ k) := ⟨OK1.out, OK2.out, fun h => absurd (hdk.symm.trans h) (by decide)⟩
            clear hdk
            go_wp2
            obtain ⟨hbX, rC, rS', rT⟩ : Blw w (w2.alloc (.cells (four (v2 k)) 87)) ∧ Row (w2.alloc (.cells (four (v2 k)) 87)) (w.heap.size + 1 + 1) 108 _ ∧ Row (w2.alloc (.cells (four (v2 k)) 87)) w1.heap.size 4 (fun i => .int .i64 (v1 k i)) ∧ Row (w2.alloc (.cells (four (v2 k)) 87)) w2.heap.size 4 (fun i => .int .i64 (v2 k i)) := ⟨G.blw.trans (HB2.alloc _), G.cur.blw (HB2.alloc _), rS.blw ((Blw.refl _).alloc _), row_line w2 (v2 k) 87⟩
            have rbx := G.box.blw (HB2.alloc (.cells (four (v2 k)) 87))
            have rrs := G.res.blw (HB2.alloc (.cells (four (v2 k)) 87))
            have nz1 : w.heap.size + 1 + 1 < w1.heap.size := by have := G.cur.lt; have := HB1.size; omega
            have nz2 : w.heap.size + 1 + 1 < w2.heap.size := by omega
            clear cd G HB2 rS
            revert hbX rC rS' rT rbx rrs
            generalize w2.alloc (.cells (four (v2 k)) 87) = wX
            intro hbX rC rS' rT rbx rrs
            have S0 : ∀ w', Mod (fun x => x = w.heap.size + 1 + 1) wX w' → ∀ i, i < 4 → w'.cell? ⟨w1.heap.size, i, none⟩ = some (.int .i64 (v1 k i)) := fun w' hm i hi => hm.cell (rS'.cell hi) (by show ¬ w1.heap.size = _; omega)
            have T0 : ∀ w', Mod (fun x => x = w.heap.size + 1 + 1) wX w' → ∀ i, i < 4 → w'.cell? ⟨w2.heap.size, i, none⟩ = some (.int .i64 (v2 k i)) := fun w' hm i hi => hm.cell (rT.cell hi) (by show ¬ w2.heap.size = _; omega)
            have A0 := fun w' hm => S0 w' hm 0 (by omega)
            have A1 := fun w' hm => S0 w' hm 1 (by omega)
            have A2 := fun w' hm => S0 w' hm 2 (by omega)
            have A3 := fun w' hm => S0 w' hm 3 (by omega)
            have B0 := fun w' hm => T0 w' hm 0 (by omega)
            have B1 := fun w' hm => T0 w' hm 1 (by omega)
            have B2 := fun w' hm => T0 w' hm 2 (by omega)
            have B3 := fun w' hm => T0 w' hm 3 (by omega)
            clear S0 T0
            refine wp_region_noPanic ?_
            refine wp_region_held_drew (S := fun w' => Mod (fun x => x = w.heap.size + 1 + 1) wX w') (by kernel_rfl) ((Blw.refl wX).drew.mod _) (fun hB => ?_)
            have rC0 := rC.blw (Blw.refl wX).drew
            revert hB rC0
            generalize wX.drew = wY
            intro hB rC0
            refine wpAnyH_take (i := 0) (oi := { dst := some 69, op := Op.move (Operand.tmp 5), type := 3, pos := _, after := #[], guard := none }) (v := .int .i64 k) rfl (by kernel_rfl) (by kernel_rfl) (by kernel_rfl) (fun _ _ _ h => h) (Or.inl ⟨by rfl, fun w' hS => by (try dsimp only at hS); go_simp⟩) hB ?_
            simp only [Act.put, List.setIfInBounds_toArray, List.set_cons_zero, List.set_cons_succ]
            refine wpAnyH_take (i := 1) (oi := { dst := some 70, op := Op.move (Operand.tmp 5), type := 3, pos := _, after := #[{ on := 6, ground := Ground.gcOnly Departure.lateStores }], guard := none }) (v := .int .i64 k) rfl (by kernel_rfl) (by kernel_rfl) (by kernel_rfl) (fun _ _ _ h => h) (Or.inl ⟨by rfl, fun w' hS => by (try dsimp only at hS); go_simp⟩) hB ?_
            simp only [Act.put, List.setIfInBounds_toArray, List.set_cons_zero, List.set_cons_succ]
            refine wpAnyH_take (i := 2) (oi := { dst := some 71, op := Op.load 87 (Operand.tmp 6), type := 87, pos := _, after := #[], guard := none }) (v := .agg (four (v1 k))) rfl (by kernel_rfl) (by kernel_rfl) (by kernel_rfl) (fun _ _ _ h => h) (Or.inl ⟨by rfl, fun w' hS => by (try dsimp only at hS); go_simp⟩) hB ?_
            simp only [Act.put, List.setIfInBounds_toArray, List.set_cons_zero, List.set_cons_succ]
            refine wpAnyH_take (i := 3) (oi := { dst := some 72, op := Op.load 87 (Operand.tmp 8), type := 87, pos := _, after := #[{ on := 6, ground := Ground.gcOnly Departure.lateStores }], guard := none }) (v := .agg (four (v2 k))) rfl (by kernel_rfl) (by kernel_rfl) (by kernel_rfl) (fun _ _ _ h => h) (Or.inl ⟨by rfl, fun w' hS => by (try dsimp only at hS); go_simp⟩) hB ?_
            simp only [Act.put, List.setIfInBounds_toArray, List.set_cons_zero, List.set_cons_succ]
            refine wpAnyH_take (i := 4) (oi := { dst := some 73, op := Op.fieldAddr 91 (Operand.tmp 4) 0, type := 0, pos := _, after := #[], guard := none }) (v := .pointer (some ⟨w.heap.size + 1 + 1, 0, none⟩)) rfl (by kernel_rfl) (by kernel_rfl) (by kernel_rfl) (fun _ _ _ h => h) (Or.inl ⟨by rfl, fun w' hS => by (try dsimp only at hS); go_simp⟩) hB ?_
            simp only [Act.put, List.setIfInBounds_toArray, List.set_cons_zero, List.set_cons_succ]
            refine wpAnyH_take (i := 5) (oi := { dst := some 74, op := Op.indexAddr 88 (Operand.tmp 73) (Operand.tmp 69), type := 0, pos := _, after := #[{ on := 4, ground := Ground.data }, { on := 0, ground := Ground.data }, { on := 0, ground := Ground.phase }, { on := 1, ground := Ground.textOnly Departure.lateStores }, { on := 2, ground := Ground.phase }, { on := 3, ground := Ground.textOnly Departure.lateStores }], guard := none }) (v := .pointer (some ⟨w.heap.size + 1 + 1, k * 4, none⟩)) rfl (by kernel_rfl) (by kernel_rfl) (by kernel_rfl) (fun _ _ _ h => h) (Or.inl ⟨by rfl, fun w' hS => by (try dsimp only at hS); go_simp⟩) hB ?_
            simp only [Act.put, List.setIfInBounds_toArray, List.set_cons_zero, List.set_cons_succ]
            refine wpAnyH_take (i := 7) (oi := { dst := some 75, op := Op.fieldAddr 91 (Operand.tmp 4) 1, type := 0, pos := _, after := #[], guard := none }) (v := .pointer (some ⟨w.heap.size + 1 + 1, 48, none⟩)) rfl (by kernel_rfl) (by kernel_rfl) (by kernel_rfl) (fun _ _ _ h => h) (Or.inl ⟨by rfl, fun w' hS => by (try dsimp only at hS); go_simp⟩) hB ?_
            simp only [Act.put, List.setIfInBounds_toArray, List.set_cons_zero, List.set_cons_succ]
            refine wpAnyH_ready (rs := [6]) (by kernel_rfl) (by simp) ?_
            refine AllReadyH.cons (o := { dst := none, op := Op.store 87 (Operand.tmp 74) (Operand.tmp 71), type := 0, pos := _, after := #[{ on := 5, ground := Ground.data }, { on := 2, ground := Ground.data }, { on := 0, ground := Ground.phase }, { on := 1, ground := Ground.textOnly Departure.lateStores }, { on := 2, ground := Ground.phase }, { on := 3, ground := Ground.textOnly Departure.lateStores }], guard := none }) rfl (fun K hK => ?_) AllReadyH.nil
            rw [if_pos (by rfl)]
            refine wp_store_row 87 (.tmp 74) (.tmp 71) rfl (w.heap.size + 1 + 1) (k * 4) (four (v1 k)) rfl rfl 108 _ (fun t => .int .i64 (v1 k t)) rC0 (by show k * 4 + 4 ≤ 108; omega) info75 (one_four (v1 k)) (cell_four (v1 k)) ?_
            intro w6 rC6 hm6 hz6
            refine hK.out _ _ (hB.trans hm6) (fun hB6 => ?_)
            clear hK K
            try simp only [Act.put, List.setIfInBounds_toArray, List.set_cons_zero, List.set_cons_succ]
            refine wpAnyH_take (i := 8) (oi := { dst := some 76, op := Op.indexAddr 88 (Operand.tmp 75) (Operand.tmp 70), type := 0, pos := _, after := #[{ on := 7, ground := Ground.data }, { on := 1, ground := Ground.data }, { on := 0, ground := Ground.phase }, { on := 1, ground := Ground.phase }, { on := 2, ground := Ground.phase }, { on := 3, ground := Ground.phase }, { on := 4, ground := Ground.phase }, { on := 5, ground := Ground.phase }, { on := 6, ground := Ground.phase }], guard := none }) (v := .pointer (some ⟨w.heap.size + 1 + 1, 48 + k * 4, none⟩)) rfl (by kernel_rfl) (by kernel_rfl) (by kernel_rfl) (fun _ _ _ h => h) (Or.inl ⟨by rfl, fun w' hS => by (try dsimp only at hS); go_simp⟩) hB6 ?_
            simp only [Act.put, List.setIfInBounds_toArray, List.set_cons_zero, List.set_cons_succ]
            refine wpAnyH_ready (rs := [9]) (by kernel_rfl) (by simp) ?_
            refine AllReadyH.cons (o := { dst := none, op := Op.store 87 (Operand.tmp 76) (Operand.tmp 72), type := 0, pos := _, after := #[{ on := 8, ground := Ground.data }, { on := 3, ground := Ground.data }, { on := 6, ground := Ground.chain }, { on := 0, ground := Ground.phase }, { on := 1, ground := Ground.phase }, { on := 2, ground := Ground.phase }, { on := 3, ground := Ground.phase }, { on := 4, ground := Ground.phase }, { on := 5, ground := Ground.phase }, { on := 6, ground := Ground.phase }], guard := none }) rfl (fun K hK => ?_) AllReadyH.nil
            rw [if_pos (by rfl)]
            refine wp_store_row 87 (.tmp 76) (.tmp 72) rfl (w.heap.size + 1 + 1) (48 + k * 4) (four (v2 k)) rfl rfl 108 _ (fun t => .int .i64 (v2 k t)) rC6 (by show 48 + k * 4 + 4 ≤ 108; omega) info75 (one_four (v2 k)) (cell_four (v2 k)) ?_
            intro w9 rC9 hm9 hz9
            refine hK.out _ _ (hB6.trans hm9) (fun hB9 => ?_)
            clear hK K
            try simp only [Act.put, List.setIfInBounds_toArray, List.set_cons_zero, List.set_cons_succ]
            refine wpAnyH_done (by kernel_rfl) ?_ _
            refine NoPanic.normal ?_
            clear A0 A1 A2 A3 B0 B1 B2 B3
            have GN := holding_step hbX rbx rrs rC9 hB9 hlt
            clear hbX rbx rrs rC rC0 rC6 rC9 hm6 hm9 hB9 hB6 hB rS' rT
            go_wp2
            go_roundw
            case rel => exact ⟨k + 1, by omega, by go_num, fun j hj => by
              by_cases e : j = k
              · subst e; exact SAME.out
              · exact HOK.out j (by omega), GN⟩
            case measure => simp [intOf]; omega
        · have NG : Hid (¬ MD.Good ⟨12, 12, 12, l1, l2, v1, v2, dd⟩) := fun g => bad2 (g.ok k hlt).b
          have rz := G.res.blw (HB2.alloc (.cells z4 87))
          have hbz := G.blw.trans (HB2.alloc (.cells z4 87))
          clear bad2 ok1 G hbS hb2 HB2 rS
          go_wp2_with (first | (refine wpList_build79 rfl rfl ?_) | (refine wpList_store_row rfl 91 (.tmp 2) (.tmp 57) rfl (w.heap.size + 1) 0 Try.zeroCells91 rfl rfl 108 _ (hcell zeros zeros (fun _ => false)) rz (by rw [size79]; omega) (by rw [size79]; exact info79) one79 cell79 ?_; intro wz qz1 qz2 qz3))
          refine bodyPost_ret (v := .tuple #[.agg Try.zeroCells91, .bool false]) (results53 (zero_row (by assumption)) rfl rfl size79 (by rw [← size79]; exact cell79)) rfl ⟨Or.inr ⟨NG.out, rfl⟩, Mod.blw hbz (by assumption) (fun i hi => by omega)⟩
      · have NG : Hid (¬ MD.Good ⟨12, 12, 12, l1, l2, v1, v2, dd⟩) := fun g => bad1 (g.ok k hlt).a
        have rz := G.res.blw (hb1.alloc (.cells z4 87))
        have hbz := G.blw.trans (hb1.alloc (.cells z4 87))
        clear bad1 G hb1 q0 g1
        go_wp2_with (first | (refine wpList_build79 rfl rfl ?_) | (refine wpList_store_row rfl 91 (.tmp 2) (.tmp 45) rfl (w.heap.size + 1) 0 Try.zeroCells91 rfl rfl 108 _ (hcell zeros zeros (fun _ => false)) rz (by rw [size79]; omega) (by rw [size79]; exact info79) one79 cell79 ?_; intro wz qz1 qz2 qz3))
        refine bodyPost_ret (v := .tuple #[.agg Try.zeroCells91, .bool false]) (results53 (zero_row (by assumption)) rfl rfl size79 (by rw [← size79]; exact cell79)) rfl ⟨Or.inr ⟨NG.out, rfl⟩, Mod.blw hbz (by assumption) (fun i hi => by omega)⟩
    · obtain rfl : k = 12 := by omega
      obtain ⟨cs, z1, z2, z3⟩ := part_of (o := 0) (m := 108) 91 (full_row G.cur) (by omega) info79
      have rng := z3 wr (Blw.refl _)
      have hlen : cs.length = 108 := by rw [info79] at z1; simpa using z1.symm
      have one : cs.toArray.all (·.oneCell') = true := one_cells hlen z2
      have hbz := G.blw
      have rz := G.res
      have HGD : Hid (MD.Good ⟨12, 12, 12, l1, l2, v1, v2, dd⟩) := ⟨rfl, rfl, rfl, hok⟩
      clear hok G z3
      go_wp2_with (first | (refine wpList_load_mid rfl 91 (.tmp 4) rfl (w.heap.size + 1 + 1) 0 rfl cs _ rng Try.underlying91 rfl z1 ?_) | (refine wpList_store_row rfl 91 (.tmp 2) (.tmp 78) rfl (w.heap.size + 1) 0 cs.toArray rfl rfl 108 _ (hcell v1 v2 dd) rz (by simp [hlen]) (by simpa using z1) one (fun j hj => by rw [z2 j (by simpa [hlen] using hj), Nat.zero_add]) ?_; intro wz qz1 qz2 qz3))
      refine bodyPost_ret (v := .tuple #[.agg cs.toArray, .bool true]) (results53 (whole_row hlen (by assumption)) rfl rfl (by simpa using hlen) (fun j hj => by rw [z2 j hj, Nat.zero_add])) rfl ⟨Or.inl ⟨HGD.out, cs.toArray, by simpa using hlen, fun j hj => by rw [z2 j hj, Nat.zero_add], rfl⟩, Mod.blw hbz (by assumption) (fun i hi => by omega)⟩
/-- What holdMemory answers, whatever the memory. -/
theorem holdMemory_any (m : MV) (M : MD) (Y : Nat → Prop) (w : World) (h : MemAt Y w m M) :
    Calls Try.prog 63 #[m.val M] w fun e w' => ((M.Good ∧ ∃ cs : Array Value, cs.size = 108 ∧ (∀ i, i < 108 → cs[i]? = some (hcell M.v1 M.v2 M.d i)) ∧ e = .returned (.tuple #[.agg cs, .bool true])) ∨ (¬ M.Good ∧ e = .returned (.tuple #[.agg Try.zeroCells91, .bool false]))) ∧ Blw w w' := by
  by_cases hn : M.n1 = 12 ∧ M.n2 = 12 ∧ M.n3 = 12
  · exact holdMemory_full m M Y w h hn.1 hn.2.1 hn.2.2
  · exact (holdMemory_short m M Y w h hn).mono fun e w' ⟨he, hb⟩ => ⟨Or.inr ⟨fun g => hn ⟨g.n1, g.n2, g.n3⟩, he⟩, hb⟩
end Go.Proofs.Ytglllnklcnlcjaa
