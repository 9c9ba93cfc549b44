/- Great values: the held wheel laid, read, stored as a whole. -/
import Derived.Test.YtkmkidahaagbpaaEqr
import Derived.Test.YtkmkidahaagbpaaTk
import Derived.Deep.MidRow
import Derived.Laws.ResultCell
import Derived.Great.BuildSlice
namespace Go.Proofs.Ytkmkidahaagbpaa
open Go.RowKit
set_option linter.unusedSimpArgs false
set_option linter.unusedVariables false
def lst (n : Nat) (f : Nat → Value) : List Value := (List.range n).map f
theorem lst_len (n : Nat) (f : Nat → Value) : (lst n f).length = n := by simp [lst]
theorem lst_get {n : Nat} {f : Nat → Value} {i : Nat} (h : i < n) : (lst n f)[i]? = some (f i) := by simp [lst, h]
theorem lst_one {n : Nat} {f : Nat → Value} (h : ∀ i, i < n → (f i).oneCell' = true) : (lst n f).toArray.all (·.oneCell') = true := all_oneCell_toArray (by
  intro v hv
  obtain ⟨i, hi, rfl⟩ := List.mem_map.1 hv
  exact h i (List.mem_range.1 hi))
/-- A type of n cells, that is read and stored as a whole. -/
structure Wd (T : TypeId) (n : Nat) : Prop where
  ex : ∃ d, Try.prog.underlying T = some d ∧ d.isRow = true
  size : (Try.prog.info? T).map (·.size) = some n
/-- Cells at a place of a block. -/
def Cells (w : World) (b o n : Nat) (f : Nat → Value) : Prop := ∀ i, i < n → w.cell? ⟨b, o + i, none⟩ = some (f i) ∧ w.frozen? ⟨b, o + i, none⟩ = false
theorem Row.cells {w : World} {b n : Nat} {f : Nat → Value} (h : Row w b n f) : Cells w b 0 n f := fun i hi => by rw [Nat.zero_add]; exact ⟨h.cell hi, h.frozen i⟩
theorem Row.cellsAt {w : World} {b n : Nat} {f g : Nat → Value} (h : Row w b n f) (o m : Nat) (hm : o + m ≤ n) (he : ∀ i, i < m → f (o + i) = g i) : Cells w b o m g := fun i hi => ⟨by rw [h.cell (by omega), he i hi], h.frozen _⟩
theorem Cells.blw {w w' : World} {b o n : Nat} {f : Nat → Value} (h : Cells w b o n f) (hb : Blw w w') : Cells w' b o n f := fun i hi => ⟨hb.cell (h i hi).1, by rw [hb.frozen (p := ⟨b, o + i, none⟩) (World.block_lt_of_cell? _ _ (h i hi).1)]; exact (h i hi).2⟩
theorem Cells.range {w : World} {b o n : Nat} {f : Nat → Value} (h : Cells w b o n f) : w.rangeAt b o (lst n f) := fun j v hv => by
  have hj : j < n := by have := (List.getElem?_eq_some_iff.1 hv).1; rwa [lst_len] at this
  rw [lst_get hj] at hv
  cases hv
  exact (h j hj).1
theorem load_big {ops : Array Oper} {rest : List Oper} {o : Oper} {a : Act} {w : World} {Q : Exit → Act → World → Prop} (hg : o.guard = none) (T : TypeId) (x : Operand) (ho : o.op = .load T x) (b off n : Nat) (hx : a.eval x = .pointer (some ⟨b, off, none⟩)) (f : Nat → Value) (hT : Wd T n) (hc : Cells w b off n f)
    (h : wpList Try.prog ops Q rest (a.put o.dst (.agg (lst n f).toArray)) w) : wpList Try.prog ops Q (o :: rest) a w := by
  obtain ⟨d, hu, hd⟩ := hT.ex
  exact wpList_load_mid hg T x ho b off hx (lst n f) d hc.range hu hd (by rw [lst_len]; exact hT.size) h
theorem run_load_big {w : World} {T : TypeId} {b off n : Nat} {f : Nat → Value} (hT : Wd T n) (hc : Cells w b off n f) : (loadVar T ⟨b, off, none⟩).run Try.prog w = .ok (.agg (lst n f).toArray) w := by
  obtain ⟨d, hu, hd⟩ := hT.ex
  exact run_loadVar_mid w b off T (lst n f) d hc.range hu hd (by rw [lst_len]; exact hT.size)
/-- Many cells of a block are set. -/
theorem setCells_row {w : World} {b n : Nat} {f g : Nat → Value} (h : Row w b n g) : Row (w.setCells b 0 (lst n f)) b n f ∧ Mod (fun x => x = b) w (w.setCells b 0 (lst n f)) ∧ (w.setCells b 0 (lst n f)).heap.size = w.heap.size := by
  suffices H : ∀ (m k : Nat) (w : World) (g : Nat → Value), k + m = n → Row w b n g → Row (w.setCells b k ((List.range' k m).map f)) b n (fun i => if k ≤ i then f i else g i) ∧ Mod (fun x => x = b) w (w.setCells b k ((List.range' k m).map f)) ∧ (w.setCells b k ((List.range' k m).map f)).heap.size = w.heap.size by
    have := H n 0 w g (by omega) h
    rw [← List.range_eq_range'] at this
    exact ⟨this.1.congr (fun i hi => by simp), this.2⟩
  intro m
  induction m with
  | zero =>
    intro k w g hk h
    refine ⟨h.congr (fun i hi => by rw [if_neg (by omega)]), Mod.refl _ _, rfl⟩
  | succ m ih =>
    intro k w g hk h
    have hm : Mod (fun x => x = b) w (w.setCell ⟨b, k, none⟩ (f k)) := Mod.setCell (X := fun x => x = b) _ (p := ⟨b, k, none⟩) rfl _
    obtain ⟨h1, h2, h3⟩ := ih (k + 1) (w.setCell ⟨b, k, none⟩ (f k)) _ (by omega) (h.set k (f k))
    rw [List.range'_succ, List.map_cons, World.setCells]
    refine ⟨h1.congr (fun i hi => ?_), hm.trans h2, h3.trans (by simp [World.setCell])⟩
    by_cases e : k + 1 ≤ i
    · rw [if_pos e, if_pos (by omega)]
    · by_cases e2 : i = k
      · subst e2; simp
      · rw [if_neg e, if_neg e2, if_neg (by omega)]
theorem there_of {w : World} {b n : Nat} {g : Nat → Value} (h : Row w b n g) : w.there b 0 n := fun j hj => by rw [Nat.zero_add, h.cell hj]; exact ⟨rfl, h.frozen j⟩
theorem store_big {ops : Array Oper} {rest : List Oper} {o : Oper} {a : Act} {w : World} {Q : Exit → Act → World → Prop} (hgd : o.guard = none) (T : TypeId) (x y : Operand) (ho : o.op = .store T x y) (b n : Nat) (f g : Nat → Value)
    (hx : a.eval x = .pointer (some ⟨b, 0, none⟩)) (hy : a.eval y = .agg (lst n f).toArray) (hT : Wd T n) (hr : Row w b n g) (h1 : ∀ i, i < n → (f i).oneCell' = true)
    (h : ∀ w', Row w' b n f → Mod (fun x => x = b) w w' → w'.heap.size = w.heap.size → wpList Try.prog ops Q rest (a.put o.dst undef) w') : wpList Try.prog ops Q (o :: rest) a w := by
  have hs : (lst n f).toArray.size = n := by simp [lst]
  refine wpList_store_mid hgd T x y ho b 0 (lst n f).toArray hx hy (by rw [hs]; exact there_of hr) (by rw [hs]; exact hT.size) (lst_one h1) ?_
  obtain ⟨k1, k2, k3⟩ := setCells_row (f := f) hr
  exact h _ k1 k2 k3
theorem alloc_big {ops : Array Oper} {rest : List Oper} {o : Oper} {a : Act} {w : World} {Q : Exit → Act → World → Prop} (hgd : o.guard = none) (T : TypeId) (ho : o.op = .alloc T) (n : Nat) (z : Nat → Value) (hz : ((Try.prog.info? T).bind (·.zero)).map Value.cells = some (lst n z).toArray)
    (h : ∀ w', Row w' w.heap.size n z → Blw w w' → w'.heap.size = w.heap.size + 1 → wpList Try.prog ops Q rest (a.put o.dst (.pointer (some ⟨w.heap.size, 0, none⟩))) w') : wpList Try.prog ops Q (o :: rest) a w := by
  refine wpList_plain hgd fun K hK => ?_
  have hrun : (Instr.alloc T true (.tuple #[])).run Try.prog w = .ok (.pointer (some ⟨w.heap.size, 0, none⟩)) (w.alloc (.cells (lst n z).toArray T)) := by
    cases hq : Try.prog.info? T with
    | none => simp [hq] at hz
    | some i =>
      cases hq2 : i.zero with
      | none => simp [hq, hq2] at hz
      | some v =>
        simp [hq, hq2] at hz
        simp [Instr.alloc, zeroValue, typeInfo, newVar, hq, hq2, go_sem]
        rw [← hz]
        rfl
  unfold Oper.wp execOp
  simp only [ho, Sem.run_bind, hrun, Result.andThen_ok]
  refine hK _ _ (h _ ?_ ((Blw.refl _).alloc _) (by simp))
  exact ⟨_, T, heap_alloc_new _ _, by simp [lst], fun i hi => by simp [lst, hi]⟩
abbrev noP : Nat → Option Addr := fun _ => none
abbrev noC : Nat → Nat := fun _ => 0
abbrev hz0 : Nat → Value := hcell 0 noR noP noC
theorem hcell_one (now : Int) (R : Rws) (P : Nat → Option Addr) (C : Nat → Nat) (i : Nat) : (hcell now R P C i).oneCell' = true := by
  unfold hcell; split <;> rfl
theorem wdH : Wd 71 17 := ⟨⟨_, Try.underlying71, rfl⟩, by kernel_rfl⟩
theorem zeroH : ((Try.prog.info? 71).bind (·.zero)).map Value.cells = some (lst 17 hz0).toArray := by kernel_rfl
/-- The value of a held wheel. -/
abbrev hval (now : Int) (R : Rws) (P : Nat → Option Addr) (C : Nat → Nat) : Value := .agg (lst 17 (hcell now R P C)).toArray
theorem step_load_big {ops : Array Oper} {o : Oper} {a : Act} {w : World} {K : Act → World → Prop} {Q : Exit → Act → World → Prop} {E : Prop} (hg : o.guard = none) (T : TypeId) (x : Operand) (ho : o.op = .load T x) (b off n : Nat) (hx : a.eval x = .pointer (some ⟨b, off, none⟩)) (f : Nat → Value) (hT : Wd T n) (hc : Cells w b off n f)
    (h : K (a.put o.dst (.agg (lst n f).toArray)) w) : if Region.wanted o (yielded ops a.tmps) = true then Oper.wp Try.prog o a w K Q else E := by
  have hw : Region.wanted o (yielded ops a.tmps) = true := by simp [Region.wanted, hg]
  rw [if_pos hw]
  obtain ⟨d, hu, hd⟩ := hT.ex
  exact wp_load_mid T x ho b off hx (lst n f) d hc.range hu hd (by rw [lst_len]; exact hT.size) h
theorem step_store_big {ops : Array Oper} {o : Oper} {a : Act} {w : World} {K : Act → World → Prop} {Q : Exit → Act → World → Prop} {E : Prop} (hgd : o.guard = none) (T : TypeId) (x y : Operand) (ho : o.op = .store T x y) (b n : Nat) (f g : Nat → Value)
    (hx : a.eval x = .pointer (some ⟨b, 0, none⟩)) (hy : a.eval y = .agg (lst n f).toArray) (hT : Wd T n) (hr : Row w b n g) (h1 : ∀ i, i < n → (f i).oneCell' = true)
    (h : ∀ w', Row w' b n f → Mod (fun x => x = b) w w' → w'.heap.size = w.heap.size → K (a.put o.dst undef) w') : if Region.wanted o (yielded ops a.tmps) = true then Oper.wp Try.prog o a w K Q else E := by
  have hw : Region.wanted o (yielded ops a.tmps) = true := by simp [Region.wanted, hgd]
  rw [if_pos hw]
  have hs : (lst n f).toArray.size = n := by simp [lst]
  refine wp_store_mid T x y ho b 0 (lst n f).toArray hx hy (by rw [hs]; exact there_of hr) (by rw [hs]; exact hT.size) (lst_one h1) ?_
  obtain ⟨k1, k2, k3⟩ := setCells_row (f := f) hr
  exact h _ k1 k2 k3
/-- The rows of a held wheel that stands in no box. -/
structure HR (lo : Nat) (R : Rws) (P : Nat → Option Addr) (C : Nat → Nat) (w : World) : Prop where
  buf : ∀ k, k < 16 → BufU (fun b => P k = some ⟨b, 0, none⟩) w (.slice (P k) (R k).length (C k)) (R k).length (lf (R k)) (la (R k))
  lo : ∀ k b, k < 16 → P k = some ⟨b, 0, none⟩ → lo ≤ b
  dis : ∀ k k' b, k < 16 → k' < 16 → k ≠ k' → P k = some ⟨b, 0, none⟩ → P k' ≠ some ⟨b, 0, none⟩
theorem HW.hr {lo z : Nat} {now : Int} {R : Rws} {P : Nat → Option Addr} {C : Nat → Nat} {w : World} (h : HW lo z now R P C w) : HR lo R P C w := ⟨h.buf, fun k b hk e => (h.lo k b hk e).1, h.dis⟩
theorem HR.blw {lo : Nat} {R : Rws} {P : Nat → Option Addr} {C : Nat → Nat} {w w' : World} (h : HR lo R P C w) (hb : Blw w w') : HR lo R P C w' := ⟨fun k hk => (h.buf k hk).blw hb, h.lo, h.dis⟩
theorem HR.mod {lo : Nat} {R : Rws} {P : Nat → Option Addr} {C : Nat → Nat} {w w' : World} {Z : Nat → Prop} (h : HR lo R P C w) (hm : Mod Z w w') (hP : ∀ k b, k < 16 → P k = some ⟨b, 0, none⟩ → ¬ Z b) : HR lo R P C w' := ⟨fun k hk => (h.buf k hk).mod hm (fun b hb => hP k b hk hb), h.lo, h.dis⟩
theorem HR.lt {lo : Nat} {R : Rws} {P : Nat → Option Addr} {C : Nat → Nat} {w : World} (h : HR lo R P C w) {k b : Nat} (hk : k < 16) (e : P k = some ⟨b, 0, none⟩) : b < w.heap.size := buf_lt (h.buf k hk) e
theorem HR.box {lo z : Nat} {now : Int} {R : Rws} {P : Nat → Option Addr} {C : Nat → Nat} {w : World} (h : HR lo R P C w) (hz : ∀ k b, k < 16 → P k = some ⟨b, 0, none⟩ → b ≠ z) (hr : Row w z 17 (hcell now R P C)) : HW lo z now R P C w := ⟨hr, h.buf, fun k b hk e => ⟨h.lo k b hk e, hz k b hk e⟩, h.dis⟩
theorem HR.none (lo : Nat) (w : World) : HR lo noR noP noC w := ⟨fun k _ => Buf.nil _ _ _ _ _, (fun _ _ _ e => by cases e), (fun _ _ _ _ _ _ e => by cases e)⟩
end Go.Proofs.Ytkmkidahaagbpaa
