/- Copies between rows, and arrays read as values, by functions of the index. -/
import Derived.Test.YtglllnklcnlcjaaBase
import Derived.Laws.CopyOwn
namespace Go.Proofs.Ytglllnklcnlcjaa
open Go.RowKit

theorem Row.of_cells {w : World} {b : Nat} {c : Array Value} {t : TypeId} (h : w.heap[b]? = some (.cells c t (0, 0))) (f : Nat → Value) (hf : ∀ i, i < c.size → c[i]? = some (f i)) : Row w b c.size f := ⟨c, t, h, Nat.le_refl _, hf⟩

theorem run_copy_fn {P : Program} (w : World) (dT sT ty elem : TypeId) (b o dLen dCap : Nat) (a : Addr) (sLen sCap m : Nat) (g : Nat → Value) (n : Nat) (f : Nat → Value)
    (hu : P.underlying dT = some (.slice elem)) (hs : (P.info? elem).map (·.size) = some 1) (hm : m = Nat.min sLen dLen)
    (hsrc : ∀ j, j < m → w.cell? (a.add j) = some (g j)) (h1 : ∀ j, j < m → (g j).oneCell' = true) (hrow : Row w b n f) (hfit : o + m ≤ n) :
    ∃ w', (Builtin.copy_ #[dT, sT] ty #[.slice (some ⟨b, o, none⟩) dLen dCap, .slice (some a) sLen sCap]).run P w = .ok (goInt m) w' ∧
      Row w' b n (fun i => if o ≤ i ∧ i < o + m then g (i - o) else f i) ∧ Mod (fun x => x = b) w w' ∧ w'.heap.size = w.heap.size := by
  obtain ⟨cur, t, hb, hn, hc⟩ := hrow
  have hl : ((List.range m).map g).length = m := by simp
  have hrun := run_copy_row (P := P) w dT sT ty elem b o dLen dCap a sLen sCap cur t ((List.range m).map g) hu hs hb (by rw [hl]; exact hm)
    (fun j v hv => by
      have hj : j < m := by
        have := (List.getElem?_eq_some_iff.1 hv).1
        omega
      rw [hsrc j hj]
      simpa [hj] using hv) (by rw [hl]; omega) (fun v hv => by
      obtain ⟨j, hj, rfl⟩ := List.mem_map.1 hv
      exact h1 j (List.mem_range.1 hj))
  rw [hl] at hrun
  refine ⟨_, hrun, ⟨_, t, setRow_heap w b _ _ t _ hb, ?_, fun i hi => ?_⟩, ⟨rfl, rfl, rfl, by simp [World.setRow], fun k _ hk => setRow_other w b k _ hk⟩, by simp [World.setRow]⟩
  · simp; omega
  · simp only [List.getElem?_toArray]
    have hlen : (cur.toList.take o).length = o := by simp; omega
    by_cases h2 : i < o
    · have h3 : ¬ (o ≤ i ∧ i < o + m) := by omega
      rw [if_neg h3, List.append_assoc, List.getElem?_append_left (by omega), List.getElem?_take, if_pos h2]
      simpa using hc i hi
    · by_cases h3 : i < o + m
      · rw [if_pos ⟨by omega, h3⟩, List.append_assoc, List.getElem?_append_right (by omega), hlen, List.getElem?_append_left (by simp; omega), List.getElem?_map, List.getElem?_range (by omega)]
        rfl
      · rw [if_neg (by omega), List.getElem?_append_right (by simp; omega)]
        simp only [List.length_append, hlen, hl, List.getElem?_drop]
        rw [show o + m + (i - (o + m)) = i by omega]
        simpa using hc i hi

/-- copy as one step of a region that draws its order. -/
theorem step_copy_fn {P : Program} {ops : Array Oper} {o : Oper} {a : Act} {w : World} {K : Act → World → Prop} {Q : Exit → Act → World → Prop} {E : Prop} (hgd : o.guard = none) (d s : Operand) (dT sT : TypeId)
    (ho : o.op = .call { callee := .builtin .copy, args := #[d, s], argTypes := #[dT, sT] }) (elem : TypeId) (hu : P.underlying dT = some (.slice elem)) (hsz : (P.info? elem).map (·.size) = some 1)
    (b off dLen dCap : Nat) (ad : Addr) (sLen sCap : Nat) (hd : a.eval d = .slice (some ⟨b, off, none⟩) dLen dCap) (hs : a.eval s = .slice (some ad) sLen sCap)
    (m : Nat) (g : Nat → Value) (n : Nat) (f : Nat → Value) (hm : m = Nat.min sLen dLen)
    (hsrc : ∀ j, j < m → w.cell? (ad.add j) = some (g j)) (h1 : ∀ j, j < m → (g j).oneCell' = true) (hrow : Row w b n f) (hfit : off + m ≤ n)
    (h : ∀ w', Row w' b n (fun i => if off ≤ i ∧ i < off + m then g (i - off) else f i) → Mod (fun x => x = b) w w' → w'.heap.size = w.heap.size → K (a.put o.dst (goInt m)) w') :
    if Region.wanted o (yielded ops a.tmps) = true then Oper.wp P o a w K Q else E := by
  have hw : Region.wanted o (yielded ops a.tmps) = true := by simp [Region.wanted, hgd]
  rw [if_pos hw]
  obtain ⟨w', hrun, h2, h3, h4⟩ := run_copy_fn (P := P) w dT sT o.type elem b off dLen dCap ad sLen sCap m g n f hu hsz hm hsrc h1 hrow hfit
  unfold Oper.wp
  simp [execOp, ho, resolve, invoke, builtin, hd, hs, hrun, Result.andThen]
  exact h _ h2 h3 h4

/-- copy as a law for a region that does not draw. -/
theorem wpList_copy_fn {P : Program} {w : World} {ops : Array Oper} {rest : List Oper} {o : Oper} {a : Act} {Q : Exit → Act → World → Prop} (hgd : o.guard = none) (d s : Operand) (dT sT : TypeId)
    (ho : o.op = .call { callee := .builtin .copy, args := #[d, s], argTypes := #[dT, sT] }) (elem : TypeId) (hu : P.underlying dT = some (.slice elem)) (hsz : (P.info? elem).map (·.size) = some 1)
    (b off dLen dCap : Nat) (ad : Addr) (sLen sCap : Nat) (hd : a.eval d = .slice (some ⟨b, off, none⟩) dLen dCap) (hs : a.eval s = .slice (some ad) sLen sCap)
    (m : Nat) (g : Nat → Value) (n : Nat) (f : Nat → Value) (hm : m = Nat.min sLen dLen)
    (hsrc : ∀ j, j < m → w.cell? (ad.add j) = some (g j)) (h1 : ∀ j, j < m → (g j).oneCell' = true) (hrow : Row w b n f) (hfit : off + m ≤ n)
    (h : ∀ w', Row w' b n (fun i => if off ≤ i ∧ i < off + m then g (i - off) else f i) → Mod (fun x => x = b) w w' → w'.heap.size = w.heap.size → wpList P ops Q rest (a.put o.dst (goInt m)) w') :
    wpList P ops Q (o :: rest) a w := by
  refine wpList_plain hgd fun K hK => ?_
  obtain ⟨w', hrun, h2, h3, h4⟩ := run_copy_fn (P := P) w dT sT o.type elem b off dLen dCap ad sLen sCap m g n f hu hsz hm hsrc h1 hrow hfit
  unfold Oper.wp
  simp [execOp, ho, resolve, invoke, builtin, hd, hs, hrun, Result.andThen]
  exact hK _ _ (h _ h2 h3 h4)
end Go.Proofs.Ytglllnklcnlcjaa
