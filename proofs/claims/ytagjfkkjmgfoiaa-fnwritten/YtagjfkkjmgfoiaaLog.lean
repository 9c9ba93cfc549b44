/- The map that keeps a log: what is found there, what a new entry, a removed one and a walk through it leave. -/
import Derived.Test.YtagjfkkjmgfoiaaBook
import Derived.Maps.RangeWalk
import Derived.Maps.OwnSet
namespace Go.Proofs.Ytagjfkkjmgfoiaa
open Go.RowKit Go.ChangeMaps
set_option linter.unusedSimpArgs false
def ent (lc lw : Nat → Int) (i : Nat) : MapEntry := { key := .int .i64 (lc i), val := .agg #[.int .i64 i, .int .i64 (lw i)], born := i }
def entsI (lc lw : Nat → Int) (ix : List Nat) : List MapEntry := ix.map (ent lc lw)
def ents (lc lw : Nat → Int) (k : Nat) : List MapEntry := entsI lc lw (List.range k)
/-- Block bm is the map of the k entries (cell, its turn, what it was), in their order. -/
def LogAt (w : World) (bm k : Nat) (lc lw : Nat → Int) : Prop := w.heap[bm]? = some (.map (ents lc lw k).toArray k)
theorem LogAt.lt {w : World} {bm k : Nat} {lc lw : Nat → Int} (h : LogAt w bm k lc lw) : bm < w.heap.size := (Array.getElem?_eq_some_iff.1 h).1
theorem LogAt.mod {X : Nat → Prop} {w w' : World} {bm k : Nat} {lc lw : Nat → Int} (h : LogAt w bm k lc lw) (hm : Mod X w w') (hx : ¬ X bm) : LogAt w' bm k lc lw := (hm.block _ h.lt hx).trans h
theorem LogAt.blw {w w' : World} {bm k : Nat} {lc lw : Nat → Int} (h : LogAt w bm k lc lw) (hb : Blw w w') : LogAt w' bm k lc lw := (hb.block _ h.lt).trans h
theorem LogAt.drew {w : World} {bm k : Nat} {lc lw : Nat → Int} (h : LogAt w bm k lc lw) : LogAt w.drew bm k lc lw := h
theorem LogAt.made (w : World) (lc lw : Nat → Int) : LogAt (w.alloc (.map #[] 0)) w.heap.size 0 lc lw := (MapKept.heap_alloc w _).1
theorem ents_key {lc lw : Nat → Int} {k : Nat} : ∀ x ∈ ents lc lw k, MapKept.IsKey (.int .i64) x.key := by
  intro x hx
  obtain ⟨i, -, rfl⟩ := List.mem_map.1 hx
  simp [ent, MapKept.IsKey]
theorem ents_get {lc lw : Nat → Int} {k i : Nat} (h : i < k) : (ents lc lw k)[i]? = some (ent lc lw i) := by
  simp [ents, entsI, h]
theorem ents_get' {lc lw : Nat → Int} {k j : Nat} {e : MapEntry} (h : (ents lc lw k)[j]? = some e) : j < k ∧ e = ent lc lw j := by
  by_cases hj : j < k
  · rw [ents_get hj] at h
    exact ⟨hj, (Option.some.inj h).symm⟩
  · simp [ents, entsI, hj] at h

theorem find_hit {lc lw : Nat → Int} {k i : Nat} (hi : i < k) (hd : distinct k lc) : Instr.findNow (.int .i64) (.int .i64 (lc i)) (ents lc lw k) 0 = some (some (i, (ent lc lw i).val)) := by
  rcases MapKept.findNow_spec (d := .int .i64) (k := .int .i64 (lc i)) (by simp [MapKept.IsKey]) (ents lc lw k) 0 ents_key with ⟨h1, h2⟩ | ⟨j, e, h1, h2, h3⟩
  · exact absurd rfl (h2 (ent lc lw i) (List.mem_of_getElem? (ents_get hi)))
  · obtain ⟨hj, rfl⟩ := ents_get' h2
    simp [ent] at h3
    obtain rfl := hd j i hj hi h3
    rw [h1]; simp
theorem find_miss {lc lw : Nat → Int} {k : Nat} {x : Int} (hx : ∀ i, i < k → lc i ≠ x) : Instr.findNow (.int .i64) (.int .i64 x) (ents lc lw k) 0 = some none := by
  rcases MapKept.findNow_spec (d := .int .i64) (k := .int .i64 x) (by simp [MapKept.IsKey]) (ents lc lw k) 0 ents_key with ⟨h1, h2⟩ | ⟨j, e, h1, h2, h3⟩
  · exact h1
  · obtain ⟨hj, rfl⟩ := ents_get' h2
    simp [ent] at h3
    exact absurd h3 (hx j hj)
theorem zero91 (w : World) : (zeroValue 91).run Try.prog w = .ok (.agg #[.int .i64 0, .int .i64 0]) w := by kernel_rfl
section
variable {w : World} {bm k : Nat} {lc lw : Nat → Int}
theorem LogAt.hit2 (h : LogAt w bm k lc lw) {i : Nat} (hi : i < k) (hd : distinct k lc) : (Instr.lookup 71 (.map (some bm)) (.int .i64 (lc i)) true).run Try.prog w = .ok (.tuple #[.agg #[.int .i64 i, .int .i64 (lw i)], .bool true]) w := by
  simp [Instr.lookup, run_underlying Try.underlying71, MapKept.run_getObj_map h, Result.andThen, MapKept.run_checkKey Try.underlying3 (k := .int .i64 (lc i)) (by simp [MapKept.IsKey]), MapKept.run_findKey Try.underlying3 (find_hit hi hd), ent]
theorem LogAt.hit1 (h : LogAt w bm k lc lw) {i : Nat} (hi : i < k) (hd : distinct k lc) : (Instr.lookup 71 (.map (some bm)) (.int .i64 (lc i)) false).run Try.prog w = .ok (.agg #[.int .i64 i, .int .i64 (lw i)]) w := by
  simp [Instr.lookup, run_underlying Try.underlying71, MapKept.run_getObj_map h, Result.andThen, MapKept.run_checkKey Try.underlying3 (k := .int .i64 (lc i)) (by simp [MapKept.IsKey]), MapKept.run_findKey Try.underlying3 (find_hit hi hd), ent]
theorem LogAt.miss2 (h : LogAt w bm k lc lw) {x : Int} (hx : ∀ i, i < k → lc i ≠ x) : (Instr.lookup 71 (.map (some bm)) (.int .i64 x) true).run Try.prog w = .ok (.tuple #[.agg #[.int .i64 0, .int .i64 0], .bool false]) w := by
  simp [Instr.lookup, run_underlying Try.underlying71, MapKept.run_getObj_map h, Result.andThen, MapKept.run_checkKey Try.underlying3 (k := .int .i64 x) (by simp [MapKept.IsKey]), MapKept.run_findKey Try.underlying3 (find_miss hx), zero91]
theorem LogAt.len (h : LogAt w bm k lc lw) (ty : TypeId) : (Builtin.len_ #[71] ty #[.map (some bm)]).run Try.prog w = .ok (.int .i64 k) w := by
  simp [Builtin.len_, run_underlying Try.underlying71, MapKept.run_getObj_map h, goInt, Result.andThen, ents, entsI]
end
/-- The log with one entry more. -/
def snoc {α : Type} (k : Nat) (f : Nat → α) (x : α) : Nat → α := fun i => if i = k then x else f i
theorem ents_snoc {lc lw : Nat → Int} {k : Nat} {x y : Int} : (ents lc lw k).toArray.push { key := .int .i64 x, val := .agg #[.int .i64 k, .int .i64 y], born := k } = (ents (snoc k lc x) (snoc k lw y) (k + 1)).toArray := by
  simp only [ents, entsI, List.range_succ, List.map_append, List.push_toArray, List.map_cons, List.map_nil]
  congr 2
  · apply List.map_congr_left
    intro i hi
    have : i ≠ k := by have := List.mem_range.1 hi; omega
    simp [ent, snoc, this]
  · simp [ent, snoc]
theorem LogAt.put {w : World} {bm k : Nat} {lc lw : Nat → Int} (h : LogAt w bm k lc lw) {x y : Int} (hx : ∀ i, i < k → lc i ≠ x) :
    ∃ w', (Instr.mapUpdate 71 (.map (some bm)) (.int .i64 x) (.agg #[.int .i64 k, .int .i64 y])).run Try.prog w = .ok () w' ∧ LogAt w' bm (k + 1) (snoc k lc x) (snoc k lw y) ∧ Mod (fun b => b = bm) w w' := by
  refine ⟨setBlock w bm (.map (ents (snoc k lc x) (snoc k lw y) (k + 1)).toArray (k + 1)), ?_, heap_setBlock_same h _, ⟨rfl, rfl, rfl, by simp [setBlock], fun i _ hi => heap_setBlock_other h _ hi⟩⟩
  simp only [Instr.mapUpdate, Sem.run_bind, run_underlying Try.underlying71, MapKept.run_getObj_map h, Result.andThen, MapKept.run_checkKey Try.underlying3 (k := .int .i64 x) (by simp [MapKept.IsKey]), MapKept.run_findKey Try.underlying3 (find_miss hx)]
  rw [MapKept.run_setObj_map _ h, ents_snoc]
  rfl

theorem eraseIdx_maps {α β : Type} (f : α → β) : ∀ (l : List α) (j : Nat), (l.map f).eraseIdx j = (l.eraseIdx j).map f
  | [], _ => rfl
  | a :: l, 0 => rfl
  | a :: l, j + 1 => by simp [eraseIdx_maps f l j]
theorem nodup_inj {l : List Nat} (h : l.Nodup) {i j : Nat} (hi : i < l.length) (hj : j < l.length) (e : l[i] = l[j]) : i = j := by
  have := List.pairwise_iff_getElem.1 h
  rcases Nat.lt_trichotomy i j with h1 | h1 | h1
  · exact absurd e (this i j hi hj h1)
  · exact h1
  · exact absurd e.symm (this j i hj hi h1)
/-- Block bm is the map of the entries ix, of c that were made. -/
def LogIx (w : World) (bm c : Nat) (lc lw : Nat → Int) (ix : List Nat) : Prop := w.heap[bm]? = some (.map (entsI lc lw ix).toArray c)
theorem LogAt.ix {w : World} {bm k : Nat} {lc lw : Nat → Int} (h : LogAt w bm k lc lw) : LogIx w bm k lc lw (List.range k) := h
theorem LogIx.lt {w : World} {bm k : Nat} {lc lw : Nat → Int} {ix : List Nat} (h : LogIx w bm k lc lw ix) : bm < w.heap.size := (Array.getElem?_eq_some_iff.1 h).1
theorem LogIx.mod {X : Nat → Prop} {w w' : World} {bm k : Nat} {lc lw : Nat → Int} {ix : List Nat} (h : LogIx w bm k lc lw ix) (hm : Mod X w w') (hx : ¬ X bm) : LogIx w' bm k lc lw ix := (hm.block _ h.lt hx).trans h
theorem LogIx.blw {w w' : World} {bm k : Nat} {lc lw : Nat → Int} {ix : List Nat} (h : LogIx w bm k lc lw ix) (hb : Blw w w') : LogIx w' bm k lc lw ix := (hb.block _ h.lt).trans h
theorem LogIx.len {w : World} {bm k : Nat} {lc lw : Nat → Int} {ix : List Nat} (h : LogIx w bm k lc lw ix) (ty : TypeId) : (Builtin.len_ #[71] ty #[.map (some bm)]).run Try.prog w = .ok (.int .i64 ix.length) w := by
  simp [Builtin.len_, run_underlying Try.underlying71, MapKept.run_getObj_map h, goInt, Result.andThen, entsI]
theorem LogIx.drop {w : World} {bm c k : Nat} {lc lw : Nat → Int} {ix : List Nat} (h : LogIx w bm c lc lw ix) {i : Nat} (hk : ∀ t ∈ ix, t < k) (hn : ix.Nodup) (hd : distinct k lc) (hi : i ∈ ix) (ty : TypeId) :
    ∃ w' ix', (Builtin.delete_ #[71, 3] ty #[.map (some bm), .int .i64 (lc i)]).run Try.prog w = .ok (.tuple #[]) w' ∧ LogIx w' bm c lc lw ix' ∧ ix'.Nodup ∧ (∀ t, t ∈ ix' ↔ t ∈ ix ∧ t ≠ i) ∧ Mod (fun b => b = bm) w w' := by
  have hkey : ∀ x ∈ entsI lc lw ix, MapKept.IsKey (.int .i64) x.key := by
    intro x hx
    obtain ⟨t, -, rfl⟩ := List.mem_map.1 hx
    simp [ent, MapKept.IsKey]
  rcases MapKept.findNow_spec (d := .int .i64) (k := .int .i64 (lc i)) (by simp [MapKept.IsKey]) (entsI lc lw ix) 0 hkey with ⟨h1, h2⟩ | ⟨j, e, h1, h2, h3⟩
  · exact absurd rfl (h2 (ent lc lw i) (List.mem_map_of_mem hi))
  · have hj : ∃ t, ix[j]? = some t ∧ e = ent lc lw t := by
      simp only [entsI, List.getElem?_map] at h2
      cases hx : ix[j]? with
      | none => simp [hx] at h2
      | some t => simp [hx] at h2; exact ⟨t, rfl, h2.symm⟩
    obtain ⟨t, ht, rfl⟩ := hj
    simp [ent] at h3
    have htm := List.mem_of_getElem? ht
    obtain rfl := hd t i (hk t htm) (hk i hi) h3
    obtain ⟨hjl, hje⟩ := List.getElem?_eq_some_iff.1 ht
    rw [Nat.zero_add] at h1
    refine ⟨setBlock w bm (.map (entsI lc lw (ix.eraseIdx j)).toArray c), ix.eraseIdx j, ?_, heap_setBlock_same h _, (List.eraseIdx_sublist ix j).nodup hn, ?_, ⟨rfl, rfl, rfl, by simp [setBlock], fun i _ hi => heap_setBlock_other h _ hi⟩⟩
    · have e1 : (entsI lc lw ix).toArray.eraseIdxIfInBounds j = (entsI lc lw (ix.eraseIdx j)).toArray := by
        have hs : j < (entsI lc lw ix).toArray.size := by simpa [entsI] using hjl
        simp [Array.eraseIdxIfInBounds, hjl, entsI, eraseIdx_maps]
      simp only [Builtin.delete_, Sem.run_bind, run_underlying Try.underlying71, MapKept.run_getObj_map h, Result.andThen, MapKept.run_checkKey Try.underlying3 (k := .int .i64 (lc t)) (by simp [MapKept.IsKey]), MapKept.run_findKey Try.underlying3 h1, List.getElem?_toArray, List.getElem?_cons_zero, List.getElem?_cons_succ]
      rw [MapKept.run_setObj_map _ h, e1]
      rfl
    · intro s
      rw [List.mem_eraseIdx_iff_getElem]
      constructor
      · rintro ⟨q, hq, hne, rfl⟩
        refine ⟨List.getElem_mem _, fun he => hne ?_⟩
        exact nodup_inj hn hq hjl (he.trans hje.symm)
      · rintro ⟨hs, hne⟩
        obtain ⟨q, hq, rfl⟩ := List.getElem_of_mem hs
        exact ⟨q, hq, fun e => hne (by subst e; exact hje), rfl⟩
/-- Block r goes through the map at bm; seen: what it has told. -/
structure Iter (w : World) (bm r c : Nat) (lc lw : Nat → Int) (ix seen : List Nat) : Prop where
  map : LogIx w bm c lc lw ix
  it : w.heap[r]? = some (.mapIter (some bm) c seen.toArray c)
theorem Iter.lt {w : World} {bm r c : Nat} {lc lw : Nat → Int} {ix seen : List Nat} (h : Iter w bm r c lc lw ix seen) : r < w.heap.size := (Array.getElem?_eq_some_iff.1 h.it).1
theorem Iter.mod {X : Nat → Prop} {w w' : World} {bm r c : Nat} {lc lw : Nat → Int} {ix seen : List Nat} (h : Iter w bm r c lc lw ix seen) (hm : Mod X w w') (h1 : ¬ X bm) (h2 : ¬ X r) : Iter w' bm r c lc lw ix seen := ⟨h.map.mod hm h1, (hm.block _ h.lt h2).trans h.it⟩
theorem Iter.blw {w w' : World} {bm r c : Nat} {lc lw : Nat → Int} {ix seen : List Nat} (h : Iter w bm r c lc lw ix seen) (hb : Blw w w') : Iter w' bm r c lc lw ix seen := ⟨h.map.blw hb, (hb.block _ h.lt).trans h.it⟩
theorem LogIx.range {w : World} {bm c : Nat} {lc lw : Nat → Int} {ix : List Nat} (h : LogIx w bm c lc lw ix) :
    (Instr.range 71 (.map (some bm))).run Try.prog w = .ok (.pointer (some ⟨w.heap.size, 0, none⟩)) (w.alloc (.mapIter (some bm) c #[] c)) ∧ Iter (w.alloc (.mapIter (some bm) c #[] c)) bm w.heap.size c lc lw ix [] := by
  refine ⟨?_, h.blw ((Blw.refl _).alloc _), (MapKept.heap_alloc w _).1⟩
  simp [Instr.range, run_underlying Try.underlying71, MapKept.run_getObj_map h, Result.andThen]
theorem Iter.next {w : World} {bm r c : Nat} {lc lw : Nat → Int} {ix seen : List Nat} (h : Iter w bm r c lc lw ix seen) (hc : ∀ t ∈ ix, t < c) (hn : ix.Nodup) (hr : r ≠ bm) (ty : TypeId) :
    ((∀ t ∈ ix, t ∈ seen) ∧ (Instr.next (.pointer (some ⟨r, 0, none⟩)) false ty).run Try.prog w = .ok (.tuple #[.bool false]) w) ∨
    ∃ i w', i ∈ ix ∧ i ∉ seen ∧ (Instr.next (.pointer (some ⟨r, 0, none⟩)) false ty).run Try.prog w = .ok (.tuple #[.bool true, .int .i64 (lc i), .agg #[.int .i64 i, .int .i64 (lw i)]]) w' ∧ Iter w' bm r c lc lw ix (seen ++ [i]) ∧ Mod (fun b => b = r) w w' ∧
      (Instr.entry (.pointer (some ⟨r, 0, none⟩))).run Try.prog w' = .ok (.tuple #[.int .i64 (lc i), .agg #[.int .i64 i, .int .i64 (lw i)]]) w' := by
  have hold : ∀ x ∈ (entsI lc lw ix).toArray.toList, x.born < c := by
    intro x hx
    obtain ⟨t, ht, rfl⟩ := List.mem_map.1 (by simpa [entsI] using hx)
    exact hc t ht
  rcases run_next_at (P := Try.prog) w ty r bm c c seen.toArray (entsI lc lw ix).toArray c h.it h.map hold (Nat.le_refl _) with ⟨h0, hrun⟩ | ⟨e, he, w1, hw1, hrun⟩
  · left
    refine ⟨fun t ht => ?_, hrun⟩
    have : leftOf (entsI lc lw ix).toArray seen.toArray = #[] := Array.eq_empty_of_size_eq_zero h0
    unfold leftOf at this
    rw [Array.filter_eq_empty_iff] at this
    have := this (ent lc lw t) (by simp [entsI]; exact ⟨t, ht, rfl⟩)
    simpa [ent] using this
  · right
    obtain ⟨he1, he2⟩ := mem_left he
    obtain ⟨i, hi, rfl⟩ := List.mem_map.1 (by simpa [entsI] using he1)
    have hmd : Mod (fun b => b = r) w (setBlock w1 r (.mapIter (some bm) c (seen.toArray.push i) c)) := by
      rcases hw1 with rfl | rfl
      · exact ⟨rfl, rfl, rfl, by simp [setBlock], fun j _ hj => by simp [setBlock, Ne.symm hj]⟩
      · exact ⟨rfl, rfl, rfl, by simp [setBlock], fun j _ hj => by simp [setBlock, Ne.symm hj]; rfl⟩
    have hlt := h.lt
    have hit : (setBlock w1 r (.mapIter (some bm) c (seen.toArray.push i) c)).heap[r]? = some (.mapIter (some bm) c (seen.toArray.push i) c) := by
      rcases hw1 with rfl | rfl <;> simp [setBlock, hlt]
    have hmp := h.map.mod hmd (fun e => hr e.symm)
    refine ⟨i, _, hi, by simpa [ent] using he2, hrun, ⟨hmp, by simpa [ent] using hit⟩, hmd, ?_⟩
    exact run_entry_at _ r bm c seen.toArray (entsI lc lw ix).toArray c (ent lc lw i) hit hmp (by simpa [entsI] using ⟨i, hi, rfl⟩) (by
      have : ((entsI lc lw ix).toArray.toList.map (·.born)) = ix := by simp [entsI, ent, Function.comp_def]
      rw [this]; exact hn)
section
variable {w : World} {ops : Array Oper} {rest : List Oper} {o : Oper} {a : Act} {Q : Exit → Act → World → Prop} {bm r c : Nat} {lc lw : Nat → Int} {ix seen : List Nat}
theorem wpList_next_log (hg : o.guard = none) (it : Operand) (hop : o.op = Op.next it false) (hit : a.eval it = .pointer (some ⟨r, 0, none⟩)) (h : Iter w bm r c lc lw ix seen) (hc : ∀ t ∈ ix, t < c) (hn : ix.Nodup) (hr : r ≠ bm)
    (hDone : (∀ t ∈ ix, t ∈ seen) → wpList Try.prog ops Q rest (a.put o.dst (.tuple #[.bool false])) w)
    (hMore : ∀ i w', i ∈ ix → i ∉ seen → Iter w' bm r c lc lw ix (seen ++ [i]) → Mod (fun b => b = r) w w' → (Instr.entry (.pointer (some ⟨r, 0, none⟩))).run Try.prog w' = .ok (.tuple #[.int .i64 (lc i), .agg #[.int .i64 i, .int .i64 (lw i)]]) w' →
      wpList Try.prog ops Q rest (a.put o.dst (.tuple #[.bool true, .int .i64 (lc i), .agg #[.int .i64 i, .int .i64 (lw i)]])) w') :
    wpList Try.prog ops Q (o :: rest) a w := by
  refine wpList_plain hg fun K' hK' => ?_
  unfold Oper.wp
  rcases h.next hc hn hr o.type with ⟨hs, hrun⟩ | ⟨i, w', h1, h2, hrun, h3, h4, h5⟩
  · simp [execOp, hop, hit, hrun, Result.andThen]
    exact hK' _ _ (hDone hs)
  · simp [execOp, hop, hit, hrun, Result.andThen]
    exact hK' _ _ (hMore i w' h1 h2 h3 h4 h5)
theorem wpList_range_log (hg : o.guard = none) (m : Operand) (hop : o.op = Op.range 71 m) (hm : a.eval m = .map (some bm)) (h : LogIx w bm c lc lw ix)
    (hK : Iter (w.alloc (.mapIter (some bm) c #[] c)) bm w.heap.size c lc lw ix [] → wpList Try.prog ops Q rest (a.put o.dst (.pointer (some ⟨w.heap.size, 0, none⟩))) (w.alloc (.mapIter (some bm) c #[] c))) :
    wpList Try.prog ops Q (o :: rest) a w := by
  refine wpList_plain hg fun K' hK' => ?_
  unfold Oper.wp
  simp [execOp, hop, hm, h.range.1, Result.andThen]
  exact hK' _ _ (hK h.range.2)
end
end Go.Proofs.Ytagjfkkjmgfoiaa
