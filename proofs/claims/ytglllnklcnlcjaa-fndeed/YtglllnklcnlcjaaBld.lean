/- A slice of lines that is built by append, a line at a time. -/
import Derived.Test.YtglllnklcnlcjaaCopy
import Derived.Deep.AppendLies
namespace Go.Proofs.Ytglllnklcnlcjaa
open Go.RowKit

abbrev lineCells (F c len : Nat → Nat) (n : Nat) : List Value := (List.range n).map fun i => .slice (some ⟨F i, 0, none⟩) (len i) (c i)
/-- The slice value v owns n lines, all in blocks of X: for the functions F (the lines' blocks) and c (their capacities). -/
structure BldF (X : Nat → Prop) (w : World) (v : Value) (n : Nat) (len : Nat → Nat) (val : Nat → Nat → Int) (F c : Nat → Nat) : Prop where
  own : w.ownsRow 0 126 1 v n (lineCells F c len n)
  blk : ∀ g, v.ownBlock = some g → X g
  row : ∀ i, i < n → X (F i) ∧ v.ownBlock ≠ some (F i) ∧ len i ≤ 9223372036854775807 ∧ Row w (F i) (len i) (fun t => .int .i64 (val i t))
  dif : ∀ i j, i < n → j < n → i ≠ j → F i ≠ F j

theorem ownsRow_mod {w w' : World} {Z : Nat → Prop} {v : Value} {n : Nat} {xs : List Value} {e : TypeId} (h : w.ownsRow 0 e 1 v n xs) (hm : Mod Z w w') (hz : ∀ g, v.ownBlock = some g → ¬ Z g) : w'.ownsRow 0 e 1 v n xs := by
  obtain ⟨h1, h2⟩ := h
  refine ⟨h1, ?_⟩
  rcases h2 with h2 | ⟨g, cap, cur, rfl, hg, hh, r⟩
  · exact Or.inl h2
  · refine Or.inr ⟨g, cap, cur, rfl, hg, ?_, r⟩
    rw [hm.block g (Array.getElem?_eq_some_iff.1 hh).1 (hz g rfl)]
    exact hh
theorem BldF.mod {X Z : Nat → Prop} {w w' : World} {v : Value} {n : Nat} {len : Nat → Nat} {val : Nat → Nat → Int} {F c : Nat → Nat} (h : BldF X w v n len val F c) (hm : Mod Z w w') (hxz : ∀ b, X b → ¬ Z b) : BldF X w' v n len val F c :=
  ⟨ownsRow_mod h.own hm (fun g hg => hxz g (h.blk g hg)), h.blk, fun i hi => let ⟨a, b, c, d⟩ := h.row i hi; ⟨a, b, c, d.mod hm (hxz _ a)⟩, h.dif⟩
theorem BldF.blw {X : Nat → Prop} {w w' : World} {v : Value} {n : Nat} {len : Nat → Nat} {val : Nat → Nat → Int} {F c : Nat → Nat} (h : BldF X w v n len val F c) (hm : Blw w w') : BldF X w' v n len val F c :=
  h.mod (hm.mod (fun _ => False)) (fun _ _ => id)
theorem bld_nil (X : Nat → Prop) (w : World) (len : Nat → Nat) (val : Nat → Nat → Int) : BldF X w (.slice none 0 0) 0 len val (fun _ => 0) (fun _ => 0) :=
  ⟨⟨by simp, Or.inl ⟨rfl, rfl⟩⟩, fun g hg => by simp [Value.ownBlock] at hg, fun i hi => absurd hi (Nat.not_lt_zero _), fun i j hi => absurd hi (Nat.not_lt_zero _)⟩
theorem grown_mod {w w' : World} {v : Value} (h : w.grownBy w' v.ownBlock) : Mod (fun x => v.ownBlock = some x) w w' :=
  ⟨h.os, h.tape, h.output, h.size, fun k hk hx => h.block k hk (fun e => hx e.symm)⟩
/-- One line more. -/
theorem BldF.append {X : Nat → Prop} {w w' : World} {v : Value} {n : Nat} {len : Nat → Nat} {val : Nat → Nat → Int} {F c : Nat → Nat} (h : BldF X w v n len val F c) {b cc g cap : Nat}
    (hb : Row w b (len n) (fun t => .int .i64 (val n t))) (hbx : ¬ X b) (hl : len n ≤ 9223372036854775807)
    (own' : w'.ownsRow 0 126 1 (.slice (some ⟨g, 0, none⟩) (n + 1) cap) (n + 1) (lineCells F c len n ++ [.slice (some ⟨b, 0, none⟩) (len n) cc]))
    (gr : w.grownBy w' v.ownBlock) (hg : v.ownBlock = some g ∨ g = w.heap.size) :
    BldF (fun x => X x ∨ x = b ∨ x = g) w' (.slice (some ⟨g, 0, none⟩) (n + 1) cap) (n + 1) len val (fun i => if i < n then F i else b) (fun i => if i < n then c i else cc) := by
  have hm := grown_mod gr
  have hvb : v.ownBlock ≠ some b := fun e => hbx (h.blk b e)
  have hgb : g ≠ b := by
    rcases hg with hg | hg
    · intro e; subst e; exact hvb hg
    · have := hb.lt; omega
  refine ⟨?_, fun g' hg' => ?_, fun i hi => ?_, fun i j hi hj hij => ?_⟩
  · have e : lineCells F c len n ++ [.slice (some ⟨b, 0, none⟩) (len n) cc] = lineCells (fun i => if i < n then F i else b) (fun i => if i < n then c i else cc) len (n + 1) := by
      simp only [lineCells, List.range_succ, List.map_append, List.map_cons, List.map_nil]
      congr 1
      · refine List.map_congr_left fun i hi => ?_
        have : i < n := List.mem_range.1 hi
        simp [this]
      · simp
    rw [← e]
    exact own'
  · simp only [Value.ownBlock, Option.some.injEq] at hg'
    subst hg'
    exact Or.inr (Or.inr rfl)
  · by_cases e : i < n
    · obtain ⟨p1, p2, p3, p4⟩ := h.row i e
      simp only [e, if_true]
      refine ⟨Or.inl p1, ?_, p3, p4.mod hm (fun hh => p2 hh)⟩
      simp only [Value.ownBlock, ne_eq, Option.some.injEq]
      rcases hg with hg | hg
      · intro hh; subst hh; exact p2 hg
      · have := p4.lt; omega
    · obtain rfl : i = n := by omega
      simp only [Nat.lt_irrefl, if_false]
      exact ⟨Or.inr (Or.inl trivial), by simpa [Value.ownBlock] using hgb, hl, hb.mod hm hvb⟩
  · show (if i < n then F i else b) ≠ if j < n then F j else b
    by_cases e1 : i < n <;> by_cases e2 : j < n
    · simp only [e1, e2, if_true]; exact h.dif i j e1 e2 hij
    · simp only [e1, e2, if_true, if_false]; intro hh; exact hbx (hh ▸ (h.row i e1).1)
    · simp only [e1, e2, if_true, if_false]; intro hh; exact hbx (hh ▸ (h.row j e2).1)
    · omega
theorem BldF.lines {X : Nat → Prop} {w : World} {ao : Option Addr} {n cap : Nat} {len : Nat → Nat} {val : Nat → Nat → Int} {F c : Nat → Nat} (h : BldF X w (.slice ao n cap) n len val F c) (hn : n ≤ 9223372036854775807) : LinesOwn X w ao n len val := by
  refine ⟨hn, fun h0 => ?_⟩
  obtain ⟨h1, h2⟩ := h.own
  rcases h2 with ⟨_, h2⟩ | ⟨g, cap', cur, hv, hg, hh, hcap, _, hsz, ht⟩
  · omega
  · simp only [Value.slice.injEq] at hv
    obtain ⟨rfl, _, rfl⟩ := hv
    refine ⟨g, F, c, h.blk g rfl, rfl, ⟨cur, 126, hh, by omega, fun i hi => ?_⟩, fun i hi => ?_, h.dif⟩
    · have : (cur.toList.take (n * 1))[i]? = cur[i]? := by rw [List.getElem?_take, if_pos (by omega)]; simp
      rw [← this, ht, List.getElem?_map, List.getElem?_range hi]
      rfl
    · obtain ⟨p1, p2, p3, p4⟩ := h.row i hi
      exact ⟨p3, p1, fun e => p2 (by simp [Value.ownBlock, e]), p4⟩
/-- A list that is built is a slice of so many. -/
theorem bld_shape {X : Nat → Prop} {w : World} {v : Value} {n : Nat} {len : Nat → Nat} {val : Nat → Nat → Int} {F c : Nat → Nat} (h : BldF X w v n len val F c) : ∃ ao cap, v = .slice ao n cap := by
  obtain ⟨_, h2⟩ := h.own
  rcases h2 with ⟨rfl, rfl⟩ | ⟨g, cap', cur, rfl, _⟩
  · exact ⟨_, _, rfl⟩
  · exact ⟨_, _, rfl⟩
theorem info37' : (Try.prog.info? 126).map (fun i => (i.zero, i.size, i.bytes)) = some (some (.agg #[.slice none 0 0]), 1, 24) := by kernel_rfl
/-- 'out.Lines = append(out.Lines, line)': as a step of a region that draws its order. -/
theorem step_append_line {ops : Array Oper} {o : Oper} {a : Act} {w : World} {K : Act → World → Prop} {Q : Exit → Act → World → Prop} {E : Prop} (hgd : o.guard = none) (s x : Operand)
    (ho : o.op = .call { callee := .builtin .append, args := #[s, x], argTypes := #[23, 23] }) {X : Nat → Prop} {wr : World} {v : Value} {n : Nat} {len : Nat → Nat} {val : Nat → Nat → Int} {F c : Nat → Nat} (B : BldF X wr v n len val F c)
    (hs : a.eval s = v) (ad : Addr) (b cc : Nat) (hx : a.eval x = .slice (some ad) 1 1) (hn : n ≤ 1048576) (hl : len n ≤ 9223372036854775807) (hbx : ¬ X b)
    (hbw : Blw wr w) (hnew : w.cell? ad = some (.slice (some ⟨b, 0, none⟩) (len n) cc)) (hrow : Row w b (len n) (fun t => .int .i64 (val n t)))
    (h : ∀ g cap w', BldF (fun x => X x ∨ x = b ∨ x = g) w' (.slice (some ⟨g, 0, none⟩) (n + 1) cap) (n + 1) len val (fun i => if i < n then F i else b) (fun i => if i < n then c i else cc) →
      Mod (fun x => v.ownBlock = some x) w w' → (v.ownBlock = some g ∨ g = w.heap.size) → g < w'.heap.size → K (a.put o.dst (.slice (some ⟨g, 0, none⟩) (n + 1) cap)) w') :
    if Region.wanted o (yielded ops a.tmps) = true then Oper.wp Try.prog o a w K Q else E := by
  obtain ⟨i0, hi, hz0, hz1, hz2⟩ := info_parts info37'
  have B' := B.blw hbw
  refine step_append_lies w hgd s x 23 ho 0 126 i0 (.agg #[.slice none 0 0]) 1 24 Try.underlying23 hi hz0 hz1 hz2 rfl (by decide) v n _ hs B'.own ad 1 1 [.slice (some ⟨b, 0, none⟩) (len n) cc] hx rfl ?_ ?_ (by decide) ?_ ?_ (Nat.zero_le _) _ rfl ?_
  · intro j u hj
    match j, hj with
    | 0, hj => simp at hj; subst hj; simpa [Addr.add] using hnew
  · intro u hu
    simp at hu
    subst hu
    rfl
  · unfold maxLen; omega
  · omega
  · intro g cap w' own' gr hg hgl
    exact h g cap w' (B'.append hrow hbx hl own' gr hg) (grown_mod gr) hg hgl

/-- The memory that is being built: its own block M, its two lists, its marks. -/
structure Build (w wr : World) (M : Nat) (v1 v2 v3 : Value) (k1 k2 : Nat) (l1 l2 : Nat → Nat) (s c : Nat → Nat → Int) (X1 X2 : Nat → Prop) (F1 c1 F2 c2 : Nat → Nat) : Prop where
  blw : Blw w wr
  m : Row wr M 3 (fun i => if i = 0 then v1 else if i = 1 then v2 else v3)
  b1 : BldF X1 wr v1 k1 l1 s F1 c1
  b2 : BldF X2 wr v2 k2 l2 c F2 c2
  x1 : ∀ b, X1 b → w.heap.size ≤ b ∧ b < wr.heap.size ∧ b ≠ M ∧ ¬ X2 b
  x2 : ∀ b, X2 b → w.heap.size ≤ b ∧ b < wr.heap.size ∧ b ≠ M
  wm : w.heap.size ≤ M

theorem Build.cell0 {w wr : World} {M : Nat} {v1 v2 v3 : Value} {k1 k2 : Nat} {l1 l2 : Nat → Nat} {s c : Nat → Nat → Int} {X1 X2 : Nat → Prop} {F1 c1 F2 c2 : Nat → Nat} (B : Build w wr M v1 v2 v3 k1 k2 l1 l2 s c X1 X2 F1 c1 F2 c2) : wr.cell? ⟨M, 0, none⟩ = some v1 := by
  simpa using B.m.cell (i := 0) (by omega)
theorem Build.cell1 {w wr : World} {M : Nat} {v1 v2 v3 : Value} {k1 k2 : Nat} {l1 l2 : Nat → Nat} {s c : Nat → Nat → Int} {X1 X2 : Nat → Prop} {F1 c1 F2 c2 : Nat → Nat} (B : Build w wr M v1 v2 v3 k1 k2 l1 l2 s c X1 X2 F1 c1 F2 c2) : wr.cell? ⟨M, 1, none⟩ = some v2 := by
  simpa using B.m.cell (i := 1) (by omega)
theorem Build.cell2 {w wr : World} {M : Nat} {v1 v2 v3 : Value} {k1 k2 : Nat} {l1 l2 : Nat → Nat} {s c : Nat → Nat → Int} {X1 X2 : Nat → Prop} {F1 c1 F2 c2 : Nat → Nat} (B : Build w wr M v1 v2 v3 k1 k2 l1 l2 s c X1 X2 F1 c1 F2 c2) : wr.cell? ⟨M, 2, none⟩ = some v3 := by
  simpa using B.m.cell (i := 2) (by omega)

/-- The block of the memory itself, behind the append to a list. -/
theorem build_m1 {w wr w2 w' : World} {M : Nat} {v1 v2 v3 : Value} {k1 k2 : Nat} {l1 l2 : Nat → Nat} {s c : Nat → Nat → Int} {X1 X2 : Nat → Prop} {F1 c1 F2 c2 : Nat → Nat} (B : Build w wr M v1 v2 v3 k1 k2 l1 l2 s c X1 X2 F1 c1 F2 c2)
    (hb : Blw wr w2) (hm : Mod (fun x => v1.ownBlock = some x) w2 w') : Row w' M 3 (fun i => if i = 0 then v1 else if i = 1 then v2 else v3) :=
  (B.m.blw hb).mod hm (fun e => (B.x1 M (B.b1.blk M e)).2.2.1 rfl)
theorem build_m2 {w wr w2 w' : World} {M : Nat} {v1 v2 v3 : Value} {k1 k2 : Nat} {l1 l2 : Nat → Nat} {s c : Nat → Nat → Int} {X1 X2 : Nat → Prop} {F1 c1 F2 c2 : Nat → Nat} (B : Build w wr M v1 v2 v3 k1 k2 l1 l2 s c X1 X2 F1 c1 F2 c2)
    (hb : Blw wr w2) (hm : Mod (fun x => v2.ownBlock = some x) w2 w') : Row w' M 3 (fun i => if i = 0 then v1 else if i = 1 then v2 else v3) :=
  (B.m.blw hb).mod hm (fun e => (B.x2 M (B.b2.blk M e)).2.2 rfl)
theorem build_q1 {w wr w2 w' : World} {M : Nat} {v1 v2 v3 : Value} {k1 k2 : Nat} {l1 l2 : Nat → Nat} {s c : Nat → Nat → Int} {X1 X2 : Nat → Prop} {F1 c1 F2 c2 : Nat → Nat} (B : Build w wr M v1 v2 v3 k1 k2 l1 l2 s c X1 X2 F1 c1 F2 c2)
    (hb : Blw wr w2) (hm : Mod (fun x => v1.ownBlock = some x) w2 w') : w'.cell? ⟨M, 0, none⟩ = some v1 ∧ w'.frozen? ⟨M, 0, none⟩ = false :=
  ⟨by simpa using (build_m1 B hb hm).cell (i := 0) (by omega), (build_m1 B hb hm).frozen 0⟩
theorem build_q2 {w wr w2 w' : World} {M : Nat} {v1 v2 v3 : Value} {k1 k2 : Nat} {l1 l2 : Nat → Nat} {s c : Nat → Nat → Int} {X1 X2 : Nat → Prop} {F1 c1 F2 c2 : Nat → Nat} (B : Build w wr M v1 v2 v3 k1 k2 l1 l2 s c X1 X2 F1 c1 F2 c2)
    (hb : Blw wr w2) (hm : Mod (fun x => v2.ownBlock = some x) w2 w') : w'.cell? ⟨M, 1, none⟩ = some v2 ∧ w'.frozen? ⟨M, 1, none⟩ = false :=
  ⟨by simpa using (build_m2 B hb hm).cell (i := 1) (by omega), (build_m2 B hb hm).frozen 1⟩
/-- Behind the append to the first list, and its store. -/
theorem build_first {w wr w2 w' : World} {M : Nat} {v1 v2 v3 v1' : Value} {k1 k2 : Nat} {l1 l2 : Nat → Nat} {s c : Nat → Nat → Int} {X1 X2 : Nat → Prop} {F1 c1 F2 c2 F1' c1' : Nat → Nat} {b g : Nat} (B : Build w wr M v1 v2 v3 k1 k2 l1 l2 s c X1 X2 F1 c1 F2 c2)
    (hb : Blw wr w2) (hlo : wr.heap.size ≤ b) (hhi : b < w2.heap.size) (hN : BldF (fun x => X1 x ∨ x = b ∨ x = g) w' v1' (k1 + 1) l1 s F1' c1') (hm : Mod (fun x => v1.ownBlock = some x) w2 w') (hg : v1.ownBlock = some g ∨ g = w2.heap.size) (hgl : g < w'.heap.size) :
    Build w (w'.setCell ⟨M, 0, none⟩ v1') M v1' v2 v3 (k1 + 1) k2 l1 l2 s c (fun x => X1 x ∨ x = b ∨ x = g) X2 F1' c1' F2 c2 := by
  have r := build_m1 B hb hm
  have hM : M < wr.heap.size := B.m.lt
  have hmM : Mod (fun x => x = M) w' (w'.setCell ⟨M, 0, none⟩ v1') := Mod.setCell (X := fun x => x = M) w' (p := ⟨M, 0, none⟩) rfl _
  have hz : (w'.setCell ⟨M, 0, none⟩ v1').heap.size = w'.heap.size := by simp
  have hs1 := hb.size
  have hs2 := hm.size
  have hX : ∀ x, (X1 x ∨ x = b ∨ x = g) → w.heap.size ≤ x ∧ x < w'.heap.size ∧ x ≠ M ∧ ¬ X2 x := by
    intro x hx
    have base : ∀ y, X1 y → w.heap.size ≤ y ∧ y < w'.heap.size ∧ y ≠ M ∧ ¬ X2 y := fun y hy => by
      have := B.x1 y hy
      exact ⟨this.1, by omega, this.2.2⟩
    have big : ∀ y, wr.heap.size ≤ y → y < w'.heap.size → w.heap.size ≤ y ∧ y < w'.heap.size ∧ y ≠ M ∧ ¬ X2 y := fun y h1 h2 =>
      ⟨by have := B.blw.size; omega, h2, by omega, fun h3 => by have := (B.x2 y h3).2.1; omega⟩
    rcases hx with hx | hx | hx
    · exact base x hx
    · subst hx; exact big _ hlo (by omega)
    · subst hx
      rcases hg with hg | hg
      · exact base _ (B.b1.blk _ hg)
      · subst hg; exact big _ (by omega) hgl
  refine ⟨?_, (r.set 0 v1').congr (fun i hi => ?_), hN.mod hmM (fun x hx => (hX x hx).2.2.1), ((B.b2.blw hb).mod hm (fun x hx e => (B.x1 x (B.b1.blk x e)).2.2.2 hx)).mod hmM (fun x hx => (B.x2 x hx).2.2), ?_, ?_, B.wm⟩
  · exact Mod.blw (Mod.blw (B.blw.trans hb) hm (fun i hi => (B.x1 i (B.b1.blk i hi)).1)) hmM (fun i hi => by rw [hi]; exact B.wm)
  · by_cases e : i = 0
    · simp [e]
    · simp [e]
  · rw [hz]; exact hX
  · rw [hz]
    intro x hx
    have := B.x2 x hx
    exact ⟨this.1, by omega, this.2.2⟩
/-- Behind the append to the second list, and its store. -/
theorem build_second {w wr w2 w' : World} {M : Nat} {v1 v2 v3 v2' : Value} {k1 k2 : Nat} {l1 l2 : Nat → Nat} {s c : Nat → Nat → Int} {X1 X2 : Nat → Prop} {F1 c1 F2 c2 F2' c2' : Nat → Nat} {b g : Nat} (B : Build w wr M v1 v2 v3 k1 k2 l1 l2 s c X1 X2 F1 c1 F2 c2)
    (hb : Blw wr w2) (hlo : wr.heap.size ≤ b) (hhi : b < w2.heap.size) (hN : BldF (fun x => X2 x ∨ x = b ∨ x = g) w' v2' (k2 + 1) l2 c F2' c2') (hm : Mod (fun x => v2.ownBlock = some x) w2 w') (hg : v2.ownBlock = some g ∨ g = w2.heap.size) (hgl : g < w'.heap.size) :
    Build w (w'.setCell ⟨M, 1, none⟩ v2') M v1 v2' v3 k1 (k2 + 1) l1 l2 s c X1 (fun x => X2 x ∨ x = b ∨ x = g) F1 c1 F2' c2' := by
  have r := build_m2 B hb hm
  have hM : M < wr.heap.size := B.m.lt
  have hmM : Mod (fun x => x = M) w' (w'.setCell ⟨M, 1, none⟩ v2') := Mod.setCell (X := fun x => x = M) w' (p := ⟨M, 1, none⟩) rfl _
  have hz : (w'.setCell ⟨M, 1, none⟩ v2').heap.size = w'.heap.size := by simp
  have hs1 := hb.size
  have hs2 := hm.size
  have hX : ∀ x, (X2 x ∨ x = b ∨ x = g) → w.heap.size ≤ x ∧ x < w'.heap.size ∧ x ≠ M ∧ ¬ X1 x := by
    intro x hx
    have base : ∀ y, X2 y → w.heap.size ≤ y ∧ y < w'.heap.size ∧ y ≠ M ∧ ¬ X1 y := fun y hy => by
      have := B.x2 y hy
      exact ⟨this.1, by omega, this.2.2, fun h3 => (B.x1 y h3).2.2.2 hy⟩
    have big : ∀ y, wr.heap.size ≤ y → y < w'.heap.size → w.heap.size ≤ y ∧ y < w'.heap.size ∧ y ≠ M ∧ ¬ X1 y := fun y h1 h2 =>
      ⟨by have := B.blw.size; omega, h2, by omega, fun h3 => by have := (B.x1 y h3).2.1; omega⟩
    rcases hx with hx | hx | hx
    · exact base x hx
    · subst hx; exact big _ hlo (by omega)
    · subst hx
      rcases hg with hg | hg
      · exact base _ (B.b2.blk _ hg)
      · subst hg; exact big _ (by omega) hgl
  refine ⟨?_, (r.set 1 v2').congr (fun i hi => ?_), ((B.b1.blw hb).mod hm (fun x hx e => (B.x1 x hx).2.2.2 (B.b2.blk x e))).mod hmM (fun x hx => (B.x1 x hx).2.2.1), hN.mod hmM (fun x hx => (hX x hx).2.2.1), ?_, ?_, B.wm⟩
  · exact Mod.blw (Mod.blw (B.blw.trans hb) hm (fun i hi => (B.x2 i (B.b2.blk i hi)).1)) hmM (fun i hi => by rw [hi]; exact B.wm)
  · by_cases e : i = 1
    · simp [e]
    · simp [e]
  · rw [hz]
    intro x hx
    have := B.x1 x hx
    exact ⟨this.1, by omega, this.2.2.1, fun h3 => (hX x h3).2.2.2 hx⟩
  · rw [hz]
    exact fun x hx => let h := hX x hx; ⟨h.1, h.2.1, h.2.2.1⟩
end Go.Proofs.Ytglllnklcnlcjaa
