/- Slices that are appended to: what they hold, and what append leaves. -/
import Derived.Test.YtkmkidahaagbpaaBook
import Derived.Deep.AppendLies
import Derived.Laws.OwnMore
namespace Go.Proofs.Ytkmkidahaagbpaa
open Go.RowKit
set_option linter.unusedSimpArgs false
set_option linter.unusedVariables false
/-- The slice v is nil or owns its row, a block of X; its n elements' cells are F. -/
def Buf (e : TypeId) (size : Nat) (X : Nat → Prop) (w : World) (v : Value) (n : Nat) (F : Nat → Value) : Prop :=
  w.ownsRow 0 e size v n ((List.range (n * size)).map F) ∧ ∀ g, v.ownBlock = some g → X g
theorem Buf.nil (e : TypeId) (size : Nat) (X : Nat → Prop) (w : World) (F : Nat → Value) : Buf e size X w (.slice none 0 0) 0 F := ⟨⟨by simp, Or.inl ⟨rfl, rfl⟩⟩, fun g h => by simp [Value.ownBlock] at h⟩
theorem Buf.form {e : TypeId} {size : Nat} {X : Nat → Prop} {w : World} {v : Value} {n : Nat} {F : Nat → Value} (h : Buf e size X w v n F) :
    ∃ ao cap, v = .slice ao n cap ∧ (0 < n → ∃ g, X g ∧ ao = some ⟨g, 0, none⟩ ∧ Row w g (n * size) F) := by
  rcases h.1.2 with ⟨rfl, rfl⟩ | ⟨g, cap, cur, rfl, _, hb, h1, h2, h3, h4⟩
  · exact ⟨none, 0, rfl, fun h => absurd h (by omega)⟩
  · refine ⟨_, cap, rfl, fun hn => ⟨g, h.2 g rfl, rfl, cur, e, hb, ?_, fun i hi => ?_⟩⟩
    · rw [h3]; exact Nat.mul_le_mul_right _ h1
    · have := congrArg (fun l => l[i]?) h4
      simp [hi] at this
      exact this
theorem Buf.mod {e : TypeId} {size : Nat} {X Z : Nat → Prop} {w w' : World} {v : Value} {n : Nat} {F : Nat → Value} (h : Buf e size X w v n F) (hm : Mod Z w w') (hx : ∀ b, X b → ¬ Z b) : Buf e size X w' v n F := by
  refine ⟨⟨h.1.1, ?_⟩, h.2⟩
  rcases h.1.2 with h1 | ⟨g, cap, cur, rfl, h1, hb, h2⟩
  · exact Or.inl h1
  · exact Or.inr ⟨g, cap, cur, rfl, h1, (hm.block g (Array.getElem?_eq_some_iff.1 hb).1 (hx _ (h.2 g rfl))).trans hb, h2⟩
theorem Buf.blw {e : TypeId} {size : Nat} {X : Nat → Prop} {w w' : World} {v : Value} {n : Nat} {F : Nat → Value} (h : Buf e size X w v n F) (hb : Blw w w') : Buf e size X w' v n F := h.mod (hb.mod (fun _ => False)) (fun _ _ => id)
theorem Buf.mono {e : TypeId} {size : Nat} {X Y : Nat → Prop} {w : World} {v : Value} {n : Nat} {F : Nat → Value} (h : Buf e size X w v n F) (hxy : ∀ b, X b → Y b) : Buf e size Y w v n F := ⟨h.1, fun g hg => hxy _ (h.2 g hg)⟩
theorem Buf.congr {e : TypeId} {size : Nat} {X : Nat → Prop} {w : World} {v : Value} {n : Nat} {F G : Nat → Value} (h : Buf e size X w v n F) (he : ∀ i, i < n * size → F i = G i) : Buf e size X w v n G := by
  have : (List.range (n * size)).map F = (List.range (n * size)).map G := List.map_congr_left (fun i hi => he i (List.mem_range.1 hi))
  exact ⟨this ▸ h.1, h.2⟩
theorem Buf.lit {e : TypeId} {X : Nat → Prop} {w : World} {B : Nat} (h : w.heap[B]? = some (.cells #[] e (0, 0))) (size : Nat) (hx : X B) (F : Nat → Value) : Buf e size X w (.slice (some ⟨B, 0, none⟩) 0 0) 0 F :=
  ⟨⟨by simp, Or.inr ⟨B, 0, #[], rfl, Nat.zero_le _, h, Nat.le_refl _, by simp [maxLen], by simp, by simp⟩⟩, fun g hg => by simp [Value.ownBlock] at hg; subst hg; exact hx⟩
theorem append_none {t ty e : TypeId} {i : TypeInfo} {size : Nat} (ht : Try.prog.underlying t = some (.slice e)) (hi : Try.prog.info? e = some i) (w : World) (v : Value) (n c : Nat) (xs : List Value) (hown : w.ownsRow 0 e size v n xs) :
    (Builtin.append_ #[t, t] ty #[v, .slice none 0 c]).run Try.prog w = .ok v w := by
  rcases hown.2 with ⟨rfl, rfl⟩ | ⟨g, cap, cur, rfl, _, _, hnc, _⟩
  · simp [Builtin.append_, run_underlying ht, sizeOf, typeInfo, hi, Builtin.lenOf, Builtin.firstCells]
  · simp [Builtin.append_, run_underlying ht, sizeOf, typeInfo, hi, Builtin.lenOf, Builtin.firstCells, hnc, storeCells]
def cat (k : Nat) (F G : Nat → Value) : Nat → Value := fun i => if i < k then F i else G (i - k)
theorem cat_list (k m : Nat) (F G : Nat → Value) : (List.range k).map F ++ (List.range m).map G = (List.range (k + m)).map (cat k F G) := by
  apply List.ext_getElem?
  intro i
  by_cases h : i < k
  · rw [List.getElem?_append_left (by simpa using h)]
    simp [h, cat, Nat.lt_of_lt_of_le h (Nat.le_add_right k m)]
  · rw [List.getElem?_append_right (by simp; omega)]
    by_cases h2 : i < k + m
    · have : i - k < m := by omega
      simp [h, h2, this, cat]
    · have : ¬ i - k < m := by omega
      simp [h2, this]
/-- append of whatever is read at the source. -/
theorem Buf.append {t e : TypeId} {i : TypeInfo} {z : Value} {size bytes : Nat} (ht : Try.prog.underlying t = some (.slice e)) (hi : Try.prog.info? e = some i) (hz : i.zero = some z) (hsize : i.size = size) (hby : i.bytes = bytes) (hzs : z.cells.size = size) (hsz : 0 < size)
    {X : Nat → Prop} {w : World} {v : Value} {n : Nat} {F : Nat → Value} (h : Buf e size X w v n F) {ao : Option Addr} {m : Nat} (c : Nat) {G : Nat → Value} (hs : ao = none → m = 0) (hG : ∀ ad, ao = some ad → ∀ j, j < m * size → w.cell? (ad.add j) = some (G j)) (h1 : ∀ j, (G j).oneCell' = true)
    (hb : n + m ≤ 2097152) (hbb : bytes ≤ 1024) (ty : TypeId) :
    ∃ ao' cap w', (Builtin.append_ #[t, t] ty #[v, .slice ao m c]).run Try.prog w = .ok (.slice ao' (n + m) cap) w' ∧ Buf e size (fun b => (X b ∨ b = w.heap.size) ∧ b < w'.heap.size) w' (.slice ao' (n + m) cap) (n + m) (cat (n * size) F G) ∧ Mod (fun b => v.ownBlock = some b) w w' := by
  cases ao with
  | none =>
    obtain rfl := hs rfl
    obtain ⟨a0, cap, rfl, -⟩ := h.form
    refine ⟨a0, cap, w, append_none ht hi w _ n c _ h.1, ⟨?_, fun g hg => ⟨Or.inl (h.2 g hg), ?_⟩⟩, Mod.refl _ _⟩
    · have e1 : (List.range ((n + 0) * size)).map (cat (n * size) F G) = (List.range (n * size)).map F := by
        rw [Nat.add_zero]
        exact List.map_congr_left (fun i hi => by simp [cat, List.mem_range.1 hi])
      rw [e1]
      exact h.1
    · replace hg : (Value.slice a0 n cap).ownBlock = some g := hg
      rcases h.1.2 with ⟨e1, -⟩ | ⟨g', cap', cur, e1, _, hb', _⟩
      · rw [e1] at hg; simp [Value.ownBlock] at hg
      · rw [e1] at hg
        simp [Value.ownBlock] at hg
        subst hg
        exact (Array.getElem?_eq_some_iff.1 hb').1
  | some ad =>
    obtain ⟨v', w', hr, h2, h3, -, h5⟩ := run_append_own_at (P := Try.prog) w 0 t ty e i z size bytes ht hi hz hsize hby hzs hsz v n _ h.1 ad m c ((List.range (m * size)).map G) (by simp)
      (fun j u hu => by
        have hj : j < m * size := by
          have := (List.getElem?_eq_some_iff.1 hu).1
          simpa using this
        rw [hG ad rfl j hj]
        simpa [hj] using hu) (fun u hu => by
        obtain ⟨j, -, rfl⟩ := List.mem_map.1 hu
        exact h1 j) (by simp only [maxLen]; omega) (Nat.le_trans (Nat.mul_le_mul hb hbb) (by decide)) (Nat.zero_le _)
    rw [cat_list, ← Nat.add_mul] at h2
    have hm : Mod (fun b => v.ownBlock = some b) w w' := ⟨h3.os, h3.tape, h3.output, h3.size, fun k hk hx => h3.block k hk (fun e => hx e.symm)⟩
    have hB : Buf e size (fun b => (X b ∨ b = w.heap.size) ∧ b < w'.heap.size) w' v' (n + m) (cat (n * size) F G) := by
      refine ⟨h2, fun g hg => ⟨?_, ?_⟩⟩
      · rcases h5 with h5 | h5
        · exact Or.inl (h.2 g (h5 ▸ hg))
        · rw [h5] at hg
          exact Or.inr (Option.some.inj hg).symm
      · rcases h2.2 with ⟨e1, -⟩ | ⟨g', cap', cur, e1, _, hb', _⟩
        · rw [e1] at hg; simp [Value.ownBlock] at hg
        · rw [e1] at hg
          simp [Value.ownBlock] at hg
          subst hg
          exact (Array.getElem?_eq_some_iff.1 hb').1
    obtain ⟨a0, cap, rfl, -⟩ := hB.form
    exact ⟨a0, cap, w', hr, hB, hm⟩
abbrev ic (f : Nat → Int) : Nat → Value := fun i => .int .i64 (f i)
def BufI (X : Nat → Prop) (w : World) (v : Value) (n : Nat) (f : Nat → Int) : Prop := Buf 3 1 X w v n (ic f)
def BufU (X : Nat → Prop) (w : World) (v : Value) (n : Nat) (f g : Nat → Int) : Prop := Buf 39 2 X w v n (uc f g)
theorem BufI.own {X : Nat → Prop} {w : World} {v : Value} {n : Nat} {f : Nat → Int} (h : BufI X w v n f) (hn : n ≤ 9223372036854775807) : ∃ ao cap, v = .slice ao n cap ∧ IntsOwn X w ao n f := by
  obtain ⟨ao, cap, e, h1⟩ := h.form
  exact ⟨ao, cap, e, hn, fun h0 => let ⟨g, hx, ea, hr⟩ := h1 h0; ⟨g, hx, ea, by rw [Nat.mul_one] at hr; exact hr⟩⟩
theorem BufU.own {X : Nat → Prop} {w : World} {v : Value} {n : Nat} {f g : Nat → Int} (h : BufU X w v n f g) (hn : n ≤ 9223372036854775807) : ∃ ao cap, v = .slice ao n cap ∧ UndosOwn X w ao n f g := by
  obtain ⟨ao, cap, e, h1⟩ := h.form
  exact ⟨ao, cap, e, hn, h1⟩
theorem uinfo69 : (Try.prog.info? 39).map (fun i => (i.zero, i.size, i.bytes)) = some (some (.agg #[.int .i64 0, .int .i64 0]), 2, 16) := by kernel_rfl
def icat (n : Nat) (f g : Nat → Int) : Nat → Int := fun i => if i < n then f i else g (i - n)
theorem BufI.append {X Y : Nat → Prop} {w : World} {v : Value} {n : Nat} {f : Nat → Int} (h : BufI X w v n f) {ao : Option Addr} {m : Nat} (c : Nat) {g : Nat → Int} (hs : IntsAt Y w ao m g) (hb : n + m ≤ 2097152) (ty : TypeId) :
    ∃ ao' cap w', (Builtin.append_ #[28, 28] ty #[v, .slice ao m c]).run Try.prog w = .ok (.slice ao' (n + m) cap) w' ∧ BufI (fun b => (X b ∨ b = w.heap.size) ∧ b < w'.heap.size) w' (.slice ao' (n + m) cap) (n + m) (icat n f g) ∧ Mod (fun b => v.ownBlock = some b) w w' := by
  obtain ⟨i0, hi0, hz0, hz1, hz2⟩ := info_parts tinfo3
  obtain ⟨a, cap, w', h1, h2, h3⟩ := Buf.append Try.underlying28 hi0 hz0 hz1 hz2 rfl (by decide) h (ao := ao) (m := m) c (G := ic g) (fun e => by
      rcases Nat.eq_zero_or_pos m with h0 | h0
      · exact h0
      · obtain ⟨b, o, e2, -⟩ := hs.2 0 h0
        rw [e] at e2; cases e2) (fun ad e j hj => by
      obtain ⟨b, o, e2, -, h4⟩ := hs.2 j (by omega)
      rw [e] at e2
      cases e2
      rw [Addr.add_mid]
      exact h4) (fun j => rfl) hb (by decide) ty
  refine ⟨a, cap, w', h1, h2.congr (fun i hi => ?_), h3⟩
  simp only [cat, ic, icat, Nat.mul_one]
  split <;> rfl
theorem BufU.append {X Y : Nat → Prop} {w : World} {v : Value} {n : Nat} {f g : Nat → Int} (h : BufU X w v n f g) {ao : Option Addr} {m : Nat} (c : Nat) {f' g' : Nat → Int} (hs : UndosAt Y w ao m f' g') (hb : n + m ≤ 2097152) (ty : TypeId) :
    ∃ ao' cap w', (Builtin.append_ #[31, 31] ty #[v, .slice ao m c]).run Try.prog w = .ok (.slice ao' (n + m) cap) w' ∧ BufU (fun b => (X b ∨ b = w.heap.size) ∧ b < w'.heap.size) w' (.slice ao' (n + m) cap) (n + m) (icat n f f') (icat n g g') ∧ Mod (fun b => v.ownBlock = some b) w w' := by
  obtain ⟨i0, hi0, hz0, hz1, hz2⟩ := info_parts uinfo69
  obtain ⟨a, cap, w', h1, h2, h3⟩ := Buf.append Try.underlying31 hi0 hz0 hz1 hz2 rfl (by decide) h (ao := ao) (m := m) c (G := uc f' g') (fun e => by
      rcases Nat.eq_zero_or_pos m with h0 | h0
      · exact h0
      · obtain ⟨b, o, e2, -⟩ := hs.2 0 h0
        rw [e] at e2; cases e2) (fun ad e j hj => by
      obtain ⟨b, o, e2, -, h4, h5⟩ := hs.2 (j / 2) (by omega)
      rw [e] at e2
      cases e2
      rw [Addr.add_mid]
      rcases (show j % 2 = 0 ∨ j % 2 = 1 by omega) with h6 | h6
      · have e6 : o + j = o + j / 2 * 2 := by omega
        rw [e6, h4]; simp [uc, h6]
      · have e6 : o + j = o + j / 2 * 2 + 1 := by omega
        rw [e6, h5]; simp [uc, h6]) (fun j => by simp only [uc]; split <;> rfl) hb (by decide) ty
  refine ⟨a, cap, w', h1, h2.congr (fun i hi => ?_), h3⟩
  have e1 : (i - n * 2) % 2 = i % 2 ∨ i < n * 2 := by omega
  by_cases h6 : i < n * 2
  · have h7 : i / 2 < n := by omega
    simp [cat, uc, icat, h6, h7]
  · have h7 : ¬ i / 2 < n := by omega
    have h8 : (i - n * 2) % 2 = i % 2 := by omega
    have h9 : (i - n * 2) / 2 = i / 2 - n := by omega
    simp only [cat, uc, icat, h6, h7, h8, h9, if_false]
/-- append at the operation, its run being known. -/
theorem wpList_append_run {w : World} {ops : Array Oper} {rest : List Oper} {o : Oper} {a : Act} {Q : Exit → Act → World → Prop} (hgd : o.guard = none) (s x : Operand) (t : TypeId)
    (ho : o.op = .call { callee := .builtin .append, args := #[s, x], argTypes := #[t, t] }) (v u : Value) (hs : a.eval s = v) (hx : a.eval x = u) {r : Value} {w' : World} (hrun : (Builtin.append_ #[t, t] o.type #[v, u]).run Try.prog w = .ok r w')
    (h : wpList Try.prog ops Q rest (a.put o.dst r) w') : wpList Try.prog ops Q (o :: rest) a w := by
  refine wpList_plain hgd fun K hK => ?_
  unfold Oper.wp
  simp [execOp, ho, resolve, invoke, builtin, hs, hx, hrun, Result.andThen]
  exact hK _ _ h
/-- The same, in two steps: first the operation is met. -/
theorem wpList_append_at {w : World} {ops : Array Oper} {rest : List Oper} {o : Oper} {a : Act} {Q : Exit → Act → World → Prop} (hgd : o.guard = none) (s x : Operand) (t : TypeId)
    (ho : o.op = .call { callee := .builtin .append, args := #[s, x], argTypes := #[t, t] })
    (h : ∃ r w', (Builtin.append_ #[t, t] o.type #[a.eval s, a.eval x]).run Try.prog w = .ok r w' ∧ wpList Try.prog ops Q rest (a.put o.dst r) w') : wpList Try.prog ops Q (o :: rest) a w := by
  obtain ⟨r, w', h1, h2⟩ := h
  exact wpList_append_run hgd s x t ho _ _ rfl rfl h1 h2
/-- append as one step of a region that draws its order, its run being known. -/
theorem step_append_run {w : World} {ops : Array Oper} {o : Oper} {a : Act} {K : Act → World → Prop} {Q : Exit → Act → World → Prop} {E : Prop} (hgd : o.guard = none) (s x : Operand) (t : TypeId)
    (ho : o.op = .call { callee := .builtin .append, args := #[s, x], argTypes := #[t, t] }) (v u : Value) (hs : a.eval s = v) (hx : a.eval x = u) {r : Value} {w' : World} (hrun : (Builtin.append_ #[t, t] o.type #[v, u]).run Try.prog w = .ok r w')
    (h : K (a.put o.dst r) w') : if Region.wanted o (yielded ops a.tmps) = true then Oper.wp Try.prog o a w K Q else E := by
  have hw : Region.wanted o (yielded ops a.tmps) = true := by simp [Region.wanted, hgd]
  rw [if_pos hw]
  unfold Oper.wp
  simp [execOp, ho, resolve, invoke, builtin, hs, hx, hrun, Result.andThen]
  exact h
/-- The operands of an append that no guard turns off. -/
def appOf (o : Oper) : Option (Operand × Operand × TypeId) :=
  match o.guard, o.op with
  | none, .call { callee := .builtin .append, args := ⟨[s, x]⟩, argTypes := ⟨[t, t']⟩ } => if t = t' then some (s, x, t) else none
  | _, _ => none
theorem appOf_eq {o : Oper} {s x : Operand} {t : TypeId} (h : appOf o = some (s, x, t)) : o.guard = none ∧ o.op = .call { callee := .builtin .append, args := #[s, x], argTypes := #[t, t] } := by
  unfold appOf at h
  split at h
  · rename_i e1 e2
    split at h
    · rename_i e3
      subst e3
      simp only [Option.some.injEq, Prod.mk.injEq] at h
      obtain ⟨rfl, rfl, rfl⟩ := h
      exact ⟨e1, e2⟩
    · cases h
  · cases h
theorem step_app {w : World} {ops : Array Oper} {o : Oper} {a : Act} {K : Act → World → Prop} {Q : Exit → Act → World → Prop} {E : Prop} (s x : Operand) (t : TypeId) (ho : appOf o = some (s, x, t))
    (h : ∃ r w', (Builtin.append_ #[t, t] o.type #[a.eval s, a.eval x]).run Try.prog w = .ok r w' ∧ K (a.put o.dst r) w') :
    if Region.wanted o (yielded ops a.tmps) = true then Oper.wp Try.prog o a w K Q else E := by
  obtain ⟨r, w', h1, h2⟩ := h
  exact step_append_run (appOf_eq ho).1 s x t (appOf_eq ho).2 _ _ rfl rfl h1 h2
theorem wpList_app {w : World} {ops : Array Oper} {rest : List Oper} {o : Oper} {a : Act} {Q : Exit → Act → World → Prop} (s x : Operand) (t : TypeId) (ho : appOf o = some (s, x, t))
    (h : ∃ r w', (Builtin.append_ #[t, t] o.type #[a.eval s, a.eval x]).run Try.prog w = .ok r w' ∧ wpList Try.prog ops Q rest (a.put o.dst r) w') : wpList Try.prog ops Q (o :: rest) a w := by
  obtain ⟨r, w', h1, h2⟩ := h
  exact wpList_append_run (appOf_eq ho).1 s x t (appOf_eq ho).2 _ _ rfl rfl h1 h2
theorem one_ints (w : World) (x : Int) : IntsAt (fun b => b = w.heap.size) (w.alloc (.cells #[.int .i64 x] 3)) (some ⟨w.heap.size, 0, none⟩) 1 (fun _ => x) := by
  refine ⟨by omega, fun i hi => ⟨w.heap.size, 0, rfl, rfl, ?_⟩⟩
  obtain rfl : i = 0 := by omega
  exact (Row.of_cells (heap_alloc_new w (.cells #[.int .i64 x] 3)) (fun _ => .int .i64 x) (fun i hi => by obtain rfl : i = 0 := by simpa using hi
                                                                                                          rfl)).cell (i := 0) (by simp)
theorem one_undo (w : World) (x y : Int) : UndosAt (fun b => b = w.heap.size) (w.alloc (.cells #[.int .i64 x, .int .i64 y] 39)) (some ⟨w.heap.size, 0, none⟩) 1 (fun _ => x) (fun _ => y) := by
  refine ⟨by omega, fun i hi => ⟨w.heap.size, 0, rfl, rfl, ?_⟩⟩
  obtain rfl : i = 0 := by omega
  have := get2 (box2 w (.int .i64 x) (.int .i64 y) 39)
  exact this
end Go.Proofs.Ytkmkidahaagbpaa
