/- Lists of slots: built by append, read, owned. -/
import Derived.Test.YtnbcjdoohmjghaaReadS
namespace Go.Proofs.Ytnbcjdoohmjghaa
open Go.RowKit
set_option linter.unusedSimpArgs false
abbrev T3 := Int × Int × Int
abbrev slotCells (l : List T3) : List Value := l.flatMap (fun t => [.int .i64 t.1, .int .i64 t.2.1, .int .i64 t.2.2])
def sc (f : Nat → T3) (i : Nat) : Value := .int .i64 (if i % 3 = 0 then (f (i / 3)).1 else if i % 3 = 1 then (f (i / 3)).2.1 else (f (i / 3)).2.2)
def lf (l : List T3) : Nat → T3 := fun i => l.getD i (0, 0, 0)
theorem slotCells_get (l : List T3) : ∀ i, i < 3 * l.length → (slotCells l)[i]? = some (sc (lf l) i) := by
  induction l with
  | nil => intro i hi; simp at hi
  | cons t l ih =>
    intro i hi
    match i, hi with
    | 0, _ => rfl
    | 1, _ => rfl
    | 2, _ => rfl
    | i + 3, hi =>
      have h1 : (slotCells (t :: l))[i + 3]? = (slotCells l)[i]? := by simp [slotCells]
      have h2 : (i + 3) / 3 = i / 3 + 1 := by omega
      have h3 : (i + 3) % 3 = i % 3 := by omega
      rw [h1, ih i (by simp at hi; omega)]
      simp [sc, lf, h2, h3]
theorem slotCells_len (l : List T3) : (slotCells l).length = l.length * 3 := by
  induction l with
  | nil => rfl
  | cons t l ih => simp only [slotCells, List.flatMap_cons, List.length_append, List.length_cons, List.length_nil] at *; omega
theorem slotCells_snoc (l : List T3) (t : T3) : slotCells (l ++ [t]) = slotCells l ++ [.int .i64 t.1, .int .i64 t.2.1, .int .i64 t.2.2] := by
  simp [slotCells]
theorem ownsRow_modN {w w' : World} {Z : Nat → Prop} {v : Value} {n s : Nat} {xs : List Value} {e : TypeId} (h : w.ownsRow 0 e s v n xs) (hm : Mod Z w w') (hz : ∀ g, v.ownBlock = some g → ¬ Z g) : w'.ownsRow 0 e s v n xs := by
  obtain ⟨h1, h2⟩ := h
  refine ⟨h1, ?_⟩
  rcases h2 with h2 | ⟨g, cap, cur, rfl, hg, hh, r⟩
  · exact Or.inl h2
  · refine Or.inr ⟨g, cap, cur, rfl, hg, ?_, r⟩
    rw [hm.block g (Array.getElem?_eq_some_iff.1 hh).1 (hz g rfl)]
    exact hh
theorem owned_rowN {w : World} {g n s cap : Nat} {e : TypeId} {xs : List Value} {f : Nat → Value} (h : w.ownsRow 0 e s (.slice (some ⟨g, 0, none⟩) n cap) n xs) (hf : ∀ i, i < n * s → xs[i]? = some (f i)) (hn : 0 < n) : Row w g (n * s) f := by
  obtain ⟨h1, h2⟩ := h
  rcases h2 with ⟨_, h2⟩ | ⟨g', cap', cur, hv, hg, hh, hcap, _, hsz, ht⟩
  · omega
  · simp only [Value.slice.injEq, Option.some.injEq, Addr.mk.injEq, and_true, true_and] at hv
    obtain ⟨rfl, rfl⟩ := hv
    have hle : n * s ≤ cap * s := Nat.mul_le_mul_right _ hcap
    refine ⟨cur, e, hh, by omega, fun i hi => ?_⟩
    have : (cur.toList.take (n * s))[i]? = cur[i]? := by rw [List.getElem?_take, if_pos (by omega)]; simp
    rw [← this, ht]
    exact hf i hi
/-- A list of slots that is built, all of it newer than w0. -/
structure PutS (w0 wr : World) (v : Value) (l : List T3) : Prop where
  own : wr.ownsRow 0 56 3 v l.length (slotCells l)
  blk : ∀ g, v.ownBlock = some g → w0.heap.size ≤ g ∧ g < wr.heap.size
  blw : Blw w0 wr
theorem PutS.nil {w0 wr : World} (hb : Blw w0 wr) : PutS w0 wr (.slice none 0 0) [] :=
  ⟨⟨by simp, Or.inl ⟨rfl, rfl⟩⟩, fun g hg => by simp [Value.ownBlock] at hg, hb⟩
theorem PutS.more {w0 wr W : World} {v : Value} {l : List T3} (P : PutS w0 wr v l) (hb : Blw wr W) : PutS w0 W v l :=
  ⟨ownsRow_modN P.own (hb.mod (fun _ => False)) (fun _ _ => id), fun g hg => ⟨(P.blk g hg).1, Nat.lt_of_lt_of_le (P.blk g hg).2 hb.size⟩, P.blw.trans hb⟩
theorem PutS.next {w0 W w' : World} {v : Value} {l : List T3} {g cap : Nat} {t : T3} (P : PutS w0 W v l)
    (own' : w'.ownsRow 0 56 3 (.slice (some ⟨g, 0, none⟩) (l.length + 1) cap) (l.length + 1) (slotCells l ++ [.int .i64 t.1, .int .i64 t.2.1, .int .i64 t.2.2])) (gr : W.grownBy w' v.ownBlock) (hg : v.ownBlock = some g ∨ g = W.heap.size) (hgl : g < w'.heap.size) :
    PutS w0 w' (.slice (some ⟨g, 0, none⟩) (l.length + 1) cap) (l ++ [t]) := by
  have hm : Mod (fun x => v.ownBlock = some x) W w' := grown_mod gr
  refine ⟨?_, fun x hx => ?_, Mod.blw P.blw hm (fun i hi => (P.blk i hi).1)⟩
  · rw [slotCells_snoc, List.length_append]
    exact own'
  · simp only [Value.ownBlock, Option.some.injEq] at hx
    subst hx
    rcases hg with hg | hg
    · exact ⟨(P.blk _ hg).1, hgl⟩
    · exact ⟨by have := P.blw.size; omega, hgl⟩
/-- The slots f, n of them, at 'ao': owned by X. -/
def SlotsOwn (X : Nat → Prop) (w : World) (ao : Option Addr) (n : Nat) (f : Nat → T3) : Prop :=
  n ≤ 2 ∧ (0 < n → ∃ b, X b ∧ ao = some ⟨b, 0, none⟩ ∧ Row w b (n * 3) (sc f))
theorem SlotsOwn.mono {X Y : Nat → Prop} {w : World} {ao : Option Addr} {n : Nat} {f : Nat → T3} (h : SlotsOwn X w ao n f) (hxy : ∀ b, X b → Y b) : SlotsOwn Y w ao n f :=
  ⟨h.1, fun hn => let ⟨b, hx, e, hr⟩ := h.2 hn; ⟨b, hxy _ hx, e, hr⟩⟩
theorem SlotsOwn.mod {X Z : Nat → Prop} {w w' : World} {ao : Option Addr} {n : Nat} {f : Nat → T3} (h : SlotsOwn X w ao n f) (hb : Mod Z w w') (hxz : ∀ b, X b → ¬ Z b) : SlotsOwn X w' ao n f :=
  ⟨h.1, fun hn => let ⟨b, hx, e, hr⟩ := h.2 hn; ⟨b, hx, e, hr.mod hb (hxz _ hx)⟩⟩
theorem SlotsOwn.blw {X : Nat → Prop} {w w' : World} {ao : Option Addr} {n : Nat} {f : Nat → T3} (h : SlotsOwn X w ao n f) (hb : Blw w w') : SlotsOwn X w' ao n f := h.mod (hb.mod (fun _ => False)) (fun _ _ => id)
theorem PutS.owned {w0 wr : World} {v : Value} {l : List T3} (P : PutS w0 wr v l) (hl : l.length ≤ 2) : ∃ ao cap, v = .slice ao l.length cap ∧ SlotsOwn (fun b => w0.heap.size ≤ b ∧ b < wr.heap.size) wr ao l.length (lf l) := by
  have own := P.own
  have blk := P.blk
  rcases P.own.2 with ⟨e1, e2⟩ | ⟨g, cap, cur, rfl, r⟩
  · subst e1
    exact ⟨none, 0, by rw [e2], hl, fun h => absurd h (by omega)⟩
  · exact ⟨_, cap, rfl, hl, fun h => ⟨g, blk g rfl, rfl, owned_rowN own (fun i hi => slotCells_get l i (by omega)) h⟩⟩
open Classical in
/-- The slots that stand in the first k lines. -/
noncomputable def rdL (c : Nat → Nat → Int) : Nat → List T3
  | 0 => []
  | k + 1 => rdL c k ++ (if recI (c k) k then [(c k 0, c k 1, c k 2)] else [])
theorem rdL_yes {c : Nat → Nat → Int} {k : Nat} (h : recI (c k) k) : rdL c (k + 1) = rdL c k ++ [(c k 0, c k 1, c k 2)] := by
  simp [rdL, h]
theorem rdL_no {c : Nat → Nat → Int} {k : Nat} (h : ¬ recI (c k) k) : rdL c (k + 1) = rdL c k := by
  simp [rdL, h]
theorem rdL_len (c : Nat → Nat → Int) : ∀ k, (rdL c k).length ≤ k := by
  intro k
  induction k with
  | zero => simp [rdL]
  | succ k ih =>
    by_cases h : recI (c k) k
    · rw [rdL_yes h, List.length_append]; simp only [List.length_cons, List.length_nil]; omega
    · rw [rdL_no h]; omega
theorem tinfo56 : (Try.prog.info? 56).map (fun i => (i.zero, i.size, i.bytes)) = some (some (.agg #[.int .i64 0, .int .i64 0, .int .i64 0]), 3, 24) := by kernel_rfl
/-- What a function of slots and a bool answers, in new memory. -/
abbrev GivesS (out : Nat → (Nat → T3) → Bool → Prop) (w : World) (e : Ending) (w' : World) : Prop :=
  ∃ (ao : Option Addr) (n c : Nat) (f : Nat → T3) (b : Bool), e = .returned (.tuple #[.slice ao n c, .bool b]) ∧ out n f b ∧ SlotsOwn (fun b => w.heap.size ≤ b ∧ b < w'.heap.size) w' ao n f ∧ Blw w w'
/-- What ReadSlots answers. -/
def rsOut (M : MD) (n : Nat) (f : Nat → T3) (b : Bool) : Prop := (M.Good ∧ n = (rdL M.v2 2).length ∧ f = lf (rdL M.v2 2) ∧ b = true) ∨ (¬ M.Good ∧ n = 0 ∧ f = (fun _ => (0, 0, 0)) ∧ b = false)
theorem rsOut_same {M : MD} {n n' : Nat} {f f' : Nat → T3} {b b' : Bool} (h : rsOut M n f b) (k : rsOut M n' f' b') : n = n' ∧ f = f' ∧ b = b' := by
  rcases h with ⟨g, rfl, rfl, rfl⟩ | ⟨g, rfl, rfl, rfl⟩ <;> rcases k with ⟨g', rfl, rfl, rfl⟩ | ⟨g', rfl, rfl, rfl⟩
  · exact ⟨rfl, rfl, rfl⟩
  · exact absurd g g'
  · exact absurd g' g
  · exact ⟨rfl, rfl, rfl⟩
theorem zero_givesS {M : MD} {w w1 : World} (ho : ¬ M.Good) (hb : Blw w w1) : GivesS (rsOut M) w (.returned (.tuple #[.slice none 0 0, .bool false])) w1 :=
  ⟨none, 0, 0, _, false, rfl, Or.inr ⟨ho, rfl, rfl, rfl⟩, ⟨by omega, fun h => absurd h (Nat.lt_irrefl 0)⟩, hb⟩
end Go.Proofs.Ytnbcjdoohmjghaa
