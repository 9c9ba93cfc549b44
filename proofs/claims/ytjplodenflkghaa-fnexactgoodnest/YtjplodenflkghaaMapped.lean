/- Lists of places that are gathered, and MappedIn. -/
import Derived.Test.YtjplodenflkghaaWalk
namespace Go.Proofs.Ytjplodenflkghaa
open Go.RowKit
set_option linter.unusedSimpArgs false
set_option linter.unusedVariables false
def lf (L : List Nat) : Nat → Int := fun i => (L.getD i 0 : Nat)
def pk (p : Nat → Bool) (j : Nat) : List Nat := (List.range j).filter p
theorem pk_len (p : Nat → Bool) (j : Nat) : (pk p j).length ≤ j := by
  have := List.length_filter_le p (List.range j)
  simpa [pk] using this
theorem pk_yes {p : Nat → Bool} {j : Nat} (h : p j = true) : pk p (j + 1) = pk p j ++ [j] := by
  unfold pk; rw [List.range_succ, List.filter_append]; simp [h]
theorem pk_no {p : Nat → Bool} {j : Nat} (h : p j = false) : pk p (j + 1) = pk p j := by
  unfold pk; rw [List.range_succ, List.filter_append]; simp [h]
/-- The slice holds the list. -/
def BufL (X : Nat → Prop) (w : World) (v : Value) (L : List Nat) : Prop := BufI X w v L.length (lf L)
theorem BufL.nil (X : Nat → Prop) (w : World) : BufL X w (.slice none 0 0) [] := Buf.nil _ _ _ _ _
theorem BufL.push {X : Nat → Prop} {W : World} {v : Value} {L : List Nat} (h : BufL X W v L) (hn : L.length ≤ 1048576) (x : Nat) :
    ∃ ao' cap w', (Builtin.append_ #[26, 26] 26 #[v, .slice (some ⟨W.heap.size, 0, none⟩) 1 1]).run Try.prog (W.alloc (.cells #[.int .i64 x] 3)) = .ok (.slice ao' (L.length + 1) cap) w' ∧ BufL (fun b => (X b ∨ W.heap.size < b) ∧ b < w'.heap.size) w' (.slice ao' (L.length + 1) cap) (L ++ [x]) ∧ Mod (fun b => v.ownBlock = some b) W w' := by
  obtain ⟨a, cap, w', h1, h2, h3⟩ := pushI h hn (x : Int)
  refine ⟨a, cap, w', h1, ?_, h3⟩
  unfold BufL
  rw [List.length_append, List.length_singleton]
  refine Buf.congr h2 (fun i hi => ?_)
  simp only [ic, snoc', lf]
  by_cases e : i = L.length
  · subst e; simp
  · have : i < L.length := by omega
    rw [if_neg e, List.getD_eq_getElem?_getD, List.getD_eq_getElem?_getD, List.getElem?_append_left this]
/-- What stands while places are gathered into a new list. -/
structure Gath (w wr : World) (v : Value) (L : List Nat) : Prop where
  buf : BufL (fun x => w.heap.size ≤ x ∧ x < wr.heap.size) wr v L
  blw : Blw w wr
theorem Gath.push {w wr : World} {v : Value} {L : List Nat} (h : Gath w wr v L) (hn : L.length ≤ 1048576) (x : Nat) :
    ∃ ao' cap w', (Builtin.append_ #[26, 26] 26 #[v, .slice (some ⟨wr.heap.size, 0, none⟩) 1 1]).run Try.prog (wr.alloc (.cells #[.int .i64 x] 3)) = .ok (.slice ao' (L.length + 1) cap) w' ∧ Gath w w' (.slice ao' (L.length + 1) cap) (L ++ [x]) := by
  obtain ⟨a, cap, w', h1, h2, h3⟩ := h.buf.push hn x
  have hs := h.blw.size
  have hx : ∀ b, v.ownBlock = some b → w.heap.size ≤ b := fun b hb => (h.buf.2 b hb).1
  refine ⟨a, cap, w', h1, ⟨Buf.mono h2 (fun b hb => ⟨?_, hb.2⟩), Mod.blw h.blw h3 (fun b hb => hx b hb)⟩⟩
  rcases hb.1 with h | h
  · exact h.1
  · omega
theorem Gath.go {w wr w' : World} {v : Value} {L : List Nat} (h : Gath w wr v L) (hb : Blw wr w') : Gath w w' v L :=
  ⟨(Buf.blw h.buf hb).mono (fun x hx => ⟨hx.1, Nat.lt_of_lt_of_le hx.2 hb.size⟩), h.blw.trans hb⟩
theorem Gath.own {w wr : World} {v : Value} {L : List Nat} (h : Gath w wr v L) (hn : L.length ≤ 1048576) : ∃ ao cap, v = .slice ao L.length cap ∧ IntsOwn (fun x => w.heap.size ≤ x ∧ x < wr.heap.size) wr ao L.length (lf L) := BufI.own h.buf (by omega)
theorem IntsAt.st {Y : Nat → Prop} {W : World} {ao : Option Addr} {n : Nat} {f : Nat → Int} (h : IntsAt Y W ao n f) (hY : ∀ b, Y b → b < W.heap.size) : St Y (fun W => IntsAt Y W ao n f) W :=
  ⟨hY, fun _ _ hm hx => h.mod hm hx⟩
theorem IntsOwn.st {Y : Nat → Prop} {W : World} {ao : Option Addr} {n : Nat} {f : Nat → Int} (h : IntsOwn Y W ao n f) (hY : ∀ b, Y b → b < W.heap.size) : St Y (fun W => IntsOwn Y W ao n f) W :=
  ⟨hY, fun _ _ hm hx => h.mod hm hx⟩
theorem zero_givesI {out : Nat → (Nat → Int) → Bool → Prop} {w w1 : World} (ho : out 0 (fun _ => 0) false) (hb : Blw w w1) : GivesI out w (.returned (.tuple #[.slice none 0 0, .bool false])) w1 :=
  ⟨none, 0, 0, fun _ => 0, false, rfl, ho, by omega, IntsOwn.nil _ _ _ _, hb⟩
theorem fieldMay (x y : Int) (w : World) : (Instr.field 144 (.agg #[.int .i64 x, .int .i64 y]) 1).run Try.prog w = .ok (.int .i64 y) w := by kernel_rfl
def mpP (c : Nat → Int) (m : Nat → Nat → Int) : Nat → Bool := fun a => decide (0 < lfP c m a)
def miOut (B : BD) (n : Nat) (f : Nat → Int) (r : Bool) : Prop := (B.Good ∧ n = (pk (mpP B.c B.D.m) 16).length ∧ f = lf (pk (mpP B.c B.D.m) 16) ∧ r = true) ∨ (¬ B.Good ∧ n = 0 ∧ r = false)
theorem miOut_same {B : BD} {n n' : Nat} {f f' : Nat → Int} {r r' : Bool} (h : miOut B n f r) (k : miOut B n' f' r') : (n = n' ∧ ∀ i, i < n → f i = f' i) ∧ r = r' := by
  rcases h with ⟨g, rfl, rfl, rfl⟩ | ⟨g, rfl, rfl⟩
  · rcases k with ⟨_, rfl, rfl, rfl⟩ | ⟨g', _, _⟩
    · exact ⟨⟨rfl, fun _ _ => rfl⟩, rfl⟩
    · exact absurd g g'
  · rcases k with ⟨g', _⟩ | ⟨_, rfl, rfl⟩
    · exact absurd g' g
    · exact ⟨⟨rfl, fun i hi => absurd hi (Nat.not_lt_zero _)⟩, rfl⟩
end Go.Proofs.Ytjplodenflkghaa
