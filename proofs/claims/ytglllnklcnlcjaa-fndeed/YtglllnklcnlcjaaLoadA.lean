/- 'spec.LoadAll' and 'impl.LoadAll'. -/
import Derived.Test.YtglllnklcnlcjaaStoreB
namespace Go.Proofs.Ytglllnklcnlcjaa
open Go.RowKit
set_option linter.unusedSimpArgs false
/-- A function that answers numbers and a bool, in new memory. -/
abbrev GivesI (out : Nat → (Nat → Int) → Bool → Prop) (w : World) (e : Ending) (w' : World) : Prop :=
  ∃ (ao : Option Addr) (n c : Nat) (f : Nat → Int) (b : Bool), e = .returned (.tuple #[.slice ao n c, .bool b]) ∧ out n f b ∧ IntsOwn (fun b => w.heap.size ≤ b ∧ b < w'.heap.size) w' ao n f ∧ Blw w w'
/-- The words from a on. -/
def wordsFrom (c : Nat → Nat → Int) (a : Nat) : Nat → Int := fun i => c ((a + i) / 4) ((a + i) % 4)
/-- What LoadAll answers. -/
def laOut (M : MD) (at_ many : Int) (n : Nat) (f : Nat → Int) (b : Bool) : Prop :=
  (M.Good ∧ stretch at_ many ∧ n = many.toNat ∧ f = wordsFrom M.v2 at_.toNat ∧ b = true) ∨ (¬ (M.Good ∧ stretch at_ many) ∧ n = 0 ∧ f = (fun _ => 0) ∧ b = false)
theorem laOut_same {M : MD} {at_ many : Int} {n n' : Nat} {f f' : Nat → Int} {b c : Bool} (h : laOut M at_ many n f b) (k : laOut M at_ many n' f' c) : n = n' ∧ f = f' ∧ b = c := by
  rcases h with ⟨g, s, rfl, rfl, rfl⟩ | ⟨g, rfl, rfl, rfl⟩
  · rcases k with ⟨_, _, rfl, rfl, rfl⟩ | ⟨g', rfl, rfl, rfl⟩
    · exact ⟨rfl, rfl, rfl⟩
    · exact absurd ⟨g, s⟩ g'
  · rcases k with ⟨g', s, rfl, rfl, rfl⟩ | ⟨g', rfl, rfl, rfl⟩
    · exact absurd ⟨g', s⟩ g
    · exact ⟨rfl, rfl, rfl⟩
theorem laOut_small {M : MD} {at_ many : Int} {n : Nat} {f : Nat → Int} {b : Bool} (h : laOut M at_ many n f b) : n ≤ 8 := by
  rcases h with ⟨g, s, rfl, rfl, rfl⟩ | ⟨g, rfl, rfl, rfl⟩
  · have := s.2.1; omega
  · omega
theorem zero_givesI {out : Nat → (Nat → Int) → Bool → Prop} {w w1 : World} (ho : out 0 (fun _ => 0) false) (hb : Blw w w1) : GivesI out w (.returned (.tuple #[.slice none 0 0, .bool false])) w1 :=
  ⟨none, 0, 0, _, false, rfl, ho, ⟨Nat.zero_le _, fun h => absurd h (Nat.lt_irrefl 0)⟩, hb⟩
/-- The list that the model appends to. -/
structure Put (Y : Nat → Prop) (w wr : World) (m : MV) (M : MD) (v : Value) (k : Nat) (f : Nat → Int) : Prop where
  own : wr.ownsRow 0 3 1 v k ((List.range k).map fun i => .int .i64 (f i))
  blk : ∀ g, v.ownBlock = some g → w.heap.size < g ∧ g < wr.heap.size
  blw : Blw w wr
  box : Row wr w.heap.size 3 (fun i => if i = 0 then .slice m.a1 M.n1 m.c1 else if i = 1 then .slice m.a2 M.n2 m.c2 else .slice m.a3 M.n3 m.c3)
  h : MemAt Y wr m M
theorem put_next {Y : Nat → Prop} {w wr W w' : World} {m : MV} {M : MD} {v : Value} {k g cap : Nat} {f : Nat → Int} (P : Put Y w wr m M v k f) (hb : Blw wr W) (hY : ∀ b, Y b → b < w.heap.size)
    (own' : w'.ownsRow 0 3 1 (.slice (some ⟨g, 0, none⟩) (k + 1) cap) (k + 1) (((List.range k).map fun i => .int .i64 (f i)) ++ [.int .i64 (f k)])) (gr : W.grownBy w' v.ownBlock) (hg : v.ownBlock = some g ∨ g = W.heap.size) (hgl : g < w'.heap.size) :
    Put Y w w' m M (.slice (some ⟨g, 0, none⟩) (k + 1) cap) (k + 1) f := by
  have hm : Mod (fun x => v.ownBlock = some x) W w' := grown_mod gr
  have bl := P.box.lt
  have hs := hb.size
  have nb : ∀ b, b ≤ w.heap.size → ¬ v.ownBlock = some b := fun b h1 h2 => by have := (P.blk b h2).1; omega
  refine ⟨?_, fun x hx => ?_, Mod.blw (P.blw.trans hb) hm (fun i hi => by have := (P.blk i hi).1; omega), (P.box.blw hb).mod hm (nb _ (Nat.le_refl _)), (P.h.blw hb).mod hm (fun b hb => nb b (by have := hY b hb; omega))⟩
  · rw [List.range_succ, List.map_append]
    exact own'
  · simp only [Value.ownBlock, Option.some.injEq] at hx
    subst hx
    rcases hg with hg | hg
    · exact ⟨(P.blk _ hg).1, hgl⟩
    · exact ⟨by omega, hgl⟩
theorem put_ints {Y : Nat → Prop} {w wr : World} {m : MV} {M : MD} {v : Value} {k : Nat} {f : Nat → Int} (P : Put Y w wr m M v k f) (hk : k ≤ 8) : ∃ ao cap, v = .slice ao k cap ∧ IntsOwn (fun b => w.heap.size ≤ b ∧ b < wr.heap.size) wr ao k f := by
  have own := P.own
  have blk := P.blk
  rcases P.own.2 with ⟨e1, e2⟩ | ⟨g, cap, cur, rfl, r⟩
  · subst e1
    obtain rfl : k = 0 := by simpa using e2
    exact ⟨none, 0, rfl, Nat.zero_le _, fun h => absurd h (Nat.lt_irrefl 0)⟩
  · refine ⟨_, cap, rfl, by omega, fun h => ⟨g, ?_, rfl, owned_row own (fun i hi => by simp [hi]) h⟩⟩
    have := blk g rfl
    exact ⟨by omega, this.2⟩
end Go.Proofs.Ytglllnklcnlcjaa
