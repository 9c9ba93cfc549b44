/- Merged by program, in this order: Base, Sf, Ints, Book, Undo, Rec, LawF, Cli, Cb, Gc, Buf, Ec, OpenB, Draw. -/
import Derived.Test.YtneafnfdemodnaaDoorRows
import Derived.WalkKit
import Derived.WalkSpells
import Derived.WalkLawsBesides
import Derived.OpenShut
import Derived.Deep.LoopGhost
import Derived.Deep.OwnRows
import Derived.Deep.QuietTactic
import Derived.BigQuiet
import Derived.Deep.RegionWith
import Derived.Deep.Cut
import Derived.Laws.CopyOwn
import Derived.Deep.CutRange
import Derived.Deep.RegionHeld3
import Derived.Deep.AppendLies
import Derived.Laws.OwnMore
import Derived.ProofKit
import Derived.ChangeOld
import Derived.Lib.SmallJoins
import Derived.Deep.Slices
import Derived.Deep.SlicePairs
import Derived.Deep.MidRow
import Derived.Laws.BitsAllLaws
/- Base: what is said of worlds: what slices of numbers, of bools and of lines read as, what is owned, what has turned. -/
namespace Go.Proofs.YtneafnfdemodnaaDoor
open Go.RowKit

/-- Nothing that was there has turned. -/
def Blw (w w' : World) : Prop := Below w.heap.size w w'
theorem Blw.refl (w : World) : Blw w w := Below.refl _ _
theorem Blw.size {w w' : World} (h : Blw w w') : w.heap.size ≤ w'.heap.size := Below.size h
theorem Blw.trans {a b c : World} (h : Blw a b) (k : Blw b c) : Blw a c := Below.trans h (Below.mono k h.size)
theorem Blw.drew {a b : World} (h : Blw a b) : Blw a b.drew := Below.drew h
theorem Blw.drewN {a b : World} (h : Blw a b) (n : Nat) : Blw a (b.drewN n) := ⟨h.os, h.tape, h.output, by simpa using h.size, by simpa using h.block⟩
theorem Blw.alloc {a b : World} (h : Blw a b) (o : Obj) : Blw a (b.alloc o) := Below.alloc h h.size o
theorem Blw.setCell {a b : World} (h : Blw a b) {p : Addr} (hp : a.heap.size ≤ p.block) (u : Value) : Blw a (b.setCell p u) := Below.setCell h hp u
theorem Blw.cell {w w' : World} (h : Blw w w') {p : Addr} {v : Value} (hp : w.cell? p = some v) : w'.cell? p = some v := by
  rw [Below.cell h (World.block_lt_of_cell? _ _ hp)]; exact hp
theorem Blw.frozen {w w' : World} (h : Blw w w') {p : Addr} (hp : p.block < w.heap.size) : w'.frozen? p = w.frozen? p := Below.frozen h hp

/-- Of what was there only blocks in X have turned. -/
structure Mod (X : Nat → Prop) (w w' : World) : Prop where
  os : w'.os = w.os
  tape : w'.tape = w.tape
  output : w'.output = w.output
  size : w.heap.size ≤ w'.heap.size
  block : ∀ k, k < w.heap.size → ¬ X k → w'.heap[k]? = w.heap[k]?
theorem Mod.refl (X : Nat → Prop) (w : World) : Mod X w w := ⟨rfl, rfl, rfl, Nat.le_refl _, fun _ _ _ => rfl⟩
theorem Mod.trans {X : Nat → Prop} {a b c : World} (h : Mod X a b) (k : Mod X b c) : Mod X a c :=
  ⟨k.os.trans h.os, k.tape.trans h.tape, k.output.trans h.output, Nat.le_trans h.size k.size, fun i hi hx => (k.block i (Nat.lt_of_lt_of_le hi h.size) hx).trans (h.block i hi hx)⟩
theorem Mod.mono {X Y : Nat → Prop} {a b : World} (h : Mod X a b) (hxy : ∀ k, X k → Y k) : Mod Y a b := ⟨h.os, h.tape, h.output, h.size, fun i hi hx => h.block i hi (fun hh => hx (hxy i hh))⟩
theorem Blw.mod {w w' : World} (h : Blw w w') (X : Nat → Prop) : Mod X w w' := ⟨h.os, h.tape, h.output, h.size, fun i hi _ => h.block i hi⟩
theorem Mod.blw {a b c : World} {X : Nat → Prop} (h : Blw a b) (k : Mod X b c) (hx : ∀ i, X i → a.heap.size ≤ i) : Blw a c :=
  ⟨k.os.trans h.os, k.tape.trans h.tape, k.output.trans h.output, Nat.le_trans h.size k.size, fun i hi => (k.block i (Nat.lt_of_lt_of_le hi h.size) (fun hh => by have := hx i hh; omega)).trans (h.block i hi)⟩
theorem Mod.setCell {X : Nat → Prop} (w : World) {p : Addr} (hp : X p.block) (u : Value) : Mod X w (w.setCell p u) :=
  ⟨rfl, rfl, rfl, by simp [World.setCell], fun k _ hk => Below.heap_setCell _ _ _ _ (fun e => hk (e ▸ hp))⟩
theorem Mod.cell {X : Nat → Prop} {w w' : World} (h : Mod X w w') {p : Addr} {v : Value} (hp : w.cell? p = some v) (hx : ¬ X p.block) : w'.cell? p = some v := by
  rw [World.cell?_of_block (w := w) (h.block p.block (World.block_lt_of_cell? _ _ hp) hx)]; exact hp

/-- Block b is a row of cells, none frozen, of which the first n hold f. -/
def Row (w : World) (b n : Nat) (f : Nat → Value) : Prop := ∃ (c : Array Value) (t : TypeId), w.heap[b]? = some (.cells c t (0, 0)) ∧ n ≤ c.size ∧ ∀ i, i < n → c[i]? = some (f i)
theorem Row.cell {w : World} {b n : Nat} {f : Nat → Value} (h : Row w b n f) {i : Nat} (hi : i < n) : w.cell? ⟨b, i, none⟩ = some (f i) := by
  obtain ⟨c, t, hb, _, hc⟩ := h
  simp [World.cell?, hb, hc i hi]
theorem Row.frozen {w : World} {b n : Nat} {f : Nat → Value} (h : Row w b n f) (i : Nat) : w.frozen? ⟨b, i, none⟩ = false := by
  obtain ⟨c, t, hb, _⟩ := h
  simp [World.frozen?, hb]
theorem Row.lt {w : World} {b n : Nat} {f : Nat → Value} (h : Row w b n f) : b < w.heap.size := by
  obtain ⟨c, t, hb, _⟩ := h
  obtain ⟨hlt, _⟩ := Array.getElem?_eq_some_iff.1 hb
  exact hlt
theorem Row.congr {w : World} {b n : Nat} {f g : Nat → Value} (h : Row w b n f) (e : ∀ i, i < n → f i = g i) : Row w b n g := by
  obtain ⟨c, t, hb, hn, hc⟩ := h
  exact ⟨c, t, hb, hn, fun i hi => by rw [hc i hi, e i hi]⟩
theorem Row.of_block {w w' : World} {b n : Nat} {f : Nat → Value} (h : Row w b n f) (e : w'.heap[b]? = w.heap[b]?) : Row w' b n f := by
  obtain ⟨c, t, hb, hn, hc⟩ := h
  exact ⟨c, t, e.trans hb, hn, hc⟩
theorem Row.blw {w w' : World} {b n : Nat} {f : Nat → Value} (h : Row w b n f) (hb : Blw w w') : Row w' b n f := h.of_block (hb.block _ h.lt)
theorem Row.mod {X : Nat → Prop} {w w' : World} {b n : Nat} {f : Nat → Value} (h : Row w b n f) (hb : Mod X w w') (hx : ¬ X b) : Row w' b n f := h.of_block (hb.block _ h.lt hx)
theorem Row.set {w : World} {b n : Nat} {f : Nat → Value} (h : Row w b n f) (i : Nat) (v : Value) : Row (w.setCell ⟨b, i, none⟩ v) b n (fun j => if j = i then v else f j) := by
  obtain ⟨c, t, hb, hn, hc⟩ := h
  refine ⟨c.setIfInBounds i v, t, ?_, by simpa using hn, fun j hj => ?_⟩
  · simp [World.setCell, Array.getElem?_modify, hb]
  · rw [Array.getElem?_setIfInBounds]
    by_cases e : j = i
    · subst e
      simp [Nat.lt_of_lt_of_le hj hn]
    · rw [if_neg (fun h => e h.symm)]
      show c[j]? = some (if j = i then v else f j)
      rw [if_neg e]
      exact hc j hj
theorem Row.setOther {w : World} {b n : Nat} {f : Nat → Value} (h : Row w b n f) {a : Addr} (ha : b ≠ a.block) (v : Value) : Row (w.setCell a v) b n f := h.of_block (Below.heap_setCell _ _ _ _ ha)
theorem Row.made (w : World) (z : Value) (n : Nat) (t : TypeId) : Row (w.alloc (.cells (madeCells #[z] n) t)) w.heap.size n (fun _ => z) := by
  obtain ⟨c, h1, h2, h3⟩ := World.rowIs_made w z n t
  exact ⟨c, t, h1, by omega, h3⟩

/-- The slice at 'ao' reads as the n numbers f, all in blocks of Y. -/
def IntsAt (Y : Nat → Prop) (w : World) (ao : Option Addr) (n : Nat) (f : Nat → Int) : Prop :=
  n ≤ 9223372036854775807 ∧ ∀ i, i < n → ∃ b o, ao = some ⟨b, o, none⟩ ∧ Y b ∧ w.cell? ⟨b, o + i, none⟩ = some (.int .i64 (f i))
def BoolsAt (Y : Nat → Prop) (w : World) (ao : Option Addr) (n : Nat) (f : Nat → Bool) : Prop :=
  n ≤ 9223372036854775807 ∧ ∀ i, i < n → ∃ b o, ao = some ⟨b, o, none⟩ ∧ Y b ∧ w.cell? ⟨b, o + i, none⟩ = some (.bool (f i))
def LinesAt (Y : Nat → Prop) (w : World) (ao : Option Addr) (n : Nat) (len : Nat → Nat) (v : Nat → Nat → Int) : Prop :=
  n ≤ 9223372036854775807 ∧ ∀ i, i < n → ∃ b o a c, ao = some ⟨b, o, none⟩ ∧ Y b ∧ w.cell? ⟨b, o + i, none⟩ = some (.slice a (len i) c) ∧ IntsAt Y w a (len i) (v i)
/-- What a memory holds: how many lines, how long each, its words; likewise the cache; the marks. -/
structure MD where
  n1 : Nat
  n2 : Nat
  n3 : Nat
  l1 : Nat → Nat
  l2 : Nat → Nat
  v1 : Nat → Nat → Int
  v2 : Nat → Nat → Int
  d : Nat → Bool
/-- The value of a memory: three slices. -/
structure MV where
  a1 : Option Addr
  a2 : Option Addr
  a3 : Option Addr
  c1 : Nat
  c2 : Nat
  c3 : Nat
abbrev MV.val (m : MV) (M : MD) : Value := .agg #[.slice m.a1 M.n1 m.c1, .slice m.a2 M.n2 m.c2, .slice m.a3 M.n3 m.c3]
structure MemAt (Y : Nat → Prop) (w : World) (m : MV) (M : MD) : Prop where
  s : LinesAt Y w m.a1 M.n1 M.l1 M.v1
  c : LinesAt Y w m.a2 M.n2 M.l2 M.v2
  d : BoolsAt Y w m.a3 M.n3 M.d

theorem IntsAt.blw {Y : Nat → Prop} {w w' : World} {ao : Option Addr} {n : Nat} {f : Nat → Int} (h : IntsAt Y w ao n f) (hb : Blw w w') : IntsAt Y w' ao n f := by
  refine ⟨h.1, fun i hi => ?_⟩
  obtain ⟨b, o, h1, hY, h2⟩ := h.2 i hi
  exact ⟨b, o, h1, hY, hb.cell h2⟩
theorem BoolsAt.blw {Y : Nat → Prop} {w w' : World} {ao : Option Addr} {n : Nat} {f : Nat → Bool} (h : BoolsAt Y w ao n f) (hb : Blw w w') : BoolsAt Y w' ao n f := by
  refine ⟨h.1, fun i hi => ?_⟩
  obtain ⟨b, o, h1, hY, h2⟩ := h.2 i hi
  exact ⟨b, o, h1, hY, hb.cell h2⟩
theorem LinesAt.blw {Y : Nat → Prop} {w w' : World} {ao : Option Addr} {n : Nat} {len : Nat → Nat} {v : Nat → Nat → Int} (h : LinesAt Y w ao n len v) (hb : Blw w w') : LinesAt Y w' ao n len v := by
  refine ⟨h.1, fun i hi => ?_⟩
  obtain ⟨b, o, a, c, h1, hY, h2, h3⟩ := h.2 i hi
  exact ⟨b, o, a, c, h1, hY, hb.cell h2, h3.blw hb⟩
theorem MemAt.blw {Y : Nat → Prop} {w w' : World} {m : MV} {M : MD} (h : MemAt Y w m M) (hb : Blw w w') : MemAt Y w' m M :=
  ⟨h.s.blw hb, h.c.blw hb, h.d.blw hb⟩
theorem IntsAt.mod {X Y : Nat → Prop} {w w' : World} {ao : Option Addr} {n : Nat} {f : Nat → Int} (h : IntsAt Y w ao n f) (hb : Mod X w w') (hxy : ∀ k, Y k → ¬ X k) : IntsAt Y w' ao n f := by
  refine ⟨h.1, fun i hi => ?_⟩
  obtain ⟨b, o, h1, hY, h2⟩ := h.2 i hi
  exact ⟨b, o, h1, hY, hb.cell h2 (hxy _ hY)⟩
theorem BoolsAt.mod {X Y : Nat → Prop} {w w' : World} {ao : Option Addr} {n : Nat} {f : Nat → Bool} (h : BoolsAt Y w ao n f) (hb : Mod X w w') (hxy : ∀ k, Y k → ¬ X k) : BoolsAt Y w' ao n f := by
  refine ⟨h.1, fun i hi => ?_⟩
  obtain ⟨b, o, h1, hY, h2⟩ := h.2 i hi
  exact ⟨b, o, h1, hY, hb.cell h2 (hxy _ hY)⟩
theorem LinesAt.mod {X Y : Nat → Prop} {w w' : World} {ao : Option Addr} {n : Nat} {len : Nat → Nat} {v : Nat → Nat → Int} (h : LinesAt Y w ao n len v) (hb : Mod X w w') (hxy : ∀ k, Y k → ¬ X k) : LinesAt Y w' ao n len v := by
  refine ⟨h.1, fun i hi => ?_⟩
  obtain ⟨b, o, a, c, h1, hY, h2, h3⟩ := h.2 i hi
  exact ⟨b, o, a, c, h1, hY, hb.cell h2 (hxy _ hY), h3.mod hb hxy⟩
theorem MemAt.mod {X Y : Nat → Prop} {w w' : World} {m : MV} {M : MD} (h : MemAt Y w m M) (hb : Mod X w w') (hxy : ∀ k, Y k → ¬ X k) : MemAt Y w' m M :=
  ⟨h.s.mod hb hxy, h.c.mod hb hxy, h.d.mod hb hxy⟩
theorem IntsAt.congr {Y : Nat → Prop} {w : World} {ao : Option Addr} {n : Nat} {f g : Nat → Int} (h : IntsAt Y w ao n f) (e : ∀ i, i < n → f i = g i) : IntsAt Y w ao n g := by
  refine ⟨h.1, fun i hi => ?_⟩
  obtain ⟨b, o, h1, hY, h2⟩ := h.2 i hi
  exact ⟨b, o, h1, hY, by rw [← e i hi]; exact h2⟩
theorem BoolsAt.congr {Y : Nat → Prop} {w : World} {ao : Option Addr} {n : Nat} {f g : Nat → Bool} (h : BoolsAt Y w ao n f) (e : ∀ i, i < n → f i = g i) : BoolsAt Y w ao n g := by
  refine ⟨h.1, fun i hi => ?_⟩
  obtain ⟨b, o, h1, hY, h2⟩ := h.2 i hi
  exact ⟨b, o, h1, hY, by rw [← e i hi]; exact h2⟩
theorem LinesAt.congr {Y : Nat → Prop} {w : World} {ao : Option Addr} {n : Nat} {len len' : Nat → Nat} {v v' : Nat → Nat → Int} (h : LinesAt Y w ao n len v) (e : ∀ i, i < n → len i = len' i) (e' : ∀ i, i < n → ∀ j, j < len i → v i j = v' i j) : LinesAt Y w ao n len' v' := by
  refine ⟨h.1, fun i hi => ?_⟩
  obtain ⟨b, o, a, c, h1, hY, h2, h3⟩ := h.2 i hi
  refine ⟨b, o, a, c, h1, hY, by rw [← e i hi]; exact h2, ?_⟩
  rw [← e i hi]
  exact h3.congr (e' i hi)

/-! ### What is owned: it may be written -/
def IntsOwn (X : Nat → Prop) (w : World) (ao : Option Addr) (n : Nat) (f : Nat → Int) : Prop :=
  n ≤ 9223372036854775807 ∧ (0 < n → ∃ b, X b ∧ ao = some ⟨b, 0, none⟩ ∧ Row w b n (fun i => .int .i64 (f i)))
def BoolsOwn (X : Nat → Prop) (w : World) (ao : Option Addr) (n : Nat) (f : Nat → Bool) : Prop :=
  n ≤ 9223372036854775807 ∧ (0 < n → ∃ b, X b ∧ ao = some ⟨b, 0, none⟩ ∧ Row w b n (fun i => .bool (f i)))
def LinesOwn (X : Nat → Prop) (w : World) (ao : Option Addr) (n : Nat) (len : Nat → Nat) (v : Nat → Nat → Int) : Prop :=
  n ≤ 9223372036854775807 ∧ (0 < n → ∃ (b : Nat) (F c : Nat → Nat), X b ∧ ao = some ⟨b, 0, none⟩ ∧ Row w b n (fun i => .slice (some ⟨F i, 0, none⟩) (len i) (c i)) ∧
    (∀ i, i < n → len i ≤ 9223372036854775807 ∧ X (F i) ∧ F i ≠ b ∧ Row w (F i) (len i) (fun t => .int .i64 (v i t))) ∧ ∀ i j, i < n → j < n → i ≠ j → F i ≠ F j)
structure MemOwn (X : Nat → Prop) (w : World) (m : MV) (M : MD) : Prop where
  ex : ∃ X1 X2 X3 : Nat → Prop, (∀ b, X1 b → X b ∧ ¬ X2 b ∧ ¬ X3 b) ∧ (∀ b, X2 b → X b ∧ ¬ X3 b) ∧ (∀ b, X3 b → X b) ∧ LinesOwn X1 w m.a1 M.n1 M.l1 M.v1 ∧ LinesOwn X2 w m.a2 M.n2 M.l2 M.v2 ∧ BoolsOwn X3 w m.a3 M.n3 M.d

theorem IntsOwn.at {X : Nat → Prop} {w : World} {ao : Option Addr} {n : Nat} {f : Nat → Int} (h : IntsOwn X w ao n f) : IntsAt X w ao n f := by
  refine ⟨h.1, fun i hi => ?_⟩
  obtain ⟨b, hx, e, hr⟩ := h.2 (by omega)
  exact ⟨b, 0, e, hx, by rw [Nat.zero_add]; exact hr.cell hi⟩
theorem BoolsOwn.at {X : Nat → Prop} {w : World} {ao : Option Addr} {n : Nat} {f : Nat → Bool} (h : BoolsOwn X w ao n f) : BoolsAt X w ao n f := by
  refine ⟨h.1, fun i hi => ?_⟩
  obtain ⟨b, hx, e, hr⟩ := h.2 (by omega)
  exact ⟨b, 0, e, hx, by rw [Nat.zero_add]; exact hr.cell hi⟩
theorem LinesOwn.at {X : Nat → Prop} {w : World} {ao : Option Addr} {n : Nat} {len : Nat → Nat} {v : Nat → Nat → Int} (h : LinesOwn X w ao n len v) : LinesAt X w ao n len v := by
  refine ⟨h.1, fun i hi => ?_⟩
  obtain ⟨b, F, c, hx, e, hr, hl, _⟩ := h.2 (by omega)
  obtain ⟨g1, g2, g3, g4⟩ := hl i hi
  exact ⟨b, 0, some ⟨F i, 0, none⟩, c i, e, hx, by rw [Nat.zero_add]; exact hr.cell hi, g1, fun j hj => ⟨F i, 0, rfl, g2, by rw [Nat.zero_add]; exact g4.cell hj⟩⟩
theorem IntsAt.mono {X Y : Nat → Prop} {w : World} {ao : Option Addr} {n : Nat} {f : Nat → Int} (h : IntsAt X w ao n f) (hxy : ∀ b, X b → Y b) : IntsAt Y w ao n f :=
  ⟨h.1, fun i hi => let ⟨b, o, h1, hY, h2⟩ := h.2 i hi; ⟨b, o, h1, hxy _ hY, h2⟩⟩
theorem BoolsAt.mono {X Y : Nat → Prop} {w : World} {ao : Option Addr} {n : Nat} {f : Nat → Bool} (h : BoolsAt X w ao n f) (hxy : ∀ b, X b → Y b) : BoolsAt Y w ao n f :=
  ⟨h.1, fun i hi => let ⟨b, o, h1, hY, h2⟩ := h.2 i hi; ⟨b, o, h1, hxy _ hY, h2⟩⟩
theorem LinesAt.mono {X Y : Nat → Prop} {w : World} {ao : Option Addr} {n : Nat} {len : Nat → Nat} {v : Nat → Nat → Int} (h : LinesAt X w ao n len v) (hxy : ∀ b, X b → Y b) : LinesAt Y w ao n len v :=
  ⟨h.1, fun i hi => let ⟨b, o, a, c, h1, hY, h2, h3⟩ := h.2 i hi; ⟨b, o, a, c, h1, hxy _ hY, h2, h3.mono hxy⟩⟩
theorem MemOwn.at {X : Nat → Prop} {w : World} {m : MV} {M : MD} (h : MemOwn X w m M) : MemAt X w m M := by
  obtain ⟨X1, X2, X3, h1, h2, h3, s, c, d⟩ := h.ex
  exact ⟨s.at.mono (fun b hb => (h1 b hb).1), c.at.mono (fun b hb => (h2 b hb).1), d.at.mono h3⟩
theorem IntsOwn.blw {X : Nat → Prop} {w w' : World} {ao : Option Addr} {n : Nat} {f : Nat → Int} (h : IntsOwn X w ao n f) (hb : Blw w w') : IntsOwn X w' ao n f :=
  ⟨h.1, fun hn => let ⟨b, hx, e, hr⟩ := h.2 hn; ⟨b, hx, e, hr.blw hb⟩⟩
theorem BoolsOwn.mod {X Z : Nat → Prop} {w w' : World} {ao : Option Addr} {n : Nat} {f : Nat → Bool} (h : BoolsOwn X w ao n f) (hb : Mod Z w w') (hxz : ∀ b, X b → ¬ Z b) : BoolsOwn X w' ao n f :=
  ⟨h.1, fun hn => let ⟨b, hx, e, hr⟩ := h.2 hn; ⟨b, hx, e, hr.mod hb (hxz _ hx)⟩⟩
theorem LinesOwn.mod {X Z : Nat → Prop} {w w' : World} {ao : Option Addr} {n : Nat} {len : Nat → Nat} {v : Nat → Nat → Int} (h : LinesOwn X w ao n len v) (hb : Mod Z w w') (hxz : ∀ b, X b → ¬ Z b) : LinesOwn X w' ao n len v :=
  ⟨h.1, fun hn => let ⟨b, F, c, hx, e, hr, hl, hd⟩ := h.2 hn
    ⟨b, F, c, hx, e, hr.mod hb (hxz _ hx), fun i hi => let ⟨g1, g2, g3, g4⟩ := hl i hi; ⟨g1, g2, g3, g4.mod hb (hxz _ g2)⟩, hd⟩⟩
theorem LinesOwn.blw {X : Nat → Prop} {w w' : World} {ao : Option Addr} {n : Nat} {len : Nat → Nat} {v : Nat → Nat → Int} (h : LinesOwn X w ao n len v) (hb : Blw w w') : LinesOwn X w' ao n len v := h.mod (hb.mod (fun _ => False)) (fun _ _ => id)
theorem BoolsOwn.blw {X : Nat → Prop} {w w' : World} {ao : Option Addr} {n : Nat} {f : Nat → Bool} (h : BoolsOwn X w ao n f) (hb : Blw w w') : BoolsOwn X w' ao n f := h.mod (hb.mod (fun _ => False)) (fun _ _ => id)
theorem MemOwn.mod {X Z : Nat → Prop} {w w' : World} {m : MV} {M : MD} (h : MemOwn X w m M) (hb : Mod Z w w') (hxz : ∀ b, X b → ¬ Z b) : MemOwn X w' m M := by
  obtain ⟨X1, X2, X3, h1, h2, h3, s, c, d⟩ := h.ex
  exact ⟨X1, X2, X3, h1, h2, h3, s.mod hb (fun b hb => hxz b (h1 b hb).1), c.mod hb (fun b hb => hxz b (h2 b hb).1), d.mod hb (fun b hb => hxz b (h3 b hb))⟩
theorem MemOwn.blw {X : Nat → Prop} {w w' : World} {m : MV} {M : MD} (h : MemOwn X w m M) (hb : Blw w w') : MemOwn X w' m M := h.mod (hb.mod (fun _ => False)) (fun _ _ => id)
end Go.Proofs.YtneafnfdemodnaaDoor
/- What clients are, by numbers alone. -/
namespace Go.Proofs.YtneafnfdemodnaaDoor
set_option linter.unusedVariables false
/-- What a client may be. -/
def clOK (g : Nat → Int) : Prop := (1 ≤ g 0 ∧ g 0 ≤ 12) ∧ (0 ≤ g 1 ∧ g 1 ≤ 100000000) ∧ (0 ≤ g 2 ∧ g 2 ≤ 100000)
def GoodC (n : Nat) (F : Nat → Nat → Int) : Prop := (1 ≤ n ∧ n ≤ 6) ∧ ∀ k, k < n → clOK (F k)
/-- The first of the least passes. -/
def lst (F : Nat → Nat → Int) : Nat → Nat
  | 0 => 0
  | k + 1 => if F k 1 < F (lst F k) 1 then k else lst F k
theorem lst_le (F : Nat → Nat → Int) (k : Nat) : lst F k ≤ k := by
  induction k with
  | zero => exact Nat.le_refl _
  | succ k ih => unfold lst; split <;> omega
theorem lst_lt (F : Nat → Nat → Int) {k : Nat} (h : 0 < k) : lst F k < k := by
  cases k with
  | zero => omega
  | succ k => have := lst_le F k; unfold lst; split <;> omega
theorem lst_min (F : Nat → Nat → Int) (k : Nat) : ∀ j, j < k → F (lst F k) 1 ≤ F j 1 := by
  induction k with
  | zero => intro j h; omega
  | succ k ih =>
    intro j h
    unfold lst
    by_cases e : j = k
    · subst e; split <;> omega
    · have := ih j (by omega)
      split <;> omega
theorem lst_one (F : Nat → Nat → Int) : lst F 1 = 0 := by simp [lst]
/-- A turn is given. -/
def giveC (n : Nat) (F : Nat → Nat → Int) : Nat → Nat → Int := fun i c =>
  if i = lst F n then (if c = 1 then F i 1 + 27720 / F i 0 else if c = 2 then F i 2 + 1 else F i c) else F i c
def gv (n : Nat) (F : Nat → Nat → Int) : Nat → Nat → Nat → Int
  | 0 => F
  | m + 1 => giveC n (gv n F m)
theorem gv_add (n : Nat) (F : Nat → Nat → Int) (a b : Nat) : gv n (gv n F a) b = gv n F (a + b) := by
  induction b with
  | zero => rfl
  | succ b ih => exact congrArg (giveC n) ih
def whoC (n : Nat) (F : Nat → Nat → Int) (j : Nat) : Int := lst (gv n F j) n
theorem stride_le {t : Int} (h : 1 ≤ t) : 27720 / t ≤ 27720 ∧ 0 ≤ 27720 / t := by
  refine ⟨?_, Int.ediv_nonneg (by omega) (by omega)⟩
  exact Int.ediv_le_self _ (by omega)
/-- How great the numbers are behind some turns. -/
structure Rng (n : Nat) (F : Nat → Nat → Int) (m : Int) : Prop where
  t : ∀ k, k < n → 1 ≤ F k 0 ∧ F k 0 ≤ 12
  p : ∀ k, k < n → 0 ≤ F k 1 ∧ F k 1 ≤ 100000000 + 27720 * m
  u : ∀ k, k < n → 0 ≤ F k 2 ∧ F k 2 ≤ 100000 + m
theorem Rng.start {n : Nat} {F : Nat → Nat → Int} (h : GoodC n F) : Rng n F 0 :=
  ⟨fun k hk => (h.2 k hk).1, fun k hk => by have := (h.2 k hk).2.1; omega, fun k hk => by have := (h.2 k hk).2.2; omega⟩
theorem Rng.step {n : Nat} {F : Nat → Nat → Int} {m : Int} (h : Rng n F m) : Rng n (giveC n F) (m + 1) := by
  refine ⟨fun k hk => ?_, fun k hk => ?_, fun k hk => ?_⟩ <;> unfold giveC
  · have := h.t k hk; by_cases e : k = lst F n <;> simp [e] <;> (try rw [← e]) <;> omega
  · have h1 := h.p k hk
    have h2 := stride_le (h.t k hk).1
    by_cases e : k = lst F n
    · rw [if_pos e, if_pos rfl]; omega
    · rw [if_neg e]; omega
  · have h1 := h.u k hk
    by_cases e : k = lst F n
    · rw [if_pos e, if_neg (by decide), if_pos rfl]; omega
    · rw [if_neg e]; omega
theorem Rng.gv {n : Nat} {F : Nat → Nat → Int} (h : GoodC n F) (m : Nat) : Rng n (gv n F m) m := by
  induction m with
  | zero => exact Rng.start h
  | succ m ih => have := ih.step; rwa [show ((m : Int) + 1) = ((m + 1 : Nat) : Int) by omega] at this
/-! ### Sums -/
def sm (f : Nat → Int) : Nat → Int
  | 0 => 0
  | k + 1 => sm f k + f k
theorem sm_congr {f g : Nat → Int} {n : Nat} (h : ∀ i, i < n → f i = g i) : sm f n = sm g n := by
  induction n with
  | zero => rfl
  | succ n ih => simp only [sm]; rw [ih (fun i hi => h i (by omega)), h n (by omega)]
theorem sm_add (f g : Nat → Int) (n : Nat) : sm (fun i => f i + g i) n = sm f n + sm g n := by
  induction n with
  | zero => rfl
  | succ n ih => simp only [sm]; rw [ih]; omega
theorem sm_mul (a : Int) (f : Nat → Int) (n : Nat) : sm (fun i => a * f i) n = a * sm f n := by
  induction n with
  | zero => simp [sm]
  | succ n ih => simp only [sm]; rw [ih, Int.mul_add]
theorem sm_const (a : Int) (n : Nat) : sm (fun _ => a) n = a * n := by
  induction n with
  | zero => simp [sm]
  | succ n ih => simp only [sm]; rw [ih]; simp [Int.mul_add]
theorem sm_le {f g : Nat → Int} {n : Nat} (h : ∀ i, i < n → f i ≤ g i) : sm f n ≤ sm g n := by
  induction n with
  | zero => exact Int.le_refl _
  | succ n ih => simp only [sm]; have := ih (fun i hi => h i (by omega)); have := h n (by omega); omega
theorem sm_eq_all {f g : Nat → Int} {n : Nat} (h : ∀ i, i < n → f i ≤ g i) (he : sm f n = sm g n) : ∀ i, i < n → f i = g i := by
  induction n with
  | zero => intro i hi; omega
  | succ n ih =>
    simp only [sm] at he
    have h1 := sm_le (fun i (hi : i < n) => h i (by omega))
    have h2 := h n (by omega)
    intro i hi
    by_cases e : i = n
    · subst e; omega
    · exact ih (fun i hi => h i (by omega)) (by omega) i (by omega)
theorem sm_bound {f : Nat → Int} {n : Nat} {a b : Int} (h : ∀ i, i < n → a ≤ f i ∧ f i ≤ b) : a * n ≤ sm f n ∧ sm f n ≤ b * n := by
  have h1 := sm_le (f := fun _ => a) (g := f) (fun i (hi : i < n) => (h i hi).1)
  have h2 := sm_le (f := f) (g := fun _ => b) (fun i (hi : i < n) => (h i hi).2)
  rw [sm_const] at h1 h2
  exact ⟨h1, h2⟩
theorem sm_upd (f : Nat → Int) {n k : Nat} (hk : k < n) (v : Int) : sm (fun i => if i = k then f i + v else f i) n = sm f n + v := by
  induction n with
  | zero => omega
  | succ n ih =>
    simp only [sm]
    by_cases e : k = n
    · subst e
      rw [if_pos rfl, sm_congr (g := f) (fun i hi => by rw [if_neg (by omega)])]
      omega
    · rw [ih (by omega), if_neg (by omega)]
      omega
/-! ### Clients that begin at a stride -/
def newC (t : Nat → Int) : Nat → Nat → Int := fun i c => if c = 0 then t i else if c = 1 then 27720 / t i else 0
theorem stride_mul {t : Int} (h : 1 ≤ t ∧ t ≤ 12) : 27720 / t * t = 27720 := by
  have : t = 1 ∨ t = 2 ∨ t = 3 ∨ t = 4 ∨ t = 5 ∨ t = 6 ∨ t = 7 ∨ t = 8 ∨ t = 9 ∨ t = 10 ∨ t = 11 ∨ t = 12 := by omega
  rcases this with rfl | rfl | rfl | rfl | rfl | rfl | rfl | rfl | rfl | rfl | rfl | rfl <;> decide
theorem stride_cross {s t x y : Int} (hs : 1 ≤ s ∧ s ≤ 12) (ht : 1 ≤ t ∧ t ≤ 12) (h : 27720 / s * x ≤ 27720 / t * y) : t * x ≤ s * y := by
  have e1 := stride_mul hs
  have e2 := stride_mul ht
  have h3 : (s * t) * (27720 / s * x) ≤ (s * t) * (27720 / t * y) := Int.mul_le_mul_of_nonneg_left h (Int.mul_nonneg (by omega) (by omega))
  have h4 : (s * t) * (27720 / s * x) = (27720 / s * s) * (t * x) := by ac_rfl
  have h5 : (s * t) * (27720 / t * y) = (27720 / t * t) * (s * y) := by ac_rfl
  rw [h4, h5, e1, e2] at h3
  omega
structure Fair (n : Nat) (t : Nat → Int) (F : Nat → Nat → Int) (m : Nat) : Prop where
  ft : ∀ k, k < n → F k 0 = t k
  fp : ∀ k, k < n → F k 1 = 27720 / t k * (1 + F k 2)
  fu : ∀ k, k < n → 0 ≤ F k 2
  ff : ∀ j k, j < n → k < n → t k * F j 2 ≤ t j * (1 + F k 2)
  fs : sm (fun i => F i 2) n = m
  fd : (m : Int) ≤ sm t n → ∀ k, k < n → F k 2 ≤ t k
theorem Fair.start {n : Nat} {t : Nat → Int} (h : ∀ k, k < n → 1 ≤ t k ∧ t k ≤ 12) : Fair n t (newC t) 0 := by
  refine ⟨fun k _ => rfl, fun k _ => ?_, fun k _ => Int.le_refl _, fun j k hj hk => ?_, ?_, fun _ k hk => ?_⟩
  · show 27720 / t k = _ * (1 + 0); simp
  · show t k * 0 ≤ t j * (1 + 0); have := h j hj; simp; omega
  · show sm (fun _ => 0) n = _; rw [sm_const]; simp
  · show (0 : Int) ≤ t k; have := h k hk; omega
theorem Fair.step {n : Nat} {t : Nat → Int} {F : Nat → Nat → Int} {m : Nat} (h0 : 0 < n) (h : ∀ k, k < n → 1 ≤ t k ∧ t k ≤ 12) (g : Fair n t F m) : Fair n t (giveC n F) (m + 1) := by
  have hl := lst_lt F h0
  have hmin := lst_min F n
  generalize hw : lst F n = w at *
  have G0 : ∀ k, giveC n F k 0 = F k 0 := fun k => by unfold giveC; simp
  have G1 : ∀ k, giveC n F k 1 = if k = w then F k 1 + 27720 / F k 0 else F k 1 := fun k => by unfold giveC; rw [hw]; simp
  have G2 : ∀ k, giveC n F k 2 = if k = w then F k 2 + 1 else F k 2 := fun k => by unfold giveC; rw [hw]; simp
  have ahead : ∀ k, k < n → t k * (1 + F w 2) ≤ t w * (1 + F k 2) := fun k hk => by
    refine stride_cross (h w hl) (h k hk) ?_
    rw [← g.fp w hl, ← g.fp k hk]
    exact hmin k hk
  refine ⟨fun k hk => (G0 k).trans (g.ft k hk), fun k hk => ?_, fun k hk => ?_, fun j k hj hk => ?_, ?_, fun hm k hk => ?_⟩
  · rw [G1, G2, g.ft k hk]
    split
    · rw [g.fp k hk, ← Int.add_assoc, Int.mul_add _ (1 + F k 2)]; simp
    · exact g.fp k hk
  · rw [G2]; have := g.fu k hk; split <;> omega
  · rw [G2, G2]
    have hf := g.ff j k hj hk
    have ha := ahead k hk
    have htj := h j hj
    have e1 : t j * (1 + (F k 2 + 1)) = t j * (1 + F k 2) + t j := by rw [← Int.add_assoc, Int.mul_add]; simp
    have e2 : t k * (F j 2 + 1) = t k * F j 2 + t k := by rw [Int.mul_add]; simp
    have e3 : t k * (1 + F w 2) = t k * (F w 2 + 1) := by rw [Int.add_comm]
    by_cases ej : j = w
    · rw [if_pos ej]
      subst ej
      by_cases ek : k = j
      · subst ek; rw [if_pos rfl]; omega
      · rw [if_neg ek, ← e3]; exact ha
    · rw [if_neg ej]
      by_cases ek : k = w
      · rw [if_pos ek]; omega
      · rw [if_neg ek]; exact hf
  · rw [sm_congr (g := fun i => if i = w then F i 2 + 1 else F i 2) (fun i _ => G2 i), sm_upd (fun i => F i 2) hl, g.fs]
    omega
  · have hd := g.fd (by omega)
    rw [G2]
    by_cases ek : k = w
    · rw [if_pos ek]
      subst ek
      apply Classical.byContradiction
      intro hc
      have e4 : F k 2 = t k := by have := hd k hk; omega
      have each : ∀ j, j < n → t j ≤ F j 2 := fun j hj => by
        have ha := ahead j hj
        rw [e4] at ha
        have htk := h k hk
        have htj := h j hj
        apply Classical.byContradiction
        intro hc2
        have h6 : t k * (1 + F j 2) ≤ t k * t j := Int.mul_le_mul_of_nonneg_left (by omega) (by omega)
        have e5 : t j * (1 + t k) = t j + t k * t j := by rw [Int.mul_add, Int.mul_comm (t j) (t k)]; simp
        omega
      have h7 := sm_le each
      have h8 := g.fs
      omega
    · rw [if_neg ek]; exact hd k hk
theorem Fair.gv {n : Nat} {t : Nat → Int} (h0 : 0 < n) (h : ∀ k, k < n → 1 ≤ t k ∧ t k ≤ 12) (m : Nat) : Fair n t (gv n (newC t) m) m := by
  induction m with
  | zero => exact Fair.start h
  | succ m ih => exact ih.step h0 h
/-- How far behind one is. -/
def lagC (n : Nat) (F : Nat → Nat → Int) (k : Nat) : Int := F k 0 * sm (fun i => F i 2) n - F k 2 * sm (fun i => F i 0) n
theorem Fair.lag {n : Nat} {t : Nat → Int} {F : Nat → Nat → Int} {m : Nat} (g : Fair n t F m) {k : Nat} (hk : k < n) : lagC n F k ≤ sm t n ∧ -t k * n ≤ lagC n F k := by
  have e0 : sm (fun i => F i 0) n = sm t n := sm_congr (fun i hi => g.ft i hi)
  unfold lagC
  rw [g.ft k hk, e0]
  have a1 := sm_le (f := fun j => t k * F j 2) (g := fun j => (1 + F k 2) * t j) (fun j hj => by rw [Int.mul_comm (1 + F k 2)]; exact g.ff j k hj hk)
  rw [sm_mul, sm_mul, Int.add_mul] at a1
  have a2 := sm_le (f := fun j => F k 2 * t j) (g := fun j => t k * (1 + F j 2)) (fun j hj => by rw [Int.mul_comm (F k 2)]; exact g.ff k j hk hj)
  rw [sm_mul, sm_mul, sm_add, sm_const, Int.mul_add] at a2
  have e3 : -t k * (n : Int) = -(t k * (1 * (n : Int))) := by rw [Int.neg_mul, Int.one_mul]
  constructor
  · omega
  · rw [e3]; omega
/-- As many turns as there are tickets: each has its own. -/
theorem Fair.whole {n : Nat} {t : Nat → Int} {F : Nat → Nat → Int} {m : Nat} (g : Fair n t F m) (hm : (m : Int) = sm t n) : ∀ k, k < n → F k 2 = t k :=
  sm_eq_all (f := fun i => F i 2) (g := t) (g.fd (by omega)) (by rw [g.fs, hm])
theorem Fair.good {n : Nat} {t : Nat → Int} {F : Nat → Nat → Int} {m : Nat} (h : ∀ k, k < n → 1 ≤ t k ∧ t k ≤ 12) (hn : 1 ≤ n ∧ n ≤ 6) (hm : m ≤ 200) (g : Fair n t F m) (r : Rng n F m) (hp : ∀ k, k < n → F k 1 ≤ 100000000) : GoodC n F :=
  ⟨hn, fun k hk => ⟨by rw [g.ft k hk]; exact h k hk, ⟨(r.p k hk).1, hp k hk⟩, ⟨g.fu k hk, by
    have h1 : ∀ i, i < n → 0 ≤ F i 2 := g.fu
    have h2 : F k 2 ≤ sm (fun i => F i 2) n := by
      have h3 := sm_le (f := fun i => if i = k then 0 + F k 2 else 0) (g := fun i => F i 2) (fun i hi => by
        by_cases e : i = k
        · subst e; simp
        · rw [if_neg e]; exact h1 i hi)
      rw [sm_upd (fun _ => 0) hk, sm_const] at h3
      omega
    rw [g.fs] at h2
    omega⟩⟩⟩
end Go.Proofs.YtneafnfdemodnaaDoor
/- Slices of numbers: what the laws' and the model's small functions on them answer. -/
namespace Go.Proofs.YtneafnfdemodnaaDoor
open Go.RowKit
theorem ret_int {kd : IntKind} {a b : Int} (h : a = b) : Ending.returned (.int kd a) = .returned (.int kd b) := by rw [h]
theorem ints_step {X : Nat → Prop} {w wr : World} {ao : Option Addr} {n j b : Nat} {f : Nat → Int} {k : Int} (hj : j < n) (hx : X b) (e : ao = some ⟨b, 0, none⟩) (hn : n ≤ 9223372036854775807)
    (hr : Row wr b n (fun t => .int .i64 (if t < j then k + t else f t))) (hm : Mod (fun b => X b ∧ 0 < n) w wr) :
    IntsOwn X (wr.setCell ⟨b, j, none⟩ (.int .i64 (k + j))) ao n (fun t => if t < j + 1 then k + t else f t) ∧ Mod (fun b => X b ∧ 0 < n) w (wr.setCell ⟨b, j, none⟩ (.int .i64 (k + j))) := by
  refine ⟨⟨hn, fun _ => ⟨b, hx, e, (hr.set j _).congr fun i hi => ?_⟩⟩, hm.trans (Mod.setCell _ ⟨hx, by omega⟩ _)⟩
  by_cases h1 : i = j
  · subst h1; simp
  · by_cases h2 : i < j
    · simp [h1, h2, Nat.lt_succ_of_lt h2]
    · have h3 : ¬ i < j + 1 := by omega
      simp [h1, h2, h3]
set_option maxHeartbeats 400000 in
theorem markIntS_any (ao : Option Addr) (c n : Nat) (f : Nat → Int) (X : Nat → Prop) (k : Int) (w : World) (hk0 : 0 ≤ k) (hk : k + n ≤ 9223372036854775807) (h : IntsOwn X w ao n f) :
    Calls Tryd.prog 33 #[.slice ao n c, .int .i64 k] w fun e w' => e = .returned (.int .i64 (k + n)) ∧ IntsOwn X w' ao n (fun i => k + i) ∧ Mod (fun b => X b ∧ 0 < n) w w' := by
  have hn := h.1
  go_enter Tryd.func33, Tryd.ntmps33
  go_wp2
  go_loopw [1, 5] (fun kk i wr => ∃ j : Nat, j ≤ n ∧ i = .int .i64 j ∧ kk = .int .i64 (k + j) ∧ IntsOwn X wr ao n (fun t => if t < j then k + t else f t) ∧ Mod (fun b => X b ∧ 0 < n) w wr) (fun _ i _ => n - (intOf i).toNat)
  case atStart => exact ⟨0, Nat.zero_le _, rfl, by simp, by simpa using h, Mod.refl _ _⟩
  case round =>
    obtain ⟨j, hj, rfl, rfl, ho, hm⟩ := hrel
    by_cases hlt : j < n
    · obtain ⟨b, hx, e, hr⟩ := ho.2 (by omega)
      have st := ints_step hlt hx e hn hr hm
      have g1 : wr.cell? ⟨b, j, none⟩ = some (.int .i64 (f j)) := by simpa using hr.cell hlt
      have g2 := hr.frozen j
      subst e
      clear h ho hr hm
      go_wp2
      go_roundw
      case rel => exact ⟨j + 1, by omega, by go_num, by go_num, st.1, st.2⟩
      case measure => simp [intOf]; omega
    · go_wp2
      go_ret
      obtain rfl : j = n := by omega
      refine ⟨rfl, ?_, hm⟩
      refine ⟨hn, fun h0 => ?_⟩
      obtain ⟨b, hx, e, hr⟩ := ho.2 h0
      exact ⟨b, hx, e, hr.congr fun i hi => by simp [hi]⟩
set_option maxHeartbeats 400000 in
theorem heldIntS_any (ao : Option Addr) (c n : Nat) (Y : Nat → Prop) (k : Int) (w : World) (hk0 : 0 ≤ k) (hk : k + n ≤ 9223372036854775807) (h : IntsAt Y w ao n (fun i => k + i)) :
    Calls Tryd.prog 38 #[.slice ao n c, .int .i64 k] w fun e w' => e = .returned (.int .i64 (k + n)) ∧ Blw w w' := by
  obtain ⟨hn, h⟩ := h
  go_enter Tryd.func38, Tryd.ntmps38
  go_wp2
  go_loopw [1, 5] (fun kk i wr => ∃ j : Nat, j ≤ n ∧ i = .int .i64 j ∧ kk = .int .i64 (k + j) ∧ Blw w wr) (fun _ i _ => n - (intOf i).toNat)
  case atStart => exact ⟨0, Nat.zero_le _, rfl, by simp, Blw.refl _⟩
  case round =>
    obtain ⟨j, hj, rfl, rfl, hb⟩ := hrel
    by_cases hlt : j < n
    · obtain ⟨b, o, rfl, -, g1⟩ := h j hlt
      replace g1 := hb.cell g1
      clear h
      go_wp2
      go_roundw
      case rel => exact ⟨j + 1, by omega, by go_num, by go_num, hb⟩
      case measure => simp [intOf]; omega
    · go_wp2
      go_ret
      obtain rfl : j = n := by omega
      exact ⟨rfl, hb⟩
set_option maxHeartbeats 400000 in
theorem eqIntS_same (a1 a2 : Option Addr) (c1 c2 : Nat) (n0 : Nat) (f : Nat → Int) {Y Z : Nat → Prop} (w : World) (h1 : IntsAt Y w a1 n0 f) (h2 : IntsAt Z w a2 n0 f) :
    Calls Tryd.prog 32 #[.slice a1 n0 c1, .slice a2 n0 c2] w fun e w' => e = .returned (.bool true) ∧ ∃ n, w' = w.drewN n := by
  obtain ⟨hl, h1⟩ := h1
  obtain ⟨-, h2⟩ := h2
  go_enter Tryd.func32, Tryd.ntmps32
  go_wp2
  go_loopw [5] (fun i wr => ∃ k n : Nat, k ≤ n0 ∧ i = .int .i64 k ∧ wr = w.drewN n) (fun i _ => n0 - (intOf i).toNat)
  case atStart => exact ⟨0, 0, Nat.zero_le _, rfl, rfl⟩
  case round =>
    obtain ⟨k, n, hk, rfl, rfl⟩ := hrel
    by_cases hlt : k < n0
    · obtain ⟨b, o, rfl, -, g1⟩ := h1 k hlt
      obtain ⟨b', o', rfl, -, g2⟩ := h2 k hlt
      clear h1 h2
      go_wp2
      go_quiet (fail)
      go_wp2
      go_roundw
      case rel => exact ⟨k + 1, _, by omega, by go_num, rfl⟩
      case measure => simp [intOf]; omega
    · go_wp2
      go_ret
      exact ⟨rfl, n, rfl⟩
/-- What a measure answers: below 0, or what is left. -/
def Left (left size r : Int) : Prop := r = -1 ∨ (0 ≤ r ∧ r + size ≤ left)
theorem Row.of_cells {w : World} {b : Nat} {c : Array Value} {t : TypeId} (h : w.heap[b]? = some (.cells c t (0, 0))) (f : Nat → Value) (hf : ∀ i, i < c.size → c[i]? = some (f i)) : Row w b c.size f := ⟨c, t, h, Nat.le_refl _, hf⟩
theorem run_copy_fn {P : Program} (w : World) (dT sT ty elem : TypeId) (b o dLen dCap : Nat) (a : Addr) (sLen sCap m : Nat) (g : Nat → Value) (n : Nat) (f : Nat → Value)
    (hu : P.underlying dT = some (.slice elem)) (hs : (P.info? elem).map (·.size) = some 1) (hm : m = Nat.min sLen dLen)
    (hsrc : ∀ j, j < m → w.cell? (a.add j) = some (g j)) (h1 : ∀ j, j < m → (g j).oneCell' = true) (hrow : Row w b n f) (hfit : o + m ≤ n) :
    ∃ w', (Builtin.copy_ #[dT, sT] ty #[.slice (some ⟨b, o, none⟩) dLen dCap, .slice (some a) sLen sCap]).run P w = .ok (goInt m) w' ∧
      Row w' b n (fun i => if o ≤ i ∧ i < o + m then g (i - o) else f i) ∧ Mod (fun x => x = b) w w' ∧ w'.heap.size = w.heap.size := by
  obtain ⟨cur, t, hb, hn, hc⟩ := hrow
  have hl : ((List.range m).map g).length = m := by simp
  have hrun := run_copy_row (P := P) w dT sT ty elem b o dLen dCap a sLen sCap cur t ((List.range m).map g) hu hs hb (by rw [hl]; exact hm)
    (fun j v hv => by
      have hj : j < m := by
        have := (List.getElem?_eq_some_iff.1 hv).1
        omega
      rw [hsrc j hj]
      simpa [hj] using hv) (by rw [hl]; omega) (fun v hv => by
      obtain ⟨j, hj, rfl⟩ := List.mem_map.1 hv
      exact h1 j (List.mem_range.1 hj))
  rw [hl] at hrun
  refine ⟨_, hrun, ⟨_, t, setRow_heap w b _ _ t _ hb, ?_, fun i hi => ?_⟩, ⟨rfl, rfl, rfl, by simp [World.setRow], fun k _ hk => setRow_other w b k _ hk⟩, by simp [World.setRow]⟩
  · simp; omega
  · simp only [List.getElem?_toArray]
    have hlen : (cur.toList.take o).length = o := by simp; omega
    by_cases h2 : i < o
    · have h3 : ¬ (o ≤ i ∧ i < o + m) := by omega
      rw [if_neg h3, List.append_assoc, List.getElem?_append_left (by omega), List.getElem?_take, if_pos h2]
      simpa using hc i hi
    · by_cases h3 : i < o + m
      · rw [if_pos ⟨by omega, h3⟩, List.append_assoc, List.getElem?_append_right (by omega), hlen, List.getElem?_append_left (by simp; omega), List.getElem?_map, List.getElem?_range (by omega)]
        rfl
      · rw [if_neg (by omega), List.getElem?_append_right (by simp; omega)]
        simp only [List.length_append, hlen, hl, List.getElem?_drop]
        rw [show o + m + (i - (o + m)) = i by omega]
        simpa using hc i hi
/-- copy as one step of a region that draws its order. -/
theorem step_copy_fn {P : Program} {ops : Array Oper} {o : Oper} {a : Act} {w : World} {K : Act → World → Prop} {Q : Exit → Act → World → Prop} {E : Prop} (hgd : o.guard = none) (d s : Operand) (dT sT : TypeId)
    (ho : o.op = .call { callee := .builtin .copy, args := #[d, s], argTypes := #[dT, sT] }) (elem : TypeId) (hu : P.underlying dT = some (.slice elem)) (hsz : (P.info? elem).map (·.size) = some 1)
    (b off dLen dCap : Nat) (ad : Addr) (sLen sCap : Nat) (hd : a.eval d = .slice (some ⟨b, off, none⟩) dLen dCap) (hs : a.eval s = .slice (some ad) sLen sCap)
    (m : Nat) (g : Nat → Value) (n : Nat) (f : Nat → Value) (hm : m = Nat.min sLen dLen)
    (hsrc : ∀ j, j < m → w.cell? (ad.add j) = some (g j)) (h1 : ∀ j, j < m → (g j).oneCell' = true) (hrow : Row w b n f) (hfit : off + m ≤ n)
    (h : ∀ w', Row w' b n (fun i => if off ≤ i ∧ i < off + m then g (i - off) else f i) → Mod (fun x => x = b) w w' → w'.heap.size = w.heap.size → K (a.put o.dst (goInt m)) w') :
    if Region.wanted o (yielded ops a.tmps) = true then Oper.wp P o a w K Q else E := by
  have hw : Region.wanted o (yielded ops a.tmps) = true := by simp [Region.wanted, hgd]
  rw [if_pos hw]
  obtain ⟨w', hrun, h2, h3, h4⟩ := run_copy_fn (P := P) w dT sT o.type elem b off dLen dCap ad sLen sCap m g n f hu hsz hm hsrc h1 hrow hfit
  unfold Oper.wp
  simp [execOp, ho, resolve, invoke, builtin, hd, hs, hrun, Result.andThen]
  exact h _ h2 h3 h4
/-- copy as a law for a region that does not draw. -/
theorem wpList_copy_fn {P : Program} {w : World} {ops : Array Oper} {rest : List Oper} {o : Oper} {a : Act} {Q : Exit → Act → World → Prop} (hgd : o.guard = none) (d s : Operand) (dT sT : TypeId)
    (ho : o.op = .call { callee := .builtin .copy, args := #[d, s], argTypes := #[dT, sT] }) (elem : TypeId) (hu : P.underlying dT = some (.slice elem)) (hsz : (P.info? elem).map (·.size) = some 1)
    (b off dLen dCap : Nat) (ad : Addr) (sLen sCap : Nat) (hd : a.eval d = .slice (some ⟨b, off, none⟩) dLen dCap) (hs : a.eval s = .slice (some ad) sLen sCap)
    (m : Nat) (g : Nat → Value) (n : Nat) (f : Nat → Value) (hm : m = Nat.min sLen dLen)
    (hsrc : ∀ j, j < m → w.cell? (ad.add j) = some (g j)) (h1 : ∀ j, j < m → (g j).oneCell' = true) (hrow : Row w b n f) (hfit : off + m ≤ n)
    (h : ∀ w', Row w' b n (fun i => if off ≤ i ∧ i < off + m then g (i - off) else f i) → Mod (fun x => x = b) w w' → w'.heap.size = w.heap.size → wpList P ops Q rest (a.put o.dst (goInt m)) w') :
    wpList P ops Q (o :: rest) a w := by
  refine wpList_plain hgd fun K hK => ?_
  obtain ⟨w', hrun, h2, h3, h4⟩ := run_copy_fn (P := P) w dT sT o.type elem b off dLen dCap ad sLen sCap m g n f hu hsz hm hsrc h1 hrow hfit
  unfold Oper.wp
  simp [execOp, ho, resolve, invoke, builtin, hd, hs, hrun, Result.andThen]
  exact hK _ _ (h _ h2 h3 h4)
theorem tinfo3 : (Tryd.prog.info? 3).map (fun i => (i.zero, i.size, i.bytes)) = some (some (.int .i64 0), 1, 8) := by kernel_rfl
theorem mkInts (n : Nat) (hn : n ≤ 1048576) (w : World) : (Instr.makeSlice 23 (.int .i64 n) (.int .i64 n)).run Tryd.prog w = .ok (.slice (some ⟨w.heap.size, 0, none⟩) n n) (w.alloc (.cells (madeCells #[.int .i64 0] n) 3)) :=
  run_make_row' (P := Tryd.prog) 23 3 (.int .i64 0) 8 Tryd.underlying23 tinfo3 rfl .i64 .i64 n (by omega) (by omega) w
theorem fill_step {α : Type} {w wr : World} {n j : Nat} {f : Nat → α} {z : α} {mk : α → Value} (hb : Blw w wr) (hr : Row wr w.heap.size n (fun t => mk (if t < j then f t else z))) :
    Row (wr.setCell ⟨w.heap.size, j, none⟩ (mk (f j))) w.heap.size n (fun t => mk (if t < j + 1 then f t else z)) ∧ Blw w (wr.setCell ⟨w.heap.size, j, none⟩ (mk (f j))) := by
  refine ⟨(hr.set j _).congr fun i hi => ?_, hb.setCell (Nat.le_refl _) _⟩
  by_cases h1 : i = j
  · subst h1; simp
  · by_cases h2 : i < j
    · simp [h1, h2, Nat.lt_succ_of_lt h2]
    · have h3 : ¬ i < j + 1 := by omega
      simp [h1, h2, h3]
set_option maxHeartbeats 400000 in
theorem toIntS_any (ao : Option Addr) (c n : Nat) (f : Nat → Int) (Y : Nat → Prop) (w : World) (hn : n ≤ 1048576) (h : IntsAt Y w ao n f) :
    Calls Tryd.prog 30 #[.slice ao n c] w fun e w' => e = .returned (.slice (some ⟨w.heap.size, 0, none⟩) n n) ∧ Row w' w.heap.size n (fun t => .int .i64 (f t)) ∧ Blw w w' := by
  obtain ⟨-, h⟩ := h
  have hmk := mkInts n hn
  go_enter Tryd.func30, Tryd.ntmps30
  go_wp2
  clear hmk
  go_loopw [4] (fun i wr => ∃ j : Nat, j ≤ n ∧ i = .int .i64 j ∧ Row wr w.heap.size n (fun t => Value.int .i64 (if t < j then f t else 0)) ∧ Blw w wr) (fun i _ => n - (intOf i).toNat)
  case atStart => exact ⟨0, Nat.zero_le _, rfl, (Row.made w (.int .i64 0) n 3).congr (fun i _ => by simp), (Blw.refl _).alloc _⟩
  case round =>
    obtain ⟨j, hj, rfl, hr, hb⟩ := hrel
    by_cases hlt : j < n
    · obtain ⟨b, o, rfl, -, g1⟩ := h j hlt
      replace g1 := hb.cell g1
      have g2 : wr.cell? ⟨w.heap.size, j, none⟩ = some (.int .i64 0) := by simpa using hr.cell hlt
      have g3 := hr.frozen j
      have st := fill_step (mk := fun x => Value.int .i64 x) hb hr
      clear h hr
      go_wp2
      go_roundw
      case rel => exact ⟨j + 1, by omega, by go_num, st.1, st.2⟩
      case measure => simp [intOf]; omega
    · go_wp2
      go_ret
      obtain rfl : j = n := by omega
      exact ⟨rfl, hr.congr fun i hi => by simp [hi], hb⟩
def wordOK (x : Int) : Prop := 0 ≤ x ∧ x ≤ 65535
set_option maxHeartbeats 400000 in
theorem l1In_yes (n lo hi : Int) (w : World) (h1 : lo ≤ n) (h2 : n ≤ hi) : Calls Tryd.prog 53 #[.int .i64 n, .int .i64 lo, .int .i64 hi] w fun e w' => e = .returned (.bool true) ∧ w' = w := by
  go_enter Tryd.func53, Tryd.ntmps53
  go_wp2
  go_ret
  exact ⟨rfl, rfl⟩
set_option maxHeartbeats 400000 in
theorem l1In_no (n lo hi : Int) (w : World) (h : ¬ (lo ≤ n ∧ n ≤ hi)) : Calls Tryd.prog 53 #[.int .i64 n, .int .i64 lo, .int .i64 hi] w fun e w' => e = .returned (.bool false) ∧ w' = w := by
  by_cases h1 : lo ≤ n
  · have h2 : ¬ n ≤ hi := fun h3 => h ⟨h1, h3⟩
    clear h
    go_enter Tryd.func53, Tryd.ntmps53
    go_wp2
    go_ret
    exact ⟨rfl, rfl⟩
  · clear h
    have hd : decide (lo ≤ n) = false := by simpa using h1
    go_enter Tryd.func53, Tryd.ntmps53
    go_wp2
    go_ret
    exact ⟨rfl, rfl⟩
def hasLine (n : Nat) (f : Nat → Int) (k : Int) : Prop := ∃ t, t < n ∧ f t = k
set_option maxHeartbeats 400000 in
theorem sameInts_yes (a1 a2 : Option Addr) (c1 c2 n0 : Nat) (f g : Nat → Int) {Y Z : Nat → Prop} (w : World) (h1 : IntsAt Y w a1 n0 f) (h2 : IntsAt Z w a2 n0 g) (he : ∀ i, i < n0 → f i = g i) :
    Calls Tryd.prog 20 #[.slice a1 n0 c1, .slice a2 n0 c2] w fun e w' => e = .returned (.bool true) ∧ ∃ n, w' = w.drewN n := by
  replace h2 := h2.congr (fun i hi => (he i hi).symm)
  clear he
  obtain ⟨hl, h1⟩ := h1
  obtain ⟨-, h2⟩ := h2
  go_enter Tryd.func20, Tryd.ntmps20
  go_wp2
  go_loopw [13] (fun i wr => ∃ k n : Nat, k ≤ n0 ∧ i = .int .i64 k ∧ wr = w.drewN n) (fun i _ => n0 - (intOf i).toNat)
  case atStart => exact ⟨0, 0, Nat.zero_le _, rfl, rfl⟩
  case round =>
    obtain ⟨k, n, hk, rfl, rfl⟩ := hrel
    by_cases hlt : k < n0
    · obtain ⟨b, o, rfl, -, g1⟩ := h1 k hlt
      obtain ⟨b', o', rfl, -, g2⟩ := h2 k hlt
      clear h1 h2
      go_wp2
      go_quiet (fail)
      go_wp2
      go_roundw
      case rel => exact ⟨k + 1, _, by omega, by go_num, rfl⟩
      case measure => simp [intOf]; omega
    · go_wp2
      go_ret
      exact ⟨rfl, n, rfl⟩
set_option maxHeartbeats 400000 in
theorem sameInts_no (a1 a2 : Option Addr) (c1 c2 n0 : Nat) (f g : Nat → Int) {Y Z : Nat → Prop} (w : World) (h1 : IntsAt Y w a1 n0 f) (h2 : IntsAt Z w a2 n0 g) (i : Nat) (hi : i < n0) (he : ¬ f i = g i) :
    Calls Tryd.prog 20 #[.slice a1 n0 c1, .slice a2 n0 c2] w fun e w' => e = .returned (.bool false) ∧ ∃ n, w' = w.drewN n := by
  obtain ⟨hl, h1⟩ := h1
  obtain ⟨-, h2⟩ := h2
  have HE : Hid (¬ f i = g i) := he
  clear he
  go_enter Tryd.func20, Tryd.ntmps20
  go_wp2
  go_loopw [13] (fun ii wr => ∃ k n : Nat, k ≤ i ∧ ii = .int .i64 k ∧ wr = w.drewN n) (fun i _ => n0 - (intOf i).toNat)
  case atStart => exact ⟨0, 0, Nat.zero_le _, rfl, rfl⟩
  case round =>
    obtain ⟨k, n, hk, rfl, rfl⟩ := hrel
    have hlt : k < n0 := by omega
    obtain ⟨b, o, rfl, -, g1⟩ := h1 k hlt
    obtain ⟨b', o', rfl, -, g2⟩ := h2 k hlt
    clear h1 h2
    by_cases hf : f k = g k
    · have hne : k ≠ i := fun e => HE.out (e ▸ hf)
      rw [← hf] at g2
      clear hf
      go_wp2
      go_quiet (fail)
      go_wp2
      go_roundw
      case rel => exact ⟨k + 1, _, by omega, by go_num, rfl⟩
      case measure => simp [intOf]; omega
    · have hb : (f k != g k) = true := by simpa using hf
      clear hf
      go_wp2
      go_quiet (fail)
      go_wp2
      go_ret
      exact ⟨rfl, _, by simp only [World.drewN_drewN]; rfl⟩
theorem owned_row {w : World} {g n cap : Nat} {e : TypeId} {xs : List Value} {f : Nat → Value} (h : w.ownsRow 0 e 1 (.slice (some ⟨g, 0, none⟩) n cap) n xs) (hf : ∀ i, i < n → xs[i]? = some (f i)) (hn : 0 < n) : Row w g n f := by
  obtain ⟨h1, h2⟩ := h
  rcases h2 with ⟨_, h2⟩ | ⟨g', cap', cur, hv, hg, hh, hcap, _, hsz, ht⟩
  · omega
  · simp only [Value.slice.injEq, Option.some.injEq, Addr.mk.injEq, and_true, true_and] at hv
    obtain ⟨rfl, rfl⟩ := hv
    refine ⟨cur, e, hh, by omega, fun i hi => ?_⟩
    have : (cur.toList.take (n * 1))[i]? = cur[i]? := by rw [List.getElem?_take, if_pos (by omega)]; simp
    rw [← this, ht]
    exact hf i hi
theorem own_empty {w : World} {B : Nat} {e : TypeId} (h : w.heap[B]? = some (.cells #[] e (0, 0))) : w.ownsRow 0 e 1 (.slice (some ⟨B, 0, none⟩) 0 0) 0 [] :=
  ⟨rfl, Or.inr ⟨B, 0, #[], rfl, Nat.zero_le _, h, Nat.le_refl _, by unfold maxLen; omega, rfl, rfl⟩⟩
end Go.Proofs.YtneafnfdemodnaaDoor
/- Lists of pairs: what they read as, what is owned. -/
namespace Go.Proofs.YtneafnfdemodnaaDoor
open Go.RowKit
set_option linter.unusedSimpArgs false
set_option linter.unusedVariables false
/-- The slice at 'ao' reads as the n pairs f, g, all in blocks of Y. -/
def UndosAt (Y : Nat → Prop) (w : World) (ao : Option Addr) (n : Nat) (f g : Nat → Int) : Prop :=
  n ≤ 9223372036854775807 ∧ ∀ i, i < n → ∃ b o, ao = some ⟨b, o, none⟩ ∧ Y b ∧ w.cell? ⟨b, o + i * 2, none⟩ = some (.int .i64 (f i)) ∧ w.cell? ⟨b, o + i * 2 + 1, none⟩ = some (.int .i64 (g i))
def uc (f g : Nat → Int) : Nat → Value := fun j => if j % 2 = 0 then .int .i64 (f (j / 2)) else .int .i64 (g (j / 2))
theorem uc_at (f g : Nat → Int) (i : Nat) : uc f g (i * 2) = .int .i64 (f i) ∧ uc f g (i * 2 + 1) = .int .i64 (g i) := by
  have a0 : i * 2 % 2 = 0 := by omega
  have a1 : (i * 2 + 1) % 2 = 1 := by omega
  have b0 : i * 2 / 2 = i := by omega
  have b1 : (i * 2 + 1) / 2 = i := by omega
  simp [uc, a0, a1, b0, b1]
def UndosOwn (X : Nat → Prop) (w : World) (ao : Option Addr) (n : Nat) (f g : Nat → Int) : Prop :=
  n ≤ 9223372036854775807 ∧ (0 < n → ∃ b, X b ∧ ao = some ⟨b, 0, none⟩ ∧ Row w b (n * 2) (uc f g))
theorem undo_get {w : World} {b n : Nat} {f g : Nat → Int} (r : Row w b (n * 2) (uc f g)) {i : Nat} (hi : i < n) : w.cell? ⟨b, i * 2, none⟩ = some (.int .i64 (f i)) ∧ w.cell? ⟨b, i * 2 + 1, none⟩ = some (.int .i64 (g i)) := by
  obtain ⟨h0, h1⟩ := uc_at f g i
  exact ⟨by rw [r.cell (by omega), h0], by rw [r.cell (by omega), h1]⟩
theorem UndosOwn.at {X : Nat → Prop} {w : World} {ao : Option Addr} {n : Nat} {f g : Nat → Int} (h : UndosOwn X w ao n f g) : UndosAt X w ao n f g := by
  refine ⟨h.1, fun i hi => ?_⟩
  obtain ⟨b, hx, e, hr⟩ := h.2 (by omega)
  obtain ⟨h0, h1⟩ := undo_get hr hi
  exact ⟨b, 0, e, hx, by rw [Nat.zero_add]; exact h0, by rw [Nat.zero_add]; exact h1⟩
theorem UndosAt.blw {Y : Nat → Prop} {w w' : World} {ao : Option Addr} {n : Nat} {f g : Nat → Int} (h : UndosAt Y w ao n f g) (hb : Blw w w') : UndosAt Y w' ao n f g :=
  ⟨h.1, fun i hi => let ⟨b, o, e, hY, h0, h1⟩ := h.2 i hi; ⟨b, o, e, hY, hb.cell h0, hb.cell h1⟩⟩
theorem UndosAt.mod {X Y : Nat → Prop} {w w' : World} {ao : Option Addr} {n : Nat} {f g : Nat → Int} (h : UndosAt Y w ao n f g) (hb : Mod X w w') (hxy : ∀ k, Y k → ¬ X k) : UndosAt Y w' ao n f g :=
  ⟨h.1, fun i hi => let ⟨b, o, e, hY, h0, h1⟩ := h.2 i hi; ⟨b, o, e, hY, hb.cell h0 (hxy _ hY), hb.cell h1 (hxy _ hY)⟩⟩
theorem UndosAt.mono {X Y : Nat → Prop} {w : World} {ao : Option Addr} {n : Nat} {f g : Nat → Int} (h : UndosAt X w ao n f g) (hxy : ∀ b, X b → Y b) : UndosAt Y w ao n f g :=
  ⟨h.1, fun i hi => let ⟨b, o, e, hY, h0⟩ := h.2 i hi; ⟨b, o, e, hxy _ hY, h0⟩⟩
theorem UndosAt.congr {Y : Nat → Prop} {w : World} {ao : Option Addr} {n : Nat} {f g f' g' : Nat → Int} (h : UndosAt Y w ao n f g) (e : ∀ i, i < n → f i = f' i ∧ g i = g' i) : UndosAt Y w ao n f' g' :=
  ⟨h.1, fun i hi => let ⟨b, o, ea, hY, h0, h1⟩ := h.2 i hi; ⟨b, o, ea, hY, by rw [← (e i hi).1]; exact h0, by rw [← (e i hi).2]; exact h1⟩⟩
theorem UndosOwn.mod {X Z : Nat → Prop} {w w' : World} {ao : Option Addr} {n : Nat} {f g : Nat → Int} (h : UndosOwn X w ao n f g) (hb : Mod Z w w') (hxz : ∀ b, X b → ¬ Z b) : UndosOwn X w' ao n f g :=
  ⟨h.1, fun hn => let ⟨b, hx, e, hr⟩ := h.2 hn; ⟨b, hx, e, hr.mod hb (hxz _ hx)⟩⟩
theorem UndosOwn.blw {X : Nat → Prop} {w w' : World} {ao : Option Addr} {n : Nat} {f g : Nat → Int} (h : UndosOwn X w ao n f g) (hb : Blw w w') : UndosOwn X w' ao n f g := h.mod (hb.mod (fun _ => False)) (fun _ _ => id)
theorem UndosOwn.mono {X Y : Nat → Prop} {w : World} {ao : Option Addr} {n : Nat} {f g : Nat → Int} (h : UndosOwn X w ao n f g) (hxy : ∀ b, X b → Y b) : UndosOwn Y w ao n f g :=
  ⟨h.1, fun hn => let ⟨b, hx, e, hr⟩ := h.2 hn; ⟨b, hxy _ hx, e, hr⟩⟩
theorem UndosOwn.congr {X : Nat → Prop} {w : World} {ao : Option Addr} {n : Nat} {f g f' g' : Nat → Int} (h : UndosOwn X w ao n f g) (e : ∀ i, i < n → f i = f' i ∧ g i = g' i) : UndosOwn X w ao n f' g' :=
  ⟨h.1, fun hn => let ⟨b, hx, ea, hr⟩ := h.2 hn; ⟨b, hx, ea, hr.congr fun i hi => by
    have := e (i / 2) (by omega)
    simp only [uc, this.1, this.2]⟩⟩
theorem UndosOwn.nil (X : Nat → Prop) (w : World) (ao : Option Addr) (f g : Nat → Int) : UndosOwn X w ao 0 f g := ⟨by omega, fun h => absurd h (by omega)⟩
theorem IntsOwn.mono {X Y : Nat → Prop} {w : World} {ao : Option Addr} {n : Nat} {f : Nat → Int} (h : IntsOwn X w ao n f) (hxy : ∀ b, X b → Y b) : IntsOwn Y w ao n f :=
  ⟨h.1, fun hn => let ⟨b, hx, e, hr⟩ := h.2 hn; ⟨b, hxy _ hx, e, hr⟩⟩
theorem IntsOwn.mod {X Z : Nat → Prop} {w w' : World} {ao : Option Addr} {n : Nat} {f : Nat → Int} (h : IntsOwn X w ao n f) (hb : Mod Z w w') (hxz : ∀ b, X b → ¬ Z b) : IntsOwn X w' ao n f :=
  ⟨h.1, fun hn => let ⟨b, hx, e, hr⟩ := h.2 hn; ⟨b, hx, e, hr.mod hb (hxz _ hx)⟩⟩
theorem IntsOwn.congr {X : Nat → Prop} {w : World} {ao : Option Addr} {n : Nat} {f g : Nat → Int} (h : IntsOwn X w ao n f) (e : ∀ i, i < n → f i = g i) : IntsOwn X w ao n g :=
  ⟨h.1, fun hn => let ⟨b, hx, ea, hr⟩ := h.2 hn; ⟨b, hx, ea, hr.congr fun i hi => by rw [e i hi]⟩⟩
theorem IntsOwn.nil (X : Nat → Prop) (w : World) (ao : Option Addr) (f : Nat → Int) : IntsOwn X w ao 0 f := ⟨by omega, fun h => absurd h (by omega)⟩
theorem box2 (w : World) (a b : Value) (t : TypeId) : Row (w.alloc (.cells #[a, b] t)) w.heap.size 2 (fun i => if i = 0 then a else b) :=
  ⟨_, t, heap_alloc_new _ _, by simp, fun i hi => by
    match i, hi with
    | 0, _ => rfl
    | 1, _ => rfl⟩
theorem get2 {w : World} {B : Nat} {a b : Value} (r : Row w B 2 (fun i => if i = 0 then a else b)) : w.cell? ⟨B, 0, none⟩ = some a ∧ w.cell? ⟨B, 1, none⟩ = some b :=
  ⟨r.cell (i := 0) (by omega), r.cell (i := 1) (by omega)⟩
end Go.Proofs.YtneafnfdemodnaaDoor
/- The laws' functions on lists of pairs: measured, copied, compared, marked, held. -/
namespace Go.Proofs.YtneafnfdemodnaaDoor
open Go.RowKit
set_option linter.unusedSimpArgs false
set_option linter.unusedVariables false
theorem Row.made2 (w : World) (z : Value) (n : Nat) (t : TypeId) : Row (w.alloc (.cells (madeCells #[z, z] n) t)) w.heap.size n (fun _ => z) := by
  refine ⟨_, t, heap_alloc_new _ _, by simp [madeCells], fun i hi => ?_⟩
  have h2 : i % 2 = 0 ∨ i % 2 = 1 := by omega
  rcases h2 with h2 | h2 <;> simp [madeCells, hi, h2]
/-- A list that is being filled, j of it done. -/
theorem fill2_step {wr : World} {b n j : Nat} {f g f0 g0 : Nat → Int} (hj : j < n) (hr : Row wr b (n * 2) (uc (fun t => if t < j then f t else f0 t) (fun t => if t < j then g t else g0 t))) :
    Row ((wr.setCell ⟨b, j * 2, none⟩ (.int .i64 (f j))).setCell ⟨b, j * 2 + 1, none⟩ (.int .i64 (g j))) b (n * 2) (uc (fun t => if t < j + 1 then f t else f0 t) (fun t => if t < j + 1 then g t else g0 t)) := by
  refine ((hr.set (j * 2) _).set (j * 2 + 1) _).congr (fun t ht => ?_)
  by_cases e1 : t = j * 2 + 1
  · subst e1
    rw [if_pos rfl, (uc_at _ _ j).2]; simp
  · rw [if_neg e1]
    by_cases e0 : t = j * 2
    · subst e0
      rw [if_pos rfl, (uc_at _ _ j).1]; simp
    · rw [if_neg e0]
      have hq : (t / 2 < j + 1) = (t / 2 < j) := by simp; omega
      simp [uc, hq]
def mkc (k : Int) : Nat → Int := fun j => k + 2 * j
def mkw (k : Int) : Nat → Int := fun j => k + 2 * j + 1
end Go.Proofs.YtneafnfdemodnaaDoor
/- Lists of structs of K numbers: what they read as, what is owned. -/
namespace Go.Proofs.YtneafnfdemodnaaDoor
open Go.RowKit
set_option linter.unusedSimpArgs false
set_option linter.unusedVariables false
def kc (K : Nat) (F : Nat → Nat → Int) : Nat → Value := fun j => .int .i64 (F (j / K) (j % K))
theorem kc_at {K : Nat} (F : Nat → Nat → Int) (i : Nat) {c : Nat} (hc : c < K) : kc K F (i * K + c) = .int .i64 (F i c) := by
  unfold kc
  rw [Nat.mul_comm, Nat.mul_add_div (by omega), Nat.div_eq_of_lt hc, Nat.mul_add_mod, Nat.mod_eq_of_lt hc, Nat.add_zero]
theorem kc_lt {K n i c : Nat} (hi : i < n) (hc : c < K) : i * K + c < n * K := by
  have : (i + 1) * K ≤ n * K := Nat.mul_le_mul_right K hi
  rw [Nat.succ_mul] at this
  omega
/-- The slice at 'ao' reads as the n structs F, all in blocks of Y. -/
def KAt (K : Nat) (Y : Nat → Prop) (w : World) (ao : Option Addr) (n : Nat) (F : Nat → Nat → Int) : Prop :=
  n ≤ 9223372036854775807 ∧ ∀ i, i < n → ∃ b o, ao = some ⟨b, o, none⟩ ∧ Y b ∧ ∀ c, c < K → w.cell? ⟨b, o + i * K + c, none⟩ = some (.int .i64 (F i c))
def KOwn (K : Nat) (X : Nat → Prop) (w : World) (ao : Option Addr) (n : Nat) (F : Nat → Nat → Int) : Prop :=
  n ≤ 9223372036854775807 ∧ (0 < n → ∃ b, X b ∧ ao = some ⟨b, 0, none⟩ ∧ Row w b (n * K) (kc K F))
theorem k_get {w : World} {b n K : Nat} {F : Nat → Nat → Int} (r : Row w b (n * K) (kc K F)) {i c : Nat} (hi : i < n) (hc : c < K) : w.cell? ⟨b, i * K + c, none⟩ = some (.int .i64 (F i c)) := by
  rw [r.cell (kc_lt hi hc), kc_at F i hc]
theorem KOwn.at {K : Nat} {X : Nat → Prop} {w : World} {ao : Option Addr} {n : Nat} {F : Nat → Nat → Int} (h : KOwn K X w ao n F) : KAt K X w ao n F := by
  refine ⟨h.1, fun i hi => ?_⟩
  obtain ⟨b, hx, e, hr⟩ := h.2 (by omega)
  exact ⟨b, 0, e, hx, fun c hc => by rw [Nat.zero_add]; exact k_get hr hi hc⟩
theorem KAt.blw {K : Nat} {Y : Nat → Prop} {w w' : World} {ao : Option Addr} {n : Nat} {F : Nat → Nat → Int} (h : KAt K Y w ao n F) (hb : Blw w w') : KAt K Y w' ao n F :=
  ⟨h.1, fun i hi => let ⟨b, o, e, hY, h0⟩ := h.2 i hi; ⟨b, o, e, hY, fun c hc => hb.cell (h0 c hc)⟩⟩
theorem KAt.mod {K : Nat} {Y : Nat → Prop} {w w' : World} {ao : Option Addr} {n : Nat} {F : Nat → Nat → Int} {X : Nat → Prop} (h : KAt K Y w ao n F) (hb : Mod X w w') (hxy : ∀ k, Y k → ¬ X k) : KAt K Y w' ao n F :=
  ⟨h.1, fun i hi => let ⟨b, o, e, hY, h0⟩ := h.2 i hi; ⟨b, o, e, hY, fun c hc => hb.cell (h0 c hc) (hxy _ hY)⟩⟩
theorem KAt.mono {K : Nat} {Y : Nat → Prop} {w : World} {ao : Option Addr} {n : Nat} {F : Nat → Nat → Int} {X : Nat → Prop} (h : KAt K X w ao n F) (hxy : ∀ b, X b → Y b) : KAt K Y w ao n F :=
  ⟨h.1, fun i hi => let ⟨b, o, e, hY, h0⟩ := h.2 i hi; ⟨b, o, e, hxy _ hY, h0⟩⟩
theorem KAt.congr {K : Nat} {Y : Nat → Prop} {w : World} {ao : Option Addr} {n : Nat} {F : Nat → Nat → Int} {F' : Nat → Nat → Int} (h : KAt K Y w ao n F) (e : ∀ i c, i < n → c < K → F i c = F' i c) : KAt K Y w ao n F' :=
  ⟨h.1, fun i hi => let ⟨b, o, ea, hY, h0⟩ := h.2 i hi; ⟨b, o, ea, hY, fun c hc => by rw [← e i c hi hc]; exact h0 c hc⟩⟩
theorem KOwn.mod {K : Nat} {X Z : Nat → Prop} {w w' : World} {ao : Option Addr} {n : Nat} {F : Nat → Nat → Int} (h : KOwn K X w ao n F) (hb : Mod Z w w') (hxz : ∀ b, X b → ¬ Z b) : KOwn K X w' ao n F :=
  ⟨h.1, fun hn => let ⟨b, hx, e, hr⟩ := h.2 hn; ⟨b, hx, e, hr.mod hb (hxz _ hx)⟩⟩
theorem KOwn.blw {K : Nat} {X : Nat → Prop} {w w' : World} {ao : Option Addr} {n : Nat} {F : Nat → Nat → Int} (h : KOwn K X w ao n F) (hb : Blw w w') : KOwn K X w' ao n F := h.mod (hb.mod (fun _ => False)) (fun _ _ => id)
theorem KOwn.mono {K : Nat} {X Y : Nat → Prop} {w : World} {ao : Option Addr} {n : Nat} {F : Nat → Nat → Int} (h : KOwn K X w ao n F) (hxy : ∀ b, X b → Y b) : KOwn K Y w ao n F :=
  ⟨h.1, fun hn => let ⟨b, hx, e, hr⟩ := h.2 hn; ⟨b, hxy _ hx, e, hr⟩⟩
theorem KOwn.nil (K : Nat) (X : Nat → Prop) (w : World) (ao : Option Addr) (F : Nat → Nat → Int) : KOwn K X w ao 0 F := ⟨by omega, fun h => absurd h (by omega)⟩
theorem KOwn.congr {K : Nat} {X : Nat → Prop} {w : World} {ao : Option Addr} {n : Nat} {F F' : Nat → Nat → Int} (hK : 0 < K) (h : KOwn K X w ao n F) (e : ∀ i c, i < n → c < K → F i c = F' i c) : KOwn K X w ao n F' :=
  ⟨h.1, fun hn => let ⟨b, hx, ea, hr⟩ := h.2 hn; ⟨b, hx, ea, hr.congr fun j hj => by
    unfold kc
    rw [e (j / K) (j % K) (Nat.div_lt_of_lt_mul (by rw [Nat.mul_comm]; exact hj)) (Nat.mod_lt _ hK)]⟩⟩
def updF (F : Nat → Nat → Int) (i c : Nat) (v : Int) : Nat → Nat → Int := fun a b => if a = i ∧ b = c then v else F a b
theorem setK {w : World} {b n K : Nat} {F : Nat → Nat → Int} (r : Row w b (n * K) (kc K F)) (i : Nat) {c : Nat} (hc : c < K) (v : Int) : Row (w.setCell ⟨b, i * K + c, none⟩ (.int .i64 v)) b (n * K) (kc K (updF F i c v)) :=
  (r.set (i * K + c) _).congr (fun j hj => by
    have hK : 0 < K := by omega
    by_cases e : j = i * K + c
    · rw [if_pos e, e, kc_at _ i hc]; unfold updF; rw [if_pos ⟨rfl, rfl⟩]
    · rw [if_neg e]
      unfold kc updF
      have : ¬ (j / K = i ∧ j % K = c) := fun h => e (by have h1 := Nat.div_add_mod j K; rw [h.1, h.2, Nat.mul_comm] at h1; exact h1.symm)
      rw [if_neg this])
/-- What a list holds behind a mark. -/
def mkK (K : Nat) (k : Int) : Nat → Nat → Int := fun i c => k + K * i + c
def upK (G F : Nat → Nat → Int) (i : Nat) : Nat → Nat → Int := fun a c => if a < i then G a c else F a c
theorem upK_zero (G F : Nat → Nat → Int) : upK G F 0 = F := by funext a c; unfold upK; rw [if_neg (Nat.not_lt_zero _)]
theorem upK_all {K : Nat} {X : Nat → Prop} {w : World} {ao : Option Addr} {n : Nat} {G F : Nat → Nat → Int} (hK : 0 < K) (h : KOwn K X w ao n (upK G F n)) : KOwn K X w ao n G := h.congr hK (fun i c hi _ => by unfold upK; rw [if_pos hi])
theorem kAt_get {K : Nat} {Y : Nat → Prop} {w : World} {ao : Option Addr} {n : Nat} {F : Nat → Nat → Int} (h : KAt K Y w ao n F) {i : Nat} (hi : i < n) : ∃ b o, ao = some ⟨b, o, none⟩ ∧ Y b ∧ ∀ c, c < K → w.cell? ⟨b, o + i * K + c, none⟩ = some (.int .i64 (F i c)) := h.2 i hi
theorem Row.madeK (w : World) (z : Array Value) (v : Value) (hz : ∀ i, i < z.size → z[i]? = some v) (h0 : 0 < z.size) (n : Nat) (t : TypeId) : Row (w.alloc (.cells (madeCells z n) t)) w.heap.size n (fun _ => v) := by
  refine ⟨_, t, heap_alloc_new _ _, by simp [madeCells], fun i hi => ?_⟩
  have h2 : i % z.size < z.size := Nat.mod_lt _ h0
  have := hz (i % z.size) h2
  simp [madeCells, hi, getElem!_def, this]
end Go.Proofs.YtneafnfdemodnaaDoor
/- What stands in a law: facts that no other block's change turns. -/
namespace Go.Proofs.YtneafnfdemodnaaDoor
open Go.RowKit
set_option linter.unusedSimpArgs false
set_option linter.unusedVariables false
/-- P holds of W, and of every world that differs from it in blocks outside X alone. -/
def St (X : Nat → Prop) (P : World → Prop) (W : World) : Prop := (∀ b, X b → b < W.heap.size) ∧ ∀ Z w', Mod Z W w' → (∀ b, X b → ¬ Z b) → P w'
theorem St.out {X : Nat → Prop} {P : World → Prop} {W : World} (h : St X P W) : P W := h.2 (fun _ => False) W (Mod.refl _ _) (fun _ _ => id)
theorem St.mod {X Z : Nat → Prop} {P : World → Prop} {W W' : World} (h : St X P W) (hm : Mod Z W W') (hx : ∀ b, X b → ¬ Z b) : St X P W' :=
  ⟨fun b hb => Nat.lt_of_lt_of_le (h.1 b hb) hm.size, fun Z' w' hm' hx' => h.2 (fun b => Z b ∨ Z' b) w' ((hm.mono (fun _ => Or.inl)).trans (hm'.mono (fun _ => Or.inr))) (fun b hb hz => hz.elim (hx b hb) (hx' b hb))⟩
theorem St.blw {X : Nat → Prop} {P : World → Prop} {W W' : World} (h : St X P W) (hb : Blw W W') : St X P W' := h.mod (hb.mod (fun _ => False)) (fun _ _ => id)
theorem St.mono {X Y : Nat → Prop} {P : World → Prop} {W : World} (h : St X P W) (hxy : ∀ b, X b → Y b) (hY : ∀ b, Y b → b < W.heap.size) : St Y P W :=
  ⟨hY, fun Z w' hm hx => h.2 Z w' hm (fun b hb => hx b (hxy b hb))⟩
/-- A law's argument: below a; the model's answer: below b; the argument's copy: below c; the program's answer: below d. -/
structure LawF (w W : World) (a b c d : Nat) (P1 P3 P4 P5 : World → Prop) : Prop where
  hB : Blw w W
  p1 : St (fun x => x < a) P1 W
  p3 : St (fun x => x < b) P3 W
  p4 : St (fun x => b ≤ x ∧ x < c) P4 W
  p5 : St (fun x => c ≤ x ∧ x < d) P5 W
  o : w.heap.size ≤ a ∧ a ≤ b ∧ b ≤ c ∧ c ≤ d ∧ d ≤ W.heap.size
theorem LawF.blw {w W W' : World} {a b c d : Nat} {P1 P3 P4 P5 : World → Prop} (S : LawF w W a b c d P1 P3 P4 P5) (hb : Blw W W') : LawF w W' a b c d P1 P3 P4 P5 := by
  have o := S.o
  have := hb.size
  exact ⟨S.hB.trans hb, S.p1.blw hb, S.p3.blw hb, S.p4.blw hb, S.p5.blw hb, by omega⟩
theorem LawF.mark4 {w W W' : World} {a b c d : Nat} {P1 P3 P4 P4' P5 : World → Prop} (S : LawF w W a b c d P1 P3 P4 P5) {X : Nat → Prop} (hm : Mod X W W') (hX : ∀ x, X x → b ≤ x ∧ x < c) (h4 : St (fun x => b ≤ x ∧ x < c) P4' W') : LawF w W' a b c d P1 P3 P4' P5 := by
  have o := S.o
  have := hm.size
  exact ⟨Mod.blw S.hB hm (fun i hi => by have := hX i hi; omega), S.p1.mod hm (fun x hx h => by have := hX x h; omega), S.p3.mod hm (fun x hx h => by have := hX x h; omega), h4, S.p5.mod hm (fun x hx h => by have := hX x h; omega), by omega⟩
theorem LawF.mark5 {w W W' : World} {a b c d : Nat} {P1 P3 P4 P5 P5' : World → Prop} (S : LawF w W a b c d P1 P3 P4 P5) {X : Nat → Prop} (hm : Mod X W W') (hX : ∀ x, X x → c ≤ x ∧ x < d) (h5 : St (fun x => c ≤ x ∧ x < d) P5' W') : LawF w W' a b c d P1 P3 P4 P5' := by
  have o := S.o
  have := hm.size
  exact ⟨Mod.blw S.hB hm (fun i hi => by have := hX i hi; omega), S.p1.mod hm (fun x hx h => by have := hX x h; omega), S.p3.mod hm (fun x hx h => by have := hX x h; omega), S.p4.mod hm (fun x hx h => by have := hX x h; omega), h5, by omega⟩
end Go.Proofs.YtneafnfdemodnaaDoor
/- The laws' functions on lists of Cli. -/
namespace Go.Proofs.YtneafnfdemodnaaDoor
open Go.RowKit
set_option linter.unusedSimpArgs false
set_option linter.unusedVariables false
theorem infoCli : (Tryd.prog.info? 35).map (fun i => (i.zero, i.size, i.bytes)) = some (some (.agg #[.int .i64 0, .int .i64 0, .int .i64 0]), 3, 24) := by kernel_rfl
theorem mkCli (n : Nat) (hn : n ≤ 1048576) (w : World) : (Instr.makeSlice 25 (.int .i64 n) (.int .i64 n)).run Tryd.prog w = .ok (.slice (some ⟨w.heap.size, 0, none⟩) n n) (w.alloc (.cells (madeCells #[.int .i64 0, .int .i64 0, .int .i64 0] (n * 3)) 35)) := by
  obtain ⟨i0, hi, hz0, hz1, hz2⟩ := info_parts infoCli
  have h := run_make (P := Tryd.prog) w 25 35 i0 (.agg #[.int .i64 0, .int .i64 0, .int .i64 0]) Tryd.underlying25 hi hz0 .i64 .i64 (n : Int) (n : Int) (by omega) (Int.le_refl _) (by rw [hz2]; omega) (by omega)
  simpa [hz1, Value.cells] using h
set_option maxHeartbeats 400000 in
theorem szCli_any (ao : Option Addr) (c n : Nat) (left : Int) (w : World) (hn : n ≤ 9223372036854775807) (h0 : 0 ≤ left) (h1 : left ≤ 1048576) :
    Calls Tryd.prog 36 #[.slice ao n c, .int .i64 left] w fun e w' => ∃ r : Int, e = .returned (.int .i64 r) ∧ Left left n r ∧ Blw w w' := by
  by_cases h : left - n < 0
  · go_enter Tryd.func36, Tryd.ntmps36
    go_wp2
    go_ret
    exact ⟨_, rfl, Or.inl rfl, Blw.refl _⟩
  · go_enter Tryd.func36, Tryd.ntmps36
    go_wp2
    go_ret
    exact ⟨_, rfl, Or.inr ⟨by omega, by omega⟩, Blw.refl _⟩
set_option maxHeartbeats 800000 in
theorem toCli1_any (x0 x1 x2 : Int) (w : World) : Calls Tryd.prog 62 #[.agg #[.int .i64 x0, .int .i64 x1, .int .i64 x2]] w fun e w' => e = .returned (.agg #[.int .i64 x0, .int .i64 x1, .int .i64 x2]) ∧ Blw w w' := by
  go_enter Tryd.func62, Tryd.ntmps62
  go_wp2
  refine bodyPost_ret (v := (.agg #[.int .i64 x0, .int .i64 x1, .int .i64 x2])) (by simp [results, Tryd.results62, go_sem]) rfl ⟨rfl, ?_⟩
  exact (((Blw.refl _).alloc _).alloc _).alloc _
set_option maxHeartbeats 1600000 in
theorem toCli_any (ao : Option Addr) (c n : Nat) (F : Nat → Nat → Int) (Y : Nat → Prop) (w : World) (hn : n ≤ 1048576) (h : KAt 3 Y w ao n F) :
    Calls Tryd.prog 37 #[.slice ao n c] w fun e w' => e = .returned (.slice (some ⟨w.heap.size, 0, none⟩) n n) ∧ Row w' w.heap.size (n * 3) (kc 3 F) ∧ Blw w w' := by
  have H : Hid (KAt 3 Y w ao n F) := h
  clear h
  have hmk := mkCli n hn
  go_enter Tryd.func37, Tryd.ntmps37
  go_wp2
  clear hmk
  go_loopw [4] (fun i wr => ∃ j : Nat, j ≤ n ∧ i = .int .i64 j ∧ Row wr w.heap.size (n * 3) (kc 3 (upK F (fun _ _ => 0) j)) ∧ Blw w wr) (fun i _ => n - (intOf i).toNat)
  case atStart => exact ⟨0, Nat.zero_le _, rfl, (Row.madeK w #[.int .i64 0, .int .i64 0, .int .i64 0] (.int .i64 0) (fun i hi => by
    match i, hi with
    | 0, _ => rfl
    | 1, _ => rfl
    | 2, _ => rfl
    ) (by decide) (n * 3) 35).congr (fun i _ => by rw [upK_zero]; rfl), (Blw.refl _).alloc _⟩
  case round =>
    obtain ⟨j, hj, rfl, hr, hb⟩ := hrel
    have HR : Hid (Row wr w.heap.size (n * 3) (kc 3 (upK F (fun _ _ => 0) j))) := hr
    have HB : Hid (Blw w wr) := hb
    clear hr hb
    by_cases hlt : j < n
    · obtain ⟨b, o, rfl, -, g⟩ := (H.out.blw HB.out).2 j hlt
      have g0 := g 0 (by omega)
      have g1 := g 1 (by omega)
      have g2 := g 2 (by omega)
      have hlt' : (j : Int) < n := by omega
      clear g H
      rw [Nat.add_zero] at g0
      go_wp2_with fail
      refine (toCli1_any _ _ _ _).mono ?_
      rintro e w1 ⟨rfl, hb1⟩
      clear g0 g1 g2
      have HR1 : Hid (Row w1 w.heap.size (n * 3) (kc 3 (upK F (fun _ _ => 0) j))) := HR.out.blw hb1
      have HB1 : Hid (Blw w w1) := HB.out.trans hb1
      clear HR HB hb1
      have p0 := k_get HR1.out hlt (c := 0) (by omega)
      have f0 := HR1.out.frozen (j * 3)
      have p1 := k_get HR1.out hlt (c := 1) (by omega)
      have f1 := HR1.out.frozen (j * 3 + 1)
      have p2 := k_get HR1.out hlt (c := 2) (by omega)
      have f2 := HR1.out.frozen (j * 3 + 2)
      rw [Nat.add_zero] at p0
      have HS : Hid (Row (((w1.setCell ⟨w.heap.size, j * 3, none⟩ (.int .i64 (F j 0))).setCell ⟨w.heap.size, j * 3 + 1, none⟩ (.int .i64 (F j 1))).setCell ⟨w.heap.size, j * 3 + 2, none⟩ (.int .i64 (F j 2))) w.heap.size (n * 3) (kc 3 (upK F (fun _ _ => 0) (j + 1)))) := by
        have hq := (setK (setK (setK HR1.out j (c := 0) (by omega) (F j 0)) j (c := 1) (by omega) (F j 1)) j (c := 2) (by omega) (F j 2))
        rw [Nat.add_zero] at hq
        refine hq.congr (fun t ht => ?_)
        have ht2 : t % 3 < 3 := Nat.mod_lt _ (by omega)
        unfold kc updF upK
        by_cases e : t / 3 = j
        · simp only [e, true_and, Nat.lt_succ_self, if_true]
          rcases (show t % 3 = 0 ∨ t % 3 = 1 ∨ t % 3 = 2 by omega) with e2 | e2 | e2 <;> simp [e2]
        · have e3 : (t / 3 < j + 1) = (t / 3 < j) := by simp; omega
          simp [e, e3]
      have HBF : Hid (Blw w (((w1.setCell ⟨w.heap.size, j * 3, none⟩ (.int .i64 (F j 0))).setCell ⟨w.heap.size, j * 3 + 1, none⟩ (.int .i64 (F j 1))).setCell ⟨w.heap.size, j * 3 + 2, none⟩ (.int .i64 (F j 2)))) := (((HB1.out.setCell (Nat.le_refl _) _).setCell (Nat.le_refl _) _).setCell (Nat.le_refl _) _)
      clear HR1 HB1
      go_wp2
      go_roundw
      case rel => exact ⟨j + 1, by omega, by go_num, HS.out, HBF.out⟩
      case measure => simp [intOf]; omega
    · go_wp2
      go_ret
      obtain rfl : j = n := by omega
      refine ⟨rfl, HR.out.congr fun i hi => ?_, HB.out⟩
      have : i / 3 < j := Nat.div_lt_of_lt_mul (by rw [Nat.mul_comm]; exact hi)
      simp [kc, upK, this]
set_option maxHeartbeats 800000 in
theorem eqCli1_same (x0 x1 x2 : Int) (w : World) : Calls Tryd.prog 61 #[.agg #[.int .i64 x0, .int .i64 x1, .int .i64 x2], .agg #[.int .i64 x0, .int .i64 x1, .int .i64 x2]] w fun e w' => e = .returned (.bool true) ∧ Blw w w' := by
  have h0 : (x0 != x0) = false := by simp
  have h1 : (x1 != x1) = false := by simp
  have h2 : (x2 != x2) = false := by simp
  go_enter Tryd.func61, Tryd.ntmps61
  go_wp2
  go_ret
  exact ⟨rfl, ((Blw.refl _).alloc _).alloc _⟩
set_option maxHeartbeats 1600000 in
theorem eqCli_same (a1 a2 : Option Addr) (c1 c2 n : Nat) (F : Nat → Nat → Int) {X Y : Nat → Prop} (w : World) (h1 : KAt 3 X w a1 n F) (h2 : KAt 3 Y w a2 n F) :
    Calls Tryd.prog 31 #[.slice a1 n c1, .slice a2 n c2] w fun e w' => e = .returned (.bool true) ∧ Blw w w' := by
  have H1 : Hid (KAt 3 X w a1 n F) := h1
  have H2 : Hid (KAt 3 Y w a2 n F) := h2
  have hn := h1.1
  clear h1 h2
  have hne : ((n : Int) != (n : Int)) = false := by simp
  go_enter Tryd.func31, Tryd.ntmps31
  go_wp2_with fail
  go_loopw [5] (fun i wr => ∃ k : Nat, k ≤ n ∧ i = .int .i64 k ∧ Blw w wr) (fun i _ => n - (intOf i).toNat)
  case atStart => exact ⟨0, Nat.zero_le _, rfl, Blw.refl _⟩
  case round =>
    obtain ⟨k, hk, rfl, hb⟩ := hrel
    by_cases hlt : k < n
    · have hlt' : (k : Int) < n := by omega
      obtain ⟨b1, o1, rfl, -, g1⟩ := (H1.out.blw hb).2 k hlt
      obtain ⟨b2, o2, rfl, -, g2⟩ := (H2.out.blw hb).2 k hlt
      generalize hFk : F k = Fk at *
      have P0 : ∀ w', Blw wr w' → w'.cell? ⟨b1, o1 + k * 3, none⟩ = some (.int .i64 (Fk 0)) := fun w' hh => hh.cell (g1 0 (by omega))
      have Q0 : ∀ w', Blw wr w' → w'.cell? ⟨b2, o2 + k * 3, none⟩ = some (.int .i64 (Fk 0)) := fun w' hh => hh.cell (g2 0 (by omega))
      have P1 : ∀ w', Blw wr w' → w'.cell? ⟨b1, o1 + k * 3 + 1, none⟩ = some (.int .i64 (Fk 1)) := fun w' hh => hh.cell (g1 1 (by omega))
      have Q1 : ∀ w', Blw wr w' → w'.cell? ⟨b2, o2 + k * 3 + 1, none⟩ = some (.int .i64 (Fk 1)) := fun w' hh => hh.cell (g2 1 (by omega))
      have P2 : ∀ w', Blw wr w' → w'.cell? ⟨b1, o1 + k * 3 + 2, none⟩ = some (.int .i64 (Fk 2)) := fun w' hh => hh.cell (g1 2 (by omega))
      have Q2 : ∀ w', Blw wr w' → w'.cell? ⟨b2, o2 + k * 3 + 2, none⟩ = some (.int .i64 (Fk 2)) := fun w' hh => hh.cell (g2 2 (by omega))
      have HB : Hid (Blw w wr) := hb
      clear g1 g2 H1 H2 hb hFk
      go_wp2_with fail
      go_region_held3 (fun w' => Blw wr w') ((first | exact (Blw.refl _).drew | assumption | exact Blw.trans (by assumption) (by assumption))) (first
        | (go_at_call 61; refine (eqCli1_same (Fk 0) (Fk 1) (Fk 2) _).mono ?_; rintro e w7 ⟨rfl, hb7⟩))
      all_goals go_wp2
      all_goals go_roundw
      all_goals first | exact ⟨k + 1, by omega, by go_num, HB.out.trans (by assumption)⟩ | (simp [intOf]; omega)
    · obtain rfl : k = n := by omega
      go_wp2
      go_ret
      exact ⟨rfl, hb⟩
set_option maxHeartbeats 3200000 in
theorem markCli_any (ao : Option Addr) (c n : Nat) (F : Nat → Nat → Int) (X : Nat → Prop) (k : Int) (w : World) (h1 : 0 ≤ k) (h2 : k + 3 * n ≤ 9223372036854775807) (h : KOwn 3 X w ao n F) :
    Calls Tryd.prog 34 #[.slice ao n c, .int .i64 k] w fun e w' => e = .returned (.int .i64 (k + 3 * n)) ∧ KOwn 3 X w' ao n (mkK 3 k) ∧ Mod X w w' := by
  have H : Hid (KOwn 3 X w ao n F) := h
  have hn := h.1
  clear h
  go_enter Tryd.func34, Tryd.ntmps34
  go_wp2_with fail
  go_loopw [1, 5] (fun kv iv wr => ∃ i : Nat, i ≤ n ∧ iv = .int .i64 i ∧ kv = .int .i64 (k + 3 * i) ∧ KOwn 3 X wr ao n (upK (mkK 3 k) F i) ∧ Mod X w wr) (fun _ i _ => n - (intOf i).toNat)
  case atStart => exact ⟨0, Nat.zero_le _, rfl, by simp, by rw [upK_zero]; exact H.out, Mod.refl _ _⟩
  case round =>
    obtain ⟨i, hi, rfl, rfl, S, hm⟩ := hrel
    clear H
    by_cases hlt : i < n
    · have hlt' : (i : Int) < n := by omega
      obtain ⟨b, hx, rfl, r⟩ := S.2 (by omega)
      have p0 := k_get r hlt (c := 0) (by omega)
      have f0 := r.frozen (i * 3)
      have p1 := k_get r hlt (c := 1) (by omega)
      have f1 := r.frozen (i * 3 + 1)
      have p2 := k_get r hlt (c := 2) (by omega)
      have f2 := r.frozen (i * 3 + 2)
      rw [Nat.add_zero] at p0
      have HR : Hid (Row (((wr.setCell ⟨b, i * 3, none⟩ (.int .i64 (k + 3 * i))).setCell ⟨b, i * 3 + 1, none⟩ (.int .i64 (k + 3 * i + 1))).setCell ⟨b, i * 3 + 2, none⟩ (.int .i64 (k + 3 * i + 1 + 1))) b (n * 3) (kc 3 (upK (mkK 3 k) F (i + 1)))) := by
        have hq := (setK (setK (setK r i (c := 0) (by omega) (k + 3 * i)) i (c := 1) (by omega) (k + 3 * i + 1)) i (c := 2) (by omega) (k + 3 * i + 1 + 1))
        rw [Nat.add_zero] at hq
        refine hq.congr (fun t ht => ?_)
        have ht2 : t % 3 < 3 := Nat.mod_lt _ (by omega)
        unfold kc updF upK mkK
        by_cases e : t / 3 = i
        · simp only [e, true_and, Nat.lt_succ_self, if_true]
          rcases (show t % 3 = 0 ∨ t % 3 = 1 ∨ t % 3 = 2 by omega) with e2 | e2 | e2 <;> simp [e2] <;> omega
        · have e3 : (t / 3 < i + 1) = (t / 3 < i) := by simp; omega
          simp [e, e3]
      have HM : Hid (Mod X w (((wr.setCell ⟨b, i * 3, none⟩ (.int .i64 (k + 3 * i))).setCell ⟨b, i * 3 + 1, none⟩ (.int .i64 (k + 3 * i + 1))).setCell ⟨b, i * 3 + 2, none⟩ (.int .i64 (k + 3 * i + 1 + 1)))) := (((hm.trans (Mod.setCell _ (p := ⟨b, i * 3, none⟩) hx _)).trans (Mod.setCell _ (p := ⟨b, i * 3 + 1, none⟩) hx _)).trans (Mod.setCell _ (p := ⟨b, i * 3 + 2, none⟩) hx _))
      clear S hm r
      have ee : k + 3 * (i : Int) + 1 + 1 + 1 = k + 3 * ((i + 1 : Nat) : Int) := by omega
      go_wp2
      go_roundw
      case rel => exact ⟨i + 1, by omega, by go_num, by congr 1 <;> omega, ⟨hn, fun _ => ⟨b, hx, rfl, HR.out⟩⟩, HM.out⟩
      case measure => simp [intOf]; omega
    · obtain rfl : i = n := by omega
      go_wp2
      go_ret
      exact ⟨rfl, upK_all (by omega) S, hm⟩
set_option maxHeartbeats 3200000 in
theorem heldCli_any (ao : Option Addr) (c n : Nat) (X : Nat → Prop) (k : Int) (w : World) (h1 : 0 ≤ k) (h2 : k + 3 * n ≤ 9223372036854775807) (h : KOwn 3 X w ao n (mkK 3 k)) :
    Calls Tryd.prog 35 #[.slice ao n c, .int .i64 k] w fun e w' => e = .returned (.int .i64 (k + 3 * n)) ∧ Blw w w' := by
  have H : Hid (KOwn 3 X w ao n (mkK 3 k)) := h
  have hn := h.1
  clear h
  go_enter Tryd.func35, Tryd.ntmps35
  go_wp2_with fail
  go_loopw [1, 5] (fun kv iv wr => ∃ i : Nat, i ≤ n ∧ iv = .int .i64 i ∧ kv = .int .i64 (k + 3 * i) ∧ wr = w) (fun _ i _ => n - (intOf i).toNat)
  case atStart => exact ⟨0, Nat.zero_le _, rfl, by simp, rfl⟩
  case round =>
    obtain ⟨i, hi, rfl, rfl, rfl⟩ := hrel
    by_cases hlt : i < n
    · have hlt' : (i : Int) < n := by omega
      obtain ⟨b, hx, rfl, r⟩ := H.out.2 (by omega)
      have p0 : _ = some (Value.int .i64 (k + 3 * (i : Int))) := (k_get r hlt (c := 0) (by omega)).trans (by unfold mkK; congr 2 <;> omega)
      have n0 : ((k + 3 * (i : Int)) != (k + 3 * (i : Int))) = false := by simp
      have p1 : _ = some (Value.int .i64 (k + 3 * (i : Int) + 1)) := (k_get r hlt (c := 1) (by omega)).trans (by unfold mkK; congr 2 <;> omega)
      have n1 : ((k + 3 * (i : Int) + 1) != (k + 3 * (i : Int) + 1)) = false := by simp
      have p2 : _ = some (Value.int .i64 (k + 3 * (i : Int) + 1 + 1)) := (k_get r hlt (c := 2) (by omega)).trans (by unfold mkK; congr 2 <;> omega)
      have n2 : ((k + 3 * (i : Int) + 1 + 1) != (k + 3 * (i : Int) + 1 + 1)) = false := by simp
      rw [Nat.add_zero] at p0
      clear r
      go_wp2
      go_roundw
      case rel => exact ⟨i + 1, by omega, by go_num, by congr 1 <;> omega, by first | rfl | trivial⟩
      case measure => simp [intOf]; omega
    · obtain rfl : i = n := by omega
      go_wp2
      go_ret
      exact ⟨rfl, Blw.refl _⟩
end Go.Proofs.YtneafnfdemodnaaDoor
/- Clients: what may be one, the table of strides, good clients: the program's and the model's. -/
namespace Go.Proofs.YtneafnfdemodnaaDoor
open Go.RowKit
set_option linter.unusedSimpArgs false
set_option linter.unusedVariables false
theorem iff_t {p : Prop} (h : p) : (true = true ↔ p) := ⟨fun _ => h, fun _ => rfl⟩
theorem iff_f {p : Prop} (h : ¬ p) : (false = true ↔ p) := ⟨(fun e => by cases e), fun g => absurd g h⟩
/-- The table of strides, where the program lays it. -/
def Tb (w : World) : Prop := ∀ i : Nat, i < 12 → w.cell? ⟨0, i, none⟩ = some (.int .i64 (27720 / ((i : Int) + 1)))
theorem Tb.blw {w w' : World} (h : Tb w) (hb : Blw w w') : Tb w' := fun i hi => hb.cell (h i hi)
theorem Tb.mod {X : Nat → Prop} {w w' : World} (h : Tb w) (hm : Mod X w w') (hx : ¬ X 0) : Tb w' := fun i hi => hm.cell (h i hi) hx
theorem Tb.lt {w : World} (h : Tb w) : 0 < w.heap.size := World.block_lt_of_cell? _ _ (h 0 (by omega))
def tkOK (t : Int) : Prop := 1 ≤ t ∧ t ≤ 12
def soOut (t s : Int) (r : Bool) : Prop := (tkOK t ∧ s = 27720 / t ∧ r = true) ∨ (¬ tkOK t ∧ s = 0 ∧ r = false)
theorem soOut_same {t s s' : Int} {r r' : Bool} (h : soOut t s r) (k : soOut t s' r') : s = s' ∧ r = r' := by
  rcases h with ⟨g, rfl, rfl⟩ | ⟨g, rfl, rfl⟩ <;> rcases k with ⟨l, rfl, rfl⟩ | ⟨l, rfl, rfl⟩
  · exact ⟨rfl, rfl⟩
  · exact absurd g l
  · exact absurd l g
  · exact ⟨rfl, rfl⟩
set_option maxHeartbeats 400000 in
theorem l1In_any (n lo hi : Int) (w : World) : Calls Tryd.prog 53 #[.int .i64 n, .int .i64 lo, .int .i64 hi] w fun e w' => ∃ r, e = .returned (.bool r) ∧ (r = true ↔ lo ≤ n ∧ n ≤ hi) ∧ w' = w := by
  by_cases h : lo ≤ n ∧ n ≤ hi
  · exact (l1In_yes n lo hi w h.1 h.2).mono fun e w' ⟨h1, h2⟩ => ⟨true, h1, iff_t h, h2⟩
  · exact (l1In_no n lo hi w h).mono fun e w' ⟨h1, h2⟩ => ⟨false, h1, iff_f h, h2⟩
set_option maxHeartbeats 400000 in
theorem l10Tk_any (t : Int) (w : World) : Calls Tryd.prog 42 #[.int .i64 t] w fun e w' => ∃ r, e = .returned (.bool r) ∧ (r = true ↔ tkOK t) ∧ w' = w := by
  go_enter Tryd.func42, Tryd.ntmps42
  go_wp2_with fail
  refine (l1In_any t 1 12 _).mono ?_
  rintro e w' ⟨r, rfl, hr, rfl⟩
  have HR : Hid (r = true ↔ tkOK t) := hr
  clear hr
  go_wp2
  go_ret
  exact ⟨r, rfl, HR.out, rfl⟩
set_option maxHeartbeats 400000 in
theorem isTk_any (n : Int) (w : World) : Calls Tryd.prog 59 #[.int .i64 n] w fun e w' => ∃ r, e = .returned (.bool r) ∧ (r = true ↔ tkOK n) ∧ w' = w := by
  by_cases h1 : 1 ≤ n
  · by_cases h2 : n ≤ 12
    · have H : Hid (tkOK n) := ⟨h1, by omega⟩
      have d1 : decide (n ≥ 1) = true := by simpa using h1
      have d2 : decide (n ≤ 12) = true := by simp; omega
      clear h1 h2
      go_enter Tryd.func59, Tryd.ntmps59
      go_wp2
      go_ret
      exact ⟨true, rfl, iff_t H.out, rfl⟩
    · have H : Hid (¬ (tkOK n)) := fun g => h2 (by have := g.2; omega)
      have d1 : decide (n ≥ 1) = true := by simpa using h1
      have d2 : decide (n ≤ 12) = false := by simp; omega
      clear h1 h2
      go_enter Tryd.func59, Tryd.ntmps59
      go_wp2
      go_ret
      exact ⟨false, rfl, iff_f H.out, rfl⟩
  · have H : Hid (¬ (tkOK n)) := fun g => h1 g.1
    have d1 : decide (n ≥ 1) = false := by simp; omega
    clear h1
    go_enter Tryd.func59, Tryd.ntmps59
    go_wp2
    go_ret
    exact ⟨false, rfl, iff_f H.out, rfl⟩
theorem soOut_ok {t s : Int} {r : Bool} (h : soOut t s r) (g : tkOK t) : s = 27720 / t ∧ r = true := by
  rcases h with ⟨_, e, er⟩ | ⟨n, _⟩
  · exact ⟨e, er⟩
  · exact absurd g n
set_option maxRecDepth 10000 in
set_option maxHeartbeats 800000 in
theorem implStride_any (t : Int) (w : World) (hT : Tb w) : Calls Tryd.prog 27 #[.int .i64 t] w fun e w' => ∃ s r, e = .returned (.tuple #[.int .i64 s, .bool r]) ∧ soOut t s r ∧ w' = w := by
  have HT : Hid (Tb w) := hT
  clear hT
  go_enter Tryd.func27, Tryd.ntmps27
  go_wp2_with fail
  refine (isTk_any t _).mono ?_
  rintro e w' ⟨r, rfl, hr, rfl⟩
  have HR : Hid (r = true ↔ tkOK t) := hr
  clear hr
  cases r
  · have HN : Hid (¬ tkOK t) := fun g => by have := HR.out.2 g; cases this
    clear HR
    go_wp2
    refine bodyPost_ret (v := .tuple #[.int .i64 0, .bool false]) (by simp [results, Tryd.results27, go_sem]) rfl ⟨0, false, rfl, Or.inr ⟨HN.out, rfl, rfl⟩, rfl⟩
  · have HG : Hid (tkOK t) := HR.out.1 (by first | rfl | trivial)
    clear HR
    obtain ⟨k, hk, ek⟩ : ∃ k : Nat, k < 12 ∧ t = (k : Int) + 1 := ⟨(t - 1).toNat, by have := HG.out; unfold tkOK at this; omega, by have := HG.out; unfold tkOK at this; omega⟩
    have HE : Hid (t = (k : Int) + 1) := ek
    have c0 := HT.out k hk
    have e1 : IntKind.i64.wrap (t - 1) = (k : Int) := by rw [ek, IntKind.wrap_i64] <;> omega
    have hlt : (k : Int) < 12 := by omega
    have hge : ¬ (12 : Int) ≤ k := by omega
    clear ek hk
    go_wp2
    refine bodyPost_ret (v := .tuple #[.int .i64 (27720 / ((k : Int) + 1)), .bool true]) (by simp [results, Tryd.results27, go_sem]) rfl ⟨_, true, rfl, Or.inl ⟨HG.out, by rw [HE.out], rfl⟩, rfl⟩
set_option maxRecDepth 10000 in
set_option maxHeartbeats 800000 in
theorem specStride_any (t : Int) (w : World) : Calls Tryd.prog 29 #[.int .i64 t] w fun e w' => ∃ s r, e = .returned (.tuple #[.int .i64 s, .bool r]) ∧ soOut t s r ∧ w' = w := by
  go_enter Tryd.func29, Tryd.ntmps29
  go_wp2_with fail
  refine (l10Tk_any t _).mono ?_
  rintro e w' ⟨r, rfl, hr, rfl⟩
  have HR : Hid (r = true ↔ tkOK t) := hr
  clear hr
  cases r
  · have HN : Hid (¬ tkOK t) := fun g => by have := HR.out.2 g; cases this
    clear HR
    go_wp2
    refine bodyPost_ret (v := .tuple #[.int .i64 0, .bool false]) (by simp [results, Tryd.results29, go_sem]) rfl ⟨0, false, rfl, Or.inr ⟨HN.out, rfl, rfl⟩, rfl⟩
  · have HG : Hid (tkOK t) := HR.out.1 (by first | rfl | trivial)
    clear HR
    have q1 : (27720 : Int).tdiv t = 27720 / t := Int.tdiv_eq_ediv_of_nonneg (by omega)
    have q2 : ¬ t = 0 := by have := HG.out; unfold tkOK at this; omega
    have q3 : IntKind.i64.wrap (27720 / t) = 27720 / t := by have h := stride_le HG.out.1; rw [IntKind.wrap_i64] <;> omega
    go_wp2
    refine bodyPost_ret (v := .tuple #[.int .i64 (27720 / t), .bool true]) (by simp [results, Tryd.results29, go_sem]) rfl ⟨_, true, rfl, Or.inl ⟨HG.out, rfl, rfl⟩, rfl⟩
end Go.Proofs.YtneafnfdemodnaaDoor
/- Good clients: the program's test and the model's. -/
namespace Go.Proofs.YtneafnfdemodnaaDoor
open Go.RowKit
set_option linter.unusedSimpArgs false
set_option linter.unusedVariables false
def cliOK (a b c : Int) : Prop := (1 ≤ a ∧ a ≤ 12) ∧ (0 ≤ b ∧ b ≤ 100000000) ∧ (0 ≤ c ∧ c ≤ 100000)
set_option maxHeartbeats 1600000 in
theorem isClient_any (a b c : Int) (w : World) : Calls Tryd.prog 58 #[.agg #[.int .i64 a, .int .i64 b, .int .i64 c]] w fun e w' => ∃ r, e = .returned (.bool r) ∧ (r = true ↔ cliOK a b c) ∧ Blw w w' := by
  have hb0 : Blw w (w.alloc (.cells #[.int .i64 a, .int .i64 b, .int .i64 c] 35)) := (Blw.refl _).alloc _
  go_enter Tryd.func58, Tryd.ntmps58
  go_wp2_with fail
  refine (isTk_any a _).mono ?_
  rintro e w' ⟨r, rfl, hr, rfl⟩
  have HR : Hid (r = true ↔ tkOK a) := hr
  clear hr
  cases r
  · have HN : Hid (¬ tkOK a) := fun g => by have := HR.out.2 g; cases this
    clear HR
    go_wp2
    go_ret
    exact ⟨false, rfl, iff_f (fun g => HN.out g.1), hb0⟩
  have HG : Hid (tkOK a) := HR.out.1 (by first | rfl | trivial)
  clear HR
  by_cases h1 : 0 ≤ b
  case neg =>
    have H1 : Hid (¬ 0 ≤ b) := h1
    have d1 : decide (b ≥ 0) = false := by simpa using h1
    clear h1
    go_wp2
    go_ret
    exact ⟨false, rfl, iff_f (fun g => by have := H1.out; have := g.2.1.1; omega), hb0⟩
  have H1 : Hid (0 ≤ b) := h1
  have d1 : decide (b ≥ 0) = true := by simpa using h1
  clear h1
  by_cases h2 : b ≤ 100000000
  case neg =>
    have H2 : Hid (¬ b ≤ 100000000) := h2
    have d2 : decide (b ≤ 100000000) = false := by simpa using h2
    clear h2
    go_wp2
    go_ret
    exact ⟨false, rfl, iff_f (fun g => by have := H2.out; have := g.2.1.2; omega), hb0⟩
  have H2 : Hid (b ≤ 100000000) := h2
  have d2 : decide (b ≤ 100000000) = true := by simpa using h2
  clear h2
  by_cases h3 : 0 ≤ c
  case neg =>
    have H3 : Hid (¬ 0 ≤ c) := h3
    have d3 : decide (c ≥ 0) = false := by simpa using h3
    clear h3
    go_wp2
    go_ret
    exact ⟨false, rfl, iff_f (fun g => by have := H3.out; have := g.2.2.1; omega), hb0⟩
  have H3 : Hid (0 ≤ c) := h3
  have d3 : decide (c ≥ 0) = true := by simpa using h3
  clear h3
  by_cases h4 : c ≤ 100000
  case neg =>
    have H4 : Hid (¬ c ≤ 100000) := h4
    have d4 : decide (c ≤ 100000) = false := by simpa using h4
    clear h4
    go_wp2
    go_ret
    exact ⟨false, rfl, iff_f (fun g => by have := H4.out; have := g.2.2.2; omega), hb0⟩
  have H4 : Hid (c ≤ 100000) := h4
  have d4 : decide (c ≤ 100000) = true := by simpa using h4
  clear h4
  go_wp2
  go_ret
  exact ⟨true, rfl, iff_t ⟨HG.out, ⟨H1.out, H2.out⟩, ⟨H3.out, H4.out⟩⟩, hb0⟩
set_option maxRecDepth 10000 in
set_option maxHeartbeats 1600000 in
theorem implGood_any (ao : Option Addr) (c n : Nat) (F : Nat → Nat → Int) (Y : Nat → Prop) (w : World) (h : KAt 3 Y w ao n F) :
    Calls Tryd.prog 26 #[.slice ao n c] w fun e w' => ∃ r, e = .returned (.bool r) ∧ (r = true ↔ GoodC n F) ∧ Blw w w' := by
  have H : Hid (KAt 3 Y w ao n F) := h
  clear h
  by_cases hn : n < 1
  · have H1 : Hid (¬ GoodC n F) := fun g => by have := g.1; omega
    have d1 : decide ((n : Int) < 1) = true := by simp; omega
    clear hn
    go_enter Tryd.func26, Tryd.ntmps26
    go_wp2
    go_ret
    exact ⟨false, rfl, iff_f H1.out, Blw.refl _⟩
  have d1 : decide ((n : Int) < 1) = false := by simp; omega
  by_cases hm : n > 6
  · have H1 : Hid (¬ GoodC n F) := fun g => by have := g.1; omega
    have d2 : decide ((n : Int) > 6) = true := by simp; omega
    clear hn hm
    go_enter Tryd.func26, Tryd.ntmps26
    go_wp2
    go_ret
    exact ⟨false, rfl, iff_f H1.out, Blw.refl _⟩
  have d2 : decide ((n : Int) > 6) = false := by simp; omega
  have HNN : Hid (1 ≤ n ∧ n ≤ 6) := ⟨by omega, by omega⟩
  have hn6 : n ≤ 6 := by omega
  clear hn hm
  go_enter Tryd.func26, Tryd.ntmps26
  go_wp2_with fail
  clear d1 d2
  go_loopw [15] (fun i wr => ∃ k : Nat, k ≤ n ∧ i = .int .i64 k ∧ Blw w wr ∧ ∀ t, t < k → clOK (F t)) (fun i _ => n - (intOf i).toNat)
  case atStart => exact ⟨0, Nat.zero_le _, rfl, Blw.refl _, fun t ht => absurd ht (Nat.not_lt_zero _)⟩
  case round =>
    obtain ⟨k, hk, rfl, hb, ho⟩ := hrel
    have HB : Hid (Blw w wr) := hb
    have HO : Hid (∀ t, t < k → clOK (F t)) := ho
    clear hb ho
    by_cases hlt : k < n
    · have hlt' : (k : Int) < n := by omega
      obtain ⟨b, o, rfl, -, g⟩ := (H.out.blw HB.out).2 k hlt
      have g0 := g 0 (by omega)
      have g1 := g 1 (by omega)
      have g2 := g 2 (by omega)
      clear g H
      rw [Nat.add_zero] at g0
      go_wp2_with fail
      refine (isClient_any _ _ _ _).mono ?_
      rintro e w1 ⟨r, rfl, hr, hb1⟩
      have HR : Hid (r = true ↔ clOK (F k)) := hr
      have HB1 : Hid (Blw w w1) := (HB.out.alloc _).trans hb1
      clear hr hb1 HB g0 g1 g2
      cases r
      · go_wp2
        go_ret
        exact ⟨false, rfl, iff_f (fun g => by have := HR.out.2 (g.2 k hlt); cases this), HB1.out⟩
      · have HN : Hid (∀ t, t < k + 1 → clOK (F t)) := fun t ht => by
          by_cases e : t = k
          · rw [e]; exact HR.out.1 (by first | rfl | trivial)
          · exact HO.out t (by omega)
        clear HO HR
        go_wp2
        go_roundw
        case rel => exact ⟨k + 1, by omega, by go_num, HB1.out, HN.out⟩
        case measure => simp [intOf]; omega
    · obtain rfl : k = n := by omega
      go_wp2
      go_ret
      exact ⟨true, rfl, iff_t ⟨HNN.out, HO.out⟩, HB.out⟩
set_option maxRecDepth 10000 in
set_option maxHeartbeats 3200000 in
theorem specGood_any (ao : Option Addr) (c n : Nat) (F : Nat → Nat → Int) (Y : Nat → Prop) (w : World) (h : KAt 3 Y w ao n F) :
    Calls Tryd.prog 43 #[.slice ao n c] w fun e w' => ∃ r, e = .returned (.bool r) ∧ (r = true ↔ GoodC n F) ∧ Blw w w' := by
  have H : Hid (KAt 3 Y w ao n F) := h
  have hnn := h.1
  clear h
  go_enter Tryd.func43, Tryd.ntmps43
  go_wp2_with fail
  go_loopw [7] (fun i wr => ∃ k : Nat, k ≤ n ∧ i = .int .i64 k ∧ Blw w wr ∧ ∀ t, t < k → clOK (F t)) (fun i _ => n - (intOf i).toNat)
  case atStart => exact ⟨0, Nat.zero_le _, rfl, Blw.refl _, fun t ht => absurd ht (Nat.not_lt_zero _)⟩
  case round =>
    obtain ⟨k, hk, rfl, hb, ho⟩ := hrel
    have HB : Hid (Blw w wr) := hb
    have HO : Hid (∀ t, t < k → clOK (F t)) := ho
    clear hb ho
    by_cases hlt : k < n
    · have hlt' : (k : Int) < n := by omega
      obtain ⟨b, o, rfl, -, g⟩ := (H.out.blw HB.out).2 k hlt
      have g0 := g 0 (by omega)
      have g1 := g 1 (by omega)
      have g2 := g 2 (by omega)
      clear g H
      rw [Nat.add_zero] at g0
      generalize hFk : F k = Fk at *
      go_wp2_with fail
      refine (l10Tk_any _ _).mono ?_
      rintro e w1 ⟨r, rfl, hr, rfl⟩
      have HB1 : Hid (Blw w (wr.alloc (.cells #[.int .i64 (Fk 0), .int .i64 (Fk 1), .int .i64 (Fk 2)] 35))) := HB.out.alloc _
      have HR : Hid (r = true ↔ tkOK (Fk 0)) := hr
      have HF : Hid (F k = Fk) := hFk
      clear hr HB g0 g1 g2 hFk
      cases r
      · go_wp2
        go_ret
        exact ⟨false, rfl, iff_f (fun g => by have := HR.out.2 (by have := (g.2 k hlt).1; rw [HF.out] at this; exact this); cases this), HB1.out⟩
      go_wp2_with fail
      refine (l1In_any _ 0 100000000 _).mono ?_
      rintro e w1 ⟨r, rfl, hr, rfl⟩
      have HR2 : Hid (r = true ↔ 0 ≤ Fk 1 ∧ Fk 1 ≤ 100000000) := hr
      clear hr
      cases r
      · go_wp2
        go_ret
        exact ⟨false, rfl, iff_f (fun g => by have := HR2.out.2 (by have := (g.2 k hlt).2.1; rw [HF.out] at this; exact this); cases this), HB1.out⟩
      go_wp2_with fail
      refine (l1In_any _ 0 100000 _).mono ?_
      rintro e w1 ⟨r, rfl, hr, rfl⟩
      have HR3 : Hid (r = true ↔ 0 ≤ Fk 2 ∧ Fk 2 ≤ 100000) := hr
      clear hr
      cases r
      · go_wp2
        go_ret
        exact ⟨false, rfl, iff_f (fun g => by have := HR3.out.2 (by have := (g.2 k hlt).2.2; rw [HF.out] at this; exact this); cases this), HB1.out⟩
      · have HN : Hid (∀ t, t < k + 1 → clOK (F t)) := fun t ht => by
          by_cases e : t = k
          · rw [e, HF.out]; exact ⟨HR.out.1 (by first | rfl | trivial), HR2.out.1 (by first | rfl | trivial), HR3.out.1 (by first | rfl | trivial)⟩
          · exact HO.out t (by omega)
        clear HO HR HR2 HR3 HF
        go_wp2
        go_roundw
        case rel => exact ⟨k + 1, by omega, by go_num, HB1.out, HN.out⟩
        case measure => simp [intOf]; omega
    · obtain rfl : k = n := by omega
      clear H
      go_wp2_with fail
      refine (l1In_any _ 1 6 _).mono ?_
      rintro e w1 ⟨r, rfl, hr, rfl⟩
      have HR : Hid (r = true ↔ (1 : Int) ≤ (k : Int) ∧ (k : Int) ≤ 6) := hr
      clear hr
      go_wp2
      go_ret
      exact ⟨r, rfl, ⟨fun e => ⟨by have := HR.out.1 e; omega, HO.out⟩, fun g => HR.out.2 (by have := g.1; omega)⟩, HB.out⟩
end Go.Proofs.YtneafnfdemodnaaDoor
/- Slices that are appended to: what they hold, and what append leaves. -/
namespace Go.Proofs.YtneafnfdemodnaaDoor
open Go.RowKit
set_option linter.unusedSimpArgs false
set_option linter.unusedVariables false
/-- The slice v is nil or owns its row, a block of X; its n elements' cells are F. -/
def Buf (e : TypeId) (size : Nat) (X : Nat → Prop) (w : World) (v : Value) (n : Nat) (F : Nat → Value) : Prop :=
  w.ownsRow 0 e size v n ((List.range (n * size)).map F) ∧ ∀ g, v.ownBlock = some g → X g
theorem Buf.nil (e : TypeId) (size : Nat) (X : Nat → Prop) (w : World) (F : Nat → Value) : Buf e size X w (.slice none 0 0) 0 F := ⟨⟨by simp, Or.inl ⟨rfl, rfl⟩⟩, fun g h => by simp [Value.ownBlock] at h⟩
theorem Buf.form {e : TypeId} {size : Nat} {X : Nat → Prop} {w : World} {v : Value} {n : Nat} {F : Nat → Value} (h : Buf e size X w v n F) :
    ∃ ao cap, v = .slice ao n cap ∧ (0 < n → ∃ g, X g ∧ ao = some ⟨g, 0, none⟩ ∧ Row w g (n * size) F) := by
  rcases h.1.2 with ⟨rfl, rfl⟩ | ⟨g, cap, cur, rfl, _, hb, h1, h2, h3, h4⟩
  · exact ⟨none, 0, rfl, fun h => absurd h (by omega)⟩
  · refine ⟨_, cap, rfl, fun hn => ⟨g, h.2 g rfl, rfl, cur, e, hb, ?_, fun i hi => ?_⟩⟩
    · rw [h3]; exact Nat.mul_le_mul_right _ h1
    · have := congrArg (fun l => l[i]?) h4
      simp [hi] at this
      exact this
theorem Buf.mod {e : TypeId} {size : Nat} {X Z : Nat → Prop} {w w' : World} {v : Value} {n : Nat} {F : Nat → Value} (h : Buf e size X w v n F) (hm : Mod Z w w') (hx : ∀ b, X b → ¬ Z b) : Buf e size X w' v n F := by
  refine ⟨⟨h.1.1, ?_⟩, h.2⟩
  rcases h.1.2 with h1 | ⟨g, cap, cur, rfl, h1, hb, h2⟩
  · exact Or.inl h1
  · exact Or.inr ⟨g, cap, cur, rfl, h1, (hm.block g (Array.getElem?_eq_some_iff.1 hb).1 (hx _ (h.2 g rfl))).trans hb, h2⟩
theorem Buf.blw {e : TypeId} {size : Nat} {X : Nat → Prop} {w w' : World} {v : Value} {n : Nat} {F : Nat → Value} (h : Buf e size X w v n F) (hb : Blw w w') : Buf e size X w' v n F := h.mod (hb.mod (fun _ => False)) (fun _ _ => id)
theorem Buf.mono {e : TypeId} {size : Nat} {X Y : Nat → Prop} {w : World} {v : Value} {n : Nat} {F : Nat → Value} (h : Buf e size X w v n F) (hxy : ∀ b, X b → Y b) : Buf e size Y w v n F := ⟨h.1, fun g hg => hxy _ (h.2 g hg)⟩
theorem Buf.congr {e : TypeId} {size : Nat} {X : Nat → Prop} {w : World} {v : Value} {n : Nat} {F G : Nat → Value} (h : Buf e size X w v n F) (he : ∀ i, i < n * size → F i = G i) : Buf e size X w v n G := by
  have : (List.range (n * size)).map F = (List.range (n * size)).map G := List.map_congr_left (fun i hi => he i (List.mem_range.1 hi))
  exact ⟨this ▸ h.1, h.2⟩
theorem Buf.lit {e : TypeId} {X : Nat → Prop} {w : World} {B : Nat} (h : w.heap[B]? = some (.cells #[] e (0, 0))) (size : Nat) (hx : X B) (F : Nat → Value) : Buf e size X w (.slice (some ⟨B, 0, none⟩) 0 0) 0 F :=
  ⟨⟨by simp, Or.inr ⟨B, 0, #[], rfl, Nat.zero_le _, h, Nat.le_refl _, by simp [maxLen], by simp, by simp⟩⟩, fun g hg => by simp [Value.ownBlock] at hg; subst hg; exact hx⟩
theorem append_none {t ty e : TypeId} {i : TypeInfo} {size : Nat} (ht : Tryd.prog.underlying t = some (.slice e)) (hi : Tryd.prog.info? e = some i) (w : World) (v : Value) (n c : Nat) (xs : List Value) (hown : w.ownsRow 0 e size v n xs) :
    (Builtin.append_ #[t, t] ty #[v, .slice none 0 c]).run Tryd.prog w = .ok v w := by
  rcases hown.2 with ⟨rfl, rfl⟩ | ⟨g, cap, cur, rfl, _, _, hnc, _⟩
  · simp [Builtin.append_, run_underlying ht, sizeOf, typeInfo, hi, Builtin.lenOf, Builtin.firstCells]
  · simp [Builtin.append_, run_underlying ht, sizeOf, typeInfo, hi, Builtin.lenOf, Builtin.firstCells, hnc, storeCells]
def cat (k : Nat) (F G : Nat → Value) : Nat → Value := fun i => if i < k then F i else G (i - k)
theorem cat_list (k m : Nat) (F G : Nat → Value) : (List.range k).map F ++ (List.range m).map G = (List.range (k + m)).map (cat k F G) := by
  apply List.ext_getElem?
  intro i
  by_cases h : i < k
  · rw [List.getElem?_append_left (by simpa using h)]
    simp [h, cat, Nat.lt_of_lt_of_le h (Nat.le_add_right k m)]
  · rw [List.getElem?_append_right (by simp; omega)]
    by_cases h2 : i < k + m
    · have : i - k < m := by omega
      simp [h, h2, this, cat]
    · have : ¬ i - k < m := by omega
      simp [h2, this]
/-- append of whatever is read at the source. -/
theorem Buf.append {t e : TypeId} {i : TypeInfo} {z : Value} {size bytes : Nat} (ht : Tryd.prog.underlying t = some (.slice e)) (hi : Tryd.prog.info? e = some i) (hz : i.zero = some z) (hsize : i.size = size) (hby : i.bytes = bytes) (hzs : z.cells.size = size) (hsz : 0 < size)
    {X : Nat → Prop} {w : World} {v : Value} {n : Nat} {F : Nat → Value} (h : Buf e size X w v n F) {ao : Option Addr} {m : Nat} (c : Nat) {G : Nat → Value} (hs : ao = none → m = 0) (hG : ∀ ad, ao = some ad → ∀ j, j < m * size → w.cell? (ad.add j) = some (G j)) (h1 : ∀ j, (G j).oneCell' = true)
    (hb : n + m ≤ 2097152) (hbb : bytes ≤ 1024) (ty : TypeId) :
    ∃ ao' cap w', (Builtin.append_ #[t, t] ty #[v, .slice ao m c]).run Tryd.prog w = .ok (.slice ao' (n + m) cap) w' ∧ Buf e size (fun b => (X b ∨ b = w.heap.size) ∧ b < w'.heap.size) w' (.slice ao' (n + m) cap) (n + m) (cat (n * size) F G) ∧ Mod (fun b => v.ownBlock = some b) w w' := by
  cases ao with
  | none =>
    obtain rfl := hs rfl
    obtain ⟨a0, cap, rfl, -⟩ := h.form
    refine ⟨a0, cap, w, append_none ht hi w _ n c _ h.1, ⟨?_, fun g hg => ⟨Or.inl (h.2 g hg), ?_⟩⟩, Mod.refl _ _⟩
    · have e1 : (List.range ((n + 0) * size)).map (cat (n * size) F G) = (List.range (n * size)).map F := by
        rw [Nat.add_zero]
        exact List.map_congr_left (fun i hi => by simp [cat, List.mem_range.1 hi])
      rw [e1]
      exact h.1
    · replace hg : (Value.slice a0 n cap).ownBlock = some g := hg
      rcases h.1.2 with ⟨e1, -⟩ | ⟨g', cap', cur, e1, _, hb', _⟩
      · rw [e1] at hg; simp [Value.ownBlock] at hg
      · rw [e1] at hg
        simp [Value.ownBlock] at hg
        subst hg
        exact (Array.getElem?_eq_some_iff.1 hb').1
  | some ad =>
    obtain ⟨v', w', hr, h2, h3, -, h5⟩ := run_append_own_at (P := Tryd.prog) w 0 t ty e i z size bytes ht hi hz hsize hby hzs hsz v n _ h.1 ad m c ((List.range (m * size)).map G) (by simp)
      (fun j u hu => by
        have hj : j < m * size := by
          have := (List.getElem?_eq_some_iff.1 hu).1
          simpa using this
        rw [hG ad rfl j hj]
        simpa [hj] using hu) (fun u hu => by
        obtain ⟨j, -, rfl⟩ := List.mem_map.1 hu
        exact h1 j) (by simp only [maxLen]; omega) (Nat.le_trans (Nat.mul_le_mul hb hbb) (by decide)) (Nat.zero_le _)
    rw [cat_list, ← Nat.add_mul] at h2
    have hm : Mod (fun b => v.ownBlock = some b) w w' := ⟨h3.os, h3.tape, h3.output, h3.size, fun k hk hx => h3.block k hk (fun e => hx e.symm)⟩
    have hB : Buf e size (fun b => (X b ∨ b = w.heap.size) ∧ b < w'.heap.size) w' v' (n + m) (cat (n * size) F G) := by
      refine ⟨h2, fun g hg => ⟨?_, ?_⟩⟩
      · rcases h5 with h5 | h5
        · exact Or.inl (h.2 g (h5 ▸ hg))
        · rw [h5] at hg
          exact Or.inr (Option.some.inj hg).symm
      · rcases h2.2 with ⟨e1, -⟩ | ⟨g', cap', cur, e1, _, hb', _⟩
        · rw [e1] at hg; simp [Value.ownBlock] at hg
        · rw [e1] at hg
          simp [Value.ownBlock] at hg
          subst hg
          exact (Array.getElem?_eq_some_iff.1 hb').1
    obtain ⟨a0, cap, rfl, -⟩ := hB.form
    exact ⟨a0, cap, w', hr, hB, hm⟩
abbrev ic (f : Nat → Int) : Nat → Value := fun i => .int .i64 (f i)
def BufI (X : Nat → Prop) (w : World) (v : Value) (n : Nat) (f : Nat → Int) : Prop := Buf 3 1 X w v n (ic f)
theorem BufI.own {X : Nat → Prop} {w : World} {v : Value} {n : Nat} {f : Nat → Int} (h : BufI X w v n f) (hn : n ≤ 9223372036854775807) : ∃ ao cap, v = .slice ao n cap ∧ IntsOwn X w ao n f := by
  obtain ⟨ao, cap, e, h1⟩ := h.form
  exact ⟨ao, cap, e, hn, fun h0 => let ⟨g, hx, ea, hr⟩ := h1 h0; ⟨g, hx, ea, by rw [Nat.mul_one] at hr; exact hr⟩⟩
def icat (n : Nat) (f g : Nat → Int) : Nat → Int := fun i => if i < n then f i else g (i - n)
theorem BufI.append {X Y : Nat → Prop} {w : World} {v : Value} {n : Nat} {f : Nat → Int} (h : BufI X w v n f) {ao : Option Addr} {m : Nat} (c : Nat) {g : Nat → Int} (hs : IntsAt Y w ao m g) (hb : n + m ≤ 2097152) (ty : TypeId) :
    ∃ ao' cap w', (Builtin.append_ #[23, 23] ty #[v, .slice ao m c]).run Tryd.prog w = .ok (.slice ao' (n + m) cap) w' ∧ BufI (fun b => (X b ∨ b = w.heap.size) ∧ b < w'.heap.size) w' (.slice ao' (n + m) cap) (n + m) (icat n f g) ∧ Mod (fun b => v.ownBlock = some b) w w' := by
  obtain ⟨i0, hi0, hz0, hz1, hz2⟩ := info_parts tinfo3
  obtain ⟨a, cap, w', h1, h2, h3⟩ := Buf.append Tryd.underlying23 hi0 hz0 hz1 hz2 rfl (by decide) h (ao := ao) (m := m) c (G := ic g) (fun e => by
      rcases Nat.eq_zero_or_pos m with h0 | h0
      · exact h0
      · obtain ⟨b, o, e2, -⟩ := hs.2 0 h0
        rw [e] at e2; cases e2) (fun ad e j hj => by
      obtain ⟨b, o, e2, -, h4⟩ := hs.2 j (by omega)
      rw [e] at e2
      cases e2
      rw [Addr.add_mid]
      exact h4) (fun j => rfl) hb (by decide) ty
  refine ⟨a, cap, w', h1, h2.congr (fun i hi => ?_), h3⟩
  simp only [cat, ic, icat, Nat.mul_one]
  split <;> rfl
/-- append at the operation, its run being known. -/
theorem wpList_append_run {w : World} {ops : Array Oper} {rest : List Oper} {o : Oper} {a : Act} {Q : Exit → Act → World → Prop} (hgd : o.guard = none) (s x : Operand) (t : TypeId)
    (ho : o.op = .call { callee := .builtin .append, args := #[s, x], argTypes := #[t, t] }) (v u : Value) (hs : a.eval s = v) (hx : a.eval x = u) {r : Value} {w' : World} (hrun : (Builtin.append_ #[t, t] o.type #[v, u]).run Tryd.prog w = .ok r w')
    (h : wpList Tryd.prog ops Q rest (a.put o.dst r) w') : wpList Tryd.prog ops Q (o :: rest) a w := by
  refine wpList_plain hgd fun K hK => ?_
  unfold Oper.wp
  simp [execOp, ho, resolve, invoke, builtin, hs, hx, hrun, Result.andThen]
  exact hK _ _ h
/-- The same, in two steps: first the operation is met. -/
theorem wpList_append_at {w : World} {ops : Array Oper} {rest : List Oper} {o : Oper} {a : Act} {Q : Exit → Act → World → Prop} (hgd : o.guard = none) (s x : Operand) (t : TypeId)
    (ho : o.op = .call { callee := .builtin .append, args := #[s, x], argTypes := #[t, t] })
    (h : ∃ r w', (Builtin.append_ #[t, t] o.type #[a.eval s, a.eval x]).run Tryd.prog w = .ok r w' ∧ wpList Tryd.prog ops Q rest (a.put o.dst r) w') : wpList Tryd.prog ops Q (o :: rest) a w := by
  obtain ⟨r, w', h1, h2⟩ := h
  exact wpList_append_run hgd s x t ho _ _ rfl rfl h1 h2
/-- append as one step of a region that draws its order, its run being known. -/
theorem step_append_run {w : World} {ops : Array Oper} {o : Oper} {a : Act} {K : Act → World → Prop} {Q : Exit → Act → World → Prop} {E : Prop} (hgd : o.guard = none) (s x : Operand) (t : TypeId)
    (ho : o.op = .call { callee := .builtin .append, args := #[s, x], argTypes := #[t, t] }) (v u : Value) (hs : a.eval s = v) (hx : a.eval x = u) {r : Value} {w' : World} (hrun : (Builtin.append_ #[t, t] o.type #[v, u]).run Tryd.prog w = .ok r w')
    (h : K (a.put o.dst r) w') : if Region.wanted o (yielded ops a.tmps) = true then Oper.wp Tryd.prog o a w K Q else E := by
  have hw : Region.wanted o (yielded ops a.tmps) = true := by simp [Region.wanted, hgd]
  rw [if_pos hw]
  unfold Oper.wp
  simp [execOp, ho, resolve, invoke, builtin, hs, hx, hrun, Result.andThen]
  exact h
/-- The operands of an append that no guard turns off. -/
def appOf (o : Oper) : Option (Operand × Operand × TypeId) :=
  match o.guard, o.op with
  | none, .call { callee := .builtin .append, args := ⟨[s, x]⟩, argTypes := ⟨[t, t']⟩ } => if t = t' then some (s, x, t) else none
  | _, _ => none
theorem appOf_eq {o : Oper} {s x : Operand} {t : TypeId} (h : appOf o = some (s, x, t)) : o.guard = none ∧ o.op = .call { callee := .builtin .append, args := #[s, x], argTypes := #[t, t] } := by
  unfold appOf at h
  split at h
  · rename_i e1 e2
    split at h
    · rename_i e3
      subst e3
      simp only [Option.some.injEq, Prod.mk.injEq] at h
      obtain ⟨rfl, rfl, rfl⟩ := h
      exact ⟨e1, e2⟩
    · cases h
  · cases h
theorem step_app {w : World} {ops : Array Oper} {o : Oper} {a : Act} {K : Act → World → Prop} {Q : Exit → Act → World → Prop} {E : Prop} (s x : Operand) (t : TypeId) (ho : appOf o = some (s, x, t))
    (h : ∃ r w', (Builtin.append_ #[t, t] o.type #[a.eval s, a.eval x]).run Tryd.prog w = .ok r w' ∧ K (a.put o.dst r) w') :
    if Region.wanted o (yielded ops a.tmps) = true then Oper.wp Tryd.prog o a w K Q else E := by
  obtain ⟨r, w', h1, h2⟩ := h
  exact step_append_run (appOf_eq ho).1 s x t (appOf_eq ho).2 _ _ rfl rfl h1 h2
theorem wpList_app {w : World} {ops : Array Oper} {rest : List Oper} {o : Oper} {a : Act} {Q : Exit → Act → World → Prop} (s x : Operand) (t : TypeId) (ho : appOf o = some (s, x, t))
    (h : ∃ r w', (Builtin.append_ #[t, t] o.type #[a.eval s, a.eval x]).run Tryd.prog w = .ok r w' ∧ wpList Tryd.prog ops Q rest (a.put o.dst r) w') : wpList Tryd.prog ops Q (o :: rest) a w := by
  obtain ⟨r, w', h1, h2⟩ := h
  exact wpList_append_run (appOf_eq ho).1 s x t (appOf_eq ho).2 _ _ rfl rfl h1 h2
theorem one_ints (w : World) (x : Int) : IntsAt (fun b => b = w.heap.size) (w.alloc (.cells #[.int .i64 x] 3)) (some ⟨w.heap.size, 0, none⟩) 1 (fun _ => x) := by
  refine ⟨by omega, fun i hi => ⟨w.heap.size, 0, rfl, rfl, ?_⟩⟩
  obtain rfl : i = 0 := by omega
  exact (Row.of_cells (heap_alloc_new w (.cells #[.int .i64 x] 3)) (fun _ => .int .i64 x) (fun i hi => by obtain rfl : i = 0 := by simpa using hi
                                                                                                          rfl)).cell (i := 0) (by simp)
end Go.Proofs.YtneafnfdemodnaaDoor
/- Lists of clients: what is made of each, the first of the least, sums. -/
namespace Go.Proofs.YtneafnfdemodnaaDoor
open Go.RowKit
set_option linter.unusedSimpArgs false
set_option linter.unusedVariables false
set_option maxHeartbeats 400000 in
theorem clPass_any (a b c : Int) (w : World) : Calls Tryd.prog 65 #[.agg #[.int .i64 a, .int .i64 b, .int .i64 c]] w fun e w' => e = .returned (.int .i64 b) ∧ Blw w w' := by
  go_enter Tryd.func65, Tryd.ntmps65
  go_wp2
  go_ret
  exact ⟨rfl, (Blw.refl _).alloc _⟩
set_option maxHeartbeats 400000 in
theorem clTurns_any (a b c : Int) (w : World) : Calls Tryd.prog 48 #[.agg #[.int .i64 a, .int .i64 b, .int .i64 c]] w fun e w' => e = .returned (.int .i64 c) ∧ Blw w w' := by
  go_enter Tryd.func48, Tryd.ntmps48
  go_wp2
  go_ret
  exact ⟨rfl, (Blw.refl _).alloc _⟩
set_option maxHeartbeats 400000 in
theorem clTick_any (a b c : Int) (w : World) : Calls Tryd.prog 49 #[.agg #[.int .i64 a, .int .i64 b, .int .i64 c]] w fun e w' => e = .returned (.int .i64 a) ∧ Blw w w' := by
  go_enter Tryd.func49, Tryd.ntmps49
  go_wp2
  go_ret
  exact ⟨rfl, (Blw.refl _).alloc _⟩
set_option maxRecDepth 10000 in
set_option maxHeartbeats 800000 in
theorem clLag_any (a b c t u : Int) (zt zu : Nat) (w : World) (ht : Row w zt 1 (fun _ => .int .i64 t)) (hu : Row w zu 1 (fun _ => .int .i64 u)) (h1 : -9223372036854775808 ≤ a * t ∧ a * t ≤ 9223372036854775807) (h2 : -9223372036854775808 ≤ c * u ∧ c * u ≤ 9223372036854775807) (h3 : -9223372036854775808 ≤ a * t - c * u ∧ a * t - c * u ≤ 9223372036854775807) : Calls Tryd.prog 50 #[.agg #[.int .i64 a, .int .i64 b, .int .i64 c], .pointer (some ⟨zt, 0, none⟩), .pointer (some ⟨zu, 0, none⟩)] w fun e w' => e = .returned (.int .i64 (a * t - c * u)) ∧ Blw w w' := by
  have hb : Blw w (w.alloc (.cells #[.int .i64 a, .int .i64 b, .int .i64 c] 35)) := (Blw.refl _).alloc _
  have q1 := (ht.blw hb).cell (i := 0) (by omega)
  have q2 := (hu.blw hb).cell (i := 0) (by omega)
  have e1 : IntKind.i64.wrap (a * t) = a * t := by rw [IntKind.wrap_i64] <;> omega
  have e2 : IntKind.i64.wrap (c * u) = c * u := by rw [IntKind.wrap_i64] <;> omega
  have e3 : IntKind.i64.wrap (a * t - c * u) = a * t - c * u := by rw [IntKind.wrap_i64] <;> omega
  clear ht hu h1 h2 h3
  go_enter Tryd.func50, Tryd.ntmps50
  go_wp2
  go_ret
  exact ⟨rfl, hb⟩
set_option maxRecDepth 10000 in
set_option maxHeartbeats 1600000 in
theorem eachPass_any (ao : Option Addr) (c n : Nat) (F : Nat → Nat → Int) (Y : Nat → Prop) (w : World) (hn : n ≤ 1048576) (h : KAt 3 Y w ao n F) :
    Calls Tryd.prog 47 #[.slice ao n c, .func (.func 65) #[] #[]] w fun e w' => e = .returned (.slice (some ⟨w.heap.size, 0, none⟩) n n) ∧ Row w' w.heap.size n (fun t => .int .i64 (F t 1)) ∧ Blw w w' := by
  have H : Hid (KAt 3 Y w ao n F) := h
  have hmk := mkInts n hn
  clear h
  go_enter Tryd.func47, Tryd.ntmps47
  go_wp2
  clear hmk
  go_loopw [13] (fun i wr => ∃ j : Nat, j ≤ n ∧ i = .int .i64 j ∧ Row wr w.heap.size n (fun t => Value.int .i64 (if t < j then F t 1 else 0)) ∧ Blw w wr) (fun i _ => n - (intOf i).toNat)
  case atStart => exact ⟨0, Nat.zero_le _, rfl, (Row.made w (.int .i64 0) n 3).congr (fun i _ => by simp), (Blw.refl _).alloc _⟩
  case round =>
    obtain ⟨j, hj, rfl, hr, hb⟩ := hrel
    have HR : Hid (Row wr w.heap.size n (fun t => Value.int .i64 (if t < j then F t 1 else 0))) := hr
    have HB : Hid (Blw w wr) := hb
    clear hr hb
    by_cases hlt : j < n
    · have hlt' : (j : Int) < n := by omega
      obtain ⟨b, o, rfl, -, g⟩ := (H.out.blw HB.out).2 j hlt
      have g0 := g 0 (by omega)
      have g1 := g 1 (by omega)
      have g2 := g 2 (by omega)
      clear g H
      rw [Nat.add_zero] at g0
      have HA : Hid (Blw wr (wr.alloc (.cells #[.int .i64 (F j 0), .int .i64 (F j 1), .int .i64 (F j 2)] 35))) := (Blw.refl _).alloc _
      go_wp2_with fail
      clear g0 g1 g2
      refine (clPass_any _ _ _ _).mono ?_
      rintro e w1 ⟨rfl, hb1⟩
      have hb2 := HA.out.trans hb1
      have st := fill_step (mk := fun x => Value.int .i64 x) (f := fun t => F t 1) (HB.out.trans hb2) (HR.out.blw hb2)
      have g2 := (HR.out.blw hb2).cell hlt
      have g3 := (HR.out.blw hb2).frozen j
      have ST : Hid (_ ∧ _) := st
      clear st hb1 hb2 HA HR HB
      go_wp2
      go_roundw
      case rel => exact ⟨j + 1, by omega, by go_num, ST.out.1, ST.out.2⟩
      case measure => simp [intOf]; omega
    · go_wp2
      go_ret
      obtain rfl : j = n := by omega
      exact ⟨rfl, HR.out.congr fun i hi => by simp [hi], HB.out⟩
set_option maxRecDepth 10000 in
set_option maxHeartbeats 1600000 in
theorem eachTurns_any (ao : Option Addr) (c n : Nat) (F : Nat → Nat → Int) (Y : Nat → Prop) (w : World) (hn : n ≤ 1048576) (h : KAt 3 Y w ao n F) :
    Calls Tryd.prog 47 #[.slice ao n c, .func (.func 48) #[] #[]] w fun e w' => e = .returned (.slice (some ⟨w.heap.size, 0, none⟩) n n) ∧ Row w' w.heap.size n (fun t => .int .i64 (F t 2)) ∧ Blw w w' := by
  have H : Hid (KAt 3 Y w ao n F) := h
  have hmk := mkInts n hn
  clear h
  go_enter Tryd.func47, Tryd.ntmps47
  go_wp2
  clear hmk
  go_loopw [13] (fun i wr => ∃ j : Nat, j ≤ n ∧ i = .int .i64 j ∧ Row wr w.heap.size n (fun t => Value.int .i64 (if t < j then F t 2 else 0)) ∧ Blw w wr) (fun i _ => n - (intOf i).toNat)
  case atStart => exact ⟨0, Nat.zero_le _, rfl, (Row.made w (.int .i64 0) n 3).congr (fun i _ => by simp), (Blw.refl _).alloc _⟩
  case round =>
    obtain ⟨j, hj, rfl, hr, hb⟩ := hrel
    have HR : Hid (Row wr w.heap.size n (fun t => Value.int .i64 (if t < j then F t 2 else 0))) := hr
    have HB : Hid (Blw w wr) := hb
    clear hr hb
    by_cases hlt : j < n
    · have hlt' : (j : Int) < n := by omega
      obtain ⟨b, o, rfl, -, g⟩ := (H.out.blw HB.out).2 j hlt
      have g0 := g 0 (by omega)
      have g1 := g 1 (by omega)
      have g2 := g 2 (by omega)
      clear g H
      rw [Nat.add_zero] at g0
      have HA : Hid (Blw wr (wr.alloc (.cells #[.int .i64 (F j 0), .int .i64 (F j 1), .int .i64 (F j 2)] 35))) := (Blw.refl _).alloc _
      go_wp2_with fail
      clear g0 g1 g2
      refine (clTurns_any _ _ _ _).mono ?_
      rintro e w1 ⟨rfl, hb1⟩
      have hb2 := HA.out.trans hb1
      have st := fill_step (mk := fun x => Value.int .i64 x) (f := fun t => F t 2) (HB.out.trans hb2) (HR.out.blw hb2)
      have g2 := (HR.out.blw hb2).cell hlt
      have g3 := (HR.out.blw hb2).frozen j
      have ST : Hid (_ ∧ _) := st
      clear st hb1 hb2 HA HR HB
      go_wp2
      go_roundw
      case rel => exact ⟨j + 1, by omega, by go_num, ST.out.1, ST.out.2⟩
      case measure => simp [intOf]; omega
    · go_wp2
      go_ret
      obtain rfl : j = n := by omega
      exact ⟨rfl, HR.out.congr fun i hi => by simp [hi], HB.out⟩
set_option maxRecDepth 10000 in
set_option maxHeartbeats 1600000 in
theorem eachTick_any (ao : Option Addr) (c n : Nat) (F : Nat → Nat → Int) (Y : Nat → Prop) (w : World) (hn : n ≤ 1048576) (h : KAt 3 Y w ao n F) :
    Calls Tryd.prog 47 #[.slice ao n c, .func (.func 49) #[] #[]] w fun e w' => e = .returned (.slice (some ⟨w.heap.size, 0, none⟩) n n) ∧ Row w' w.heap.size n (fun t => .int .i64 (F t 0)) ∧ Blw w w' := by
  have H : Hid (KAt 3 Y w ao n F) := h
  have hmk := mkInts n hn
  clear h
  go_enter Tryd.func47, Tryd.ntmps47
  go_wp2
  clear hmk
  go_loopw [13] (fun i wr => ∃ j : Nat, j ≤ n ∧ i = .int .i64 j ∧ Row wr w.heap.size n (fun t => Value.int .i64 (if t < j then F t 0 else 0)) ∧ Blw w wr) (fun i _ => n - (intOf i).toNat)
  case atStart => exact ⟨0, Nat.zero_le _, rfl, (Row.made w (.int .i64 0) n 3).congr (fun i _ => by simp), (Blw.refl _).alloc _⟩
  case round =>
    obtain ⟨j, hj, rfl, hr, hb⟩ := hrel
    have HR : Hid (Row wr w.heap.size n (fun t => Value.int .i64 (if t < j then F t 0 else 0))) := hr
    have HB : Hid (Blw w wr) := hb
    clear hr hb
    by_cases hlt : j < n
    · have hlt' : (j : Int) < n := by omega
      obtain ⟨b, o, rfl, -, g⟩ := (H.out.blw HB.out).2 j hlt
      have g0 := g 0 (by omega)
      have g1 := g 1 (by omega)
      have g2 := g 2 (by omega)
      clear g H
      rw [Nat.add_zero] at g0
      have HA : Hid (Blw wr (wr.alloc (.cells #[.int .i64 (F j 0), .int .i64 (F j 1), .int .i64 (F j 2)] 35))) := (Blw.refl _).alloc _
      go_wp2_with fail
      clear g0 g1 g2
      refine (clTick_any _ _ _ _).mono ?_
      rintro e w1 ⟨rfl, hb1⟩
      have hb2 := HA.out.trans hb1
      have st := fill_step (mk := fun x => Value.int .i64 x) (f := fun t => F t 0) (HB.out.trans hb2) (HR.out.blw hb2)
      have g2 := (HR.out.blw hb2).cell hlt
      have g3 := (HR.out.blw hb2).frozen j
      have ST : Hid (_ ∧ _) := st
      clear st hb1 hb2 HA HR HB
      go_wp2
      go_roundw
      case rel => exact ⟨j + 1, by omega, by go_num, ST.out.1, ST.out.2⟩
      case measure => simp [intOf]; omega
    · go_wp2
      go_ret
      obtain rfl : j = n := by omega
      exact ⟨rfl, HR.out.congr fun i hi => by simp [hi], HB.out⟩
set_option maxRecDepth 10000 in
set_option maxHeartbeats 1600000 in
theorem eachLag_any (ao : Option Addr) (c n : Nat) (F : Nat → Nat → Int) (u1 u2 : Int) (zt zu : Nat) (Y : Nat → Prop) (w : World) (hn : n ≤ 1048576) (h : KAt 3 Y w ao n F) (ht : Row w zt 1 (fun _ => .int .i64 u1)) (hu : Row w zu 1 (fun _ => .int .i64 u2)) (hz : ∀ k, k < n → (-9223372036854775808 ≤ F k 0 * u1 ∧ F k 0 * u1 ≤ 9223372036854775807) ∧ (-9223372036854775808 ≤ F k 2 * u2 ∧ F k 2 * u2 ≤ 9223372036854775807) ∧ (-9223372036854775808 ≤ F k 0 * u1 - F k 2 * u2 ∧ F k 0 * u1 - F k 2 * u2 ≤ 9223372036854775807)) :
    Calls Tryd.prog 47 #[.slice ao n c, .func (.func 50) #[] #[.pointer (some ⟨zt, 0, none⟩), .pointer (some ⟨zu, 0, none⟩)]] w fun e w' => e = .returned (.slice (some ⟨w.heap.size, 0, none⟩) n n) ∧ Row w' w.heap.size n (fun t => .int .i64 (F t 0 * u1 - F t 2 * u2)) ∧ Blw w w' := by
  have H : Hid (KAt 3 Y w ao n F) := h
  have hmk := mkInts n hn
  clear h
  have HT : Hid (Row w zt 1 (fun _ => .int .i64 u1)) := ht
  have HU : Hid (Row w zu 1 (fun _ => .int .i64 u2)) := hu
  have HZ : Hid (∀ k, k < n → (-9223372036854775808 ≤ F k 0 * u1 ∧ F k 0 * u1 ≤ 9223372036854775807) ∧ (-9223372036854775808 ≤ F k 2 * u2 ∧ F k 2 * u2 ≤ 9223372036854775807) ∧ (-9223372036854775808 ≤ F k 0 * u1 - F k 2 * u2 ∧ F k 0 * u1 - F k 2 * u2 ≤ 9223372036854775807)) := hz
  clear ht hu hz
  go_enter Tryd.func47, Tryd.ntmps47
  go_wp2
  clear hmk
  go_loopw [13] (fun i wr => ∃ j : Nat, j ≤ n ∧ i = .int .i64 j ∧ Row wr w.heap.size n (fun t => Value.int .i64 (if t < j then F t 0 * u1 - F t 2 * u2 else 0)) ∧ Blw w wr) (fun i _ => n - (intOf i).toNat)
  case atStart => exact ⟨0, Nat.zero_le _, rfl, (Row.made w (.int .i64 0) n 3).congr (fun i _ => by simp), (Blw.refl _).alloc _⟩
  case round =>
    obtain ⟨j, hj, rfl, hr, hb⟩ := hrel
    have HR : Hid (Row wr w.heap.size n (fun t => Value.int .i64 (if t < j then F t 0 * u1 - F t 2 * u2 else 0))) := hr
    have HB : Hid (Blw w wr) := hb
    clear hr hb
    by_cases hlt : j < n
    · have hlt' : (j : Int) < n := by omega
      obtain ⟨b, o, rfl, -, g⟩ := (H.out.blw HB.out).2 j hlt
      have g0 := g 0 (by omega)
      have g1 := g 1 (by omega)
      have g2 := g 2 (by omega)
      clear g H
      rw [Nat.add_zero] at g0
      have HA : Hid (Blw wr (wr.alloc (.cells #[.int .i64 (F j 0), .int .i64 (F j 1), .int .i64 (F j 2)] 35))) := (Blw.refl _).alloc _
      go_wp2_with fail
      clear g0 g1 g2
      refine (clLag_any _ _ _ u1 u2 zt zu _ ((HT.out.blw HB.out).blw HA.out) ((HU.out.blw HB.out).blw HA.out) (HZ.out j hlt).1 (HZ.out j hlt).2.1 (HZ.out j hlt).2.2).mono ?_
      rintro e w1 ⟨rfl, hb1⟩
      have hb2 := HA.out.trans hb1
      have st := fill_step (mk := fun x => Value.int .i64 x) (f := fun t => F t 0 * u1 - F t 2 * u2) (HB.out.trans hb2) (HR.out.blw hb2)
      have g2 := (HR.out.blw hb2).cell hlt
      have g3 := (HR.out.blw hb2).frozen j
      have ST : Hid (_ ∧ _) := st
      clear st hb1 hb2 HA HR HB
      go_wp2
      go_roundw
      case rel => exact ⟨j + 1, by omega, by go_num, ST.out.1, ST.out.2⟩
      case measure => simp [intOf]; omega
    · go_wp2
      go_ret
      obtain rfl : j = n := by omega
      exact ⟨rfl, HR.out.congr fun i hi => by simp [hi], HB.out⟩
/-- The first of the least of some numbers. -/
def lsI (f : Nat → Int) : Nat → Nat
  | 0 => 0
  | k + 1 => if f k < f (lsI f k) then k else lsI f k
theorem lsI_le (f : Nat → Int) (k : Nat) : lsI f k ≤ k := by
  induction k with
  | zero => exact Nat.le_refl _
  | succ k ih => unfold lsI; split <;> omega
theorem lsI_lst (F : Nat → Nat → Int) (k : Nat) : lsI (fun i => F i 1) k = lst F k := by
  induction k with
  | zero => rfl
  | succ k ih => unfold lsI lst; rw [ih]
theorem lsI_lt (f : Nat → Int) {k n : Nat} (h : k < n) : lsI f k < n := Nat.lt_of_le_of_lt (lsI_le f k) h
set_option maxRecDepth 10000 in
set_option maxHeartbeats 1600000 in
theorem firstLeast_any (ao : Option Addr) (c n : Nat) (f : Nat → Int) (Y : Nat → Prop) (w : World) (h : IntsAt Y w ao n f) :
    Calls Tryd.prog 64 #[.slice ao n c] w fun e w' => e = .returned (.int .i64 (lsI f n)) ∧ w' = w := by
  have H : Hid (IntsAt Y w ao n f) := h
  have hnn := h.1
  clear h
  go_enter Tryd.func64, Tryd.ntmps64
  go_wp2_with fail
  go_loopw [3, 8] (fun b i wr => ∃ k : Nat, k ≤ n ∧ b = .int .i64 (lsI f k) ∧ i = .int .i64 k ∧ wr = w) (fun _ i _ => n - (intOf i).toNat)
  case atStart => exact ⟨0, Nat.zero_le _, rfl, rfl, rfl⟩
  case round =>
    obtain ⟨k, hk, rfl, rfl, rfl⟩ := hrel
    by_cases hlt : k < n
    · have hlt' : (k : Int) < n := by omega
      obtain ⟨b, o, rfl, -, g1⟩ := H.out.2 k hlt
      obtain ⟨b', o', eb, -, g2⟩ := H.out.2 (lsI f k) (lsI_lt f hlt)
      have hl1 : lsI f k < n := lsI_lt f hlt
      cases eb
      by_cases hq : f k < f (lsI f k)
      · have E : Hid (lsI f (k + 1) = k) := by show _ = _; simp only [lsI]; rw [if_pos hq]
        have d1 : decide (f k < f (lsI f k)) = true := by simpa using hq
        clear hq
        generalize lsI f k = m at *
        have hl2 : (m : Int) < n := by omega
        go_wp2
        go_roundw
        case rel => exact ⟨k + 1, by omega, by rw [E.out], by go_num, by first | trivial | rfl⟩
        case measure => simp [intOf]; omega
      · have E : Hid (lsI f (k + 1) = lsI f k) := by show _ = _; simp only [lsI]; rw [if_neg hq]
        have d1 : decide (f k < f (lsI f k)) = false := by simpa using hq
        clear hq
        generalize hm : lsI f k = m at *
        have HM : Hid (lsI f k = m) := hm
        clear hm
        have hl2 : (m : Int) < n := by omega
        go_wp2
        go_roundw
        case rel => exact ⟨k + 1, by omega, by rw [E.out], by go_num, by first | trivial | rfl⟩
        case measure => simp [intOf]; omega
    · obtain rfl : k = n := by omega
      go_wp2
      go_ret
      exact ⟨rfl, rfl⟩
set_option maxRecDepth 10000 in
set_option maxHeartbeats 1600000 in
theorem sumOf_any (ao : Option Addr) (c n : Nat) (f : Nat → Int) (M : Int) (Y : Nat → Prop) (w : World) (hM : 0 ≤ M ∧ M ≤ 1000000000) (hn : n ≤ 1000) (h : IntsAt Y w ao n f) (hf : ∀ k, k < n → 0 ≤ f k ∧ f k ≤ M) :
    Calls Tryd.prog 46 #[.slice ao n c] w fun e w' => e = .returned (.int .i64 (sm f n)) ∧ w' = w := by
  have H : Hid (IntsAt Y w ao n f) := h
  have HF : Hid (∀ k, k < n → 0 ≤ f k ∧ f k ≤ M) := hf
  clear h hf
  go_enter Tryd.func46, Tryd.ntmps46
  go_wp2_with fail
  go_loopw [3, 8] (fun b i wr => ∃ k : Nat, k ≤ n ∧ b = .int .i64 (sm f k) ∧ i = .int .i64 k ∧ wr = w) (fun _ i _ => n - (intOf i).toNat)
  case atStart => exact ⟨0, Nat.zero_le _, rfl, rfl, rfl⟩
  case round =>
    obtain ⟨k, hk, rfl, rfl, rfl⟩ := hrel
    by_cases hlt : k < n
    · have hlt' : (k : Int) < n := by omega
      obtain ⟨b, o, rfl, -, g1⟩ := H.out.2 k hlt
      have b1 := sm_bound (f := f) (n := k) (a := 0) (b := M) (fun i hi => HF.out i (by omega))
      have b2 := HF.out k hlt
      have b3 : M * (k : Int) ≤ M * 1000 := Int.mul_le_mul_of_nonneg_left (by omega) hM.1
      have e1 : IntKind.i64.wrap (sm f k + f k) = sm f (k + 1) := by show _ = sm f k + f k; rw [IntKind.wrap_i64] <;> omega
      clear b1 b2 b3 H HF
      go_wp2
      go_roundw
      case rel => exact ⟨k + 1, by omega, by first | rfl | (rw [e1]), by go_num, by first | trivial | rfl⟩
      case measure => simp [intOf]; omega
    · obtain rfl : k = n := by omega
      go_wp2
      go_ret
      exact ⟨rfl, rfl⟩
theorem row_ints' {X : Nat → Prop} {W : World} {z n : Nat} {f : Nat → Int} (h : Row W z n (fun t => .int .i64 (f t))) (hn : n ≤ 9223372036854775807) (hz : X z) : IntsOwn X W (some ⟨z, 0, none⟩) n f :=
  ⟨hn, fun _ => ⟨z, hz, rfl, h⟩⟩
set_option maxRecDepth 10000 in
set_option maxHeartbeats 1600000 in
theorem nextOf_any (ao : Option Addr) (c n : Nat) (F : Nat → Nat → Int) (Y : Nat → Prop) (w : World) (hn : n ≤ 1048576) (h : KAt 3 Y w ao n F) :
    Calls Tryd.prog 56 #[.slice ao n c] w fun e w' => e = .returned (.int .i64 (lst F n)) ∧ Blw w w' := by
  have H : Hid (KAt 3 Y w ao n F) := h
  clear h
  go_enter Tryd.func56, Tryd.ntmps56
  go_wp2_with fail
  refine (eachPass_any ao c n F Y _ hn H.out).mono ?_
  rintro e w1 ⟨rfl, hr, hb⟩
  have HR : Hid (IntsAt (fun x => x < w1.heap.size) w1 (some ⟨w.heap.size, 0, none⟩) n (fun i => F i 1)) := (row_ints' hr (by omega) hr.lt).at
  have HB : Hid (Blw w w1) := hb
  clear hr hb H
  go_wp2_with fail
  refine (firstLeast_any _ _ n _ _ _ HR.out).mono ?_
  rintro e w2 ⟨rfl, rfl⟩
  rw [lsI_lst]
  go_wp2
  go_ret
  exact ⟨rfl, HB.out⟩
end Go.Proofs.YtneafnfdemodnaaDoor
/- What comes in, opened: numbers, bytes, pairs, books. -/
namespace Go.Proofs.YtneafnfdemodnaaDoor
open Go.ChangeShapes Go.WideShapes Go.ChangeAt Go.RowKit Go.Joins Go.Deep
theorem cells3 : Tryd.prog.cellsOf 3 = 1 := by kernel_rfl
theorem cells5 : Tryd.prog.cellsOf 5 = 1 := by kernel_rfl
/-- The slice at 'ao' reads as the n bytes f. -/
def BytesAt (Y : Nat → Prop) (w : World) (ao : Option Addr) (n : Nat) (f : Nat → Int) : Prop :=
  n ≤ 9223372036854775807 ∧ ∀ i, i < n → ∃ b o, ao = some ⟨b, o, none⟩ ∧ Y b ∧ w.cell? ⟨b, o + i, none⟩ = some (.int .u8 (f i)) ∧ 0 ≤ f i ∧ f i ≤ 255
theorem BytesAt.blw {Y : Nat → Prop} {w w' : World} {ao : Option Addr} {n : Nat} {f : Nat → Int} (h : BytesAt Y w ao n f) (hb : Blw w w') : BytesAt Y w' ao n f := by
  refine ⟨h.1, fun i hi => ?_⟩
  obtain ⟨b, o, h1, hY, h2, h3⟩ := h.2 i hi
  exact ⟨b, o, h1, hY, hb.cell h2, h3⟩
theorem BytesAt.mod {X Y : Nat → Prop} {w w' : World} {ao : Option Addr} {n : Nat} {f : Nat → Int} (h : BytesAt Y w ao n f) (hb : Mod X w w') (hxy : ∀ k, Y k → ¬ X k) : BytesAt Y w' ao n f := by
  refine ⟨h.1, fun i hi => ?_⟩
  obtain ⟨b, o, h1, hY, h2, h3⟩ := h.2 i hi
  exact ⟨b, o, h1, hY, hb.cell h2 (hxy _ hY), h3⟩
section
variable {H : Type} {enc : TypeId × Value → H} {w : World} {base : Nat} {spare : Nat → Bool} {held : Bool}
theorem addr_of_cell {w : World} {a : Addr} {v : Value} (h : w.cell? a = some v) : a = ⟨a.block, a.off, none⟩ := by
  obtain ⟨b, o, s⟩ := a
  cases s with
  | none => rfl
  | some x =>
    unfold World.cell? at h
    split at h
    · simp at h
    · cases h
theorem open_intsAt {fuel : Nat} {v : Value} {x : DataW H × List MemPlace} (h : DataW.trod enc Tryd.prog w base spare held fuel 23 [v] = some x) :
    ∃ ao n c f, v = .slice ao n c ∧ IntsAt (fun b => b < w.heap.size) w ao n f := by
  rcases open_ints Tryd.underlying23 Tryd.underlying3 cells3 h with ⟨hcs, _⟩ | ⟨a, len, cap, zs, hcs, _, hl, hm, hz, _, hcell, _⟩
  · simp only [List.cons.injEq, and_true] at hcs
    exact ⟨none, 0, 0, fun _ => 0, hcs, by omega, fun i hi => absurd hi (Nat.not_lt_zero _)⟩
  · simp only [List.cons.injEq, and_true] at hcs
    have hzl : len ≤ zs.length := by rw [hz]; split <;> omega
    unfold maxLen at hm
    refine ⟨some a, len, cap, fun i => zs.getD i 0, hcs, by omega, fun i hi => ?_⟩
    have ha := addr_of_cell (by simpa [Addr.add] using hcell 0 (by omega))
    have hc := hcell i (by omega)
    rw [ha, Addr.add_mid] at hc
    exact ⟨a.block, a.off, by rw [← ha], World.block_lt_of_cell? w ⟨a.block, a.off + i, none⟩ hc, hc⟩
theorem open_bytesAt {fuel : Nat} {v : Value} {x : DataW H × List MemPlace} (h : DataW.trod enc Tryd.prog w base spare held fuel 22 [v] = some x) :
    ∃ ao n c f, v = .slice ao n c ∧ BytesAt (fun b => b < w.heap.size) w ao n f := by
  rcases open_ints Tryd.underlying22 Tryd.underlying5 cells5 h with ⟨hcs, _⟩ | ⟨a, len, cap, zs, hcs, _, hl, hm, hz, _, hcell, hwf⟩
  · simp only [List.cons.injEq, and_true] at hcs
    exact ⟨none, 0, 0, fun _ => 0, hcs, by omega, fun i hi => absurd hi (Nat.not_lt_zero _)⟩
  · simp only [List.cons.injEq, and_true] at hcs
    have hzl : len ≤ zs.length := by rw [hz]; split <;> omega
    unfold maxLen at hm
    refine ⟨some a, len, cap, fun i => zs.getD i 0, hcs, by omega, fun i hi => ?_⟩
    have ha := addr_of_cell (by simpa [Addr.add] using hcell 0 (by omega))
    have hc := hcell i (by omega)
    rw [ha, Addr.add_mid] at hc
    have hw := hwf (zs.getD i 0) (by rw [List.getD_eq_getElem?_getD, List.getElem?_eq_getElem (show i < zs.length by omega)]; exact List.getElem_mem _)
    have hw' : ∀ n : Int, (Lit.int .u8 n).wf = true → 0 ≤ n ∧ n ≤ 255 := fun n h => by
      have h1 : (decide ((0 : Int) ≤ n) && decide (n ≤ 255)) = true := h
      simpa using h1
    refine ⟨a.block, a.off, by rw [← ha], World.block_lt_of_cell? w ⟨a.block, a.off + i, none⟩ hc, hc, ?_⟩
    exact hw' _ hw
theorem choose_lt {α : Type} [Inhabited α] {n : Nat} {p : Nat → α → Prop} (h : ∀ i, i < n → ∃ t, p i t) : ∃ T : Nat → α, ∀ i, i < n → p i (T i) :=
  ⟨fun i => if hi : i < n then Classical.choose (h i hi) else default, fun i hi => by show p i (if hi : i < n then Classical.choose (h i hi) else default); rw [dif_pos hi]; exact Classical.choose_spec (h i hi)⟩
end
end Go.Proofs.YtneafnfdemodnaaDoor
/- The cursor that draws. -/
namespace Go.Proofs.YtneafnfdemodnaaDoor
open Go.RowKit
set_option linter.unusedSimpArgs false
set_option linter.unusedVariables false
theorem box3 (w : World) (a b c : Value) (t : TypeId) : Row (w.alloc (.cells #[a, b, c] t)) w.heap.size 3 (fun i => if i = 0 then a else if i = 1 then b else c) :=
  ⟨_, t, heap_alloc_new _ _, by simp, fun i hi => by
    match i, hi with
    | 0, _ => rfl
    | 1, _ => rfl
    | 2, _ => rfl⟩
/-- The three blocks that a function over a memory lays first: its argument, its result, a local one. -/
theorem set3_0 {w : World} {B : Nat} {a b c : Value} (r : Row w B 3 (fun i => if i = 0 then a else if i = 1 then b else c)) (u : Value) : Row (w.setCell ⟨B, 0, none⟩ u) B 3 (fun i => if i = 0 then u else if i = 1 then b else c) :=
  (r.set 0 u).congr fun i _ => by by_cases e : i = 0 <;> simp [e]
theorem set3_1 {w : World} {B : Nat} {a b c : Value} (r : Row w B 3 (fun i => if i = 0 then a else if i = 1 then b else c)) (u : Value) : Row (w.setCell ⟨B, 1, none⟩ u) B 3 (fun i => if i = 0 then a else if i = 1 then u else c) :=
  (r.set 1 u).congr fun i _ => by by_cases e : i = 1 <;> simp [e]
theorem set3_2 {w : World} {B : Nat} {a b c : Value} (r : Row w B 3 (fun i => if i = 0 then a else if i = 1 then b else c)) (u : Value) : Row (w.setCell ⟨B, 2, none⟩ u) B 3 (fun i => if i = 0 then a else if i = 1 then b else u) :=
  (r.set 2 u).congr fun i hi => by
    match i, hi with
    | 0, _ => rfl
    | 1, _ => rfl
    | 2, _ => rfl
theorem get3 {w : World} {B : Nat} {a b c : Value} (r : Row w B 3 (fun i => if i = 0 then a else if i = 1 then b else c)) : w.cell? ⟨B, 0, none⟩ = some a ∧ w.cell? ⟨B, 1, none⟩ = some b ∧ w.cell? ⟨B, 2, none⟩ = some c :=
  ⟨r.cell (i := 0) (by omega), r.cell (i := 1) (by omega), r.cell (i := 2) (by omega)⟩
/-- A cursor at block C that has read at most k times, its bytes in blocks of Y. -/
def Cur (Y : Nat → Prop) (w : World) (C k : Nat) : Prop :=
  ∃ (ao : Option Addr) (n c at_ : Nat) (f : Nat → Int) (s : Int), Row w C 3 (fun i => if i = 0 then Value.slice ao n c else if i = 1 then .int .i64 at_ else .int .u64 s) ∧ BytesAt Y w ao n f ∧ at_ ≤ k ∧ (∀ b, Y b → b ≠ C)
theorem low8 (n : Int) : ∃ x : Nat, x ≤ 255 ∧ wrap64 (bits .and .u64 (IntKind.u64.wrap n / 1099511627776) 255) = x := by
  have h : IntKind.u64.wrap n = n % 18446744073709551616 := by simp [IntKind.wrap, IntKind.bits, IntKind.signed]
  rw [h, u64_and _ _ (by omega) (by omega) (by omega) (by omega)]
  have hle : (n % 18446744073709551616 / 1099511627776).toNat &&& (255 : Int).toNat ≤ 255 := Nat.and_le_right
  refine ⟨_, hle, ?_⟩
  unfold wrap64
  omega
/-- A read: the cursor goes on. -/
theorem cur_step {Y : Nat → Prop} {w : World} {C k n c at_ : Nat} {ao : Option Addr} {f : Nat → Int} {s : Int} (r : Row w C 3 (fun i => if i = 0 then Value.slice ao n c else if i = 1 then .int .i64 at_ else .int .u64 s)) (hB : BytesAt Y w ao n f) (hat : at_ ≤ k) (hY : ∀ b, Y b → b ≠ C) (a b : Nat) (s' : Int) :
    Cur Y ((((w.drewN a).setCell ⟨C, 1, none⟩ (.int .i64 ((at_ : Int) + 1))).setCell ⟨C, 2, none⟩ (.int .u64 s')).drewN b) C (k + 1) ∧ Mod (fun b => b = C) w ((((w.drewN a).setCell ⟨C, 1, none⟩ (.int .i64 ((at_ : Int) + 1))).setCell ⟨C, 2, none⟩ (.int .u64 s')).drewN b) := by
  have m1 : Mod (fun b => b = C) w (w.drewN a) := ((Blw.refl w).drewN a).mod _
  have m2 := (m1.trans (Mod.setCell (X := fun b => b = C) _ (p := ⟨C, 1, none⟩) rfl (.int .i64 ((at_ : Int) + 1)))).trans (Mod.setCell (X := fun b => b = C) _ (p := ⟨C, 2, none⟩) rfl (.int .u64 s'))
  have m3 := m2.trans (((Blw.refl _).drewN b).mod (fun b => b = C))
  refine ⟨⟨ao, n, c, at_ + 1, f, s', ?_, hB.mod m3 (fun x hx => hY x hx), by omega, hY⟩, m3⟩
  refine ((((r.blw ((Blw.refl w).drewN a)).set 1 _).set 2 _).blw ((Blw.refl _).drewN b)).congr (fun i hi => ?_)
  match i, hi with
  | 0, _ => rfl
  | 1, _ => simp
  | 2, _ => rfl
set_option maxRecDepth 10000 in
set_option maxHeartbeats 1600000 in
theorem next_any (Y : Nat → Prop) (C k : Nat) (w : World) (hk : k ≤ 1000000) (h : Cur Y w C k) :
    Calls Tryd.prog 66 #[.pointer (some ⟨C, 0, none⟩)] w fun e w' => ∃ x : Nat, e = .returned (.int .i64 x) ∧ x ≤ 255 ∧ Cur Y w' C (k + 1) ∧ Mod (fun b => b = C) w w' := by
  obtain ⟨ao, n, c, at_, f, s, r, hB, hat, hY⟩ := h
  have hn := hB.1
  have HB : Hid (BytesAt Y w ao n f) := hB
  obtain ⟨p0, p1, p2⟩ := get3 r
  have f0 := r.frozen 0
  have f1 := r.frozen 1
  have f2 := r.frozen 2
  have HN : Hid _ := fun a b s' => cur_step r hB hat hY a b s'
  clear hB r
  go_enter Tryd.func66, Tryd.ntmps66
  by_cases hlt : at_ < n
  · have hlt' : (at_ : Int) < n := by omega
    have d1 : decide ((at_ : Int) < n) = true := by simp; omega
    obtain ⟨b, o, rfl, -, q, x0, x1⟩ := HB.out.2 at_ hlt
    go_wp2_with fail
    go_quiet (fail)
    go_wp2_with fail
    go_quiet (fail)
    have d2 : decide ((at_ : Int) + 1 ≤ n) = true := by simp; omega
    go_wp2_with fail
    go_quiet (fail)
    go_wp2
    go_ret
    obtain ⟨x, hx⟩ := Int.eq_ofNat_of_zero_le x0
    exact ⟨x, by rw [← hx]; rfl, by omega, HN.out _ _ _⟩
  · have d1 : decide ((at_ : Int) < n) = false := by simp; omega
    have d2 : decide ((at_ : Int) + 1 ≤ n) = false := by simp; omega
    go_wp2_with fail
    go_quiet (fail)
    go_wp2_with fail
    go_quiet (fail)
    go_wp2
    go_ret
    obtain ⟨x, hx, e⟩ := low8 (IntKind.u64.wrap (IntKind.u64.wrap (s * 6364136223846793005)) + 1442695040888963407)
    exact ⟨x, by rw [← e]; rfl, hx, HN.out _ _ _⟩
theorem Cur.le {Y : Nat → Prop} {w : World} {C k k' : Nat} (h : Cur Y w C k) (hk : k ≤ k') : Cur Y w C k' := by
  obtain ⟨ao, n, c, at_, f, s, r, hB, hat, hY⟩ := h
  exact ⟨ao, n, c, at_, f, s, r, hB, by omega, hY⟩
theorem Cur.blw {Y : Nat → Prop} {w w' : World} {C k : Nat} (h : Cur Y w C k) (hb : Blw w w') : Cur Y w' C k := by
  obtain ⟨ao, n, c, at_, f, s, r, hB, hat, hY⟩ := h
  exact ⟨ao, n, c, at_, f, s, r.blw hb, hB.blw hb, hat, hY⟩
theorem Cur.mod {X Y : Nat → Prop} {w w' : World} {C k : Nat} (h : Cur Y w C k) (hb : Mod X w w') (hC : ¬ X C) (hx : ∀ b, Y b → ¬ X b) : Cur Y w' C k := by
  obtain ⟨ao, n, c, at_, f, s, r, hB, hat, hY⟩ := h
  exact ⟨ao, n, c, at_, f, s, r.mod hb hC, hB.mod hb hx, hat, hY⟩
theorem Cur.lt {Y : Nat → Prop} {w : World} {C k : Nat} (h : Cur Y w C k) : C < w.heap.size := by
  obtain ⟨ao, n, c, at_, f, s, r, _⟩ := h
  exact r.lt
set_option maxHeartbeats 1600000 in
theorem pick_any (Y : Nat → Prop) (C k : Nat) (N : Int) (w : World) (hk : k ≤ 900000) (hN : 1 < N) (h : Cur Y w C k) :
    Calls Tryd.prog 60 #[.pointer (some ⟨C, 0, none⟩), .int .i64 N] w fun e w' => ∃ x : Nat, e = .returned (.int .i64 x) ∧ (x : Int) < N ∧ Cur Y w' C (k + 2) ∧ Mod (fun b => b = C) w w' := by
  have d1 : decide (N ≤ 1) = false := by simp; omega
  have hN0 : ¬ N = 0 := by omega
  have hm : ∀ x : Nat, ∃ y : Nat, (x : Int).tmod N = y ∧ (y : Int) < N := fun x => by
    rw [Int.tmod_eq_emod_of_nonneg (by omega)]
    obtain ⟨y, hy⟩ := Int.eq_ofNat_of_zero_le (Int.emod_nonneg x hN0)
    exact ⟨y, hy, by rw [← hy]; exact Int.emod_lt_of_pos _ (by omega)⟩
  have HM : Hid _ := hm
  clear hm
  go_enter Tryd.func60, Tryd.ntmps60
  go_wp2_with fail
  refine (next_any Y C k _ (by omega) h).mono ?_
  rintro e w1 ⟨x, rfl, hx, c1, m1⟩
  by_cases hg : N > 200
  · have d2 : decide (N > 200) = true := by simp; omega
    go_wp2_with fail
    refine (next_any Y C (k + 1) _ (by omega) c1).mono ?_
    rintro e w2 ⟨x2, rfl, hx2, c2, m2⟩
    obtain ⟨y, e1, e2⟩ := HM.out (x * 256 + x2)
    have e1' : ((x : Int) * 256 + x2).tmod N = y := by rw [← e1]; congr 1
    clear h c1
    go_wp2
    go_ret
    exact ⟨y, rfl, e2, c2, m1.trans m2⟩
  · have d2 : decide (N > 200) = false := by simp; omega
    obtain ⟨y, e1, e2⟩ := HM.out x
    clear h
    go_wp2
    go_ret
    exact ⟨y, rfl, e2, c1.le (by omega), m1⟩
set_option maxHeartbeats 1600000 in
theorem among_any (Y Y2 : Nat → Prop) (C k : Nat) (ao : Option Addr) (n c : Nat) (f : Nat → Int) (w : World) (hk : k ≤ 900000) (hn : 1 < n) (hI : IntsAt Y2 w ao n f) (hY2 : ∀ b, Y2 b → b ≠ C) (h : Cur Y w C k) :
    Calls Tryd.prog 52 #[.pointer (some ⟨C, 0, none⟩), .slice ao n c] w fun e w' => ∃ x : Int, e = .returned (.int .i64 x) ∧ Cur Y w' C (k + 2) ∧ Mod (fun b => b = C) w w' := by
  have HI : Hid (IntsAt Y2 w ao n f) := hI
  clear hI
  go_enter Tryd.func52, Tryd.ntmps52
  go_wp2_with fail
  refine (pick_any Y C k n _ hk (by omega) h).mono ?_
  rintro e w1 ⟨x, rfl, hx, c1, m1⟩
  obtain ⟨b, o, rfl, -, q⟩ := (HI.out.mod m1 (fun b hb => hY2 b hb)).2 x (by omega)
  clear h
  go_wp2
  go_ret
  exact ⟨f x, rfl, c1, m1⟩
end Go.Proofs.YtneafnfdemodnaaDoor
