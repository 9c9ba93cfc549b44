/- Merged by program, in this order: Base, Open, OpenS, Mark, Sz, Copy, To, Draw. -/
import Derived.Test.YtnbcjdoohmjghaaRows
import Derived.WalkKit
import Derived.WalkSpells
import Derived.WalkLawsBesides
import Derived.OpenShut
import Derived.Deep.LoopGhost
import Derived.Deep.OwnRows
import Derived.Deep.QuietTactic
import Derived.BigQuiet
import Derived.Deep.RegionWith
import Derived.Deep.Cut
import Derived.ProofKit
import Derived.ChangeOld
import Derived.Lib.SmallJoins
import Derived.Deep.Slices
import Derived.Deep.MidRow
import Derived.Laws.CopyOwn
import Derived.Laws.BitsAllLaws
/- Base: what is said of worlds: what slices of numbers, of bools and of lines read as, what is owned, what has turned. -/
namespace Go.Proofs.Ytnbcjdoohmjghaa
open Go.RowKit

/-- Nothing that was there has turned. -/
def Blw (w w' : World) : Prop := Below w.heap.size w w'
theorem Blw.refl (w : World) : Blw w w := Below.refl _ _
theorem Blw.size {w w' : World} (h : Blw w w') : w.heap.size ≤ w'.heap.size := Below.size h
theorem Blw.trans {a b c : World} (h : Blw a b) (k : Blw b c) : Blw a c := Below.trans h (Below.mono k h.size)
theorem Blw.drew {a b : World} (h : Blw a b) : Blw a b.drew := Below.drew h
theorem Blw.drewN {a b : World} (h : Blw a b) (n : Nat) : Blw a (b.drewN n) := ⟨h.os, h.tape, h.output, by simpa using h.size, by simpa using h.block⟩
theorem Blw.alloc {a b : World} (h : Blw a b) (o : Obj) : Blw a (b.alloc o) := Below.alloc h h.size o
theorem Blw.setCell {a b : World} (h : Blw a b) {p : Addr} (hp : a.heap.size ≤ p.block) (u : Value) : Blw a (b.setCell p u) := Below.setCell h hp u
theorem Blw.cell {w w' : World} (h : Blw w w') {p : Addr} {v : Value} (hp : w.cell? p = some v) : w'.cell? p = some v := by
  rw [Below.cell h (World.block_lt_of_cell? _ _ hp)]; exact hp
theorem Blw.frozen {w w' : World} (h : Blw w w') {p : Addr} (hp : p.block < w.heap.size) : w'.frozen? p = w.frozen? p := Below.frozen h hp

/-- Of what was there only blocks in X have turned. -/
structure Mod (X : Nat → Prop) (w w' : World) : Prop where
  os : w'.os = w.os
  tape : w'.tape = w.tape
  output : w'.output = w.output
  size : w.heap.size ≤ w'.heap.size
  block : ∀ k, k < w.heap.size → ¬ X k → w'.heap[k]? = w.heap[k]?
theorem Mod.refl (X : Nat → Prop) (w : World) : Mod X w w := ⟨rfl, rfl, rfl, Nat.le_refl _, fun _ _ _ => rfl⟩
theorem Mod.trans {X : Nat → Prop} {a b c : World} (h : Mod X a b) (k : Mod X b c) : Mod X a c :=
  ⟨k.os.trans h.os, k.tape.trans h.tape, k.output.trans h.output, Nat.le_trans h.size k.size, fun i hi hx => (k.block i (Nat.lt_of_lt_of_le hi h.size) hx).trans (h.block i hi hx)⟩
theorem Mod.mono {X Y : Nat → Prop} {a b : World} (h : Mod X a b) (hxy : ∀ k, X k → Y k) : Mod Y a b := ⟨h.os, h.tape, h.output, h.size, fun i hi hx => h.block i hi (fun hh => hx (hxy i hh))⟩
theorem Blw.mod {w w' : World} (h : Blw w w') (X : Nat → Prop) : Mod X w w' := ⟨h.os, h.tape, h.output, h.size, fun i hi _ => h.block i hi⟩
theorem Mod.blw {a b c : World} {X : Nat → Prop} (h : Blw a b) (k : Mod X b c) (hx : ∀ i, X i → a.heap.size ≤ i) : Blw a c :=
  ⟨k.os.trans h.os, k.tape.trans h.tape, k.output.trans h.output, Nat.le_trans h.size k.size, fun i hi => (k.block i (Nat.lt_of_lt_of_le hi h.size) (fun hh => by have := hx i hh; omega)).trans (h.block i hi)⟩
theorem Mod.setCell {X : Nat → Prop} (w : World) {p : Addr} (hp : X p.block) (u : Value) : Mod X w (w.setCell p u) :=
  ⟨rfl, rfl, rfl, by simp [World.setCell], fun k _ hk => Below.heap_setCell _ _ _ _ (fun e => hk (e ▸ hp))⟩
theorem Mod.cell {X : Nat → Prop} {w w' : World} (h : Mod X w w') {p : Addr} {v : Value} (hp : w.cell? p = some v) (hx : ¬ X p.block) : w'.cell? p = some v := by
  rw [World.cell?_of_block (w := w) (h.block p.block (World.block_lt_of_cell? _ _ hp) hx)]; exact hp

/-- Block b is a row of cells, none frozen, of which the first n hold f. -/
def Row (w : World) (b n : Nat) (f : Nat → Value) : Prop := ∃ (c : Array Value) (t : TypeId), w.heap[b]? = some (.cells c t (0, 0)) ∧ n ≤ c.size ∧ ∀ i, i < n → c[i]? = some (f i)
theorem Row.cell {w : World} {b n : Nat} {f : Nat → Value} (h : Row w b n f) {i : Nat} (hi : i < n) : w.cell? ⟨b, i, none⟩ = some (f i) := by
  obtain ⟨c, t, hb, _, hc⟩ := h
  simp [World.cell?, hb, hc i hi]
theorem Row.frozen {w : World} {b n : Nat} {f : Nat → Value} (h : Row w b n f) (i : Nat) : w.frozen? ⟨b, i, none⟩ = false := by
  obtain ⟨c, t, hb, _⟩ := h
  simp [World.frozen?, hb]
theorem Row.lt {w : World} {b n : Nat} {f : Nat → Value} (h : Row w b n f) : b < w.heap.size := by
  obtain ⟨c, t, hb, _⟩ := h
  obtain ⟨hlt, _⟩ := Array.getElem?_eq_some_iff.1 hb
  exact hlt
theorem Row.congr {w : World} {b n : Nat} {f g : Nat → Value} (h : Row w b n f) (e : ∀ i, i < n → f i = g i) : Row w b n g := by
  obtain ⟨c, t, hb, hn, hc⟩ := h
  exact ⟨c, t, hb, hn, fun i hi => by rw [hc i hi, e i hi]⟩
theorem Row.of_block {w w' : World} {b n : Nat} {f : Nat → Value} (h : Row w b n f) (e : w'.heap[b]? = w.heap[b]?) : Row w' b n f := by
  obtain ⟨c, t, hb, hn, hc⟩ := h
  exact ⟨c, t, e.trans hb, hn, hc⟩
theorem Row.blw {w w' : World} {b n : Nat} {f : Nat → Value} (h : Row w b n f) (hb : Blw w w') : Row w' b n f := h.of_block (hb.block _ h.lt)
theorem Row.mod {X : Nat → Prop} {w w' : World} {b n : Nat} {f : Nat → Value} (h : Row w b n f) (hb : Mod X w w') (hx : ¬ X b) : Row w' b n f := h.of_block (hb.block _ h.lt hx)
theorem Row.set {w : World} {b n : Nat} {f : Nat → Value} (h : Row w b n f) (i : Nat) (v : Value) : Row (w.setCell ⟨b, i, none⟩ v) b n (fun j => if j = i then v else f j) := by
  obtain ⟨c, t, hb, hn, hc⟩ := h
  refine ⟨c.setIfInBounds i v, t, ?_, by simpa using hn, fun j hj => ?_⟩
  · simp [World.setCell, Array.getElem?_modify, hb]
  · rw [Array.getElem?_setIfInBounds]
    by_cases e : j = i
    · subst e
      simp [Nat.lt_of_lt_of_le hj hn]
    · rw [if_neg (fun h => e h.symm)]
      show c[j]? = some (if j = i then v else f j)
      rw [if_neg e]
      exact hc j hj
theorem Row.setOther {w : World} {b n : Nat} {f : Nat → Value} (h : Row w b n f) {a : Addr} (ha : b ≠ a.block) (v : Value) : Row (w.setCell a v) b n f := h.of_block (Below.heap_setCell _ _ _ _ ha)
theorem Row.made (w : World) (z : Value) (n : Nat) (t : TypeId) : Row (w.alloc (.cells (madeCells #[z] n) t)) w.heap.size n (fun _ => z) := by
  obtain ⟨c, h1, h2, h3⟩ := World.rowIs_made w z n t
  exact ⟨c, t, h1, by omega, h3⟩

/-- The slice at 'ao' reads as the n numbers f, all in blocks of Y. -/
def IntsAt (Y : Nat → Prop) (w : World) (ao : Option Addr) (n : Nat) (f : Nat → Int) : Prop :=
  n ≤ 9223372036854775807 ∧ ∀ i, i < n → ∃ b o, ao = some ⟨b, o, none⟩ ∧ Y b ∧ w.cell? ⟨b, o + i, none⟩ = some (.int .i64 (f i))
def BoolsAt (Y : Nat → Prop) (w : World) (ao : Option Addr) (n : Nat) (f : Nat → Bool) : Prop :=
  n ≤ 9223372036854775807 ∧ ∀ i, i < n → ∃ b o, ao = some ⟨b, o, none⟩ ∧ Y b ∧ w.cell? ⟨b, o + i, none⟩ = some (.bool (f i))
def LinesAt (Y : Nat → Prop) (w : World) (ao : Option Addr) (n : Nat) (len : Nat → Nat) (v : Nat → Nat → Int) : Prop :=
  n ≤ 9223372036854775807 ∧ ∀ i, i < n → ∃ b o a c, ao = some ⟨b, o, none⟩ ∧ Y b ∧ w.cell? ⟨b, o + i, none⟩ = some (.slice a (len i) c) ∧ IntsAt Y w a (len i) (v i)
/-- What a memory holds: how many lines, how long each, its words; likewise the cache; the marks. -/
structure MD where
  n1 : Nat
  n2 : Nat
  n3 : Nat
  l1 : Nat → Nat
  l2 : Nat → Nat
  v1 : Nat → Nat → Int
  v2 : Nat → Nat → Int
  d : Nat → Bool
/-- The value of a memory: three slices. -/
structure MV where
  a1 : Option Addr
  a2 : Option Addr
  a3 : Option Addr
  c1 : Nat
  c2 : Nat
  c3 : Nat
abbrev MV.val (m : MV) (M : MD) : Value := .agg #[.slice m.a1 M.n1 m.c1, .slice m.a2 M.n2 m.c2, .slice m.a3 M.n3 m.c3]
structure MemAt (Y : Nat → Prop) (w : World) (m : MV) (M : MD) : Prop where
  s : LinesAt Y w m.a1 M.n1 M.l1 M.v1
  c : LinesAt Y w m.a2 M.n2 M.l2 M.v2
  d : BoolsAt Y w m.a3 M.n3 M.d

theorem IntsAt.blw {Y : Nat → Prop} {w w' : World} {ao : Option Addr} {n : Nat} {f : Nat → Int} (h : IntsAt Y w ao n f) (hb : Blw w w') : IntsAt Y w' ao n f := by
  refine ⟨h.1, fun i hi => ?_⟩
  obtain ⟨b, o, h1, hY, h2⟩ := h.2 i hi
  exact ⟨b, o, h1, hY, hb.cell h2⟩
theorem BoolsAt.blw {Y : Nat → Prop} {w w' : World} {ao : Option Addr} {n : Nat} {f : Nat → Bool} (h : BoolsAt Y w ao n f) (hb : Blw w w') : BoolsAt Y w' ao n f := by
  refine ⟨h.1, fun i hi => ?_⟩
  obtain ⟨b, o, h1, hY, h2⟩ := h.2 i hi
  exact ⟨b, o, h1, hY, hb.cell h2⟩
theorem LinesAt.blw {Y : Nat → Prop} {w w' : World} {ao : Option Addr} {n : Nat} {len : Nat → Nat} {v : Nat → Nat → Int} (h : LinesAt Y w ao n len v) (hb : Blw w w') : LinesAt Y w' ao n len v := by
  refine ⟨h.1, fun i hi => ?_⟩
  obtain ⟨b, o, a, c, h1, hY, h2, h3⟩ := h.2 i hi
  exact ⟨b, o, a, c, h1, hY, hb.cell h2, h3.blw hb⟩
theorem MemAt.blw {Y : Nat → Prop} {w w' : World} {m : MV} {M : MD} (h : MemAt Y w m M) (hb : Blw w w') : MemAt Y w' m M :=
  ⟨h.s.blw hb, h.c.blw hb, h.d.blw hb⟩
theorem IntsAt.mod {X Y : Nat → Prop} {w w' : World} {ao : Option Addr} {n : Nat} {f : Nat → Int} (h : IntsAt Y w ao n f) (hb : Mod X w w') (hxy : ∀ k, Y k → ¬ X k) : IntsAt Y w' ao n f := by
  refine ⟨h.1, fun i hi => ?_⟩
  obtain ⟨b, o, h1, hY, h2⟩ := h.2 i hi
  exact ⟨b, o, h1, hY, hb.cell h2 (hxy _ hY)⟩
theorem BoolsAt.mod {X Y : Nat → Prop} {w w' : World} {ao : Option Addr} {n : Nat} {f : Nat → Bool} (h : BoolsAt Y w ao n f) (hb : Mod X w w') (hxy : ∀ k, Y k → ¬ X k) : BoolsAt Y w' ao n f := by
  refine ⟨h.1, fun i hi => ?_⟩
  obtain ⟨b, o, h1, hY, h2⟩ := h.2 i hi
  exact ⟨b, o, h1, hY, hb.cell h2 (hxy _ hY)⟩
theorem LinesAt.mod {X Y : Nat → Prop} {w w' : World} {ao : Option Addr} {n : Nat} {len : Nat → Nat} {v : Nat → Nat → Int} (h : LinesAt Y w ao n len v) (hb : Mod X w w') (hxy : ∀ k, Y k → ¬ X k) : LinesAt Y w' ao n len v := by
  refine ⟨h.1, fun i hi => ?_⟩
  obtain ⟨b, o, a, c, h1, hY, h2, h3⟩ := h.2 i hi
  exact ⟨b, o, a, c, h1, hY, hb.cell h2 (hxy _ hY), h3.mod hb hxy⟩
theorem MemAt.mod {X Y : Nat → Prop} {w w' : World} {m : MV} {M : MD} (h : MemAt Y w m M) (hb : Mod X w w') (hxy : ∀ k, Y k → ¬ X k) : MemAt Y w' m M :=
  ⟨h.s.mod hb hxy, h.c.mod hb hxy, h.d.mod hb hxy⟩
theorem IntsAt.congr {Y : Nat → Prop} {w : World} {ao : Option Addr} {n : Nat} {f g : Nat → Int} (h : IntsAt Y w ao n f) (e : ∀ i, i < n → f i = g i) : IntsAt Y w ao n g := by
  refine ⟨h.1, fun i hi => ?_⟩
  obtain ⟨b, o, h1, hY, h2⟩ := h.2 i hi
  exact ⟨b, o, h1, hY, by rw [← e i hi]; exact h2⟩
theorem BoolsAt.congr {Y : Nat → Prop} {w : World} {ao : Option Addr} {n : Nat} {f g : Nat → Bool} (h : BoolsAt Y w ao n f) (e : ∀ i, i < n → f i = g i) : BoolsAt Y w ao n g := by
  refine ⟨h.1, fun i hi => ?_⟩
  obtain ⟨b, o, h1, hY, h2⟩ := h.2 i hi
  exact ⟨b, o, h1, hY, by rw [← e i hi]; exact h2⟩
theorem LinesAt.congr {Y : Nat → Prop} {w : World} {ao : Option Addr} {n : Nat} {len len' : Nat → Nat} {v v' : Nat → Nat → Int} (h : LinesAt Y w ao n len v) (e : ∀ i, i < n → len i = len' i) (e' : ∀ i, i < n → ∀ j, j < len i → v i j = v' i j) : LinesAt Y w ao n len' v' := by
  refine ⟨h.1, fun i hi => ?_⟩
  obtain ⟨b, o, a, c, h1, hY, h2, h3⟩ := h.2 i hi
  refine ⟨b, o, a, c, h1, hY, by rw [← e i hi]; exact h2, ?_⟩
  rw [← e i hi]
  exact h3.congr (e' i hi)

/-! ### What is owned: it may be written -/
def IntsOwn (X : Nat → Prop) (w : World) (ao : Option Addr) (n : Nat) (f : Nat → Int) : Prop :=
  n ≤ 9223372036854775807 ∧ (0 < n → ∃ b, X b ∧ ao = some ⟨b, 0, none⟩ ∧ Row w b n (fun i => .int .i64 (f i)))
def BoolsOwn (X : Nat → Prop) (w : World) (ao : Option Addr) (n : Nat) (f : Nat → Bool) : Prop :=
  n ≤ 9223372036854775807 ∧ (0 < n → ∃ b, X b ∧ ao = some ⟨b, 0, none⟩ ∧ Row w b n (fun i => .bool (f i)))
def LinesOwn (X : Nat → Prop) (w : World) (ao : Option Addr) (n : Nat) (len : Nat → Nat) (v : Nat → Nat → Int) : Prop :=
  n ≤ 9223372036854775807 ∧ (0 < n → ∃ (b : Nat) (F c : Nat → Nat), X b ∧ ao = some ⟨b, 0, none⟩ ∧ Row w b n (fun i => .slice (some ⟨F i, 0, none⟩) (len i) (c i)) ∧
    (∀ i, i < n → len i ≤ 9223372036854775807 ∧ X (F i) ∧ F i ≠ b ∧ Row w (F i) (len i) (fun t => .int .i64 (v i t))) ∧ ∀ i j, i < n → j < n → i ≠ j → F i ≠ F j)
structure MemOwn (X : Nat → Prop) (w : World) (m : MV) (M : MD) : Prop where
  ex : ∃ X1 X2 X3 : Nat → Prop, (∀ b, X1 b → X b ∧ ¬ X2 b ∧ ¬ X3 b) ∧ (∀ b, X2 b → X b ∧ ¬ X3 b) ∧ (∀ b, X3 b → X b) ∧ LinesOwn X1 w m.a1 M.n1 M.l1 M.v1 ∧ LinesOwn X2 w m.a2 M.n2 M.l2 M.v2 ∧ BoolsOwn X3 w m.a3 M.n3 M.d

theorem IntsOwn.at {X : Nat → Prop} {w : World} {ao : Option Addr} {n : Nat} {f : Nat → Int} (h : IntsOwn X w ao n f) : IntsAt X w ao n f := by
  refine ⟨h.1, fun i hi => ?_⟩
  obtain ⟨b, hx, e, hr⟩ := h.2 (by omega)
  exact ⟨b, 0, e, hx, by rw [Nat.zero_add]; exact hr.cell hi⟩
theorem BoolsOwn.at {X : Nat → Prop} {w : World} {ao : Option Addr} {n : Nat} {f : Nat → Bool} (h : BoolsOwn X w ao n f) : BoolsAt X w ao n f := by
  refine ⟨h.1, fun i hi => ?_⟩
  obtain ⟨b, hx, e, hr⟩ := h.2 (by omega)
  exact ⟨b, 0, e, hx, by rw [Nat.zero_add]; exact hr.cell hi⟩
theorem LinesOwn.at {X : Nat → Prop} {w : World} {ao : Option Addr} {n : Nat} {len : Nat → Nat} {v : Nat → Nat → Int} (h : LinesOwn X w ao n len v) : LinesAt X w ao n len v := by
  refine ⟨h.1, fun i hi => ?_⟩
  obtain ⟨b, F, c, hx, e, hr, hl, _⟩ := h.2 (by omega)
  obtain ⟨g1, g2, g3, g4⟩ := hl i hi
  exact ⟨b, 0, some ⟨F i, 0, none⟩, c i, e, hx, by rw [Nat.zero_add]; exact hr.cell hi, g1, fun j hj => ⟨F i, 0, rfl, g2, by rw [Nat.zero_add]; exact g4.cell hj⟩⟩
theorem IntsAt.mono {X Y : Nat → Prop} {w : World} {ao : Option Addr} {n : Nat} {f : Nat → Int} (h : IntsAt X w ao n f) (hxy : ∀ b, X b → Y b) : IntsAt Y w ao n f :=
  ⟨h.1, fun i hi => let ⟨b, o, h1, hY, h2⟩ := h.2 i hi; ⟨b, o, h1, hxy _ hY, h2⟩⟩
theorem BoolsAt.mono {X Y : Nat → Prop} {w : World} {ao : Option Addr} {n : Nat} {f : Nat → Bool} (h : BoolsAt X w ao n f) (hxy : ∀ b, X b → Y b) : BoolsAt Y w ao n f :=
  ⟨h.1, fun i hi => let ⟨b, o, h1, hY, h2⟩ := h.2 i hi; ⟨b, o, h1, hxy _ hY, h2⟩⟩
theorem LinesAt.mono {X Y : Nat → Prop} {w : World} {ao : Option Addr} {n : Nat} {len : Nat → Nat} {v : Nat → Nat → Int} (h : LinesAt X w ao n len v) (hxy : ∀ b, X b → Y b) : LinesAt Y w ao n len v :=
  ⟨h.1, fun i hi => let ⟨b, o, a, c, h1, hY, h2, h3⟩ := h.2 i hi; ⟨b, o, a, c, h1, hxy _ hY, h2, h3.mono hxy⟩⟩
theorem MemOwn.at {X : Nat → Prop} {w : World} {m : MV} {M : MD} (h : MemOwn X w m M) : MemAt X w m M := by
  obtain ⟨X1, X2, X3, h1, h2, h3, s, c, d⟩ := h.ex
  exact ⟨s.at.mono (fun b hb => (h1 b hb).1), c.at.mono (fun b hb => (h2 b hb).1), d.at.mono h3⟩
theorem IntsOwn.blw {X : Nat → Prop} {w w' : World} {ao : Option Addr} {n : Nat} {f : Nat → Int} (h : IntsOwn X w ao n f) (hb : Blw w w') : IntsOwn X w' ao n f :=
  ⟨h.1, fun hn => let ⟨b, hx, e, hr⟩ := h.2 hn; ⟨b, hx, e, hr.blw hb⟩⟩
theorem BoolsOwn.mod {X Z : Nat → Prop} {w w' : World} {ao : Option Addr} {n : Nat} {f : Nat → Bool} (h : BoolsOwn X w ao n f) (hb : Mod Z w w') (hxz : ∀ b, X b → ¬ Z b) : BoolsOwn X w' ao n f :=
  ⟨h.1, fun hn => let ⟨b, hx, e, hr⟩ := h.2 hn; ⟨b, hx, e, hr.mod hb (hxz _ hx)⟩⟩
theorem LinesOwn.mod {X Z : Nat → Prop} {w w' : World} {ao : Option Addr} {n : Nat} {len : Nat → Nat} {v : Nat → Nat → Int} (h : LinesOwn X w ao n len v) (hb : Mod Z w w') (hxz : ∀ b, X b → ¬ Z b) : LinesOwn X w' ao n len v :=
  ⟨h.1, fun hn => let ⟨b, F, c, hx, e, hr, hl, hd⟩ := h.2 hn
    ⟨b, F, c, hx, e, hr.mod hb (hxz _ hx), fun i hi => let ⟨g1, g2, g3, g4⟩ := hl i hi; ⟨g1, g2, g3, g4.mod hb (hxz _ g2)⟩, hd⟩⟩
theorem LinesOwn.blw {X : Nat → Prop} {w w' : World} {ao : Option Addr} {n : Nat} {len : Nat → Nat} {v : Nat → Nat → Int} (h : LinesOwn X w ao n len v) (hb : Blw w w') : LinesOwn X w' ao n len v := h.mod (hb.mod (fun _ => False)) (fun _ _ => id)
theorem BoolsOwn.blw {X : Nat → Prop} {w w' : World} {ao : Option Addr} {n : Nat} {f : Nat → Bool} (h : BoolsOwn X w ao n f) (hb : Blw w w') : BoolsOwn X w' ao n f := h.mod (hb.mod (fun _ => False)) (fun _ _ => id)
theorem MemOwn.mod {X Z : Nat → Prop} {w w' : World} {m : MV} {M : MD} (h : MemOwn X w m M) (hb : Mod Z w w') (hxz : ∀ b, X b → ¬ Z b) : MemOwn X w' m M := by
  obtain ⟨X1, X2, X3, h1, h2, h3, s, c, d⟩ := h.ex
  exact ⟨X1, X2, X3, h1, h2, h3, s.mod hb (fun b hb => hxz b (h1 b hb).1), c.mod hb (fun b hb => hxz b (h2 b hb).1), d.mod hb (fun b hb => hxz b (h3 b hb))⟩
theorem MemOwn.blw {X : Nat → Prop} {w w' : World} {m : MV} {M : MD} (h : MemOwn X w m M) (hb : Blw w w') : MemOwn X w' m M := h.mod (hb.mod (fun _ => False)) (fun _ _ => id)
end Go.Proofs.Ytnbcjdoohmjghaa
/- A memory that comes in, opened: what it reads as in cells. -/
namespace Go.Proofs.Ytnbcjdoohmjghaa
open Go.ChangeShapes Go.WideShapes Go.ChangeAt Go.RowKit Go.Joins Go.Deep
theorem cells59 : Try.prog.cellsOf 77 = 3 := by kernel_rfl
theorem cells57 : Try.prog.cellsOf 75 = 1 := by kernel_rfl
theorem cells24 : Try.prog.cellsOf 24 = 1 := by kernel_rfl
theorem cells111 : Try.prog.cellsOf 137 = 1 := by kernel_rfl
theorem cells4 : Try.prog.cellsOf 4 = 1 := by kernel_rfl
theorem cells27 : Try.prog.cellsOf 27 = 1 := by kernel_rfl
theorem cells3 : Try.prog.cellsOf 3 = 1 := by kernel_rfl
section
variable {H : Type} {enc : TypeId × Value → H} {w : World} {base : Nat} {spare : Nat → Bool} {held : Bool}
theorem addr_of_cell {w : World} {a : Addr} {v : Value} (h : w.cell? a = some v) : a = ⟨a.block, a.off, none⟩ := by
  obtain ⟨b, o, s⟩ := a
  cases s with
  | none => rfl
  | some x =>
    unfold World.cell? at h
    split at h
    · simp at h
    · cases h
theorem open_intsAt {fuel : Nat} {v : Value} {x : DataW H × List MemPlace} (h : DataW.trod enc Try.prog w base spare held fuel 27 [v] = some x) :
    ∃ ao n c f, v = .slice ao n c ∧ IntsAt (fun b => b < w.heap.size) w ao n f := by
  rcases open_ints Try.underlying27 Try.underlying3 cells3 h with ⟨hcs, _⟩ | ⟨a, len, cap, zs, hcs, _, hl, hm, hz, _, hcell, _⟩
  · simp only [List.cons.injEq, and_true] at hcs
    exact ⟨none, 0, 0, fun _ => 0, hcs, by omega, fun i hi => absurd hi (Nat.not_lt_zero _)⟩
  · simp only [List.cons.injEq, and_true] at hcs
    have hzl : len ≤ zs.length := by rw [hz]; split <;> omega
    unfold maxLen at hm
    refine ⟨some a, len, cap, fun i => zs.getD i 0, hcs, by omega, fun i hi => ?_⟩
    have ha := addr_of_cell (by simpa [Addr.add] using hcell 0 (by omega))
    have hc := hcell i (by omega)
    rw [ha, Addr.add_mid] at hc
    exact ⟨a.block, a.off, by rw [← ha], World.block_lt_of_cell? w ⟨a.block, a.off + i, none⟩ hc, hc⟩
theorem open_linesAt {fuel : Nat} {v : Value} {x : DataW H × List MemPlace} (h : DataW.trod enc Try.prog w base spare held fuel 75 [v] = some x) :
    ∃ ao n c len f, v = .slice ao n c ∧ LinesAt (fun b => b < w.heap.size) w ao n len f := by
  rcases open_slice1 Try.underlying75 cells111 h with ⟨hcs, _⟩ | ⟨a, len, cap, m, n, V, D, Pl, hcs, _, hl, hm, hmm, _, hx⟩
  · simp only [List.cons.injEq, and_true] at hcs
    exact ⟨none, 0, 0, fun _ => 0, fun _ _ => 0, hcs, by omega, fun i hi => absurd hi (Nat.not_lt_zero _)⟩
  · simp only [List.cons.injEq, and_true] at hcs
    have hml : len ≤ m := by rw [hmm]; split <;> omega
    unfold maxLen at hm
    have hline : ∀ i, i < len → ∃ t : Option Addr × Nat × Nat × (Nat → Int), V i = .slice t.1 t.2.1 t.2.2.1 ∧ IntsAt (fun b => b < w.heap.size) w t.1 t.2.1 t.2.2.2 := fun i hi => by
      obtain ⟨_, h2⟩ := hx i (by omega)
      obtain ⟨y0, n', _, _, h3⟩ := trod_struct1 Try.underlying137 h2
      obtain ⟨ao, n, c, f, e, hI⟩ := open_intsAt (by simpa [cells27] using h3)
      exact ⟨(ao, n, c, f), e, hI⟩
    obtain ⟨T, hT⟩ := choose_lt (α := Option Addr × Nat × Nat × (Nat → Int)) (n := len) (p := fun i t => V i = .slice t.1 t.2.1 t.2.2.1 ∧ IntsAt (fun b => b < w.heap.size) w t.1 t.2.1 t.2.2.2) hline
    refine ⟨some a, len, cap, fun i => (T i).2.1, fun i => (T i).2.2.2, hcs, by omega, fun i hi => ?_⟩
    have ha := addr_of_cell (by simpa [Addr.add] using (hx 0 (by omega)).1)
    have hc := (hx i (by omega)).1
    rw [ha, Addr.add_mid] at hc
    refine ⟨a.block, a.off, (T i).1, (T i).2.2.1, by rw [← ha], World.block_lt_of_cell? w ⟨a.block, a.off + i, none⟩ hc, ?_, (hT i hi).2⟩
    rw [hc, (hT i hi).1]
theorem open_boolsAt {fuel : Nat} {v : Value} {x : DataW H × List MemPlace} (h : DataW.trod enc Try.prog w base spare held fuel 24 [v] = some x) :
    ∃ ao n c f, v = .slice ao n c ∧ BoolsAt (fun b => b < w.heap.size) w ao n f := by
  rcases open_slice1 Try.underlying24 cells4 h with ⟨hcs, _⟩ | ⟨a, len, cap, m, n, V, D, Pl, hcs, _, hl, hm, hmm, _, hx⟩
  · simp only [List.cons.injEq, and_true] at hcs
    exact ⟨none, 0, 0, fun _ => false, hcs, by omega, fun i hi => absurd hi (Nat.not_lt_zero _)⟩
  · simp only [List.cons.injEq, and_true] at hcs
    have hml : len ≤ m := by rw [hmm]; split <;> omega
    unfold maxLen at hm
    have hb : ∀ i, i < len → ∃ b : Bool, V i = .bool b := fun i hi => by
      obtain ⟨b, e, _⟩ := DataW.trod_bool Try.underlying4 (hx i (by omega)).2
      exact ⟨b, by simpa using e⟩
    obtain ⟨T, hT⟩ := choose_lt (α := Bool) (n := len) (p := fun i b => V i = .bool b) hb
    refine ⟨some a, len, cap, T, hcs, by omega, fun i hi => ?_⟩
    have ha := addr_of_cell (by simpa [Addr.add] using (hx 0 (by omega)).1)
    have hc := (hx i (by omega)).1
    rw [ha, Addr.add_mid] at hc
    exact ⟨a.block, a.off, by rw [← ha], World.block_lt_of_cell? w ⟨a.block, a.off + i, none⟩ hc, by rw [hc, hT i hi]⟩
set_option maxRecDepth 100000 in
/-- A memory by value. -/
theorem open_memory {r : Reach} {b0 : Nat} {v : Value} {d : DataW H} {p : List MemPlace} (hv : Value.okWide Try.prog w r b0 77 v) (h : DataW.Trod enc Try.prog w base spare held 77 v d p) :
    ∃ (m : MV) (M : MD), v = m.val M ∧ MemAt (fun b => b < w.heap.size) w m M := by
  obtain ⟨v0, v1, v2, y0, y1, y2, n, rfl, _, _, h0, h1, h2⟩ := open_agg3 Try.underlying77 (by kernel_rfl) cells59 hv h
  obtain ⟨a1, n1, c1, l1, f1, rfl, m1⟩ := open_linesAt h0
  obtain ⟨a2, n2, c2, l2, f2, rfl, m2⟩ := open_linesAt h1
  obtain ⟨a3, n3, c3, f3, rfl, m3⟩ := open_boolsAt h2
  exact ⟨⟨a1, a2, a3, c1, c2, c3⟩, ⟨n1, n2, n3, l1, l2, f1, f2, f3⟩, rfl, ⟨m1, m2, m3⟩⟩
end
end Go.Proofs.Ytnbcjdoohmjghaa
/- A slot that comes in, and bytes that come in, opened. -/
namespace Go.Proofs.Ytnbcjdoohmjghaa
open Go.ChangeShapes Go.WideShapes Go.ChangeAt Go.RowKit Go.Joins Go.Deep
theorem cells72 : Try.prog.cellsOf 72 = 3 := by kernel_rfl
theorem cells5 : Try.prog.cellsOf 5 = 1 := by kernel_rfl
/-- The slice at 'ao' reads as the n bytes f. -/
def BytesAt (Y : Nat → Prop) (w : World) (ao : Option Addr) (n : Nat) (f : Nat → Int) : Prop :=
  n ≤ 9223372036854775807 ∧ ∀ i, i < n → ∃ b o, ao = some ⟨b, o, none⟩ ∧ Y b ∧ w.cell? ⟨b, o + i, none⟩ = some (.int .u8 (f i)) ∧ 0 ≤ f i ∧ f i ≤ 255
theorem BytesAt.blw {Y : Nat → Prop} {w w' : World} {ao : Option Addr} {n : Nat} {f : Nat → Int} (h : BytesAt Y w ao n f) (hb : Blw w w') : BytesAt Y w' ao n f := by
  refine ⟨h.1, fun i hi => ?_⟩
  obtain ⟨b, o, h1, hY, h2, h3⟩ := h.2 i hi
  exact ⟨b, o, h1, hY, hb.cell h2, h3⟩
theorem BytesAt.mod {X Y : Nat → Prop} {w w' : World} {ao : Option Addr} {n : Nat} {f : Nat → Int} (h : BytesAt Y w ao n f) (hb : Mod X w w') (hxy : ∀ k, Y k → ¬ X k) : BytesAt Y w' ao n f := by
  refine ⟨h.1, fun i hi => ?_⟩
  obtain ⟨b, o, h1, hY, h2, h3⟩ := h.2 i hi
  exact ⟨b, o, h1, hY, hb.cell h2 (hxy _ hY), h3⟩
section
variable {H : Type} {enc : TypeId × Value → H} {w : World} {base : Nat} {spare : Nat → Bool} {held : Bool}
set_option maxRecDepth 100000 in
/-- A slot by value. -/
theorem open_slot {r : Reach} {b0 : Nat} {v : Value} {d : DataW H} {p : List MemPlace} (hv : Value.okWide Try.prog w r b0 72 v) (h : DataW.Trod enc Try.prog w base spare held 72 v d p) :
    ∃ e a b : Int, v = .agg #[.int .i64 e, .int .i64 a, .int .i64 b] := by
  obtain ⟨v0, v1, v2, y0, y1, y2, n, rfl, _, _, h0, h1, h2⟩ := open_agg3 Try.underlying72 (by kernel_rfl) cells72 hv h
  obtain ⟨a0, e0, _⟩ := DataW.trod_int Try.underlying3 h0
  obtain ⟨a1, e1, _⟩ := DataW.trod_int Try.underlying3 h1
  obtain ⟨a2, e2, _⟩ := DataW.trod_int Try.underlying3 h2
  simp only [List.cons.injEq, and_true] at e0 e1 e2
  subst e0 e1 e2
  exact ⟨a0, a1, a2, rfl⟩
theorem open_bytesAt {fuel : Nat} {v : Value} {x : DataW H × List MemPlace} (h : DataW.trod enc Try.prog w base spare held fuel 22 [v] = some x) :
    ∃ ao n c f, v = .slice ao n c ∧ BytesAt (fun b => b < w.heap.size) w ao n f := by
  rcases open_ints Try.underlying22 Try.underlying5 cells5 h with ⟨hcs, _⟩ | ⟨a, len, cap, zs, hcs, _, hl, hm, hz, _, hcell, hwf⟩
  · simp only [List.cons.injEq, and_true] at hcs
    exact ⟨none, 0, 0, fun _ => 0, hcs, by omega, fun i hi => absurd hi (Nat.not_lt_zero _)⟩
  · simp only [List.cons.injEq, and_true] at hcs
    have hzl : len ≤ zs.length := by rw [hz]; split <;> omega
    unfold maxLen at hm
    refine ⟨some a, len, cap, fun i => zs.getD i 0, hcs, by omega, fun i hi => ?_⟩
    have ha := addr_of_cell (by simpa [Addr.add] using hcell 0 (by omega))
    have hc := hcell i (by omega)
    rw [ha, Addr.add_mid] at hc
    have hw := hwf (zs.getD i 0) (by rw [List.getD_eq_getElem?_getD, List.getElem?_eq_getElem (show i < zs.length by omega)]; exact List.getElem_mem _)
    have hw' : ∀ n : Int, (Lit.int .u8 n).wf = true → 0 ≤ n ∧ n ≤ 255 := fun n h => by
      have h1 : (decide ((0 : Int) ≤ n) && decide (n ≤ 255)) = true := h
      simpa using h1
    refine ⟨a.block, a.off, by rw [← ha], World.block_lt_of_cell? w ⟨a.block, a.off + i, none⟩ hc, hc, ?_⟩
    exact hw' _ hw
end
end Go.Proofs.Ytnbcjdoohmjghaa
/- What 'markMemory' and its parts write, and what 'heldMemory' answers behind it. -/
namespace Go.Proofs.Ytnbcjdoohmjghaa
open Go.RowKit

theorem ret_int {kd : IntKind} {a b : Int} (h : a = b) : Ending.returned (.int kd a) = .returned (.int kd b) := by rw [h]
def three (x : Int) : Bool := x % 3 == 0
/-- How many numbers the lines ahead of line j hold. -/
def pre (len : Nat → Nat) : Nat → Nat
  | 0 => 0
  | j + 1 => pre len j + len j
theorem pre_mono (len : Nat → Nat) {i j : Nat} (h : i ≤ j) : pre len i ≤ pre len j := by
  induction j with
  | zero => obtain rfl : i = 0 := by omega
            exact Nat.le_refl _
  | succ j ih =>
    by_cases e : i = j + 1
    · subst e; exact Nat.le_refl _
    · have := ih (by omega); simp only [pre]; omega

theorem ints_step {X : Nat → Prop} {w wr : World} {ao : Option Addr} {n j b : Nat} {f : Nat → Int} {k : Int} (hj : j < n) (hx : X b) (e : ao = some ⟨b, 0, none⟩) (hn : n ≤ 9223372036854775807)
    (hr : Row wr b n (fun t => .int .i64 (if t < j then k + t else f t))) (hm : Mod (fun b => X b ∧ 0 < n) w wr) :
    IntsOwn X (wr.setCell ⟨b, j, none⟩ (.int .i64 (k + j))) ao n (fun t => if t < j + 1 then k + t else f t) ∧ Mod (fun b => X b ∧ 0 < n) w (wr.setCell ⟨b, j, none⟩ (.int .i64 (k + j))) := by
  refine ⟨⟨hn, fun _ => ⟨b, hx, e, (hr.set j _).congr fun i hi => ?_⟩⟩, hm.trans (Mod.setCell _ ⟨hx, by omega⟩ _)⟩
  by_cases h1 : i = j
  · subst h1; simp
  · by_cases h2 : i < j
    · simp [h1, h2, Nat.lt_succ_of_lt h2]
    · have h3 : ¬ i < j + 1 := by omega
      simp [h1, h2, h3]
theorem bools_step {X : Nat → Prop} {w wr : World} {ao : Option Addr} {n j b : Nat} {f : Nat → Bool} {k : Int} (hj : j < n) (hx : X b) (e : ao = some ⟨b, 0, none⟩) (hn : n ≤ 9223372036854775807)
    (hr : Row wr b n (fun t => .bool (if t < j then three (k + t) else f t))) (hm : Mod (fun b => X b ∧ 0 < n) w wr) :
    BoolsOwn X (wr.setCell ⟨b, j, none⟩ (.bool (three (k + j)))) ao n (fun t => if t < j + 1 then three (k + t) else f t) ∧ Mod (fun b => X b ∧ 0 < n) w (wr.setCell ⟨b, j, none⟩ (.bool (three (k + j)))) := by
  refine ⟨⟨hn, fun _ => ⟨b, hx, e, (hr.set j _).congr fun i hi => ?_⟩⟩, hm.trans (Mod.setCell _ ⟨hx, by omega⟩ _)⟩
  by_cases h1 : i = j
  · subst h1; simp
  · by_cases h2 : i < j
    · simp [h1, h2, Nat.lt_succ_of_lt h2]
    · have h3 : ¬ i < j + 1 := by omega
      simp [h1, h2, h3]

set_option maxHeartbeats 400000 in
theorem markIntS_any (ao : Option Addr) (c n : Nat) (f : Nat → Int) (X : Nat → Prop) (k : Int) (w : World) (hk0 : 0 ≤ k) (hk : k + n ≤ 9223372036854775807) (h : IntsOwn X w ao n f) :
    Calls Try.prog 132 #[.slice ao n c, .int .i64 k] w fun e w' => e = .returned (.int .i64 (k + n)) ∧ IntsOwn X w' ao n (fun i => k + i) ∧ Mod (fun b => X b ∧ 0 < n) w w' := by
  have hn := h.1
  go_enter Try.func132, Try.ntmps132
  go_wp2
  go_loopw [1, 5] (fun kk i wr => ∃ j : Nat, j ≤ n ∧ i = .int .i64 j ∧ kk = .int .i64 (k + j) ∧ IntsOwn X wr ao n (fun t => if t < j then k + t else f t) ∧ Mod (fun b => X b ∧ 0 < n) w wr) (fun _ i _ => n - (intOf i).toNat)
  case atStart => exact ⟨0, Nat.zero_le _, rfl, by simp, by simpa using h, Mod.refl _ _⟩
  case round =>
    obtain ⟨j, hj, rfl, rfl, ho, hm⟩ := hrel
    by_cases hlt : j < n
    · obtain ⟨b, hx, e, hr⟩ := ho.2 (by omega)
      have st := ints_step hlt hx e hn hr hm
      have g1 : wr.cell? ⟨b, j, none⟩ = some (.int .i64 (f j)) := by simpa using hr.cell hlt
      have g2 := hr.frozen j
      subst e
      clear h ho hr hm
      go_wp2
      go_roundw
      case rel => exact ⟨j + 1, by omega, by go_num, by go_num, st.1, st.2⟩
      case measure => simp [intOf]; omega
    · go_wp2
      go_ret
      obtain rfl : j = n := by omega
      refine ⟨rfl, ?_, hm⟩
      refine ⟨hn, fun h0 => ?_⟩
      obtain ⟨b, hx, e, hr⟩ := ho.2 h0
      exact ⟨b, hx, e, hr.congr fun i hi => by simp [hi]⟩
set_option maxHeartbeats 400000 in
theorem markBoolS_any (ao : Option Addr) (c n : Nat) (f : Nat → Bool) (X : Nat → Prop) (k : Int) (w : World) (hk0 : 0 ≤ k) (hk : k + n ≤ 9223372036854775807) (h : BoolsOwn X w ao n f) :
    Calls Try.prog 120 #[.slice ao n c, .int .i64 k] w fun e w' => e = .returned (.int .i64 (k + n)) ∧ BoolsOwn X w' ao n (fun i => three (k + i)) ∧ Mod (fun b => X b ∧ 0 < n) w w' := by
  have hn := h.1
  go_enter Try.func120, Try.ntmps120
  go_wp2
  go_loopw [1, 5] (fun kk i wr => ∃ j : Nat, j ≤ n ∧ i = .int .i64 j ∧ kk = .int .i64 (k + j) ∧ BoolsOwn X wr ao n (fun t => if t < j then three (k + t) else f t) ∧ Mod (fun b => X b ∧ 0 < n) w wr) (fun _ i _ => n - (intOf i).toNat)
  case atStart => exact ⟨0, Nat.zero_le _, rfl, by simp, by simpa using h, Mod.refl _ _⟩
  case round =>
    obtain ⟨j, hj, rfl, rfl, ho, hm⟩ := hrel
    by_cases hlt : j < n
    · obtain ⟨b, hx, e, hr⟩ := ho.2 (by omega)
      have st := bools_step hlt hx e hn hr hm
      have g1 : wr.cell? ⟨b, j, none⟩ = some (.bool (f j)) := by simpa using hr.cell hlt
      have g2 := hr.frozen j
      subst e
      clear h ho hr hm
      go_wp2
      go_roundw
      case rel => exact ⟨j + 1, by omega, by go_num, by go_num, st.1, st.2⟩
      case measure => simp [intOf]; omega
    · go_wp2
      go_ret
      obtain rfl : j = n := by omega
      refine ⟨rfl, ?_, hm⟩
      refine ⟨hn, fun h0 => ?_⟩
      obtain ⟨b, hx, e, hr⟩ := ho.2 h0
      exact ⟨b, hx, e, hr.congr fun i hi => by simp [hi]⟩
theorem lines_step {X : Nat → Prop} {wr w1 : World} {n j b : Nat} {len F c : Nat → Nat} {v : Nat → Nat → Int} {k : Int} (hj : j < n)
    (hr : Row wr b n (fun i => .slice (some ⟨F i, 0, none⟩) (len i) (c i)))
    (hl : ∀ i, i < n → len i ≤ 9223372036854775807 ∧ X (F i) ∧ F i ≠ b ∧ Row wr (F i) (len i) (fun t => .int .i64 (if i < j then k + pre len i + t else v i t))) (hd : ∀ i j, i < n → j < n → i ≠ j → F i ≠ F j)
    (ho : IntsOwn (fun x => x = F j) w1 (some ⟨F j, 0, none⟩) (len j) (fun t => k + pre len j + t)) (hm : Mod (fun x => x = F j ∧ 0 < len j) wr w1) :
    Row w1 b n (fun i => .slice (some ⟨F i, 0, none⟩) (len i) (c i)) ∧
    (∀ i, i < n → len i ≤ 9223372036854775807 ∧ X (F i) ∧ F i ≠ b ∧ Row w1 (F i) (len i) (fun t => .int .i64 (if i < j + 1 then k + pre len i + t else v i t))) := by
  refine ⟨hr.mod hm (fun e => (hl j hj).2.2.1 e.1.symm), fun i hi => ?_⟩
  obtain ⟨g1, g2, g3, g4⟩ := hl i hi
  refine ⟨g1, g2, g3, ?_⟩
  by_cases e : i = j
  · subst e
    by_cases h0 : 0 < len i
    · obtain ⟨b', hb', e', hr'⟩ := ho.2 h0
      subst hb'
      exact hr'.congr fun t ht => by simp
    · exact (g4.mod hm (fun e => h0 e.2)).congr fun t ht => by omega
  · refine (g4.mod hm (fun e' => hd i j hi hj e e'.1)).congr fun t ht => ?_
    by_cases h2 : i < j
    · simp [h2, Nat.lt_succ_of_lt h2]
    · have h3 : ¬ i < j + 1 := by omega
      simp [h2, h3]

set_option maxHeartbeats 800000 in
theorem markLineS_any (ao : Option Addr) (c0 n : Nat) (len : Nat → Nat) (v : Nat → Nat → Int) (X : Nat → Prop) (k : Int) (w : World) (hk0 : 0 ≤ k) (hk : k + pre len n ≤ 9223372036854775807) (h : LinesOwn X w ao n len v) :
    Calls Try.prog 119 #[.slice ao n c0, .int .i64 k] w fun e w' => e = .returned (.int .i64 (k + pre len n)) ∧ LinesOwn X w' ao n len (fun i t => k + pre len i + t) ∧ Mod X w w' := by
  have hn := h.1
  go_enter Try.func119, Try.ntmps119
  go_wp2
  go_loopw [1, 5] (fun kk i wr => ∃ j : Nat, j ≤ n ∧ i = .int .i64 j ∧ kk = .int .i64 (k + pre len j) ∧ LinesOwn X wr ao n len (fun i t => if i < j then k + pre len i + t else v i t) ∧ Mod X w wr) (fun _ i _ => n - (intOf i).toNat)
  case atStart => exact ⟨0, Nat.zero_le _, rfl, by simp [pre], by simpa using h, Mod.refl _ _⟩
  case round =>
    obtain ⟨j, hj, rfl, rfl, ho, hm⟩ := hrel
    by_cases hlt : j < n
    · obtain ⟨b, F, c, hx, e, hr, hl, hd⟩ := ho.2 (by omega)
      have hlj := hl j hlt
      have ioj : IntsOwn (fun x => x = F j) wr (some ⟨F j, 0, none⟩) (len j) (v j) := ⟨hlj.1, fun _ => ⟨F j, rfl, rfl, hlj.2.2.2.congr fun t ht => by simp⟩⟩
      have st := fun (w1 : World) ho hm => lines_step (w1 := w1) hlt hr hl hd ho hm
      have g1 := hr.cell hlt
      have hp : pre len (j + 1) ≤ pre len n := pre_mono len (by omega)
      have hp1 : pre len (j + 1) = pre len j + len j := rfl
      have HP : Hid (pre len (j + 1) = pre len j + len j) := hp1
      have hb2 : (pre len j : Int) + len j ≤ pre len n := by omega
      clear hp hp1
      subst e
      have ST : Hid (∀ (w1 : World), IntsOwn (fun x => x = F j) w1 (some ⟨F j, 0, none⟩) (len j) (fun t => k + pre len j + t) → Mod (fun x => x = F j ∧ 0 < len j) wr w1 → _) := st
      have HD : Hid (∀ i j, i < n → j < n → i ≠ j → F i ≠ F j) := hd
      clear h ho hr hl hd st
      go_wp2_with fail
      refine (markIntS_any _ _ _ (v j) _ _ _ (by omega) (by omega) ioj).mono ?_
      rintro e w1 ⟨rfl, ho1, hm1⟩
      have R := ST.out w1 ho1 hm1
      have hm2 : Mod X wr w1 := hm1.mono (fun x hx => hx.1 ▸ hlj.2.1)
      clear ST ioj ho1 hm1 g1
      go_wp2
      go_roundw
      case rel => exact ⟨j + 1, by omega, by go_num, by rw [HP.out]; go_num, ⟨hn, fun _ => ⟨b, F, c, hx, rfl, R.1, R.2, HD.out⟩⟩, hm.trans hm2⟩
      case measure => simp [intOf]; omega
    · go_wp2
      go_ret
      obtain rfl : j = n := by omega
      refine ⟨rfl, ?_, hm⟩
      refine ⟨hn, fun h0 => ?_⟩
      obtain ⟨b, F, c, hx, e, hr, hl, hd⟩ := ho.2 h0
      refine ⟨b, F, c, hx, e, hr, fun i hi => ?_, hd⟩
      obtain ⟨g1, g2, g3, g4⟩ := hl i hi
      exact ⟨g1, g2, g3, g4.congr fun t ht => by simp [hi]⟩
/-- What a memory holds behind markMemory. -/
def MD.marked (M : MD) (k : Int) : MD :=
  { M with v1 := fun i t => k + pre M.l1 i + t, v2 := fun i t => k + pre M.l1 M.n1 + pre M.l2 i + t, d := fun i => three (k + pre M.l1 M.n1 + pre M.l2 M.n2 + i) }
def MD.total (M : MD) : Nat := pre M.l1 M.n1 + pre M.l2 M.n2 + M.n3

set_option maxHeartbeats 800000 in
theorem markMemory_any (m : MV) (M : MD) (X : Nat → Prop) (k : Int) (w : World) (hk0 : 0 ≤ k) (hk : k + M.total ≤ 9223372036854775807) (h : MemOwn X w m M) (hX : ∀ b, X b → b < w.heap.size) :
    Calls Try.prog 68 #[m.val M, .int .i64 k] w fun e w' => e = .returned (.int .i64 (k + M.total)) ∧ MemOwn X w' m (M.marked k) ∧ Mod X w w' := by
  obtain ⟨X1, X2, X3, h1, h2, h3, s, c, d⟩ := h.ex
  clear h
  obtain ⟨a1, a2, a3, c1, c2, c3⟩ := m
  obtain ⟨n1, n2, n3, l1, l2, v1, v2, dd⟩ := M
  simp only [MV.val, MD.total, MD.marked] at *
  go_enter Try.func68, Try.ntmps68
  go_wp2_with fail
  have hb0 : Blw w (w.alloc (.cells #[.slice a1 n1 c1, .slice a2 n2 c2, .slice a3 n3 c3] 26)) := (Blw.refl _).alloc _
  have hmA := hb0.mod (fun _ => False)
  refine (markLineS_any _ _ n1 l1 v1 X1 _ _ hk0 (by omega) (s.mod hmA (fun _ _ => id))).mono ?_
  rintro e w1 ⟨rfl, o1, m1⟩
  have x1 : ¬ X1 w.heap.size := fun hh => by have := hX _ (h1 _ hh).1; omega
  have x2 : ¬ X2 w.heap.size := fun hh => by have := hX _ (h2 _ hh).1; omega
  have p1 : w1.cell? ⟨w.heap.size, 1, none⟩ = some (.slice a2 n2 c2) := m1.cell (by go_cell) x1
  have p2 : w1.cell? ⟨w.heap.size, 2, none⟩ = some (.slice a3 n3 c3) := m1.cell (by go_cell) x1
  have c' := (c.mod hmA (fun _ _ => id)).mod m1 (fun b hb hh => (h1 b hh).2.1 hb)
  have d' := (d.mod hmA (fun _ _ => id)).mod m1 (fun b hb hh => (h1 b hh).2.2 hb)
  have M1 : Mod X w w1 := (hb0.mod X).trans (m1.mono (fun b hb => (h1 b hb).1))
  clear s c d hmA hb0 m1
  go_wp2_with fail
  refine (markLineS_any _ _ n2 l2 v2 X2 _ _ (by omega) (by omega) c').mono ?_
  rintro e w2 ⟨rfl, o2, m2⟩
  replace p2 := m2.cell p2 x2
  replace o1 := o1.mod m2 (fun b hb hh => (h1 b hb).2.1 hh)
  have d'' := d'.mod m2 (fun b hb hh => (h2 b hh).2 hb)
  have M2 : Mod X w w2 := M1.trans (m2.mono (fun b hb => (h2 b hb).1))
  clear c' d' m2 M1 p1
  go_wp2_with fail
  refine (markBoolS_any _ _ n3 dd X3 _ _ (by omega) (by omega) d'').mono ?_
  rintro e w3 ⟨rfl, o3, m3⟩
  replace o1 := o1.mod m3 (fun b hb hh => (h1 b hb).2.2 hh.1)
  replace o2 := o2.mod m3 (fun b hb hh => (h2 b hb).2 hh.1)
  have M3 : Mod X w w3 := M2.trans (m3.mono (fun b hb => h3 b hb.1))
  clear m3 M2 p2 d''
  go_wp2
  go_ret
  refine ⟨?_, ⟨X1, X2, X3, h1, h2, h3, o1, o2, o3⟩, M3⟩
  exact ret_int (by omega)

set_option maxHeartbeats 400000 in
theorem heldIntS_any (ao : Option Addr) (c n : Nat) (Y : Nat → Prop) (k : Int) (w : World) (hk0 : 0 ≤ k) (hk : k + n ≤ 9223372036854775807) (h : IntsAt Y w ao n (fun i => k + i)) :
    Calls Try.prog 133 #[.slice ao n c, .int .i64 k] w fun e w' => e = .returned (.int .i64 (k + n)) ∧ Blw w w' := by
  obtain ⟨hn, h⟩ := h
  go_enter Try.func133, Try.ntmps133
  go_wp2
  go_loopw [1, 5] (fun kk i wr => ∃ j : Nat, j ≤ n ∧ i = .int .i64 j ∧ kk = .int .i64 (k + j) ∧ Blw w wr) (fun _ i _ => n - (intOf i).toNat)
  case atStart => exact ⟨0, Nat.zero_le _, rfl, by simp, Blw.refl _⟩
  case round =>
    obtain ⟨j, hj, rfl, rfl, hb⟩ := hrel
    by_cases hlt : j < n
    · obtain ⟨b, o, rfl, -, g1⟩ := h j hlt
      replace g1 := hb.cell g1
      clear h
      go_wp2
      go_roundw
      case rel => exact ⟨j + 1, by omega, by go_num, by go_num, hb⟩
      case measure => simp [intOf]; omega
    · go_wp2
      go_ret
      obtain rfl : j = n := by omega
      exact ⟨rfl, hb⟩
set_option maxHeartbeats 400000 in
theorem heldBoolS_any (ao : Option Addr) (c n : Nat) (Y : Nat → Prop) (k : Int) (w : World) (hk0 : 0 ≤ k) (hk : k + n ≤ 9223372036854775807) (h : BoolsAt Y w ao n (fun i => three (k + i))) :
    Calls Try.prog 122 #[.slice ao n c, .int .i64 k] w fun e w' => e = .returned (.int .i64 (k + n)) ∧ Blw w w' := by
  obtain ⟨hn, h⟩ := h
  go_enter Try.func122, Try.ntmps122
  go_wp2
  go_loopw [1, 5] (fun kk i wr => ∃ j : Nat, j ≤ n ∧ i = .int .i64 j ∧ kk = .int .i64 (k + j) ∧ Blw w wr) (fun _ i _ => n - (intOf i).toNat)
  case atStart => exact ⟨0, Nat.zero_le _, rfl, by simp, Blw.refl _⟩
  case round =>
    obtain ⟨j, hj, rfl, rfl, hb⟩ := hrel
    by_cases hlt : j < n
    · obtain ⟨b, o, rfl, -, g1⟩ := h j hlt
      replace g1 := hb.cell g1
      simp only [three] at g1
      clear h
      go_wp2
      go_roundw
      case rel => exact ⟨j + 1, by omega, by go_num, by go_num, hb⟩
      case measure => simp [intOf]; omega
    · go_wp2
      go_ret
      obtain rfl : j = n := by omega
      exact ⟨rfl, hb⟩
set_option maxHeartbeats 800000 in
theorem heldLineS_any (ao : Option Addr) (c0 n : Nat) (len : Nat → Nat) (Y : Nat → Prop) (k : Int) (w : World) (hk0 : 0 ≤ k) (hk : k + pre len n ≤ 9223372036854775807) (h : LinesAt Y w ao n len (fun i t => k + pre len i + t)) :
    Calls Try.prog 121 #[.slice ao n c0, .int .i64 k] w fun e w' => e = .returned (.int .i64 (k + pre len n)) ∧ Blw w w' := by
  obtain ⟨hn, h⟩ := h
  go_enter Try.func121, Try.ntmps121
  go_wp2
  go_loopw [1, 5] (fun kk i wr => ∃ j : Nat, j ≤ n ∧ i = .int .i64 j ∧ kk = .int .i64 (k + pre len j) ∧ Blw w wr) (fun _ i _ => n - (intOf i).toNat)
  case atStart => exact ⟨0, Nat.zero_le _, rfl, by simp [pre], Blw.refl _⟩
  case round =>
    obtain ⟨j, hj, rfl, rfl, hb⟩ := hrel
    by_cases hlt : j < n
    · obtain ⟨b, o, a, c, rfl, -, g1, g2⟩ := h j hlt
      replace g1 := hb.cell g1
      replace g2 := g2.blw hb
      have hp : pre len (j + 1) ≤ pre len n := pre_mono len (by omega)
      have hp1 : pre len (j + 1) = pre len j + len j := rfl
      have HP : Hid (pre len (j + 1) = pre len j + len j) := hp1
      have hb2 : (pre len j : Int) + len j ≤ pre len n := by omega
      have hb3 : 0 ≤ k + pre len j + len j := by omega
      clear h hp hp1
      go_wp2_with fail
      refine (heldIntS_any _ _ _ Y _ _ (by omega) (by omega) g2).mono ?_
      rintro e w1 ⟨rfl, hb1⟩
      replace hb := hb.trans hb1
      clear g1 g2 hb1
      go_wp2
      go_roundw
      case rel => exact ⟨j + 1, by omega, by go_num, by rw [HP.out]; go_num, hb⟩
      case measure => simp [intOf]; omega
    · go_wp2
      go_ret
      obtain rfl : j = n := by omega
      exact ⟨rfl, hb⟩
set_option maxHeartbeats 800000 in
theorem heldMemory_any (m : MV) (M : MD) (Y : Nat → Prop) (k : Int) (w : World) (hk0 : 0 ≤ k) (hk : k + M.total ≤ 9223372036854775807) (h : MemAt Y w m (M.marked k)) :
    Calls Try.prog 69 #[m.val M, .int .i64 k] w fun e w' => e = .returned (.int .i64 (k + M.total)) ∧ Blw w w' := by
  obtain ⟨s, c, d⟩ := h
  obtain ⟨a1, a2, a3, c1, c2, c3⟩ := m
  obtain ⟨n1, n2, n3, l1, l2, v1, v2, dd⟩ := M
  simp only [MV.val, MD.total, MD.marked] at *
  go_enter Try.func69, Try.ntmps69
  go_wp2_with fail
  have hb0 : Blw w (w.alloc (.cells #[.slice a1 n1 c1, .slice a2 n2 c2, .slice a3 n3 c3] 26)) := (Blw.refl _).alloc _
  refine (heldLineS_any _ _ n1 l1 Y _ _ hk0 (by omega) (s.blw hb0)).mono ?_
  rintro e w1 ⟨rfl, hb1⟩
  have p1 : w1.cell? ⟨w.heap.size, 1, none⟩ = some (.slice a2 n2 c2) := hb1.cell (by go_cell)
  have p2 : w1.cell? ⟨w.heap.size, 2, none⟩ = some (.slice a3 n3 c3) := hb1.cell (by go_cell)
  replace hb1 := hb0.trans hb1
  clear hb0
  go_wp2_with fail
  refine (heldLineS_any _ _ n2 l2 Y _ _ (by omega) (by omega) (c.blw hb1)).mono ?_
  rintro e w2 ⟨rfl, hb2⟩
  replace p2 := hb2.cell p2
  replace hb2 := hb1.trans hb2
  clear p1 hb1
  go_wp2_with fail
  refine (heldBoolS_any _ _ n3 Y _ _ (by omega) (by omega) (d.blw hb2)).mono ?_
  rintro e w3 ⟨rfl, hb3⟩
  replace hb3 := hb2.trans hb3
  clear p2 hb2
  go_wp2
  go_ret
  refine ⟨?_, hb3⟩
  exact ret_int (by omega)
end Go.Proofs.Ytnbcjdoohmjghaa
/- What 'szMemory' and its parts answer: below 0, or the memory is small. -/
namespace Go.Proofs.Ytnbcjdoohmjghaa
open Go.RowKit

/-- What a measure answers: below 0, or what is left. -/
def Left (left size r : Int) : Prop := r = -1 ∨ (0 ≤ r ∧ r + size ≤ left)

set_option maxHeartbeats 400000 in
theorem szIntS_any (ao : Option Addr) (c n : Nat) (left : Int) (w : World) (hn : n ≤ 9223372036854775807) (h0 : 0 ≤ left) (h1 : left ≤ 1048576) :
    Calls Try.prog 134 #[.slice ao n c, .int .i64 left] w fun e w' => ∃ r : Int, e = .returned (.int .i64 r) ∧ Left left n r ∧ Blw w w' := by
  by_cases h : left - n < 0
  · go_enter Try.func134, Try.ntmps134
    go_wp2
    go_ret
    exact ⟨_, rfl, Or.inl rfl, Blw.refl _⟩
  · go_enter Try.func134, Try.ntmps134
    go_wp2
    go_ret
    exact ⟨_, rfl, Or.inr ⟨by omega, by omega⟩, Blw.refl _⟩
set_option maxHeartbeats 400000 in
theorem szBoolS_any (ao : Option Addr) (c n : Nat) (left : Int) (w : World) (hn : n ≤ 9223372036854775807) (h0 : 0 ≤ left) (h1 : left ≤ 1048576) :
    Calls Try.prog 114 #[.slice ao n c, .int .i64 left] w fun e w' => ∃ r : Int, e = .returned (.int .i64 r) ∧ Left left n r ∧ Blw w w' := by
  by_cases h : left - n < 0
  · go_enter Try.func114, Try.ntmps114
    go_wp2
    go_ret
    exact ⟨_, rfl, Or.inl rfl, Blw.refl _⟩
  · go_enter Try.func114, Try.ntmps114
    go_wp2
    go_ret
    exact ⟨_, rfl, Or.inr ⟨by omega, by omega⟩, Blw.refl _⟩
set_option maxHeartbeats 400000 in
theorem szLine_any (ao : Option Addr) (c n : Nat) (left : Int) (w : World) (hn : n ≤ 9223372036854775807) (h0 : 0 ≤ left) (h1 : left ≤ 1048576) :
    Calls Try.prog 129 #[.agg #[.slice ao n c], .int .i64 left] w fun e w' => ∃ r : Int, e = .returned (.int .i64 r) ∧ Left left n r ∧ Blw w w' := by
  go_enter Try.func129, Try.ntmps129
  go_wp2_with fail
  refine (szIntS_any _ _ _ _ _ hn h0 h1).mono ?_
  rintro e w1 ⟨r, rfl, hr, hb⟩
  replace hb := ((Blw.refl w).alloc _).trans hb
  rcases hr with rfl | ⟨r0, r1⟩
  · go_wp2
    go_ret
    exact ⟨_, rfl, Or.inl rfl, hb⟩
  · go_wp2
    go_ret
    exact ⟨_, rfl, Or.inr ⟨r0, r1⟩, hb⟩
set_option maxHeartbeats 800000 in
theorem szLineS_any (ao : Option Addr) (c0 n : Nat) (len : Nat → Nat) (v : Nat → Nat → Int) (Y : Nat → Prop) (left : Int) (w : World) (h0 : 0 ≤ left) (h1 : left ≤ 1048576) (h : LinesAt Y w ao n len v) :
    Calls Try.prog 113 #[.slice ao n c0, .int .i64 left] w fun e w' => ∃ r : Int, e = .returned (.int .i64 r) ∧ Left left (n + pre len n) r ∧ Blw w w' := by
  obtain ⟨hn, h⟩ := h
  by_cases hl : left - n < 0
  · go_enter Try.func113, Try.ntmps113
    go_wp2
    go_ret
    exact ⟨_, rfl, Or.inl rfl, Blw.refl _⟩
  · go_enter Try.func113, Try.ntmps113
    go_wp2
    go_loopw [1, 5] (fun kk i wr => ∃ (j : Nat) (r : Int), j ≤ n ∧ i = .int .i64 j ∧ kk = .int .i64 r ∧ 0 ≤ r ∧ r + (n + pre len j) ≤ left ∧ Blw w wr) (fun _ i _ => n - (intOf i).toNat)
    case atStart => exact ⟨0, _, Nat.zero_le _, rfl, rfl, by omega, by simp only [pre]; omega, Blw.refl _⟩
    case round =>
      obtain ⟨j, r, hj, rfl, rfl, hr0, hr1, hb⟩ := hrel
      by_cases hlt : j < n
      · obtain ⟨b, o, a, c, rfl, -, g1, g2⟩ := h j hlt
        replace g1 := hb.cell g1
        have HP : Hid (pre len (j + 1) = pre len j + len j) := rfl
        have hlj := g2.1
        clear h g2
        go_wp2_with fail
        refine (szLine_any _ _ _ _ _ hlj hr0 (by omega)).mono ?_
        rintro e w1 ⟨r1, rfl, hr, hb1⟩
        replace hb := hb.trans hb1
        clear g1 hb1
        rcases hr with rfl | ⟨q0, q1⟩
        · go_wp2
          go_ret
          exact ⟨_, rfl, Or.inl rfl, hb⟩
        · go_wp2
          go_roundw
          case rel => exact ⟨j + 1, r1, by omega, by go_num, rfl, q0, by rw [HP.out]; omega, hb⟩
          case measure => simp [intOf]; omega
      · go_wp2
        go_ret
        obtain rfl : j = n := by omega
        exact ⟨r, rfl, Or.inr ⟨hr0, by omega⟩, hb⟩
def MD.size (M : MD) : Nat := M.n1 + pre M.l1 M.n1 + (M.n2 + pre M.l2 M.n2) + M.n3
set_option maxHeartbeats 800000 in
theorem szMemory_any (m : MV) (M : MD) (Y : Nat → Prop) (left : Int) (w : World) (h0 : 0 ≤ left) (h1 : left ≤ 1048576) (h : MemAt Y w m M) :
    Calls Try.prog 65 #[m.val M, .int .i64 left] w fun e w' => ∃ r : Int, e = .returned (.int .i64 r) ∧ Left left M.size r ∧ Blw w w' := by
  obtain ⟨s, c, d⟩ := h
  obtain ⟨a1, a2, a3, c1, c2, c3⟩ := m
  obtain ⟨n1, n2, n3, l1, l2, v1, v2, dd⟩ := M
  simp only [MV.val, MD.size] at *
  have hd := d.1
  go_enter Try.func65, Try.ntmps65
  go_wp2_with fail
  have hb0 : Blw w (w.alloc (.cells #[.slice a1 n1 c1, .slice a2 n2 c2, .slice a3 n3 c3] 77)) := (Blw.refl _).alloc _
  refine (szLineS_any _ _ n1 l1 v1 Y _ _ h0 h1 (s.blw hb0)).mono ?_
  rintro e w1 ⟨r1, rfl, hr1, hb1⟩
  have p1 : w1.cell? ⟨w.heap.size, 1, none⟩ = some (.slice a2 n2 c2) := hb1.cell (by go_cell)
  have p2 : w1.cell? ⟨w.heap.size, 2, none⟩ = some (.slice a3 n3 c3) := hb1.cell (by go_cell)
  replace hb1 := hb0.trans hb1
  clear hb0
  rcases hr1 with rfl | ⟨q0, q1⟩
  · go_wp2
    go_ret
    exact ⟨_, rfl, Or.inl rfl, hb1⟩
  go_wp2_with fail
  refine (szLineS_any _ _ n2 l2 v2 Y _ _ q0 (by omega) (c.blw hb1)).mono ?_
  rintro e w2 ⟨r2, rfl, hr2, hb2⟩
  replace p2 := hb2.cell p2
  replace hb2 := hb1.trans hb2
  clear p1 hb1
  rcases hr2 with rfl | ⟨q2, q3⟩
  · go_wp2
    go_ret
    exact ⟨_, rfl, Or.inl rfl, hb2⟩
  go_wp2_with fail
  refine (szBoolS_any _ _ n3 _ _ hd q2 (by omega)).mono ?_
  rintro e w3 ⟨r3, rfl, hr3, hb3⟩
  replace hb3 := hb2.trans hb3
  clear p2 hb2
  rcases hr3 with rfl | ⟨q4, q5⟩
  · go_wp2
    go_ret
    exact ⟨_, rfl, Or.inl rfl, hb3⟩
  go_wp2
  go_ret
  exact ⟨_, rfl, Or.inr ⟨q4, by omega⟩, hb3⟩
end Go.Proofs.Ytnbcjdoohmjghaa
/- Copies between rows, and arrays read as values, by functions of the index. -/
namespace Go.Proofs.Ytnbcjdoohmjghaa
open Go.RowKit

theorem Row.of_cells {w : World} {b : Nat} {c : Array Value} {t : TypeId} (h : w.heap[b]? = some (.cells c t (0, 0))) (f : Nat → Value) (hf : ∀ i, i < c.size → c[i]? = some (f i)) : Row w b c.size f := ⟨c, t, h, Nat.le_refl _, hf⟩

theorem run_copy_fn {P : Program} (w : World) (dT sT ty elem : TypeId) (b o dLen dCap : Nat) (a : Addr) (sLen sCap m : Nat) (g : Nat → Value) (n : Nat) (f : Nat → Value)
    (hu : P.underlying dT = some (.slice elem)) (hs : (P.info? elem).map (·.size) = some 1) (hm : m = Nat.min sLen dLen)
    (hsrc : ∀ j, j < m → w.cell? (a.add j) = some (g j)) (h1 : ∀ j, j < m → (g j).oneCell' = true) (hrow : Row w b n f) (hfit : o + m ≤ n) :
    ∃ w', (Builtin.copy_ #[dT, sT] ty #[.slice (some ⟨b, o, none⟩) dLen dCap, .slice (some a) sLen sCap]).run P w = .ok (goInt m) w' ∧
      Row w' b n (fun i => if o ≤ i ∧ i < o + m then g (i - o) else f i) ∧ Mod (fun x => x = b) w w' ∧ w'.heap.size = w.heap.size := by
  obtain ⟨cur, t, hb, hn, hc⟩ := hrow
  have hl : ((List.range m).map g).length = m := by simp
  have hrun := run_copy_row (P := P) w dT sT ty elem b o dLen dCap a sLen sCap cur t ((List.range m).map g) hu hs hb (by rw [hl]; exact hm)
    (fun j v hv => by
      have hj : j < m := by
        have := (List.getElem?_eq_some_iff.1 hv).1
        omega
      rw [hsrc j hj]
      simpa [hj] using hv) (by rw [hl]; omega) (fun v hv => by
      obtain ⟨j, hj, rfl⟩ := List.mem_map.1 hv
      exact h1 j (List.mem_range.1 hj))
  rw [hl] at hrun
  refine ⟨_, hrun, ⟨_, t, setRow_heap w b _ _ t _ hb, ?_, fun i hi => ?_⟩, ⟨rfl, rfl, rfl, by simp [World.setRow], fun k _ hk => setRow_other w b k _ hk⟩, by simp [World.setRow]⟩
  · simp; omega
  · simp only [List.getElem?_toArray]
    have hlen : (cur.toList.take o).length = o := by simp; omega
    by_cases h2 : i < o
    · have h3 : ¬ (o ≤ i ∧ i < o + m) := by omega
      rw [if_neg h3, List.append_assoc, List.getElem?_append_left (by omega), List.getElem?_take, if_pos h2]
      simpa using hc i hi
    · by_cases h3 : i < o + m
      · rw [if_pos ⟨by omega, h3⟩, List.append_assoc, List.getElem?_append_right (by omega), hlen, List.getElem?_append_left (by simp; omega), List.getElem?_map, List.getElem?_range (by omega)]
        rfl
      · rw [if_neg (by omega), List.getElem?_append_right (by simp; omega)]
        simp only [List.length_append, hlen, hl, List.getElem?_drop]
        rw [show o + m + (i - (o + m)) = i by omega]
        simpa using hc i hi

/-- copy as one step of a region that draws its order. -/
theorem step_copy_fn {P : Program} {ops : Array Oper} {o : Oper} {a : Act} {w : World} {K : Act → World → Prop} {Q : Exit → Act → World → Prop} {E : Prop} (hgd : o.guard = none) (d s : Operand) (dT sT : TypeId)
    (ho : o.op = .call { callee := .builtin .copy, args := #[d, s], argTypes := #[dT, sT] }) (elem : TypeId) (hu : P.underlying dT = some (.slice elem)) (hsz : (P.info? elem).map (·.size) = some 1)
    (b off dLen dCap : Nat) (ad : Addr) (sLen sCap : Nat) (hd : a.eval d = .slice (some ⟨b, off, none⟩) dLen dCap) (hs : a.eval s = .slice (some ad) sLen sCap)
    (m : Nat) (g : Nat → Value) (n : Nat) (f : Nat → Value) (hm : m = Nat.min sLen dLen)
    (hsrc : ∀ j, j < m → w.cell? (ad.add j) = some (g j)) (h1 : ∀ j, j < m → (g j).oneCell' = true) (hrow : Row w b n f) (hfit : off + m ≤ n)
    (h : ∀ w', Row w' b n (fun i => if off ≤ i ∧ i < off + m then g (i - off) else f i) → Mod (fun x => x = b) w w' → w'.heap.size = w.heap.size → K (a.put o.dst (goInt m)) w') :
    if Region.wanted o (yielded ops a.tmps) = true then Oper.wp P o a w K Q else E := by
  have hw : Region.wanted o (yielded ops a.tmps) = true := by simp [Region.wanted, hgd]
  rw [if_pos hw]
  obtain ⟨w', hrun, h2, h3, h4⟩ := run_copy_fn (P := P) w dT sT o.type elem b off dLen dCap ad sLen sCap m g n f hu hsz hm hsrc h1 hrow hfit
  unfold Oper.wp
  simp [execOp, ho, resolve, invoke, builtin, hd, hs, hrun, Result.andThen]
  exact h _ h2 h3 h4

/-- copy as a law for a region that does not draw. -/
theorem wpList_copy_fn {P : Program} {w : World} {ops : Array Oper} {rest : List Oper} {o : Oper} {a : Act} {Q : Exit → Act → World → Prop} (hgd : o.guard = none) (d s : Operand) (dT sT : TypeId)
    (ho : o.op = .call { callee := .builtin .copy, args := #[d, s], argTypes := #[dT, sT] }) (elem : TypeId) (hu : P.underlying dT = some (.slice elem)) (hsz : (P.info? elem).map (·.size) = some 1)
    (b off dLen dCap : Nat) (ad : Addr) (sLen sCap : Nat) (hd : a.eval d = .slice (some ⟨b, off, none⟩) dLen dCap) (hs : a.eval s = .slice (some ad) sLen sCap)
    (m : Nat) (g : Nat → Value) (n : Nat) (f : Nat → Value) (hm : m = Nat.min sLen dLen)
    (hsrc : ∀ j, j < m → w.cell? (ad.add j) = some (g j)) (h1 : ∀ j, j < m → (g j).oneCell' = true) (hrow : Row w b n f) (hfit : off + m ≤ n)
    (h : ∀ w', Row w' b n (fun i => if off ≤ i ∧ i < off + m then g (i - off) else f i) → Mod (fun x => x = b) w w' → w'.heap.size = w.heap.size → wpList P ops Q rest (a.put o.dst (goInt m)) w') :
    wpList P ops Q (o :: rest) a w := by
  refine wpList_plain hgd fun K hK => ?_
  obtain ⟨w', hrun, h2, h3, h4⟩ := run_copy_fn (P := P) w dT sT o.type elem b off dLen dCap ad sLen sCap m g n f hu hsz hm hsrc h1 hrow hfit
  unfold Oper.wp
  simp [execOp, ho, resolve, invoke, builtin, hd, hs, hrun, Result.andThen]
  exact hK _ _ (h _ h2 h3 h4)
end Go.Proofs.Ytnbcjdoohmjghaa
/- 'toMemory' and its parts: new memory that reads as the old one. -/
namespace Go.Proofs.Ytnbcjdoohmjghaa
open Go.RowKit
theorem tinfo3 : (Try.prog.info? 3).map (fun i => (i.zero, i.size, i.bytes)) = some (some (.int .i64 0), 1, 8) := by kernel_rfl
theorem tinfo4 : (Try.prog.info? 4).map (fun i => (i.zero, i.size, i.bytes)) = some (some (.bool false), 1, 1) := by kernel_rfl
theorem tinfo37 : (Try.prog.info? 37).map (fun i => (i.zero, i.size, i.bytes)) = some (some (.agg #[.slice none 0 0]), 1, 24) := by kernel_rfl
theorem mkInts (n : Nat) (hn : n ≤ 1048576) (w : World) : (Instr.makeSlice 27 (.int .i64 n) (.int .i64 n)).run Try.prog w = .ok (.slice (some ⟨w.heap.size, 0, none⟩) n n) (w.alloc (.cells (madeCells #[.int .i64 0] n) 3)) :=
  run_make_row' (P := Try.prog) 27 3 (.int .i64 0) 8 Try.underlying27 tinfo3 rfl .i64 .i64 n (by omega) (by omega) w
theorem mkBools (n : Nat) (hn : n ≤ 1048576) (w : World) : (Instr.makeSlice 24 (.int .i64 n) (.int .i64 n)).run Try.prog w = .ok (.slice (some ⟨w.heap.size, 0, none⟩) n n) (w.alloc (.cells (madeCells #[.bool false] n) 4)) :=
  run_make_row' (P := Try.prog) 24 4 (.bool false) 1 Try.underlying24 tinfo4 rfl .i64 .i64 n (by omega) (by omega) w
theorem mkLines (n : Nat) (hn : n ≤ 1048576) (w : World) : (Instr.makeSlice 23 (.int .i64 n) (.int .i64 n)).run Try.prog w = .ok (.slice (some ⟨w.heap.size, 0, none⟩) n n) (w.alloc (.cells (madeCells #[.slice none 0 0] n) 37)) := by
  obtain ⟨i0, hi, hz0, hz1, hz2⟩ := info_parts tinfo37
  have h := run_make (P := Try.prog) w 23 37 i0 (.agg #[.slice none 0 0]) Try.underlying23 hi hz0 .i64 .i64 (n : Int) (n : Int) (by omega) (Int.le_refl _) (by rw [hz2]; omega) (by omega)
  simpa [hz1, Value.cells] using h

theorem fill_step {α : Type} {w wr : World} {n j : Nat} {f : Nat → α} {z : α} {mk : α → Value} (hb : Blw w wr) (hr : Row wr w.heap.size n (fun t => mk (if t < j then f t else z))) :
    Row (wr.setCell ⟨w.heap.size, j, none⟩ (mk (f j))) w.heap.size n (fun t => mk (if t < j + 1 then f t else z)) ∧ Blw w (wr.setCell ⟨w.heap.size, j, none⟩ (mk (f j))) := by
  refine ⟨(hr.set j _).congr fun i hi => ?_, hb.setCell (Nat.le_refl _) _⟩
  by_cases h1 : i = j
  · subst h1; simp
  · by_cases h2 : i < j
    · simp [h1, h2, Nat.lt_succ_of_lt h2]
    · have h3 : ¬ i < j + 1 := by omega
      simp [h1, h2, h3]

set_option maxHeartbeats 400000 in
theorem toIntS_any (ao : Option Addr) (c n : Nat) (f : Nat → Int) (Y : Nat → Prop) (w : World) (hn : n ≤ 1048576) (h : IntsAt Y w ao n f) :
    Calls Try.prog 135 #[.slice ao n c] w fun e w' => e = .returned (.slice (some ⟨w.heap.size, 0, none⟩) n n) ∧ Row w' w.heap.size n (fun t => .int .i64 (f t)) ∧ Blw w w' := by
  obtain ⟨-, h⟩ := h
  have hmk := mkInts n hn
  go_enter Try.func135, Try.ntmps135
  go_wp2
  clear hmk
  go_loopw [4] (fun i wr => ∃ j : Nat, j ≤ n ∧ i = .int .i64 j ∧ Row wr w.heap.size n (fun t => Value.int .i64 (if t < j then f t else 0)) ∧ Blw w wr) (fun i _ => n - (intOf i).toNat)
  case atStart => exact ⟨0, Nat.zero_le _, rfl, (Row.made w (.int .i64 0) n 3).congr (fun i _ => by simp), (Blw.refl _).alloc _⟩
  case round =>
    obtain ⟨j, hj, rfl, hr, hb⟩ := hrel
    by_cases hlt : j < n
    · obtain ⟨b, o, rfl, -, g1⟩ := h j hlt
      replace g1 := hb.cell g1
      have g2 : wr.cell? ⟨w.heap.size, j, none⟩ = some (.int .i64 0) := by simpa using hr.cell hlt
      have g3 := hr.frozen j
      have st := fill_step (mk := fun x => Value.int .i64 x) hb hr
      clear h hr
      go_wp2
      go_roundw
      case rel => exact ⟨j + 1, by omega, by go_num, st.1, st.2⟩
      case measure => simp [intOf]; omega
    · go_wp2
      go_ret
      obtain rfl : j = n := by omega
      exact ⟨rfl, hr.congr fun i hi => by simp [hi], hb⟩
set_option maxHeartbeats 400000 in
theorem toBoolS_any (ao : Option Addr) (c n : Nat) (f : Nat → Bool) (Y : Nat → Prop) (w : World) (hn : n ≤ 1048576) (h : BoolsAt Y w ao n f) :
    Calls Try.prog 116 #[.slice ao n c] w fun e w' => e = .returned (.slice (some ⟨w.heap.size, 0, none⟩) n n) ∧ Row w' w.heap.size n (fun t => .bool (f t)) ∧ Blw w w' := by
  obtain ⟨-, h⟩ := h
  have hmk := mkBools n hn
  go_enter Try.func116, Try.ntmps116
  go_wp2
  clear hmk
  go_loopw [4] (fun i wr => ∃ j : Nat, j ≤ n ∧ i = .int .i64 j ∧ Row wr w.heap.size n (fun t => Value.bool (if t < j then f t else false)) ∧ Blw w wr) (fun i _ => n - (intOf i).toNat)
  case atStart => exact ⟨0, Nat.zero_le _, rfl, (Row.made w (.bool false) n 4).congr (fun i _ => by simp), (Blw.refl _).alloc _⟩
  case round =>
    obtain ⟨j, hj, rfl, hr, hb⟩ := hrel
    by_cases hlt : j < n
    · obtain ⟨b, o, rfl, -, g1⟩ := h j hlt
      replace g1 := hb.cell g1
      have g2 : wr.cell? ⟨w.heap.size, j, none⟩ = some (.bool false) := by simpa using hr.cell hlt
      have g3 := hr.frozen j
      have st := fill_step (mk := fun x => Value.bool x) hb hr
      clear h hr
      go_wp2
      go_roundw
      case rel => exact ⟨j + 1, by omega, by go_num, st.1, st.2⟩
      case measure => simp [intOf]; omega
    · go_wp2
      go_ret
      obtain rfl : j = n := by omega
      exact ⟨rfl, hr.congr fun i hi => by simp [hi], hb⟩
theorem three_boxes (w : World) (c : Array Value) (t t1 t2 : TypeId) (a b : Value) :
    Blw w (((w.alloc (.cells c t)).alloc (.cells #[a] t1)).alloc (.cells #[b] t2)) ∧ Row (((w.alloc (.cells c t)).alloc (.cells #[a] t1)).alloc (.cells #[b] t2)) (w.heap.size + 1) 1 (fun _ => a) ∧
    Row (((w.alloc (.cells c t)).alloc (.cells #[a] t1)).alloc (.cells #[b] t2)) (w.heap.size + 1 + 1) 1 (fun _ => b) ∧ (((w.alloc (.cells c t)).alloc (.cells #[a] t1)).alloc (.cells #[b] t2)).heap.size = w.heap.size + 1 + 1 + 1 := by
  have one : ∀ (w : World) (a : Value) (t : TypeId), Row (w.alloc (.cells #[a] t)) w.heap.size 1 (fun _ => a) := fun w a t =>
    ⟨_, t, heap_alloc_new _ _, by simp, fun i hi => by obtain rfl : i = 0 := by omega
                                                       rfl⟩
  refine ⟨(((Blw.refl _).alloc _).alloc _).alloc _, ?_, ?_, by simp⟩
  · have := (one (w.alloc (.cells c t)) a t1).blw ((Blw.refl _).alloc (.cells #[b] t2))
    simpa using this
  · have := one ((w.alloc (.cells c t)).alloc (.cells #[a] t1)) b t2
    simpa using this
set_option maxHeartbeats 400000 in
theorem toLine_any (ao : Option Addr) (c n : Nat) (f : Nat → Int) (Y : Nat → Prop) (w : World) (hn : n ≤ 1048576) (h : IntsAt Y w ao n f) :
    Calls Try.prog 130 #[.agg #[.slice ao n c]] w fun e w' => ∃ b, e = .returned (.agg #[.slice (some ⟨b, 0, none⟩) n n]) ∧ w.heap.size ≤ b ∧ b < w'.heap.size ∧ Row w' b n (fun t => .int .i64 (f t)) ∧ Blw w w' := by
  go_enter Try.func130, Try.ntmps130
  go_wp2_with fail
  obtain ⟨hb0, r1, r2, hz⟩ := three_boxes w #[.slice ao n c] 137 37 37 (.slice none 0 0) (.slice none 0 0)
  revert hb0 r1 r2 hz
  generalize ((w.alloc (.cells #[.slice ao n c] 137)).alloc (.cells #[.slice none 0 0] 37)).alloc (.cells #[.slice none 0 0] 37) = w0
  intro hb0 r1 r2 hz
  refine (toIntS_any _ _ n f Y _ hn (h.blw hb0)).mono ?_
  rintro e w1 ⟨rfl, hr, hb1⟩
  replace r1 := r1.blw hb1
  replace r2 := r2.blw hb1
  have z1 : w0.heap.size < w1.heap.size := hr.lt
  replace hb0 := hb0.trans hb1
  clear hb1
  obtain ⟨b, hB⟩ : ∃ b, b = w0.heap.size := ⟨_, rfl⟩
  rw [← hB] at hr ⊢
  have hb1 : w.heap.size + 1 + 1 < b := by omega
  have hb2 : b < w1.heap.size := by omega
  clear hz hB
  have p1 : w1.cell? ⟨w.heap.size + 1, 0, none⟩ = some (.slice none 0 0) := r1.cell (by omega)
  have p2 : w1.cell? ⟨w.heap.size + 1 + 1, 0, none⟩ = some (.slice none 0 0) := r2.cell (by omega)
  have f1 := r1.frozen 0
  have f2 := r2.frozen 0
  go_wp2
  refine bodyPost_ret (v := .agg #[.slice (some ⟨b, 0, none⟩) n n]) (by simp [results, Try.results130, go_sem, p1]) rfl ⟨b, rfl, by omega, by simpa using hb2, ?_, ?_⟩
  · exact (hr.setOther (by show b ≠ w.heap.size + 1 + 1; omega) _).setOther (by show b ≠ w.heap.size + 1; omega) _
  · exact (hb0.setCell (by show w.heap.size ≤ w.heap.size + 1 + 1; omega) _).setCell (by show w.heap.size ≤ w.heap.size + 1; omega) _

/-- Lines that are being laid out, j of them done. -/
structure Lining (w wr : World) (n : Nat) (len : Nat → Nat) (v : Nat → Nat → Int) (j : Nat) (F : Nat → Nat) : Prop where
  blw : Blw w wr
  top : Row wr w.heap.size n (fun i => if i < j then .slice (some ⟨F i, 0, none⟩) (len i) (len i) else .slice none 0 0)
  row : ∀ i, i < j → w.heap.size < F i ∧ F i < wr.heap.size ∧ Row wr (F i) (len i) (fun t => .int .i64 (v i t))
  inc : ∀ i i', i < i' → i' < j → F i < F i'
theorem lining_step {w wr w1 : World} {n : Nat} {len : Nat → Nat} {v : Nat → Nat → Int} {j b : Nat} {F : Nat → Nat} (L : Lining w wr n len v j F) (hb : Blw wr w1) (h1 : wr.heap.size ≤ b) (h2 : b < w1.heap.size) (hr : Row w1 b (len j) (fun t => .int .i64 (v j t))) (hw : w.heap.size < wr.heap.size) :
    Lining w (w1.setCell ⟨w.heap.size, j, none⟩ (.slice (some ⟨b, 0, none⟩) (len j) (len j))) n len v (j + 1) (fun i => if i < j then F i else b) := by
  have hz : (w1.setCell ⟨w.heap.size, j, none⟩ (.slice (some ⟨b, 0, none⟩) (len j) (len j))).heap.size = w1.heap.size := by simp
  have hs := hb.size
  refine ⟨(L.blw.trans hb).setCell (Nat.le_refl _) _, ((L.top.blw hb).set j _).congr fun i hi => ?_, fun i hi => ?_, fun i i' hi hi' => ?_⟩
  · by_cases e : i = j
    · subst e; simp
    · by_cases e2 : i < j
      · simp [e, e2, Nat.lt_succ_of_lt e2]
      · have e3 : ¬ i < j + 1 := by omega
        simp [e, e2, e3]
  · rw [hz]
    by_cases e : i < j
    · obtain ⟨q1, q2, q3⟩ := L.row i e
      simp only [e, if_true]
      exact ⟨q1, by omega, (q3.blw hb).setOther (by show F i ≠ w.heap.size; omega) _⟩
    · obtain rfl : i = j := by omega
      simp only [e, if_false]
      exact ⟨by omega, h2, hr.setOther (by show b ≠ w.heap.size; omega) _⟩
  · show (if i < j then F i else b) < (if i' < j then F i' else b)
    by_cases e : i' < j
    · rw [if_pos (by omega), if_pos e]; exact L.inc i i' hi e
    · rw [if_pos (by omega), if_neg e]
      have := (L.row i (by omega)).2.1
      omega
theorem lining_done {w wr : World} {n : Nat} {len : Nat → Nat} {v : Nat → Nat → Int} {F : Nat → Nat} (L : Lining w wr n len v n F) (hn : n ≤ 1048576) (hl : ∀ i, i < n → len i ≤ 1048576) : LinesOwn (fun b => w.heap.size ≤ b ∧ b < wr.heap.size) wr (some ⟨w.heap.size, 0, none⟩) n len v := by
  refine ⟨by omega, fun h0 => ⟨w.heap.size, F, len, ⟨Nat.le_refl _, L.top.lt⟩, rfl, L.top.congr fun i hi => by simp [hi], fun i hi => ?_, fun i j hi hj hij => ?_⟩⟩
  · obtain ⟨q1, q2, q3⟩ := L.row i hi
    have := hl i hi
    exact ⟨by omega, ⟨by omega, q2⟩, by omega, q3⟩
  · rcases Nat.lt_or_gt_of_ne hij with h | h
    · have := L.inc i j h hj; omega
    · have := L.inc j i h hi; omega
set_option maxHeartbeats 800000 in
theorem toLineS_any (ao : Option Addr) (c0 n : Nat) (len : Nat → Nat) (v : Nat → Nat → Int) (Y : Nat → Prop) (w : World) (hn : n ≤ 1048576) (hl : ∀ i, i < n → len i ≤ 1048576) (h : LinesAt Y w ao n len v) :
    Calls Try.prog 115 #[.slice ao n c0] w fun e w' => ∃ a, e = .returned (.slice a n n) ∧ LinesOwn (fun b => w.heap.size ≤ b ∧ b < w'.heap.size) w' a n len v ∧ Blw w w' := by
  obtain ⟨-, h⟩ := h
  have hmk := mkLines n hn
  go_enter Try.func115, Try.ntmps115
  go_wp2
  clear hmk
  go_loopw [4] (fun i wr => ∃ (j : Nat) (F : Nat → Nat), j ≤ n ∧ i = .int .i64 j ∧ Lining w wr n len v j F ∧ w.heap.size < wr.heap.size) (fun i _ => n - (intOf i).toNat)
  case atStart => exact ⟨0, fun _ => 0, Nat.zero_le _, rfl, ⟨(Blw.refl _).alloc _, (Row.made w (.slice none 0 0) n 37).congr (fun i _ => by simp), fun i hi => absurd hi (Nat.not_lt_zero _), fun i i' _ hi => absurd hi (Nat.not_lt_zero _)⟩, by simp⟩
  case round =>
    obtain ⟨j, F, hj, rfl, L, hw⟩ := hrel
    by_cases hlt : j < n
    · obtain ⟨b, o, a, c, rfl, -, g1, g2⟩ := h j hlt
      replace g1 := L.blw.cell g1
      replace g2 := g2.blw L.blw
      have hlj := hl j hlt
      have st := fun (w1 : World) (b : Nat) hb h1 h2 hr => lining_step (w1 := w1) (b := b) L hb h1 h2 hr hw
      have ST : Hid (∀ (w1 : World) (b : Nat), Blw wr w1 → wr.heap.size ≤ b → b < w1.heap.size → _ → _) := st
      have t1 : wr.cell? ⟨w.heap.size, j, none⟩ = some (.slice none 0 0) := by simpa using L.top.cell hlt
      have t2 := L.top.frozen j
      have t3 := L.top.lt
      clear h st hl L
      go_wp2_with fail
      refine (toLine_any _ _ _ (v j) Y _ hlj g2).mono ?_
      rintro e w1 ⟨b', rfl, hb1, hb2, hr, hbw⟩
      have L1 := ST.out w1 b' hbw hb1 hb2 hr
      have u1 := hbw.cell t1
      have u2 : w1.frozen? ⟨w.heap.size, j, none⟩ = false := (hbw.frozen t3).trans t2
      have hw1 : w.heap.size < w1.heap.size := by omega
      clear ST g1 g2 t1 t2 hbw hr
      go_wp2
      go_roundw
      case rel => exact ⟨j + 1, _, by omega, by go_num, L1, by simpa using hw1⟩
      case measure => simp [intOf]; omega
    · go_wp2
      go_ret
      obtain rfl : j = n := by omega
      exact ⟨_, rfl, lining_done L hn hl, L.blw⟩
theorem box3 (w : World) (a b c : Value) (t : TypeId) : Row (w.alloc (.cells #[a, b, c] t)) w.heap.size 3 (fun i => if i = 0 then a else if i = 1 then b else c) :=
  ⟨_, t, heap_alloc_new _ _, by simp, fun i hi => by
    match i, hi with
    | 0, _ => rfl
    | 1, _ => rfl
    | 2, _ => rfl⟩
/-- The three blocks that a function over a memory lays first: its argument, its result, a local one. -/
theorem mem_boxes (w : World) (a b c : Value) (t : TypeId) :
    let w0 := ((w.alloc (.cells #[a, b, c] t)).alloc (.cells #[.slice none 0 0, .slice none 0 0, .slice none 0 0] 26)).alloc (.cells #[.slice none 0 0, .slice none 0 0, .slice none 0 0] 26)
    Blw w w0 ∧ Row w0 w.heap.size 3 (fun i => if i = 0 then a else if i = 1 then b else c) ∧ Row w0 (w.heap.size + 1) 3 (fun _ => .slice none 0 0) ∧ Row w0 (w.heap.size + 1 + 1) 3 (fun i => if i = 0 then .slice none 0 0 else if i = 1 then .slice none 0 0 else .slice none 0 0) ∧ w0.heap.size = w.heap.size + 1 + 1 + 1 := by
  intro w0
  refine ⟨(((Blw.refl _).alloc _).alloc _).alloc _, (box3 w a b c t).blw (((Blw.refl _).alloc _).alloc _), ?_, ?_, by simp [w0]⟩
  · have := ((box3 (w.alloc (.cells #[a, b, c] t)) (.slice none 0 0) (.slice none 0 0) (.slice none 0 0) 26).blw ((Blw.refl _).alloc (.cells #[.slice none 0 0, .slice none 0 0, .slice none 0 0] 26)))
    rw [World.size_alloc] at this
    exact this.congr fun i _ => by simp
  · have := box3 ((w.alloc (.cells #[a, b, c] t)).alloc (.cells #[.slice none 0 0, .slice none 0 0, .slice none 0 0] 26)) (.slice none 0 0) (.slice none 0 0) (.slice none 0 0) 26
    rw [World.size_alloc, World.size_alloc] at this
    exact this
theorem set3_0 {w : World} {B : Nat} {a b c : Value} (r : Row w B 3 (fun i => if i = 0 then a else if i = 1 then b else c)) (u : Value) : Row (w.setCell ⟨B, 0, none⟩ u) B 3 (fun i => if i = 0 then u else if i = 1 then b else c) :=
  (r.set 0 u).congr fun i _ => by by_cases e : i = 0 <;> simp [e]
theorem set3_1 {w : World} {B : Nat} {a b c : Value} (r : Row w B 3 (fun i => if i = 0 then a else if i = 1 then b else c)) (u : Value) : Row (w.setCell ⟨B, 1, none⟩ u) B 3 (fun i => if i = 0 then a else if i = 1 then u else c) :=
  (r.set 1 u).congr fun i _ => by by_cases e : i = 1 <;> simp [e]
theorem set3_2 {w : World} {B : Nat} {a b c : Value} (r : Row w B 3 (fun i => if i = 0 then a else if i = 1 then b else c)) (u : Value) : Row (w.setCell ⟨B, 2, none⟩ u) B 3 (fun i => if i = 0 then a else if i = 1 then b else u) :=
  (r.set 2 u).congr fun i hi => by
    match i, hi with
    | 0, _ => rfl
    | 1, _ => rfl
    | 2, _ => rfl
theorem get3 {w : World} {B : Nat} {a b c : Value} (r : Row w B 3 (fun i => if i = 0 then a else if i = 1 then b else c)) : w.cell? ⟨B, 0, none⟩ = some a ∧ w.cell? ⟨B, 1, none⟩ = some b ∧ w.cell? ⟨B, 2, none⟩ = some c :=
  ⟨r.cell (i := 0) (by omega), r.cell (i := 1) (by omega), r.cell (i := 2) (by omega)⟩
structure MD.Small (M : MD) : Prop where
  n1 : M.n1 ≤ 1048576
  n2 : M.n2 ≤ 1048576
  n3 : M.n3 ≤ 1048576
  l1 : ∀ i, i < M.n1 → M.l1 i ≤ 1048576
  l2 : ∀ i, i < M.n2 → M.l2 i ≤ 1048576
  t : M.total ≤ 1048576
theorem pre_part (len : Nat → Nat) {i n : Nat} (h : i < n) : len i ≤ pre len n := by
  have h1 : pre len (i + 1) ≤ pre len n := pre_mono len h
  have h2 : pre len (i + 1) = pre len i + len i := rfl
  omega
theorem small_of {M : MD} (h : M.size ≤ 1048576) : M.Small := by
  unfold MD.size at h
  refine ⟨by omega, by omega, by omega, fun i hi => ?_, fun i hi => ?_, by unfold MD.total; omega⟩
  · have := pre_part M.l1 hi; omega
  · have := pre_part M.l2 hi; omega

set_option maxHeartbeats 1600000 in
theorem toMemory_any (m : MV) (M : MD) (Y : Nat → Prop) (w : World) (hS : M.Small) (h : MemAt Y w m M) :
    Calls Try.prog 66 #[m.val M] w fun e w' => ∃ m' : MV, e = .returned (m'.val M) ∧ MemOwn (fun b => w.heap.size ≤ b ∧ b < w'.heap.size) w' m' M ∧ Blw w w' := by
  obtain ⟨s, c, d⟩ := h
  obtain ⟨S1, S2, S3, S4, S5, -⟩ := hS
  obtain ⟨a1, a2, a3, c1, c2, c3⟩ := m
  obtain ⟨n1, n2, n3, l1, l2, v1, v2, dd⟩ := M
  simp only [MV.val] at *
  go_enter Try.func66, Try.ntmps66
  go_wp2_with fail
  obtain ⟨hb0, r0, r1, r2, hz⟩ := mem_boxes w (.slice a1 n1 c1) (.slice a2 n2 c2) (.slice a3 n3 c3) 77
  revert hb0 r0 r1 r2 hz
  generalize ((w.alloc (.cells #[.slice a1 n1 c1, .slice a2 n2 c2, .slice a3 n3 c3] 77)).alloc (.cells #[.slice none 0 0, .slice none 0 0, .slice none 0 0] 26)).alloc (.cells #[.slice none 0 0, .slice none 0 0, .slice none 0 0] 26) = w0
  intro hb0 r0 r1 r2 hz
  have z0 : w.heap.size + 1 + 1 < w0.heap.size := by omega
  clear hz
  refine (toLineS_any _ _ n1 l1 v1 Y _ S1 S4 (s.blw hb0)).mono ?_
  rintro e w1 ⟨b1, rfl, o1, hb1⟩
  replace r0 := r0.blw hb1
  replace r1 := r1.blw hb1
  replace r2 := r2.blw hb1
  have z1 := hb1.size
  replace hb0 := hb0.trans hb1
  clear hb1
  obtain ⟨p0, p1, p2⟩ := get3 r0
  obtain ⟨q0, q1, q2⟩ := get3 r2
  have f0 := r2.frozen 0
  have hm1 : Mod (fun x => x = w.heap.size + 1 + 1) w1 (w1.setCell ⟨w.heap.size + 1 + 1, 0, none⟩ (.slice b1 n1 n1)) := Mod.setCell (X := fun x => x = w.heap.size + 1 + 1) w1 (p := ⟨w.heap.size + 1 + 1, 0, none⟩) rfl _
  have r2' := set3_0 r2 (.slice b1 n1 n1)
  have r0' := r0.mod hm1 (by omega)
  have r1' := r1.mod hm1 (by omega)
  have o1' := o1.mod hm1 (fun b hb => by have := hb.1; omega)
  have hb1 : Blw w (w1.setCell ⟨w.heap.size + 1 + 1, 0, none⟩ (.slice b1 n1 n1)) := Mod.blw hb0 hm1 (fun i hi => by omega)
  have z2 : w1.heap.size ≤ (w1.setCell ⟨w.heap.size + 1 + 1, 0, none⟩ (.slice b1 n1 n1)).heap.size := hm1.size
  clear r0 r1 r2 hm1 o1 hb0
  go_wp2_with fail
  clear p0 p1 p2 q0 q1 q2 f0
  revert r2' r0' r1' o1' hb1 z2
  generalize w1.setCell ⟨w.heap.size + 1 + 1, 0, none⟩ (.slice b1 n1 n1) = w2
  intro r2 r0 r1 o1 hb0 z2
  refine (toLineS_any _ _ n2 l2 v2 Y _ S2 S5 (c.blw hb0)).mono ?_
  rintro e w3 ⟨b2, rfl, o2, hb1⟩
  replace r0 := r0.blw hb1
  replace r1 := r1.blw hb1
  replace r2 := r2.blw hb1
  replace o1 := o1.blw hb1
  have z3 := hb1.size
  replace hb0 := hb0.trans hb1
  clear hb1
  obtain ⟨p0, p1, p2⟩ := get3 r0
  obtain ⟨q0, q1, q2⟩ := get3 r2
  have f0 := r2.frozen 1
  have hm1 : Mod (fun x => x = w.heap.size + 1 + 1) w3 (w3.setCell ⟨w.heap.size + 1 + 1, 1, none⟩ (.slice b2 n2 n2)) := Mod.setCell (X := fun x => x = w.heap.size + 1 + 1) w3 (p := ⟨w.heap.size + 1 + 1, 1, none⟩) rfl _
  have r2' := set3_1 r2 (.slice b2 n2 n2)
  have r0' := r0.mod hm1 (by omega)
  have r1' := r1.mod hm1 (by omega)
  have o1' := o1.mod hm1 (fun b hb => by have := hb.1; omega)
  have o2' := o2.mod hm1 (fun b hb => by have := hb.1; omega)
  have hb1 : Blw w (w3.setCell ⟨w.heap.size + 1 + 1, 1, none⟩ (.slice b2 n2 n2)) := Mod.blw hb0 hm1 (fun i hi => by omega)
  have z4 : w3.heap.size ≤ (w3.setCell ⟨w.heap.size + 1 + 1, 1, none⟩ (.slice b2 n2 n2)).heap.size := hm1.size
  clear r0 r1 r2 hm1 o1 o2 hb0
  go_wp2_with fail
  clear p0 p1 p2 q0 q1 q2 f0
  revert r2' r0' r1' o1' o2' hb1 z4
  generalize w3.setCell ⟨w.heap.size + 1 + 1, 1, none⟩ (.slice b2 n2 n2) = w4
  intro r2 r0 r1 o1 o2 hb0 z4
  refine (toBoolS_any _ _ n3 dd Y _ S3 (d.blw hb0)).mono ?_
  rintro e w5 ⟨rfl, o3, hb1⟩
  replace r1 := r1.blw hb1
  replace r2 := r2.blw hb1
  replace o1 := o1.blw hb1
  replace o2 := o2.blw hb1
  have z5 : w4.heap.size < w5.heap.size := o3.lt
  replace hb0 := hb0.trans hb1
  clear hb1 r0
  obtain ⟨q0, q1, q2⟩ := get3 r2
  have f0 := r2.frozen 2
  have hm1 : Mod (fun x => x = w.heap.size + 1 + 1) w5 (w5.setCell ⟨w.heap.size + 1 + 1, 2, none⟩ (.slice (some ⟨w4.heap.size, 0, none⟩) n3 n3)) := Mod.setCell (X := fun x => x = w.heap.size + 1 + 1) w5 (p := ⟨w.heap.size + 1 + 1, 2, none⟩) rfl _
  have r1' := r1.mod hm1 (by omega)
  have x0 : w5.cell? ⟨w.heap.size + 1, 0, none⟩ = some (.slice none 0 0) := r1.cell (by omega)
  have x1 : w5.cell? ⟨w.heap.size + 1, 1, none⟩ = some (.slice none 0 0) := r1.cell (by omega)
  have x2 : w5.cell? ⟨w.heap.size + 1, 2, none⟩ = some (.slice none 0 0) := r1.cell (by omega)
  have g0 := r1.frozen 0
  have g1 := r1.frozen 1
  have g2 := r1.frozen 2
  clear r1 r2
  go_wp2
  have hm2 : Mod (fun x => x = w.heap.size + 1 ∨ x = w.heap.size + 1 + 1) w5 ((((w5.setCell ⟨w.heap.size + 1 + 1, 2, none⟩ (.slice (some ⟨w4.heap.size, 0, none⟩) n3 n3)).setCell ⟨w.heap.size + 1, 0, none⟩ (.slice b1 n1 n1)).setCell ⟨w.heap.size + 1, 1, none⟩ (.slice b2 n2 n2)).setCell ⟨w.heap.size + 1, 2, none⟩ (.slice (some ⟨w4.heap.size, 0, none⟩) n3 n3)) :=
    (((hm1.mono (fun x hx => Or.inr hx)).trans (Mod.setCell (X := fun x => x = w.heap.size + 1 ∨ x = w.heap.size + 1 + 1) _ (p := ⟨w.heap.size + 1, 0, none⟩) (Or.inl rfl) _)).trans (Mod.setCell (X := fun x => x = w.heap.size + 1 ∨ x = w.heap.size + 1 + 1) _ (p := ⟨w.heap.size + 1, 1, none⟩) (Or.inl rfl) _)).trans (Mod.setCell (X := fun x => x = w.heap.size + 1 ∨ x = w.heap.size + 1 + 1) _ (p := ⟨w.heap.size + 1, 2, none⟩) (Or.inl rfl) _)
  refine bodyPost_ret (v := .agg #[.slice b1 n1 n1, .slice b2 n2 n2, .slice (some ⟨w4.heap.size, 0, none⟩) n3 n3]) (by simp [results, Try.results66, go_sem, x0, x1, x2]) rfl ⟨⟨b1, b2, some ⟨w4.heap.size, 0, none⟩, n1, n2, n3⟩, rfl, ?_, Mod.blw hb0 hm2 (fun i hi => by omega)⟩
  refine ⟨_, _, fun b => b = w4.heap.size, fun b hb => ⟨⟨?_, ?_⟩, fun hh => ?_, fun hh => ?_⟩, fun b hb => ⟨⟨?_, ?_⟩, fun hh => ?_⟩, fun b hb => ⟨?_, ?_⟩, o1.mod hm2 (fun b hb hh => ?_), o2.mod hm2 (fun b hb hh => ?_), ⟨by show n3 ≤ _; omega, fun _ => ⟨w4.heap.size, rfl, rfl, o3.mod hm2 (fun hh => ?_)⟩⟩⟩
  all_goals first | (have h9 := hb.1; have h8 := hb.2; simp <;> omega) | (have h9 := hb.1; have h8 := hb.2; omega) | (have h9 := hb.1; have h8 := hb.2; have h7 := hh.1; have h6 := hh.2; omega) | omega | (simp; omega)
end Go.Proofs.Ytnbcjdoohmjghaa
/- The cursor that draws. -/
namespace Go.Proofs.Ytnbcjdoohmjghaa
open Go.RowKit
set_option linter.unusedSimpArgs false
set_option linter.unusedVariables false
/-- A cursor at block C that has read at most k times, its bytes in blocks of Y. -/
def Cur (Y : Nat → Prop) (w : World) (C k : Nat) : Prop :=
  ∃ (ao : Option Addr) (n c at_ : Nat) (f : Nat → Int) (s : Int), Row w C 3 (fun i => if i = 0 then Value.slice ao n c else if i = 1 then .int .i64 at_ else .int .u64 s) ∧ BytesAt Y w ao n f ∧ at_ ≤ k ∧ (∀ b, Y b → b ≠ C)
theorem low8 (n : Int) : ∃ x : Nat, x ≤ 255 ∧ wrap64 (bits .and .u64 (IntKind.u64.wrap n / 1099511627776) 255) = x := by
  have h : IntKind.u64.wrap n = n % 18446744073709551616 := by simp [IntKind.wrap, IntKind.bits, IntKind.signed]
  rw [h, u64_and _ _ (by omega) (by omega) (by omega) (by omega)]
  have hle : (n % 18446744073709551616 / 1099511627776).toNat &&& (255 : Int).toNat ≤ 255 := Nat.and_le_right
  refine ⟨_, hle, ?_⟩
  unfold wrap64
  omega
/-- A read: the cursor goes on. -/
theorem cur_step {Y : Nat → Prop} {w : World} {C k n c at_ : Nat} {ao : Option Addr} {f : Nat → Int} {s : Int} (r : Row w C 3 (fun i => if i = 0 then Value.slice ao n c else if i = 1 then .int .i64 at_ else .int .u64 s)) (hB : BytesAt Y w ao n f) (hat : at_ ≤ k) (hY : ∀ b, Y b → b ≠ C) (a b : Nat) (s' : Int) :
    Cur Y ((((w.drewN a).setCell ⟨C, 1, none⟩ (.int .i64 ((at_ : Int) + 1))).setCell ⟨C, 2, none⟩ (.int .u64 s')).drewN b) C (k + 1) ∧ Mod (fun b => b = C) w ((((w.drewN a).setCell ⟨C, 1, none⟩ (.int .i64 ((at_ : Int) + 1))).setCell ⟨C, 2, none⟩ (.int .u64 s')).drewN b) := by
  have m1 : Mod (fun b => b = C) w (w.drewN a) := ((Blw.refl w).drewN a).mod _
  have m2 := (m1.trans (Mod.setCell (X := fun b => b = C) _ (p := ⟨C, 1, none⟩) rfl (.int .i64 ((at_ : Int) + 1)))).trans (Mod.setCell (X := fun b => b = C) _ (p := ⟨C, 2, none⟩) rfl (.int .u64 s'))
  have m3 := m2.trans (((Blw.refl _).drewN b).mod (fun b => b = C))
  refine ⟨⟨ao, n, c, at_ + 1, f, s', ?_, hB.mod m3 (fun x hx => hY x hx), by omega, hY⟩, m3⟩
  refine ((((r.blw ((Blw.refl w).drewN a)).set 1 _).set 2 _).blw ((Blw.refl _).drewN b)).congr (fun i hi => ?_)
  match i, hi with
  | 0, _ => rfl
  | 1, _ => simp
  | 2, _ => rfl
set_option maxRecDepth 10000 in
set_option maxHeartbeats 1600000 in
theorem next_any (Y : Nat → Prop) (C k : Nat) (w : World) (hk : k ≤ 1000000) (h : Cur Y w C k) :
    Calls Try.prog 128 #[.pointer (some ⟨C, 0, none⟩)] w fun e w' => ∃ x : Nat, e = .returned (.int .i64 x) ∧ x ≤ 255 ∧ Cur Y w' C (k + 1) ∧ Mod (fun b => b = C) w w' := by
  obtain ⟨ao, n, c, at_, f, s, r, hB, hat, hY⟩ := h
  have hn := hB.1
  have HB : Hid (BytesAt Y w ao n f) := hB
  obtain ⟨p0, p1, p2⟩ := get3 r
  have f0 := r.frozen 0
  have f1 := r.frozen 1
  have f2 := r.frozen 2
  have HN : Hid _ := fun a b s' => cur_step r hB hat hY a b s'
  clear hB r
  go_enter Try.func128, Try.ntmps128
  by_cases hlt : at_ < n
  · have hlt' : (at_ : Int) < n := by omega
    have d1 : decide ((at_ : Int) < n) = true := by simp; omega
    obtain ⟨b, o, rfl, -, q, x0, x1⟩ := HB.out.2 at_ hlt
    go_wp2_with fail
    go_quiet (fail)
    go_wp2_with fail
    go_quiet (fail)
    have d2 : decide ((at_ : Int) + 1 ≤ n) = true := by simp; omega
    go_wp2_with fail
    go_quiet (fail)
    go_wp2
    go_ret
    obtain ⟨x, hx⟩ := Int.eq_ofNat_of_zero_le x0
    exact ⟨x, by rw [← hx]; rfl, by omega, HN.out _ _ _⟩
  · have d1 : decide ((at_ : Int) < n) = false := by simp; omega
    have d2 : decide ((at_ : Int) + 1 ≤ n) = false := by simp; omega
    go_wp2_with fail
    go_quiet (fail)
    go_wp2_with fail
    go_quiet (fail)
    go_wp2
    go_ret
    obtain ⟨x, hx, e⟩ := low8 (IntKind.u64.wrap (IntKind.u64.wrap (s * 6364136223846793005)) + 1442695040888963407)
    exact ⟨x, by rw [← e]; rfl, hx, HN.out _ _ _⟩
theorem Cur.le {Y : Nat → Prop} {w : World} {C k k' : Nat} (h : Cur Y w C k) (hk : k ≤ k') : Cur Y w C k' := by
  obtain ⟨ao, n, c, at_, f, s, r, hB, hat, hY⟩ := h
  exact ⟨ao, n, c, at_, f, s, r, hB, by omega, hY⟩
theorem Cur.blw {Y : Nat → Prop} {w w' : World} {C k : Nat} (h : Cur Y w C k) (hb : Blw w w') : Cur Y w' C k := by
  obtain ⟨ao, n, c, at_, f, s, r, hB, hat, hY⟩ := h
  exact ⟨ao, n, c, at_, f, s, r.blw hb, hB.blw hb, hat, hY⟩
theorem Cur.mod {X Y : Nat → Prop} {w w' : World} {C k : Nat} (h : Cur Y w C k) (hb : Mod X w w') (hC : ¬ X C) (hx : ∀ b, Y b → ¬ X b) : Cur Y w' C k := by
  obtain ⟨ao, n, c, at_, f, s, r, hB, hat, hY⟩ := h
  exact ⟨ao, n, c, at_, f, s, r.mod hb hC, hB.mod hb hx, hat, hY⟩
theorem Cur.lt {Y : Nat → Prop} {w : World} {C k : Nat} (h : Cur Y w C k) : C < w.heap.size := by
  obtain ⟨ao, n, c, at_, f, s, r, _⟩ := h
  exact r.lt
set_option maxHeartbeats 1600000 in
theorem pick_any (Y : Nat → Prop) (C k : Nat) (N : Int) (w : World) (hk : k ≤ 900000) (hN : 1 < N) (h : Cur Y w C k) :
    Calls Try.prog 89 #[.pointer (some ⟨C, 0, none⟩), .int .i64 N] w fun e w' => ∃ x : Nat, e = .returned (.int .i64 x) ∧ (x : Int) < N ∧ Cur Y w' C (k + 2) ∧ Mod (fun b => b = C) w w' := by
  have d1 : decide (N ≤ 1) = false := by simp; omega
  have hN0 : ¬ N = 0 := by omega
  have hm : ∀ x : Nat, ∃ y : Nat, (x : Int).tmod N = y ∧ (y : Int) < N := fun x => by
    rw [Int.tmod_eq_emod_of_nonneg (by omega)]
    obtain ⟨y, hy⟩ := Int.eq_ofNat_of_zero_le (Int.emod_nonneg x hN0)
    exact ⟨y, hy, by rw [← hy]; exact Int.emod_lt_of_pos _ (by omega)⟩
  have HM : Hid _ := hm
  clear hm
  go_enter Try.func89, Try.ntmps89
  go_wp2_with fail
  refine (next_any Y C k _ (by omega) h).mono ?_
  rintro e w1 ⟨x, rfl, hx, c1, m1⟩
  by_cases hg : N > 200
  · have d2 : decide (N > 200) = true := by simp; omega
    go_wp2_with fail
    refine (next_any Y C (k + 1) _ (by omega) c1).mono ?_
    rintro e w2 ⟨x2, rfl, hx2, c2, m2⟩
    obtain ⟨y, e1, e2⟩ := HM.out (x * 256 + x2)
    have e1' : ((x : Int) * 256 + x2).tmod N = y := by rw [← e1]; congr 1
    clear h c1
    go_wp2
    go_ret
    exact ⟨y, rfl, e2, c2, m1.trans m2⟩
  · have d2 : decide (N > 200) = false := by simp; omega
    obtain ⟨y, e1, e2⟩ := HM.out x
    clear h
    go_wp2
    go_ret
    exact ⟨y, rfl, e2, c1.le (by omega), m1⟩
set_option maxHeartbeats 1600000 in
theorem one_any (Y : Nat → Prop) (C k : Nat) (N : Int) (w : World) (hk : k ≤ 900000) (hN : 1 < N) (h : Cur Y w C k) :
    Calls Try.prog 123 #[.pointer (some ⟨C, 0, none⟩), .int .i64 N] w fun e w' => ∃ b : Bool, e = .returned (.bool b) ∧ Cur Y w' C (k + 2) ∧ Mod (fun b => b = C) w w' := by
  go_enter Try.func123, Try.ntmps123
  go_wp2_with fail
  refine (pick_any Y C k N _ hk hN h).mono ?_
  rintro e w1 ⟨x, rfl, hx, c1, m1⟩
  clear h hx
  by_cases h0 : (x : Int) = 0
  · have d : ((x : Int) == 0) = true := by simp [h0]
    clear h0
    go_wp2
    go_ret
    exact ⟨true, rfl, c1, m1⟩
  · have d : ((x : Int) == 0) = false := by simp; omega
    clear h0
    go_wp2
    go_ret
    exact ⟨false, rfl, c1, m1⟩
set_option maxHeartbeats 1600000 in
theorem among_any (Y Y2 : Nat → Prop) (C k : Nat) (ao : Option Addr) (n c : Nat) (f : Nat → Int) (w : World) (hk : k ≤ 900000) (hn : 1 < n) (hI : IntsAt Y2 w ao n f) (hY2 : ∀ b, Y2 b → b ≠ C) (h : Cur Y w C k) :
    Calls Try.prog 93 #[.pointer (some ⟨C, 0, none⟩), .slice ao n c] w fun e w' => ∃ x : Int, e = .returned (.int .i64 x) ∧ Cur Y w' C (k + 2) ∧ Mod (fun b => b = C) w w' := by
  have HI : Hid (IntsAt Y2 w ao n f) := hI
  clear hI
  go_enter Try.func93, Try.ntmps93
  go_wp2_with fail
  refine (pick_any Y C k n _ hk (by omega) h).mono ?_
  rintro e w1 ⟨x, rfl, hx, c1, m1⟩
  obtain ⟨b, o, rfl, -, q⟩ := (HI.out.mod m1 (fun b hb => hY2 b hb)).2 x (by omega)
  clear h
  go_wp2
  go_ret
  exact ⟨f x, rfl, c1, m1⟩
end Go.Proofs.Ytnbcjdoohmjghaa
