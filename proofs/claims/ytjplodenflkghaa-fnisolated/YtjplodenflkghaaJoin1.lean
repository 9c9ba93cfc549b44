/- Merged by program, in this order: Base, Ints, Book, Undo, Tab, TabL, LawF, LawB, Rec, Short, WkL. -/
import Derived.Test.YtjplodenflkghaaRows
import Derived.WalkKit
import Derived.WalkSpells
import Derived.WalkLawsBesides
import Derived.OpenShut
import Derived.Deep.LoopGhost
import Derived.Deep.OwnRows
import Derived.Deep.QuietTactic
import Derived.BigQuiet
import Derived.Deep.RegionWith
import Derived.Deep.Cut
import Derived.Laws.CopyOwn
import Derived.Deep.CutRange
import Derived.Deep.RegionHeld3
/- Base: what is said of worlds: what slices of numbers, of bools and of lines read as, what is owned, what has turned. -/
namespace Go.Proofs.Ytjplodenflkghaa
open Go.RowKit

/-- Nothing that was there has turned. -/
def Blw (w w' : World) : Prop := Below w.heap.size w w'
theorem Blw.refl (w : World) : Blw w w := Below.refl _ _
theorem Blw.size {w w' : World} (h : Blw w w') : w.heap.size ≤ w'.heap.size := Below.size h
theorem Blw.trans {a b c : World} (h : Blw a b) (k : Blw b c) : Blw a c := Below.trans h (Below.mono k h.size)
theorem Blw.drew {a b : World} (h : Blw a b) : Blw a b.drew := Below.drew h
theorem Blw.drewN {a b : World} (h : Blw a b) (n : Nat) : Blw a (b.drewN n) := ⟨h.os, h.tape, h.output, by simpa using h.size, by simpa using h.block⟩
theorem Blw.alloc {a b : World} (h : Blw a b) (o : Obj) : Blw a (b.alloc o) := Below.alloc h h.size o
theorem Blw.setCell {a b : World} (h : Blw a b) {p : Addr} (hp : a.heap.size ≤ p.block) (u : Value) : Blw a (b.setCell p u) := Below.setCell h hp u
theorem Blw.cell {w w' : World} (h : Blw w w') {p : Addr} {v : Value} (hp : w.cell? p = some v) : w'.cell? p = some v := by
  rw [Below.cell h (World.block_lt_of_cell? _ _ hp)]; exact hp
theorem Blw.frozen {w w' : World} (h : Blw w w') {p : Addr} (hp : p.block < w.heap.size) : w'.frozen? p = w.frozen? p := Below.frozen h hp

/-- Of what was there only blocks in X have turned. -/
structure Mod (X : Nat → Prop) (w w' : World) : Prop where
  os : w'.os = w.os
  tape : w'.tape = w.tape
  output : w'.output = w.output
  size : w.heap.size ≤ w'.heap.size
  block : ∀ k, k < w.heap.size → ¬ X k → w'.heap[k]? = w.heap[k]?
theorem Mod.refl (X : Nat → Prop) (w : World) : Mod X w w := ⟨rfl, rfl, rfl, Nat.le_refl _, fun _ _ _ => rfl⟩
theorem Mod.trans {X : Nat → Prop} {a b c : World} (h : Mod X a b) (k : Mod X b c) : Mod X a c :=
  ⟨k.os.trans h.os, k.tape.trans h.tape, k.output.trans h.output, Nat.le_trans h.size k.size, fun i hi hx => (k.block i (Nat.lt_of_lt_of_le hi h.size) hx).trans (h.block i hi hx)⟩
theorem Mod.mono {X Y : Nat → Prop} {a b : World} (h : Mod X a b) (hxy : ∀ k, X k → Y k) : Mod Y a b := ⟨h.os, h.tape, h.output, h.size, fun i hi hx => h.block i hi (fun hh => hx (hxy i hh))⟩
theorem Blw.mod {w w' : World} (h : Blw w w') (X : Nat → Prop) : Mod X w w' := ⟨h.os, h.tape, h.output, h.size, fun i hi _ => h.block i hi⟩
theorem Mod.blw {a b c : World} {X : Nat → Prop} (h : Blw a b) (k : Mod X b c) (hx : ∀ i, X i → a.heap.size ≤ i) : Blw a c :=
  ⟨k.os.trans h.os, k.tape.trans h.tape, k.output.trans h.output, Nat.le_trans h.size k.size, fun i hi => (k.block i (Nat.lt_of_lt_of_le hi h.size) (fun hh => by have := hx i hh; omega)).trans (h.block i hi)⟩
theorem Mod.setCell {X : Nat → Prop} (w : World) {p : Addr} (hp : X p.block) (u : Value) : Mod X w (w.setCell p u) :=
  ⟨rfl, rfl, rfl, by simp [World.setCell], fun k _ hk => Below.heap_setCell _ _ _ _ (fun e => hk (e ▸ hp))⟩
theorem Mod.cell {X : Nat → Prop} {w w' : World} (h : Mod X w w') {p : Addr} {v : Value} (hp : w.cell? p = some v) (hx : ¬ X p.block) : w'.cell? p = some v := by
  rw [World.cell?_of_block (w := w) (h.block p.block (World.block_lt_of_cell? _ _ hp) hx)]; exact hp

/-- Block b is a row of cells, none frozen, of which the first n hold f. -/
def Row (w : World) (b n : Nat) (f : Nat → Value) : Prop := ∃ (c : Array Value) (t : TypeId), w.heap[b]? = some (.cells c t (0, 0)) ∧ n ≤ c.size ∧ ∀ i, i < n → c[i]? = some (f i)
theorem Row.cell {w : World} {b n : Nat} {f : Nat → Value} (h : Row w b n f) {i : Nat} (hi : i < n) : w.cell? ⟨b, i, none⟩ = some (f i) := by
  obtain ⟨c, t, hb, _, hc⟩ := h
  simp [World.cell?, hb, hc i hi]
theorem Row.frozen {w : World} {b n : Nat} {f : Nat → Value} (h : Row w b n f) (i : Nat) : w.frozen? ⟨b, i, none⟩ = false := by
  obtain ⟨c, t, hb, _⟩ := h
  simp [World.frozen?, hb]
theorem Row.lt {w : World} {b n : Nat} {f : Nat → Value} (h : Row w b n f) : b < w.heap.size := by
  obtain ⟨c, t, hb, _⟩ := h
  obtain ⟨hlt, _⟩ := Array.getElem?_eq_some_iff.1 hb
  exact hlt
theorem Row.congr {w : World} {b n : Nat} {f g : Nat → Value} (h : Row w b n f) (e : ∀ i, i < n → f i = g i) : Row w b n g := by
  obtain ⟨c, t, hb, hn, hc⟩ := h
  exact ⟨c, t, hb, hn, fun i hi => by rw [hc i hi, e i hi]⟩
theorem Row.of_block {w w' : World} {b n : Nat} {f : Nat → Value} (h : Row w b n f) (e : w'.heap[b]? = w.heap[b]?) : Row w' b n f := by
  obtain ⟨c, t, hb, hn, hc⟩ := h
  exact ⟨c, t, e.trans hb, hn, hc⟩
theorem Row.blw {w w' : World} {b n : Nat} {f : Nat → Value} (h : Row w b n f) (hb : Blw w w') : Row w' b n f := h.of_block (hb.block _ h.lt)
theorem Row.mod {X : Nat → Prop} {w w' : World} {b n : Nat} {f : Nat → Value} (h : Row w b n f) (hb : Mod X w w') (hx : ¬ X b) : Row w' b n f := h.of_block (hb.block _ h.lt hx)
theorem Row.set {w : World} {b n : Nat} {f : Nat → Value} (h : Row w b n f) (i : Nat) (v : Value) : Row (w.setCell ⟨b, i, none⟩ v) b n (fun j => if j = i then v else f j) := by
  obtain ⟨c, t, hb, hn, hc⟩ := h
  refine ⟨c.setIfInBounds i v, t, ?_, by simpa using hn, fun j hj => ?_⟩
  · simp [World.setCell, Array.getElem?_modify, hb]
  · rw [Array.getElem?_setIfInBounds]
    by_cases e : j = i
    · subst e
      simp [Nat.lt_of_lt_of_le hj hn]
    · rw [if_neg (fun h => e h.symm)]
      show c[j]? = some (if j = i then v else f j)
      rw [if_neg e]
      exact hc j hj
theorem Row.setOther {w : World} {b n : Nat} {f : Nat → Value} (h : Row w b n f) {a : Addr} (ha : b ≠ a.block) (v : Value) : Row (w.setCell a v) b n f := h.of_block (Below.heap_setCell _ _ _ _ ha)
theorem Row.made (w : World) (z : Value) (n : Nat) (t : TypeId) : Row (w.alloc (.cells (madeCells #[z] n) t)) w.heap.size n (fun _ => z) := by
  obtain ⟨c, h1, h2, h3⟩ := World.rowIs_made w z n t
  exact ⟨c, t, h1, by omega, h3⟩

/-- The slice at 'ao' reads as the n numbers f, all in blocks of Y. -/
def IntsAt (Y : Nat → Prop) (w : World) (ao : Option Addr) (n : Nat) (f : Nat → Int) : Prop :=
  n ≤ 9223372036854775807 ∧ ∀ i, i < n → ∃ b o, ao = some ⟨b, o, none⟩ ∧ Y b ∧ w.cell? ⟨b, o + i, none⟩ = some (.int .i64 (f i))
def BoolsAt (Y : Nat → Prop) (w : World) (ao : Option Addr) (n : Nat) (f : Nat → Bool) : Prop :=
  n ≤ 9223372036854775807 ∧ ∀ i, i < n → ∃ b o, ao = some ⟨b, o, none⟩ ∧ Y b ∧ w.cell? ⟨b, o + i, none⟩ = some (.bool (f i))
def LinesAt (Y : Nat → Prop) (w : World) (ao : Option Addr) (n : Nat) (len : Nat → Nat) (v : Nat → Nat → Int) : Prop :=
  n ≤ 9223372036854775807 ∧ ∀ i, i < n → ∃ b o a c, ao = some ⟨b, o, none⟩ ∧ Y b ∧ w.cell? ⟨b, o + i, none⟩ = some (.slice a (len i) c) ∧ IntsAt Y w a (len i) (v i)
/-- What a memory holds: how many lines, how long each, its words; likewise the cache; the marks. -/
structure MD where
  n1 : Nat
  n2 : Nat
  n3 : Nat
  l1 : Nat → Nat
  l2 : Nat → Nat
  v1 : Nat → Nat → Int
  v2 : Nat → Nat → Int
  d : Nat → Bool
/-- The value of a memory: three slices. -/
structure MV where
  a1 : Option Addr
  a2 : Option Addr
  a3 : Option Addr
  c1 : Nat
  c2 : Nat
  c3 : Nat
abbrev MV.val (m : MV) (M : MD) : Value := .agg #[.slice m.a1 M.n1 m.c1, .slice m.a2 M.n2 m.c2, .slice m.a3 M.n3 m.c3]
structure MemAt (Y : Nat → Prop) (w : World) (m : MV) (M : MD) : Prop where
  s : LinesAt Y w m.a1 M.n1 M.l1 M.v1
  c : LinesAt Y w m.a2 M.n2 M.l2 M.v2
  d : BoolsAt Y w m.a3 M.n3 M.d

theorem IntsAt.blw {Y : Nat → Prop} {w w' : World} {ao : Option Addr} {n : Nat} {f : Nat → Int} (h : IntsAt Y w ao n f) (hb : Blw w w') : IntsAt Y w' ao n f := by
  refine ⟨h.1, fun i hi => ?_⟩
  obtain ⟨b, o, h1, hY, h2⟩ := h.2 i hi
  exact ⟨b, o, h1, hY, hb.cell h2⟩
theorem BoolsAt.blw {Y : Nat → Prop} {w w' : World} {ao : Option Addr} {n : Nat} {f : Nat → Bool} (h : BoolsAt Y w ao n f) (hb : Blw w w') : BoolsAt Y w' ao n f := by
  refine ⟨h.1, fun i hi => ?_⟩
  obtain ⟨b, o, h1, hY, h2⟩ := h.2 i hi
  exact ⟨b, o, h1, hY, hb.cell h2⟩
theorem LinesAt.blw {Y : Nat → Prop} {w w' : World} {ao : Option Addr} {n : Nat} {len : Nat → Nat} {v : Nat → Nat → Int} (h : LinesAt Y w ao n len v) (hb : Blw w w') : LinesAt Y w' ao n len v := by
  refine ⟨h.1, fun i hi => ?_⟩
  obtain ⟨b, o, a, c, h1, hY, h2, h3⟩ := h.2 i hi
  exact ⟨b, o, a, c, h1, hY, hb.cell h2, h3.blw hb⟩
theorem MemAt.blw {Y : Nat → Prop} {w w' : World} {m : MV} {M : MD} (h : MemAt Y w m M) (hb : Blw w w') : MemAt Y w' m M :=
  ⟨h.s.blw hb, h.c.blw hb, h.d.blw hb⟩
theorem IntsAt.mod {X Y : Nat → Prop} {w w' : World} {ao : Option Addr} {n : Nat} {f : Nat → Int} (h : IntsAt Y w ao n f) (hb : Mod X w w') (hxy : ∀ k, Y k → ¬ X k) : IntsAt Y w' ao n f := by
  refine ⟨h.1, fun i hi => ?_⟩
  obtain ⟨b, o, h1, hY, h2⟩ := h.2 i hi
  exact ⟨b, o, h1, hY, hb.cell h2 (hxy _ hY)⟩
theorem BoolsAt.mod {X Y : Nat → Prop} {w w' : World} {ao : Option Addr} {n : Nat} {f : Nat → Bool} (h : BoolsAt Y w ao n f) (hb : Mod X w w') (hxy : ∀ k, Y k → ¬ X k) : BoolsAt Y w' ao n f := by
  refine ⟨h.1, fun i hi => ?_⟩
  obtain ⟨b, o, h1, hY, h2⟩ := h.2 i hi
  exact ⟨b, o, h1, hY, hb.cell h2 (hxy _ hY)⟩
theorem LinesAt.mod {X Y : Nat → Prop} {w w' : World} {ao : Option Addr} {n : Nat} {len : Nat → Nat} {v : Nat → Nat → Int} (h : LinesAt Y w ao n len v) (hb : Mod X w w') (hxy : ∀ k, Y k → ¬ X k) : LinesAt Y w' ao n len v := by
  refine ⟨h.1, fun i hi => ?_⟩
  obtain ⟨b, o, a, c, h1, hY, h2, h3⟩ := h.2 i hi
  exact ⟨b, o, a, c, h1, hY, hb.cell h2 (hxy _ hY), h3.mod hb hxy⟩
theorem MemAt.mod {X Y : Nat → Prop} {w w' : World} {m : MV} {M : MD} (h : MemAt Y w m M) (hb : Mod X w w') (hxy : ∀ k, Y k → ¬ X k) : MemAt Y w' m M :=
  ⟨h.s.mod hb hxy, h.c.mod hb hxy, h.d.mod hb hxy⟩
theorem IntsAt.congr {Y : Nat → Prop} {w : World} {ao : Option Addr} {n : Nat} {f g : Nat → Int} (h : IntsAt Y w ao n f) (e : ∀ i, i < n → f i = g i) : IntsAt Y w ao n g := by
  refine ⟨h.1, fun i hi => ?_⟩
  obtain ⟨b, o, h1, hY, h2⟩ := h.2 i hi
  exact ⟨b, o, h1, hY, by rw [← e i hi]; exact h2⟩
theorem BoolsAt.congr {Y : Nat → Prop} {w : World} {ao : Option Addr} {n : Nat} {f g : Nat → Bool} (h : BoolsAt Y w ao n f) (e : ∀ i, i < n → f i = g i) : BoolsAt Y w ao n g := by
  refine ⟨h.1, fun i hi => ?_⟩
  obtain ⟨b, o, h1, hY, h2⟩ := h.2 i hi
  exact ⟨b, o, h1, hY, by rw [← e i hi]; exact h2⟩
theorem LinesAt.congr {Y : Nat → Prop} {w : World} {ao : Option Addr} {n : Nat} {len len' : Nat → Nat} {v v' : Nat → Nat → Int} (h : LinesAt Y w ao n len v) (e : ∀ i, i < n → len i = len' i) (e' : ∀ i, i < n → ∀ j, j < len i → v i j = v' i j) : LinesAt Y w ao n len' v' := by
  refine ⟨h.1, fun i hi => ?_⟩
  obtain ⟨b, o, a, c, h1, hY, h2, h3⟩ := h.2 i hi
  refine ⟨b, o, a, c, h1, hY, by rw [← e i hi]; exact h2, ?_⟩
  rw [← e i hi]
  exact h3.congr (e' i hi)

/-! ### What is owned: it may be written -/
def IntsOwn (X : Nat → Prop) (w : World) (ao : Option Addr) (n : Nat) (f : Nat → Int) : Prop :=
  n ≤ 9223372036854775807 ∧ (0 < n → ∃ b, X b ∧ ao = some ⟨b, 0, none⟩ ∧ Row w b n (fun i => .int .i64 (f i)))
def BoolsOwn (X : Nat → Prop) (w : World) (ao : Option Addr) (n : Nat) (f : Nat → Bool) : Prop :=
  n ≤ 9223372036854775807 ∧ (0 < n → ∃ b, X b ∧ ao = some ⟨b, 0, none⟩ ∧ Row w b n (fun i => .bool (f i)))
def LinesOwn (X : Nat → Prop) (w : World) (ao : Option Addr) (n : Nat) (len : Nat → Nat) (v : Nat → Nat → Int) : Prop :=
  n ≤ 9223372036854775807 ∧ (0 < n → ∃ (b : Nat) (F c : Nat → Nat), X b ∧ ao = some ⟨b, 0, none⟩ ∧ Row w b n (fun i => .slice (some ⟨F i, 0, none⟩) (len i) (c i)) ∧
    (∀ i, i < n → len i ≤ 9223372036854775807 ∧ X (F i) ∧ F i ≠ b ∧ Row w (F i) (len i) (fun t => .int .i64 (v i t))) ∧ ∀ i j, i < n → j < n → i ≠ j → F i ≠ F j)
structure MemOwn (X : Nat → Prop) (w : World) (m : MV) (M : MD) : Prop where
  ex : ∃ X1 X2 X3 : Nat → Prop, (∀ b, X1 b → X b ∧ ¬ X2 b ∧ ¬ X3 b) ∧ (∀ b, X2 b → X b ∧ ¬ X3 b) ∧ (∀ b, X3 b → X b) ∧ LinesOwn X1 w m.a1 M.n1 M.l1 M.v1 ∧ LinesOwn X2 w m.a2 M.n2 M.l2 M.v2 ∧ BoolsOwn X3 w m.a3 M.n3 M.d

theorem IntsOwn.at {X : Nat → Prop} {w : World} {ao : Option Addr} {n : Nat} {f : Nat → Int} (h : IntsOwn X w ao n f) : IntsAt X w ao n f := by
  refine ⟨h.1, fun i hi => ?_⟩
  obtain ⟨b, hx, e, hr⟩ := h.2 (by omega)
  exact ⟨b, 0, e, hx, by rw [Nat.zero_add]; exact hr.cell hi⟩
theorem BoolsOwn.at {X : Nat → Prop} {w : World} {ao : Option Addr} {n : Nat} {f : Nat → Bool} (h : BoolsOwn X w ao n f) : BoolsAt X w ao n f := by
  refine ⟨h.1, fun i hi => ?_⟩
  obtain ⟨b, hx, e, hr⟩ := h.2 (by omega)
  exact ⟨b, 0, e, hx, by rw [Nat.zero_add]; exact hr.cell hi⟩
theorem LinesOwn.at {X : Nat → Prop} {w : World} {ao : Option Addr} {n : Nat} {len : Nat → Nat} {v : Nat → Nat → Int} (h : LinesOwn X w ao n len v) : LinesAt X w ao n len v := by
  refine ⟨h.1, fun i hi => ?_⟩
  obtain ⟨b, F, c, hx, e, hr, hl, _⟩ := h.2 (by omega)
  obtain ⟨g1, g2, g3, g4⟩ := hl i hi
  exact ⟨b, 0, some ⟨F i, 0, none⟩, c i, e, hx, by rw [Nat.zero_add]; exact hr.cell hi, g1, fun j hj => ⟨F i, 0, rfl, g2, by rw [Nat.zero_add]; exact g4.cell hj⟩⟩
theorem IntsAt.mono {X Y : Nat → Prop} {w : World} {ao : Option Addr} {n : Nat} {f : Nat → Int} (h : IntsAt X w ao n f) (hxy : ∀ b, X b → Y b) : IntsAt Y w ao n f :=
  ⟨h.1, fun i hi => let ⟨b, o, h1, hY, h2⟩ := h.2 i hi; ⟨b, o, h1, hxy _ hY, h2⟩⟩
theorem BoolsAt.mono {X Y : Nat → Prop} {w : World} {ao : Option Addr} {n : Nat} {f : Nat → Bool} (h : BoolsAt X w ao n f) (hxy : ∀ b, X b → Y b) : BoolsAt Y w ao n f :=
  ⟨h.1, fun i hi => let ⟨b, o, h1, hY, h2⟩ := h.2 i hi; ⟨b, o, h1, hxy _ hY, h2⟩⟩
theorem LinesAt.mono {X Y : Nat → Prop} {w : World} {ao : Option Addr} {n : Nat} {len : Nat → Nat} {v : Nat → Nat → Int} (h : LinesAt X w ao n len v) (hxy : ∀ b, X b → Y b) : LinesAt Y w ao n len v :=
  ⟨h.1, fun i hi => let ⟨b, o, a, c, h1, hY, h2, h3⟩ := h.2 i hi; ⟨b, o, a, c, h1, hxy _ hY, h2, h3.mono hxy⟩⟩
theorem MemOwn.at {X : Nat → Prop} {w : World} {m : MV} {M : MD} (h : MemOwn X w m M) : MemAt X w m M := by
  obtain ⟨X1, X2, X3, h1, h2, h3, s, c, d⟩ := h.ex
  exact ⟨s.at.mono (fun b hb => (h1 b hb).1), c.at.mono (fun b hb => (h2 b hb).1), d.at.mono h3⟩
theorem IntsOwn.blw {X : Nat → Prop} {w w' : World} {ao : Option Addr} {n : Nat} {f : Nat → Int} (h : IntsOwn X w ao n f) (hb : Blw w w') : IntsOwn X w' ao n f :=
  ⟨h.1, fun hn => let ⟨b, hx, e, hr⟩ := h.2 hn; ⟨b, hx, e, hr.blw hb⟩⟩
theorem BoolsOwn.mod {X Z : Nat → Prop} {w w' : World} {ao : Option Addr} {n : Nat} {f : Nat → Bool} (h : BoolsOwn X w ao n f) (hb : Mod Z w w') (hxz : ∀ b, X b → ¬ Z b) : BoolsOwn X w' ao n f :=
  ⟨h.1, fun hn => let ⟨b, hx, e, hr⟩ := h.2 hn; ⟨b, hx, e, hr.mod hb (hxz _ hx)⟩⟩
theorem LinesOwn.mod {X Z : Nat → Prop} {w w' : World} {ao : Option Addr} {n : Nat} {len : Nat → Nat} {v : Nat → Nat → Int} (h : LinesOwn X w ao n len v) (hb : Mod Z w w') (hxz : ∀ b, X b → ¬ Z b) : LinesOwn X w' ao n len v :=
  ⟨h.1, fun hn => let ⟨b, F, c, hx, e, hr, hl, hd⟩ := h.2 hn
    ⟨b, F, c, hx, e, hr.mod hb (hxz _ hx), fun i hi => let ⟨g1, g2, g3, g4⟩ := hl i hi; ⟨g1, g2, g3, g4.mod hb (hxz _ g2)⟩, hd⟩⟩
theorem LinesOwn.blw {X : Nat → Prop} {w w' : World} {ao : Option Addr} {n : Nat} {len : Nat → Nat} {v : Nat → Nat → Int} (h : LinesOwn X w ao n len v) (hb : Blw w w') : LinesOwn X w' ao n len v := h.mod (hb.mod (fun _ => False)) (fun _ _ => id)
theorem BoolsOwn.blw {X : Nat → Prop} {w w' : World} {ao : Option Addr} {n : Nat} {f : Nat → Bool} (h : BoolsOwn X w ao n f) (hb : Blw w w') : BoolsOwn X w' ao n f := h.mod (hb.mod (fun _ => False)) (fun _ _ => id)
theorem MemOwn.mod {X Z : Nat → Prop} {w w' : World} {m : MV} {M : MD} (h : MemOwn X w m M) (hb : Mod Z w w') (hxz : ∀ b, X b → ¬ Z b) : MemOwn X w' m M := by
  obtain ⟨X1, X2, X3, h1, h2, h3, s, c, d⟩ := h.ex
  exact ⟨X1, X2, X3, h1, h2, h3, s.mod hb (fun b hb => hxz b (h1 b hb).1), c.mod hb (fun b hb => hxz b (h2 b hb).1), d.mod hb (fun b hb => hxz b (h3 b hb))⟩
theorem MemOwn.blw {X : Nat → Prop} {w w' : World} {m : MV} {M : MD} (h : MemOwn X w m M) (hb : Blw w w') : MemOwn X w' m M := h.mod (hb.mod (fun _ => False)) (fun _ _ => id)
end Go.Proofs.Ytjplodenflkghaa
/- Slices of numbers: what the laws' and the model's small functions on them answer. -/
namespace Go.Proofs.Ytjplodenflkghaa
open Go.RowKit
theorem ret_int {kd : IntKind} {a b : Int} (h : a = b) : Ending.returned (.int kd a) = .returned (.int kd b) := by rw [h]
theorem ints_step {X : Nat → Prop} {w wr : World} {ao : Option Addr} {n j b : Nat} {f : Nat → Int} {k : Int} (hj : j < n) (hx : X b) (e : ao = some ⟨b, 0, none⟩) (hn : n ≤ 9223372036854775807)
    (hr : Row wr b n (fun t => .int .i64 (if t < j then k + t else f t))) (hm : Mod (fun b => X b ∧ 0 < n) w wr) :
    IntsOwn X (wr.setCell ⟨b, j, none⟩ (.int .i64 (k + j))) ao n (fun t => if t < j + 1 then k + t else f t) ∧ Mod (fun b => X b ∧ 0 < n) w (wr.setCell ⟨b, j, none⟩ (.int .i64 (k + j))) := by
  refine ⟨⟨hn, fun _ => ⟨b, hx, e, (hr.set j _).congr fun i hi => ?_⟩⟩, hm.trans (Mod.setCell _ ⟨hx, by omega⟩ _)⟩
  by_cases h1 : i = j
  · subst h1; simp
  · by_cases h2 : i < j
    · simp [h1, h2, Nat.lt_succ_of_lt h2]
    · have h3 : ¬ i < j + 1 := by omega
      simp [h1, h2, h3]
set_option maxHeartbeats 400000 in
theorem markIntS_any (ao : Option Addr) (c n : Nat) (f : Nat → Int) (X : Nat → Prop) (k : Int) (w : World) (hk0 : 0 ≤ k) (hk : k + n ≤ 9223372036854775807) (h : IntsOwn X w ao n f) :
    Calls Try.prog 66 #[.slice ao n c, .int .i64 k] w fun e w' => e = .returned (.int .i64 (k + n)) ∧ IntsOwn X w' ao n (fun i => k + i) ∧ Mod (fun b => X b ∧ 0 < n) w w' := by
  have hn := h.1
  go_enter Try.func66, Try.ntmps66
  go_wp2
  go_loopw [1, 5] (fun kk i wr => ∃ j : Nat, j ≤ n ∧ i = .int .i64 j ∧ kk = .int .i64 (k + j) ∧ IntsOwn X wr ao n (fun t => if t < j then k + t else f t) ∧ Mod (fun b => X b ∧ 0 < n) w wr) (fun _ i _ => n - (intOf i).toNat)
  case atStart => exact ⟨0, Nat.zero_le _, rfl, by simp, by simpa using h, Mod.refl _ _⟩
  case round =>
    obtain ⟨j, hj, rfl, rfl, ho, hm⟩ := hrel
    by_cases hlt : j < n
    · obtain ⟨b, hx, e, hr⟩ := ho.2 (by omega)
      have st := ints_step hlt hx e hn hr hm
      have g1 : wr.cell? ⟨b, j, none⟩ = some (.int .i64 (f j)) := by simpa using hr.cell hlt
      have g2 := hr.frozen j
      subst e
      clear h ho hr hm
      go_wp2
      go_roundw
      case rel => exact ⟨j + 1, by omega, by go_num, by go_num, st.1, st.2⟩
      case measure => simp [intOf]; omega
    · go_wp2
      go_ret
      obtain rfl : j = n := by omega
      refine ⟨rfl, ?_, hm⟩
      refine ⟨hn, fun h0 => ?_⟩
      obtain ⟨b, hx, e, hr⟩ := ho.2 h0
      exact ⟨b, hx, e, hr.congr fun i hi => by simp [hi]⟩
set_option maxHeartbeats 400000 in
theorem heldIntS_any (ao : Option Addr) (c n : Nat) (Y : Nat → Prop) (k : Int) (w : World) (hk0 : 0 ≤ k) (hk : k + n ≤ 9223372036854775807) (h : IntsAt Y w ao n (fun i => k + i)) :
    Calls Try.prog 68 #[.slice ao n c, .int .i64 k] w fun e w' => e = .returned (.int .i64 (k + n)) ∧ Blw w w' := by
  obtain ⟨hn, h⟩ := h
  go_enter Try.func68, Try.ntmps68
  go_wp2
  go_loopw [1, 5] (fun kk i wr => ∃ j : Nat, j ≤ n ∧ i = .int .i64 j ∧ kk = .int .i64 (k + j) ∧ Blw w wr) (fun _ i _ => n - (intOf i).toNat)
  case atStart => exact ⟨0, Nat.zero_le _, rfl, by simp, Blw.refl _⟩
  case round =>
    obtain ⟨j, hj, rfl, rfl, hb⟩ := hrel
    by_cases hlt : j < n
    · obtain ⟨b, o, rfl, -, g1⟩ := h j hlt
      replace g1 := hb.cell g1
      clear h
      go_wp2
      go_roundw
      case rel => exact ⟨j + 1, by omega, by go_num, by go_num, hb⟩
      case measure => simp [intOf]; omega
    · go_wp2
      go_ret
      obtain rfl : j = n := by omega
      exact ⟨rfl, hb⟩
set_option maxHeartbeats 400000 in
theorem eqIntS_same (a1 a2 : Option Addr) (c1 c2 : Nat) (n0 : Nat) (f : Nat → Int) {Y Z : Nat → Prop} (w : World) (h1 : IntsAt Y w a1 n0 f) (h2 : IntsAt Z w a2 n0 f) :
    Calls Try.prog 62 #[.slice a1 n0 c1, .slice a2 n0 c2] w fun e w' => e = .returned (.bool true) ∧ ∃ n, w' = w.drewN n := by
  obtain ⟨hl, h1⟩ := h1
  obtain ⟨-, h2⟩ := h2
  go_enter Try.func62, Try.ntmps62
  go_wp2
  go_loopw [5] (fun i wr => ∃ k n : Nat, k ≤ n0 ∧ i = .int .i64 k ∧ wr = w.drewN n) (fun i _ => n0 - (intOf i).toNat)
  case atStart => exact ⟨0, 0, Nat.zero_le _, rfl, rfl⟩
  case round =>
    obtain ⟨k, n, hk, rfl, rfl⟩ := hrel
    by_cases hlt : k < n0
    · obtain ⟨b, o, rfl, -, g1⟩ := h1 k hlt
      obtain ⟨b', o', rfl, -, g2⟩ := h2 k hlt
      clear h1 h2
      go_wp2
      go_quiet (fail)
      go_wp2
      go_roundw
      case rel => exact ⟨k + 1, _, by omega, by go_num, rfl⟩
      case measure => simp [intOf]; omega
    · go_wp2
      go_ret
      exact ⟨rfl, n, rfl⟩
/-- What a measure answers: below 0, or what is left. -/
def Left (left size r : Int) : Prop := r = -1 ∨ (0 ≤ r ∧ r + size ≤ left)
set_option maxHeartbeats 400000 in
theorem szIntS_any (ao : Option Addr) (c n : Nat) (left : Int) (w : World) (hn : n ≤ 9223372036854775807) (h0 : 0 ≤ left) (h1 : left ≤ 1048576) :
    Calls Try.prog 179 #[.slice ao n c, .int .i64 left] w fun e w' => ∃ r : Int, e = .returned (.int .i64 r) ∧ Left left n r ∧ Blw w w' := by
  by_cases h : left - n < 0
  · go_enter Try.func179, Try.ntmps179
    go_wp2
    go_ret
    exact ⟨_, rfl, Or.inl rfl, Blw.refl _⟩
  · go_enter Try.func179, Try.ntmps179
    go_wp2
    go_ret
    exact ⟨_, rfl, Or.inr ⟨by omega, by omega⟩, Blw.refl _⟩
theorem Row.of_cells {w : World} {b : Nat} {c : Array Value} {t : TypeId} (h : w.heap[b]? = some (.cells c t (0, 0))) (f : Nat → Value) (hf : ∀ i, i < c.size → c[i]? = some (f i)) : Row w b c.size f := ⟨c, t, h, Nat.le_refl _, hf⟩
theorem run_copy_fn {P : Program} (w : World) (dT sT ty elem : TypeId) (b o dLen dCap : Nat) (a : Addr) (sLen sCap m : Nat) (g : Nat → Value) (n : Nat) (f : Nat → Value)
    (hu : P.underlying dT = some (.slice elem)) (hs : (P.info? elem).map (·.size) = some 1) (hm : m = Nat.min sLen dLen)
    (hsrc : ∀ j, j < m → w.cell? (a.add j) = some (g j)) (h1 : ∀ j, j < m → (g j).oneCell' = true) (hrow : Row w b n f) (hfit : o + m ≤ n) :
    ∃ w', (Builtin.copy_ #[dT, sT] ty #[.slice (some ⟨b, o, none⟩) dLen dCap, .slice (some a) sLen sCap]).run P w = .ok (goInt m) w' ∧
      Row w' b n (fun i => if o ≤ i ∧ i < o + m then g (i - o) else f i) ∧ Mod (fun x => x = b) w w' ∧ w'.heap.size = w.heap.size := by
  obtain ⟨cur, t, hb, hn, hc⟩ := hrow
  have hl : ((List.range m).map g).length = m := by simp
  have hrun := run_copy_row (P := P) w dT sT ty elem b o dLen dCap a sLen sCap cur t ((List.range m).map g) hu hs hb (by rw [hl]; exact hm)
    (fun j v hv => by
      have hj : j < m := by
        have := (List.getElem?_eq_some_iff.1 hv).1
        omega
      rw [hsrc j hj]
      simpa [hj] using hv) (by rw [hl]; omega) (fun v hv => by
      obtain ⟨j, hj, rfl⟩ := List.mem_map.1 hv
      exact h1 j (List.mem_range.1 hj))
  rw [hl] at hrun
  refine ⟨_, hrun, ⟨_, t, setRow_heap w b _ _ t _ hb, ?_, fun i hi => ?_⟩, ⟨rfl, rfl, rfl, by simp [World.setRow], fun k _ hk => setRow_other w b k _ hk⟩, by simp [World.setRow]⟩
  · simp; omega
  · simp only [List.getElem?_toArray]
    have hlen : (cur.toList.take o).length = o := by simp; omega
    by_cases h2 : i < o
    · have h3 : ¬ (o ≤ i ∧ i < o + m) := by omega
      rw [if_neg h3, List.append_assoc, List.getElem?_append_left (by omega), List.getElem?_take, if_pos h2]
      simpa using hc i hi
    · by_cases h3 : i < o + m
      · rw [if_pos ⟨by omega, h3⟩, List.append_assoc, List.getElem?_append_right (by omega), hlen, List.getElem?_append_left (by simp; omega), List.getElem?_map, List.getElem?_range (by omega)]
        rfl
      · rw [if_neg (by omega), List.getElem?_append_right (by simp; omega)]
        simp only [List.length_append, hlen, hl, List.getElem?_drop]
        rw [show o + m + (i - (o + m)) = i by omega]
        simpa using hc i hi
/-- copy as one step of a region that draws its order. -/
theorem step_copy_fn {P : Program} {ops : Array Oper} {o : Oper} {a : Act} {w : World} {K : Act → World → Prop} {Q : Exit → Act → World → Prop} {E : Prop} (hgd : o.guard = none) (d s : Operand) (dT sT : TypeId)
    (ho : o.op = .call { callee := .builtin .copy, args := #[d, s], argTypes := #[dT, sT] }) (elem : TypeId) (hu : P.underlying dT = some (.slice elem)) (hsz : (P.info? elem).map (·.size) = some 1)
    (b off dLen dCap : Nat) (ad : Addr) (sLen sCap : Nat) (hd : a.eval d = .slice (some ⟨b, off, none⟩) dLen dCap) (hs : a.eval s = .slice (some ad) sLen sCap)
    (m : Nat) (g : Nat → Value) (n : Nat) (f : Nat → Value) (hm : m = Nat.min sLen dLen)
    (hsrc : ∀ j, j < m → w.cell? (ad.add j) = some (g j)) (h1 : ∀ j, j < m → (g j).oneCell' = true) (hrow : Row w b n f) (hfit : off + m ≤ n)
    (h : ∀ w', Row w' b n (fun i => if off ≤ i ∧ i < off + m then g (i - off) else f i) → Mod (fun x => x = b) w w' → w'.heap.size = w.heap.size → K (a.put o.dst (goInt m)) w') :
    if Region.wanted o (yielded ops a.tmps) = true then Oper.wp P o a w K Q else E := by
  have hw : Region.wanted o (yielded ops a.tmps) = true := by simp [Region.wanted, hgd]
  rw [if_pos hw]
  obtain ⟨w', hrun, h2, h3, h4⟩ := run_copy_fn (P := P) w dT sT o.type elem b off dLen dCap ad sLen sCap m g n f hu hsz hm hsrc h1 hrow hfit
  unfold Oper.wp
  simp [execOp, ho, resolve, invoke, builtin, hd, hs, hrun, Result.andThen]
  exact h _ h2 h3 h4
/-- copy as a law for a region that does not draw. -/
theorem wpList_copy_fn {P : Program} {w : World} {ops : Array Oper} {rest : List Oper} {o : Oper} {a : Act} {Q : Exit → Act → World → Prop} (hgd : o.guard = none) (d s : Operand) (dT sT : TypeId)
    (ho : o.op = .call { callee := .builtin .copy, args := #[d, s], argTypes := #[dT, sT] }) (elem : TypeId) (hu : P.underlying dT = some (.slice elem)) (hsz : (P.info? elem).map (·.size) = some 1)
    (b off dLen dCap : Nat) (ad : Addr) (sLen sCap : Nat) (hd : a.eval d = .slice (some ⟨b, off, none⟩) dLen dCap) (hs : a.eval s = .slice (some ad) sLen sCap)
    (m : Nat) (g : Nat → Value) (n : Nat) (f : Nat → Value) (hm : m = Nat.min sLen dLen)
    (hsrc : ∀ j, j < m → w.cell? (ad.add j) = some (g j)) (h1 : ∀ j, j < m → (g j).oneCell' = true) (hrow : Row w b n f) (hfit : off + m ≤ n)
    (h : ∀ w', Row w' b n (fun i => if off ≤ i ∧ i < off + m then g (i - off) else f i) → Mod (fun x => x = b) w w' → w'.heap.size = w.heap.size → wpList P ops Q rest (a.put o.dst (goInt m)) w') :
    wpList P ops Q (o :: rest) a w := by
  refine wpList_plain hgd fun K hK => ?_
  obtain ⟨w', hrun, h2, h3, h4⟩ := run_copy_fn (P := P) w dT sT o.type elem b off dLen dCap ad sLen sCap m g n f hu hsz hm hsrc h1 hrow hfit
  unfold Oper.wp
  simp [execOp, ho, resolve, invoke, builtin, hd, hs, hrun, Result.andThen]
  exact hK _ _ (h _ h2 h3 h4)
theorem tinfo3 : (Try.prog.info? 3).map (fun i => (i.zero, i.size, i.bytes)) = some (some (.int .i64 0), 1, 8) := by kernel_rfl
theorem mkInts (n : Nat) (hn : n ≤ 1048576) (w : World) : (Instr.makeSlice 26 (.int .i64 n) (.int .i64 n)).run Try.prog w = .ok (.slice (some ⟨w.heap.size, 0, none⟩) n n) (w.alloc (.cells (madeCells #[.int .i64 0] n) 3)) :=
  run_make_row' (P := Try.prog) 26 3 (.int .i64 0) 8 Try.underlying26 tinfo3 rfl .i64 .i64 n (by omega) (by omega) w
theorem fill_step {α : Type} {w wr : World} {n j : Nat} {f : Nat → α} {z : α} {mk : α → Value} (hb : Blw w wr) (hr : Row wr w.heap.size n (fun t => mk (if t < j then f t else z))) :
    Row (wr.setCell ⟨w.heap.size, j, none⟩ (mk (f j))) w.heap.size n (fun t => mk (if t < j + 1 then f t else z)) ∧ Blw w (wr.setCell ⟨w.heap.size, j, none⟩ (mk (f j))) := by
  refine ⟨(hr.set j _).congr fun i hi => ?_, hb.setCell (Nat.le_refl _) _⟩
  by_cases h1 : i = j
  · subst h1; simp
  · by_cases h2 : i < j
    · simp [h1, h2, Nat.lt_succ_of_lt h2]
    · have h3 : ¬ i < j + 1 := by omega
      simp [h1, h2, h3]
set_option maxHeartbeats 400000 in
theorem toIntS_any (ao : Option Addr) (c n : Nat) (f : Nat → Int) (Y : Nat → Prop) (w : World) (hn : n ≤ 1048576) (h : IntsAt Y w ao n f) :
    Calls Try.prog 181 #[.slice ao n c] w fun e w' => e = .returned (.slice (some ⟨w.heap.size, 0, none⟩) n n) ∧ Row w' w.heap.size n (fun t => .int .i64 (f t)) ∧ Blw w w' := by
  obtain ⟨-, h⟩ := h
  have hmk := mkInts n hn
  go_enter Try.func181, Try.ntmps181
  go_wp2
  clear hmk
  go_loopw [4] (fun i wr => ∃ j : Nat, j ≤ n ∧ i = .int .i64 j ∧ Row wr w.heap.size n (fun t => Value.int .i64 (if t < j then f t else 0)) ∧ Blw w wr) (fun i _ => n - (intOf i).toNat)
  case atStart => exact ⟨0, Nat.zero_le _, rfl, (Row.made w (.int .i64 0) n 3).congr (fun i _ => by simp), (Blw.refl _).alloc _⟩
  case round =>
    obtain ⟨j, hj, rfl, hr, hb⟩ := hrel
    by_cases hlt : j < n
    · obtain ⟨b, o, rfl, -, g1⟩ := h j hlt
      replace g1 := hb.cell g1
      have g2 : wr.cell? ⟨w.heap.size, j, none⟩ = some (.int .i64 0) := by simpa using hr.cell hlt
      have g3 := hr.frozen j
      have st := fill_step (mk := fun x => Value.int .i64 x) hb hr
      clear h hr
      go_wp2
      go_roundw
      case rel => exact ⟨j + 1, by omega, by go_num, st.1, st.2⟩
      case measure => simp [intOf]; omega
    · go_wp2
      go_ret
      obtain rfl : j = n := by omega
      exact ⟨rfl, hr.congr fun i hi => by simp [hi], hb⟩
def wordOK (x : Int) : Prop := 0 ≤ x ∧ x ≤ 65535
set_option maxHeartbeats 400000 in
theorem l1In_yes (n lo hi : Int) (w : World) (h1 : lo ≤ n) (h2 : n ≤ hi) : Calls Try.prog 98 #[.int .i64 n, .int .i64 lo, .int .i64 hi] w fun e w' => e = .returned (.bool true) ∧ w' = w := by
  go_enter Try.func98, Try.ntmps98
  go_wp2
  go_ret
  exact ⟨rfl, rfl⟩
set_option maxHeartbeats 400000 in
theorem l1In_no (n lo hi : Int) (w : World) (h : ¬ (lo ≤ n ∧ n ≤ hi)) : Calls Try.prog 98 #[.int .i64 n, .int .i64 lo, .int .i64 hi] w fun e w' => e = .returned (.bool false) ∧ w' = w := by
  by_cases h1 : lo ≤ n
  · have h2 : ¬ n ≤ hi := fun h3 => h ⟨h1, h3⟩
    clear h
    go_enter Try.func98, Try.ntmps98
    go_wp2
    go_ret
    exact ⟨rfl, rfl⟩
  · clear h
    have hd : decide (lo ≤ n) = false := by simpa using h1
    go_enter Try.func98, Try.ntmps98
    go_wp2
    go_ret
    exact ⟨rfl, rfl⟩
def hasLine (n : Nat) (f : Nat → Int) (k : Int) : Prop := ∃ t, t < n ∧ f t = k
set_option maxHeartbeats 1600000 in
theorem l1Has_any (ao : Option Addr) (c n : Nat) (f : Nat → Int) (Y : Nat → Prop) (w : World) (x : Int) (h : IntsAt Y w ao n f) :
    Calls Try.prog 127 #[.slice ao n c, .int .i64 x] w fun e w' => ∃ b, e = .returned (.bool b) ∧ (b = true ↔ hasLine n f x) ∧ w' = w := by
  obtain ⟨hn, h⟩ := h
  have HH : Hid (∀ i, i < n → ∃ b o, ao = some ⟨b, o, none⟩ ∧ Y b ∧ w.cell? ⟨b, o + i, none⟩ = some (.int .i64 (f i))) := h
  clear h
  go_enter Try.func127, Try.ntmps127
  go_wp2
  go_loopw [9] (fun i wr => ∃ k : Nat, k ≤ n ∧ i = .int .i64 k ∧ (∀ t, t < k → ¬ f t = x) ∧ wr = w) (fun i _ => n - (intOf i).toNat)
  case atStart => exact ⟨0, Nat.zero_le _, rfl, fun t ht => absurd ht (Nat.not_lt_zero _), rfl⟩
  case round =>
    obtain ⟨k, hk, rfl, hok, rfl⟩ := hrel
    have HO : Hid (∀ t, t < k → ¬ f t = x) := hok
    clear hok
    by_cases hlt : k < n
    · obtain ⟨b, o, rfl, -, g1⟩ := HH.out k hlt
      have hlt' : (k : Int) < n := by omega
      by_cases hr : f k = (x : Int)
      · have d1 : (f k == (x : Int)) = true := by simp [hr]
        go_wp2
        go_ret
        exact ⟨true, rfl, ⟨fun _ => ⟨k, hlt, hr⟩, fun _ => rfl⟩, rfl⟩
      · have d1 : (f k == (x : Int)) = false := by simp [hr]
        go_wp2
        go_roundw
        case rel => exact ⟨k + 1, by omega, by go_num, fun t ht => by
          by_cases e : t = k
          · subst e; exact hr
          · exact HO.out t (by omega), by first | rfl | trivial⟩
        case measure => simp [intOf]; omega
    · obtain rfl : k = n := by omega
      go_wp2
      go_ret
      exact ⟨false, rfl, ⟨fun h => absurd h (by decide), fun ⟨t, h1, h2⟩ => absurd h2 (HO.out t h1)⟩, rfl⟩
set_option maxHeartbeats 400000 in
theorem sameInts_yes (a1 a2 : Option Addr) (c1 c2 n0 : Nat) (f g : Nat → Int) {Y Z : Nat → Prop} (w : World) (h1 : IntsAt Y w a1 n0 f) (h2 : IntsAt Z w a2 n0 g) (he : ∀ i, i < n0 → f i = g i) :
    Calls Try.prog 20 #[.slice a1 n0 c1, .slice a2 n0 c2] w fun e w' => e = .returned (.bool true) ∧ ∃ n, w' = w.drewN n := by
  replace h2 := h2.congr (fun i hi => (he i hi).symm)
  clear he
  obtain ⟨hl, h1⟩ := h1
  obtain ⟨-, h2⟩ := h2
  go_enter Try.func20, Try.ntmps20
  go_wp2
  go_loopw [13] (fun i wr => ∃ k n : Nat, k ≤ n0 ∧ i = .int .i64 k ∧ wr = w.drewN n) (fun i _ => n0 - (intOf i).toNat)
  case atStart => exact ⟨0, 0, Nat.zero_le _, rfl, rfl⟩
  case round =>
    obtain ⟨k, n, hk, rfl, rfl⟩ := hrel
    by_cases hlt : k < n0
    · obtain ⟨b, o, rfl, -, g1⟩ := h1 k hlt
      obtain ⟨b', o', rfl, -, g2⟩ := h2 k hlt
      clear h1 h2
      go_wp2
      go_quiet (fail)
      go_wp2
      go_roundw
      case rel => exact ⟨k + 1, _, by omega, by go_num, rfl⟩
      case measure => simp [intOf]; omega
    · go_wp2
      go_ret
      exact ⟨rfl, n, rfl⟩
set_option maxHeartbeats 400000 in
theorem sameInts_no (a1 a2 : Option Addr) (c1 c2 n0 : Nat) (f g : Nat → Int) {Y Z : Nat → Prop} (w : World) (h1 : IntsAt Y w a1 n0 f) (h2 : IntsAt Z w a2 n0 g) (i : Nat) (hi : i < n0) (he : ¬ f i = g i) :
    Calls Try.prog 20 #[.slice a1 n0 c1, .slice a2 n0 c2] w fun e w' => e = .returned (.bool false) ∧ ∃ n, w' = w.drewN n := by
  obtain ⟨hl, h1⟩ := h1
  obtain ⟨-, h2⟩ := h2
  have HE : Hid (¬ f i = g i) := he
  clear he
  go_enter Try.func20, Try.ntmps20
  go_wp2
  go_loopw [13] (fun ii wr => ∃ k n : Nat, k ≤ i ∧ ii = .int .i64 k ∧ wr = w.drewN n) (fun i _ => n0 - (intOf i).toNat)
  case atStart => exact ⟨0, 0, Nat.zero_le _, rfl, rfl⟩
  case round =>
    obtain ⟨k, n, hk, rfl, rfl⟩ := hrel
    have hlt : k < n0 := by omega
    obtain ⟨b, o, rfl, -, g1⟩ := h1 k hlt
    obtain ⟨b', o', rfl, -, g2⟩ := h2 k hlt
    clear h1 h2
    by_cases hf : f k = g k
    · have hne : k ≠ i := fun e => HE.out (e ▸ hf)
      rw [← hf] at g2
      clear hf
      go_wp2
      go_quiet (fail)
      go_wp2
      go_roundw
      case rel => exact ⟨k + 1, _, by omega, by go_num, rfl⟩
      case measure => simp [intOf]; omega
    · have hb : (f k != g k) = true := by simpa using hf
      clear hf
      go_wp2
      go_quiet (fail)
      go_wp2
      go_ret
      exact ⟨rfl, _, by simp only [World.drewN_drewN]; rfl⟩
theorem owned_row {w : World} {g n cap : Nat} {e : TypeId} {xs : List Value} {f : Nat → Value} (h : w.ownsRow 0 e 1 (.slice (some ⟨g, 0, none⟩) n cap) n xs) (hf : ∀ i, i < n → xs[i]? = some (f i)) (hn : 0 < n) : Row w g n f := by
  obtain ⟨h1, h2⟩ := h
  rcases h2 with ⟨_, h2⟩ | ⟨g', cap', cur, hv, hg, hh, hcap, _, hsz, ht⟩
  · omega
  · simp only [Value.slice.injEq, Option.some.injEq, Addr.mk.injEq, and_true, true_and] at hv
    obtain ⟨rfl, rfl⟩ := hv
    refine ⟨cur, e, hh, by omega, fun i hi => ?_⟩
    have : (cur.toList.take (n * 1))[i]? = cur[i]? := by rw [List.getElem?_take, if_pos (by omega)]; simp
    rw [← this, ht]
    exact hf i hi
theorem own_empty {w : World} {B : Nat} {e : TypeId} (h : w.heap[B]? = some (.cells #[] e (0, 0))) : w.ownsRow 0 e 1 (.slice (some ⟨B, 0, none⟩) 0 0) 0 [] :=
  ⟨rfl, Or.inr ⟨B, 0, #[], rfl, Nat.zero_le _, h, Nat.le_refl _, by unfold maxLen; omega, rfl, rfl⟩⟩
end Go.Proofs.Ytjplodenflkghaa
/- Lists of pairs: what they read as, what is owned. -/
namespace Go.Proofs.Ytjplodenflkghaa
open Go.RowKit
set_option linter.unusedSimpArgs false
set_option linter.unusedVariables false
/-- The slice at 'ao' reads as the n pairs f, g, all in blocks of Y. -/
def UndosAt (Y : Nat → Prop) (w : World) (ao : Option Addr) (n : Nat) (f g : Nat → Int) : Prop :=
  n ≤ 9223372036854775807 ∧ ∀ i, i < n → ∃ b o, ao = some ⟨b, o, none⟩ ∧ Y b ∧ w.cell? ⟨b, o + i * 2, none⟩ = some (.int .i64 (f i)) ∧ w.cell? ⟨b, o + i * 2 + 1, none⟩ = some (.int .i64 (g i))
def uc (f g : Nat → Int) : Nat → Value := fun j => if j % 2 = 0 then .int .i64 (f (j / 2)) else .int .i64 (g (j / 2))
theorem uc_at (f g : Nat → Int) (i : Nat) : uc f g (i * 2) = .int .i64 (f i) ∧ uc f g (i * 2 + 1) = .int .i64 (g i) := by
  have a0 : i * 2 % 2 = 0 := by omega
  have a1 : (i * 2 + 1) % 2 = 1 := by omega
  have b0 : i * 2 / 2 = i := by omega
  have b1 : (i * 2 + 1) / 2 = i := by omega
  simp [uc, a0, a1, b0, b1]
def UndosOwn (X : Nat → Prop) (w : World) (ao : Option Addr) (n : Nat) (f g : Nat → Int) : Prop :=
  n ≤ 9223372036854775807 ∧ (0 < n → ∃ b, X b ∧ ao = some ⟨b, 0, none⟩ ∧ Row w b (n * 2) (uc f g))
theorem undo_get {w : World} {b n : Nat} {f g : Nat → Int} (r : Row w b (n * 2) (uc f g)) {i : Nat} (hi : i < n) : w.cell? ⟨b, i * 2, none⟩ = some (.int .i64 (f i)) ∧ w.cell? ⟨b, i * 2 + 1, none⟩ = some (.int .i64 (g i)) := by
  obtain ⟨h0, h1⟩ := uc_at f g i
  exact ⟨by rw [r.cell (by omega), h0], by rw [r.cell (by omega), h1]⟩
theorem UndosOwn.at {X : Nat → Prop} {w : World} {ao : Option Addr} {n : Nat} {f g : Nat → Int} (h : UndosOwn X w ao n f g) : UndosAt X w ao n f g := by
  refine ⟨h.1, fun i hi => ?_⟩
  obtain ⟨b, hx, e, hr⟩ := h.2 (by omega)
  obtain ⟨h0, h1⟩ := undo_get hr hi
  exact ⟨b, 0, e, hx, by rw [Nat.zero_add]; exact h0, by rw [Nat.zero_add]; exact h1⟩
theorem UndosAt.blw {Y : Nat → Prop} {w w' : World} {ao : Option Addr} {n : Nat} {f g : Nat → Int} (h : UndosAt Y w ao n f g) (hb : Blw w w') : UndosAt Y w' ao n f g :=
  ⟨h.1, fun i hi => let ⟨b, o, e, hY, h0, h1⟩ := h.2 i hi; ⟨b, o, e, hY, hb.cell h0, hb.cell h1⟩⟩
theorem UndosAt.mod {X Y : Nat → Prop} {w w' : World} {ao : Option Addr} {n : Nat} {f g : Nat → Int} (h : UndosAt Y w ao n f g) (hb : Mod X w w') (hxy : ∀ k, Y k → ¬ X k) : UndosAt Y w' ao n f g :=
  ⟨h.1, fun i hi => let ⟨b, o, e, hY, h0, h1⟩ := h.2 i hi; ⟨b, o, e, hY, hb.cell h0 (hxy _ hY), hb.cell h1 (hxy _ hY)⟩⟩
theorem UndosAt.mono {X Y : Nat → Prop} {w : World} {ao : Option Addr} {n : Nat} {f g : Nat → Int} (h : UndosAt X w ao n f g) (hxy : ∀ b, X b → Y b) : UndosAt Y w ao n f g :=
  ⟨h.1, fun i hi => let ⟨b, o, e, hY, h0⟩ := h.2 i hi; ⟨b, o, e, hxy _ hY, h0⟩⟩
theorem UndosAt.congr {Y : Nat → Prop} {w : World} {ao : Option Addr} {n : Nat} {f g f' g' : Nat → Int} (h : UndosAt Y w ao n f g) (e : ∀ i, i < n → f i = f' i ∧ g i = g' i) : UndosAt Y w ao n f' g' :=
  ⟨h.1, fun i hi => let ⟨b, o, ea, hY, h0, h1⟩ := h.2 i hi; ⟨b, o, ea, hY, by rw [← (e i hi).1]; exact h0, by rw [← (e i hi).2]; exact h1⟩⟩
theorem UndosOwn.mod {X Z : Nat → Prop} {w w' : World} {ao : Option Addr} {n : Nat} {f g : Nat → Int} (h : UndosOwn X w ao n f g) (hb : Mod Z w w') (hxz : ∀ b, X b → ¬ Z b) : UndosOwn X w' ao n f g :=
  ⟨h.1, fun hn => let ⟨b, hx, e, hr⟩ := h.2 hn; ⟨b, hx, e, hr.mod hb (hxz _ hx)⟩⟩
theorem UndosOwn.blw {X : Nat → Prop} {w w' : World} {ao : Option Addr} {n : Nat} {f g : Nat → Int} (h : UndosOwn X w ao n f g) (hb : Blw w w') : UndosOwn X w' ao n f g := h.mod (hb.mod (fun _ => False)) (fun _ _ => id)
theorem UndosOwn.mono {X Y : Nat → Prop} {w : World} {ao : Option Addr} {n : Nat} {f g : Nat → Int} (h : UndosOwn X w ao n f g) (hxy : ∀ b, X b → Y b) : UndosOwn Y w ao n f g :=
  ⟨h.1, fun hn => let ⟨b, hx, e, hr⟩ := h.2 hn; ⟨b, hxy _ hx, e, hr⟩⟩
theorem UndosOwn.congr {X : Nat → Prop} {w : World} {ao : Option Addr} {n : Nat} {f g f' g' : Nat → Int} (h : UndosOwn X w ao n f g) (e : ∀ i, i < n → f i = f' i ∧ g i = g' i) : UndosOwn X w ao n f' g' :=
  ⟨h.1, fun hn => let ⟨b, hx, ea, hr⟩ := h.2 hn; ⟨b, hx, ea, hr.congr fun i hi => by
    have := e (i / 2) (by omega)
    simp only [uc, this.1, this.2]⟩⟩
theorem UndosOwn.nil (X : Nat → Prop) (w : World) (ao : Option Addr) (f g : Nat → Int) : UndosOwn X w ao 0 f g := ⟨by omega, fun h => absurd h (by omega)⟩
theorem IntsOwn.mono {X Y : Nat → Prop} {w : World} {ao : Option Addr} {n : Nat} {f : Nat → Int} (h : IntsOwn X w ao n f) (hxy : ∀ b, X b → Y b) : IntsOwn Y w ao n f :=
  ⟨h.1, fun hn => let ⟨b, hx, e, hr⟩ := h.2 hn; ⟨b, hxy _ hx, e, hr⟩⟩
theorem IntsOwn.mod {X Z : Nat → Prop} {w w' : World} {ao : Option Addr} {n : Nat} {f : Nat → Int} (h : IntsOwn X w ao n f) (hb : Mod Z w w') (hxz : ∀ b, X b → ¬ Z b) : IntsOwn X w' ao n f :=
  ⟨h.1, fun hn => let ⟨b, hx, e, hr⟩ := h.2 hn; ⟨b, hx, e, hr.mod hb (hxz _ hx)⟩⟩
theorem IntsOwn.congr {X : Nat → Prop} {w : World} {ao : Option Addr} {n : Nat} {f g : Nat → Int} (h : IntsOwn X w ao n f) (e : ∀ i, i < n → f i = g i) : IntsOwn X w ao n g :=
  ⟨h.1, fun hn => let ⟨b, hx, ea, hr⟩ := h.2 hn; ⟨b, hx, ea, hr.congr fun i hi => by rw [e i hi]⟩⟩
theorem IntsOwn.nil (X : Nat → Prop) (w : World) (ao : Option Addr) (f : Nat → Int) : IntsOwn X w ao 0 f := ⟨by omega, fun h => absurd h (by omega)⟩
theorem box2 (w : World) (a b : Value) (t : TypeId) : Row (w.alloc (.cells #[a, b] t)) w.heap.size 2 (fun i => if i = 0 then a else b) :=
  ⟨_, t, heap_alloc_new _ _, by simp, fun i hi => by
    match i, hi with
    | 0, _ => rfl
    | 1, _ => rfl⟩
theorem get2 {w : World} {B : Nat} {a b : Value} (r : Row w B 2 (fun i => if i = 0 then a else b)) : w.cell? ⟨B, 0, none⟩ = some a ∧ w.cell? ⟨B, 1, none⟩ = some b :=
  ⟨r.cell (i := 0) (by omega), r.cell (i := 1) (by omega)⟩
end Go.Proofs.Ytjplodenflkghaa
/- The laws' functions on lists of pairs: measured, copied, compared, marked, held. -/
namespace Go.Proofs.Ytjplodenflkghaa
open Go.RowKit
set_option linter.unusedSimpArgs false
set_option linter.unusedVariables false
theorem tinfo69 : (Try.prog.info? 144).map (fun i => (i.zero, i.size, i.bytes)) = some (some (.agg #[.int .i64 0, .int .i64 0]), 2, 16) := by kernel_rfl
theorem mkUndos (n : Nat) (hn : n ≤ 1048576) (w : World) : (Instr.makeSlice 147 (.int .i64 n) (.int .i64 n)).run Try.prog w = .ok (.slice (some ⟨w.heap.size, 0, none⟩) n n) (w.alloc (.cells (madeCells #[.int .i64 0, .int .i64 0] (n * 2)) 144)) := by
  obtain ⟨i0, hi, hz0, hz1, hz2⟩ := info_parts tinfo69
  have h := run_make (P := Try.prog) w 147 144 i0 (.agg #[.int .i64 0, .int .i64 0]) Try.underlying147 hi hz0 .i64 .i64 (n : Int) (n : Int) (by omega) (Int.le_refl _) (by rw [hz2]; omega) (by omega)
  simpa [hz1, Value.cells] using h
theorem Row.made2 (w : World) (z : Value) (n : Nat) (t : TypeId) : Row (w.alloc (.cells (madeCells #[z, z] n) t)) w.heap.size n (fun _ => z) := by
  refine ⟨_, t, heap_alloc_new _ _, by simp [madeCells], fun i hi => ?_⟩
  have h2 : i % 2 = 0 ∨ i % 2 = 1 := by omega
  rcases h2 with h2 | h2 <;> simp [madeCells, hi, h2]
set_option maxHeartbeats 400000 in
theorem szUndoS_any (ao : Option Addr) (c n : Nat) (left : Int) (w : World) (hn : n ≤ 9223372036854775807) (h0 : 0 ≤ left) (h1 : left ≤ 1048576) :
    Calls Try.prog 194 #[.slice ao n c, .int .i64 left] w fun e w' => ∃ r : Int, e = .returned (.int .i64 r) ∧ Left left n r ∧ Blw w w' := by
  by_cases h : left - n < 0
  · go_enter Try.func194, Try.ntmps194
    go_wp2
    go_ret
    exact ⟨_, rfl, Or.inl rfl, Blw.refl _⟩
  · go_enter Try.func194, Try.ntmps194
    go_wp2
    go_ret
    exact ⟨_, rfl, Or.inr ⟨by omega, by omega⟩, Blw.refl _⟩
set_option maxHeartbeats 400000 in
theorem toUndo_any (x y : Int) (w : World) : Calls Try.prog 202 #[.agg #[.int .i64 x, .int .i64 y]] w fun e w' => e = .returned (.agg #[.int .i64 x, .int .i64 y]) ∧ Blw w w' := by
  go_enter Try.func202, Try.ntmps202
  go_wp2
  refine bodyPost_ret (v := .agg #[.int .i64 x, .int .i64 y]) (by simp [results, Try.results202, go_sem]) rfl ⟨rfl, ?_⟩
  exact (((Blw.refl _).alloc _).alloc _).alloc _
/-- A list that is being filled, j of it done. -/
theorem fill2_step {wr : World} {b n j : Nat} {f g f0 g0 : Nat → Int} (hj : j < n) (hr : Row wr b (n * 2) (uc (fun t => if t < j then f t else f0 t) (fun t => if t < j then g t else g0 t))) :
    Row ((wr.setCell ⟨b, j * 2, none⟩ (.int .i64 (f j))).setCell ⟨b, j * 2 + 1, none⟩ (.int .i64 (g j))) b (n * 2) (uc (fun t => if t < j + 1 then f t else f0 t) (fun t => if t < j + 1 then g t else g0 t)) := by
  refine ((hr.set (j * 2) _).set (j * 2 + 1) _).congr (fun t ht => ?_)
  by_cases e1 : t = j * 2 + 1
  · subst e1
    rw [if_pos rfl, (uc_at _ _ j).2]; simp
  · rw [if_neg e1]
    by_cases e0 : t = j * 2
    · subst e0
      rw [if_pos rfl, (uc_at _ _ j).1]; simp
    · rw [if_neg e0]
      have hq : (t / 2 < j + 1) = (t / 2 < j) := by simp; omega
      simp [uc, hq]
set_option maxHeartbeats 1600000 in
theorem toUndoS_any (ao : Option Addr) (c n : Nat) (f g : Nat → Int) (Y : Nat → Prop) (w : World) (hn : n ≤ 1048576) (h : UndosAt Y w ao n f g) :
    Calls Try.prog 195 #[.slice ao n c] w fun e w' => e = .returned (.slice (some ⟨w.heap.size, 0, none⟩) n n) ∧ Row w' w.heap.size (n * 2) (uc f g) ∧ Blw w w' := by
  have H : Hid (UndosAt Y w ao n f g) := h
  clear h
  have hmk := mkUndos n hn
  go_enter Try.func195, Try.ntmps195
  go_wp2
  clear hmk
  go_loopw [4] (fun i wr => ∃ j : Nat, j ≤ n ∧ i = .int .i64 j ∧ Row wr w.heap.size (n * 2) (uc (fun t => if t < j then f t else 0) (fun t => if t < j then g t else 0)) ∧ Blw w wr) (fun i _ => n - (intOf i).toNat)
  case atStart => exact ⟨0, Nat.zero_le _, rfl, (Row.made2 w (.int .i64 0) (n * 2) 144).congr (fun i _ => by simp [uc]), (Blw.refl _).alloc _⟩
  case round =>
    obtain ⟨j, hj, rfl, hr, hb⟩ := hrel
    have HR : Hid (Row wr w.heap.size (n * 2) (uc (fun t => if t < j then f t else 0) (fun t => if t < j then g t else 0))) := hr
    have HB : Hid (Blw w wr) := hb
    clear hr hb
    by_cases hlt : j < n
    · obtain ⟨b, o, rfl, -, g1, g2⟩ := (H.out.blw HB.out).2 j hlt
      have hlt' : (j : Int) < n := by omega
      have hw := HR.out.lt
      clear H
      go_wp2_with fail
      refine (toUndo_any _ _ _).mono ?_
      rintro e w1 ⟨rfl, hb1⟩
      clear g1 g2
      have HR1 : Hid (Row w1 w.heap.size (n * 2) (uc (fun t => if t < j then f t else 0) (fun t => if t < j then g t else 0))) := HR.out.blw hb1
      have HB1 : Hid (Blw w w1) := HB.out.trans hb1
      clear HR HB hb1
      have p0 := HR1.out.cell (i := j * 2) (by omega)
      have p1 := HR1.out.cell (i := j * 2 + 1) (by omega)
      have f0 := HR1.out.frozen (j * 2)
      have f1 := HR1.out.frozen (j * 2 + 1)
      rw [(uc_at _ _ j).1] at p0
      rw [(uc_at _ _ j).2] at p1
      have HS : Hid _ := fill2_step hlt HR1.out
      clear HR1 hw
      go_wp2
      go_roundw
      case rel => exact ⟨j + 1, by omega, by go_num, HS.out, (HB1.out.setCell (Nat.le_refl _) _).setCell (Nat.le_refl _) _⟩
      case measure => simp [intOf]; omega
    · go_wp2
      go_ret
      obtain rfl : j = n := by omega
      refine ⟨rfl, HR.out.congr fun i hi => ?_, HB.out⟩
      have : i / 2 < j := by omega
      simp [uc, this]
set_option maxHeartbeats 400000 in
theorem eqUndo_same (x y : Int) (w : World) : Calls Try.prog 196 #[.agg #[.int .i64 x, .int .i64 y], .agg #[.int .i64 x, .int .i64 y]] w fun e w' => e = .returned (.bool true) ∧ Blw w w' := by
  have h1 : (x != x) = false := by simp
  have h2 : (y != y) = false := by simp
  go_enter Try.func196, Try.ntmps196
  go_wp2
  go_ret
  exact ⟨rfl, ((Blw.refl _).alloc _).alloc _⟩
set_option maxHeartbeats 1600000 in
theorem eqUndoS_same (a1 a2 : Option Addr) (c1 c2 n : Nat) (f g : Nat → Int) {X Y : Nat → Prop} (w : World) (h1 : UndosAt X w a1 n f g) (h2 : UndosAt Y w a2 n f g) :
    Calls Try.prog 183 #[.slice a1 n c1, .slice a2 n c2] w fun e w' => e = .returned (.bool true) ∧ Blw w w' := by
  have H1 : Hid (UndosAt X w a1 n f g) := h1
  have H2 : Hid (UndosAt Y w a2 n f g) := h2
  have hn := h1.1
  clear h1 h2
  have hne : ((n : Int) != (n : Int)) = false := by simp
  go_enter Try.func183, Try.ntmps183
  go_wp2_with fail
  go_loopw [5] (fun i wr => ∃ k : Nat, k ≤ n ∧ i = .int .i64 k ∧ Blw w wr) (fun i _ => n - (intOf i).toNat)
  case atStart => exact ⟨0, Nat.zero_le _, rfl, Blw.refl _⟩
  case round =>
    obtain ⟨k, hk, rfl, hb⟩ := hrel
    by_cases hlt : k < n
    · have hlt' : (k : Int) < n := by omega
      obtain ⟨b1, o1, rfl, -, r10, r11⟩ := (H1.out.blw hb).2 k hlt
      obtain ⟨b2, o2, rfl, -, r20, r21⟩ := (H2.out.blw hb).2 k hlt
      have P0 : ∀ w', Blw wr w' → w'.cell? ⟨b1, o1 + k * 2, none⟩ = some (.int .i64 (f k)) := fun w' hh => hh.cell r10
      have P1 : ∀ w', Blw wr w' → w'.cell? ⟨b1, o1 + k * 2 + 1, none⟩ = some (.int .i64 (g k)) := fun w' hh => hh.cell r11
      have Q0 : ∀ w', Blw wr w' → w'.cell? ⟨b2, o2 + k * 2, none⟩ = some (.int .i64 (f k)) := fun w' hh => hh.cell r20
      have Q1 : ∀ w', Blw wr w' → w'.cell? ⟨b2, o2 + k * 2 + 1, none⟩ = some (.int .i64 (g k)) := fun w' hh => hh.cell r21
      have HB : Hid (Blw w wr) := hb
      clear r10 r11 r20 r21 H1 H2 hb
      go_wp2_with fail
      go_region_held3 (fun w' => Blw wr w') ((first | exact (Blw.refl _).drew | assumption | exact Blw.trans (by assumption) (by assumption))) (first
        | (go_at_call 196; refine (eqUndo_same (f k) (g k) _).mono ?_; rintro e w7 ⟨rfl, hb7⟩))
      all_goals go_wp2
      all_goals go_roundw
      all_goals first | exact ⟨k + 1, by omega, by go_num, HB.out.trans (by assumption)⟩ | (simp [intOf]; omega)
    · obtain rfl : k = n := by omega
      go_wp2
      go_ret
      exact ⟨rfl, hb⟩
def mkc (k : Int) : Nat → Int := fun j => k + 2 * j
def mkw (k : Int) : Nat → Int := fun j => k + 2 * j + 1
set_option maxHeartbeats 1600000 in
theorem markUndoS_any (ao : Option Addr) (c n : Nat) (f g : Nat → Int) (X : Nat → Prop) (k : Int) (w : World) (h1 : 0 ≤ k) (h2 : k + 2 * n ≤ 9223372036854775807) (h : UndosOwn X w ao n f g) :
    Calls Try.prog 184 #[.slice ao n c, .int .i64 k] w fun e w' => e = .returned (.int .i64 (k + 2 * n)) ∧ UndosOwn X w' ao n (mkc k) (mkw k) ∧ Mod X w w' := by
  have H : Hid (UndosOwn X w ao n f g) := h
  have hn := h.1
  clear h
  go_enter Try.func184, Try.ntmps184
  go_wp2_with fail
  go_loopw [1, 5] (fun kv iv wr => ∃ i : Nat, i ≤ n ∧ iv = .int .i64 i ∧ kv = .int .i64 (k + 2 * i) ∧ UndosOwn X wr ao n (fun j => if j < i then mkc k j else f j) (fun j => if j < i then mkw k j else g j) ∧ Mod X w wr) (fun _ i _ => n - (intOf i).toNat)
  case atStart => exact ⟨0, Nat.zero_le _, rfl, by simp, by simpa using H.out, Mod.refl _ _⟩
  case round =>
    obtain ⟨i, hi, rfl, rfl, S, hm⟩ := hrel
    clear H
    by_cases hlt : i < n
    · have hlt' : (i : Int) < n := by omega
      obtain ⟨b, hx, rfl, r⟩ := S.2 (by omega)
      obtain ⟨p0, p1⟩ := undo_get r hlt
      have f0 := r.frozen (i * 2)
      have f1 := r.frozen (i * 2 + 1)
      have HR : Hid (Row ((wr.setCell ⟨b, i * 2, none⟩ (.int .i64 (k + 2 * i))).setCell ⟨b, i * 2 + 1, none⟩ (.int .i64 (k + 2 * i + 1))) b (n * 2) (uc (fun t => if t < i + 1 then mkc k t else f t) (fun t => if t < i + 1 then mkw k t else g t))) := fill2_step (f := mkc k) (g := mkw k) hlt r
      have HM : Hid (Mod X w ((wr.setCell ⟨b, i * 2, none⟩ (.int .i64 (k + 2 * i))).setCell ⟨b, i * 2 + 1, none⟩ (.int .i64 (k + 2 * i + 1)))) := (hm.trans (Mod.setCell _ (p := ⟨b, i * 2, none⟩) hx _)).trans (Mod.setCell _ (p := ⟨b, i * 2 + 1, none⟩) hx _)
      clear S hm r
      have e1 : k + 2 * (i : Int) + 1 + 1 = k + 2 * i + 2 := by omega
      go_wp2
      go_roundw
      case rel => exact ⟨i + 1, by omega, by go_num, by congr 1; omega, ⟨hn, fun _ => ⟨b, hx, rfl, HR.out⟩⟩, HM.out⟩
      case measure => simp [intOf]; omega
    · obtain rfl : i = n := by omega
      go_wp2
      go_ret
      refine ⟨rfl, S.congr (fun t ht => by simp [ht]), hm⟩
set_option maxHeartbeats 1600000 in
theorem heldUndoS_any (ao : Option Addr) (c n : Nat) (X : Nat → Prop) (k : Int) (w : World) (h1 : 0 ≤ k) (h2 : k + 2 * n ≤ 9223372036854775807) (h : UndosOwn X w ao n (mkc k) (mkw k)) :
    Calls Try.prog 185 #[.slice ao n c, .int .i64 k] w fun e w' => e = .returned (.int .i64 (k + 2 * n)) ∧ Blw w w' := by
  have H : Hid (UndosOwn X w ao n (mkc k) (mkw k)) := h
  have hn := h.1
  clear h
  go_enter Try.func185, Try.ntmps185
  go_wp2_with fail
  go_loopw [1, 5] (fun kv iv wr => ∃ i : Nat, i ≤ n ∧ iv = .int .i64 i ∧ kv = .int .i64 (k + 2 * i) ∧ wr = w) (fun _ i _ => n - (intOf i).toNat)
  case atStart => exact ⟨0, Nat.zero_le _, rfl, by simp, rfl⟩
  case round =>
    obtain ⟨i, hi, rfl, rfl, rfl⟩ := hrel
    by_cases hlt : i < n
    · have hlt' : (i : Int) < n := by omega
      obtain ⟨b, hx, rfl, r⟩ := H.out.2 (by omega)
      obtain ⟨p0, p1⟩ := undo_get r hlt
      simp only [mkc, mkw] at p0 p1
      have e1 : k + 2 * (i : Int) + 1 + 1 = k + 2 * i + 2 := by omega
      have n0 : ((k + 2 * (i : Int)) != (k + 2 * (i : Int))) = false := by simp
      have n1 : ((k + 2 * (i : Int) + 1) != (k + 2 * (i : Int) + 1)) = false := by simp
      clear r
      go_wp2
      go_roundw
      case rel => exact ⟨i + 1, by omega, by go_num, by congr 1; omega, by first | rfl | trivial⟩
      case measure => simp [intOf]; omega
    · obtain rfl : i = n := by omega
      go_wp2
      go_ret
      exact ⟨rfl, Blw.refl _⟩
end Go.Proofs.Ytjplodenflkghaa
/- Tables: lists of tops and lists of lists of leaves: what they read as, what is owned. -/
namespace Go.Proofs.Ytjplodenflkghaa
open Go.RowKit
set_option linter.unusedSimpArgs false
set_option linter.unusedVariables false
theorem drewN_blw (w : World) (n : Nat) : Blw w (w.drewN n) := (Blw.refl w).drewN n
def pre (len : Nat → Nat) : Nat → Nat
  | 0 => 0
  | j + 1 => pre len j + len j
theorem pre_mono (len : Nat → Nat) {i j : Nat} (h : i ≤ j) : pre len i ≤ pre len j := by
  induction j with
  | zero => obtain rfl : i = 0 := by omega
            exact Nat.le_refl _
  | succ j ih =>
    by_cases e : i = j + 1
    · subst e; exact Nat.le_refl _
    · have := ih (by omega); simp only [pre]; omega
/-- Lists of leaves: how many, how long each, their pages, what they may. -/
structure PD where
  n : Nat
  len : Nat → Nat
  p : Nat → Nat → Int
  m : Nat → Nat → Int
abbrev PD.zero : PD := ⟨0, fun _ => 0, fun _ _ => 0, fun _ _ => 0⟩
abbrev PD.tot (D : PD) : Nat := pre D.len D.n
def PSAt (Y : Nat → Prop) (w : World) (ao : Option Addr) (D : PD) : Prop :=
  D.n ≤ 9223372036854775807 ∧ ∀ i, i < D.n → ∃ b o a c, ao = some ⟨b, o, none⟩ ∧ Y b ∧ w.cell? ⟨b, o + i, none⟩ = some (.slice a (D.len i) c) ∧ UndosAt Y w a (D.len i) (D.p i) (D.m i)
structure PSIn (X : Nat → Prop) (w : World) (b : Nat) (A : Nat → Option Addr) (c : Nat → Nat) (D : PD) (Z : Nat → Nat → Prop) : Prop where
  row : Row w b D.n (fun i => .slice (A i) (D.len i) (c i))
  own : ∀ i, i < D.n → UndosOwn (Z i) w (A i) (D.len i) (D.p i) (D.m i)
  sub : ∀ i, i < D.n → ∀ x, Z i x → X x ∧ x ≠ b
  dis : ∀ i j, i < D.n → j < D.n → i ≠ j → ∀ x, Z i x → ¬ Z j x
  hb : X b
def PSOwn (X : Nat → Prop) (w : World) (ao : Option Addr) (D : PD) : Prop :=
  D.n ≤ 9223372036854775807 ∧ (0 < D.n → ∃ b A c Z, ao = some ⟨b, 0, none⟩ ∧ PSIn X w b A c D Z)
theorem PSAt.mod {X Y : Nat → Prop} {w w' : World} {ao : Option Addr} {D : PD} (h : PSAt Y w ao D) (hb : Mod X w w') (hxy : ∀ k, Y k → ¬ X k) : PSAt Y w' ao D :=
  ⟨h.1, fun i hi => let ⟨b, o, a, c, h1, hY, h2, h3⟩ := h.2 i hi; ⟨b, o, a, c, h1, hY, hb.cell h2 (hxy _ hY), h3.mod hb hxy⟩⟩
theorem PSAt.blw {Y : Nat → Prop} {w w' : World} {ao : Option Addr} {D : PD} (h : PSAt Y w ao D) (hb : Blw w w') : PSAt Y w' ao D := h.mod (hb.mod (fun _ => False)) (fun _ _ => id)
theorem PSAt.mono {X Y : Nat → Prop} {w : World} {ao : Option Addr} {D : PD} (h : PSAt X w ao D) (hxy : ∀ b, X b → Y b) : PSAt Y w ao D :=
  ⟨h.1, fun i hi => let ⟨b, o, a, c, h1, hY, h2, h3⟩ := h.2 i hi; ⟨b, o, a, c, h1, hxy _ hY, h2, h3.mono hxy⟩⟩
theorem PSOwn.at {X : Nat → Prop} {w : World} {ao : Option Addr} {D : PD} (h : PSOwn X w ao D) : PSAt X w ao D := by
  refine ⟨h.1, fun i hi => ?_⟩
  obtain ⟨b, A, c, Z, rfl, S⟩ := h.2 (by omega)
  exact ⟨b, 0, A i, c i, rfl, S.hb, by rw [Nat.zero_add]; exact S.row.cell hi, (S.own i hi).at.mono (fun x hx => (S.sub i hi x hx).1)⟩
theorem PSIn.mod {X Q : Nat → Prop} {w w' : World} {b : Nat} {A : Nat → Option Addr} {c : Nat → Nat} {D : PD} {Z : Nat → Nat → Prop} (h : PSIn X w b A c D Z) (hm : Mod Q w w') (hx : ∀ x, X x → ¬ Q x) : PSIn X w' b A c D Z :=
  ⟨h.row.mod hm (hx _ h.hb), fun i hi => (h.own i hi).mod hm (fun x hz => hx x (h.sub i hi x hz).1), h.sub, h.dis, h.hb⟩
theorem PSOwn.mod {X Q : Nat → Prop} {w w' : World} {ao : Option Addr} {D : PD} (h : PSOwn X w ao D) (hm : Mod Q w w') (hx : ∀ x, X x → ¬ Q x) : PSOwn X w' ao D :=
  ⟨h.1, fun h0 => let ⟨b, A, c, Z, e, S⟩ := h.2 h0; ⟨b, A, c, Z, e, S.mod hm hx⟩⟩
theorem PSOwn.blw {X : Nat → Prop} {w w' : World} {ao : Option Addr} {D : PD} (h : PSOwn X w ao D) (hb : Blw w w') : PSOwn X w' ao D := h.mod (hb.mod (fun _ => False)) (fun _ _ => id)
theorem PSOwn.mono {X Y : Nat → Prop} {w : World} {ao : Option Addr} {D : PD} (h : PSOwn X w ao D) (hxy : ∀ b, X b → Y b) : PSOwn Y w ao D :=
  ⟨h.1, fun h0 => let ⟨b, A, c, Z, e, S⟩ := h.2 h0; ⟨b, A, c, Z, e, ⟨S.row, S.own, fun i hi x hx => ⟨hxy _ (S.sub i hi x hx).1, (S.sub i hi x hx).2⟩, S.dis, hxy _ S.hb⟩⟩⟩
theorem PSOwn.zero (X : Nat → Prop) (w : World) (ao : Option Addr) : PSOwn X w ao PD.zero := ⟨by show 0 ≤ _; omega, fun h => absurd h (Nat.not_lt_zero _)⟩
/-- What a table holds: its tops, its lists of leaves. -/
structure BD where
  n : Nat
  c : Nat → Int
  D : PD
abbrev BD.k (B : BD) : Nat := B.D.n
/-- The value of a table: two slices. -/
structure BV where
  a1 : Option Addr
  a2 : Option Addr
  c1 : Nat
  c2 : Nat
abbrev BV.val (b : BV) (B : BD) : Value := .agg #[.slice b.a1 B.n b.c1, .slice b.a2 B.D.n b.c2]
structure BookAt (Y : Nat → Prop) (w : World) (b : BV) (B : BD) : Prop where
  c : IntsAt Y w b.a1 B.n B.c
  l : PSAt Y w b.a2 B.D
structure BookOwn (X : Nat → Prop) (w : World) (b : BV) (B : BD) : Prop where
  ex : ∃ X1 X2 : Nat → Prop, (∀ b, X1 b → X b ∧ ¬ X2 b) ∧ (∀ b, X2 b → X b) ∧ IntsOwn X1 w b.a1 B.n B.c ∧ PSOwn X2 w b.a2 B.D
theorem BookAt.blw {Y : Nat → Prop} {w w' : World} {b : BV} {B : BD} (h : BookAt Y w b B) (hb : Blw w w') : BookAt Y w' b B := ⟨h.c.blw hb, h.l.blw hb⟩
theorem BookAt.mod {X Y : Nat → Prop} {w w' : World} {b : BV} {B : BD} (h : BookAt Y w b B) (hb : Mod X w w') (hxy : ∀ k, Y k → ¬ X k) : BookAt Y w' b B := ⟨h.c.mod hb hxy, h.l.mod hb hxy⟩
theorem BookAt.mono {X Y : Nat → Prop} {w : World} {b : BV} {B : BD} (h : BookAt X w b B) (hxy : ∀ b, X b → Y b) : BookAt Y w b B := ⟨h.c.mono hxy, h.l.mono hxy⟩
theorem BookOwn.at {X : Nat → Prop} {w : World} {b : BV} {B : BD} (h : BookOwn X w b B) : BookAt X w b B := by
  obtain ⟨X1, X2, h1, h2, c, l⟩ := h.ex
  exact ⟨c.at.mono (fun b hb => (h1 b hb).1), l.at.mono h2⟩
theorem BookOwn.mod {X Z : Nat → Prop} {w w' : World} {b : BV} {B : BD} (h : BookOwn X w b B) (hb : Mod Z w w') (hxz : ∀ b, X b → ¬ Z b) : BookOwn X w' b B := by
  obtain ⟨X1, X2, h1, h2, c, l⟩ := h.ex
  exact ⟨X1, X2, h1, h2, c.mod hb (fun b hb => hxz b (h1 b hb).1), l.mod hb (fun b hb => hxz b (h2 b hb))⟩
theorem BookOwn.blw {X : Nat → Prop} {w w' : World} {b : BV} {B : BD} (h : BookOwn X w b B) (hb : Blw w w') : BookOwn X w' b B := h.mod (hb.mod (fun _ => False)) (fun _ _ => id)
theorem BookOwn.mono {X Y : Nat → Prop} {w : World} {b : BV} {B : BD} (h : BookOwn X w b B) (hxy : ∀ b, X b → Y b) : BookOwn Y w b B := by
  obtain ⟨X1, X2, h1, h2, c, l⟩ := h.ex
  exact ⟨X1, X2, fun b hb => ⟨hxy _ (h1 b hb).1, (h1 b hb).2⟩, fun b hb => hxy _ (h2 b hb), c, l⟩
abbrev BD.zero : BD := ⟨0, fun _ => 0, PD.zero⟩
abbrev BV.zero : BV := ⟨none, none, 0, 0⟩
theorem BookOwn.zero (X : Nat → Prop) (w : World) : BookOwn X w BV.zero BD.zero := ⟨fun _ => False, fun _ => False, fun _ h => h.elim, fun _ h => h.elim, IntsOwn.nil _ _ _ _, PSOwn.zero _ _ _⟩
/-! ### The laws' functions on lists of lists of leaves -/
set_option maxHeartbeats 800000 in
theorem szSS_any (ao : Option Addr) (c0 : Nat) (D : PD) (Y : Nat → Prop) (left : Int) (w : World) (h0 : 0 ≤ left) (h1 : left ≤ 1048576) (h : PSAt Y w ao D) :
    Calls Try.prog 180 #[.slice ao D.n c0, .int .i64 left] w fun e w' => ∃ r : Int, e = .returned (.int .i64 r) ∧ Left left (D.n + D.tot : Nat) r ∧ Blw w w' := by
  obtain ⟨n, len, p, m⟩ := D
  obtain ⟨hn, h⟩ := h
  simp only [PD.tot] at hn h ⊢
  have H : Hid (∀ i, i < n → ∃ b o a c, ao = some ⟨b, o, none⟩ ∧ Y b ∧ w.cell? ⟨b, o + i, none⟩ = some (.slice a (len i) c) ∧ UndosAt Y w a (len i) (p i) (m i)) := h
  clear h
  by_cases hl : left - n < 0
  · go_enter Try.func180, Try.ntmps180
    go_wp2
    go_ret
    exact ⟨_, rfl, Or.inl rfl, Blw.refl _⟩
  have hl2 : ¬ wrap64 (left - n) < 0 := by unfold wrap64; omega
  have hl3 : wrap64 (left - n) = left - n := by unfold wrap64; omega
  go_enter Try.func180, Try.ntmps180
  go_wp2
  go_loopw [1, 5] (fun kk i wr => ∃ (j : Nat) (r : Int), j ≤ n ∧ i = .int .i64 j ∧ kk = .int .i64 r ∧ 0 ≤ r ∧ r + (n + pre len j : Nat) ≤ left ∧ Blw w wr) (fun _ i _ => n - (intOf i).toNat)
  case atStart => exact ⟨0, left - n, Nat.zero_le _, rfl, rfl, by omega, by simp [pre], Blw.refl _⟩
  case round =>
    obtain ⟨j, r, hj, rfl, rfl, hr0, hr1, hb⟩ := hrel
    by_cases hlt : j < n
    · obtain ⟨b, o, a, c, e, -, g1, g2⟩ := H.out j hlt
      subst e
      replace g1 := hb.cell g1
      have hlen := g2.1
      have HP : Hid (pre len (j + 1) = pre len j + len j) := rfl
      have HB : Hid (Blw w wr) := hb
      have HR1 : Hid (r + (n + pre len j : Nat) ≤ left) := hr1
      have hr2 : r ≤ 1048576 := by omega
      clear g2 hb hl hl2 hl3 hr1
      generalize len j = lj at *
      go_wp2_with fail
      refine (szUndoS_any _ _ _ _ _ hlen (by omega) (by omega)).mono ?_
      rintro e w1 ⟨r2, rfl, hr3, hb1⟩
      replace HB : Hid (Blw w w1) := HB.out.trans hb1
      clear hb1 g1
      rcases hr3 with rfl | ⟨q0, q1⟩
      · go_wp2
        go_ret
        exact ⟨_, rfl, Or.inl rfl, HB.out⟩
      · have hnn : ¬ r2 < 0 := by omega
        go_wp2
        go_roundw
        case rel => exact ⟨j + 1, r2, by omega, by go_num, rfl, q0, by have := HR1.out; rw [HP.out]; omega, HB.out⟩
        case measure => simp [intOf]; omega
    · obtain rfl : j = n := by omega
      go_wp2
      go_ret
      exact ⟨_, rfl, Or.inr ⟨hr0, hr1⟩, hb⟩
def markedTo (D : PD) (k : Int) (j : Nat) : PD := ⟨D.n, D.len, fun i t => if i < j then mkc (k + 2 * pre D.len i) t else D.p i t, fun i t => if i < j then mkw (k + 2 * pre D.len i) t else D.m i t⟩
def PD.marked (D : PD) (k : Int) : PD := ⟨D.n, D.len, fun i => mkc (k + 2 * pre D.len i), fun i => mkw (k + 2 * pre D.len i)⟩
theorem ss_step {X : Nat → Prop} {wr w1 : World} {j b : Nat} {A : Nat → Option Addr} {c : Nat → Nat} {D : PD} {Z : Nat → Nat → Prop} {k : Int} (hj : j < D.n) (S : PSIn X wr b A c (markedTo D k j) Z)
    (ho : UndosOwn (Z j) w1 (A j) (D.len j) (mkc (k + 2 * pre D.len j)) (mkw (k + 2 * pre D.len j))) (hm : Mod (Z j) wr w1) : PSIn X w1 b A c (markedTo D k (j + 1)) Z := by
  have hj' : j < (markedTo D k j).n := hj
  refine ⟨S.row.mod hm (fun e => (S.sub j hj' _ e).2 rfl), fun i hi => ?_, S.sub, S.dis, S.hb⟩
  have hi' : i < (markedTo D k j).n := hi
  show UndosOwn (Z i) w1 (A i) (D.len i) (fun t => if i < j + 1 then mkc (k + 2 * pre D.len i) t else D.p i t) (fun t => if i < j + 1 then mkw (k + 2 * pre D.len i) t else D.m i t)
  by_cases e : i = j
  · subst e
    exact ho.congr (fun t ht => by rw [if_pos (by omega), if_pos (by omega)]; exact ⟨rfl, rfl⟩)
  · have := (S.own i hi').mod hm (fun x hx hz => S.dis i j hi' hj' e x hx hz)
    refine this.congr (fun t ht => ?_)
    show (if i < j then mkc (k + 2 * pre D.len i) t else D.p i t) = (if i < j + 1 then mkc (k + 2 * pre D.len i) t else D.p i t) ∧ (if i < j then mkw (k + 2 * pre D.len i) t else D.m i t) = (if i < j + 1 then mkw (k + 2 * pre D.len i) t else D.m i t)
    by_cases h2 : i < j
    · rw [if_pos h2, if_pos (by omega), if_pos h2, if_pos (by omega)]; exact ⟨rfl, rfl⟩
    · rw [if_neg h2, if_neg (by omega), if_neg h2, if_neg (by omega)]; exact ⟨rfl, rfl⟩
theorem marked_ahead {D : PD} {k : Int} {X : Nat → Prop} {w : World} {ao : Option Addr} (h : PSOwn X w ao D) : PSOwn X w ao (markedTo D k 0) :=
  ⟨h.1, fun h0 => let ⟨b, A, c, Z, e, S⟩ := h.2 h0; ⟨b, A, c, Z, e, ⟨S.row, fun i hi => (S.own i hi).congr (fun t ht => ⟨by show _ = if i < 0 then mkc (k + 2 * pre D.len i) t else D.p i t; rw [if_neg (by omega)], by show _ = if i < 0 then mkw (k + 2 * pre D.len i) t else D.m i t; rw [if_neg (by omega)]⟩), S.sub, S.dis, S.hb⟩⟩⟩
theorem marked_end {D : PD} {k : Int} {X : Nat → Prop} {w : World} {ao : Option Addr} (h : PSOwn X w ao (markedTo D k D.n)) : PSOwn X w ao (D.marked k) :=
  ⟨h.1, fun h0 => let ⟨b, A, c, Z, e, S⟩ := h.2 h0; ⟨b, A, c, Z, e, ⟨S.row, fun i hi => (S.own i hi).congr (fun t ht => ⟨by show (if i < D.n then mkc (k + 2 * pre D.len i) t else D.p i t) = _; exact if_pos hi, by show (if i < D.n then mkw (k + 2 * pre D.len i) t else D.m i t) = _; exact if_pos hi⟩), S.sub, S.dis, S.hb⟩⟩⟩
set_option maxHeartbeats 800000 in
theorem markSS_any (ao : Option Addr) (c0 : Nat) (D : PD) (X : Nat → Prop) (k : Int) (w : World) (hk0 : 0 ≤ k) (hk : k + 2 * D.tot ≤ 9223372036854775807) (h : PSOwn X w ao D) :
    Calls Try.prog 136 #[.slice ao D.n c0, .int .i64 k] w fun e w' => e = .returned (.int .i64 (k + 2 * D.tot)) ∧ PSOwn X w' ao (D.marked k) ∧ Mod X w w' := by
  obtain ⟨n, len, p, m⟩ := D
  have hn := h.1
  simp only [PD.tot] at hn hk ⊢
  go_enter Try.func136, Try.ntmps136
  go_wp2
  go_loopw [1, 5] (fun kk i wr => ∃ j : Nat, j ≤ n ∧ i = .int .i64 j ∧ kk = .int .i64 (k + 2 * pre len j) ∧ PSOwn X wr ao (markedTo ⟨n, len, p, m⟩ k j) ∧ Mod X w wr) (fun _ i _ => n - (intOf i).toNat)
  case atStart => exact ⟨0, Nat.zero_le _, rfl, by simp [pre], marked_ahead h, Mod.refl _ _⟩
  case round =>
    obtain ⟨j, hj, rfl, rfl, ho, hm⟩ := hrel
    by_cases hlt : j < n
    · obtain ⟨b, A, c, Z, e, S⟩ := ho.2 (show 0 < n by omega)
      have hjn : j < (markedTo ⟨n, len, p, m⟩ k j).n := hlt
      have IOJ : Hid (UndosOwn (Z j) wr (A j) (len j) (p j) (m j)) := (S.own j hjn).congr (fun t ht => ⟨by show (if j < j then mkc (k + 2 * pre len j) t else p j t) = _; rw [if_neg (by omega)], by show (if j < j then mkw (k + 2 * pre len j) t else m j t) = _; rw [if_neg (by omega)]⟩)
      have HSUB : Hid (∀ x, Z j x → X x ∧ x ≠ b) := S.sub j hjn
      have g1 : wr.cell? ⟨b, j, none⟩ = some (.slice (A j) (len j) (c j)) := S.row.cell hjn
      have hp : pre len (j + 1) ≤ pre len n := pre_mono len (by omega)
      have hp1 : pre len (j + 1) = pre len j + len j := rfl
      have HP : Hid (pre len (j + 1) = pre len j + len j) := hp1
      have hb2 : (pre len j : Int) + len j ≤ pre len n := by omega
      clear hp hp1
      subst e
      have HS : Hid (PSIn X wr b A c (markedTo ⟨n, len, p, m⟩ k j) Z) := S
      have HM : Hid (Mod X w wr) := hm
      clear h ho S hjn hm
      go_wp2_with fail
      refine (markUndoS_any _ _ _ (p j) (m j) _ _ _ (by omega) (by omega) IOJ.out).mono ?_
      rintro e w1 ⟨rfl, ho1, hm1⟩
      have R : Hid (PSIn X w1 b A c (markedTo ⟨n, len, p, m⟩ k (j + 1)) Z) := ss_step (D := ⟨n, len, p, m⟩) hlt HS.out ho1 hm1
      have hm2 : Hid (Mod X w w1) := HM.out.trans (hm1.mono (fun x hx => (HSUB.out x hx).1))
      clear HS IOJ ho1 hm1 g1 HM
      go_wp2
      go_roundw
      case rel => exact ⟨j + 1, by omega, by go_num, by rw [HP.out]; go_num, ⟨hn, fun _ => ⟨b, A, c, Z, rfl, R.out⟩⟩, hm2.out⟩
      case measure => simp [intOf]; omega
    · obtain rfl : j = n := by omega
      have HO : Hid (PSOwn X wr ao (markedTo ⟨j, len, p, m⟩ k j)) := ho
      have HM : Hid (Mod X w wr) := hm
      clear ho hm h
      go_wp2
      go_ret
      exact ⟨rfl, marked_end (D := ⟨j, len, p, m⟩) HO.out, HM.out⟩
set_option maxHeartbeats 800000 in
theorem heldSS_any (ao : Option Addr) (c0 : Nat) (D : PD) (X : Nat → Prop) (k : Int) (w : World) (hk0 : 0 ≤ k) (hk : k + 2 * D.tot ≤ 9223372036854775807) (h : PSOwn X w ao (D.marked k)) :
    Calls Try.prog 137 #[.slice ao D.n c0, .int .i64 k] w fun e w' => e = .returned (.int .i64 (k + 2 * D.tot)) ∧ Blw w w' := by
  obtain ⟨n, len, p, m⟩ := D
  have hn := h.1
  simp only [PD.tot, PD.marked] at hn hk h ⊢
  have H : Hid (PSOwn X w ao ⟨n, len, fun i => mkc (k + 2 * pre len i), fun i => mkw (k + 2 * pre len i)⟩) := h
  clear h
  go_enter Try.func137, Try.ntmps137
  go_wp2
  go_loopw [1, 5] (fun kk i wr => ∃ j : Nat, j ≤ n ∧ i = .int .i64 j ∧ kk = .int .i64 (k + 2 * pre len j) ∧ Blw w wr) (fun _ i _ => n - (intOf i).toNat)
  case atStart => exact ⟨0, Nat.zero_le _, rfl, by simp [pre], Blw.refl _⟩
  case round =>
    obtain ⟨j, hj, rfl, rfl, hb⟩ := hrel
    by_cases hlt : j < n
    · obtain ⟨b, A, c, Z, e, S⟩ := H.out.2 (show 0 < n by omega)
      subst e
      have g1 : wr.cell? ⟨b, j, none⟩ = some (.slice (A j) (len j) (c j)) := hb.cell (S.row.cell hlt)
      have G2 : Hid (UndosOwn (Z j) wr (A j) (len j) (mkc (k + 2 * pre len j)) (mkw (k + 2 * pre len j))) := (S.own j hlt).blw hb
      have hp : pre len (j + 1) ≤ pre len n := pre_mono len (by omega)
      have hp1 : pre len (j + 1) = pre len j + len j := rfl
      have HP : Hid (pre len (j + 1) = pre len j + len j) := hp1
      have hb2 : (pre len j : Int) + len j ≤ pre len n := by omega
      have hb3 : 0 ≤ k + 2 * pre len j + 2 * len j := by omega
      clear H hp hp1 S
      go_wp2_with fail
      refine (heldUndoS_any _ _ _ (Z j) _ _ (by omega) (by omega) G2.out).mono ?_
      rintro e w1 ⟨rfl, hb1⟩
      replace hb := hb.trans hb1
      clear g1 G2 hb1
      go_wp2
      go_roundw
      case rel => exact ⟨j + 1, by omega, by go_num, by rw [HP.out]; go_num, hb⟩
      case measure => simp [intOf]; omega
    · obtain rfl : j = n := by omega
      go_wp2
      go_ret
      exact ⟨rfl, hb⟩
set_option maxHeartbeats 800000 in
theorem eqSS_same (a1 a2 : Option Addr) (c1 c2 : Nat) (D : PD) {Y Z : Nat → Prop} (w : World) (h1 : PSAt Y w a1 D) (h2 : PSAt Z w a2 D) :
    Calls Try.prog 135 #[.slice a1 D.n c1, .slice a2 D.n c2] w fun e w' => e = .returned (.bool true) ∧ Blw w w' := by
  obtain ⟨n0, len, f, g⟩ := D
  obtain ⟨hl, h1⟩ := h1
  obtain ⟨-, h2⟩ := h2
  dsimp only at hl h1 h2 ⊢
  go_enter Try.func135, Try.ntmps135
  go_wp2
  go_loopw [5] (fun i wr => ∃ k : Nat, k ≤ n0 ∧ i = .int .i64 k ∧ Blw w wr) (fun i _ => n0 - (intOf i).toNat)
  case atStart => exact ⟨0, Nat.zero_le _, rfl, Blw.refl _⟩
  case round =>
    obtain ⟨k, hk, rfl, hb⟩ := hrel
    by_cases hlt : k < n0
    · obtain ⟨b, o, e, ce, rfl, -, g1, k1⟩ := h1 k hlt
      obtain ⟨b', o', e', ce', rfl, -, g2, k2⟩ := h2 k hlt
      replace g1 := hb.cell g1
      replace g2 := hb.cell g2
      have K1 : Hid (UndosAt Y wr e (len k) (f k) (g k)) := k1.blw hb
      have K2 : Hid (UndosAt Z wr e' (len k) (f k) (g k)) := k2.blw hb
      clear h1 h2 k1 k2
      generalize len k = lk at *
      go_wp2
      go_region_with (go_at_call 183; refine (eqUndoS_same _ _ _ _ lk (f k) (g k) _ (K1.out.blw (Blw.refl _).drew) (K2.out.blw (Blw.refl _).drew)).mono ?_; rintro e w' ⟨rfl, hb2⟩)
      all_goals go_wp2
      all_goals go_roundw
      all_goals first | exact ⟨k + 1, by omega, by go_num, hb.trans ((Blw.refl _).drew.trans (by assumption))⟩ | (simp [intOf]; omega)
    · go_wp2
      go_ret
      exact ⟨rfl, hb⟩
end Go.Proofs.Ytjplodenflkghaa
/- The laws' functions on tables: measured, copied, compared, marked, held. -/
namespace Go.Proofs.Ytjplodenflkghaa
open Go.RowKit
set_option linter.unusedSimpArgs false
set_option linter.unusedVariables false
theorem tinfo78 : (Try.prog.info? 147).map (fun i => (i.zero, i.size, i.bytes)) = some (some (.slice none 0 0), 1, 24) := by kernel_rfl
theorem mkLists (n : Nat) (hn : n ≤ 1048576) (w : World) : (Instr.makeSlice 27 (.int .i64 n) (.int .i64 n)).run Try.prog w = .ok (.slice (some ⟨w.heap.size, 0, none⟩) n n) (w.alloc (.cells (madeCells #[.slice none 0 0] n) 147)) := by
  obtain ⟨i0, hi, hz0, hz1, hz2⟩ := info_parts tinfo78
  have h := run_make (P := Try.prog) w 27 147 i0 (.slice none 0 0) Try.underlying27 hi hz0 .i64 .i64 (n : Int) (n : Int) (by omega) (Int.le_refl _) (by rw [hz2]; omega) (by omega)
  simpa [hz1, Value.cells] using h
/-- Lists that are copied one after another into a new list at z. -/
structure Cpy (w wr : World) (z : Nat) (D : PD) (F : Nat → Nat) (j : Nat) : Prop where
  row : Row wr z D.n (fun i => if i < j then .slice (some ⟨F i, 0, none⟩) (D.len i) (D.len i) else .slice none 0 0)
  inn : ∀ i, i < j → Row wr (F i) (D.len i * 2) (uc (D.p i) (D.m i)) ∧ z < F i ∧ F i < wr.heap.size
  dis : ∀ i i', i < j → i' < j → i ≠ i' → F i ≠ F i'
  blw : Blw w wr
  lo : w.heap.size ≤ z
theorem Cpy.next {w wr w1 : World} {z : Nat} {D : PD} {F : Nat → Nat} {j : Nat} (h : Cpy w wr z D F j) (hj : j < D.n) (hb : Blw wr w1) (hr : Row w1 wr.heap.size (D.len j * 2) (uc (D.p j) (D.m j))) :
    Cpy w (w1.setCell ⟨z, j, none⟩ (.slice (some ⟨wr.heap.size, 0, none⟩) (D.len j) (D.len j))) z D (fun i => if i = j then wr.heap.size else F i) (j + 1) := by
  have hz := h.row.lt
  have hs := hb.size
  have hl := hr.lt
  have ms : Mod (fun x => x = z) w1 (w1.setCell ⟨z, j, none⟩ (.slice (some ⟨wr.heap.size, 0, none⟩) (D.len j) (D.len j))) := Mod.setCell (X := fun x => x = z) _ (p := ⟨z, j, none⟩) rfl _
  have hs2 := ms.size
  refine ⟨((h.row.blw hb).set j _).congr (fun i hi => ?_), fun i hi => ?_, fun i i' hi hi' hne => ?_, Mod.blw (h.blw.trans hb) ms (fun i hi => by have := h.lo; omega), h.lo⟩
  · by_cases e : i = j
    · subst e; simp
    · by_cases e2 : i < j
      · simp [e, e2, Nat.lt_succ_of_lt e2]
      · have e3 : ¬ i < j + 1 := by omega
        simp [e, e2, e3]
  · by_cases e : i = j
    · subst e
      simp only [if_pos]
      exact ⟨hr.mod ms (by omega), by omega, by omega⟩
    · obtain ⟨g1, g2, g3⟩ := h.inn i (by omega)
      simp only [if_neg e]
      exact ⟨(g1.blw hb).mod ms (by omega), g2, by omega⟩
  · by_cases e : i = j
    · have e' : ¬ i' = j := by omega
      have := (h.inn i' (by omega)).2.2
      simp only [if_pos e, if_neg e']; omega
    · by_cases e' : i' = j
      · have := (h.inn i (by omega)).2.2
        simp only [if_neg e, if_pos e']; omega
      · simp only [if_neg e, if_neg e']; exact h.dis i i' (by omega) (by omega) hne
theorem Cpy.own {w wr : World} {z : Nat} {D : PD} {F : Nat → Nat} (h : Cpy w wr z D F D.n) (hn : D.n ≤ 1048576) (hl : ∀ i, i < D.n → D.len i ≤ 1048576) : PSOwn (fun x => z ≤ x ∧ x < wr.heap.size) wr (some ⟨z, 0, none⟩) D := by
  refine ⟨by omega, fun _ => ⟨z, fun i => some ⟨F i, 0, none⟩, fun i => D.len i, fun i x => x = F i, rfl, ⟨h.row.congr (fun i hi => by rw [if_pos hi]), fun i hi => ⟨by have := hl i hi; omega, fun _ => ⟨F i, rfl, rfl, (h.inn i hi).1⟩⟩, fun i hi x hx => ?_, fun i j hi hj hne x hx hx' => h.dis i j hi hj hne (hx.symm.trans hx'), ⟨Nat.le_refl _, h.row.lt⟩⟩⟩⟩
  have := (h.inn i hi).2
  omega
theorem len_le {D : PD} {i : Nat} (hi : i < D.n) : D.len i ≤ D.tot := by
  have h1 : pre D.len (i + 1) ≤ pre D.len D.n := pre_mono D.len (by omega)
  have h2 : pre D.len (i + 1) = pre D.len i + D.len i := rfl
  show D.len i ≤ pre D.len D.n
  omega
set_option maxHeartbeats 1600000 in
theorem toSS_any (ao : Option Addr) (c0 : Nat) (D : PD) (Y : Nat → Prop) (w : World) (hS : D.n + D.tot ≤ 1048576) (h : PSAt Y w ao D) :
    Calls Try.prog 182 #[.slice ao D.n c0] w fun e w' => e = .returned (.slice (some ⟨w.heap.size, 0, none⟩) D.n D.n) ∧ PSOwn (fun x => w.heap.size ≤ x ∧ x < w'.heap.size) w' (some ⟨w.heap.size, 0, none⟩) D ∧ Blw w w' := by
  have hlen : ∀ i, i < D.n → D.len i ≤ 1048576 := fun i hi => by have := len_le hi; omega
  have HLN : Hid (∀ i, i < D.n → D.len i ≤ 1048576) := hlen
  have hn : D.n ≤ 1048576 := by omega
  have H : Hid (PSAt Y w ao D) := h
  have hmk := mkLists D.n hn
  clear h hlen hS
  obtain ⟨n, len, p, m⟩ := D
  dsimp only at hn hmk
  go_enter Try.func182, Try.ntmps182
  go_wp2
  clear hmk
  go_loopw [4] (fun i wr => ∃ j : Nat, j ≤ n ∧ i = .int .i64 j ∧ ∃ F, Cpy w wr w.heap.size ⟨n, len, p, m⟩ F j) (fun i _ => n - (intOf i).toNat)
  case atStart => exact ⟨0, Nat.zero_le _, rfl, fun _ => 0, ⟨(Row.made w (.slice none 0 0) n 147).congr (fun i hi => by rw [if_neg (by omega)]), fun i hi => absurd hi (Nat.not_lt_zero _), fun i i' hi => absurd hi (Nat.not_lt_zero _), (Blw.refl _).alloc _, Nat.le_refl _⟩⟩
  case round =>
    obtain ⟨j, hj, rfl, F, hC⟩ := hrel
    have HC : Hid (Cpy w wr w.heap.size ⟨n, len, p, m⟩ F j) := hC
    clear hC
    by_cases hlt : j < n
    · obtain ⟨b, o, a, c, e, -, g1, g2⟩ := H.out.2 j hlt
      subst e
      dsimp only at g1 g2
      replace g1 := HC.out.blw.cell g1
      have G2 : Hid (UndosAt Y wr a (len j) (p j) (m j)) := g2.blw HC.out.blw
      have hlj : len j ≤ 1048576 := HLN.out j hlt
      clear g2
      go_wp2_with fail
      refine (toUndoS_any _ _ (len j) (p j) (m j) Y _ hlj G2.out).mono ?_
      rintro e w1 ⟨rfl, hr, hb1⟩
      have HN : Hid (Cpy w (w1.setCell ⟨w.heap.size, j, none⟩ (.slice (some ⟨wr.heap.size, 0, none⟩) (len j) (len j))) w.heap.size ⟨n, len, p, m⟩ (fun i => if i = j then wr.heap.size else F i) (j + 1)) := HC.out.next (D := ⟨n, len, p, m⟩) hlt hb1 hr
      have rz := HC.out.row.blw hb1
      obtain ⟨vv, gv⟩ : ∃ v, w1.cell? ⟨w.heap.size, j, none⟩ = some v := ⟨_, rz.cell hlt⟩
      have gz := rz.frozen j
      clear HC G2 hr hb1 g1 rz
      go_wp2
      go_roundw
      case rel => exact ⟨j + 1, by omega, by go_num, _, HN.out⟩
      case measure => simp [intOf]; omega
    · obtain rfl : j = n := by omega
      have HO : Hid (PSOwn (fun x => w.heap.size ≤ x ∧ x < wr.heap.size) wr (some ⟨w.heap.size, 0, none⟩) ⟨j, len, p, m⟩) := Cpy.own (D := ⟨j, len, p, m⟩) HC.out hn HLN.out
      have HB : Hid (Blw w wr) := HC.out.blw
      clear HC
      go_wp2
      go_ret
      exact ⟨rfl, HO.out, HB.out⟩
set_option maxHeartbeats 800000 in
theorem szBook_any (b : BV) (B : BD) (Y : Nat → Prop) (w : World) (h : BookAt Y w b B) :
    Calls Try.prog 133 #[b.val B, .int .i64 1048576] w fun e w' => ∃ r : Int, e = .returned (.int .i64 r) ∧ Left 1048576 (B.n + (B.D.n + B.D.tot) : Nat) r ∧ Blw w w' := by
  have hn := h.c.1
  have HPS : Hid (PSAt Y w b.a2 B.D) := h.l
  clear h
  obtain ⟨n, c, ⟨k, len, lc, lw⟩⟩ := B
  dsimp only at hn
  go_enter Try.func133, Try.ntmps133
  go_wp2_with fail
  refine (szIntS_any _ _ _ _ _ hn (by omega) (by omega)).mono ?_
  rintro e w1 ⟨r, rfl, hr, hb1⟩
  have rb := (box2 w (.slice b.a1 n b.c1) (.slice b.a2 k b.c2) 89).blw hb1
  obtain ⟨p0, p1⟩ := get2 rb
  replace hb1 : Blw w w1 := ((Blw.refl _).alloc _).trans hb1
  clear rb
  rcases hr with rfl | ⟨g0, g1⟩
  · clear p0 p1
    go_wp2
    go_ret
    exact ⟨_, rfl, Or.inl rfl, hb1⟩
  · have hnn : ¬ r < 0 := by omega
    go_wp2_with fail
    clear p0 p1
    refine (szSS_any _ _ ⟨k, len, lc, lw⟩ Y _ _ (by omega) (by omega) (HPS.out.blw hb1)).mono ?_
    rintro e w2 ⟨r2, rfl, hr2, hb2⟩
    replace hb2 := hb1.trans hb2
    clear hb1 hnn
    rcases hr2 with rfl | ⟨g2, g3⟩
    · go_wp2
      go_ret
      exact ⟨_, rfl, Or.inl rfl, hb2⟩
    · have hnn : ¬ r2 < 0 := by omega
      go_wp2
      go_ret
      exact ⟨_, rfl, Or.inr ⟨g2, by omega⟩, hb2⟩
theorem set2_0 {w : World} {B : Nat} {a b : Value} (r : Row w B 2 (fun i => if i = 0 then a else b)) (u : Value) : Row (w.setCell ⟨B, 0, none⟩ u) B 2 (fun i => if i = 0 then u else b) :=
  (r.set 0 u).congr fun i hi => by by_cases e : i = 0 <;> simp [e]
theorem set2_1 {w : World} {B : Nat} {a b : Value} (r : Row w B 2 (fun i => if i = 0 then a else b)) (u : Value) : Row (w.setCell ⟨B, 1, none⟩ u) B 2 (fun i => if i = 0 then a else u) :=
  (r.set 1 u).congr fun i hi => by
    by_cases e : i = 0
    · simp [e]
    · obtain rfl : i = 1 := by omega
      simp
/-- The blocks that toBook lays first. -/
theorem to_boxes (w : World) (x y : Value) :
    let w0 := ((w.alloc (.cells #[x, y] 89)).alloc (.cells #[.slice none 0 0, .slice none 0 0] 29)).alloc (.cells #[.slice none 0 0, .slice none 0 0] 29)
    Blw w w0 ∧ Row w0 w.heap.size 2 (fun i => if i = 0 then x else y) ∧ Row w0 (w.heap.size + 1) 2 (fun i => if i = 0 then .slice none 0 0 else .slice none 0 0) ∧ Row w0 (w.heap.size + 1 + 1) 2 (fun i => if i = 0 then .slice none 0 0 else .slice none 0 0) ∧ w0.heap.size = w.heap.size + 1 + 1 + 1 := by
  intro w0
  have b1 : Blw (w.alloc (.cells #[x, y] 89)) w0 := ((Blw.refl _).alloc _).alloc _
  have b2 : Blw ((w.alloc (.cells #[x, y] 89)).alloc (.cells #[.slice none 0 0, .slice none 0 0] 29)) w0 := (Blw.refl _).alloc _
  refine ⟨(((Blw.refl _).alloc _).alloc _).alloc _, (box2 w x y 89).blw b1, ?_, ?_, by simp [w0]⟩
  · have := (box2 (w.alloc (.cells #[x, y] 89)) (.slice none 0 0) (.slice none 0 0) 29).blw b2
    rw [World.size_alloc] at this
    exact this
  · have := box2 ((w.alloc (.cells #[x, y] 89)).alloc (.cells #[.slice none 0 0, .slice none 0 0] 29)) (.slice none 0 0) (.slice none 0 0) 29
    rw [World.size_alloc, World.size_alloc] at this
    exact this
theorem set2_blw {w w1 : World} {B : Nat} (h : Blw w w1) (hB : w.heap.size ≤ B) (v0 v1 : Value) : Blw w ((w1.setCell ⟨B, 0, none⟩ v0).setCell ⟨B, 1, none⟩ v1) := (h.setCell hB _).setCell hB _
theorem set2_mod {X : Nat → Prop} (w1 : World) {B : Nat} (hB : X B) (v0 v1 : Value) : Mod X w1 ((w1.setCell ⟨B, 0, none⟩ v0).setCell ⟨B, 1, none⟩ v1) :=
  (Mod.setCell _ (p := ⟨B, 0, none⟩) hB _).trans (Mod.setCell _ (p := ⟨B, 1, none⟩) hB _)
set_option maxHeartbeats 1600000 in
theorem toBook_any (b : BV) (B : BD) (Y : Nat → Prop) (w : World) (hS : B.n + (B.D.n + B.D.tot) ≤ 1048576) (h : BookAt Y w b B) :
    Calls Try.prog 134 #[b.val B] w fun e w' => ∃ b' : BV, e = .returned (b'.val B) ∧ BookOwn (fun x => w.heap.size ≤ x ∧ x < w'.heap.size) w' b' B ∧ Blw w w' := by
  obtain ⟨n, c, ⟨k, len, lc, lw⟩⟩ := B
  dsimp only at hS
  have HC : Hid (IntsAt Y w b.a1 n c) := h.c
  have HL : Hid (PSAt Y w b.a2 ⟨k, len, lc, lw⟩) := h.l
  clear h
  go_enter Try.func134, Try.ntmps134
  go_wp2_with fail
  obtain ⟨hb0, r0, r1, r2, hz⟩ := to_boxes w (.slice b.a1 n b.c1) (.slice b.a2 k b.c2)
  revert hb0 r0 r1 r2 hz
  generalize ((w.alloc (.cells #[.slice b.a1 n b.c1, .slice b.a2 k b.c2] 89)).alloc (.cells #[.slice none 0 0, .slice none 0 0] 29)).alloc (.cells #[.slice none 0 0, .slice none 0 0] 29) = w0
  intro hb0 r0 r1 r2 hz
  refine (toIntS_any _ _ n c Y _ (by omega) (HC.out.blw hb0)).mono ?_
  rintro e w1 ⟨rfl, hi, hb1⟩
  rw [hz] at hi
  replace r0 := r0.blw hb1
  replace r1 := r1.blw hb1
  replace r2 := r2.blw hb1
  have hs0 := set2_0 r2 (.slice (some ⟨w.heap.size + 1 + 1 + 1, 0, none⟩) n n)
  have hm0 : Mod (fun x => x = w.heap.size + 1 + 1) w1 (w1.setCell ⟨w.heap.size + 1 + 1, 0, none⟩ (.slice (some ⟨w.heap.size + 1 + 1 + 1, 0, none⟩) n n)) := Mod.setCell (X := fun x => x = w.heap.size + 1 + 1) _ (p := ⟨w.heap.size + 1 + 1, 0, none⟩) rfl _
  have r0' := r0.mod hm0 (by omega)
  have hi' := hi.mod hm0 (by omega)
  have r1' := r1.mod hm0 (by omega)
  have hb2 : Blw w (w1.setCell ⟨w.heap.size + 1 + 1, 0, none⟩ (.slice (some ⟨w.heap.size + 1 + 1 + 1, 0, none⟩) n n)) := Mod.blw (hb0.trans hb1) hm0 (fun i hi => by omega)
  obtain ⟨p0, p1⟩ := get2 r2
  have q0 := r2.frozen 0
  obtain ⟨s0, s1⟩ := get2 r0'
  clear r2 r0 hm0 r1 hi
  go_wp2_with fail
  clear p0 p1 q0
  revert hs0 r0' hi' r1' hb2 s0 s1
  generalize w1.setCell ⟨w.heap.size + 1 + 1, 0, none⟩ (.slice (some ⟨w.heap.size + 1 + 1 + 1, 0, none⟩) n n) = w2
  intro hs0 r0' hi' r1' hb2 s0 s1
  clear s0 s1 r0'
  have hz2 := hi'.lt
  refine (toSS_any _ _ ⟨k, len, lc, lw⟩ Y _ (by show k + _ ≤ _; omega) (HL.out.blw hb2)).mono ?_
  rintro e w3 ⟨rfl, hu, hb3⟩
  have hz3 := hb3.size
  replace hs0 := hs0.blw hb3
  replace hi' := hi'.blw hb3
  replace r1' := r1'.blw hb3
  replace hb2 := hb2.trans hb3
  clear hb3 hb1 hb0 hz HC HL
  obtain ⟨p0, p1⟩ := get2 hs0
  obtain ⟨t0, t1⟩ := get2 r1'
  have f1 := hs0.frozen 1
  have g0 := r1'.frozen 0
  have g1 := r1'.frozen 1
  have HI : Hid (Row w3 (w.heap.size + 1 + 1 + 1) n (fun t => .int .i64 (c t))) := hi'
  have HU : Hid (PSOwn (fun x => w2.heap.size ≤ x ∧ x < w3.heap.size) w3 (some ⟨w2.heap.size, 0, none⟩) ⟨k, len, lc, lw⟩) := hu
  have HB : Hid (Blw w w3) := hb2
  have HN : Hid (w.heap.size + 1 + 1 + 1 < w2.heap.size) := hz2
  have HN3 : Hid (w2.heap.size ≤ w3.heap.size) := hz3
  clear hi' hu hb2 hz2 hz3 hs0 r1'
  generalize w2.heap.size = z2 at *
  go_wp2
  refine bodyPost_ret (v := .agg #[.slice (some ⟨w.heap.size + 1 + 1 + 1, 0, none⟩) n n, .slice (some ⟨z2, 0, none⟩) k k]) (by simp [results, Try.results134, go_sem, t0, t1]) rfl ?_
  have m1 : Mod (fun x => x = w.heap.size + 1 ∨ x = w.heap.size + 1 + 1) w3 (((w3.setCell ⟨w.heap.size + 1 + 1, 1, none⟩ (.slice (some ⟨z2, 0, none⟩) k k)).setCell ⟨w.heap.size + 1, 0, none⟩ (.slice (some ⟨w.heap.size + 1 + 1 + 1, 0, none⟩) n n)).setCell ⟨w.heap.size + 1, 1, none⟩ (.slice (some ⟨z2, 0, none⟩) k k)) :=
    (Mod.setCell _ (p := ⟨w.heap.size + 1 + 1, 1, none⟩) (Or.inr rfl) _).trans (set2_mod _ (Or.inl rfl) _ _)
  have h3 := HN.out
  have h4 := HN3.out
  have h5 := m1.size
  refine ⟨⟨some ⟨w.heap.size + 1 + 1 + 1, 0, none⟩, some ⟨z2, 0, none⟩, n, k⟩, rfl, ⟨fun x => x = w.heap.size + 1 + 1 + 1, fun x => z2 ≤ x ∧ x < w3.heap.size, fun x hx => ⟨⟨by omega, by omega⟩, by omega⟩, fun x hx => ⟨by omega, by omega⟩, ⟨by show n ≤ _; omega, fun _ => ⟨_, rfl, rfl, HI.out.mod m1 (by omega)⟩⟩, HU.out.mod m1 (fun x hx e => by omega)⟩, Mod.blw HB.out m1 (fun i hi => by omega)⟩
set_option maxHeartbeats 1600000 in
theorem eqBook_same (b b' : BV) (B : BD) {X Y : Nat → Prop} (w : World) (h1 : BookAt X w b B) (h2 : BookAt Y w b' B) :
    Calls Try.prog 73 #[b.val B, b'.val B] w fun e w' => e = .returned (.bool true) ∧ Blw w w' := by
  obtain ⟨n, c, ⟨k, len, lc, lw⟩⟩ := B
  have H1 : Hid (BookAt X w b ⟨n, c, ⟨k, len, lc, lw⟩⟩) := h1
  have H2 : Hid (BookAt Y w b' ⟨n, c, ⟨k, len, lc, lw⟩⟩) := h2
  clear h1 h2
  go_enter Try.func73, Try.ntmps73
  go_wp2_with fail
  have rA := (box2 w (.slice b.a1 n b.c1) (.slice b.a2 k b.c2) 29).blw ((Blw.refl _).alloc (.cells #[.slice b'.a1 n b'.c1, .slice b'.a2 k b'.c2] 29))
  have rB := box2 (w.alloc (.cells #[.slice b.a1 n b.c1, .slice b.a2 k b.c2] 29)) (.slice b'.a1 n b'.c1) (.slice b'.a2 k b'.c2) 29
  rw [World.size_alloc] at rB
  have hb0 : Blw w ((w.alloc (.cells #[.slice b.a1 n b.c1, .slice b.a2 k b.c2] 29)).alloc (.cells #[.slice b'.a1 n b'.c1, .slice b'.a2 k b'.c2] 29)) := ((Blw.refl _).alloc _).alloc _
  refine (eqIntS_same _ _ _ _ n c _ (H1.out.c.blw hb0) (H2.out.c.blw hb0)).mono ?_
  rintro e w1 ⟨rfl, m, rfl⟩
  have hb1 := drewN_blw ((w.alloc (.cells #[.slice b.a1 n b.c1, .slice b.a2 k b.c2] 29)).alloc (.cells #[.slice b'.a1 n b'.c1, .slice b'.a2 k b'.c2] 29)) m
  replace rA := rA.blw hb1
  replace rB := rB.blw hb1
  replace hb1 := hb0.trans hb1
  clear hb0
  revert rA rB hb1
  generalize ((w.alloc (.cells #[.slice b.a1 n b.c1, .slice b.a2 k b.c2] 29)).alloc (.cells #[.slice b'.a1 n b'.c1, .slice b'.a2 k b'.c2] 29)).drewN m = w1
  intro rA rB hb1
  obtain ⟨p0, p1⟩ := get2 rA
  obtain ⟨q0, q1⟩ := get2 rB
  clear rA rB
  go_wp2_with fail
  clear p0 p1 q0 q1
  refine (eqSS_same _ _ _ _ ⟨k, len, lc, lw⟩ _ (H1.out.l.blw hb1) (H2.out.l.blw hb1)).mono ?_
  rintro e w2 ⟨rfl, hb2⟩
  replace hb2 := hb1.trans hb2
  clear hb1 H1 H2
  go_wp2
  go_ret
  exact ⟨rfl, hb2⟩
/-- What a book holds behind markBook. -/
def BD.marked (B : BD) (k : Int) : BD := ⟨B.n, fun i => k + i, B.D.marked (k + B.n)⟩
def BD.total (B : BD) : Nat := B.n + 2 * B.D.tot
set_option maxHeartbeats 1600000 in
theorem markBook_any (b : BV) (B : BD) (X : Nat → Prop) (w : World) (hS : B.n + (B.D.n + B.D.tot) ≤ 1048576) (hX : ∀ b, X b → b < w.heap.size) (h : BookOwn X w b B) :
    Calls Try.prog 75 #[b.val B, .int .i64 1] w fun e w' => e = .returned (.int .i64 (1 + B.total)) ∧ BookOwn X w' b (B.marked 1) ∧ Mod X w w' := by
  obtain ⟨n, c, ⟨k, len, lc, lw⟩⟩ := B
  dsimp only at hS
  obtain ⟨X1, X2, d1, d2, hc, hl⟩ := h.ex
  have HC : Hid (IntsOwn X1 w b.a1 n c) := hc
  have HL : Hid (PSOwn X2 w b.a2 ⟨k, len, lc, lw⟩) := hl
  clear h hc hl
  go_enter Try.func75, Try.ntmps75
  go_wp2_with fail
  have hb0 : Blw w (w.alloc (.cells #[.slice b.a1 n b.c1, .slice b.a2 k b.c2] 29)) := (Blw.refl _).alloc _
  have rA := box2 w (.slice b.a1 n b.c1) (.slice b.a2 k b.c2) 29
  refine (markIntS_any _ _ n c X1 1 _ (by omega) (by omega) (HC.out.blw hb0)).mono ?_
  rintro e w1 ⟨rfl, hc1, hm1⟩
  replace rA := rA.mod hm1 (fun hh => by have := hX _ (d1 _ hh.1).1; omega)
  obtain ⟨p0, p1⟩ := get2 rA
  have HM : Hid (Mod X w w1) := (hb0.mod X).trans (hm1.mono (fun x hx => (d1 x hx.1).1))
  have HL1 : Hid (PSOwn X2 w1 b.a2 ⟨k, len, lc, lw⟩) := (HL.out.blw hb0).mod hm1 (fun x hx hh => (d1 x hh.1).2 hx)
  have HC1 : Hid (IntsOwn X1 w1 b.a1 n (fun i => 1 + i)) := hc1
  clear hb0 rA hc1 hm1 HC HL
  go_wp2_with fail
  clear p0 p1
  refine (markSS_any _ _ ⟨k, len, lc, lw⟩ X2 _ _ (by omega) (by simp only [PD.tot] at *; omega) HL1.out).mono ?_
  rintro e w2 ⟨rfl, hl2, hm2⟩
  have HC2 : Hid (IntsOwn X1 w2 b.a1 n (fun i => 1 + i)) := HC1.out.mod hm2 (fun x hx hh => (d1 x hx).2 hh)
  have HL2 : Hid (PSOwn X2 w2 b.a2 (PD.marked ⟨k, len, lc, lw⟩ (1 + n))) := hl2
  have HM2 : Hid (Mod X w w2) := HM.out.trans (hm2.mono d2)
  clear HL1 HC1 HM hl2 hm2
  go_wp2
  go_ret
  refine ⟨ret_int (by simp [BD.total]; omega), ⟨X1, X2, d1, d2, HC2.out, HL2.out⟩, HM2.out⟩
set_option maxHeartbeats 1600000 in
theorem heldBook_any (b : BV) (B : BD) (X : Nat → Prop) (w : World) (hS : B.n + (B.D.n + B.D.tot) ≤ 1048576) (h : BookOwn X w b (B.marked 1)) :
    Calls Try.prog 76 #[b.val B, .int .i64 1] w fun e w' => e = .returned (.int .i64 (1 + B.total)) ∧ Blw w w' := by
  obtain ⟨n, c, ⟨k, len, lc, lw⟩⟩ := B
  dsimp only at hS
  obtain ⟨X1, X2, d1, d2, hc, hl⟩ := h.ex
  have HC : Hid (IntsOwn X1 w b.a1 n (fun i => 1 + i)) := hc
  have HL : Hid (PSOwn X2 w b.a2 (PD.marked ⟨k, len, lc, lw⟩ (1 + n))) := hl
  clear h hc hl
  go_enter Try.func76, Try.ntmps76
  go_wp2_with fail
  have hb0 : Blw w (w.alloc (.cells #[.slice b.a1 n b.c1, .slice b.a2 k b.c2] 29)) := (Blw.refl _).alloc _
  have rA := box2 w (.slice b.a1 n b.c1) (.slice b.a2 k b.c2) 29
  refine (heldIntS_any _ _ n X1 1 _ (by omega) (by omega) (HC.out.blw hb0).at).mono ?_
  rintro e w1 ⟨rfl, hb1⟩
  replace rA := rA.blw hb1
  replace hb1 := hb0.trans hb1
  obtain ⟨p0, p1⟩ := get2 rA
  have k1 : ¬ (1 + (n : Int) < 0) := by omega
  clear hb0 rA HC
  go_wp2_with fail
  clear p0 p1
  refine (heldSS_any _ _ ⟨k, len, lc, lw⟩ X2 _ _ (by omega) (by simp only [PD.tot] at *; omega) (HL.out.blw hb1)).mono ?_
  rintro e w2 ⟨rfl, hb2⟩
  replace hb2 := hb1.trans hb2
  clear hb1 HL k1
  have k2 : ¬ (1 + (n : Int) + 2 * (pre len k : Nat) < 0) := by omega
  go_wp2
  go_ret
  exact ⟨ret_int (by simp [BD.total]; omega), hb2⟩
end Go.Proofs.Ytjplodenflkghaa
/- What stands in a law: facts that no other block's change turns. -/
namespace Go.Proofs.Ytjplodenflkghaa
open Go.RowKit
set_option linter.unusedSimpArgs false
set_option linter.unusedVariables false
/-- P holds of W, and of every world that differs from it in blocks outside X alone. -/
def St (X : Nat → Prop) (P : World → Prop) (W : World) : Prop := (∀ b, X b → b < W.heap.size) ∧ ∀ Z w', Mod Z W w' → (∀ b, X b → ¬ Z b) → P w'
theorem St.out {X : Nat → Prop} {P : World → Prop} {W : World} (h : St X P W) : P W := h.2 (fun _ => False) W (Mod.refl _ _) (fun _ _ => id)
theorem St.mod {X Z : Nat → Prop} {P : World → Prop} {W W' : World} (h : St X P W) (hm : Mod Z W W') (hx : ∀ b, X b → ¬ Z b) : St X P W' :=
  ⟨fun b hb => Nat.lt_of_lt_of_le (h.1 b hb) hm.size, fun Z' w' hm' hx' => h.2 (fun b => Z b ∨ Z' b) w' ((hm.mono (fun _ => Or.inl)).trans (hm'.mono (fun _ => Or.inr))) (fun b hb hz => hz.elim (hx b hb) (hx' b hb))⟩
theorem St.blw {X : Nat → Prop} {P : World → Prop} {W W' : World} (h : St X P W) (hb : Blw W W') : St X P W' := h.mod (hb.mod (fun _ => False)) (fun _ _ => id)
theorem St.mono {X Y : Nat → Prop} {P : World → Prop} {W : World} (h : St X P W) (hxy : ∀ b, X b → Y b) (hY : ∀ b, Y b → b < W.heap.size) : St Y P W :=
  ⟨hY, fun Z w' hm hx => h.2 Z w' hm (fun b hb => hx b (hxy b hb))⟩
/-- A law's argument: below a; the model's answer: below b; the argument's copy: below c; the program's answer: below d. -/
structure LawF (w W : World) (a b c d : Nat) (P1 P3 P4 P5 : World → Prop) : Prop where
  hB : Blw w W
  p1 : St (fun x => x < a) P1 W
  p3 : St (fun x => x < b) P3 W
  p4 : St (fun x => b ≤ x ∧ x < c) P4 W
  p5 : St (fun x => c ≤ x ∧ x < d) P5 W
  o : w.heap.size ≤ a ∧ a ≤ b ∧ b ≤ c ∧ c ≤ d ∧ d ≤ W.heap.size
theorem LawF.blw {w W W' : World} {a b c d : Nat} {P1 P3 P4 P5 : World → Prop} (S : LawF w W a b c d P1 P3 P4 P5) (hb : Blw W W') : LawF w W' a b c d P1 P3 P4 P5 := by
  have o := S.o
  have := hb.size
  exact ⟨S.hB.trans hb, S.p1.blw hb, S.p3.blw hb, S.p4.blw hb, S.p5.blw hb, by omega⟩
theorem LawF.mark4 {w W W' : World} {a b c d : Nat} {P1 P3 P4 P4' P5 : World → Prop} (S : LawF w W a b c d P1 P3 P4 P5) {X : Nat → Prop} (hm : Mod X W W') (hX : ∀ x, X x → b ≤ x ∧ x < c) (h4 : St (fun x => b ≤ x ∧ x < c) P4' W') : LawF w W' a b c d P1 P3 P4' P5 := by
  have o := S.o
  have := hm.size
  exact ⟨Mod.blw S.hB hm (fun i hi => by have := hX i hi; omega), S.p1.mod hm (fun x hx h => by have := hX x h; omega), S.p3.mod hm (fun x hx h => by have := hX x h; omega), h4, S.p5.mod hm (fun x hx h => by have := hX x h; omega), by omega⟩
theorem LawF.mark5 {w W W' : World} {a b c d : Nat} {P1 P3 P4 P5 P5' : World → Prop} (S : LawF w W a b c d P1 P3 P4 P5) {X : Nat → Prop} (hm : Mod X W W') (hX : ∀ x, X x → c ≤ x ∧ x < d) (h5 : St (fun x => c ≤ x ∧ x < d) P5' W') : LawF w W' a b c d P1 P3 P4 P5' := by
  have o := S.o
  have := hm.size
  exact ⟨Mod.blw S.hB hm (fun i hi => by have := hX i hi; omega), S.p1.mod hm (fun x hx h => by have := hX x h; omega), S.p3.mod hm (fun x hx h => by have := hX x h; omega), S.p4.mod hm (fun x hx h => by have := hX x h; omega), h5, by omega⟩
end Go.Proofs.Ytjplodenflkghaa
/- What stands in a law on tables. -/
namespace Go.Proofs.Ytjplodenflkghaa
open Go.RowKit
set_option linter.unusedSimpArgs false
set_option linter.unusedVariables false
/-- A book in its own box at z, all in blocks of X. -/
structure BB (X : Nat → Prop) (z : Nat) (b : BV) (B B' : BD) (w : World) : Prop where
  own : BookOwn (fun x => X x ∧ x ≠ z) w b B'
  box : Row w z 2 (fun i => if i = 0 then .slice b.a1 B.n b.c1 else .slice b.a2 B.D.n b.c2)
theorem BB.st {X : Nat → Prop} {z : Nat} {b : BV} {B B' : BD} {w : World} (h : BB X z b B B' w) (hz : X z) (hX : ∀ b, X b → b < w.heap.size) : St X (BB X z b B B') w :=
  ⟨hX, fun Z w' hm hx => ⟨h.own.mod hm (fun b hb => hx b hb.1), h.box.mod hm (hx z hz)⟩⟩
/-- The argument of a law on a book: it, and its box at z. -/
structure ArgB (n z : Nat) (b : BV) (B : BD) (w : World) : Prop where
  at_ : BookAt (fun x => x < n) w b B
  box : Row w z 2 (fun i => if i = 0 then .slice b.a1 B.n b.c1 else .slice b.a2 B.D.n b.c2)
theorem ArgB.st {n z a : Nat} {b : BV} {B : BD} {w : World} (h : ArgB n z b B w) (hn : n ≤ a) (hz : z < a) (ha : a ≤ w.heap.size) : St (fun x => x < a) (ArgB n z b B) w :=
  ⟨fun x hx => by omega, fun Z w' hm hx => ⟨h.at_.mod hm (fun b hb => hx b (by omega)), h.box.mod hm (hx z hz)⟩⟩
/-- What answers a book and a bool. -/
def GivesB (out : BD → Bool → Prop) (w : World) : Ending → World → Prop := fun e w' =>
  ∃ (b : BV) (R : BD) (r : Bool), e = .returned (.tuple #[b.val R, .bool r]) ∧ out R r ∧ R.n + (R.D.n + R.D.tot) ≤ 1048576 ∧ BookOwn (fun x => w.heap.size ≤ x ∧ x < w'.heap.size) w' b R ∧ Blw w w'
def GivesI (out : Nat → (Nat → Int) → Bool → Prop) (w : World) : Ending → World → Prop := fun e w' =>
  ∃ (ao : Option Addr) (n c : Nat) (f : Nat → Int) (r : Bool), e = .returned (.tuple #[.slice ao n c, .bool r]) ∧ out n f r ∧ n ≤ 1048576 ∧ IntsOwn (fun x => w.heap.size ≤ x ∧ x < w'.heap.size) w' ao n f ∧ Blw w w'
/-- A boxed answer. -/
theorem boxed {w W : World} {b : BV} {R : BD} (hb : Blw w W) (own : BookOwn (fun x => w.heap.size ≤ x ∧ x < W.heap.size) W b R) {lo : Nat} (hlo : lo ≤ w.heap.size) :
    BB (fun x => lo ≤ x ∧ x < W.heap.size + 1) W.heap.size b R R (W.alloc (.cells #[.slice b.a1 R.n b.c1, .slice b.a2 R.D.n b.c2] 29)) :=
  ⟨(own.blw ((Blw.refl _).alloc _)).mono (fun x hx => ⟨⟨by omega, by omega⟩, by omega⟩), box2 W _ _ 29⟩
end Go.Proofs.Ytjplodenflkghaa
/- Lists of structs of K numbers: what they read as, what is owned. -/
namespace Go.Proofs.Ytjplodenflkghaa
open Go.RowKit
set_option linter.unusedSimpArgs false
set_option linter.unusedVariables false
def kc (K : Nat) (F : Nat → Nat → Int) : Nat → Value := fun j => .int .i64 (F (j / K) (j % K))
theorem kc_at {K : Nat} (F : Nat → Nat → Int) (i : Nat) {c : Nat} (hc : c < K) : kc K F (i * K + c) = .int .i64 (F i c) := by
  unfold kc
  rw [Nat.mul_comm, Nat.mul_add_div (by omega), Nat.div_eq_of_lt hc, Nat.mul_add_mod, Nat.mod_eq_of_lt hc, Nat.add_zero]
theorem kc_lt {K n i c : Nat} (hi : i < n) (hc : c < K) : i * K + c < n * K := by
  have : (i + 1) * K ≤ n * K := Nat.mul_le_mul_right K hi
  rw [Nat.succ_mul] at this
  omega
/-- The slice at 'ao' reads as the n structs F, all in blocks of Y. -/
def KAt (K : Nat) (Y : Nat → Prop) (w : World) (ao : Option Addr) (n : Nat) (F : Nat → Nat → Int) : Prop :=
  n ≤ 9223372036854775807 ∧ ∀ i, i < n → ∃ b o, ao = some ⟨b, o, none⟩ ∧ Y b ∧ ∀ c, c < K → w.cell? ⟨b, o + i * K + c, none⟩ = some (.int .i64 (F i c))
def KOwn (K : Nat) (X : Nat → Prop) (w : World) (ao : Option Addr) (n : Nat) (F : Nat → Nat → Int) : Prop :=
  n ≤ 9223372036854775807 ∧ (0 < n → ∃ b, X b ∧ ao = some ⟨b, 0, none⟩ ∧ Row w b (n * K) (kc K F))
theorem k_get {w : World} {b n K : Nat} {F : Nat → Nat → Int} (r : Row w b (n * K) (kc K F)) {i c : Nat} (hi : i < n) (hc : c < K) : w.cell? ⟨b, i * K + c, none⟩ = some (.int .i64 (F i c)) := by
  rw [r.cell (kc_lt hi hc), kc_at F i hc]
theorem KOwn.at {K : Nat} {X : Nat → Prop} {w : World} {ao : Option Addr} {n : Nat} {F : Nat → Nat → Int} (h : KOwn K X w ao n F) : KAt K X w ao n F := by
  refine ⟨h.1, fun i hi => ?_⟩
  obtain ⟨b, hx, e, hr⟩ := h.2 (by omega)
  exact ⟨b, 0, e, hx, fun c hc => by rw [Nat.zero_add]; exact k_get hr hi hc⟩
theorem KAt.blw {K : Nat} {Y : Nat → Prop} {w w' : World} {ao : Option Addr} {n : Nat} {F : Nat → Nat → Int} (h : KAt K Y w ao n F) (hb : Blw w w') : KAt K Y w' ao n F :=
  ⟨h.1, fun i hi => let ⟨b, o, e, hY, h0⟩ := h.2 i hi; ⟨b, o, e, hY, fun c hc => hb.cell (h0 c hc)⟩⟩
theorem KAt.mod {K : Nat} {Y : Nat → Prop} {w w' : World} {ao : Option Addr} {n : Nat} {F : Nat → Nat → Int} {X : Nat → Prop} (h : KAt K Y w ao n F) (hb : Mod X w w') (hxy : ∀ k, Y k → ¬ X k) : KAt K Y w' ao n F :=
  ⟨h.1, fun i hi => let ⟨b, o, e, hY, h0⟩ := h.2 i hi; ⟨b, o, e, hY, fun c hc => hb.cell (h0 c hc) (hxy _ hY)⟩⟩
theorem KAt.mono {K : Nat} {Y : Nat → Prop} {w : World} {ao : Option Addr} {n : Nat} {F : Nat → Nat → Int} {X : Nat → Prop} (h : KAt K X w ao n F) (hxy : ∀ b, X b → Y b) : KAt K Y w ao n F :=
  ⟨h.1, fun i hi => let ⟨b, o, e, hY, h0⟩ := h.2 i hi; ⟨b, o, e, hxy _ hY, h0⟩⟩
theorem KAt.congr {K : Nat} {Y : Nat → Prop} {w : World} {ao : Option Addr} {n : Nat} {F : Nat → Nat → Int} {F' : Nat → Nat → Int} (h : KAt K Y w ao n F) (e : ∀ i c, i < n → c < K → F i c = F' i c) : KAt K Y w ao n F' :=
  ⟨h.1, fun i hi => let ⟨b, o, ea, hY, h0⟩ := h.2 i hi; ⟨b, o, ea, hY, fun c hc => by rw [← e i c hi hc]; exact h0 c hc⟩⟩
theorem KOwn.mod {K : Nat} {X Z : Nat → Prop} {w w' : World} {ao : Option Addr} {n : Nat} {F : Nat → Nat → Int} (h : KOwn K X w ao n F) (hb : Mod Z w w') (hxz : ∀ b, X b → ¬ Z b) : KOwn K X w' ao n F :=
  ⟨h.1, fun hn => let ⟨b, hx, e, hr⟩ := h.2 hn; ⟨b, hx, e, hr.mod hb (hxz _ hx)⟩⟩
theorem KOwn.blw {K : Nat} {X : Nat → Prop} {w w' : World} {ao : Option Addr} {n : Nat} {F : Nat → Nat → Int} (h : KOwn K X w ao n F) (hb : Blw w w') : KOwn K X w' ao n F := h.mod (hb.mod (fun _ => False)) (fun _ _ => id)
theorem KOwn.mono {K : Nat} {X Y : Nat → Prop} {w : World} {ao : Option Addr} {n : Nat} {F : Nat → Nat → Int} (h : KOwn K X w ao n F) (hxy : ∀ b, X b → Y b) : KOwn K Y w ao n F :=
  ⟨h.1, fun hn => let ⟨b, hx, e, hr⟩ := h.2 hn; ⟨b, hxy _ hx, e, hr⟩⟩
theorem KOwn.nil (K : Nat) (X : Nat → Prop) (w : World) (ao : Option Addr) (F : Nat → Nat → Int) : KOwn K X w ao 0 F := ⟨by omega, fun h => absurd h (by omega)⟩
theorem KOwn.congr {K : Nat} {X : Nat → Prop} {w : World} {ao : Option Addr} {n : Nat} {F F' : Nat → Nat → Int} (hK : 0 < K) (h : KOwn K X w ao n F) (e : ∀ i c, i < n → c < K → F i c = F' i c) : KOwn K X w ao n F' :=
  ⟨h.1, fun hn => let ⟨b, hx, ea, hr⟩ := h.2 hn; ⟨b, hx, ea, hr.congr fun j hj => by
    unfold kc
    rw [e (j / K) (j % K) (Nat.div_lt_of_lt_mul (by rw [Nat.mul_comm]; exact hj)) (Nat.mod_lt _ hK)]⟩⟩
def updF (F : Nat → Nat → Int) (i c : Nat) (v : Int) : Nat → Nat → Int := fun a b => if a = i ∧ b = c then v else F a b
theorem setK {w : World} {b n K : Nat} {F : Nat → Nat → Int} (r : Row w b (n * K) (kc K F)) (i : Nat) {c : Nat} (hc : c < K) (v : Int) : Row (w.setCell ⟨b, i * K + c, none⟩ (.int .i64 v)) b (n * K) (kc K (updF F i c v)) :=
  (r.set (i * K + c) _).congr (fun j hj => by
    have hK : 0 < K := by omega
    by_cases e : j = i * K + c
    · rw [if_pos e, e, kc_at _ i hc]; unfold updF; rw [if_pos ⟨rfl, rfl⟩]
    · rw [if_neg e]
      unfold kc updF
      have : ¬ (j / K = i ∧ j % K = c) := fun h => e (by have h1 := Nat.div_add_mod j K; rw [h.1, h.2, Nat.mul_comm] at h1; exact h1.symm)
      rw [if_neg this])
/-- What a list holds behind a mark. -/
def mkK (K : Nat) (k : Int) : Nat → Nat → Int := fun i c => k + K * i + c
def upK (G F : Nat → Nat → Int) (i : Nat) : Nat → Nat → Int := fun a c => if a < i then G a c else F a c
theorem upK_zero (G F : Nat → Nat → Int) : upK G F 0 = F := by funext a c; unfold upK; rw [if_neg (Nat.not_lt_zero _)]
theorem upK_all {K : Nat} {X : Nat → Prop} {w : World} {ao : Option Addr} {n : Nat} {G F : Nat → Nat → Int} (hK : 0 < K) (h : KOwn K X w ao n (upK G F n)) : KOwn K X w ao n G := h.congr hK (fun i c hi _ => by unfold upK; rw [if_pos hi])
theorem kAt_get {K : Nat} {Y : Nat → Prop} {w : World} {ao : Option Addr} {n : Nat} {F : Nat → Nat → Int} (h : KAt K Y w ao n F) {i : Nat} (hi : i < n) : ∃ b o, ao = some ⟨b, o, none⟩ ∧ Y b ∧ ∀ c, c < K → w.cell? ⟨b, o + i * K + c, none⟩ = some (.int .i64 (F i c)) := h.2 i hi
theorem Row.madeK (w : World) (z : Array Value) (v : Value) (hz : ∀ i, i < z.size → z[i]? = some v) (h0 : 0 < z.size) (n : Nat) (t : TypeId) : Row (w.alloc (.cells (madeCells z n) t)) w.heap.size n (fun _ => v) := by
  refine ⟨_, t, heap_alloc_new _ _, by simp [madeCells], fun i hi => ?_⟩
  have h2 : i % z.size < z.size := Nat.mod_lt _ h0
  have := hz (i % z.size) h2
  simp [madeCells, hi, getElem!_def, this]
end Go.Proofs.Ytjplodenflkghaa
/- The laws' functions on lists of Sh. -/
namespace Go.Proofs.Ytjplodenflkghaa
open Go.RowKit
set_option linter.unusedSimpArgs false
set_option linter.unusedVariables false
theorem infoSh : (Try.prog.info? 122).map (fun i => (i.zero, i.size, i.bytes)) = some (some (.agg #[.int .i64 0, .int .i64 0, .int .i64 0]), 3, 24) := by kernel_rfl
theorem mkSh (n : Nat) (hn : n ≤ 1048576) (w : World) : (Instr.makeSlice 30 (.int .i64 n) (.int .i64 n)).run Try.prog w = .ok (.slice (some ⟨w.heap.size, 0, none⟩) n n) (w.alloc (.cells (madeCells #[.int .i64 0, .int .i64 0, .int .i64 0] (n * 3)) 122)) := by
  obtain ⟨i0, hi, hz0, hz1, hz2⟩ := info_parts infoSh
  have h := run_make (P := Try.prog) w 30 122 i0 (.agg #[.int .i64 0, .int .i64 0, .int .i64 0]) Try.underlying30 hi hz0 .i64 .i64 (n : Int) (n : Int) (by omega) (Int.le_refl _) (by rw [hz2]; omega) (by omega)
  simpa [hz1, Value.cells] using h
set_option maxHeartbeats 800000 in
theorem eqSh1_same (x0 x1 x2 : Int) (w : World) : Calls Try.prog 178 #[.agg #[.int .i64 x0, .int .i64 x1, .int .i64 x2], .agg #[.int .i64 x0, .int .i64 x1, .int .i64 x2]] w fun e w' => e = .returned (.bool true) ∧ Blw w w' := by
  have h0 : (x0 != x0) = false := by simp
  have h1 : (x1 != x1) = false := by simp
  have h2 : (x2 != x2) = false := by simp
  go_enter Try.func178, Try.ntmps178
  go_wp2
  go_ret
  exact ⟨rfl, ((Blw.refl _).alloc _).alloc _⟩
set_option maxHeartbeats 1600000 in
theorem eqSh_same (a1 a2 : Option Addr) (c1 c2 n : Nat) (F : Nat → Nat → Int) {X Y : Nat → Prop} (w : World) (h1 : KAt 3 X w a1 n F) (h2 : KAt 3 Y w a2 n F) :
    Calls Try.prog 129 #[.slice a1 n c1, .slice a2 n c2] w fun e w' => e = .returned (.bool true) ∧ Blw w w' := by
  have H1 : Hid (KAt 3 X w a1 n F) := h1
  have H2 : Hid (KAt 3 Y w a2 n F) := h2
  have hn := h1.1
  clear h1 h2
  have hne : ((n : Int) != (n : Int)) = false := by simp
  go_enter Try.func129, Try.ntmps129
  go_wp2_with fail
  go_loopw [5] (fun i wr => ∃ k : Nat, k ≤ n ∧ i = .int .i64 k ∧ Blw w wr) (fun i _ => n - (intOf i).toNat)
  case atStart => exact ⟨0, Nat.zero_le _, rfl, Blw.refl _⟩
  case round =>
    obtain ⟨k, hk, rfl, hb⟩ := hrel
    by_cases hlt : k < n
    · have hlt' : (k : Int) < n := by omega
      obtain ⟨b1, o1, rfl, -, g1⟩ := (H1.out.blw hb).2 k hlt
      obtain ⟨b2, o2, rfl, -, g2⟩ := (H2.out.blw hb).2 k hlt
      generalize hFk : F k = Fk at *
      have P0 : ∀ w', Blw wr w' → w'.cell? ⟨b1, o1 + k * 3, none⟩ = some (.int .i64 (Fk 0)) := fun w' hh => hh.cell (g1 0 (by omega))
      have Q0 : ∀ w', Blw wr w' → w'.cell? ⟨b2, o2 + k * 3, none⟩ = some (.int .i64 (Fk 0)) := fun w' hh => hh.cell (g2 0 (by omega))
      have P1 : ∀ w', Blw wr w' → w'.cell? ⟨b1, o1 + k * 3 + 1, none⟩ = some (.int .i64 (Fk 1)) := fun w' hh => hh.cell (g1 1 (by omega))
      have Q1 : ∀ w', Blw wr w' → w'.cell? ⟨b2, o2 + k * 3 + 1, none⟩ = some (.int .i64 (Fk 1)) := fun w' hh => hh.cell (g2 1 (by omega))
      have P2 : ∀ w', Blw wr w' → w'.cell? ⟨b1, o1 + k * 3 + 2, none⟩ = some (.int .i64 (Fk 2)) := fun w' hh => hh.cell (g1 2 (by omega))
      have Q2 : ∀ w', Blw wr w' → w'.cell? ⟨b2, o2 + k * 3 + 2, none⟩ = some (.int .i64 (Fk 2)) := fun w' hh => hh.cell (g2 2 (by omega))
      have HB : Hid (Blw w wr) := hb
      clear g1 g2 H1 H2 hb hFk
      go_wp2_with fail
      go_region_held3 (fun w' => Blw wr w') ((first | exact (Blw.refl _).drew | assumption | exact Blw.trans (by assumption) (by assumption))) (first
        | (go_at_call 178; refine (eqSh1_same (Fk 0) (Fk 1) (Fk 2) _).mono ?_; rintro e w7 ⟨rfl, hb7⟩))
      all_goals go_wp2
      all_goals go_roundw
      all_goals first | exact ⟨k + 1, by omega, by go_num, HB.out.trans (by assumption)⟩ | (simp [intOf]; omega)
    · obtain rfl : k = n := by omega
      go_wp2
      go_ret
      exact ⟨rfl, hb⟩
set_option maxHeartbeats 3200000 in
theorem markSh_any (ao : Option Addr) (c n : Nat) (F : Nat → Nat → Int) (X : Nat → Prop) (k : Int) (w : World) (h1 : 0 ≤ k) (h2 : k + 3 * n ≤ 9223372036854775807) (h : KOwn 3 X w ao n F) :
    Calls Try.prog 131 #[.slice ao n c, .int .i64 k] w fun e w' => e = .returned (.int .i64 (k + 3 * n)) ∧ KOwn 3 X w' ao n (mkK 3 k) ∧ Mod X w w' := by
  have H : Hid (KOwn 3 X w ao n F) := h
  have hn := h.1
  clear h
  go_enter Try.func131, Try.ntmps131
  go_wp2_with fail
  go_loopw [1, 5] (fun kv iv wr => ∃ i : Nat, i ≤ n ∧ iv = .int .i64 i ∧ kv = .int .i64 (k + 3 * i) ∧ KOwn 3 X wr ao n (upK (mkK 3 k) F i) ∧ Mod X w wr) (fun _ i _ => n - (intOf i).toNat)
  case atStart => exact ⟨0, Nat.zero_le _, rfl, by simp, by rw [upK_zero]; exact H.out, Mod.refl _ _⟩
  case round =>
    obtain ⟨i, hi, rfl, rfl, S, hm⟩ := hrel
    clear H
    by_cases hlt : i < n
    · have hlt' : (i : Int) < n := by omega
      obtain ⟨b, hx, rfl, r⟩ := S.2 (by omega)
      have p0 := k_get r hlt (c := 0) (by omega)
      have f0 := r.frozen (i * 3)
      have p1 := k_get r hlt (c := 1) (by omega)
      have f1 := r.frozen (i * 3 + 1)
      have p2 := k_get r hlt (c := 2) (by omega)
      have f2 := r.frozen (i * 3 + 2)
      rw [Nat.add_zero] at p0
      have HR : Hid (Row (((wr.setCell ⟨b, i * 3, none⟩ (.int .i64 (k + 3 * i))).setCell ⟨b, i * 3 + 1, none⟩ (.int .i64 (k + 3 * i + 1))).setCell ⟨b, i * 3 + 2, none⟩ (.int .i64 (k + 3 * i + 1 + 1))) b (n * 3) (kc 3 (upK (mkK 3 k) F (i + 1)))) := by
        have hq := (setK (setK (setK r i (c := 0) (by omega) (k + 3 * i)) i (c := 1) (by omega) (k + 3 * i + 1)) i (c := 2) (by omega) (k + 3 * i + 1 + 1))
        rw [Nat.add_zero] at hq
        refine hq.congr (fun t ht => ?_)
        have ht2 : t % 3 < 3 := Nat.mod_lt _ (by omega)
        unfold kc updF upK mkK
        by_cases e : t / 3 = i
        · simp only [e, true_and, Nat.lt_succ_self, if_true]
          rcases (show t % 3 = 0 ∨ t % 3 = 1 ∨ t % 3 = 2 by omega) with e2 | e2 | e2 <;> simp [e2] <;> omega
        · have e3 : (t / 3 < i + 1) = (t / 3 < i) := by simp; omega
          simp [e, e3]
      have HM : Hid (Mod X w (((wr.setCell ⟨b, i * 3, none⟩ (.int .i64 (k + 3 * i))).setCell ⟨b, i * 3 + 1, none⟩ (.int .i64 (k + 3 * i + 1))).setCell ⟨b, i * 3 + 2, none⟩ (.int .i64 (k + 3 * i + 1 + 1)))) := (((hm.trans (Mod.setCell _ (p := ⟨b, i * 3, none⟩) hx _)).trans (Mod.setCell _ (p := ⟨b, i * 3 + 1, none⟩) hx _)).trans (Mod.setCell _ (p := ⟨b, i * 3 + 2, none⟩) hx _))
      clear S hm r
      have ee : k + 3 * (i : Int) + 1 + 1 + 1 = k + 3 * ((i + 1 : Nat) : Int) := by omega
      go_wp2
      go_roundw
      case rel => exact ⟨i + 1, by omega, by go_num, by congr 1 <;> omega, ⟨hn, fun _ => ⟨b, hx, rfl, HR.out⟩⟩, HM.out⟩
      case measure => simp [intOf]; omega
    · obtain rfl : i = n := by omega
      go_wp2
      go_ret
      exact ⟨rfl, upK_all (by omega) S, hm⟩
set_option maxHeartbeats 3200000 in
theorem heldSh_any (ao : Option Addr) (c n : Nat) (X : Nat → Prop) (k : Int) (w : World) (h1 : 0 ≤ k) (h2 : k + 3 * n ≤ 9223372036854775807) (h : KOwn 3 X w ao n (mkK 3 k)) :
    Calls Try.prog 132 #[.slice ao n c, .int .i64 k] w fun e w' => e = .returned (.int .i64 (k + 3 * n)) ∧ Blw w w' := by
  have H : Hid (KOwn 3 X w ao n (mkK 3 k)) := h
  have hn := h.1
  clear h
  go_enter Try.func132, Try.ntmps132
  go_wp2_with fail
  go_loopw [1, 5] (fun kv iv wr => ∃ i : Nat, i ≤ n ∧ iv = .int .i64 i ∧ kv = .int .i64 (k + 3 * i) ∧ wr = w) (fun _ i _ => n - (intOf i).toNat)
  case atStart => exact ⟨0, Nat.zero_le _, rfl, by simp, rfl⟩
  case round =>
    obtain ⟨i, hi, rfl, rfl, rfl⟩ := hrel
    by_cases hlt : i < n
    · have hlt' : (i : Int) < n := by omega
      obtain ⟨b, hx, rfl, r⟩ := H.out.2 (by omega)
      have p0 : _ = some (Value.int .i64 (k + 3 * (i : Int))) := (k_get r hlt (c := 0) (by omega)).trans (by unfold mkK; congr 2 <;> omega)
      have n0 : ((k + 3 * (i : Int)) != (k + 3 * (i : Int))) = false := by simp
      have p1 : _ = some (Value.int .i64 (k + 3 * (i : Int) + 1)) := (k_get r hlt (c := 1) (by omega)).trans (by unfold mkK; congr 2 <;> omega)
      have n1 : ((k + 3 * (i : Int) + 1) != (k + 3 * (i : Int) + 1)) = false := by simp
      have p2 : _ = some (Value.int .i64 (k + 3 * (i : Int) + 1 + 1)) := (k_get r hlt (c := 2) (by omega)).trans (by unfold mkK; congr 2 <;> omega)
      have n2 : ((k + 3 * (i : Int) + 1 + 1) != (k + 3 * (i : Int) + 1 + 1)) = false := by simp
      rw [Nat.add_zero] at p0
      clear r
      go_wp2
      go_roundw
      case rel => exact ⟨i + 1, by omega, by go_num, by congr 1 <;> omega, by first | rfl | trivial⟩
      case measure => simp [intOf]; omega
    · obtain rfl : i = n := by omega
      go_wp2
      go_ret
      exact ⟨rfl, Blw.refl _⟩
end Go.Proofs.Ytjplodenflkghaa
/- Walkers: what they read as, what is owned; compared, marked, held. -/
namespace Go.Proofs.Ytjplodenflkghaa
open Go.RowKit
set_option linter.unusedSimpArgs false
set_option linter.unusedVariables false
theorem box4 (w : World) (a b c d : Value) (t : TypeId) : Row (w.alloc (.cells #[a, b, c, d] t)) w.heap.size 4 (fun i => if i = 0 then a else if i = 1 then b else if i = 2 then c else d) :=
  ⟨_, t, heap_alloc_new _ _, by simp, fun i hi => by
    match i, hi with
    | 0, _ => rfl
    | 1, _ => rfl
    | 2, _ => rfl
    | 3, _ => rfl⟩
theorem get4 {w : World} {B : Nat} {a b c d : Value} (r : Row w B 4 (fun i => if i = 0 then a else if i = 1 then b else if i = 2 then c else d)) : w.cell? ⟨B, 0, none⟩ = some a ∧ w.cell? ⟨B, 1, none⟩ = some b ∧ w.cell? ⟨B, 2, none⟩ = some c ∧ w.cell? ⟨B, 3, none⟩ = some d :=
  ⟨r.cell (i := 0) (by omega), r.cell (i := 1) (by omega), r.cell (i := 2) (by omega), r.cell (i := 3) (by omega)⟩
/-- What a walker holds: its table, its short ways, its hits. -/
structure KD where
  B : BD
  n : Nat
  F : Nat → Nat → Int
  h : Int
abbrev KD.zero : KD := ⟨BD.zero, 0, fun _ _ => 0, 0⟩
structure KV where
  b : BV
  a : Option Addr
  q : Nat
abbrev KV.zero : KV := ⟨BV.zero, none, 0⟩
abbrev KV.cells (v : KV) (D : KD) : Array Value := #[.slice v.b.a1 D.B.n v.b.c1, .slice v.b.a2 D.B.D.n v.b.c2, .slice v.a D.n v.q, .int .i64 D.h]
abbrev KV.val (v : KV) (D : KD) : Value := .agg (v.cells D)
abbrev kb (v : KV) (D : KD) : Nat → Value := fun i => if i = 0 then .slice v.b.a1 D.B.n v.b.c1 else if i = 1 then .slice v.b.a2 D.B.D.n v.b.c2 else if i = 2 then .slice v.a D.n v.q else .int .i64 D.h
structure WkAt (Y : Nat → Prop) (w : World) (v : KV) (D : KD) : Prop where
  t : BookAt Y w v.b D.B
  k : KAt 3 Y w v.a D.n D.F
structure WkOwn (X : Nat → Prop) (w : World) (v : KV) (D : KD) : Prop where
  ex : ∃ X1 X2 : Nat → Prop, (∀ b, X1 b → X b ∧ ¬ X2 b) ∧ (∀ b, X2 b → X b) ∧ BookOwn X1 w v.b D.B ∧ KOwn 3 X2 w v.a D.n D.F
theorem WkAt.blw {Y : Nat → Prop} {w w' : World} {v : KV} {D : KD} (h : WkAt Y w v D) (hb : Blw w w') : WkAt Y w' v D := ⟨h.t.blw hb, h.k.blw hb⟩
theorem WkAt.mod {X Y : Nat → Prop} {w w' : World} {v : KV} {D : KD} (h : WkAt Y w v D) (hb : Mod X w w') (hxy : ∀ k, Y k → ¬ X k) : WkAt Y w' v D := ⟨h.t.mod hb hxy, h.k.mod hb hxy⟩
theorem WkAt.mono {X Y : Nat → Prop} {w : World} {v : KV} {D : KD} (h : WkAt X w v D) (hxy : ∀ b, X b → Y b) : WkAt Y w v D := ⟨h.t.mono hxy, h.k.mono hxy⟩
theorem WkOwn.at {X : Nat → Prop} {w : World} {v : KV} {D : KD} (h : WkOwn X w v D) : WkAt X w v D := by
  obtain ⟨X1, X2, d1, d2, ht, hk⟩ := h.ex
  exact ⟨ht.at.mono (fun b hb => (d1 b hb).1), hk.at.mono d2⟩
theorem WkOwn.mod {X Z : Nat → Prop} {w w' : World} {v : KV} {D : KD} (h : WkOwn X w v D) (hb : Mod Z w w') (hxz : ∀ b, X b → ¬ Z b) : WkOwn X w' v D := by
  obtain ⟨X1, X2, d1, d2, ht, hk⟩ := h.ex
  exact ⟨X1, X2, d1, d2, ht.mod hb (fun b hx => hxz b (d1 b hx).1), hk.mod hb (fun b hx => hxz b (d2 b hx))⟩
theorem WkOwn.blw {X : Nat → Prop} {w w' : World} {v : KV} {D : KD} (h : WkOwn X w v D) (hb : Blw w w') : WkOwn X w' v D := h.mod (hb.mod (fun _ => False)) (fun _ _ => id)
theorem WkOwn.mono {X Y : Nat → Prop} {w : World} {v : KV} {D : KD} (h : WkOwn X w v D) (hxy : ∀ b, X b → Y b) : WkOwn Y w v D := by
  obtain ⟨X1, X2, d1, d2, ht, hk⟩ := h.ex
  exact ⟨X1, X2, fun b hb => ⟨hxy b (d1 b hb).1, (d1 b hb).2⟩, fun b hb => hxy b (d2 b hb), ht, hk⟩
theorem WkOwn.zero (X : Nat → Prop) (w : World) : WkOwn X w KV.zero KD.zero := ⟨fun _ => False, fun _ => False, fun _ h => h.elim, fun _ h => h.elim, BookOwn.zero _ _, KOwn.nil _ _ _ _ _⟩
def KD.marked (D : KD) (k : Int) : KD := ⟨D.B.marked k, D.n, mkK 3 (k + D.B.total), D.h⟩
def KD.total (D : KD) : Nat := D.B.total + 3 * D.n
def KD.small (D : KD) : Prop := D.B.n + (D.B.D.n + D.B.D.tot) ≤ 1048576 ∧ D.n ≤ 1048576
set_option maxHeartbeats 1600000 in
theorem eqWalker_same (v u : KV) (D : KD) {X Y : Nat → Prop} (w : World) (h1 : WkAt X w v D) (h2 : WkAt Y w u D) :
    Calls Try.prog 61 #[v.val D, u.val D] w fun e w' => e = .returned (.bool true) ∧ Blw w w' := by
  have hb0 : Blw w ((w.alloc (.cells #[.slice v.b.a1 D.B.n v.b.c1, .slice v.b.a2 D.B.D.n v.b.c2, .slice v.a D.n v.q, .int .i64 D.h] 32)).alloc (.cells #[.slice u.b.a1 D.B.n u.b.c1, .slice u.b.a2 D.B.D.n u.b.c2, .slice u.a D.n u.q, .int .i64 D.h] 32)) := ((Blw.refl _).alloc _).alloc _
  have H1 : Hid (WkAt X ((w.alloc (.cells #[.slice v.b.a1 D.B.n v.b.c1, .slice v.b.a2 D.B.D.n v.b.c2, .slice v.a D.n v.q, .int .i64 D.h] 32)).alloc (.cells #[.slice u.b.a1 D.B.n u.b.c1, .slice u.b.a2 D.B.D.n u.b.c2, .slice u.a D.n u.q, .int .i64 D.h] 32)) v D) := h1.blw hb0
  have H2 : Hid (WkAt Y ((w.alloc (.cells #[.slice v.b.a1 D.B.n v.b.c1, .slice v.b.a2 D.B.D.n v.b.c2, .slice v.a D.n v.q, .int .i64 D.h] 32)).alloc (.cells #[.slice u.b.a1 D.B.n u.b.c1, .slice u.b.a2 D.B.D.n u.b.c2, .slice u.a D.n u.q, .int .i64 D.h] 32)) u D) := h2.blw hb0
  have R1 : Hid (Row ((w.alloc (.cells #[.slice v.b.a1 D.B.n v.b.c1, .slice v.b.a2 D.B.D.n v.b.c2, .slice v.a D.n v.q, .int .i64 D.h] 32)).alloc (.cells #[.slice u.b.a1 D.B.n u.b.c1, .slice u.b.a2 D.B.D.n u.b.c2, .slice u.a D.n u.q, .int .i64 D.h] 32)) w.heap.size 4 (kb v D)) := (box4 w _ _ _ _ 32).blw ((Blw.refl _).alloc _)
  have r2 := box4 (w.alloc (.cells #[.slice v.b.a1 D.B.n v.b.c1, .slice v.b.a2 D.B.D.n v.b.c2, .slice v.a D.n v.q, .int .i64 D.h] 32)) (.slice u.b.a1 D.B.n u.b.c1) (.slice u.b.a2 D.B.D.n u.b.c2) (.slice u.a D.n u.q) (.int .i64 D.h) 32
  rw [World.size_alloc] at r2
  have R2 : Hid (Row ((w.alloc (.cells #[.slice v.b.a1 D.B.n v.b.c1, .slice v.b.a2 D.B.D.n v.b.c2, .slice v.a D.n v.q, .int .i64 D.h] 32)).alloc (.cells #[.slice u.b.a1 D.B.n u.b.c1, .slice u.b.a2 D.B.D.n u.b.c2, .slice u.a D.n u.q, .int .i64 D.h] 32)) (w.heap.size + 1) 4 (kb u D)) := r2
  have HB : Hid (Blw w ((w.alloc (.cells #[.slice v.b.a1 D.B.n v.b.c1, .slice v.b.a2 D.B.D.n v.b.c2, .slice v.a D.n v.q, .int .i64 D.h] 32)).alloc (.cells #[.slice u.b.a1 D.B.n u.b.c1, .slice u.b.a2 D.B.D.n u.b.c2, .slice u.a D.n u.q, .int .i64 D.h] 32))) := hb0
  clear h1 h2 r2 hb0
  go_enter Try.func61, Try.ntmps61
  obtain ⟨p0, p1, p2, p3⟩ := get4 R1.out
  obtain ⟨q0, q1, q2, q3⟩ := get4 R2.out
  go_wp2_with fail
  clear p0 p1 p2 p3 q0 q1 q2 q3
  refine (eqBook_same v.b u.b D.B _ H1.out.t H2.out.t).mono ?_
  rintro e w1 ⟨rfl, hb1⟩
  replace H1 : Hid (WkAt X w1 v D) := H1.out.blw hb1
  replace H2 : Hid (WkAt Y w1 u D) := H2.out.blw hb1
  replace R1 : Hid (Row w1 w.heap.size 4 (kb v D)) := R1.out.blw hb1
  replace R2 : Hid (Row w1 (w.heap.size + 1) 4 (kb u D)) := R2.out.blw hb1
  replace HB : Hid (Blw w w1) := HB.out.trans hb1
  clear hb1
  obtain ⟨p0, p1, p2, p3⟩ := get4 R1.out
  obtain ⟨q0, q1, q2, q3⟩ := get4 R2.out
  go_wp2_with fail
  clear p0 p1 p2 p3 q0 q1 q2 q3
  refine (eqSh_same v.a u.a v.q u.q D.n D.F _ H1.out.k H2.out.k).mono ?_
  rintro e w2 ⟨rfl, hb1⟩
  replace R1 : Hid (Row w2 w.heap.size 4 (kb v D)) := R1.out.blw hb1
  replace R2 : Hid (Row w2 (w.heap.size + 1) 4 (kb u D)) := R2.out.blw hb1
  replace HB : Hid (Blw w w2) := HB.out.trans hb1
  have hh : (D.h != D.h) = false := by simp
  clear hb1 H1 H2
  obtain ⟨p0, p1, p2, p3⟩ := get4 R1.out
  obtain ⟨q0, q1, q2, q3⟩ := get4 R2.out
  clear R1 R2
  go_wp2
  go_ret
  exact ⟨rfl, HB.out⟩
set_option maxHeartbeats 1600000 in
theorem markWalker_any (v : KV) (D : KD) (X : Nat → Prop) (w : World) (hS : D.small) (hX : ∀ b, X b → b < w.heap.size) (h : WkOwn X w v D) :
    Calls Try.prog 65 #[v.val D, .int .i64 1] w fun e w' => e = .returned (.int .i64 (1 + D.total)) ∧ WkOwn X w' v (D.marked 1) ∧ Mod X w w' := by
  obtain ⟨X1, X2, d1, d2, ht, hk⟩ := h.ex
  have hA : Blw w (w.alloc (.cells #[.slice v.b.a1 D.B.n v.b.c1, .slice v.b.a2 D.B.D.n v.b.c2, .slice v.a D.n v.q, .int .i64 D.h] 32)) := (Blw.refl _).alloc _
  have HT : Hid (BookOwn X1 (w.alloc (.cells #[.slice v.b.a1 D.B.n v.b.c1, .slice v.b.a2 D.B.D.n v.b.c2, .slice v.a D.n v.q, .int .i64 D.h] 32)) v.b D.B) := ht.blw hA
  have HK : Hid (KOwn 3 X2 (w.alloc (.cells #[.slice v.b.a1 D.B.n v.b.c1, .slice v.b.a2 D.B.D.n v.b.c2, .slice v.a D.n v.q, .int .i64 D.h] 32)) v.a D.n D.F) := hk.blw hA
  have R1 : Hid (Row (w.alloc (.cells #[.slice v.b.a1 D.B.n v.b.c1, .slice v.b.a2 D.B.D.n v.b.c2, .slice v.a D.n v.q, .int .i64 D.h] 32)) w.heap.size 4 (kb v D)) := box4 w _ _ _ _ 32
  have HM : Hid (Mod X w (w.alloc (.cells #[.slice v.b.a1 D.B.n v.b.c1, .slice v.b.a2 D.B.D.n v.b.c2, .slice v.a D.n v.q, .int .i64 D.h] 32))) := hA.mod _
  have hl : D.B.total ≤ 2097152 := by have := hS.1; unfold BD.total; omega
  have hn := hS.2
  clear h ht hk hA
  go_enter Try.func65, Try.ntmps65
  obtain ⟨p0, p1, p2, p3⟩ := get4 R1.out
  go_wp2_with fail
  clear p0 p1 p2 p3
  refine (markBook_any v.b D.B X1 _ hS.1 (fun b hb => by have := hX b (d1 b hb).1; simp; omega) HT.out).mono ?_
  rintro e w1 ⟨rfl, ht1, hm1⟩
  have R2 := R1.out.mod hm1 (fun hh => by have := hX _ (d1 _ hh).1; omega)
  have HK1 : Hid (KOwn 3 X2 w1 v.a D.n D.F) := HK.out.mod hm1 (fun x hx hh => (d1 x hh).2 hx)
  have HT1 : Hid (BookOwn X1 w1 v.b (D.B.marked 1)) := ht1
  replace HM : Hid (Mod X w w1) := HM.out.trans (hm1.mono (fun x hx => (d1 x hx).1))
  clear ht1 hm1 HT HK R1
  obtain ⟨p0, p1, p2, p3⟩ := get4 R2
  clear R2
  go_wp2_with fail
  clear p0 p1 p2 p3
  refine (markSh_any v.a v.q D.n D.F X2 (1 + D.B.total) _ (by omega) (by omega) HK1.out).mono ?_
  rintro e w2 ⟨rfl, hk2, hm2⟩
  have HT2 : Hid (BookOwn X1 w2 v.b (D.B.marked 1)) := HT1.out.mod hm2 (fun x hx hh => (d1 x hx).2 hh)
  replace HM : Hid (Mod X w w2) := HM.out.trans (hm2.mono d2)
  have HK2 : Hid (KOwn 3 X2 w2 v.a D.n (mkK 3 (1 + D.B.total))) := hk2
  clear hk2 hm2 HT1 HK1
  go_wp2
  go_ret
  exact ⟨ret_int (by unfold KD.total; omega), ⟨X1, X2, d1, d2, HT2.out, HK2.out⟩, HM.out⟩
set_option maxHeartbeats 1600000 in
theorem heldWalker_any (v : KV) (D : KD) (X : Nat → Prop) (w : World) (hS : D.small) (h : WkOwn X w v (D.marked 1)) :
    Calls Try.prog 67 #[v.val D, .int .i64 1] w fun e w' => e = .returned (.int .i64 (1 + D.total)) ∧ Blw w w' := by
  obtain ⟨X1, X2, d1, d2, ht, hk⟩ := h.ex
  have hA : Blw w (w.alloc (.cells #[.slice v.b.a1 D.B.n v.b.c1, .slice v.b.a2 D.B.D.n v.b.c2, .slice v.a D.n v.q, .int .i64 D.h] 32)) := (Blw.refl _).alloc _
  have HT : Hid (BookOwn X1 (w.alloc (.cells #[.slice v.b.a1 D.B.n v.b.c1, .slice v.b.a2 D.B.D.n v.b.c2, .slice v.a D.n v.q, .int .i64 D.h] 32)) v.b (D.B.marked 1)) := ht.blw hA
  have HK : Hid (KOwn 3 X2 (w.alloc (.cells #[.slice v.b.a1 D.B.n v.b.c1, .slice v.b.a2 D.B.D.n v.b.c2, .slice v.a D.n v.q, .int .i64 D.h] 32)) v.a D.n (mkK 3 (1 + D.B.total))) := hk.blw hA
  have R1 : Hid (Row (w.alloc (.cells #[.slice v.b.a1 D.B.n v.b.c1, .slice v.b.a2 D.B.D.n v.b.c2, .slice v.a D.n v.q, .int .i64 D.h] 32)) w.heap.size 4 (kb v D)) := box4 w _ _ _ _ 32
  have HB : Hid (Blw w (w.alloc (.cells #[.slice v.b.a1 D.B.n v.b.c1, .slice v.b.a2 D.B.D.n v.b.c2, .slice v.a D.n v.q, .int .i64 D.h] 32))) := hA
  have hl : D.B.total ≤ 2097152 := by have := hS.1; unfold BD.total; omega
  have hn := hS.2
  clear h ht hk hA
  go_enter Try.func67, Try.ntmps67
  obtain ⟨p0, p1, p2, p3⟩ := get4 R1.out
  go_wp2_with fail
  clear p0 p1 p2 p3
  refine (heldBook_any v.b D.B X1 _ hS.1 HT.out).mono ?_
  rintro e w1 ⟨rfl, hb1⟩
  have R2 := R1.out.blw hb1
  replace HK : Hid (KOwn 3 X2 w1 v.a D.n (mkK 3 (1 + D.B.total))) := HK.out.blw hb1
  replace HB : Hid (Blw w w1) := HB.out.trans hb1
  clear hb1 HT R1
  obtain ⟨p0, p1, p2, p3⟩ := get4 R2
  have k1 : ¬ (1 + (D.B.total : Int) < 0) := by omega
  clear R2
  go_wp2_with fail
  clear p0 p1 p2 p3
  refine (heldSh_any v.a v.q D.n X2 (1 + D.B.total) _ (by omega) (by omega) HK.out).mono ?_
  rintro e w2 ⟨rfl, hb2⟩
  replace HB : Hid (Blw w w2) := HB.out.trans hb2
  have k2 : ¬ (1 + (D.B.total : Int) + 3 * (D.n : Int) < 0) := by omega
  clear hb2 HK k1
  go_wp2
  go_ret
  exact ⟨ret_int (by unfold KD.total; omega), HB.out⟩
end Go.Proofs.Ytjplodenflkghaa
