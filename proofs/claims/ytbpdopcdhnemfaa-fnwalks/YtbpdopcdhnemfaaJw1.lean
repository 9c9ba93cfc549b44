/- Merged by program, in this order: Base, Ints, Book, Undo, Tab, TabL, Buf, Good, ImplA, ImplB. -/
import Derived.Test.YtbpdopcdhnemfaaRows
import Derived.WalkKit
import Derived.WalkSpells
import Derived.WalkLawsBesides
import Derived.OpenShut
import Derived.Deep.LoopGhost
import Derived.Deep.OwnRows
import Derived.Deep.QuietTactic
import Derived.BigQuiet
import Derived.Deep.RegionWith
import Derived.Deep.Cut
import Derived.Laws.CopyOwn
import Derived.Deep.CutRange
import Derived.Deep.RegionHeld3
import Derived.Deep.AppendLies
import Derived.Laws.OwnMore
/- Base: what is said of worlds: what slices of numbers, of bools and of lines read as, what is owned, what has turned. -/
namespace Go.Proofs.Ytbpdopcdhnemfaa
open Go.RowKit

/-- Nothing that was there has turned. -/
def Blw (w w' : World) : Prop := Below w.heap.size w w'
theorem Blw.refl (w : World) : Blw w w := Below.refl _ _
theorem Blw.size {w w' : World} (h : Blw w w') : w.heap.size ≤ w'.heap.size := Below.size h
theorem Blw.trans {a b c : World} (h : Blw a b) (k : Blw b c) : Blw a c := Below.trans h (Below.mono k h.size)
theorem Blw.drew {a b : World} (h : Blw a b) : Blw a b.drew := Below.drew h
theorem Blw.drewN {a b : World} (h : Blw a b) (n : Nat) : Blw a (b.drewN n) := ⟨h.os, h.tape, h.output, by simpa using h.size, by simpa using h.block⟩
theorem Blw.alloc {a b : World} (h : Blw a b) (o : Obj) : Blw a (b.alloc o) := Below.alloc h h.size o
theorem Blw.setCell {a b : World} (h : Blw a b) {p : Addr} (hp : a.heap.size ≤ p.block) (u : Value) : Blw a (b.setCell p u) := Below.setCell h hp u
theorem Blw.cell {w w' : World} (h : Blw w w') {p : Addr} {v : Value} (hp : w.cell? p = some v) : w'.cell? p = some v := by
  rw [Below.cell h (World.block_lt_of_cell? _ _ hp)]; exact hp
theorem Blw.frozen {w w' : World} (h : Blw w w') {p : Addr} (hp : p.block < w.heap.size) : w'.frozen? p = w.frozen? p := Below.frozen h hp

/-- Of what was there only blocks in X have turned. -/
structure Mod (X : Nat → Prop) (w w' : World) : Prop where
  os : w'.os = w.os
  tape : w'.tape = w.tape
  output : w'.output = w.output
  size : w.heap.size ≤ w'.heap.size
  block : ∀ k, k < w.heap.size → ¬ X k → w'.heap[k]? = w.heap[k]?
theorem Mod.refl (X : Nat → Prop) (w : World) : Mod X w w := ⟨rfl, rfl, rfl, Nat.le_refl _, fun _ _ _ => rfl⟩
theorem Mod.trans {X : Nat → Prop} {a b c : World} (h : Mod X a b) (k : Mod X b c) : Mod X a c :=
  ⟨k.os.trans h.os, k.tape.trans h.tape, k.output.trans h.output, Nat.le_trans h.size k.size, fun i hi hx => (k.block i (Nat.lt_of_lt_of_le hi h.size) hx).trans (h.block i hi hx)⟩
theorem Mod.mono {X Y : Nat → Prop} {a b : World} (h : Mod X a b) (hxy : ∀ k, X k → Y k) : Mod Y a b := ⟨h.os, h.tape, h.output, h.size, fun i hi hx => h.block i hi (fun hh => hx (hxy i hh))⟩
theorem Blw.mod {w w' : World} (h : Blw w w') (X : Nat → Prop) : Mod X w w' := ⟨h.os, h.tape, h.output, h.size, fun i hi _ => h.block i hi⟩
theorem Mod.blw {a b c : World} {X : Nat → Prop} (h : Blw a b) (k : Mod X b c) (hx : ∀ i, X i → a.heap.size ≤ i) : Blw a c :=
  ⟨k.os.trans h.os, k.tape.trans h.tape, k.output.trans h.output, Nat.le_trans h.size k.size, fun i hi => (k.block i (Nat.lt_of_lt_of_le hi h.size) (fun hh => by have := hx i hh; omega)).trans (h.block i hi)⟩
theorem Mod.setCell {X : Nat → Prop} (w : World) {p : Addr} (hp : X p.block) (u : Value) : Mod X w (w.setCell p u) :=
  ⟨rfl, rfl, rfl, by simp [World.setCell], fun k _ hk => Below.heap_setCell _ _ _ _ (fun e => hk (e ▸ hp))⟩
theorem Mod.cell {X : Nat → Prop} {w w' : World} (h : Mod X w w') {p : Addr} {v : Value} (hp : w.cell? p = some v) (hx : ¬ X p.block) : w'.cell? p = some v := by
  rw [World.cell?_of_block (w := w) (h.block p.block (World.block_lt_of_cell? _ _ hp) hx)]; exact hp

/-- Block b is a row of cells, none frozen, of which the first n hold f. -/
def Row (w : World) (b n : Nat) (f : Nat → Value) : Prop := ∃ (c : Array Value) (t : TypeId), w.heap[b]? = some (.cells c t (0, 0)) ∧ n ≤ c.size ∧ ∀ i, i < n → c[i]? = some (f i)
theorem Row.cell {w : World} {b n : Nat} {f : Nat → Value} (h : Row w b n f) {i : Nat} (hi : i < n) : w.cell? ⟨b, i, none⟩ = some (f i) := by
  obtain ⟨c, t, hb, _, hc⟩ := h
  simp [World.cell?, hb, hc i hi]
theorem Row.frozen {w : World} {b n : Nat} {f : Nat → Value} (h : Row w b n f) (i : Nat) : w.frozen? ⟨b, i, none⟩ = false := by
  obtain ⟨c, t, hb, _⟩ := h
  simp [World.frozen?, hb]
theorem Row.lt {w : World} {b n : Nat} {f : Nat → Value} (h : Row w b n f) : b < w.heap.size := by
  obtain ⟨c, t, hb, _⟩ := h
  obtain ⟨hlt, _⟩ := Array.getElem?_eq_some_iff.1 hb
  exact hlt
theorem Row.congr {w : World} {b n : Nat} {f g : Nat → Value} (h : Row w b n f) (e : ∀ i, i < n → f i = g i) : Row w b n g := by
  obtain ⟨c, t, hb, hn, hc⟩ := h
  exact ⟨c, t, hb, hn, fun i hi => by rw [hc i hi, e i hi]⟩
theorem Row.of_block {w w' : World} {b n : Nat} {f : Nat → Value} (h : Row w b n f) (e : w'.heap[b]? = w.heap[b]?) : Row w' b n f := by
  obtain ⟨c, t, hb, hn, hc⟩ := h
  exact ⟨c, t, e.trans hb, hn, hc⟩
theorem Row.blw {w w' : World} {b n : Nat} {f : Nat → Value} (h : Row w b n f) (hb : Blw w w') : Row w' b n f := h.of_block (hb.block _ h.lt)
theorem Row.mod {X : Nat → Prop} {w w' : World} {b n : Nat} {f : Nat → Value} (h : Row w b n f) (hb : Mod X w w') (hx : ¬ X b) : Row w' b n f := h.of_block (hb.block _ h.lt hx)
theorem Row.set {w : World} {b n : Nat} {f : Nat → Value} (h : Row w b n f) (i : Nat) (v : Value) : Row (w.setCell ⟨b, i, none⟩ v) b n (fun j => if j = i then v else f j) := by
  obtain ⟨c, t, hb, hn, hc⟩ := h
  refine ⟨c.setIfInBounds i v, t, ?_, by simpa using hn, fun j hj => ?_⟩
  · simp [World.setCell, Array.getElem?_modify, hb]
  · rw [Array.getElem?_setIfInBounds]
    by_cases e : j = i
    · subst e
      simp [Nat.lt_of_lt_of_le hj hn]
    · rw [if_neg (fun h => e h.symm)]
      show c[j]? = some (if j = i then v else f j)
      rw [if_neg e]
      exact hc j hj
theorem Row.setOther {w : World} {b n : Nat} {f : Nat → Value} (h : Row w b n f) {a : Addr} (ha : b ≠ a.block) (v : Value) : Row (w.setCell a v) b n f := h.of_block (Below.heap_setCell _ _ _ _ ha)
theorem Row.made (w : World) (z : Value) (n : Nat) (t : TypeId) : Row (w.alloc (.cells (madeCells #[z] n) t)) w.heap.size n (fun _ => z) := by
  obtain ⟨c, h1, h2, h3⟩ := World.rowIs_made w z n t
  exact ⟨c, t, h1, by omega, h3⟩

/-- The slice at 'ao' reads as the n numbers f, all in blocks of Y. -/
def IntsAt (Y : Nat → Prop) (w : World) (ao : Option Addr) (n : Nat) (f : Nat → Int) : Prop :=
  n ≤ 9223372036854775807 ∧ ∀ i, i < n → ∃ b o, ao = some ⟨b, o, none⟩ ∧ Y b ∧ w.cell? ⟨b, o + i, none⟩ = some (.int .i64 (f i))
def BoolsAt (Y : Nat → Prop) (w : World) (ao : Option Addr) (n : Nat) (f : Nat → Bool) : Prop :=
  n ≤ 9223372036854775807 ∧ ∀ i, i < n → ∃ b o, ao = some ⟨b, o, none⟩ ∧ Y b ∧ w.cell? ⟨b, o + i, none⟩ = some (.bool (f i))
def LinesAt (Y : Nat → Prop) (w : World) (ao : Option Addr) (n : Nat) (len : Nat → Nat) (v : Nat → Nat → Int) : Prop :=
  n ≤ 9223372036854775807 ∧ ∀ i, i < n → ∃ b o a c, ao = some ⟨b, o, none⟩ ∧ Y b ∧ w.cell? ⟨b, o + i, none⟩ = some (.slice a (len i) c) ∧ IntsAt Y w a (len i) (v i)
/-- What a memory holds: how many lines, how long each, its words; likewise the cache; the marks. -/
structure MD where
  n1 : Nat
  n2 : Nat
  n3 : Nat
  l1 : Nat → Nat
  l2 : Nat → Nat
  v1 : Nat → Nat → Int
  v2 : Nat → Nat → Int
  d : Nat → Bool
/-- The value of a memory: three slices. -/
structure MV where
  a1 : Option Addr
  a2 : Option Addr
  a3 : Option Addr
  c1 : Nat
  c2 : Nat
  c3 : Nat
abbrev MV.val (m : MV) (M : MD) : Value := .agg #[.slice m.a1 M.n1 m.c1, .slice m.a2 M.n2 m.c2, .slice m.a3 M.n3 m.c3]
structure MemAt (Y : Nat → Prop) (w : World) (m : MV) (M : MD) : Prop where
  s : LinesAt Y w m.a1 M.n1 M.l1 M.v1
  c : LinesAt Y w m.a2 M.n2 M.l2 M.v2
  d : BoolsAt Y w m.a3 M.n3 M.d

theorem IntsAt.blw {Y : Nat → Prop} {w w' : World} {ao : Option Addr} {n : Nat} {f : Nat → Int} (h : IntsAt Y w ao n f) (hb : Blw w w') : IntsAt Y w' ao n f := by
  refine ⟨h.1, fun i hi => ?_⟩
  obtain ⟨b, o, h1, hY, h2⟩ := h.2 i hi
  exact ⟨b, o, h1, hY, hb.cell h2⟩
theorem BoolsAt.blw {Y : Nat → Prop} {w w' : World} {ao : Option Addr} {n : Nat} {f : Nat → Bool} (h : BoolsAt Y w ao n f) (hb : Blw w w') : BoolsAt Y w' ao n f := by
  refine ⟨h.1, fun i hi => ?_⟩
  obtain ⟨b, o, h1, hY, h2⟩ := h.2 i hi
  exact ⟨b, o, h1, hY, hb.cell h2⟩
theorem LinesAt.blw {Y : Nat → Prop} {w w' : World} {ao : Option Addr} {n : Nat} {len : Nat → Nat} {v : Nat → Nat → Int} (h : LinesAt Y w ao n len v) (hb : Blw w w') : LinesAt Y w' ao n len v := by
  refine ⟨h.1, fun i hi => ?_⟩
  obtain ⟨b, o, a, c, h1, hY, h2, h3⟩ := h.2 i hi
  exact ⟨b, o, a, c, h1, hY, hb.cell h2, h3.blw hb⟩
theorem MemAt.blw {Y : Nat → Prop} {w w' : World} {m : MV} {M : MD} (h : MemAt Y w m M) (hb : Blw w w') : MemAt Y w' m M :=
  ⟨h.s.blw hb, h.c.blw hb, h.d.blw hb⟩
theorem IntsAt.mod {X Y : Nat → Prop} {w w' : World} {ao : Option Addr} {n : Nat} {f : Nat → Int} (h : IntsAt Y w ao n f) (hb : Mod X w w') (hxy : ∀ k, Y k → ¬ X k) : IntsAt Y w' ao n f := by
  refine ⟨h.1, fun i hi => ?_⟩
  obtain ⟨b, o, h1, hY, h2⟩ := h.2 i hi
  exact ⟨b, o, h1, hY, hb.cell h2 (hxy _ hY)⟩
theorem BoolsAt.mod {X Y : Nat → Prop} {w w' : World} {ao : Option Addr} {n : Nat} {f : Nat → Bool} (h : BoolsAt Y w ao n f) (hb : Mod X w w') (hxy : ∀ k, Y k → ¬ X k) : BoolsAt Y w' ao n f := by
  refine ⟨h.1, fun i hi => ?_⟩
  obtain ⟨b, o, h1, hY, h2⟩ := h.2 i hi
  exact ⟨b, o, h1, hY, hb.cell h2 (hxy _ hY)⟩
theorem LinesAt.mod {X Y : Nat → Prop} {w w' : World} {ao : Option Addr} {n : Nat} {len : Nat → Nat} {v : Nat → Nat → Int} (h : LinesAt Y w ao n len v) (hb : Mod X w w') (hxy : ∀ k, Y k → ¬ X k) : LinesAt Y w' ao n len v := by
  refine ⟨h.1, fun i hi => ?_⟩
  obtain ⟨b, o, a, c, h1, hY, h2, h3⟩ := h.2 i hi
  exact ⟨b, o, a, c, h1, hY, hb.cell h2 (hxy _ hY), h3.mod hb hxy⟩
theorem MemAt.mod {X Y : Nat → Prop} {w w' : World} {m : MV} {M : MD} (h : MemAt Y w m M) (hb : Mod X w w') (hxy : ∀ k, Y k → ¬ X k) : MemAt Y w' m M :=
  ⟨h.s.mod hb hxy, h.c.mod hb hxy, h.d.mod hb hxy⟩
theorem IntsAt.congr {Y : Nat → Prop} {w : World} {ao : Option Addr} {n : Nat} {f g : Nat → Int} (h : IntsAt Y w ao n f) (e : ∀ i, i < n → f i = g i) : IntsAt Y w ao n g := by
  refine ⟨h.1, fun i hi => ?_⟩
  obtain ⟨b, o, h1, hY, h2⟩ := h.2 i hi
  exact ⟨b, o, h1, hY, by rw [← e i hi]; exact h2⟩
theorem BoolsAt.congr {Y : Nat → Prop} {w : World} {ao : Option Addr} {n : Nat} {f g : Nat → Bool} (h : BoolsAt Y w ao n f) (e : ∀ i, i < n → f i = g i) : BoolsAt Y w ao n g := by
  refine ⟨h.1, fun i hi => ?_⟩
  obtain ⟨b, o, h1, hY, h2⟩ := h.2 i hi
  exact ⟨b, o, h1, hY, by rw [← e i hi]; exact h2⟩
theorem LinesAt.congr {Y : Nat → Prop} {w : World} {ao : Option Addr} {n : Nat} {len len' : Nat → Nat} {v v' : Nat → Nat → Int} (h : LinesAt Y w ao n len v) (e : ∀ i, i < n → len i = len' i) (e' : ∀ i, i < n → ∀ j, j < len i → v i j = v' i j) : LinesAt Y w ao n len' v' := by
  refine ⟨h.1, fun i hi => ?_⟩
  obtain ⟨b, o, a, c, h1, hY, h2, h3⟩ := h.2 i hi
  refine ⟨b, o, a, c, h1, hY, by rw [← e i hi]; exact h2, ?_⟩
  rw [← e i hi]
  exact h3.congr (e' i hi)

/-! ### What is owned: it may be written -/
def IntsOwn (X : Nat → Prop) (w : World) (ao : Option Addr) (n : Nat) (f : Nat → Int) : Prop :=
  n ≤ 9223372036854775807 ∧ (0 < n → ∃ b, X b ∧ ao = some ⟨b, 0, none⟩ ∧ Row w b n (fun i => .int .i64 (f i)))
def BoolsOwn (X : Nat → Prop) (w : World) (ao : Option Addr) (n : Nat) (f : Nat → Bool) : Prop :=
  n ≤ 9223372036854775807 ∧ (0 < n → ∃ b, X b ∧ ao = some ⟨b, 0, none⟩ ∧ Row w b n (fun i => .bool (f i)))
def LinesOwn (X : Nat → Prop) (w : World) (ao : Option Addr) (n : Nat) (len : Nat → Nat) (v : Nat → Nat → Int) : Prop :=
  n ≤ 9223372036854775807 ∧ (0 < n → ∃ (b : Nat) (F c : Nat → Nat), X b ∧ ao = some ⟨b, 0, none⟩ ∧ Row w b n (fun i => .slice (some ⟨F i, 0, none⟩) (len i) (c i)) ∧
    (∀ i, i < n → len i ≤ 9223372036854775807 ∧ X (F i) ∧ F i ≠ b ∧ Row w (F i) (len i) (fun t => .int .i64 (v i t))) ∧ ∀ i j, i < n → j < n → i ≠ j → F i ≠ F j)
structure MemOwn (X : Nat → Prop) (w : World) (m : MV) (M : MD) : Prop where
  ex : ∃ X1 X2 X3 : Nat → Prop, (∀ b, X1 b → X b ∧ ¬ X2 b ∧ ¬ X3 b) ∧ (∀ b, X2 b → X b ∧ ¬ X3 b) ∧ (∀ b, X3 b → X b) ∧ LinesOwn X1 w m.a1 M.n1 M.l1 M.v1 ∧ LinesOwn X2 w m.a2 M.n2 M.l2 M.v2 ∧ BoolsOwn X3 w m.a3 M.n3 M.d

theorem IntsOwn.at {X : Nat → Prop} {w : World} {ao : Option Addr} {n : Nat} {f : Nat → Int} (h : IntsOwn X w ao n f) : IntsAt X w ao n f := by
  refine ⟨h.1, fun i hi => ?_⟩
  obtain ⟨b, hx, e, hr⟩ := h.2 (by omega)
  exact ⟨b, 0, e, hx, by rw [Nat.zero_add]; exact hr.cell hi⟩
theorem BoolsOwn.at {X : Nat → Prop} {w : World} {ao : Option Addr} {n : Nat} {f : Nat → Bool} (h : BoolsOwn X w ao n f) : BoolsAt X w ao n f := by
  refine ⟨h.1, fun i hi => ?_⟩
  obtain ⟨b, hx, e, hr⟩ := h.2 (by omega)
  exact ⟨b, 0, e, hx, by rw [Nat.zero_add]; exact hr.cell hi⟩
theorem LinesOwn.at {X : Nat → Prop} {w : World} {ao : Option Addr} {n : Nat} {len : Nat → Nat} {v : Nat → Nat → Int} (h : LinesOwn X w ao n len v) : LinesAt X w ao n len v := by
  refine ⟨h.1, fun i hi => ?_⟩
  obtain ⟨b, F, c, hx, e, hr, hl, _⟩ := h.2 (by omega)
  obtain ⟨g1, g2, g3, g4⟩ := hl i hi
  exact ⟨b, 0, some ⟨F i, 0, none⟩, c i, e, hx, by rw [Nat.zero_add]; exact hr.cell hi, g1, fun j hj => ⟨F i, 0, rfl, g2, by rw [Nat.zero_add]; exact g4.cell hj⟩⟩
theorem IntsAt.mono {X Y : Nat → Prop} {w : World} {ao : Option Addr} {n : Nat} {f : Nat → Int} (h : IntsAt X w ao n f) (hxy : ∀ b, X b → Y b) : IntsAt Y w ao n f :=
  ⟨h.1, fun i hi => let ⟨b, o, h1, hY, h2⟩ := h.2 i hi; ⟨b, o, h1, hxy _ hY, h2⟩⟩
theorem BoolsAt.mono {X Y : Nat → Prop} {w : World} {ao : Option Addr} {n : Nat} {f : Nat → Bool} (h : BoolsAt X w ao n f) (hxy : ∀ b, X b → Y b) : BoolsAt Y w ao n f :=
  ⟨h.1, fun i hi => let ⟨b, o, h1, hY, h2⟩ := h.2 i hi; ⟨b, o, h1, hxy _ hY, h2⟩⟩
theorem LinesAt.mono {X Y : Nat → Prop} {w : World} {ao : Option Addr} {n : Nat} {len : Nat → Nat} {v : Nat → Nat → Int} (h : LinesAt X w ao n len v) (hxy : ∀ b, X b → Y b) : LinesAt Y w ao n len v :=
  ⟨h.1, fun i hi => let ⟨b, o, a, c, h1, hY, h2, h3⟩ := h.2 i hi; ⟨b, o, a, c, h1, hxy _ hY, h2, h3.mono hxy⟩⟩
theorem MemOwn.at {X : Nat → Prop} {w : World} {m : MV} {M : MD} (h : MemOwn X w m M) : MemAt X w m M := by
  obtain ⟨X1, X2, X3, h1, h2, h3, s, c, d⟩ := h.ex
  exact ⟨s.at.mono (fun b hb => (h1 b hb).1), c.at.mono (fun b hb => (h2 b hb).1), d.at.mono h3⟩
theorem IntsOwn.blw {X : Nat → Prop} {w w' : World} {ao : Option Addr} {n : Nat} {f : Nat → Int} (h : IntsOwn X w ao n f) (hb : Blw w w') : IntsOwn X w' ao n f :=
  ⟨h.1, fun hn => let ⟨b, hx, e, hr⟩ := h.2 hn; ⟨b, hx, e, hr.blw hb⟩⟩
theorem BoolsOwn.mod {X Z : Nat → Prop} {w w' : World} {ao : Option Addr} {n : Nat} {f : Nat → Bool} (h : BoolsOwn X w ao n f) (hb : Mod Z w w') (hxz : ∀ b, X b → ¬ Z b) : BoolsOwn X w' ao n f :=
  ⟨h.1, fun hn => let ⟨b, hx, e, hr⟩ := h.2 hn; ⟨b, hx, e, hr.mod hb (hxz _ hx)⟩⟩
theorem LinesOwn.mod {X Z : Nat → Prop} {w w' : World} {ao : Option Addr} {n : Nat} {len : Nat → Nat} {v : Nat → Nat → Int} (h : LinesOwn X w ao n len v) (hb : Mod Z w w') (hxz : ∀ b, X b → ¬ Z b) : LinesOwn X w' ao n len v :=
  ⟨h.1, fun hn => let ⟨b, F, c, hx, e, hr, hl, hd⟩ := h.2 hn
    ⟨b, F, c, hx, e, hr.mod hb (hxz _ hx), fun i hi => let ⟨g1, g2, g3, g4⟩ := hl i hi; ⟨g1, g2, g3, g4.mod hb (hxz _ g2)⟩, hd⟩⟩
theorem LinesOwn.blw {X : Nat → Prop} {w w' : World} {ao : Option Addr} {n : Nat} {len : Nat → Nat} {v : Nat → Nat → Int} (h : LinesOwn X w ao n len v) (hb : Blw w w') : LinesOwn X w' ao n len v := h.mod (hb.mod (fun _ => False)) (fun _ _ => id)
theorem BoolsOwn.blw {X : Nat → Prop} {w w' : World} {ao : Option Addr} {n : Nat} {f : Nat → Bool} (h : BoolsOwn X w ao n f) (hb : Blw w w') : BoolsOwn X w' ao n f := h.mod (hb.mod (fun _ => False)) (fun _ _ => id)
theorem MemOwn.mod {X Z : Nat → Prop} {w w' : World} {m : MV} {M : MD} (h : MemOwn X w m M) (hb : Mod Z w w') (hxz : ∀ b, X b → ¬ Z b) : MemOwn X w' m M := by
  obtain ⟨X1, X2, X3, h1, h2, h3, s, c, d⟩ := h.ex
  exact ⟨X1, X2, X3, h1, h2, h3, s.mod hb (fun b hb => hxz b (h1 b hb).1), c.mod hb (fun b hb => hxz b (h2 b hb).1), d.mod hb (fun b hb => hxz b (h3 b hb))⟩
theorem MemOwn.blw {X : Nat → Prop} {w w' : World} {m : MV} {M : MD} (h : MemOwn X w m M) (hb : Blw w w') : MemOwn X w' m M := h.mod (hb.mod (fun _ => False)) (fun _ _ => id)
end Go.Proofs.Ytbpdopcdhnemfaa
/- Slices of numbers: what the laws' and the model's small functions on them answer. -/
namespace Go.Proofs.Ytbpdopcdhnemfaa
open Go.RowKit
theorem ret_int {kd : IntKind} {a b : Int} (h : a = b) : Ending.returned (.int kd a) = .returned (.int kd b) := by rw [h]
theorem ints_step {X : Nat → Prop} {w wr : World} {ao : Option Addr} {n j b : Nat} {f : Nat → Int} {k : Int} (hj : j < n) (hx : X b) (e : ao = some ⟨b, 0, none⟩) (hn : n ≤ 9223372036854775807)
    (hr : Row wr b n (fun t => .int .i64 (if t < j then k + t else f t))) (hm : Mod (fun b => X b ∧ 0 < n) w wr) :
    IntsOwn X (wr.setCell ⟨b, j, none⟩ (.int .i64 (k + j))) ao n (fun t => if t < j + 1 then k + t else f t) ∧ Mod (fun b => X b ∧ 0 < n) w (wr.setCell ⟨b, j, none⟩ (.int .i64 (k + j))) := by
  refine ⟨⟨hn, fun _ => ⟨b, hx, e, (hr.set j _).congr fun i hi => ?_⟩⟩, hm.trans (Mod.setCell _ ⟨hx, by omega⟩ _)⟩
  by_cases h1 : i = j
  · subst h1; simp
  · by_cases h2 : i < j
    · simp [h1, h2, Nat.lt_succ_of_lt h2]
    · have h3 : ¬ i < j + 1 := by omega
      simp [h1, h2, h3]
set_option maxHeartbeats 400000 in
theorem markIntS_any (ao : Option Addr) (c n : Nat) (f : Nat → Int) (X : Nat → Prop) (k : Int) (w : World) (hk0 : 0 ≤ k) (hk : k + n ≤ 9223372036854775807) (h : IntsOwn X w ao n f) :
    Calls Try.prog 65 #[.slice ao n c, .int .i64 k] w fun e w' => e = .returned (.int .i64 (k + n)) ∧ IntsOwn X w' ao n (fun i => k + i) ∧ Mod (fun b => X b ∧ 0 < n) w w' := by
  have hn := h.1
  go_enter Try.func65, Try.ntmps65
  go_wp2
  go_loopw [1, 5] (fun kk i wr => ∃ j : Nat, j ≤ n ∧ i = .int .i64 j ∧ kk = .int .i64 (k + j) ∧ IntsOwn X wr ao n (fun t => if t < j then k + t else f t) ∧ Mod (fun b => X b ∧ 0 < n) w wr) (fun _ i _ => n - (intOf i).toNat)
  case atStart => exact ⟨0, Nat.zero_le _, rfl, by simp, by simpa using h, Mod.refl _ _⟩
  case round =>
    obtain ⟨j, hj, rfl, rfl, ho, hm⟩ := hrel
    by_cases hlt : j < n
    · obtain ⟨b, hx, e, hr⟩ := ho.2 (by omega)
      have st := ints_step hlt hx e hn hr hm
      have g1 : wr.cell? ⟨b, j, none⟩ = some (.int .i64 (f j)) := by simpa using hr.cell hlt
      have g2 := hr.frozen j
      subst e
      clear h ho hr hm
      go_wp2
      go_roundw
      case rel => exact ⟨j + 1, by omega, by go_num, by go_num, st.1, st.2⟩
      case measure => simp [intOf]; omega
    · go_wp2
      go_ret
      obtain rfl : j = n := by omega
      refine ⟨rfl, ?_, hm⟩
      refine ⟨hn, fun h0 => ?_⟩
      obtain ⟨b, hx, e, hr⟩ := ho.2 h0
      exact ⟨b, hx, e, hr.congr fun i hi => by simp [hi]⟩
set_option maxHeartbeats 400000 in
theorem heldIntS_any (ao : Option Addr) (c n : Nat) (Y : Nat → Prop) (k : Int) (w : World) (hk0 : 0 ≤ k) (hk : k + n ≤ 9223372036854775807) (h : IntsAt Y w ao n (fun i => k + i)) :
    Calls Try.prog 67 #[.slice ao n c, .int .i64 k] w fun e w' => e = .returned (.int .i64 (k + n)) ∧ Blw w w' := by
  obtain ⟨hn, h⟩ := h
  go_enter Try.func67, Try.ntmps67
  go_wp2
  go_loopw [1, 5] (fun kk i wr => ∃ j : Nat, j ≤ n ∧ i = .int .i64 j ∧ kk = .int .i64 (k + j) ∧ Blw w wr) (fun _ i _ => n - (intOf i).toNat)
  case atStart => exact ⟨0, Nat.zero_le _, rfl, by simp, Blw.refl _⟩
  case round =>
    obtain ⟨j, hj, rfl, rfl, hb⟩ := hrel
    by_cases hlt : j < n
    · obtain ⟨b, o, rfl, -, g1⟩ := h j hlt
      replace g1 := hb.cell g1
      clear h
      go_wp2
      go_roundw
      case rel => exact ⟨j + 1, by omega, by go_num, by go_num, hb⟩
      case measure => simp [intOf]; omega
    · go_wp2
      go_ret
      obtain rfl : j = n := by omega
      exact ⟨rfl, hb⟩
set_option maxHeartbeats 400000 in
theorem eqIntS_same (a1 a2 : Option Addr) (c1 c2 : Nat) (n0 : Nat) (f : Nat → Int) {Y Z : Nat → Prop} (w : World) (h1 : IntsAt Y w a1 n0 f) (h2 : IntsAt Z w a2 n0 f) :
    Calls Try.prog 61 #[.slice a1 n0 c1, .slice a2 n0 c2] w fun e w' => e = .returned (.bool true) ∧ ∃ n, w' = w.drewN n := by
  obtain ⟨hl, h1⟩ := h1
  obtain ⟨-, h2⟩ := h2
  go_enter Try.func61, Try.ntmps61
  go_wp2
  go_loopw [5] (fun i wr => ∃ k n : Nat, k ≤ n0 ∧ i = .int .i64 k ∧ wr = w.drewN n) (fun i _ => n0 - (intOf i).toNat)
  case atStart => exact ⟨0, 0, Nat.zero_le _, rfl, rfl⟩
  case round =>
    obtain ⟨k, n, hk, rfl, rfl⟩ := hrel
    by_cases hlt : k < n0
    · obtain ⟨b, o, rfl, -, g1⟩ := h1 k hlt
      obtain ⟨b', o', rfl, -, g2⟩ := h2 k hlt
      clear h1 h2
      go_wp2
      go_quiet (fail)
      go_wp2
      go_roundw
      case rel => exact ⟨k + 1, _, by omega, by go_num, rfl⟩
      case measure => simp [intOf]; omega
    · go_wp2
      go_ret
      exact ⟨rfl, n, rfl⟩
/-- What a measure answers: below 0, or what is left. -/
def Left (left size r : Int) : Prop := r = -1 ∨ (0 ≤ r ∧ r + size ≤ left)
set_option maxHeartbeats 400000 in
theorem szIntS_any (ao : Option Addr) (c n : Nat) (left : Int) (w : World) (hn : n ≤ 9223372036854775807) (h0 : 0 ≤ left) (h1 : left ≤ 1048576) :
    Calls Try.prog 142 #[.slice ao n c, .int .i64 left] w fun e w' => ∃ r : Int, e = .returned (.int .i64 r) ∧ Left left n r ∧ Blw w w' := by
  by_cases h : left - n < 0
  · go_enter Try.func142, Try.ntmps142
    go_wp2
    go_ret
    exact ⟨_, rfl, Or.inl rfl, Blw.refl _⟩
  · go_enter Try.func142, Try.ntmps142
    go_wp2
    go_ret
    exact ⟨_, rfl, Or.inr ⟨by omega, by omega⟩, Blw.refl _⟩
theorem Row.of_cells {w : World} {b : Nat} {c : Array Value} {t : TypeId} (h : w.heap[b]? = some (.cells c t (0, 0))) (f : Nat → Value) (hf : ∀ i, i < c.size → c[i]? = some (f i)) : Row w b c.size f := ⟨c, t, h, Nat.le_refl _, hf⟩
theorem run_copy_fn {P : Program} (w : World) (dT sT ty elem : TypeId) (b o dLen dCap : Nat) (a : Addr) (sLen sCap m : Nat) (g : Nat → Value) (n : Nat) (f : Nat → Value)
    (hu : P.underlying dT = some (.slice elem)) (hs : (P.info? elem).map (·.size) = some 1) (hm : m = Nat.min sLen dLen)
    (hsrc : ∀ j, j < m → w.cell? (a.add j) = some (g j)) (h1 : ∀ j, j < m → (g j).oneCell' = true) (hrow : Row w b n f) (hfit : o + m ≤ n) :
    ∃ w', (Builtin.copy_ #[dT, sT] ty #[.slice (some ⟨b, o, none⟩) dLen dCap, .slice (some a) sLen sCap]).run P w = .ok (goInt m) w' ∧
      Row w' b n (fun i => if o ≤ i ∧ i < o + m then g (i - o) else f i) ∧ Mod (fun x => x = b) w w' ∧ w'.heap.size = w.heap.size := by
  obtain ⟨cur, t, hb, hn, hc⟩ := hrow
  have hl : ((List.range m).map g).length = m := by simp
  have hrun := run_copy_row (P := P) w dT sT ty elem b o dLen dCap a sLen sCap cur t ((List.range m).map g) hu hs hb (by rw [hl]; exact hm)
    (fun j v hv => by
      have hj : j < m := by
        have := (List.getElem?_eq_some_iff.1 hv).1
        omega
      rw [hsrc j hj]
      simpa [hj] using hv) (by rw [hl]; omega) (fun v hv => by
      obtain ⟨j, hj, rfl⟩ := List.mem_map.1 hv
      exact h1 j (List.mem_range.1 hj))
  rw [hl] at hrun
  refine ⟨_, hrun, ⟨_, t, setRow_heap w b _ _ t _ hb, ?_, fun i hi => ?_⟩, ⟨rfl, rfl, rfl, by simp [World.setRow], fun k _ hk => setRow_other w b k _ hk⟩, by simp [World.setRow]⟩
  · simp; omega
  · simp only [List.getElem?_toArray]
    have hlen : (cur.toList.take o).length = o := by simp; omega
    by_cases h2 : i < o
    · have h3 : ¬ (o ≤ i ∧ i < o + m) := by omega
      rw [if_neg h3, List.append_assoc, List.getElem?_append_left (by omega), List.getElem?_take, if_pos h2]
      simpa using hc i hi
    · by_cases h3 : i < o + m
      · rw [if_pos ⟨by omega, h3⟩, List.append_assoc, List.getElem?_append_right (by omega), hlen, List.getElem?_append_left (by simp; omega), List.getElem?_map, List.getElem?_range (by omega)]
        rfl
      · rw [if_neg (by omega), List.getElem?_append_right (by simp; omega)]
        simp only [List.length_append, hlen, hl, List.getElem?_drop]
        rw [show o + m + (i - (o + m)) = i by omega]
        simpa using hc i hi
/-- copy as one step of a region that draws its order. -/
theorem step_copy_fn {P : Program} {ops : Array Oper} {o : Oper} {a : Act} {w : World} {K : Act → World → Prop} {Q : Exit → Act → World → Prop} {E : Prop} (hgd : o.guard = none) (d s : Operand) (dT sT : TypeId)
    (ho : o.op = .call { callee := .builtin .copy, args := #[d, s], argTypes := #[dT, sT] }) (elem : TypeId) (hu : P.underlying dT = some (.slice elem)) (hsz : (P.info? elem).map (·.size) = some 1)
    (b off dLen dCap : Nat) (ad : Addr) (sLen sCap : Nat) (hd : a.eval d = .slice (some ⟨b, off, none⟩) dLen dCap) (hs : a.eval s = .slice (some ad) sLen sCap)
    (m : Nat) (g : Nat → Value) (n : Nat) (f : Nat → Value) (hm : m = Nat.min sLen dLen)
    (hsrc : ∀ j, j < m → w.cell? (ad.add j) = some (g j)) (h1 : ∀ j, j < m → (g j).oneCell' = true) (hrow : Row w b n f) (hfit : off + m ≤ n)
    (h : ∀ w', Row w' b n (fun i => if off ≤ i ∧ i < off + m then g (i - off) else f i) → Mod (fun x => x = b) w w' → w'.heap.size = w.heap.size → K (a.put o.dst (goInt m)) w') :
    if Region.wanted o (yielded ops a.tmps) = true then Oper.wp P o a w K Q else E := by
  have hw : Region.wanted o (yielded ops a.tmps) = true := by simp [Region.wanted, hgd]
  rw [if_pos hw]
  obtain ⟨w', hrun, h2, h3, h4⟩ := run_copy_fn (P := P) w dT sT o.type elem b off dLen dCap ad sLen sCap m g n f hu hsz hm hsrc h1 hrow hfit
  unfold Oper.wp
  simp [execOp, ho, resolve, invoke, builtin, hd, hs, hrun, Result.andThen]
  exact h _ h2 h3 h4
/-- copy as a law for a region that does not draw. -/
theorem wpList_copy_fn {P : Program} {w : World} {ops : Array Oper} {rest : List Oper} {o : Oper} {a : Act} {Q : Exit → Act → World → Prop} (hgd : o.guard = none) (d s : Operand) (dT sT : TypeId)
    (ho : o.op = .call { callee := .builtin .copy, args := #[d, s], argTypes := #[dT, sT] }) (elem : TypeId) (hu : P.underlying dT = some (.slice elem)) (hsz : (P.info? elem).map (·.size) = some 1)
    (b off dLen dCap : Nat) (ad : Addr) (sLen sCap : Nat) (hd : a.eval d = .slice (some ⟨b, off, none⟩) dLen dCap) (hs : a.eval s = .slice (some ad) sLen sCap)
    (m : Nat) (g : Nat → Value) (n : Nat) (f : Nat → Value) (hm : m = Nat.min sLen dLen)
    (hsrc : ∀ j, j < m → w.cell? (ad.add j) = some (g j)) (h1 : ∀ j, j < m → (g j).oneCell' = true) (hrow : Row w b n f) (hfit : off + m ≤ n)
    (h : ∀ w', Row w' b n (fun i => if off ≤ i ∧ i < off + m then g (i - off) else f i) → Mod (fun x => x = b) w w' → w'.heap.size = w.heap.size → wpList P ops Q rest (a.put o.dst (goInt m)) w') :
    wpList P ops Q (o :: rest) a w := by
  refine wpList_plain hgd fun K hK => ?_
  obtain ⟨w', hrun, h2, h3, h4⟩ := run_copy_fn (P := P) w dT sT o.type elem b off dLen dCap ad sLen sCap m g n f hu hsz hm hsrc h1 hrow hfit
  unfold Oper.wp
  simp [execOp, ho, resolve, invoke, builtin, hd, hs, hrun, Result.andThen]
  exact hK _ _ (h _ h2 h3 h4)
theorem tinfo3 : (Try.prog.info? 3).map (fun i => (i.zero, i.size, i.bytes)) = some (some (.int .i64 0), 1, 8) := by kernel_rfl
theorem mkInts (n : Nat) (hn : n ≤ 1048576) (w : World) : (Instr.makeSlice 26 (.int .i64 n) (.int .i64 n)).run Try.prog w = .ok (.slice (some ⟨w.heap.size, 0, none⟩) n n) (w.alloc (.cells (madeCells #[.int .i64 0] n) 3)) :=
  run_make_row' (P := Try.prog) 26 3 (.int .i64 0) 8 Try.underlying26 tinfo3 rfl .i64 .i64 n (by omega) (by omega) w
theorem fill_step {α : Type} {w wr : World} {n j : Nat} {f : Nat → α} {z : α} {mk : α → Value} (hb : Blw w wr) (hr : Row wr w.heap.size n (fun t => mk (if t < j then f t else z))) :
    Row (wr.setCell ⟨w.heap.size, j, none⟩ (mk (f j))) w.heap.size n (fun t => mk (if t < j + 1 then f t else z)) ∧ Blw w (wr.setCell ⟨w.heap.size, j, none⟩ (mk (f j))) := by
  refine ⟨(hr.set j _).congr fun i hi => ?_, hb.setCell (Nat.le_refl _) _⟩
  by_cases h1 : i = j
  · subst h1; simp
  · by_cases h2 : i < j
    · simp [h1, h2, Nat.lt_succ_of_lt h2]
    · have h3 : ¬ i < j + 1 := by omega
      simp [h1, h2, h3]
set_option maxHeartbeats 400000 in
theorem toIntS_any (ao : Option Addr) (c n : Nat) (f : Nat → Int) (Y : Nat → Prop) (w : World) (hn : n ≤ 1048576) (h : IntsAt Y w ao n f) :
    Calls Try.prog 74 #[.slice ao n c] w fun e w' => e = .returned (.slice (some ⟨w.heap.size, 0, none⟩) n n) ∧ Row w' w.heap.size n (fun t => .int .i64 (f t)) ∧ Blw w w' := by
  obtain ⟨-, h⟩ := h
  have hmk := mkInts n hn
  go_enter Try.func74, Try.ntmps74
  go_wp2
  clear hmk
  go_loopw [4] (fun i wr => ∃ j : Nat, j ≤ n ∧ i = .int .i64 j ∧ Row wr w.heap.size n (fun t => Value.int .i64 (if t < j then f t else 0)) ∧ Blw w wr) (fun i _ => n - (intOf i).toNat)
  case atStart => exact ⟨0, Nat.zero_le _, rfl, (Row.made w (.int .i64 0) n 3).congr (fun i _ => by simp), (Blw.refl _).alloc _⟩
  case round =>
    obtain ⟨j, hj, rfl, hr, hb⟩ := hrel
    by_cases hlt : j < n
    · obtain ⟨b, o, rfl, -, g1⟩ := h j hlt
      replace g1 := hb.cell g1
      have g2 : wr.cell? ⟨w.heap.size, j, none⟩ = some (.int .i64 0) := by simpa using hr.cell hlt
      have g3 := hr.frozen j
      have st := fill_step (mk := fun x => Value.int .i64 x) hb hr
      clear h hr
      go_wp2
      go_roundw
      case rel => exact ⟨j + 1, by omega, by go_num, st.1, st.2⟩
      case measure => simp [intOf]; omega
    · go_wp2
      go_ret
      obtain rfl : j = n := by omega
      exact ⟨rfl, hr.congr fun i hi => by simp [hi], hb⟩
def wordOK (x : Int) : Prop := 0 ≤ x ∧ x ≤ 65535
set_option maxHeartbeats 400000 in
theorem l1In_yes (n lo hi : Int) (w : World) (h1 : lo ≤ n) (h2 : n ≤ hi) : Calls Try.prog 99 #[.int .i64 n, .int .i64 lo, .int .i64 hi] w fun e w' => e = .returned (.bool true) ∧ w' = w := by
  go_enter Try.func99, Try.ntmps99
  go_wp2
  go_ret
  exact ⟨rfl, rfl⟩
set_option maxHeartbeats 400000 in
theorem l1In_no (n lo hi : Int) (w : World) (h : ¬ (lo ≤ n ∧ n ≤ hi)) : Calls Try.prog 99 #[.int .i64 n, .int .i64 lo, .int .i64 hi] w fun e w' => e = .returned (.bool false) ∧ w' = w := by
  by_cases h1 : lo ≤ n
  · have h2 : ¬ n ≤ hi := fun h3 => h ⟨h1, h3⟩
    clear h
    go_enter Try.func99, Try.ntmps99
    go_wp2
    go_ret
    exact ⟨rfl, rfl⟩
  · clear h
    have hd : decide (lo ≤ n) = false := by simpa using h1
    go_enter Try.func99, Try.ntmps99
    go_wp2
    go_ret
    exact ⟨rfl, rfl⟩
def hasLine (n : Nat) (f : Nat → Int) (k : Int) : Prop := ∃ t, t < n ∧ f t = k
set_option maxHeartbeats 1600000 in
theorem l1Has_any (ao : Option Addr) (c n : Nat) (f : Nat → Int) (Y : Nat → Prop) (w : World) (x : Int) (h : IntsAt Y w ao n f) :
    Calls Try.prog 162 #[.slice ao n c, .int .i64 x] w fun e w' => ∃ b, e = .returned (.bool b) ∧ (b = true ↔ hasLine n f x) ∧ w' = w := by
  obtain ⟨hn, h⟩ := h
  have HH : Hid (∀ i, i < n → ∃ b o, ao = some ⟨b, o, none⟩ ∧ Y b ∧ w.cell? ⟨b, o + i, none⟩ = some (.int .i64 (f i))) := h
  clear h
  go_enter Try.func162, Try.ntmps162
  go_wp2
  go_loopw [9] (fun i wr => ∃ k : Nat, k ≤ n ∧ i = .int .i64 k ∧ (∀ t, t < k → ¬ f t = x) ∧ wr = w) (fun i _ => n - (intOf i).toNat)
  case atStart => exact ⟨0, Nat.zero_le _, rfl, fun t ht => absurd ht (Nat.not_lt_zero _), rfl⟩
  case round =>
    obtain ⟨k, hk, rfl, hok, rfl⟩ := hrel
    have HO : Hid (∀ t, t < k → ¬ f t = x) := hok
    clear hok
    by_cases hlt : k < n
    · obtain ⟨b, o, rfl, -, g1⟩ := HH.out k hlt
      have hlt' : (k : Int) < n := by omega
      by_cases hr : f k = (x : Int)
      · have d1 : (f k == (x : Int)) = true := by simp [hr]
        go_wp2
        go_ret
        exact ⟨true, rfl, ⟨fun _ => ⟨k, hlt, hr⟩, fun _ => rfl⟩, rfl⟩
      · have d1 : (f k == (x : Int)) = false := by simp [hr]
        go_wp2
        go_roundw
        case rel => exact ⟨k + 1, by omega, by go_num, fun t ht => by
          by_cases e : t = k
          · subst e; exact hr
          · exact HO.out t (by omega), by first | rfl | trivial⟩
        case measure => simp [intOf]; omega
    · obtain rfl : k = n := by omega
      go_wp2
      go_ret
      exact ⟨false, rfl, ⟨fun h => absurd h (by decide), fun ⟨t, h1, h2⟩ => absurd h2 (HO.out t h1)⟩, rfl⟩
set_option maxHeartbeats 400000 in
theorem sameInts_yes (a1 a2 : Option Addr) (c1 c2 n0 : Nat) (f g : Nat → Int) {Y Z : Nat → Prop} (w : World) (h1 : IntsAt Y w a1 n0 f) (h2 : IntsAt Z w a2 n0 g) (he : ∀ i, i < n0 → f i = g i) :
    Calls Try.prog 20 #[.slice a1 n0 c1, .slice a2 n0 c2] w fun e w' => e = .returned (.bool true) ∧ ∃ n, w' = w.drewN n := by
  replace h2 := h2.congr (fun i hi => (he i hi).symm)
  clear he
  obtain ⟨hl, h1⟩ := h1
  obtain ⟨-, h2⟩ := h2
  go_enter Try.func20, Try.ntmps20
  go_wp2
  go_loopw [13] (fun i wr => ∃ k n : Nat, k ≤ n0 ∧ i = .int .i64 k ∧ wr = w.drewN n) (fun i _ => n0 - (intOf i).toNat)
  case atStart => exact ⟨0, 0, Nat.zero_le _, rfl, rfl⟩
  case round =>
    obtain ⟨k, n, hk, rfl, rfl⟩ := hrel
    by_cases hlt : k < n0
    · obtain ⟨b, o, rfl, -, g1⟩ := h1 k hlt
      obtain ⟨b', o', rfl, -, g2⟩ := h2 k hlt
      clear h1 h2
      go_wp2
      go_quiet (fail)
      go_wp2
      go_roundw
      case rel => exact ⟨k + 1, _, by omega, by go_num, rfl⟩
      case measure => simp [intOf]; omega
    · go_wp2
      go_ret
      exact ⟨rfl, n, rfl⟩
set_option maxHeartbeats 400000 in
theorem sameInts_no (a1 a2 : Option Addr) (c1 c2 n0 : Nat) (f g : Nat → Int) {Y Z : Nat → Prop} (w : World) (h1 : IntsAt Y w a1 n0 f) (h2 : IntsAt Z w a2 n0 g) (i : Nat) (hi : i < n0) (he : ¬ f i = g i) :
    Calls Try.prog 20 #[.slice a1 n0 c1, .slice a2 n0 c2] w fun e w' => e = .returned (.bool false) ∧ ∃ n, w' = w.drewN n := by
  obtain ⟨hl, h1⟩ := h1
  obtain ⟨-, h2⟩ := h2
  have HE : Hid (¬ f i = g i) := he
  clear he
  go_enter Try.func20, Try.ntmps20
  go_wp2
  go_loopw [13] (fun ii wr => ∃ k n : Nat, k ≤ i ∧ ii = .int .i64 k ∧ wr = w.drewN n) (fun i _ => n0 - (intOf i).toNat)
  case atStart => exact ⟨0, 0, Nat.zero_le _, rfl, rfl⟩
  case round =>
    obtain ⟨k, n, hk, rfl, rfl⟩ := hrel
    have hlt : k < n0 := by omega
    obtain ⟨b, o, rfl, -, g1⟩ := h1 k hlt
    obtain ⟨b', o', rfl, -, g2⟩ := h2 k hlt
    clear h1 h2
    by_cases hf : f k = g k
    · have hne : k ≠ i := fun e => HE.out (e ▸ hf)
      rw [← hf] at g2
      clear hf
      go_wp2
      go_quiet (fail)
      go_wp2
      go_roundw
      case rel => exact ⟨k + 1, _, by omega, by go_num, rfl⟩
      case measure => simp [intOf]; omega
    · have hb : (f k != g k) = true := by simpa using hf
      clear hf
      go_wp2
      go_quiet (fail)
      go_wp2
      go_ret
      exact ⟨rfl, _, by simp only [World.drewN_drewN]; rfl⟩
theorem owned_row {w : World} {g n cap : Nat} {e : TypeId} {xs : List Value} {f : Nat → Value} (h : w.ownsRow 0 e 1 (.slice (some ⟨g, 0, none⟩) n cap) n xs) (hf : ∀ i, i < n → xs[i]? = some (f i)) (hn : 0 < n) : Row w g n f := by
  obtain ⟨h1, h2⟩ := h
  rcases h2 with ⟨_, h2⟩ | ⟨g', cap', cur, hv, hg, hh, hcap, _, hsz, ht⟩
  · omega
  · simp only [Value.slice.injEq, Option.some.injEq, Addr.mk.injEq, and_true, true_and] at hv
    obtain ⟨rfl, rfl⟩ := hv
    refine ⟨cur, e, hh, by omega, fun i hi => ?_⟩
    have : (cur.toList.take (n * 1))[i]? = cur[i]? := by rw [List.getElem?_take, if_pos (by omega)]; simp
    rw [← this, ht]
    exact hf i hi
theorem own_empty {w : World} {B : Nat} {e : TypeId} (h : w.heap[B]? = some (.cells #[] e (0, 0))) : w.ownsRow 0 e 1 (.slice (some ⟨B, 0, none⟩) 0 0) 0 [] :=
  ⟨rfl, Or.inr ⟨B, 0, #[], rfl, Nat.zero_le _, h, Nat.le_refl _, by unfold maxLen; omega, rfl, rfl⟩⟩
end Go.Proofs.Ytbpdopcdhnemfaa
/- Lists of pairs: what they read as, what is owned. -/
namespace Go.Proofs.Ytbpdopcdhnemfaa
open Go.RowKit
set_option linter.unusedSimpArgs false
set_option linter.unusedVariables false
/-- The slice at 'ao' reads as the n pairs f, g, all in blocks of Y. -/
def UndosAt (Y : Nat → Prop) (w : World) (ao : Option Addr) (n : Nat) (f g : Nat → Int) : Prop :=
  n ≤ 9223372036854775807 ∧ ∀ i, i < n → ∃ b o, ao = some ⟨b, o, none⟩ ∧ Y b ∧ w.cell? ⟨b, o + i * 2, none⟩ = some (.int .i64 (f i)) ∧ w.cell? ⟨b, o + i * 2 + 1, none⟩ = some (.int .i64 (g i))
def uc (f g : Nat → Int) : Nat → Value := fun j => if j % 2 = 0 then .int .i64 (f (j / 2)) else .int .i64 (g (j / 2))
theorem uc_at (f g : Nat → Int) (i : Nat) : uc f g (i * 2) = .int .i64 (f i) ∧ uc f g (i * 2 + 1) = .int .i64 (g i) := by
  have a0 : i * 2 % 2 = 0 := by omega
  have a1 : (i * 2 + 1) % 2 = 1 := by omega
  have b0 : i * 2 / 2 = i := by omega
  have b1 : (i * 2 + 1) / 2 = i := by omega
  simp [uc, a0, a1, b0, b1]
def UndosOwn (X : Nat → Prop) (w : World) (ao : Option Addr) (n : Nat) (f g : Nat → Int) : Prop :=
  n ≤ 9223372036854775807 ∧ (0 < n → ∃ b, X b ∧ ao = some ⟨b, 0, none⟩ ∧ Row w b (n * 2) (uc f g))
theorem undo_get {w : World} {b n : Nat} {f g : Nat → Int} (r : Row w b (n * 2) (uc f g)) {i : Nat} (hi : i < n) : w.cell? ⟨b, i * 2, none⟩ = some (.int .i64 (f i)) ∧ w.cell? ⟨b, i * 2 + 1, none⟩ = some (.int .i64 (g i)) := by
  obtain ⟨h0, h1⟩ := uc_at f g i
  exact ⟨by rw [r.cell (by omega), h0], by rw [r.cell (by omega), h1]⟩
theorem UndosOwn.at {X : Nat → Prop} {w : World} {ao : Option Addr} {n : Nat} {f g : Nat → Int} (h : UndosOwn X w ao n f g) : UndosAt X w ao n f g := by
  refine ⟨h.1, fun i hi => ?_⟩
  obtain ⟨b, hx, e, hr⟩ := h.2 (by omega)
  obtain ⟨h0, h1⟩ := undo_get hr hi
  exact ⟨b, 0, e, hx, by rw [Nat.zero_add]; exact h0, by rw [Nat.zero_add]; exact h1⟩
theorem UndosAt.blw {Y : Nat → Prop} {w w' : World} {ao : Option Addr} {n : Nat} {f g : Nat → Int} (h : UndosAt Y w ao n f g) (hb : Blw w w') : UndosAt Y w' ao n f g :=
  ⟨h.1, fun i hi => let ⟨b, o, e, hY, h0, h1⟩ := h.2 i hi; ⟨b, o, e, hY, hb.cell h0, hb.cell h1⟩⟩
theorem UndosAt.mod {X Y : Nat → Prop} {w w' : World} {ao : Option Addr} {n : Nat} {f g : Nat → Int} (h : UndosAt Y w ao n f g) (hb : Mod X w w') (hxy : ∀ k, Y k → ¬ X k) : UndosAt Y w' ao n f g :=
  ⟨h.1, fun i hi => let ⟨b, o, e, hY, h0, h1⟩ := h.2 i hi; ⟨b, o, e, hY, hb.cell h0 (hxy _ hY), hb.cell h1 (hxy _ hY)⟩⟩
theorem UndosAt.mono {X Y : Nat → Prop} {w : World} {ao : Option Addr} {n : Nat} {f g : Nat → Int} (h : UndosAt X w ao n f g) (hxy : ∀ b, X b → Y b) : UndosAt Y w ao n f g :=
  ⟨h.1, fun i hi => let ⟨b, o, e, hY, h0⟩ := h.2 i hi; ⟨b, o, e, hxy _ hY, h0⟩⟩
theorem UndosAt.congr {Y : Nat → Prop} {w : World} {ao : Option Addr} {n : Nat} {f g f' g' : Nat → Int} (h : UndosAt Y w ao n f g) (e : ∀ i, i < n → f i = f' i ∧ g i = g' i) : UndosAt Y w ao n f' g' :=
  ⟨h.1, fun i hi => let ⟨b, o, ea, hY, h0, h1⟩ := h.2 i hi; ⟨b, o, ea, hY, by rw [← (e i hi).1]; exact h0, by rw [← (e i hi).2]; exact h1⟩⟩
theorem UndosOwn.mod {X Z : Nat → Prop} {w w' : World} {ao : Option Addr} {n : Nat} {f g : Nat → Int} (h : UndosOwn X w ao n f g) (hb : Mod Z w w') (hxz : ∀ b, X b → ¬ Z b) : UndosOwn X w' ao n f g :=
  ⟨h.1, fun hn => let ⟨b, hx, e, hr⟩ := h.2 hn; ⟨b, hx, e, hr.mod hb (hxz _ hx)⟩⟩
theorem UndosOwn.blw {X : Nat → Prop} {w w' : World} {ao : Option Addr} {n : Nat} {f g : Nat → Int} (h : UndosOwn X w ao n f g) (hb : Blw w w') : UndosOwn X w' ao n f g := h.mod (hb.mod (fun _ => False)) (fun _ _ => id)
theorem UndosOwn.mono {X Y : Nat → Prop} {w : World} {ao : Option Addr} {n : Nat} {f g : Nat → Int} (h : UndosOwn X w ao n f g) (hxy : ∀ b, X b → Y b) : UndosOwn Y w ao n f g :=
  ⟨h.1, fun hn => let ⟨b, hx, e, hr⟩ := h.2 hn; ⟨b, hxy _ hx, e, hr⟩⟩
theorem UndosOwn.congr {X : Nat → Prop} {w : World} {ao : Option Addr} {n : Nat} {f g f' g' : Nat → Int} (h : UndosOwn X w ao n f g) (e : ∀ i, i < n → f i = f' i ∧ g i = g' i) : UndosOwn X w ao n f' g' :=
  ⟨h.1, fun hn => let ⟨b, hx, ea, hr⟩ := h.2 hn; ⟨b, hx, ea, hr.congr fun i hi => by
    have := e (i / 2) (by omega)
    simp only [uc, this.1, this.2]⟩⟩
theorem UndosOwn.nil (X : Nat → Prop) (w : World) (ao : Option Addr) (f g : Nat → Int) : UndosOwn X w ao 0 f g := ⟨by omega, fun h => absurd h (by omega)⟩
theorem IntsOwn.mono {X Y : Nat → Prop} {w : World} {ao : Option Addr} {n : Nat} {f : Nat → Int} (h : IntsOwn X w ao n f) (hxy : ∀ b, X b → Y b) : IntsOwn Y w ao n f :=
  ⟨h.1, fun hn => let ⟨b, hx, e, hr⟩ := h.2 hn; ⟨b, hxy _ hx, e, hr⟩⟩
theorem IntsOwn.mod {X Z : Nat → Prop} {w w' : World} {ao : Option Addr} {n : Nat} {f : Nat → Int} (h : IntsOwn X w ao n f) (hb : Mod Z w w') (hxz : ∀ b, X b → ¬ Z b) : IntsOwn X w' ao n f :=
  ⟨h.1, fun hn => let ⟨b, hx, e, hr⟩ := h.2 hn; ⟨b, hx, e, hr.mod hb (hxz _ hx)⟩⟩
theorem IntsOwn.congr {X : Nat → Prop} {w : World} {ao : Option Addr} {n : Nat} {f g : Nat → Int} (h : IntsOwn X w ao n f) (e : ∀ i, i < n → f i = g i) : IntsOwn X w ao n g :=
  ⟨h.1, fun hn => let ⟨b, hx, ea, hr⟩ := h.2 hn; ⟨b, hx, ea, hr.congr fun i hi => by rw [e i hi]⟩⟩
theorem IntsOwn.nil (X : Nat → Prop) (w : World) (ao : Option Addr) (f : Nat → Int) : IntsOwn X w ao 0 f := ⟨by omega, fun h => absurd h (by omega)⟩
theorem box2 (w : World) (a b : Value) (t : TypeId) : Row (w.alloc (.cells #[a, b] t)) w.heap.size 2 (fun i => if i = 0 then a else b) :=
  ⟨_, t, heap_alloc_new _ _, by simp, fun i hi => by
    match i, hi with
    | 0, _ => rfl
    | 1, _ => rfl⟩
theorem get2 {w : World} {B : Nat} {a b : Value} (r : Row w B 2 (fun i => if i = 0 then a else b)) : w.cell? ⟨B, 0, none⟩ = some a ∧ w.cell? ⟨B, 1, none⟩ = some b :=
  ⟨r.cell (i := 0) (by omega), r.cell (i := 1) (by omega)⟩
end Go.Proofs.Ytbpdopcdhnemfaa
/- The laws' functions on lists of pairs: measured, copied, compared, marked, held. -/
namespace Go.Proofs.Ytbpdopcdhnemfaa
open Go.RowKit
set_option linter.unusedSimpArgs false
set_option linter.unusedVariables false
theorem tinfo69 : (Try.prog.info? 189).map (fun i => (i.zero, i.size, i.bytes)) = some (some (.agg #[.int .i64 0, .int .i64 0]), 2, 16) := by kernel_rfl
theorem mkUndos (n : Nat) (hn : n ≤ 1048576) (w : World) : (Instr.makeSlice 186 (.int .i64 n) (.int .i64 n)).run Try.prog w = .ok (.slice (some ⟨w.heap.size, 0, none⟩) n n) (w.alloc (.cells (madeCells #[.int .i64 0, .int .i64 0] (n * 2)) 189)) := by
  obtain ⟨i0, hi, hz0, hz1, hz2⟩ := info_parts tinfo69
  have h := run_make (P := Try.prog) w 186 189 i0 (.agg #[.int .i64 0, .int .i64 0]) Try.underlying186 hi hz0 .i64 .i64 (n : Int) (n : Int) (by omega) (Int.le_refl _) (by rw [hz2]; omega) (by omega)
  simpa [hz1, Value.cells] using h
theorem Row.made2 (w : World) (z : Value) (n : Nat) (t : TypeId) : Row (w.alloc (.cells (madeCells #[z, z] n) t)) w.heap.size n (fun _ => z) := by
  refine ⟨_, t, heap_alloc_new _ _, by simp [madeCells], fun i hi => ?_⟩
  have h2 : i % 2 = 0 ∨ i % 2 = 1 := by omega
  rcases h2 with h2 | h2 <;> simp [madeCells, hi, h2]
/-- A list that is being filled, j of it done. -/
theorem fill2_step {wr : World} {b n j : Nat} {f g f0 g0 : Nat → Int} (hj : j < n) (hr : Row wr b (n * 2) (uc (fun t => if t < j then f t else f0 t) (fun t => if t < j then g t else g0 t))) :
    Row ((wr.setCell ⟨b, j * 2, none⟩ (.int .i64 (f j))).setCell ⟨b, j * 2 + 1, none⟩ (.int .i64 (g j))) b (n * 2) (uc (fun t => if t < j + 1 then f t else f0 t) (fun t => if t < j + 1 then g t else g0 t)) := by
  refine ((hr.set (j * 2) _).set (j * 2 + 1) _).congr (fun t ht => ?_)
  by_cases e1 : t = j * 2 + 1
  · subst e1
    rw [if_pos rfl, (uc_at _ _ j).2]; simp
  · rw [if_neg e1]
    by_cases e0 : t = j * 2
    · subst e0
      rw [if_pos rfl, (uc_at _ _ j).1]; simp
    · rw [if_neg e0]
      have hq : (t / 2 < j + 1) = (t / 2 < j) := by simp; omega
      simp [uc, hq]
set_option maxHeartbeats 400000 in
theorem eqUndo_same (x y : Int) (w : World) : Calls Try.prog 205 #[.agg #[.int .i64 x, .int .i64 y], .agg #[.int .i64 x, .int .i64 y]] w fun e w' => e = .returned (.bool true) ∧ Blw w w' := by
  have h1 : (x != x) = false := by simp
  have h2 : (y != y) = false := by simp
  go_enter Try.func205, Try.ntmps205
  go_wp2
  go_ret
  exact ⟨rfl, ((Blw.refl _).alloc _).alloc _⟩
set_option maxHeartbeats 1600000 in
theorem eqUndoS_same (a1 a2 : Option Addr) (c1 c2 n : Nat) (f g : Nat → Int) {X Y : Nat → Prop} (w : World) (h1 : UndosAt X w a1 n f g) (h2 : UndosAt Y w a2 n f g) :
    Calls Try.prog 197 #[.slice a1 n c1, .slice a2 n c2] w fun e w' => e = .returned (.bool true) ∧ Blw w w' := by
  have H1 : Hid (UndosAt X w a1 n f g) := h1
  have H2 : Hid (UndosAt Y w a2 n f g) := h2
  have hn := h1.1
  clear h1 h2
  have hne : ((n : Int) != (n : Int)) = false := by simp
  go_enter Try.func197, Try.ntmps197
  go_wp2_with fail
  go_loopw [5] (fun i wr => ∃ k : Nat, k ≤ n ∧ i = .int .i64 k ∧ Blw w wr) (fun i _ => n - (intOf i).toNat)
  case atStart => exact ⟨0, Nat.zero_le _, rfl, Blw.refl _⟩
  case round =>
    obtain ⟨k, hk, rfl, hb⟩ := hrel
    by_cases hlt : k < n
    · have hlt' : (k : Int) < n := by omega
      obtain ⟨b1, o1, rfl, -, r10, r11⟩ := (H1.out.blw hb).2 k hlt
      obtain ⟨b2, o2, rfl, -, r20, r21⟩ := (H2.out.blw hb).2 k hlt
      have P0 : ∀ w', Blw wr w' → w'.cell? ⟨b1, o1 + k * 2, none⟩ = some (.int .i64 (f k)) := fun w' hh => hh.cell r10
      have P1 : ∀ w', Blw wr w' → w'.cell? ⟨b1, o1 + k * 2 + 1, none⟩ = some (.int .i64 (g k)) := fun w' hh => hh.cell r11
      have Q0 : ∀ w', Blw wr w' → w'.cell? ⟨b2, o2 + k * 2, none⟩ = some (.int .i64 (f k)) := fun w' hh => hh.cell r20
      have Q1 : ∀ w', Blw wr w' → w'.cell? ⟨b2, o2 + k * 2 + 1, none⟩ = some (.int .i64 (g k)) := fun w' hh => hh.cell r21
      have HB : Hid (Blw w wr) := hb
      clear r10 r11 r20 r21 H1 H2 hb
      go_wp2_with fail
      go_region_held3 (fun w' => Blw wr w') ((first | exact (Blw.refl _).drew | assumption | exact Blw.trans (by assumption) (by assumption))) (first
        | (go_at_call 205; refine (eqUndo_same (f k) (g k) _).mono ?_; rintro e w7 ⟨rfl, hb7⟩))
      all_goals go_wp2
      all_goals go_roundw
      all_goals first | exact ⟨k + 1, by omega, by go_num, HB.out.trans (by assumption)⟩ | (simp [intOf]; omega)
    · obtain rfl : k = n := by omega
      go_wp2
      go_ret
      exact ⟨rfl, hb⟩
def mkc (k : Int) : Nat → Int := fun j => k + 2 * j
def mkw (k : Int) : Nat → Int := fun j => k + 2 * j + 1
set_option maxHeartbeats 1600000 in
theorem markUndoS_any (ao : Option Addr) (c n : Nat) (f g : Nat → Int) (X : Nat → Prop) (k : Int) (w : World) (h1 : 0 ≤ k) (h2 : k + 2 * n ≤ 9223372036854775807) (h : UndosOwn X w ao n f g) :
    Calls Try.prog 198 #[.slice ao n c, .int .i64 k] w fun e w' => e = .returned (.int .i64 (k + 2 * n)) ∧ UndosOwn X w' ao n (mkc k) (mkw k) ∧ Mod X w w' := by
  have H : Hid (UndosOwn X w ao n f g) := h
  have hn := h.1
  clear h
  go_enter Try.func198, Try.ntmps198
  go_wp2_with fail
  go_loopw [1, 5] (fun kv iv wr => ∃ i : Nat, i ≤ n ∧ iv = .int .i64 i ∧ kv = .int .i64 (k + 2 * i) ∧ UndosOwn X wr ao n (fun j => if j < i then mkc k j else f j) (fun j => if j < i then mkw k j else g j) ∧ Mod X w wr) (fun _ i _ => n - (intOf i).toNat)
  case atStart => exact ⟨0, Nat.zero_le _, rfl, by simp, by simpa using H.out, Mod.refl _ _⟩
  case round =>
    obtain ⟨i, hi, rfl, rfl, S, hm⟩ := hrel
    clear H
    by_cases hlt : i < n
    · have hlt' : (i : Int) < n := by omega
      obtain ⟨b, hx, rfl, r⟩ := S.2 (by omega)
      obtain ⟨p0, p1⟩ := undo_get r hlt
      have f0 := r.frozen (i * 2)
      have f1 := r.frozen (i * 2 + 1)
      have HR : Hid (Row ((wr.setCell ⟨b, i * 2, none⟩ (.int .i64 (k + 2 * i))).setCell ⟨b, i * 2 + 1, none⟩ (.int .i64 (k + 2 * i + 1))) b (n * 2) (uc (fun t => if t < i + 1 then mkc k t else f t) (fun t => if t < i + 1 then mkw k t else g t))) := fill2_step (f := mkc k) (g := mkw k) hlt r
      have HM : Hid (Mod X w ((wr.setCell ⟨b, i * 2, none⟩ (.int .i64 (k + 2 * i))).setCell ⟨b, i * 2 + 1, none⟩ (.int .i64 (k + 2 * i + 1)))) := (hm.trans (Mod.setCell _ (p := ⟨b, i * 2, none⟩) hx _)).trans (Mod.setCell _ (p := ⟨b, i * 2 + 1, none⟩) hx _)
      clear S hm r
      have e1 : k + 2 * (i : Int) + 1 + 1 = k + 2 * i + 2 := by omega
      go_wp2
      go_roundw
      case rel => exact ⟨i + 1, by omega, by go_num, by congr 1; omega, ⟨hn, fun _ => ⟨b, hx, rfl, HR.out⟩⟩, HM.out⟩
      case measure => simp [intOf]; omega
    · obtain rfl : i = n := by omega
      go_wp2
      go_ret
      refine ⟨rfl, S.congr (fun t ht => by simp [ht]), hm⟩
set_option maxHeartbeats 1600000 in
theorem heldUndoS_any (ao : Option Addr) (c n : Nat) (X : Nat → Prop) (k : Int) (w : World) (h1 : 0 ≤ k) (h2 : k + 2 * n ≤ 9223372036854775807) (h : UndosOwn X w ao n (mkc k) (mkw k)) :
    Calls Try.prog 199 #[.slice ao n c, .int .i64 k] w fun e w' => e = .returned (.int .i64 (k + 2 * n)) ∧ Blw w w' := by
  have H : Hid (UndosOwn X w ao n (mkc k) (mkw k)) := h
  have hn := h.1
  clear h
  go_enter Try.func199, Try.ntmps199
  go_wp2_with fail
  go_loopw [1, 5] (fun kv iv wr => ∃ i : Nat, i ≤ n ∧ iv = .int .i64 i ∧ kv = .int .i64 (k + 2 * i) ∧ wr = w) (fun _ i _ => n - (intOf i).toNat)
  case atStart => exact ⟨0, Nat.zero_le _, rfl, by simp, rfl⟩
  case round =>
    obtain ⟨i, hi, rfl, rfl, rfl⟩ := hrel
    by_cases hlt : i < n
    · have hlt' : (i : Int) < n := by omega
      obtain ⟨b, hx, rfl, r⟩ := H.out.2 (by omega)
      obtain ⟨p0, p1⟩ := undo_get r hlt
      simp only [mkc, mkw] at p0 p1
      have e1 : k + 2 * (i : Int) + 1 + 1 = k + 2 * i + 2 := by omega
      have n0 : ((k + 2 * (i : Int)) != (k + 2 * (i : Int))) = false := by simp
      have n1 : ((k + 2 * (i : Int) + 1) != (k + 2 * (i : Int) + 1)) = false := by simp
      clear r
      go_wp2
      go_roundw
      case rel => exact ⟨i + 1, by omega, by go_num, by congr 1; omega, by first | rfl | trivial⟩
      case measure => simp [intOf]; omega
    · obtain rfl : i = n := by omega
      go_wp2
      go_ret
      exact ⟨rfl, Blw.refl _⟩
end Go.Proofs.Ytbpdopcdhnemfaa
/- Tables: lists of tops and lists of lists of leaves: what they read as, what is owned. -/
namespace Go.Proofs.Ytbpdopcdhnemfaa
open Go.RowKit
set_option linter.unusedSimpArgs false
set_option linter.unusedVariables false
theorem drewN_blw (w : World) (n : Nat) : Blw w (w.drewN n) := (Blw.refl w).drewN n
def pre (len : Nat → Nat) : Nat → Nat
  | 0 => 0
  | j + 1 => pre len j + len j
theorem pre_mono (len : Nat → Nat) {i j : Nat} (h : i ≤ j) : pre len i ≤ pre len j := by
  induction j with
  | zero => obtain rfl : i = 0 := by omega
            exact Nat.le_refl _
  | succ j ih =>
    by_cases e : i = j + 1
    · subst e; exact Nat.le_refl _
    · have := ih (by omega); simp only [pre]; omega
/-- Lists of leaves: how many, how long each, their pages, what they may. -/
structure PD where
  n : Nat
  len : Nat → Nat
  p : Nat → Nat → Int
  m : Nat → Nat → Int
abbrev PD.zero : PD := ⟨0, fun _ => 0, fun _ _ => 0, fun _ _ => 0⟩
abbrev PD.tot (D : PD) : Nat := pre D.len D.n
def PSAt (Y : Nat → Prop) (w : World) (ao : Option Addr) (D : PD) : Prop :=
  D.n ≤ 9223372036854775807 ∧ ∀ i, i < D.n → ∃ b o a c, ao = some ⟨b, o, none⟩ ∧ Y b ∧ w.cell? ⟨b, o + i, none⟩ = some (.slice a (D.len i) c) ∧ UndosAt Y w a (D.len i) (D.p i) (D.m i)
structure PSIn (X : Nat → Prop) (w : World) (b : Nat) (A : Nat → Option Addr) (c : Nat → Nat) (D : PD) (Z : Nat → Nat → Prop) : Prop where
  row : Row w b D.n (fun i => .slice (A i) (D.len i) (c i))
  own : ∀ i, i < D.n → UndosOwn (Z i) w (A i) (D.len i) (D.p i) (D.m i)
  sub : ∀ i, i < D.n → ∀ x, Z i x → X x ∧ x ≠ b
  dis : ∀ i j, i < D.n → j < D.n → i ≠ j → ∀ x, Z i x → ¬ Z j x
  hb : X b
def PSOwn (X : Nat → Prop) (w : World) (ao : Option Addr) (D : PD) : Prop :=
  D.n ≤ 9223372036854775807 ∧ (0 < D.n → ∃ b A c Z, ao = some ⟨b, 0, none⟩ ∧ PSIn X w b A c D Z)
theorem PSAt.mod {X Y : Nat → Prop} {w w' : World} {ao : Option Addr} {D : PD} (h : PSAt Y w ao D) (hb : Mod X w w') (hxy : ∀ k, Y k → ¬ X k) : PSAt Y w' ao D :=
  ⟨h.1, fun i hi => let ⟨b, o, a, c, h1, hY, h2, h3⟩ := h.2 i hi; ⟨b, o, a, c, h1, hY, hb.cell h2 (hxy _ hY), h3.mod hb hxy⟩⟩
theorem PSAt.blw {Y : Nat → Prop} {w w' : World} {ao : Option Addr} {D : PD} (h : PSAt Y w ao D) (hb : Blw w w') : PSAt Y w' ao D := h.mod (hb.mod (fun _ => False)) (fun _ _ => id)
theorem PSAt.mono {X Y : Nat → Prop} {w : World} {ao : Option Addr} {D : PD} (h : PSAt X w ao D) (hxy : ∀ b, X b → Y b) : PSAt Y w ao D :=
  ⟨h.1, fun i hi => let ⟨b, o, a, c, h1, hY, h2, h3⟩ := h.2 i hi; ⟨b, o, a, c, h1, hxy _ hY, h2, h3.mono hxy⟩⟩
theorem PSOwn.at {X : Nat → Prop} {w : World} {ao : Option Addr} {D : PD} (h : PSOwn X w ao D) : PSAt X w ao D := by
  refine ⟨h.1, fun i hi => ?_⟩
  obtain ⟨b, A, c, Z, rfl, S⟩ := h.2 (by omega)
  exact ⟨b, 0, A i, c i, rfl, S.hb, by rw [Nat.zero_add]; exact S.row.cell hi, (S.own i hi).at.mono (fun x hx => (S.sub i hi x hx).1)⟩
theorem PSIn.mod {X Q : Nat → Prop} {w w' : World} {b : Nat} {A : Nat → Option Addr} {c : Nat → Nat} {D : PD} {Z : Nat → Nat → Prop} (h : PSIn X w b A c D Z) (hm : Mod Q w w') (hx : ∀ x, X x → ¬ Q x) : PSIn X w' b A c D Z :=
  ⟨h.row.mod hm (hx _ h.hb), fun i hi => (h.own i hi).mod hm (fun x hz => hx x (h.sub i hi x hz).1), h.sub, h.dis, h.hb⟩
theorem PSOwn.mod {X Q : Nat → Prop} {w w' : World} {ao : Option Addr} {D : PD} (h : PSOwn X w ao D) (hm : Mod Q w w') (hx : ∀ x, X x → ¬ Q x) : PSOwn X w' ao D :=
  ⟨h.1, fun h0 => let ⟨b, A, c, Z, e, S⟩ := h.2 h0; ⟨b, A, c, Z, e, S.mod hm hx⟩⟩
theorem PSOwn.blw {X : Nat → Prop} {w w' : World} {ao : Option Addr} {D : PD} (h : PSOwn X w ao D) (hb : Blw w w') : PSOwn X w' ao D := h.mod (hb.mod (fun _ => False)) (fun _ _ => id)
theorem PSOwn.mono {X Y : Nat → Prop} {w : World} {ao : Option Addr} {D : PD} (h : PSOwn X w ao D) (hxy : ∀ b, X b → Y b) : PSOwn Y w ao D :=
  ⟨h.1, fun h0 => let ⟨b, A, c, Z, e, S⟩ := h.2 h0; ⟨b, A, c, Z, e, ⟨S.row, S.own, fun i hi x hx => ⟨hxy _ (S.sub i hi x hx).1, (S.sub i hi x hx).2⟩, S.dis, hxy _ S.hb⟩⟩⟩
theorem PSOwn.zero (X : Nat → Prop) (w : World) (ao : Option Addr) : PSOwn X w ao PD.zero := ⟨by show 0 ≤ _; omega, fun h => absurd h (Nat.not_lt_zero _)⟩
/-- What a table holds: its tops, its lists of leaves. -/
structure BD where
  n : Nat
  c : Nat → Int
  D : PD
abbrev BD.k (B : BD) : Nat := B.D.n
/-- The value of a table: two slices. -/
structure BV where
  a1 : Option Addr
  a2 : Option Addr
  c1 : Nat
  c2 : Nat
abbrev BV.val (b : BV) (B : BD) : Value := .agg #[.slice b.a1 B.n b.c1, .slice b.a2 B.D.n b.c2]
structure BookAt (Y : Nat → Prop) (w : World) (b : BV) (B : BD) : Prop where
  c : IntsAt Y w b.a1 B.n B.c
  l : PSAt Y w b.a2 B.D
structure BookOwn (X : Nat → Prop) (w : World) (b : BV) (B : BD) : Prop where
  ex : ∃ X1 X2 : Nat → Prop, (∀ b, X1 b → X b ∧ ¬ X2 b) ∧ (∀ b, X2 b → X b) ∧ IntsOwn X1 w b.a1 B.n B.c ∧ PSOwn X2 w b.a2 B.D
theorem BookAt.blw {Y : Nat → Prop} {w w' : World} {b : BV} {B : BD} (h : BookAt Y w b B) (hb : Blw w w') : BookAt Y w' b B := ⟨h.c.blw hb, h.l.blw hb⟩
theorem BookAt.mod {X Y : Nat → Prop} {w w' : World} {b : BV} {B : BD} (h : BookAt Y w b B) (hb : Mod X w w') (hxy : ∀ k, Y k → ¬ X k) : BookAt Y w' b B := ⟨h.c.mod hb hxy, h.l.mod hb hxy⟩
theorem BookAt.mono {X Y : Nat → Prop} {w : World} {b : BV} {B : BD} (h : BookAt X w b B) (hxy : ∀ b, X b → Y b) : BookAt Y w b B := ⟨h.c.mono hxy, h.l.mono hxy⟩
theorem BookOwn.at {X : Nat → Prop} {w : World} {b : BV} {B : BD} (h : BookOwn X w b B) : BookAt X w b B := by
  obtain ⟨X1, X2, h1, h2, c, l⟩ := h.ex
  exact ⟨c.at.mono (fun b hb => (h1 b hb).1), l.at.mono h2⟩
theorem BookOwn.mod {X Z : Nat → Prop} {w w' : World} {b : BV} {B : BD} (h : BookOwn X w b B) (hb : Mod Z w w') (hxz : ∀ b, X b → ¬ Z b) : BookOwn X w' b B := by
  obtain ⟨X1, X2, h1, h2, c, l⟩ := h.ex
  exact ⟨X1, X2, h1, h2, c.mod hb (fun b hb => hxz b (h1 b hb).1), l.mod hb (fun b hb => hxz b (h2 b hb))⟩
theorem BookOwn.blw {X : Nat → Prop} {w w' : World} {b : BV} {B : BD} (h : BookOwn X w b B) (hb : Blw w w') : BookOwn X w' b B := h.mod (hb.mod (fun _ => False)) (fun _ _ => id)
theorem BookOwn.mono {X Y : Nat → Prop} {w : World} {b : BV} {B : BD} (h : BookOwn X w b B) (hxy : ∀ b, X b → Y b) : BookOwn Y w b B := by
  obtain ⟨X1, X2, h1, h2, c, l⟩ := h.ex
  exact ⟨X1, X2, fun b hb => ⟨hxy _ (h1 b hb).1, (h1 b hb).2⟩, fun b hb => hxy _ (h2 b hb), c, l⟩
abbrev BD.zero : BD := ⟨0, fun _ => 0, PD.zero⟩
abbrev BV.zero : BV := ⟨none, none, 0, 0⟩
theorem BookOwn.zero (X : Nat → Prop) (w : World) : BookOwn X w BV.zero BD.zero := ⟨fun _ => False, fun _ => False, fun _ h => h.elim, fun _ h => h.elim, IntsOwn.nil _ _ _ _, PSOwn.zero _ _ _⟩
/-! ### The laws' functions on lists of lists of leaves -/
def markedTo (D : PD) (k : Int) (j : Nat) : PD := ⟨D.n, D.len, fun i t => if i < j then mkc (k + 2 * pre D.len i) t else D.p i t, fun i t => if i < j then mkw (k + 2 * pre D.len i) t else D.m i t⟩
def PD.marked (D : PD) (k : Int) : PD := ⟨D.n, D.len, fun i => mkc (k + 2 * pre D.len i), fun i => mkw (k + 2 * pre D.len i)⟩
theorem ss_step {X : Nat → Prop} {wr w1 : World} {j b : Nat} {A : Nat → Option Addr} {c : Nat → Nat} {D : PD} {Z : Nat → Nat → Prop} {k : Int} (hj : j < D.n) (S : PSIn X wr b A c (markedTo D k j) Z)
    (ho : UndosOwn (Z j) w1 (A j) (D.len j) (mkc (k + 2 * pre D.len j)) (mkw (k + 2 * pre D.len j))) (hm : Mod (Z j) wr w1) : PSIn X w1 b A c (markedTo D k (j + 1)) Z := by
  have hj' : j < (markedTo D k j).n := hj
  refine ⟨S.row.mod hm (fun e => (S.sub j hj' _ e).2 rfl), fun i hi => ?_, S.sub, S.dis, S.hb⟩
  have hi' : i < (markedTo D k j).n := hi
  show UndosOwn (Z i) w1 (A i) (D.len i) (fun t => if i < j + 1 then mkc (k + 2 * pre D.len i) t else D.p i t) (fun t => if i < j + 1 then mkw (k + 2 * pre D.len i) t else D.m i t)
  by_cases e : i = j
  · subst e
    exact ho.congr (fun t ht => by rw [if_pos (by omega), if_pos (by omega)]; exact ⟨rfl, rfl⟩)
  · have := (S.own i hi').mod hm (fun x hx hz => S.dis i j hi' hj' e x hx hz)
    refine this.congr (fun t ht => ?_)
    show (if i < j then mkc (k + 2 * pre D.len i) t else D.p i t) = (if i < j + 1 then mkc (k + 2 * pre D.len i) t else D.p i t) ∧ (if i < j then mkw (k + 2 * pre D.len i) t else D.m i t) = (if i < j + 1 then mkw (k + 2 * pre D.len i) t else D.m i t)
    by_cases h2 : i < j
    · rw [if_pos h2, if_pos (by omega), if_pos h2, if_pos (by omega)]; exact ⟨rfl, rfl⟩
    · rw [if_neg h2, if_neg (by omega), if_neg h2, if_neg (by omega)]; exact ⟨rfl, rfl⟩
theorem marked_ahead {D : PD} {k : Int} {X : Nat → Prop} {w : World} {ao : Option Addr} (h : PSOwn X w ao D) : PSOwn X w ao (markedTo D k 0) :=
  ⟨h.1, fun h0 => let ⟨b, A, c, Z, e, S⟩ := h.2 h0; ⟨b, A, c, Z, e, ⟨S.row, fun i hi => (S.own i hi).congr (fun t ht => ⟨by show _ = if i < 0 then mkc (k + 2 * pre D.len i) t else D.p i t; rw [if_neg (by omega)], by show _ = if i < 0 then mkw (k + 2 * pre D.len i) t else D.m i t; rw [if_neg (by omega)]⟩), S.sub, S.dis, S.hb⟩⟩⟩
theorem marked_end {D : PD} {k : Int} {X : Nat → Prop} {w : World} {ao : Option Addr} (h : PSOwn X w ao (markedTo D k D.n)) : PSOwn X w ao (D.marked k) :=
  ⟨h.1, fun h0 => let ⟨b, A, c, Z, e, S⟩ := h.2 h0; ⟨b, A, c, Z, e, ⟨S.row, fun i hi => (S.own i hi).congr (fun t ht => ⟨by show (if i < D.n then mkc (k + 2 * pre D.len i) t else D.p i t) = _; exact if_pos hi, by show (if i < D.n then mkw (k + 2 * pre D.len i) t else D.m i t) = _; exact if_pos hi⟩), S.sub, S.dis, S.hb⟩⟩⟩
set_option maxHeartbeats 800000 in
theorem markSS_any (ao : Option Addr) (c0 : Nat) (D : PD) (X : Nat → Prop) (k : Int) (w : World) (hk0 : 0 ≤ k) (hk : k + 2 * D.tot ≤ 9223372036854775807) (h : PSOwn X w ao D) :
    Calls Try.prog 183 #[.slice ao D.n c0, .int .i64 k] w fun e w' => e = .returned (.int .i64 (k + 2 * D.tot)) ∧ PSOwn X w' ao (D.marked k) ∧ Mod X w w' := by
  obtain ⟨n, len, p, m⟩ := D
  have hn := h.1
  simp only [PD.tot] at hn hk ⊢
  go_enter Try.func183, Try.ntmps183
  go_wp2
  go_loopw [1, 5] (fun kk i wr => ∃ j : Nat, j ≤ n ∧ i = .int .i64 j ∧ kk = .int .i64 (k + 2 * pre len j) ∧ PSOwn X wr ao (markedTo ⟨n, len, p, m⟩ k j) ∧ Mod X w wr) (fun _ i _ => n - (intOf i).toNat)
  case atStart => exact ⟨0, Nat.zero_le _, rfl, by simp [pre], marked_ahead h, Mod.refl _ _⟩
  case round =>
    obtain ⟨j, hj, rfl, rfl, ho, hm⟩ := hrel
    by_cases hlt : j < n
    · obtain ⟨b, A, c, Z, e, S⟩ := ho.2 (show 0 < n by omega)
      have hjn : j < (markedTo ⟨n, len, p, m⟩ k j).n := hlt
      have IOJ : Hid (UndosOwn (Z j) wr (A j) (len j) (p j) (m j)) := (S.own j hjn).congr (fun t ht => ⟨by show (if j < j then mkc (k + 2 * pre len j) t else p j t) = _; rw [if_neg (by omega)], by show (if j < j then mkw (k + 2 * pre len j) t else m j t) = _; rw [if_neg (by omega)]⟩)
      have HSUB : Hid (∀ x, Z j x → X x ∧ x ≠ b) := S.sub j hjn
      have g1 : wr.cell? ⟨b, j, none⟩ = some (.slice (A j) (len j) (c j)) := S.row.cell hjn
      have hp : pre len (j + 1) ≤ pre len n := pre_mono len (by omega)
      have hp1 : pre len (j + 1) = pre len j + len j := rfl
      have HP : Hid (pre len (j + 1) = pre len j + len j) := hp1
      have hb2 : (pre len j : Int) + len j ≤ pre len n := by omega
      clear hp hp1
      subst e
      have HS : Hid (PSIn X wr b A c (markedTo ⟨n, len, p, m⟩ k j) Z) := S
      have HM : Hid (Mod X w wr) := hm
      clear h ho S hjn hm
      go_wp2_with fail
      refine (markUndoS_any _ _ _ (p j) (m j) _ _ _ (by omega) (by omega) IOJ.out).mono ?_
      rintro e w1 ⟨rfl, ho1, hm1⟩
      have R : Hid (PSIn X w1 b A c (markedTo ⟨n, len, p, m⟩ k (j + 1)) Z) := ss_step (D := ⟨n, len, p, m⟩) hlt HS.out ho1 hm1
      have hm2 : Hid (Mod X w w1) := HM.out.trans (hm1.mono (fun x hx => (HSUB.out x hx).1))
      clear HS IOJ ho1 hm1 g1 HM
      go_wp2
      go_roundw
      case rel => exact ⟨j + 1, by omega, by go_num, by rw [HP.out]; go_num, ⟨hn, fun _ => ⟨b, A, c, Z, rfl, R.out⟩⟩, hm2.out⟩
      case measure => simp [intOf]; omega
    · obtain rfl : j = n := by omega
      have HO : Hid (PSOwn X wr ao (markedTo ⟨j, len, p, m⟩ k j)) := ho
      have HM : Hid (Mod X w wr) := hm
      clear ho hm h
      go_wp2
      go_ret
      exact ⟨rfl, marked_end (D := ⟨j, len, p, m⟩) HO.out, HM.out⟩
set_option maxHeartbeats 800000 in
theorem heldSS_any (ao : Option Addr) (c0 : Nat) (D : PD) (X : Nat → Prop) (k : Int) (w : World) (hk0 : 0 ≤ k) (hk : k + 2 * D.tot ≤ 9223372036854775807) (h : PSOwn X w ao (D.marked k)) :
    Calls Try.prog 184 #[.slice ao D.n c0, .int .i64 k] w fun e w' => e = .returned (.int .i64 (k + 2 * D.tot)) ∧ Blw w w' := by
  obtain ⟨n, len, p, m⟩ := D
  have hn := h.1
  simp only [PD.tot, PD.marked] at hn hk h ⊢
  have H : Hid (PSOwn X w ao ⟨n, len, fun i => mkc (k + 2 * pre len i), fun i => mkw (k + 2 * pre len i)⟩) := h
  clear h
  go_enter Try.func184, Try.ntmps184
  go_wp2
  go_loopw [1, 5] (fun kk i wr => ∃ j : Nat, j ≤ n ∧ i = .int .i64 j ∧ kk = .int .i64 (k + 2 * pre len j) ∧ Blw w wr) (fun _ i _ => n - (intOf i).toNat)
  case atStart => exact ⟨0, Nat.zero_le _, rfl, by simp [pre], Blw.refl _⟩
  case round =>
    obtain ⟨j, hj, rfl, rfl, hb⟩ := hrel
    by_cases hlt : j < n
    · obtain ⟨b, A, c, Z, e, S⟩ := H.out.2 (show 0 < n by omega)
      subst e
      have g1 : wr.cell? ⟨b, j, none⟩ = some (.slice (A j) (len j) (c j)) := hb.cell (S.row.cell hlt)
      have G2 : Hid (UndosOwn (Z j) wr (A j) (len j) (mkc (k + 2 * pre len j)) (mkw (k + 2 * pre len j))) := (S.own j hlt).blw hb
      have hp : pre len (j + 1) ≤ pre len n := pre_mono len (by omega)
      have hp1 : pre len (j + 1) = pre len j + len j := rfl
      have HP : Hid (pre len (j + 1) = pre len j + len j) := hp1
      have hb2 : (pre len j : Int) + len j ≤ pre len n := by omega
      have hb3 : 0 ≤ k + 2 * pre len j + 2 * len j := by omega
      clear H hp hp1 S
      go_wp2_with fail
      refine (heldUndoS_any _ _ _ (Z j) _ _ (by omega) (by omega) G2.out).mono ?_
      rintro e w1 ⟨rfl, hb1⟩
      replace hb := hb.trans hb1
      clear g1 G2 hb1
      go_wp2
      go_roundw
      case rel => exact ⟨j + 1, by omega, by go_num, by rw [HP.out]; go_num, hb⟩
      case measure => simp [intOf]; omega
    · obtain rfl : j = n := by omega
      go_wp2
      go_ret
      exact ⟨rfl, hb⟩
set_option maxHeartbeats 800000 in
theorem eqSS_same (a1 a2 : Option Addr) (c1 c2 : Nat) (D : PD) {Y Z : Nat → Prop} (w : World) (h1 : PSAt Y w a1 D) (h2 : PSAt Z w a2 D) :
    Calls Try.prog 181 #[.slice a1 D.n c1, .slice a2 D.n c2] w fun e w' => e = .returned (.bool true) ∧ Blw w w' := by
  obtain ⟨n0, len, f, g⟩ := D
  obtain ⟨hl, h1⟩ := h1
  obtain ⟨-, h2⟩ := h2
  dsimp only at hl h1 h2 ⊢
  go_enter Try.func181, Try.ntmps181
  go_wp2
  go_loopw [5] (fun i wr => ∃ k : Nat, k ≤ n0 ∧ i = .int .i64 k ∧ Blw w wr) (fun i _ => n0 - (intOf i).toNat)
  case atStart => exact ⟨0, Nat.zero_le _, rfl, Blw.refl _⟩
  case round =>
    obtain ⟨k, hk, rfl, hb⟩ := hrel
    by_cases hlt : k < n0
    · obtain ⟨b, o, e, ce, rfl, -, g1, k1⟩ := h1 k hlt
      obtain ⟨b', o', e', ce', rfl, -, g2, k2⟩ := h2 k hlt
      replace g1 := hb.cell g1
      replace g2 := hb.cell g2
      have K1 : Hid (UndosAt Y wr e (len k) (f k) (g k)) := k1.blw hb
      have K2 : Hid (UndosAt Z wr e' (len k) (f k) (g k)) := k2.blw hb
      clear h1 h2 k1 k2
      generalize len k = lk at *
      go_wp2
      go_region_with (go_at_call 197; refine (eqUndoS_same _ _ _ _ lk (f k) (g k) _ (K1.out.blw (Blw.refl _).drew) (K2.out.blw (Blw.refl _).drew)).mono ?_; rintro e w' ⟨rfl, hb2⟩)
      all_goals go_wp2
      all_goals go_roundw
      all_goals first | exact ⟨k + 1, by omega, by go_num, hb.trans ((Blw.refl _).drew.trans (by assumption))⟩ | (simp [intOf]; omega)
    · go_wp2
      go_ret
      exact ⟨rfl, hb⟩
end Go.Proofs.Ytbpdopcdhnemfaa
/- The laws' functions on tables: measured, copied, compared, marked, held. -/
namespace Go.Proofs.Ytbpdopcdhnemfaa
open Go.RowKit
set_option linter.unusedSimpArgs false
set_option linter.unusedVariables false
theorem tinfo78 : (Try.prog.info? 186).map (fun i => (i.zero, i.size, i.bytes)) = some (some (.slice none 0 0), 1, 24) := by kernel_rfl
theorem mkLists (n : Nat) (hn : n ≤ 1048576) (w : World) : (Instr.makeSlice 27 (.int .i64 n) (.int .i64 n)).run Try.prog w = .ok (.slice (some ⟨w.heap.size, 0, none⟩) n n) (w.alloc (.cells (madeCells #[.slice none 0 0] n) 186)) := by
  obtain ⟨i0, hi, hz0, hz1, hz2⟩ := info_parts tinfo78
  have h := run_make (P := Try.prog) w 27 186 i0 (.slice none 0 0) Try.underlying27 hi hz0 .i64 .i64 (n : Int) (n : Int) (by omega) (Int.le_refl _) (by rw [hz2]; omega) (by omega)
  simpa [hz1, Value.cells] using h
/-- Lists that are copied one after another into a new list at z. -/
structure Cpy (w wr : World) (z : Nat) (D : PD) (F : Nat → Nat) (j : Nat) : Prop where
  row : Row wr z D.n (fun i => if i < j then .slice (some ⟨F i, 0, none⟩) (D.len i) (D.len i) else .slice none 0 0)
  inn : ∀ i, i < j → Row wr (F i) (D.len i * 2) (uc (D.p i) (D.m i)) ∧ z < F i ∧ F i < wr.heap.size
  dis : ∀ i i', i < j → i' < j → i ≠ i' → F i ≠ F i'
  blw : Blw w wr
  lo : w.heap.size ≤ z
theorem Cpy.next {w wr w1 : World} {z : Nat} {D : PD} {F : Nat → Nat} {j : Nat} (h : Cpy w wr z D F j) (hj : j < D.n) (hb : Blw wr w1) (hr : Row w1 wr.heap.size (D.len j * 2) (uc (D.p j) (D.m j))) :
    Cpy w (w1.setCell ⟨z, j, none⟩ (.slice (some ⟨wr.heap.size, 0, none⟩) (D.len j) (D.len j))) z D (fun i => if i = j then wr.heap.size else F i) (j + 1) := by
  have hz := h.row.lt
  have hs := hb.size
  have hl := hr.lt
  have ms : Mod (fun x => x = z) w1 (w1.setCell ⟨z, j, none⟩ (.slice (some ⟨wr.heap.size, 0, none⟩) (D.len j) (D.len j))) := Mod.setCell (X := fun x => x = z) _ (p := ⟨z, j, none⟩) rfl _
  have hs2 := ms.size
  refine ⟨((h.row.blw hb).set j _).congr (fun i hi => ?_), fun i hi => ?_, fun i i' hi hi' hne => ?_, Mod.blw (h.blw.trans hb) ms (fun i hi => by have := h.lo; omega), h.lo⟩
  · by_cases e : i = j
    · subst e; simp
    · by_cases e2 : i < j
      · simp [e, e2, Nat.lt_succ_of_lt e2]
      · have e3 : ¬ i < j + 1 := by omega
        simp [e, e2, e3]
  · by_cases e : i = j
    · subst e
      simp only [if_pos]
      exact ⟨hr.mod ms (by omega), by omega, by omega⟩
    · obtain ⟨g1, g2, g3⟩ := h.inn i (by omega)
      simp only [if_neg e]
      exact ⟨(g1.blw hb).mod ms (by omega), g2, by omega⟩
  · by_cases e : i = j
    · have e' : ¬ i' = j := by omega
      have := (h.inn i' (by omega)).2.2
      simp only [if_pos e, if_neg e']; omega
    · by_cases e' : i' = j
      · have := (h.inn i (by omega)).2.2
        simp only [if_neg e, if_pos e']; omega
      · simp only [if_neg e, if_neg e']; exact h.dis i i' (by omega) (by omega) hne
theorem Cpy.own {w wr : World} {z : Nat} {D : PD} {F : Nat → Nat} (h : Cpy w wr z D F D.n) (hn : D.n ≤ 1048576) (hl : ∀ i, i < D.n → D.len i ≤ 1048576) : PSOwn (fun x => z ≤ x ∧ x < wr.heap.size) wr (some ⟨z, 0, none⟩) D := by
  refine ⟨by omega, fun _ => ⟨z, fun i => some ⟨F i, 0, none⟩, fun i => D.len i, fun i x => x = F i, rfl, ⟨h.row.congr (fun i hi => by rw [if_pos hi]), fun i hi => ⟨by have := hl i hi; omega, fun _ => ⟨F i, rfl, rfl, (h.inn i hi).1⟩⟩, fun i hi x hx => ?_, fun i j hi hj hne x hx hx' => h.dis i j hi hj hne (hx.symm.trans hx'), ⟨Nat.le_refl _, h.row.lt⟩⟩⟩⟩
  have := (h.inn i hi).2
  omega
theorem len_le {D : PD} {i : Nat} (hi : i < D.n) : D.len i ≤ D.tot := by
  have h1 : pre D.len (i + 1) ≤ pre D.len D.n := pre_mono D.len (by omega)
  have h2 : pre D.len (i + 1) = pre D.len i + D.len i := rfl
  show D.len i ≤ pre D.len D.n
  omega
theorem set2_0 {w : World} {B : Nat} {a b : Value} (r : Row w B 2 (fun i => if i = 0 then a else b)) (u : Value) : Row (w.setCell ⟨B, 0, none⟩ u) B 2 (fun i => if i = 0 then u else b) :=
  (r.set 0 u).congr fun i hi => by by_cases e : i = 0 <;> simp [e]
theorem set2_1 {w : World} {B : Nat} {a b : Value} (r : Row w B 2 (fun i => if i = 0 then a else b)) (u : Value) : Row (w.setCell ⟨B, 1, none⟩ u) B 2 (fun i => if i = 0 then a else u) :=
  (r.set 1 u).congr fun i hi => by
    by_cases e : i = 0
    · simp [e]
    · obtain rfl : i = 1 := by omega
      simp
theorem set2_blw {w w1 : World} {B : Nat} (h : Blw w w1) (hB : w.heap.size ≤ B) (v0 v1 : Value) : Blw w ((w1.setCell ⟨B, 0, none⟩ v0).setCell ⟨B, 1, none⟩ v1) := (h.setCell hB _).setCell hB _
theorem set2_mod {X : Nat → Prop} (w1 : World) {B : Nat} (hB : X B) (v0 v1 : Value) : Mod X w1 ((w1.setCell ⟨B, 0, none⟩ v0).setCell ⟨B, 1, none⟩ v1) :=
  (Mod.setCell _ (p := ⟨B, 0, none⟩) hB _).trans (Mod.setCell _ (p := ⟨B, 1, none⟩) hB _)
set_option maxHeartbeats 1600000 in
theorem eqBook_same (b b' : BV) (B : BD) {X Y : Nat → Prop} (w : World) (h1 : BookAt X w b B) (h2 : BookAt Y w b' B) :
    Calls Try.prog 133 #[b.val B, b'.val B] w fun e w' => e = .returned (.bool true) ∧ Blw w w' := by
  obtain ⟨n, c, ⟨k, len, lc, lw⟩⟩ := B
  have H1 : Hid (BookAt X w b ⟨n, c, ⟨k, len, lc, lw⟩⟩) := h1
  have H2 : Hid (BookAt Y w b' ⟨n, c, ⟨k, len, lc, lw⟩⟩) := h2
  clear h1 h2
  go_enter Try.func133, Try.ntmps133
  go_wp2_with fail
  have rA := (box2 w (.slice b.a1 n b.c1) (.slice b.a2 k b.c2) 29).blw ((Blw.refl _).alloc (.cells #[.slice b'.a1 n b'.c1, .slice b'.a2 k b'.c2] 29))
  have rB := box2 (w.alloc (.cells #[.slice b.a1 n b.c1, .slice b.a2 k b.c2] 29)) (.slice b'.a1 n b'.c1) (.slice b'.a2 k b'.c2) 29
  rw [World.size_alloc] at rB
  have hb0 : Blw w ((w.alloc (.cells #[.slice b.a1 n b.c1, .slice b.a2 k b.c2] 29)).alloc (.cells #[.slice b'.a1 n b'.c1, .slice b'.a2 k b'.c2] 29)) := ((Blw.refl _).alloc _).alloc _
  refine (eqIntS_same _ _ _ _ n c _ (H1.out.c.blw hb0) (H2.out.c.blw hb0)).mono ?_
  rintro e w1 ⟨rfl, m, rfl⟩
  have hb1 := drewN_blw ((w.alloc (.cells #[.slice b.a1 n b.c1, .slice b.a2 k b.c2] 29)).alloc (.cells #[.slice b'.a1 n b'.c1, .slice b'.a2 k b'.c2] 29)) m
  replace rA := rA.blw hb1
  replace rB := rB.blw hb1
  replace hb1 := hb0.trans hb1
  clear hb0
  revert rA rB hb1
  generalize ((w.alloc (.cells #[.slice b.a1 n b.c1, .slice b.a2 k b.c2] 29)).alloc (.cells #[.slice b'.a1 n b'.c1, .slice b'.a2 k b'.c2] 29)).drewN m = w1
  intro rA rB hb1
  obtain ⟨p0, p1⟩ := get2 rA
  obtain ⟨q0, q1⟩ := get2 rB
  clear rA rB
  go_wp2_with fail
  clear p0 p1 q0 q1
  refine (eqSS_same _ _ _ _ ⟨k, len, lc, lw⟩ _ (H1.out.l.blw hb1) (H2.out.l.blw hb1)).mono ?_
  rintro e w2 ⟨rfl, hb2⟩
  replace hb2 := hb1.trans hb2
  clear hb1 H1 H2
  go_wp2
  go_ret
  exact ⟨rfl, hb2⟩
/-- What a book holds behind markBook. -/
def BD.marked (B : BD) (k : Int) : BD := ⟨B.n, fun i => k + i, B.D.marked (k + B.n)⟩
def BD.total (B : BD) : Nat := B.n + 2 * B.D.tot
set_option maxHeartbeats 1600000 in
theorem markBook_any (b : BV) (B : BD) (X : Nat → Prop) (w : World) (hS : B.n + (B.D.n + B.D.tot) ≤ 1048576) (hX : ∀ b, X b → b < w.heap.size) (h : BookOwn X w b B) :
    Calls Try.prog 136 #[b.val B, .int .i64 1] w fun e w' => e = .returned (.int .i64 (1 + B.total)) ∧ BookOwn X w' b (B.marked 1) ∧ Mod X w w' := by
  obtain ⟨n, c, ⟨k, len, lc, lw⟩⟩ := B
  dsimp only at hS
  obtain ⟨X1, X2, d1, d2, hc, hl⟩ := h.ex
  have HC : Hid (IntsOwn X1 w b.a1 n c) := hc
  have HL : Hid (PSOwn X2 w b.a2 ⟨k, len, lc, lw⟩) := hl
  clear h hc hl
  go_enter Try.func136, Try.ntmps136
  go_wp2_with fail
  have hb0 : Blw w (w.alloc (.cells #[.slice b.a1 n b.c1, .slice b.a2 k b.c2] 29)) := (Blw.refl _).alloc _
  have rA := box2 w (.slice b.a1 n b.c1) (.slice b.a2 k b.c2) 29
  refine (markIntS_any _ _ n c X1 1 _ (by omega) (by omega) (HC.out.blw hb0)).mono ?_
  rintro e w1 ⟨rfl, hc1, hm1⟩
  replace rA := rA.mod hm1 (fun hh => by have := hX _ (d1 _ hh.1).1; omega)
  obtain ⟨p0, p1⟩ := get2 rA
  have HM : Hid (Mod X w w1) := (hb0.mod X).trans (hm1.mono (fun x hx => (d1 x hx.1).1))
  have HL1 : Hid (PSOwn X2 w1 b.a2 ⟨k, len, lc, lw⟩) := (HL.out.blw hb0).mod hm1 (fun x hx hh => (d1 x hh.1).2 hx)
  have HC1 : Hid (IntsOwn X1 w1 b.a1 n (fun i => 1 + i)) := hc1
  clear hb0 rA hc1 hm1 HC HL
  go_wp2_with fail
  clear p0 p1
  refine (markSS_any _ _ ⟨k, len, lc, lw⟩ X2 _ _ (by omega) (by simp only [PD.tot] at *; omega) HL1.out).mono ?_
  rintro e w2 ⟨rfl, hl2, hm2⟩
  have HC2 : Hid (IntsOwn X1 w2 b.a1 n (fun i => 1 + i)) := HC1.out.mod hm2 (fun x hx hh => (d1 x hx).2 hh)
  have HL2 : Hid (PSOwn X2 w2 b.a2 (PD.marked ⟨k, len, lc, lw⟩ (1 + n))) := hl2
  have HM2 : Hid (Mod X w w2) := HM.out.trans (hm2.mono d2)
  clear HL1 HC1 HM hl2 hm2
  go_wp2
  go_ret
  refine ⟨ret_int (by simp [BD.total]; omega), ⟨X1, X2, d1, d2, HC2.out, HL2.out⟩, HM2.out⟩
set_option maxHeartbeats 1600000 in
theorem heldBook_any (b : BV) (B : BD) (X : Nat → Prop) (w : World) (hS : B.n + (B.D.n + B.D.tot) ≤ 1048576) (h : BookOwn X w b (B.marked 1)) :
    Calls Try.prog 138 #[b.val B, .int .i64 1] w fun e w' => e = .returned (.int .i64 (1 + B.total)) ∧ Blw w w' := by
  obtain ⟨n, c, ⟨k, len, lc, lw⟩⟩ := B
  dsimp only at hS
  obtain ⟨X1, X2, d1, d2, hc, hl⟩ := h.ex
  have HC : Hid (IntsOwn X1 w b.a1 n (fun i => 1 + i)) := hc
  have HL : Hid (PSOwn X2 w b.a2 (PD.marked ⟨k, len, lc, lw⟩ (1 + n))) := hl
  clear h hc hl
  go_enter Try.func138, Try.ntmps138
  go_wp2_with fail
  have hb0 : Blw w (w.alloc (.cells #[.slice b.a1 n b.c1, .slice b.a2 k b.c2] 29)) := (Blw.refl _).alloc _
  have rA := box2 w (.slice b.a1 n b.c1) (.slice b.a2 k b.c2) 29
  refine (heldIntS_any _ _ n X1 1 _ (by omega) (by omega) (HC.out.blw hb0).at).mono ?_
  rintro e w1 ⟨rfl, hb1⟩
  replace rA := rA.blw hb1
  replace hb1 := hb0.trans hb1
  obtain ⟨p0, p1⟩ := get2 rA
  have k1 : ¬ (1 + (n : Int) < 0) := by omega
  clear hb0 rA HC
  go_wp2_with fail
  clear p0 p1
  refine (heldSS_any _ _ ⟨k, len, lc, lw⟩ X2 _ _ (by omega) (by simp only [PD.tot] at *; omega) (HL.out.blw hb1)).mono ?_
  rintro e w2 ⟨rfl, hb2⟩
  replace hb2 := hb1.trans hb2
  clear hb1 HL k1
  have k2 : ¬ (1 + (n : Int) + 2 * (pre len k : Nat) < 0) := by omega
  go_wp2
  go_ret
  exact ⟨ret_int (by simp [BD.total]; omega), hb2⟩
end Go.Proofs.Ytbpdopcdhnemfaa
/- Slices that are appended to: what they hold, and what append leaves. -/
namespace Go.Proofs.Ytbpdopcdhnemfaa
open Go.RowKit
set_option linter.unusedSimpArgs false
set_option linter.unusedVariables false
/-- The slice v is nil or owns its row, a block of X; its n elements' cells are F. -/
def Buf (e : TypeId) (size : Nat) (X : Nat → Prop) (w : World) (v : Value) (n : Nat) (F : Nat → Value) : Prop :=
  w.ownsRow 0 e size v n ((List.range (n * size)).map F) ∧ ∀ g, v.ownBlock = some g → X g
theorem Buf.nil (e : TypeId) (size : Nat) (X : Nat → Prop) (w : World) (F : Nat → Value) : Buf e size X w (.slice none 0 0) 0 F := ⟨⟨by simp, Or.inl ⟨rfl, rfl⟩⟩, fun g h => by simp [Value.ownBlock] at h⟩
theorem Buf.form {e : TypeId} {size : Nat} {X : Nat → Prop} {w : World} {v : Value} {n : Nat} {F : Nat → Value} (h : Buf e size X w v n F) :
    ∃ ao cap, v = .slice ao n cap ∧ (0 < n → ∃ g, X g ∧ ao = some ⟨g, 0, none⟩ ∧ Row w g (n * size) F) := by
  rcases h.1.2 with ⟨rfl, rfl⟩ | ⟨g, cap, cur, rfl, _, hb, h1, h2, h3, h4⟩
  · exact ⟨none, 0, rfl, fun h => absurd h (by omega)⟩
  · refine ⟨_, cap, rfl, fun hn => ⟨g, h.2 g rfl, rfl, cur, e, hb, ?_, fun i hi => ?_⟩⟩
    · rw [h3]; exact Nat.mul_le_mul_right _ h1
    · have := congrArg (fun l => l[i]?) h4
      simp [hi] at this
      exact this
theorem Buf.mod {e : TypeId} {size : Nat} {X Z : Nat → Prop} {w w' : World} {v : Value} {n : Nat} {F : Nat → Value} (h : Buf e size X w v n F) (hm : Mod Z w w') (hx : ∀ b, X b → ¬ Z b) : Buf e size X w' v n F := by
  refine ⟨⟨h.1.1, ?_⟩, h.2⟩
  rcases h.1.2 with h1 | ⟨g, cap, cur, rfl, h1, hb, h2⟩
  · exact Or.inl h1
  · exact Or.inr ⟨g, cap, cur, rfl, h1, (hm.block g (Array.getElem?_eq_some_iff.1 hb).1 (hx _ (h.2 g rfl))).trans hb, h2⟩
theorem Buf.blw {e : TypeId} {size : Nat} {X : Nat → Prop} {w w' : World} {v : Value} {n : Nat} {F : Nat → Value} (h : Buf e size X w v n F) (hb : Blw w w') : Buf e size X w' v n F := h.mod (hb.mod (fun _ => False)) (fun _ _ => id)
theorem Buf.mono {e : TypeId} {size : Nat} {X Y : Nat → Prop} {w : World} {v : Value} {n : Nat} {F : Nat → Value} (h : Buf e size X w v n F) (hxy : ∀ b, X b → Y b) : Buf e size Y w v n F := ⟨h.1, fun g hg => hxy _ (h.2 g hg)⟩
theorem Buf.congr {e : TypeId} {size : Nat} {X : Nat → Prop} {w : World} {v : Value} {n : Nat} {F G : Nat → Value} (h : Buf e size X w v n F) (he : ∀ i, i < n * size → F i = G i) : Buf e size X w v n G := by
  have : (List.range (n * size)).map F = (List.range (n * size)).map G := List.map_congr_left (fun i hi => he i (List.mem_range.1 hi))
  exact ⟨this ▸ h.1, h.2⟩
theorem Buf.lit {e : TypeId} {X : Nat → Prop} {w : World} {B : Nat} (h : w.heap[B]? = some (.cells #[] e (0, 0))) (size : Nat) (hx : X B) (F : Nat → Value) : Buf e size X w (.slice (some ⟨B, 0, none⟩) 0 0) 0 F :=
  ⟨⟨by simp, Or.inr ⟨B, 0, #[], rfl, Nat.zero_le _, h, Nat.le_refl _, by simp [maxLen], by simp, by simp⟩⟩, fun g hg => by simp [Value.ownBlock] at hg; subst hg; exact hx⟩
theorem append_none {t ty e : TypeId} {i : TypeInfo} {size : Nat} (ht : Try.prog.underlying t = some (.slice e)) (hi : Try.prog.info? e = some i) (w : World) (v : Value) (n c : Nat) (xs : List Value) (hown : w.ownsRow 0 e size v n xs) :
    (Builtin.append_ #[t, t] ty #[v, .slice none 0 c]).run Try.prog w = .ok v w := by
  rcases hown.2 with ⟨rfl, rfl⟩ | ⟨g, cap, cur, rfl, _, _, hnc, _⟩
  · simp [Builtin.append_, run_underlying ht, sizeOf, typeInfo, hi, Builtin.lenOf, Builtin.firstCells]
  · simp [Builtin.append_, run_underlying ht, sizeOf, typeInfo, hi, Builtin.lenOf, Builtin.firstCells, hnc, storeCells]
def cat (k : Nat) (F G : Nat → Value) : Nat → Value := fun i => if i < k then F i else G (i - k)
theorem cat_list (k m : Nat) (F G : Nat → Value) : (List.range k).map F ++ (List.range m).map G = (List.range (k + m)).map (cat k F G) := by
  apply List.ext_getElem?
  intro i
  by_cases h : i < k
  · rw [List.getElem?_append_left (by simpa using h)]
    simp [h, cat, Nat.lt_of_lt_of_le h (Nat.le_add_right k m)]
  · rw [List.getElem?_append_right (by simp; omega)]
    by_cases h2 : i < k + m
    · have : i - k < m := by omega
      simp [h, h2, this, cat]
    · have : ¬ i - k < m := by omega
      simp [h2, this]
/-- append of whatever is read at the source. -/
theorem Buf.append {t e : TypeId} {i : TypeInfo} {z : Value} {size bytes : Nat} (ht : Try.prog.underlying t = some (.slice e)) (hi : Try.prog.info? e = some i) (hz : i.zero = some z) (hsize : i.size = size) (hby : i.bytes = bytes) (hzs : z.cells.size = size) (hsz : 0 < size)
    {X : Nat → Prop} {w : World} {v : Value} {n : Nat} {F : Nat → Value} (h : Buf e size X w v n F) {ao : Option Addr} {m : Nat} (c : Nat) {G : Nat → Value} (hs : ao = none → m = 0) (hG : ∀ ad, ao = some ad → ∀ j, j < m * size → w.cell? (ad.add j) = some (G j)) (h1 : ∀ j, (G j).oneCell' = true)
    (hb : n + m ≤ 2097152) (hbb : bytes ≤ 1024) (ty : TypeId) :
    ∃ ao' cap w', (Builtin.append_ #[t, t] ty #[v, .slice ao m c]).run Try.prog w = .ok (.slice ao' (n + m) cap) w' ∧ Buf e size (fun b => (X b ∨ b = w.heap.size) ∧ b < w'.heap.size) w' (.slice ao' (n + m) cap) (n + m) (cat (n * size) F G) ∧ Mod (fun b => v.ownBlock = some b) w w' := by
  cases ao with
  | none =>
    obtain rfl := hs rfl
    obtain ⟨a0, cap, rfl, -⟩ := h.form
    refine ⟨a0, cap, w, append_none ht hi w _ n c _ h.1, ⟨?_, fun g hg => ⟨Or.inl (h.2 g hg), ?_⟩⟩, Mod.refl _ _⟩
    · have e1 : (List.range ((n + 0) * size)).map (cat (n * size) F G) = (List.range (n * size)).map F := by
        rw [Nat.add_zero]
        exact List.map_congr_left (fun i hi => by simp [cat, List.mem_range.1 hi])
      rw [e1]
      exact h.1
    · replace hg : (Value.slice a0 n cap).ownBlock = some g := hg
      rcases h.1.2 with ⟨e1, -⟩ | ⟨g', cap', cur, e1, _, hb', _⟩
      · rw [e1] at hg; simp [Value.ownBlock] at hg
      · rw [e1] at hg
        simp [Value.ownBlock] at hg
        subst hg
        exact (Array.getElem?_eq_some_iff.1 hb').1
  | some ad =>
    obtain ⟨v', w', hr, h2, h3, -, h5⟩ := run_append_own_at (P := Try.prog) w 0 t ty e i z size bytes ht hi hz hsize hby hzs hsz v n _ h.1 ad m c ((List.range (m * size)).map G) (by simp)
      (fun j u hu => by
        have hj : j < m * size := by
          have := (List.getElem?_eq_some_iff.1 hu).1
          simpa using this
        rw [hG ad rfl j hj]
        simpa [hj] using hu) (fun u hu => by
        obtain ⟨j, -, rfl⟩ := List.mem_map.1 hu
        exact h1 j) (by simp only [maxLen]; omega) (Nat.le_trans (Nat.mul_le_mul hb hbb) (by decide)) (Nat.zero_le _)
    rw [cat_list, ← Nat.add_mul] at h2
    have hm : Mod (fun b => v.ownBlock = some b) w w' := ⟨h3.os, h3.tape, h3.output, h3.size, fun k hk hx => h3.block k hk (fun e => hx e.symm)⟩
    have hB : Buf e size (fun b => (X b ∨ b = w.heap.size) ∧ b < w'.heap.size) w' v' (n + m) (cat (n * size) F G) := by
      refine ⟨h2, fun g hg => ⟨?_, ?_⟩⟩
      · rcases h5 with h5 | h5
        · exact Or.inl (h.2 g (h5 ▸ hg))
        · rw [h5] at hg
          exact Or.inr (Option.some.inj hg).symm
      · rcases h2.2 with ⟨e1, -⟩ | ⟨g', cap', cur, e1, _, hb', _⟩
        · rw [e1] at hg; simp [Value.ownBlock] at hg
        · rw [e1] at hg
          simp [Value.ownBlock] at hg
          subst hg
          exact (Array.getElem?_eq_some_iff.1 hb').1
    obtain ⟨a0, cap, rfl, -⟩ := hB.form
    exact ⟨a0, cap, w', hr, hB, hm⟩
abbrev ic (f : Nat → Int) : Nat → Value := fun i => .int .i64 (f i)
def BufI (X : Nat → Prop) (w : World) (v : Value) (n : Nat) (f : Nat → Int) : Prop := Buf 3 1 X w v n (ic f)
def BufU (X : Nat → Prop) (w : World) (v : Value) (n : Nat) (f g : Nat → Int) : Prop := Buf 189 2 X w v n (uc f g)
theorem BufI.own {X : Nat → Prop} {w : World} {v : Value} {n : Nat} {f : Nat → Int} (h : BufI X w v n f) (hn : n ≤ 9223372036854775807) : ∃ ao cap, v = .slice ao n cap ∧ IntsOwn X w ao n f := by
  obtain ⟨ao, cap, e, h1⟩ := h.form
  exact ⟨ao, cap, e, hn, fun h0 => let ⟨g, hx, ea, hr⟩ := h1 h0; ⟨g, hx, ea, by rw [Nat.mul_one] at hr; exact hr⟩⟩
theorem BufU.own {X : Nat → Prop} {w : World} {v : Value} {n : Nat} {f g : Nat → Int} (h : BufU X w v n f g) (hn : n ≤ 9223372036854775807) : ∃ ao cap, v = .slice ao n cap ∧ UndosOwn X w ao n f g := by
  obtain ⟨ao, cap, e, h1⟩ := h.form
  exact ⟨ao, cap, e, hn, h1⟩
theorem uinfo69 : (Try.prog.info? 189).map (fun i => (i.zero, i.size, i.bytes)) = some (some (.agg #[.int .i64 0, .int .i64 0]), 2, 16) := by kernel_rfl
def icat (n : Nat) (f g : Nat → Int) : Nat → Int := fun i => if i < n then f i else g (i - n)
theorem BufI.append {X Y : Nat → Prop} {w : World} {v : Value} {n : Nat} {f : Nat → Int} (h : BufI X w v n f) {ao : Option Addr} {m : Nat} (c : Nat) {g : Nat → Int} (hs : IntsAt Y w ao m g) (hb : n + m ≤ 2097152) (ty : TypeId) :
    ∃ ao' cap w', (Builtin.append_ #[26, 26] ty #[v, .slice ao m c]).run Try.prog w = .ok (.slice ao' (n + m) cap) w' ∧ BufI (fun b => (X b ∨ b = w.heap.size) ∧ b < w'.heap.size) w' (.slice ao' (n + m) cap) (n + m) (icat n f g) ∧ Mod (fun b => v.ownBlock = some b) w w' := by
  obtain ⟨i0, hi0, hz0, hz1, hz2⟩ := info_parts tinfo3
  obtain ⟨a, cap, w', h1, h2, h3⟩ := Buf.append Try.underlying26 hi0 hz0 hz1 hz2 rfl (by decide) h (ao := ao) (m := m) c (G := ic g) (fun e => by
      rcases Nat.eq_zero_or_pos m with h0 | h0
      · exact h0
      · obtain ⟨b, o, e2, -⟩ := hs.2 0 h0
        rw [e] at e2; cases e2) (fun ad e j hj => by
      obtain ⟨b, o, e2, -, h4⟩ := hs.2 j (by omega)
      rw [e] at e2
      cases e2
      rw [Addr.add_mid]
      exact h4) (fun j => rfl) hb (by decide) ty
  refine ⟨a, cap, w', h1, h2.congr (fun i hi => ?_), h3⟩
  simp only [cat, ic, icat, Nat.mul_one]
  split <;> rfl
theorem BufU.append {X Y : Nat → Prop} {w : World} {v : Value} {n : Nat} {f g : Nat → Int} (h : BufU X w v n f g) {ao : Option Addr} {m : Nat} (c : Nat) {f' g' : Nat → Int} (hs : UndosAt Y w ao m f' g') (hb : n + m ≤ 2097152) (ty : TypeId) :
    ∃ ao' cap w', (Builtin.append_ #[186, 186] ty #[v, .slice ao m c]).run Try.prog w = .ok (.slice ao' (n + m) cap) w' ∧ BufU (fun b => (X b ∨ b = w.heap.size) ∧ b < w'.heap.size) w' (.slice ao' (n + m) cap) (n + m) (icat n f f') (icat n g g') ∧ Mod (fun b => v.ownBlock = some b) w w' := by
  obtain ⟨i0, hi0, hz0, hz1, hz2⟩ := info_parts uinfo69
  obtain ⟨a, cap, w', h1, h2, h3⟩ := Buf.append Try.underlying186 hi0 hz0 hz1 hz2 rfl (by decide) h (ao := ao) (m := m) c (G := uc f' g') (fun e => by
      rcases Nat.eq_zero_or_pos m with h0 | h0
      · exact h0
      · obtain ⟨b, o, e2, -⟩ := hs.2 0 h0
        rw [e] at e2; cases e2) (fun ad e j hj => by
      obtain ⟨b, o, e2, -, h4, h5⟩ := hs.2 (j / 2) (by omega)
      rw [e] at e2
      cases e2
      rw [Addr.add_mid]
      rcases (show j % 2 = 0 ∨ j % 2 = 1 by omega) with h6 | h6
      · have e6 : o + j = o + j / 2 * 2 := by omega
        rw [e6, h4]; simp [uc, h6]
      · have e6 : o + j = o + j / 2 * 2 + 1 := by omega
        rw [e6, h5]; simp [uc, h6]) (fun j => by simp only [uc]; split <;> rfl) hb (by decide) ty
  refine ⟨a, cap, w', h1, h2.congr (fun i hi => ?_), h3⟩
  have e1 : (i - n * 2) % 2 = i % 2 ∨ i < n * 2 := by omega
  by_cases h6 : i < n * 2
  · have h7 : i / 2 < n := by omega
    simp [cat, uc, icat, h6, h7]
  · have h7 : ¬ i / 2 < n := by omega
    have h8 : (i - n * 2) % 2 = i % 2 := by omega
    have h9 : (i - n * 2) / 2 = i / 2 - n := by omega
    simp only [cat, uc, icat, h6, h7, h8, h9, if_false]
/-- append at the operation, its run being known. -/
theorem wpList_append_run {w : World} {ops : Array Oper} {rest : List Oper} {o : Oper} {a : Act} {Q : Exit → Act → World → Prop} (hgd : o.guard = none) (s x : Operand) (t : TypeId)
    (ho : o.op = .call { callee := .builtin .append, args := #[s, x], argTypes := #[t, t] }) (v u : Value) (hs : a.eval s = v) (hx : a.eval x = u) {r : Value} {w' : World} (hrun : (Builtin.append_ #[t, t] o.type #[v, u]).run Try.prog w = .ok r w')
    (h : wpList Try.prog ops Q rest (a.put o.dst r) w') : wpList Try.prog ops Q (o :: rest) a w := by
  refine wpList_plain hgd fun K hK => ?_
  unfold Oper.wp
  simp [execOp, ho, resolve, invoke, builtin, hs, hx, hrun, Result.andThen]
  exact hK _ _ h
/-- The same, in two steps: first the operation is met. -/
theorem wpList_append_at {w : World} {ops : Array Oper} {rest : List Oper} {o : Oper} {a : Act} {Q : Exit → Act → World → Prop} (hgd : o.guard = none) (s x : Operand) (t : TypeId)
    (ho : o.op = .call { callee := .builtin .append, args := #[s, x], argTypes := #[t, t] })
    (h : ∃ r w', (Builtin.append_ #[t, t] o.type #[a.eval s, a.eval x]).run Try.prog w = .ok r w' ∧ wpList Try.prog ops Q rest (a.put o.dst r) w') : wpList Try.prog ops Q (o :: rest) a w := by
  obtain ⟨r, w', h1, h2⟩ := h
  exact wpList_append_run hgd s x t ho _ _ rfl rfl h1 h2
/-- append as one step of a region that draws its order, its run being known. -/
theorem step_append_run {w : World} {ops : Array Oper} {o : Oper} {a : Act} {K : Act → World → Prop} {Q : Exit → Act → World → Prop} {E : Prop} (hgd : o.guard = none) (s x : Operand) (t : TypeId)
    (ho : o.op = .call { callee := .builtin .append, args := #[s, x], argTypes := #[t, t] }) (v u : Value) (hs : a.eval s = v) (hx : a.eval x = u) {r : Value} {w' : World} (hrun : (Builtin.append_ #[t, t] o.type #[v, u]).run Try.prog w = .ok r w')
    (h : K (a.put o.dst r) w') : if Region.wanted o (yielded ops a.tmps) = true then Oper.wp Try.prog o a w K Q else E := by
  have hw : Region.wanted o (yielded ops a.tmps) = true := by simp [Region.wanted, hgd]
  rw [if_pos hw]
  unfold Oper.wp
  simp [execOp, ho, resolve, invoke, builtin, hs, hx, hrun, Result.andThen]
  exact h
/-- The operands of an append that no guard turns off. -/
def appOf (o : Oper) : Option (Operand × Operand × TypeId) :=
  match o.guard, o.op with
  | none, .call { callee := .builtin .append, args := ⟨[s, x]⟩, argTypes := ⟨[t, t']⟩ } => if t = t' then some (s, x, t) else none
  | _, _ => none
theorem appOf_eq {o : Oper} {s x : Operand} {t : TypeId} (h : appOf o = some (s, x, t)) : o.guard = none ∧ o.op = .call { callee := .builtin .append, args := #[s, x], argTypes := #[t, t] } := by
  unfold appOf at h
  split at h
  · rename_i e1 e2
    split at h
    · rename_i e3
      subst e3
      simp only [Option.some.injEq, Prod.mk.injEq] at h
      obtain ⟨rfl, rfl, rfl⟩ := h
      exact ⟨e1, e2⟩
    · cases h
  · cases h
theorem step_app {w : World} {ops : Array Oper} {o : Oper} {a : Act} {K : Act → World → Prop} {Q : Exit → Act → World → Prop} {E : Prop} (s x : Operand) (t : TypeId) (ho : appOf o = some (s, x, t))
    (h : ∃ r w', (Builtin.append_ #[t, t] o.type #[a.eval s, a.eval x]).run Try.prog w = .ok r w' ∧ K (a.put o.dst r) w') :
    if Region.wanted o (yielded ops a.tmps) = true then Oper.wp Try.prog o a w K Q else E := by
  obtain ⟨r, w', h1, h2⟩ := h
  exact step_append_run (appOf_eq ho).1 s x t (appOf_eq ho).2 _ _ rfl rfl h1 h2
theorem wpList_app {w : World} {ops : Array Oper} {rest : List Oper} {o : Oper} {a : Act} {Q : Exit → Act → World → Prop} (s x : Operand) (t : TypeId) (ho : appOf o = some (s, x, t))
    (h : ∃ r w', (Builtin.append_ #[t, t] o.type #[a.eval s, a.eval x]).run Try.prog w = .ok r w' ∧ wpList Try.prog ops Q rest (a.put o.dst r) w') : wpList Try.prog ops Q (o :: rest) a w := by
  obtain ⟨r, w', h1, h2⟩ := h
  exact wpList_append_run (appOf_eq ho).1 s x t (appOf_eq ho).2 _ _ rfl rfl h1 h2
theorem one_ints (w : World) (x : Int) : IntsAt (fun b => b = w.heap.size) (w.alloc (.cells #[.int .i64 x] 3)) (some ⟨w.heap.size, 0, none⟩) 1 (fun _ => x) := by
  refine ⟨by omega, fun i hi => ⟨w.heap.size, 0, rfl, rfl, ?_⟩⟩
  obtain rfl : i = 0 := by omega
  exact (Row.of_cells (heap_alloc_new w (.cells #[.int .i64 x] 3)) (fun _ => .int .i64 x) (fun i hi => by obtain rfl : i = 0 := by simpa using hi
                                                                                                          rfl)).cell (i := 0) (by simp)
theorem one_undo (w : World) (x y : Int) : UndosAt (fun b => b = w.heap.size) (w.alloc (.cells #[.int .i64 x, .int .i64 y] 189)) (some ⟨w.heap.size, 0, none⟩) 1 (fun _ => x) (fun _ => y) := by
  refine ⟨by omega, fun i hi => ⟨w.heap.size, 0, rfl, rfl, ?_⟩⟩
  obtain rfl : i = 0 := by omega
  have := get2 (box2 w (.int .i64 x) (.int .i64 y) 189)
  exact this
end Go.Proofs.Ytbpdopcdhnemfaa
/- Good tables: the model's test. -/
namespace Go.Proofs.Ytbpdopcdhnemfaa
open Go.RowKit
set_option linter.unusedSimpArgs false
set_option linter.unusedVariables false
theorem iff_t {p : Prop} (h : p) : (true = true ↔ p) := ⟨fun _ => h, fun _ => rfl⟩
theorem iff_f {p : Prop} (h : ¬ p) : (false = true ↔ p) := ⟨fun e => Bool.noConfusion e, fun g => absurd g h⟩
def leafOK (p m : Int) : Prop := (0 ≤ p ∧ p ≤ 15) ∧ (0 ≤ m ∧ m ≤ 3) ∧ (0 < m ∨ p = 0)
/-- A good table. -/
structure BD.Good (B : BD) : Prop where
  n : B.n = 4
  k : 1 ≤ B.D.n ∧ B.D.n ≤ 4
  leaf : ∀ i, i < B.D.n → B.D.len i = 4 ∧ ∀ j, j < 4 → leafOK (B.D.p i j) (B.D.m i j)
  top : ∀ i, i < B.n → -1 ≤ B.c i ∧ B.c i ≤ (B.D.n : Int) - 1
  dis : ∀ i j, i < B.n → j < i → 0 ≤ B.c i → ¬ B.c j = B.c i
  idle : ∀ k, k < B.D.n → (∀ i, i < B.n → ¬ B.c i = (k : Int)) → ∀ j, j < 4 → ¬ 0 < B.D.m k j
theorem l1In_any (n lo hi : Int) (w : World) : Calls Try.prog 99 #[.int .i64 n, .int .i64 lo, .int .i64 hi] w fun e w' => ∃ r, e = .returned (.bool r) ∧ (r = true ↔ (lo ≤ n ∧ n ≤ hi)) ∧ w' = w := by
  by_cases h : lo ≤ n ∧ n ≤ hi
  · exact (l1In_yes n lo hi w h.1 h.2).mono fun e w' ⟨h1, h2⟩ => ⟨true, h1, ⟨fun _ => h, fun _ => rfl⟩, h2⟩
  · exact (l1In_no n lo hi w h).mono fun e w' ⟨h1, h2⟩ => ⟨false, h1, iff_f h, h2⟩
set_option maxHeartbeats 1600000 in
theorem l6Leaf_any (p m : Int) (w : World) : Calls Try.prog 161 #[.agg #[.int .i64 p, .int .i64 m]] w fun e w' => ∃ r, e = .returned (.bool r) ∧ (r = true ↔ leafOK p m) ∧ Blw w w' := by
  have hb0 : Blw w (w.alloc (.cells #[.int .i64 p, .int .i64 m] 189)) := (Blw.refl _).alloc _
  obtain ⟨p0, p1⟩ := get2 (box2 w (.int .i64 p) (.int .i64 m) 189)
  go_enter Try.func161, Try.ntmps161
  go_wp2_with fail
  revert hb0 p0 p1
  generalize w.alloc (.cells #[.int .i64 p, .int .i64 m] 189) = w0
  intro hb0 p0 p1
  refine (l1In_any p 0 15 _).mono ?_
  rintro e w0 ⟨r, rfl, hr, rfl⟩
  have HR : Hid (r = true ↔ (0 ≤ p ∧ p ≤ 15)) := hr
  clear hr
  cases r
  · have HN : Hid (¬ leafOK p m) := fun g => by have := HR.out.2 g.1; simp at this
    clear HR
    go_wp2
    go_ret
    exact ⟨false, rfl, iff_f HN.out, hb0⟩
  have H1 : Hid (0 ≤ p ∧ p ≤ 15) := HR.out.1 (by first | rfl | trivial)
  clear HR
  go_wp2_with fail
  refine (l1In_any m 0 3 _).mono ?_
  rintro e w0 ⟨r, rfl, hr, rfl⟩
  have HR : Hid (r = true ↔ (0 ≤ m ∧ m ≤ 3)) := hr
  clear hr
  cases r
  · have HN : Hid (¬ leafOK p m) := fun g => by have := HR.out.2 g.2.1; simp at this
    clear HR
    go_wp2
    go_ret
    exact ⟨false, rfl, iff_f HN.out, hb0⟩
  have H2 : Hid (0 ≤ m ∧ m ≤ 3) := HR.out.1 (by first | rfl | trivial)
  clear HR
  by_cases hm : 0 < m
  · have OK : Hid (leafOK p m) := ⟨H1.out, H2.out, Or.inl hm⟩
    have d1 : decide (m > 0) = true := by simp; omega
    clear hm
    go_wp2
    go_ret
    exact ⟨true, rfl, iff_t OK.out, hb0⟩
  · have d1 : decide (m > 0) = false := by simp; omega
    by_cases hp : p = 0
    · have OK : Hid (leafOK p m) := ⟨H1.out, H2.out, Or.inr hp⟩
      have d2 : (p == 0) = true := by simp [hp]
      clear hm hp
      go_wp2
      go_ret
      exact ⟨true, rfl, iff_t OK.out, hb0⟩
    · have HN : Hid (¬ leafOK p m) := fun g => g.2.2.elim hm hp
      have d2 : (p == 0) = false := by simp [hp]
      clear hm hp
      go_wp2
      go_ret
      exact ⟨false, rfl, iff_f HN.out, hb0⟩
def noMay (g : Nat → Int) (n : Nat) : Prop := ∀ j, j < n → ¬ 0 < g j
set_option maxHeartbeats 1600000 in
theorem l6Empty_any (ao : Option Addr) (c0 n : Nat) (f g : Nat → Int) (Y : Nat → Prop) (w : World) (h : UndosAt Y w ao n f g) :
    Calls Try.prog 163 #[.slice ao n c0] w fun e w' => ∃ r, e = .returned (.bool r) ∧ (r = true ↔ noMay g n) ∧ Blw w w' := by
  have hn := h.1
  have H : Hid (UndosAt Y w ao n f g) := h
  clear h
  go_enter Try.func163, Try.ntmps163
  go_wp2_with fail
  go_loopw [7] (fun i wr => ∃ j : Nat, j ≤ n ∧ i = .int .i64 j ∧ noMay g j ∧ Blw w wr) (fun i _ => n - (intOf i).toNat)
  case atStart => exact ⟨0, Nat.zero_le _, rfl, fun t ht => absurd ht (Nat.not_lt_zero _), Blw.refl _⟩
  case round =>
    obtain ⟨j, hj, rfl, hok, hb⟩ := hrel
    have HO : Hid (noMay g j) := hok
    have HB : Hid (Blw w wr) := hb
    clear hok hb
    by_cases hlt : j < n
    · obtain ⟨b, o, e, -, q0, q1⟩ := (H.out.blw HB.out).2 j hlt
      subst e
      have hbn : Blw wr (wr.alloc (.cells #[.int .i64 (f j), .int .i64 (g j)] 189)) := (Blw.refl _).alloc _
      obtain ⟨s0, s1⟩ := get2 (box2 wr (.int .i64 (f j)) (.int .i64 (g j)) 189)
      have HBN : Hid (Blw w (wr.alloc (.cells #[.int .i64 (f j), .int .i64 (g j)] 189))) := HB.out.trans hbn
      clear hbn
      by_cases hg : 0 < g j
      · have HN : Hid (¬ noMay g n) := fun q => q j hlt hg
        have d1 : decide (g j > 0) = true := by simp; omega
        clear hg HO
        go_wp2
        exact bodyPost_ret (v := .bool false) (by simp [results, Try.results163, go_sem]) rfl (by first | exact ⟨false, rfl, iff_f HN.out, HBN.out⟩ | exact Or.inl ⟨rfl, HN.out, HBN.out⟩)
      · have d1 : decide (g j > 0) = false := by simp; omega
        have HN : Hid (noMay g (j + 1)) := fun t ht => by
          by_cases e : t = j
          · subst e; exact hg
          · exact HO.out t (by omega)
        clear hg HO
        go_wp2
        go_roundw
        case rel => exact ⟨j + 1, by omega, by go_num, HN.out, HBN.out⟩
        case measure => simp [intOf]; omega
    · obtain rfl : j = n := by omega
      go_wp2
      exact bodyPost_ret (v := .bool true) (by simp [results, Try.results163, go_sem]) rfl (by first | exact ⟨true, rfl, iff_t HO.out, HB.out⟩ | exact Or.inr ⟨rfl, HO.out, HB.out⟩)
def snoc' (k : Nat) (f : Nat → Int) (x : Int) : Nat → Int := fun i => if i = k then x else f i
theorem pushI {X : Nat → Prop} {W : World} {v : Value} {n : Nat} {f : Nat → Int} (h : BufI X W v n f) (hn : n ≤ 1048576) (x : Int) :
    ∃ ao' cap w', (Builtin.append_ #[26, 26] 26 #[v, .slice (some ⟨W.heap.size, 0, none⟩) 1 1]).run Try.prog (W.alloc (.cells #[.int .i64 x] 3)) = .ok (.slice ao' (n + 1) cap) w' ∧ BufI (fun b => (X b ∨ W.heap.size < b) ∧ b < w'.heap.size) w' (.slice ao' (n + 1) cap) (n + 1) (snoc' n f x) ∧ Mod (fun b => v.ownBlock = some b) W w' := by
  obtain ⟨a, cap, w', h1, h2, h3⟩ := BufI.append (Buf.blw h ((Blw.refl _).alloc _)) 1 (one_ints W x) (by omega) 26
  refine ⟨a, cap, w', h1, (Buf.congr h2 (fun i hi => ?_)).mono (fun b hb => ?_), (((Blw.refl W).alloc _).mod _).trans h3⟩
  · by_cases e : i < n
    · have e2 : i ≠ n := by omega
      simp [ic, icat, e, e2, snoc']
    · have e2 : i = n := by omega
      simp [ic, icat, e2, snoc']
  · exact ⟨hb.1.imp id (fun e => by rw [World.size_alloc] at e; omega), hb.2⟩
/-- A list of numbers that grows behind w. -/
structure Gr (w wr : World) (v : Value) (n : Nat) (f : Nat → Int) : Prop where
  buf : BufI (fun x => w.heap.size ≤ x ∧ x < wr.heap.size) wr v n f
  blw : Blw w wr
theorem Gr.go {w wr w' : World} {v : Value} {n : Nat} {f : Nat → Int} (h : Gr w wr v n f) (hb : Blw wr w') : Gr w w' v n f :=
  ⟨(Buf.blw h.buf hb).mono (fun x hx => ⟨hx.1, Nat.lt_of_lt_of_le hx.2 hb.size⟩), h.blw.trans hb⟩
theorem Gr.push {w wr : World} {v : Value} {n : Nat} {f : Nat → Int} (h : Gr w wr v n f) (hn : n ≤ 1048576) (x : Int) :
    ∃ ao' cap w', (Builtin.append_ #[26, 26] 26 #[v, .slice (some ⟨wr.heap.size, 0, none⟩) 1 1]).run Try.prog (wr.alloc (.cells #[.int .i64 x] 3)) = .ok (.slice ao' (n + 1) cap) w' ∧ Gr w w' (.slice ao' (n + 1) cap) (n + 1) (snoc' n f x) := by
  obtain ⟨a, cap, w', h1, h2, h3⟩ := pushI h.buf hn x
  have hs := h.blw.size
  have hx : ∀ b, v.ownBlock = some b → w.heap.size ≤ b := fun b hb => (h.buf.2 b hb).1
  refine ⟨a, cap, w', h1, ⟨Buf.mono h2 (fun b hb => ⟨?_, hb.2⟩), Mod.blw h.blw h3 (fun b hb => hx b hb)⟩⟩
  rcases hb.1 with h | h
  · exact h.1
  · omega
theorem Gr.at {w wr : World} {v : Value} {n : Nat} {f : Nat → Int} (h : Gr w wr v n f) (hn : n ≤ 1048576) : ∃ ao cap, v = .slice ao n cap ∧ IntsAt (fun x => w.heap.size ≤ x ∧ x < wr.heap.size) wr ao n f := by
  obtain ⟨ao, cap, e, ho⟩ := BufI.own h.buf (by omega)
  exact ⟨ao, cap, e, ho.at⟩
theorem Gr.congr {w wr : World} {v : Value} {n : Nat} {f g : Nat → Int} (h : Gr w wr v n f) (e : ∀ i, i < n → f i = g i) : Gr w wr v n g := ⟨Buf.congr h.buf (fun i hi => by simp only [ic]; rw [e i (by omega)]), h.blw⟩
def listOK (D : PD) (i : Nat) : Prop := D.len i = 4 ∧ ∀ j, j < 4 → leafOK (D.p i j) (D.m i j)
def topOK (B : BD) (i : Nat) : Prop := (-1 ≤ B.c i ∧ B.c i ≤ (B.D.n : Int) - 1) ∧ (0 ≤ B.c i → ¬ hasLine i B.c (B.c i))
def idleOK (B : BD) (k : Nat) : Prop := ¬ hasLine B.n B.c (k : Int) → ∀ j, j < B.D.len k → ¬ 0 < B.D.m k j
theorem good_parts {B : BD} : B.Good ↔ (∀ i, i < B.D.n → listOK B.D i) ∧ (∀ i, i < B.n → topOK B i) ∧ (∀ k, k < B.D.n → idleOK B k) ∧ B.n = 4 ∧ 1 ≤ B.D.n ∧ B.D.n ≤ 4 := by
  constructor
  · intro g
    refine ⟨g.leaf, fun i hi => ⟨g.top i hi, fun h0 ⟨t, ht, e⟩ => g.dis i t hi ht h0 e⟩, fun k hk hn j hj => ?_, g.n, g.k.1, g.k.2⟩
    exact g.idle k hk (fun i hi e => hn ⟨i, hi, e⟩) j (by rw [(g.leaf k hk).1] at hj; exact hj)
  · rintro ⟨h1, h2, h3, h4, h5, h6⟩
    refine ⟨h4, ⟨h5, h6⟩, h1, fun i hi => (h2 i hi).1, fun i j hi hj h0 e => (h2 i hi).2 h0 ⟨j, hj, e⟩, fun k hk hn j hj => ?_⟩
    exact h3 k hk (fun ⟨t, ht, e⟩ => hn t ht e) j (by rw [(h1 k hk).1]; exact hj)
set_option maxRecDepth 10000 in
set_option maxHeartbeats 6400000 in
theorem specGood_any (b : BV) (B : BD) (Y : Nat → Prop) (w : World) (hn : B.n ≤ 1048576) (h : BookAt Y w b B) :
    Calls Try.prog 98 #[b.val B] w fun e w' => ∃ r, e = .returned (.bool r) ∧ (r = true ↔ B.Good) ∧ Blw w w' := by
  have HG : Hid (B.Good ↔ (∀ i, i < B.D.n → listOK B.D i) ∧ (∀ i, i < B.n → topOK B i) ∧ (∀ k, k < B.D.n → idleOK B k) ∧ B.n = 4 ∧ 1 ≤ B.D.n ∧ B.D.n ≤ 4) := good_parts
  obtain ⟨n, c, ⟨kn, len, p, m⟩⟩ := B
  obtain ⟨a1, a2, q1, q2⟩ := b
  simp only [BV.val] at *
  have hb0 : Blw w (w.alloc (.cells #[.slice a1 n q1, .slice a2 kn q2] 29)) := (Blw.refl _).alloc _
  have HC : Hid (IntsAt Y (w.alloc (.cells #[.slice a1 n q1, .slice a2 kn q2] 29)) a1 n c) := h.c.blw hb0
  have HL : Hid (PSAt Y (w.alloc (.cells #[.slice a1 n q1, .slice a2 kn q2] 29)) a2 ⟨kn, len, p, m⟩) := h.l.blw hb0
  have r0 := box2 w (.slice a1 n q1) (.slice a2 kn q2) 29
  have hkn := h.l.1
  dsimp only at hkn
  clear h
  obtain ⟨p0, p1⟩ := get2 r0
  go_enter Try.func98, Try.ntmps98
  go_wp2_with fail
  clear p0 p1
  revert hb0 HC HL r0
  generalize w.alloc (.cells #[.slice a1 n q1, .slice a2 kn q2] 29) = w0
  intro hb0 HC HL r0
  have HR0 : Hid (Row w0 w.heap.size 2 (fun i => if i = 0 then .slice a1 n q1 else .slice a2 kn q2)) := r0
  have HB0 : Hid (Blw w w0) := hb0
  clear r0 hb0
  go_loopw [15] (fun i wr => ∃ j : Nat, j ≤ kn ∧ i = .int .i64 j ∧ (∀ i, i < j → listOK ⟨kn, len, p, m⟩ i) ∧ Blw w0 wr) (fun i _ => kn - (intOf i).toNat)
  case atStart => exact ⟨0, Nat.zero_le _, rfl, fun t ht => absurd ht (Nat.not_lt_zero _), Blw.refl _⟩
  case round =>
    obtain ⟨j, hj, rfl, hok, hb⟩ := hrel
    have HO : Hid (∀ i, i < j → listOK ⟨kn, len, p, m⟩ i) := hok
    have HB : Hid (Blw w0 wr) := hb
    clear hok hb
    by_cases hlt : j < kn
    · obtain ⟨bb, oo, aa, cc, ea, -, g1, g2⟩ := (HL.out.blw HB.out).2 j hlt
      dsimp only at g1 g2
      have G2 : Hid (UndosAt Y wr aa (len j) (p j) (m j)) := g2
      clear g2
      subst ea
      by_cases hl4 : len j = 4
      case neg =>
        have HN : Hid (¬ BD.Good ⟨n, c, ⟨kn, len, p, m⟩⟩) := fun g => hl4 ((HG.out.1 g).1 j hlt).1
        have d1 : ((len j : Int) != 4) = true := by simp; omega
        clear hl4 HO
        go_wp2
        go_ret
        exact ⟨false, rfl, iff_f HN.out, HB0.out.trans HB.out⟩
      rw [hl4] at g1
      replace G2 : Hid (UndosAt Y wr aa 4 (p j) (m j)) := by have := G2.out; rw [hl4] at this; exact this
      have HL4 : Hid (len j = 4) := hl4
      clear hl4
      go_wp2_with fail
      clear g1
      go_loopw [24] (fun i wq => ∃ t : Nat, t ≤ 4 ∧ i = .int .i64 t ∧ (∀ s, s < t → leafOK (p j s) (m j s)) ∧ Blw wr wq) (fun i _ => 4 - (intOf i).toNat)
      case atStart => exact ⟨0, Nat.zero_le _, rfl, fun t ht => absurd ht (Nat.not_lt_zero _), Blw.refl _⟩
      case round =>
        obtain ⟨t, ht, rfl, hok2, hb2⟩ := hrel
        have HO2 : Hid (∀ s, s < t → leafOK (p j s) (m j s)) := hok2
        have HB2 : Hid (Blw w0 wr) := HB.out.trans hb2
        have HBQ : Hid (Blw _ wr) := hb2
        clear hok2 hb2
        by_cases ht4 : t < 4
        · have ht4' : (t : Int) < 4 := by omega
          obtain ⟨b3, o3, e3, -, q0, q1⟩ := (G2.out.blw HBQ.out).2 t ht4
          subst e3
          obtain ⟨s0, s1⟩ := get2 (box2 wr (.int .i64 (p j t)) (.int .i64 (m j t)) 189)
          have hA : Blw wr (wr.alloc (.cells #[.int .i64 (p j t), .int .i64 (m j t)] 189)) := (Blw.refl _).alloc _
          go_wp2_with fail
          clear q0 q1 s0 s1
          refine (l6Leaf_any (p j t) (m j t) _).mono ?_
          rintro e w1 ⟨r, rfl, hr, hb1⟩
          have HRR : Hid (r = true ↔ leafOK (p j t) (m j t)) := hr
          replace HB2 : Hid (Blw w0 w1) := (HB2.out.trans hA).trans hb1
          replace HBQ : Hid (Blw _ w1) := (HBQ.out.trans hA).trans hb1
          clear hr hA hb1
          cases r
          · have HN : Hid (¬ BD.Good ⟨n, c, ⟨kn, len, p, m⟩⟩) := fun g => by have := HRR.out.2 (((HG.out.1 g).1 j hlt).2 t ht4); simp at this
            clear HRR HO HO2
            go_wp2
            go_ret
            exact ⟨false, rfl, iff_f HN.out, HB0.out.trans HB2.out⟩
          · have HN : Hid (∀ s, s < t + 1 → leafOK (p j s) (m j s)) := fun s hs => by
              by_cases e : s = t
              · subst e; exact HRR.out.1 (by first | rfl | trivial)
              · exact HO2.out s (by omega)
            clear HRR HO2
            go_wp2
            go_roundw
            case rel => exact ⟨t + 1, by omega, by go_num, HN.out, HBQ.out⟩
            case measure => simp [intOf]; omega
        · obtain rfl : t = 4 := by omega
          have HN : Hid (∀ i, i < j + 1 → listOK ⟨kn, len, p, m⟩ i) := fun i hi => by
            by_cases e : i = j
            · subst e; exact ⟨HL4.out, HO2.out⟩
            · exact HO.out i (by omega)
          clear HO HO2 ht4
          go_wp2
          go_roundw
          case rel => exact ⟨j + 1, by omega, by go_num, HN.out, HB2.out⟩
          case measure => simp [intOf]; omega
    · obtain rfl : j = kn := by omega
      obtain ⟨p0, p1⟩ := get2 (HR0.out.blw HB.out)
      go_wp2_with fail
      clear p0 p1
      have HL1 : Hid (∀ i, i < j → listOK ⟨j, len, p, m⟩ i) := HO.out
      have HBL : Hid (Blw w wr) := HB0.out.trans HB.out
      replace HC : Hid (IntsAt Y wr a1 n c) := HC.out.blw HB.out
      replace HL : Hid (PSAt Y wr a2 ⟨j, len, p, m⟩) := HL.out.blw HB.out
      replace HR0 : Hid (Row wr w.heap.size 2 (fun i => if i = 0 then .slice a1 n q1 else .slice a2 j q2)) := HR0.out.blw HB.out
      clear HO HB hlt HB0
      generalize wr = wL at *
      go_loopw [7, 36] (fun v i wq => ∃ t : Nat, t ≤ n ∧ i = .int .i64 t ∧ (∀ i, i < t → topOK ⟨n, c, ⟨j, len, p, m⟩⟩ i) ∧ Gr wL wq v t c) (fun _ i _ => n - (intOf i).toNat)
      case atStart => exact ⟨0, Nat.zero_le _, rfl, fun t ht => absurd ht (Nat.not_lt_zero _), ⟨Buf.nil _ _ _ _ _, Blw.refl _⟩⟩
      case round =>
        obtain ⟨t, ht, rfl, hok, hgr⟩ := hrel
        have HO : Hid (∀ i, i < t → topOK ⟨n, c, ⟨j, len, p, m⟩⟩ i) := hok
        have HGr : Hid (Gr wL wr u7 t c) := hgr
        clear hok hgr
        obtain ⟨ua, uc', rfl, hua⟩ := HGr.out.at (by omega)
        have HUA : Hid (IntsAt _ wr ua t c) := hua
        clear hua
        by_cases hlt : t < n
        · obtain ⟨bb, oo, ea, -, g1⟩ := (HC.out.blw HGr.out.blw).2 t hlt
          subst ea
          have hlt' : (t : Int) < n := by omega
          obtain ⟨p0, p1⟩ := get2 (HR0.out.blw HGr.out.blw)
          go_wp2_with fail
          clear p0 p1 g1
          refine (l1In_any (c t) (-1) ((j : Int) - 1) _).mono ?_
          rintro e wr ⟨r, rfl, hr, rfl⟩
          have HRR : Hid (r = true ↔ (-1 ≤ c t ∧ c t ≤ (j : Int) - 1)) := hr
          clear hr
          cases r
          · have HN : Hid (¬ BD.Good ⟨n, c, ⟨j, len, p, m⟩⟩) := fun g => by have := HRR.out.2 ((HG.out.1 g).2.1 t hlt).1; simp at this
            have HBF : Hid (Blw w wr) := HBL.out.trans HGr.out.blw
            clear HRR HO HGr HUA
            go_wp2
            go_ret
            exact ⟨false, rfl, iff_f HN.out, HBF.out⟩
          have H1 : Hid (-1 ≤ c t ∧ c t ≤ (j : Int) - 1) := HRR.out.1 (by first | rfl | trivial)
          clear HRR
          by_cases h0 : 0 ≤ c t
          · have d0 : decide (c t ≥ 0) = true := by simp; omega
            have H0 : Hid (0 ≤ c t) := h0
            clear h0
            go_wp2_with fail
            refine (l1Has_any ua uc' t c _ _ (c t) HUA.out).mono ?_
            rintro e wr ⟨r, rfl, hr, rfl⟩
            have HRR : Hid (r = true ↔ hasLine t c (c t)) := hr
            clear hr
            cases r
            · have HN1 : Hid (topOK ⟨n, c, ⟨j, len, p, m⟩⟩ t) := ⟨H1.out, fun _ q => by have := HRR.out.2 q; simp at this⟩
              clear HRR
              have HTN : Hid (∀ i, i < t + 1 → topOK ⟨n, c, ⟨j, len, p, m⟩⟩ i) := fun i hi => by
                by_cases e : i = t
                · subst e; exact HN1.out
                · exact HO.out i (by omega)
              obtain ⟨ao, cap, w2, hrun, hG2⟩ := HGr.out.push (by omega) (c t)
              have HRN : Hid _ := hrun
              have HN : Hid (Gr wL w2 (.slice ao (t + 1) cap) (t + 1) c) := hG2.congr (fun i hi => by unfold snoc'; by_cases e : i = t; (rw [if_pos e, e]); (rw [if_neg e]))
              clear hrun hG2 HGr HUA HO HN1
              go_wp2_with (first | (at_builtin; refine wpList_app (.tmp 56) (.tmp 58) 26 (by rfl) ?_; refine ⟨_, _, HRN.out, ?_⟩) | fail)
              go_roundw
              case rel => exact ⟨t + 1, by omega, by go_num, HTN.out, HN.out⟩
              case measure => simp [intOf]; omega
            · have HN : Hid (¬ BD.Good ⟨n, c, ⟨j, len, p, m⟩⟩) := fun g => ((HG.out.1 g).2.1 t hlt).2 H0.out (HRR.out.1 (by first | rfl | trivial))
              have HBF : Hid (Blw w wr) := HBL.out.trans HGr.out.blw
              clear HRR HO HGr HUA
              go_wp2
              go_ret
              exact ⟨false, rfl, iff_f HN.out, HBF.out⟩
          · have d0 : decide (c t ≥ 0) = false := by simp; omega
            have HN1 : Hid (topOK ⟨n, c, ⟨j, len, p, m⟩⟩ t) := ⟨H1.out, fun q => absurd q h0⟩
            clear h0
            have HTN : Hid (∀ i, i < t + 1 → topOK ⟨n, c, ⟨j, len, p, m⟩⟩ i) := fun i hi => by
              by_cases e : i = t
              · subst e; exact HN1.out
              · exact HO.out i (by omega)
            obtain ⟨ao, cap, w2, hrun, hG2⟩ := HGr.out.push (by omega) (c t)
            have HRN : Hid _ := hrun
            have HN : Hid (Gr wL w2 (.slice ao (t + 1) cap) (t + 1) c) := hG2.congr (fun i hi => by unfold snoc'; by_cases e : i = t; (rw [if_pos e, e]); (rw [if_neg e]))
            clear hrun hG2 HGr HUA HO HN1
            go_wp2_with (first | (at_builtin; refine wpList_app (.tmp 56) (.tmp 58) 26 (by rfl) ?_; refine ⟨_, _, HRN.out, ?_⟩) | fail)
            go_roundw
            case rel => exact ⟨t + 1, by omega, by go_num, HTN.out, HN.out⟩
            case measure => simp [intOf]; omega
        · obtain rfl : t = n := by omega
          have HT : Hid (∀ i, i < t → topOK ⟨t, c, ⟨j, len, p, m⟩⟩ i) := HO.out
          obtain ⟨p0, p1⟩ := get2 (HR0.out.blw HGr.out.blw)
          go_wp2_with fail
          clear p0 p1
          replace HL : Hid (PSAt Y wr a2 ⟨j, len, p, m⟩) := HL.out.blw HGr.out.blw
          replace HR0 : Hid (Row wr w.heap.size 2 (fun i => if i = 0 then .slice a1 t q1 else .slice a2 j q2)) := HR0.out.blw HGr.out.blw
          replace HBL : Hid (Blw w wr) := HBL.out.trans HGr.out.blw
          clear HO HGr HC hlt
          generalize wr = wM at *
          go_loopw [64] (fun i wq => ∃ s : Nat, s ≤ j ∧ i = .int .i64 s ∧ (∀ i, i < s → idleOK ⟨t, c, ⟨j, len, p, m⟩⟩ i) ∧ Blw wM wq) (fun i _ => j - (intOf i).toNat)
          case atStart => exact ⟨0, Nat.zero_le _, rfl, fun t ht => absurd ht (Nat.not_lt_zero _), Blw.refl _⟩
          case round =>
            obtain ⟨s, hs, rfl, hok, hb⟩ := hrel
            have HO : Hid (∀ i, i < s → idleOK ⟨t, c, ⟨j, len, p, m⟩⟩ i) := hok
            have HB : Hid (Blw wM wr) := hb
            clear hok hb
            by_cases hlt : s < j
            · obtain ⟨bb, oo, aa, cc, ea, -, g1, g2⟩ := (HL.out.blw HB.out).2 s hlt
              dsimp only at g1 g2
              subst ea
              have G2 : Hid (UndosAt Y wr aa (len s) (p s) (m s)) := g2
              clear g2
              go_wp2_with fail
              clear g1
              refine (l1Has_any ua uc' t c _ _ (s : Int) (HUA.out.blw HB.out)).mono ?_
              rintro e wr ⟨r, rfl, hr, rfl⟩
              have HRR : Hid (r = true ↔ hasLine t c (s : Int)) := hr
              clear hr
              cases r
              · have HNH : Hid (¬ hasLine t c (s : Int)) := fun q => by have := HRR.out.2 q; simp at this
                clear HRR
                go_wp2_with fail
                refine (l6Empty_any aa cc (len s) (p s) (m s) Y _ G2.out).mono ?_
                rintro e w2 ⟨r, rfl, hr, hb2⟩
                have HRR : Hid (r = true ↔ noMay (m s) (len s)) := hr
                replace HB : Hid (Blw wM w2) := HB.out.trans hb2
                clear hr hb2 G2
                cases r
                · have HN : Hid (¬ BD.Good ⟨t, c, ⟨j, len, p, m⟩⟩) := fun g => by have := HRR.out.2 ((HG.out.1 g).2.2.1 s hlt HNH.out); simp at this
                  clear HRR HO
                  go_wp2
                  go_ret
                  exact ⟨false, rfl, iff_f HN.out, HBL.out.trans HB.out⟩
                · have HN : Hid (∀ i, i < s + 1 → idleOK ⟨t, c, ⟨j, len, p, m⟩⟩ i) := fun i hi => by
                    by_cases e : i = s
                    · subst e; exact fun _ => HRR.out.1 (by first | rfl | trivial)
                    · exact HO.out i (by omega)
                  clear HRR HO HNH
                  go_wp2
                  go_roundw
                  case rel => exact ⟨s + 1, by omega, by go_num, HN.out, HB.out⟩
                  case measure => simp [intOf]; omega
              · have HN : Hid (∀ i, i < s + 1 → idleOK ⟨t, c, ⟨j, len, p, m⟩⟩ i) := fun i hi => by
                  by_cases e : i = s
                  · subst e; exact fun q => absurd (HRR.out.1 (by first | rfl | trivial)) q
                  · exact HO.out i (by omega)
                clear HRR HO G2
                go_wp2
                go_roundw
                case rel => exact ⟨s + 1, by omega, by go_num, HN.out, HB.out⟩
                case measure => simp [intOf]; omega
            · obtain rfl : s = j := by omega
              obtain ⟨p0, p1⟩ := get2 (HR0.out.blw HB.out)
              have HI : Hid (∀ i, i < s → idleOK ⟨t, c, ⟨s, len, p, m⟩⟩ i) := HO.out
              have HBF : Hid (Blw w wr) := HBL.out.trans HB.out
              clear HO HB hlt HUA HL
              by_cases h4 : t = 4
              case neg =>
                have HN : Hid (¬ BD.Good ⟨t, c, ⟨s, len, p, m⟩⟩) := fun g => h4 g.n
                have d4 : ((t : Int) == 4) = false := by simp; omega
                clear h4
                go_wp2
                go_ret
                exact ⟨false, rfl, iff_f HN.out, HBF.out⟩
              have d4 : ((t : Int) == 4) = true := by simp; omega
              have H4 : Hid (t = 4) := h4
              clear h4
              go_wp2_with fail
              refine (l1In_any (s : Int) 1 4 _).mono ?_
              rintro e wr ⟨r, rfl, hr, rfl⟩
              have HRR : Hid (r = true ↔ (1 ≤ (s : Int) ∧ (s : Int) ≤ 4)) := hr
              clear hr p0 p1
              have HFI : Hid (r = true ↔ BD.Good ⟨t, c, ⟨s, len, p, m⟩⟩) := HRR.out.trans ⟨fun q => HG.out.2 ⟨HL1.out, HT.out, HI.out, H4.out, by show 1 ≤ s; omega, by show s ≤ 4; omega⟩, fun g => ⟨by have := g.k.1; dsimp only at this; omega, by have := g.k.2; dsimp only at this; omega⟩⟩
              clear HRR d4
              go_wp2
              go_ret
              exact ⟨r, rfl, HFI.out, HBF.out⟩
end Go.Proofs.Ytbpdopcdhnemfaa
/- The program's leaves and lists of leaves. -/
namespace Go.Proofs.Ytbpdopcdhnemfaa
open Go.RowKit
set_option linter.unusedSimpArgs false
set_option linter.unusedVariables false
def mayOK (n : Int) : Prop := 1 ≤ n ∧ n ≤ 3
instance (n : Int) : Decidable (mayOK n) := by unfold mayOK; exact inferInstance
def pgOK (n : Int) : Prop := 0 ≤ n ∧ n ≤ 15
instance (n : Int) : Decidable (pgOK n) := by unfold pgOK; exact inferInstance
def cntOK (n : Int) : Prop := 1 ≤ n ∧ n ≤ 4
instance (n : Int) : Decidable (cntOK n) := by unfold cntOK; exact inferInstance
set_option maxHeartbeats 400000 in
theorem isMay_yes (n : Int) (w : World) (h : mayOK n) : Calls Try.prog 104 #[.int .i64 n] w fun e w' => e = .returned (.bool true) ∧ w' = w := by
  obtain ⟨h1, h2⟩ := h
  skip
  go_enter Try.func104, Try.ntmps104
  go_wp2
  go_ret
  exact ⟨rfl, rfl⟩
set_option maxHeartbeats 400000 in
theorem isMay_no (n : Int) (w : World) (h : ¬ mayOK n) : Calls Try.prog 104 #[.int .i64 n] w fun e w' => e = .returned (.bool false) ∧ w' = w := by
  by_cases h1 : 1 ≤ n
  · have h2 : ¬ n ≤ 3 := fun h3 => h ⟨h1, by omega⟩
    clear h
    go_enter Try.func104, Try.ntmps104
    go_wp2
    go_ret
    exact ⟨rfl, rfl⟩
  · clear h
    have hd : decide (n ≥ 1) = false := by simpa using h1
    go_enter Try.func104, Try.ntmps104
    go_wp2
    go_ret
    exact ⟨rfl, rfl⟩
theorem isMay_any (n : Int) (w : World) : Calls Try.prog 104 #[.int .i64 n] w fun e w' => ∃ r, e = .returned (.bool r) ∧ (r = true ↔ mayOK n) ∧ w' = w := by
  by_cases h : mayOK n
  · exact (isMay_yes n w h).mono fun e w' ⟨h1, h2⟩ => ⟨true, h1, ⟨fun _ => h, fun _ => rfl⟩, h2⟩
  · exact (isMay_no n w h).mono fun e w' ⟨h1, h2⟩ => ⟨false, h1, iff_f h, h2⟩
set_option maxHeartbeats 400000 in
theorem isPage_yes (n : Int) (w : World) (h : pgOK n) : Calls Try.prog 160 #[.int .i64 n] w fun e w' => e = .returned (.bool true) ∧ w' = w := by
  obtain ⟨h1, h2⟩ := h
  have h2 : n < 16 := by omega
  go_enter Try.func160, Try.ntmps160
  go_wp2
  go_ret
  exact ⟨rfl, rfl⟩
set_option maxHeartbeats 400000 in
theorem isPage_no (n : Int) (w : World) (h : ¬ pgOK n) : Calls Try.prog 160 #[.int .i64 n] w fun e w' => e = .returned (.bool false) ∧ w' = w := by
  by_cases h1 : 0 ≤ n
  · have h2 : ¬ n < 16 := fun h3 => h ⟨h1, by omega⟩
    clear h
    go_enter Try.func160, Try.ntmps160
    go_wp2
    go_ret
    exact ⟨rfl, rfl⟩
  · clear h
    have hd : decide (n ≥ 0) = false := by simpa using h1
    go_enter Try.func160, Try.ntmps160
    go_wp2
    go_ret
    exact ⟨rfl, rfl⟩
theorem isPage_any (n : Int) (w : World) : Calls Try.prog 160 #[.int .i64 n] w fun e w' => ∃ r, e = .returned (.bool r) ∧ (r = true ↔ pgOK n) ∧ w' = w := by
  by_cases h : pgOK n
  · exact (isPage_yes n w h).mono fun e w' ⟨h1, h2⟩ => ⟨true, h1, ⟨fun _ => h, fun _ => rfl⟩, h2⟩
  · exact (isPage_no n w h).mono fun e w' ⟨h1, h2⟩ => ⟨false, h1, iff_f h, h2⟩
set_option maxHeartbeats 400000 in
theorem isCnt_yes (n : Int) (w : World) (h : cntOK n) : Calls Try.prog 166 #[.int .i64 n] w fun e w' => e = .returned (.bool true) ∧ w' = w := by
  obtain ⟨h1, h2⟩ := h
  skip
  go_enter Try.func166, Try.ntmps166
  go_wp2
  go_ret
  exact ⟨rfl, rfl⟩
set_option maxHeartbeats 400000 in
theorem isCnt_no (n : Int) (w : World) (h : ¬ cntOK n) : Calls Try.prog 166 #[.int .i64 n] w fun e w' => e = .returned (.bool false) ∧ w' = w := by
  by_cases h1 : 1 ≤ n
  · have h2 : ¬ n ≤ 4 := fun h3 => h ⟨h1, by omega⟩
    clear h
    go_enter Try.func166, Try.ntmps166
    go_wp2
    go_ret
    exact ⟨rfl, rfl⟩
  · clear h
    have hd : decide (n ≥ 1) = false := by simpa using h1
    go_enter Try.func166, Try.ntmps166
    go_wp2
    go_ret
    exact ⟨rfl, rfl⟩
theorem isCnt_any (n : Int) (w : World) : Calls Try.prog 166 #[.int .i64 n] w fun e w' => ∃ r, e = .returned (.bool r) ∧ (r = true ↔ cntOK n) ∧ w' = w := by
  by_cases h : cntOK n
  · exact (isCnt_yes n w h).mono fun e w' ⟨h1, h2⟩ => ⟨true, h1, ⟨fun _ => h, fun _ => rfl⟩, h2⟩
  · exact (isCnt_no n w h).mono fun e w' ⟨h1, h2⟩ => ⟨false, h1, iff_f h, h2⟩
set_option maxHeartbeats 400000 in
theorem isPlace_yes (n : Int) (w : World) (h : pgOK n) : Calls Try.prog 101 #[.int .i64 n] w fun e w' => e = .returned (.bool true) ∧ w' = w := by
  obtain ⟨h1, h2⟩ := h
  have h2 : n < 16 := by omega
  go_enter Try.func101, Try.ntmps101
  go_wp2
  go_ret
  exact ⟨rfl, rfl⟩
set_option maxHeartbeats 400000 in
theorem isPlace_no (n : Int) (w : World) (h : ¬ pgOK n) : Calls Try.prog 101 #[.int .i64 n] w fun e w' => e = .returned (.bool false) ∧ w' = w := by
  by_cases h1 : 0 ≤ n
  · have h2 : ¬ n < 16 := fun h3 => h ⟨h1, by omega⟩
    clear h
    go_enter Try.func101, Try.ntmps101
    go_wp2
    go_ret
    exact ⟨rfl, rfl⟩
  · clear h
    have hd : decide (n ≥ 0) = false := by simpa using h1
    go_enter Try.func101, Try.ntmps101
    go_wp2
    go_ret
    exact ⟨rfl, rfl⟩
theorem isPlace_any (n : Int) (w : World) : Calls Try.prog 101 #[.int .i64 n] w fun e w' => ∃ r, e = .returned (.bool r) ∧ (r = true ↔ pgOK n) ∧ w' = w := by
  by_cases h : pgOK n
  · exact (isPlace_yes n w h).mono fun e w' ⟨h1, h2⟩ => ⟨true, h1, ⟨fun _ => h, fun _ => rfl⟩, h2⟩
  · exact (isPlace_no n w h).mono fun e w' ⟨h1, h2⟩ => ⟨false, h1, iff_f h, h2⟩
theorem leaf_zero {p m : Int} (h : m = 0) : leafOK p m ↔ p = 0 := by unfold leafOK; omega
theorem leaf_some {p m : Int} (h : ¬ m = 0) : leafOK p m ↔ mayOK m ∧ pgOK p := by unfold leafOK mayOK pgOK; omega
set_option maxHeartbeats 1600000 in
theorem isLeaf_any (p m : Int) (w : World) : Calls Try.prog 195 #[.agg #[.int .i64 p, .int .i64 m]] w fun e w' => ∃ r, e = .returned (.bool r) ∧ (r = true ↔ leafOK p m) ∧ Blw w w' := by
  have hb0 : Blw w (w.alloc (.cells #[.int .i64 p, .int .i64 m] 189)) := (Blw.refl _).alloc _
  obtain ⟨p0, p1⟩ := get2 (box2 w (.int .i64 p) (.int .i64 m) 189)
  by_cases hm : m = 0
  · have HI : Hid (leafOK p m ↔ p = 0) := leaf_zero hm
    have d1 : (m == 0) = true := by simp [hm]
    clear hm
    by_cases hp : p = 0
    · have HO : Hid (leafOK p m) := HI.out.2 hp
      have d2 : (p == 0) = true := by simp [hp]
      clear hp HI
      go_enter Try.func195, Try.ntmps195
      go_wp2
      go_ret
      exact ⟨true, rfl, iff_t HO.out, hb0⟩
    · have HO : Hid (¬ leafOK p m) := fun g => hp (HI.out.1 g)
      have d2 : (p == 0) = false := by simp [hp]
      clear hp HI
      go_enter Try.func195, Try.ntmps195
      go_wp2
      go_ret
      exact ⟨false, rfl, iff_f HO.out, hb0⟩
  have HI : Hid (leafOK p m ↔ mayOK m ∧ pgOK p) := leaf_some hm
  have d1 : (m == 0) = false := by simp [hm]
  clear hm
  go_enter Try.func195, Try.ntmps195
  go_wp2_with fail
  revert hb0 p0 p1
  generalize w.alloc (.cells #[.int .i64 p, .int .i64 m] 189) = w0
  intro hb0 p0 p1
  refine (isMay_any m _).mono ?_
  rintro e w0 ⟨r, rfl, hr, rfl⟩
  have HR : Hid (r = true ↔ mayOK m) := hr
  clear hr
  cases r
  · have HN : Hid (¬ leafOK p m) := fun g => by have := HR.out.2 (HI.out.1 g).1; simp at this
    clear HR HI
    go_wp2
    go_ret
    exact ⟨false, rfl, iff_f HN.out, hb0⟩
  have H1 : Hid (mayOK m) := HR.out.1 (by first | rfl | trivial)
  clear HR
  go_wp2_with fail
  refine (isPage_any p _).mono ?_
  rintro e w0 ⟨r, rfl, hr, rfl⟩
  have HR : Hid (r = true ↔ leafOK p m) := hr.trans ⟨fun q => HI.out.2 ⟨H1.out, q⟩, fun g => (HI.out.1 g).2⟩
  clear hr HI
  go_wp2
  go_ret
  exact ⟨r, rfl, HR.out, hb0⟩
set_option maxHeartbeats 1600000 in
theorem notLeaf_any (p m : Int) (w : World) : Calls Try.prog 194 #[.agg #[.int .i64 p, .int .i64 m]] w fun e w' => ∃ r, e = .returned (.bool r) ∧ (r = true ↔ ¬ leafOK p m) ∧ Blw w w' := by
  have hb0 : Blw w (w.alloc (.cells #[.int .i64 p, .int .i64 m] 189)) := (Blw.refl _).alloc _
  obtain ⟨p0, p1⟩ := get2 (box2 w (.int .i64 p) (.int .i64 m) 189)
  go_enter Try.func194, Try.ntmps194
  go_wp2_with fail
  clear p0 p1
  refine (isLeaf_any p m _).mono ?_
  rintro e w1 ⟨r, rfl, hr, hb1⟩
  have HR : Hid (r = true ↔ leafOK p m) := hr
  replace hb0 := hb0.trans hb1
  clear hr hb1
  cases r
  · have HN : Hid (¬ leafOK p m) := fun g => by have := HR.out.2 g; simp at this
    clear HR
    go_wp2
    go_ret
    exact ⟨true, rfl, iff_t HN.out, hb0⟩
  · have HN : Hid (leafOK p m) := HR.out.1 (by first | rfl | trivial)
    clear HR
    go_wp2
    go_ret
    exact ⟨false, rfl, iff_f (fun q => q HN.out), hb0⟩
def allLeaf (f g : Nat → Int) (n : Nat) : Prop := ∀ j, j < n → leafOK (f j) (g j)
set_option maxRecDepth 10000 in
set_option maxHeartbeats 1600000 in
theorem indexLeaf_any (ao : Option Addr) (c0 n : Nat) (f g : Nat → Int) (Y : Nat → Prop) (w : World) (h : UndosAt Y w ao n f g) :
    Calls Try.prog 204 #[.slice ao n c0, .func (.func 194) #[] #[]] w fun e w' => ∃ r : Int, e = .returned (.int .i64 r) ∧ (0 ≤ r ↔ ¬ allLeaf f g n) ∧ Blw w w' := by
  have hn := h.1
  have H : Hid (UndosAt Y w ao n f g) := h
  clear h
  go_enter Try.func204, Try.ntmps204
  go_wp2_with fail
  go_loopw [8] (fun i wr => ∃ j : Nat, j ≤ n ∧ i = .int .i64 j ∧ allLeaf f g j ∧ Blw w wr) (fun i _ => n - (intOf i).toNat)
  case atStart => exact ⟨0, Nat.zero_le _, rfl, fun t ht => absurd ht (Nat.not_lt_zero _), Blw.refl _⟩
  case round =>
    obtain ⟨j, hj, rfl, hok, hb⟩ := hrel
    have HO : Hid (allLeaf f g j) := hok
    have HB : Hid (Blw w wr) := hb
    clear hok hb
    by_cases hlt : j < n
    · obtain ⟨b, o, e, -, q0, q1⟩ := (H.out.blw HB.out).2 j hlt
      subst e
      go_wp2_with fail
      clear q0 q1
      refine (notLeaf_any (f j) (g j) _).mono ?_
      rintro e w1 ⟨r, rfl, hr, hb1⟩
      have HR : Hid (r = true ↔ ¬ leafOK (f j) (g j)) := hr
      replace HB : Hid (Blw w w1) := HB.out.trans hb1
      clear hr hb1
      cases r
      · have HN : Hid (allLeaf f g (j + 1)) := fun t ht => by
          by_cases e : t = j
          · subst e; exact Classical.byContradiction fun q => by have := HR.out.2 q; simp at this
          · exact HO.out t (by omega)
        clear HR HO
        go_wp2
        go_roundw
        case rel => exact ⟨j + 1, by omega, by go_num, HN.out, HB.out⟩
        case measure => simp [intOf]; omega
      · have HN : Hid (0 ≤ (j : Int) ↔ ¬ allLeaf f g n) := ⟨fun _ q => HR.out.1 (by first | rfl | trivial) (q j hlt), fun _ => by omega⟩
        clear HR HO
        go_wp2
        exact bodyPost_ret (v := .int .i64 (j : Int)) (by simp [results, Try.results204, go_sem]) rfl ⟨_, rfl, HN.out, HB.out⟩
    · obtain rfl : j = n := by omega
      have HN : Hid (0 ≤ (-1 : Int) ↔ ¬ allLeaf f g j) := ⟨fun q => by omega, fun q => absurd HO.out q⟩
      clear HO
      go_wp2
      exact bodyPost_ret (v := .int .i64 (-1)) (by simp [results, Try.results204, go_sem]) rfl ⟨_, rfl, HN.out, HB.out⟩
set_option maxHeartbeats 800000 in
theorem anyBad_any (ao : Option Addr) (c0 n : Nat) (f g : Nat → Int) (Y : Nat → Prop) (w : World) (h : UndosAt Y w ao n f g) :
    Calls Try.prog 193 #[.slice ao n c0, .func (.func 194) #[] #[]] w fun e w' => ∃ r, e = .returned (.bool r) ∧ (r = true ↔ ¬ allLeaf f g n) ∧ Blw w w' := by
  go_enter Try.func193, Try.ntmps193
  go_wp2_with fail
  refine (indexLeaf_any ao c0 n f g Y _ h).mono ?_
  rintro e w1 ⟨r, rfl, hr, hb1⟩
  have HR : Hid (0 ≤ r ↔ ¬ allLeaf f g n) := hr
  clear hr h
  by_cases h0 : 0 ≤ r
  · have d0 : decide (r ≥ 0) = true := by simp; omega
    have HN : Hid (¬ allLeaf f g n) := HR.out.1 h0
    clear h0 HR
    go_wp2
    go_ret
    exact ⟨true, rfl, iff_t HN.out, hb1⟩
  · have d0 : decide (r ≥ 0) = false := by simp; omega
    have HN : Hid (¬ ¬ allLeaf f g n) := fun q => h0 (HR.out.2 q)
    clear h0 HR
    go_wp2
    go_ret
    exact ⟨false, rfl, iff_f HN.out, hb1⟩
end Go.Proofs.Ytbpdopcdhnemfaa
/- The program's lists of leaves, held as values. -/
namespace Go.Proofs.Ytbpdopcdhnemfaa
open Go.RowKit
set_option linter.unusedSimpArgs false
set_option linter.unusedVariables false
abbrev eight (f g : Nat → Int) : Array Value := #[.int .i64 (f 0), .int .i64 (g 0), .int .i64 (f 1), .int .i64 (g 1), .int .i64 (f 2), .int .i64 (g 2), .int .i64 (f 3), .int .i64 (g 3)]
abbrev zf : Nat → Int := fun _ => 0
theorem undo8 {Y : Nat → Prop} {w : World} {b o : Nat} {f g : Nat → Int} (h : UndosAt Y w (some ⟨b, o, none⟩) 4 f g) :
    w.cell? ⟨b, o, none⟩ = some (.int .i64 (f 0)) ∧ w.cell? ⟨b, o + 1, none⟩ = some (.int .i64 (g 0)) ∧ w.cell? ⟨b, o + 2, none⟩ = some (.int .i64 (f 1)) ∧ w.cell? ⟨b, o + 3, none⟩ = some (.int .i64 (g 1)) ∧
    w.cell? ⟨b, o + 4, none⟩ = some (.int .i64 (f 2)) ∧ w.cell? ⟨b, o + 5, none⟩ = some (.int .i64 (g 2)) ∧ w.cell? ⟨b, o + 6, none⟩ = some (.int .i64 (f 3)) ∧ w.cell? ⟨b, o + 7, none⟩ = some (.int .i64 (g 3)) := by
  have hh : ∀ i, i < 4 → w.cell? ⟨b, o + i * 2, none⟩ = some (.int .i64 (f i)) ∧ w.cell? ⟨b, o + i * 2 + 1, none⟩ = some (.int .i64 (g i)) := fun i hi => by
    obtain ⟨b', o', e, -, h1, h2⟩ := h.2 i hi
    cases e
    exact ⟨h1, h2⟩
  exact ⟨(hh 0 (by omega)).1, (hh 0 (by omega)).2, (hh 1 (by omega)).1, (hh 1 (by omega)).2, (hh 2 (by omega)).1, (hh 2 (by omega)).2, (hh 3 (by omega)).1, (hh 3 (by omega)).2⟩
theorem row8 {w : World} {b n : Nat} {f : Nat → Value} (r : Row w b n f) (h : 8 ≤ n) : w.cell? ⟨b, 0, none⟩ = some (f 0) ∧ w.cell? ⟨b, 1, none⟩ = some (f 1) ∧ w.cell? ⟨b, 2, none⟩ = some (f 2) ∧ w.cell? ⟨b, 3, none⟩ = some (f 3) ∧ w.cell? ⟨b, 4, none⟩ = some (f 4) ∧ w.cell? ⟨b, 5, none⟩ = some (f 5) ∧ w.cell? ⟨b, 6, none⟩ = some (f 6) ∧ w.cell? ⟨b, 7, none⟩ = some (f 7) :=
  ⟨r.cell (by omega), r.cell (by omega), r.cell (by omega), r.cell (by omega), r.cell (by omega), r.cell (by omega), r.cell (by omega), r.cell (by omega)⟩
theorem row_zero8 (w : World) (t : TypeId) : Row (w.alloc (.cells #[.int .i64 0, .int .i64 0, .int .i64 0, .int .i64 0, .int .i64 0, .int .i64 0, .int .i64 0, .int .i64 0] t)) w.heap.size 8 (fun _ => .int .i64 0) :=
  ⟨_, t, heap_alloc_new _ _, by simp, fun i hi => by
    match i, hi with
    | 0, _ => rfl
    | 1, _ => rfl
    | 2, _ => rfl
    | 3, _ => rfl
    | 4, _ => rfl
    | 5, _ => rfl
    | 6, _ => rfl
    | 7, _ => rfl⟩
theorem set8_blw {w W : World} {z : Nat} (h : Blw w W) (hz : w.heap.size ≤ z) (v0 v1 v2 v3 v4 v5 v6 v7 : Value) : Blw w ((((((((W.setCell ⟨z, 0, none⟩ v0).setCell ⟨z, 1, none⟩ v1).setCell ⟨z, 2, none⟩ v2).setCell ⟨z, 3, none⟩ v3).setCell ⟨z, 4, none⟩ v4).setCell ⟨z, 5, none⟩ v5).setCell ⟨z, 6, none⟩ v6).setCell ⟨z, 7, none⟩ v7) :=
  ((((((((h.setCell hz _).setCell hz _).setCell hz _).setCell hz _).setCell hz _).setCell hz _).setCell hz _).setCell hz _)
theorem arrayAt4 (b o c : Nat) (w : World) : (Instr.arrayAt 202 (.slice (some ⟨b, o, none⟩) 4 c)).run Try.prog w = .ok (.pointer (some ⟨b, o, none⟩)) w := by
  simp [Instr.arrayAt, run_underlying Try.underlying202]
def lsOK (n : Nat) (f g : Nat → Int) : Prop := n = 4 ∧ allLeaf f g 4
set_option maxRecDepth 10000 in
set_option maxHeartbeats 1000000 in
theorem holdLeaves_any (ao : Option Addr) (c0 n : Nat) (f g : Nat → Int) (Y : Nat → Prop) (w : World) (h : UndosAt Y w ao n f g) :
    Calls Try.prog 167 #[.slice ao n c0] w fun e w' => ((lsOK n f g ∧ e = .returned (.tuple #[.agg (eight f g), .bool true])) ∨ (¬ lsOK n f g ∧ e = .returned (.tuple #[.agg (eight zf zf), .bool false]))) ∧ Blw w w' := by
  have hb0 : Blw w (w.alloc (.cells #[.int .i64 0, .int .i64 0, .int .i64 0, .int .i64 0, .int .i64 0, .int .i64 0, .int .i64 0, .int .i64 0] 202)) := (Blw.refl _).alloc _
  have r0 := row_zero8 w 202
  have H : Hid (UndosAt Y (w.alloc (.cells #[.int .i64 0, .int .i64 0, .int .i64 0, .int .i64 0, .int .i64 0, .int .i64 0, .int .i64 0, .int .i64 0] 202)) ao n f g) := h.blw hb0
  have hn := h.1
  clear h
  go_enter Try.func167, Try.ntmps167
  by_cases h4 : n = 4
  case neg =>
    have HN : Hid (¬ lsOK n f g) := fun q => h4 q.1
    have d4 : ((n : Int) != 4) = true := by simp; omega
    obtain ⟨z0, z1, z2, z3, z4, z5, z6, z7⟩ := row8 r0 (by omega)
    have f0 := r0.frozen 0; have f1 := r0.frozen 1; have f2 := r0.frozen 2; have f3 := r0.frozen 3; have f4 := r0.frozen 4; have f5 := r0.frozen 5; have f6 := r0.frozen 6; have f7 := r0.frozen 7
    clear h4 r0
    go_wp2
    refine bodyPost_ret (v := .tuple #[.agg (eight zf zf), .bool false]) (by simp [results, Try.results167, go_sem, z0, z1, z2, z3, z4, z5, z6, z7]) rfl ?_
    refine ⟨Or.inr ⟨HN.out, rfl⟩, ?_⟩
    exact hb0
  subst h4
  go_wp2_with fail
  refine (anyBad_any ao c0 4 f g Y _ H.out).mono ?_
  rintro e w1 ⟨r, rfl, hr, hb1⟩
  have HR : Hid (r = true ↔ ¬ allLeaf f g 4) := hr
  have HB : Hid (Blw w w1) := hb0.trans hb1
  replace H : Hid (UndosAt Y w1 ao 4 f g) := H.out.blw hb1
  replace r0 := r0.blw hb1
  obtain ⟨z0, z1, z2, z3, z4, z5, z6, z7⟩ := row8 r0 (by omega)
  have f0 := r0.frozen 0; have f1 := r0.frozen 1; have f2 := r0.frozen 2; have f3 := r0.frozen 3; have f4 := r0.frozen 4; have f5 := r0.frozen 5; have f6 := r0.frozen 6; have f7 := r0.frozen 7
  clear hr hb1 hb0 r0
  cases r
  · have HO : Hid (lsOK 4 f g) := ⟨rfl, Classical.byContradiction fun q => by have := HR.out.2 q; simp at this⟩
    clear HR
    obtain ⟨b, o, e, -⟩ := H.out.2 0 (by omega)
    subst e
    obtain ⟨q0, q1, q2, q3, q4, q5, q6, q7⟩ := undo8 H.out
    have hat := arrayAt4 b o c0
    clear H
    go_wp2
    refine bodyPost_ret (v := .tuple #[.agg (eight f g), .bool true]) (by simp [results, Try.results167, go_sem, z0, z1, z2, z3, z4, z5, z6, z7]) rfl ?_
    refine ⟨Or.inl ⟨HO.out, rfl⟩, ?_⟩
    exact set8_blw HB.out (by omega) _ _ _ _ _ _ _ _
  · have HN : Hid (¬ lsOK 4 f g) := fun q => HR.out.1 (by first | rfl | trivial) q.2
    clear HR H
    go_wp2
    refine bodyPost_ret (v := .tuple #[.agg (eight zf zf), .bool false]) (by simp [results, Try.results167, go_sem, z0, z1, z2, z3, z4, z5, z6, z7]) rfl ?_
    refine ⟨Or.inr ⟨HN.out, rfl⟩, ?_⟩
    exact set8_blw HB.out (by omega) _ _ _ _ _ _ _ _
end Go.Proofs.Ytbpdopcdhnemfaa
