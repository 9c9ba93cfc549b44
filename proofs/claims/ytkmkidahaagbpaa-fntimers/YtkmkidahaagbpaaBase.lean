/- Base: what is said of worlds: what slices of numbers, of bools and of lines read as, what is owned, what has turned. -/
import Derived.Test.YtkmkidahaagbpaaRows
import Derived.WalkKit
import Derived.WalkSpells
import Derived.WalkLawsBesides
import Derived.OpenShut
import Derived.Deep.LoopGhost
import Derived.Deep.OwnRows
import Derived.Deep.QuietTactic
import Derived.BigQuiet
import Derived.Deep.RegionWith
import Derived.Deep.Cut
namespace Go.Proofs.Ytkmkidahaagbpaa
open Go.RowKit

/-- Nothing that was there has turned. -/
def Blw (w w' : World) : Prop := Below w.heap.size w w'
theorem Blw.refl (w : World) : Blw w w := Below.refl _ _
theorem Blw.size {w w' : World} (h : Blw w w') : w.heap.size ≤ w'.heap.size := Below.size h
theorem Blw.trans {a b c : World} (h : Blw a b) (k : Blw b c) : Blw a c := Below.trans h (Below.mono k h.size)
theorem Blw.drew {a b : World} (h : Blw a b) : Blw a b.drew := Below.drew h
theorem Blw.drewN {a b : World} (h : Blw a b) (n : Nat) : Blw a (b.drewN n) := ⟨h.os, h.tape, h.output, by simpa using h.size, by simpa using h.block⟩
theorem Blw.alloc {a b : World} (h : Blw a b) (o : Obj) : Blw a (b.alloc o) := Below.alloc h h.size o
theorem Blw.setCell {a b : World} (h : Blw a b) {p : Addr} (hp : a.heap.size ≤ p.block) (u : Value) : Blw a (b.setCell p u) := Below.setCell h hp u
theorem Blw.cell {w w' : World} (h : Blw w w') {p : Addr} {v : Value} (hp : w.cell? p = some v) : w'.cell? p = some v := by
  rw [Below.cell h (World.block_lt_of_cell? _ _ hp)]; exact hp
theorem Blw.frozen {w w' : World} (h : Blw w w') {p : Addr} (hp : p.block < w.heap.size) : w'.frozen? p = w.frozen? p := Below.frozen h hp

/-- Of what was there only blocks in X have turned. -/
structure Mod (X : Nat → Prop) (w w' : World) : Prop where
  os : w'.os = w.os
  tape : w'.tape = w.tape
  output : w'.output = w.output
  size : w.heap.size ≤ w'.heap.size
  block : ∀ k, k < w.heap.size → ¬ X k → w'.heap[k]? = w.heap[k]?
theorem Mod.refl (X : Nat → Prop) (w : World) : Mod X w w := ⟨rfl, rfl, rfl, Nat.le_refl _, fun _ _ _ => rfl⟩
theorem Mod.trans {X : Nat → Prop} {a b c : World} (h : Mod X a b) (k : Mod X b c) : Mod X a c :=
  ⟨k.os.trans h.os, k.tape.trans h.tape, k.output.trans h.output, Nat.le_trans h.size k.size, fun i hi hx => (k.block i (Nat.lt_of_lt_of_le hi h.size) hx).trans (h.block i hi hx)⟩
theorem Mod.mono {X Y : Nat → Prop} {a b : World} (h : Mod X a b) (hxy : ∀ k, X k → Y k) : Mod Y a b := ⟨h.os, h.tape, h.output, h.size, fun i hi hx => h.block i hi (fun hh => hx (hxy i hh))⟩
theorem Blw.mod {w w' : World} (h : Blw w w') (X : Nat → Prop) : Mod X w w' := ⟨h.os, h.tape, h.output, h.size, fun i hi _ => h.block i hi⟩
theorem Mod.blw {a b c : World} {X : Nat → Prop} (h : Blw a b) (k : Mod X b c) (hx : ∀ i, X i → a.heap.size ≤ i) : Blw a c :=
  ⟨k.os.trans h.os, k.tape.trans h.tape, k.output.trans h.output, Nat.le_trans h.size k.size, fun i hi => (k.block i (Nat.lt_of_lt_of_le hi h.size) (fun hh => by have := hx i hh; omega)).trans (h.block i hi)⟩
theorem Mod.setCell {X : Nat → Prop} (w : World) {p : Addr} (hp : X p.block) (u : Value) : Mod X w (w.setCell p u) :=
  ⟨rfl, rfl, rfl, by simp [World.setCell], fun k _ hk => Below.heap_setCell _ _ _ _ (fun e => hk (e ▸ hp))⟩
theorem Mod.cell {X : Nat → Prop} {w w' : World} (h : Mod X w w') {p : Addr} {v : Value} (hp : w.cell? p = some v) (hx : ¬ X p.block) : w'.cell? p = some v := by
  rw [World.cell?_of_block (w := w) (h.block p.block (World.block_lt_of_cell? _ _ hp) hx)]; exact hp

/-- Block b is a row of cells, none frozen, of which the first n hold f. -/
def Row (w : World) (b n : Nat) (f : Nat → Value) : Prop := ∃ (c : Array Value) (t : TypeId), w.heap[b]? = some (.cells c t (0, 0)) ∧ n ≤ c.size ∧ ∀ i, i < n → c[i]? = some (f i)
theorem Row.cell {w : World} {b n : Nat} {f : Nat → Value} (h : Row w b n f) {i : Nat} (hi : i < n) : w.cell? ⟨b, i, none⟩ = some (f i) := by
  obtain ⟨c, t, hb, _, hc⟩ := h
  simp [World.cell?, hb, hc i hi]
theorem Row.frozen {w : World} {b n : Nat} {f : Nat → Value} (h : Row w b n f) (i : Nat) : w.frozen? ⟨b, i, none⟩ = false := by
  obtain ⟨c, t, hb, _⟩ := h
  simp [World.frozen?, hb]
theorem Row.lt {w : World} {b n : Nat} {f : Nat → Value} (h : Row w b n f) : b < w.heap.size := by
  obtain ⟨c, t, hb, _⟩ := h
  obtain ⟨hlt, _⟩ := Array.getElem?_eq_some_iff.1 hb
  exact hlt
theorem Row.congr {w : World} {b n : Nat} {f g : Nat → Value} (h : Row w b n f) (e : ∀ i, i < n → f i = g i) : Row w b n g := by
  obtain ⟨c, t, hb, hn, hc⟩ := h
  exact ⟨c, t, hb, hn, fun i hi => by rw [hc i hi, e i hi]⟩
theorem Row.of_block {w w' : World} {b n : Nat} {f : Nat → Value} (h : Row w b n f) (e : w'.heap[b]? = w.heap[b]?) : Row w' b n f := by
  obtain ⟨c, t, hb, hn, hc⟩ := h
  exact ⟨c, t, e.trans hb, hn, hc⟩
theorem Row.blw {w w' : World} {b n : Nat} {f : Nat → Value} (h : Row w b n f) (hb : Blw w w') : Row w' b n f := h.of_block (hb.block _ h.lt)
theorem Row.mod {X : Nat → Prop} {w w' : World} {b n : Nat} {f : Nat → Value} (h : Row w b n f) (hb : Mod X w w') (hx : ¬ X b) : Row w' b n f := h.of_block (hb.block _ h.lt hx)
theorem Row.set {w : World} {b n : Nat} {f : Nat → Value} (h : Row w b n f) (i : Nat) (v : Value) : Row (w.setCell ⟨b, i, none⟩ v) b n (fun j => if j = i then v else f j) := by
  obtain ⟨c, t, hb, hn, hc⟩ := h
  refine ⟨c.setIfInBounds i v, t, ?_, by simpa using hn, fun j hj => ?_⟩
  · simp [World.setCell, Array.getElem?_modify, hb]
  · rw [Array.getElem?_setIfInBounds]
    by_cases e : j = i
    · subst e
      simp [Nat.lt_of_lt_of_le hj hn]
    · rw [if_neg (fun h => e h.symm)]
      show c[j]? = some (if j = i then v else f j)
      rw [if_neg e]
      exact hc j hj
theorem Row.setOther {w : World} {b n : Nat} {f : Nat → Value} (h : Row w b n f) {a : Addr} (ha : b ≠ a.block) (v : Value) : Row (w.setCell a v) b n f := h.of_block (Below.heap_setCell _ _ _ _ ha)
theorem Row.made (w : World) (z : Value) (n : Nat) (t : TypeId) : Row (w.alloc (.cells (madeCells #[z] n) t)) w.heap.size n (fun _ => z) := by
  obtain ⟨c, h1, h2, h3⟩ := World.rowIs_made w z n t
  exact ⟨c, t, h1, by omega, h3⟩

/-- The slice at 'ao' reads as the n numbers f, all in blocks of Y. -/
def IntsAt (Y : Nat → Prop) (w : World) (ao : Option Addr) (n : Nat) (f : Nat → Int) : Prop :=
  n ≤ 9223372036854775807 ∧ ∀ i, i < n → ∃ b o, ao = some ⟨b, o, none⟩ ∧ Y b ∧ w.cell? ⟨b, o + i, none⟩ = some (.int .i64 (f i))
def BoolsAt (Y : Nat → Prop) (w : World) (ao : Option Addr) (n : Nat) (f : Nat → Bool) : Prop :=
  n ≤ 9223372036854775807 ∧ ∀ i, i < n → ∃ b o, ao = some ⟨b, o, none⟩ ∧ Y b ∧ w.cell? ⟨b, o + i, none⟩ = some (.bool (f i))
def LinesAt (Y : Nat → Prop) (w : World) (ao : Option Addr) (n : Nat) (len : Nat → Nat) (v : Nat → Nat → Int) : Prop :=
  n ≤ 9223372036854775807 ∧ ∀ i, i < n → ∃ b o a c, ao = some ⟨b, o, none⟩ ∧ Y b ∧ w.cell? ⟨b, o + i, none⟩ = some (.slice a (len i) c) ∧ IntsAt Y w a (len i) (v i)
/-- What a memory holds: how many lines, how long each, its words; likewise the cache; the marks. -/
structure MD where
  n1 : Nat
  n2 : Nat
  n3 : Nat
  l1 : Nat → Nat
  l2 : Nat → Nat
  v1 : Nat → Nat → Int
  v2 : Nat → Nat → Int
  d : Nat → Bool
/-- The value of a memory: three slices. -/
structure MV where
  a1 : Option Addr
  a2 : Option Addr
  a3 : Option Addr
  c1 : Nat
  c2 : Nat
  c3 : Nat
abbrev MV.val (m : MV) (M : MD) : Value := .agg #[.slice m.a1 M.n1 m.c1, .slice m.a2 M.n2 m.c2, .slice m.a3 M.n3 m.c3]
structure MemAt (Y : Nat → Prop) (w : World) (m : MV) (M : MD) : Prop where
  s : LinesAt Y w m.a1 M.n1 M.l1 M.v1
  c : LinesAt Y w m.a2 M.n2 M.l2 M.v2
  d : BoolsAt Y w m.a3 M.n3 M.d

theorem IntsAt.blw {Y : Nat → Prop} {w w' : World} {ao : Option Addr} {n : Nat} {f : Nat → Int} (h : IntsAt Y w ao n f) (hb : Blw w w') : IntsAt Y w' ao n f := by
  refine ⟨h.1, fun i hi => ?_⟩
  obtain ⟨b, o, h1, hY, h2⟩ := h.2 i hi
  exact ⟨b, o, h1, hY, hb.cell h2⟩
theorem BoolsAt.blw {Y : Nat → Prop} {w w' : World} {ao : Option Addr} {n : Nat} {f : Nat → Bool} (h : BoolsAt Y w ao n f) (hb : Blw w w') : BoolsAt Y w' ao n f := by
  refine ⟨h.1, fun i hi => ?_⟩
  obtain ⟨b, o, h1, hY, h2⟩ := h.2 i hi
  exact ⟨b, o, h1, hY, hb.cell h2⟩
theorem LinesAt.blw {Y : Nat → Prop} {w w' : World} {ao : Option Addr} {n : Nat} {len : Nat → Nat} {v : Nat → Nat → Int} (h : LinesAt Y w ao n len v) (hb : Blw w w') : LinesAt Y w' ao n len v := by
  refine ⟨h.1, fun i hi => ?_⟩
  obtain ⟨b, o, a, c, h1, hY, h2, h3⟩ := h.2 i hi
  exact ⟨b, o, a, c, h1, hY, hb.cell h2, h3.blw hb⟩
theorem MemAt.blw {Y : Nat → Prop} {w w' : World} {m : MV} {M : MD} (h : MemAt Y w m M) (hb : Blw w w') : MemAt Y w' m M :=
  ⟨h.s.blw hb, h.c.blw hb, h.d.blw hb⟩
theorem IntsAt.mod {X Y : Nat → Prop} {w w' : World} {ao : Option Addr} {n : Nat} {f : Nat → Int} (h : IntsAt Y w ao n f) (hb : Mod X w w') (hxy : ∀ k, Y k → ¬ X k) : IntsAt Y w' ao n f := by
  refine ⟨h.1, fun i hi => ?_⟩
  obtain ⟨b, o, h1, hY, h2⟩ := h.2 i hi
  exact ⟨b, o, h1, hY, hb.cell h2 (hxy _ hY)⟩
theorem BoolsAt.mod {X Y : Nat → Prop} {w w' : World} {ao : Option Addr} {n : Nat} {f : Nat → Bool} (h : BoolsAt Y w ao n f) (hb : Mod X w w') (hxy : ∀ k, Y k → ¬ X k) : BoolsAt Y w' ao n f := by
  refine ⟨h.1, fun i hi => ?_⟩
  obtain ⟨b, o, h1, hY, h2⟩ := h.2 i hi
  exact ⟨b, o, h1, hY, hb.cell h2 (hxy _ hY)⟩
theorem LinesAt.mod {X Y : Nat → Prop} {w w' : World} {ao : Option Addr} {n : Nat} {len : Nat → Nat} {v : Nat → Nat → Int} (h : LinesAt Y w ao n len v) (hb : Mod X w w') (hxy : ∀ k, Y k → ¬ X k) : LinesAt Y w' ao n len v := by
  refine ⟨h.1, fun i hi => ?_⟩
  obtain ⟨b, o, a, c, h1, hY, h2, h3⟩ := h.2 i hi
  exact ⟨b, o, a, c, h1, hY, hb.cell h2 (hxy _ hY), h3.mod hb hxy⟩
theorem MemAt.mod {X Y : Nat → Prop} {w w' : World} {m : MV} {M : MD} (h : MemAt Y w m M) (hb : Mod X w w') (hxy : ∀ k, Y k → ¬ X k) : MemAt Y w' m M :=
  ⟨h.s.mod hb hxy, h.c.mod hb hxy, h.d.mod hb hxy⟩
theorem IntsAt.congr {Y : Nat → Prop} {w : World} {ao : Option Addr} {n : Nat} {f g : Nat → Int} (h : IntsAt Y w ao n f) (e : ∀ i, i < n → f i = g i) : IntsAt Y w ao n g := by
  refine ⟨h.1, fun i hi => ?_⟩
  obtain ⟨b, o, h1, hY, h2⟩ := h.2 i hi
  exact ⟨b, o, h1, hY, by rw [← e i hi]; exact h2⟩
theorem BoolsAt.congr {Y : Nat → Prop} {w : World} {ao : Option Addr} {n : Nat} {f g : Nat → Bool} (h : BoolsAt Y w ao n f) (e : ∀ i, i < n → f i = g i) : BoolsAt Y w ao n g := by
  refine ⟨h.1, fun i hi => ?_⟩
  obtain ⟨b, o, h1, hY, h2⟩ := h.2 i hi
  exact ⟨b, o, h1, hY, by rw [← e i hi]; exact h2⟩
theorem LinesAt.congr {Y : Nat → Prop} {w : World} {ao : Option Addr} {n : Nat} {len len' : Nat → Nat} {v v' : Nat → Nat → Int} (h : LinesAt Y w ao n len v) (e : ∀ i, i < n → len i = len' i) (e' : ∀ i, i < n → ∀ j, j < len i → v i j = v' i j) : LinesAt Y w ao n len' v' := by
  refine ⟨h.1, fun i hi => ?_⟩
  obtain ⟨b, o, a, c, h1, hY, h2, h3⟩ := h.2 i hi
  refine ⟨b, o, a, c, h1, hY, by rw [← e i hi]; exact h2, ?_⟩
  rw [← e i hi]
  exact h3.congr (e' i hi)

/-! ### What is owned: it may be written -/
def IntsOwn (X : Nat → Prop) (w : World) (ao : Option Addr) (n : Nat) (f : Nat → Int) : Prop :=
  n ≤ 9223372036854775807 ∧ (0 < n → ∃ b, X b ∧ ao = some ⟨b, 0, none⟩ ∧ Row w b n (fun i => .int .i64 (f i)))
def BoolsOwn (X : Nat → Prop) (w : World) (ao : Option Addr) (n : Nat) (f : Nat → Bool) : Prop :=
  n ≤ 9223372036854775807 ∧ (0 < n → ∃ b, X b ∧ ao = some ⟨b, 0, none⟩ ∧ Row w b n (fun i => .bool (f i)))
def LinesOwn (X : Nat → Prop) (w : World) (ao : Option Addr) (n : Nat) (len : Nat → Nat) (v : Nat → Nat → Int) : Prop :=
  n ≤ 9223372036854775807 ∧ (0 < n → ∃ (b : Nat) (F c : Nat → Nat), X b ∧ ao = some ⟨b, 0, none⟩ ∧ Row w b n (fun i => .slice (some ⟨F i, 0, none⟩) (len i) (c i)) ∧
    (∀ i, i < n → len i ≤ 9223372036854775807 ∧ X (F i) ∧ F i ≠ b ∧ Row w (F i) (len i) (fun t => .int .i64 (v i t))) ∧ ∀ i j, i < n → j < n → i ≠ j → F i ≠ F j)
structure MemOwn (X : Nat → Prop) (w : World) (m : MV) (M : MD) : Prop where
  ex : ∃ X1 X2 X3 : Nat → Prop, (∀ b, X1 b → X b ∧ ¬ X2 b ∧ ¬ X3 b) ∧ (∀ b, X2 b → X b ∧ ¬ X3 b) ∧ (∀ b, X3 b → X b) ∧ LinesOwn X1 w m.a1 M.n1 M.l1 M.v1 ∧ LinesOwn X2 w m.a2 M.n2 M.l2 M.v2 ∧ BoolsOwn X3 w m.a3 M.n3 M.d

theorem IntsOwn.at {X : Nat → Prop} {w : World} {ao : Option Addr} {n : Nat} {f : Nat → Int} (h : IntsOwn X w ao n f) : IntsAt X w ao n f := by
  refine ⟨h.1, fun i hi => ?_⟩
  obtain ⟨b, hx, e, hr⟩ := h.2 (by omega)
  exact ⟨b, 0, e, hx, by rw [Nat.zero_add]; exact hr.cell hi⟩
theorem BoolsOwn.at {X : Nat → Prop} {w : World} {ao : Option Addr} {n : Nat} {f : Nat → Bool} (h : BoolsOwn X w ao n f) : BoolsAt X w ao n f := by
  refine ⟨h.1, fun i hi => ?_⟩
  obtain ⟨b, hx, e, hr⟩ := h.2 (by omega)
  exact ⟨b, 0, e, hx, by rw [Nat.zero_add]; exact hr.cell hi⟩
theorem LinesOwn.at {X : Nat → Prop} {w : World} {ao : Option Addr} {n : Nat} {len : Nat → Nat} {v : Nat → Nat → Int} (h : LinesOwn X w ao n len v) : LinesAt X w ao n len v := by
  refine ⟨h.1, fun i hi => ?_⟩
  obtain ⟨b, F, c, hx, e, hr, hl, _⟩ := h.2 (by omega)
  obtain ⟨g1, g2, g3, g4⟩ := hl i hi
  exact ⟨b, 0, some ⟨F i, 0, none⟩, c i, e, hx, by rw [Nat.zero_add]; exact hr.cell hi, g1, fun j hj => ⟨F i, 0, rfl, g2, by rw [Nat.zero_add]; exact g4.cell hj⟩⟩
theorem IntsAt.mono {X Y : Nat → Prop} {w : World} {ao : Option Addr} {n : Nat} {f : Nat → Int} (h : IntsAt X w ao n f) (hxy : ∀ b, X b → Y b) : IntsAt Y w ao n f :=
  ⟨h.1, fun i hi => let ⟨b, o, h1, hY, h2⟩ := h.2 i hi; ⟨b, o, h1, hxy _ hY, h2⟩⟩
theorem BoolsAt.mono {X Y : Nat → Prop} {w : World} {ao : Option Addr} {n : Nat} {f : Nat → Bool} (h : BoolsAt X w ao n f) (hxy : ∀ b, X b → Y b) : BoolsAt Y w ao n f :=
  ⟨h.1, fun i hi => let ⟨b, o, h1, hY, h2⟩ := h.2 i hi; ⟨b, o, h1, hxy _ hY, h2⟩⟩
theorem LinesAt.mono {X Y : Nat → Prop} {w : World} {ao : Option Addr} {n : Nat} {len : Nat → Nat} {v : Nat → Nat → Int} (h : LinesAt X w ao n len v) (hxy : ∀ b, X b → Y b) : LinesAt Y w ao n len v :=
  ⟨h.1, fun i hi => let ⟨b, o, a, c, h1, hY, h2, h3⟩ := h.2 i hi; ⟨b, o, a, c, h1, hxy _ hY, h2, h3.mono hxy⟩⟩
theorem MemOwn.at {X : Nat → Prop} {w : World} {m : MV} {M : MD} (h : MemOwn X w m M) : MemAt X w m M := by
  obtain ⟨X1, X2, X3, h1, h2, h3, s, c, d⟩ := h.ex
  exact ⟨s.at.mono (fun b hb => (h1 b hb).1), c.at.mono (fun b hb => (h2 b hb).1), d.at.mono h3⟩
theorem IntsOwn.blw {X : Nat → Prop} {w w' : World} {ao : Option Addr} {n : Nat} {f : Nat → Int} (h : IntsOwn X w ao n f) (hb : Blw w w') : IntsOwn X w' ao n f :=
  ⟨h.1, fun hn => let ⟨b, hx, e, hr⟩ := h.2 hn; ⟨b, hx, e, hr.blw hb⟩⟩
theorem BoolsOwn.mod {X Z : Nat → Prop} {w w' : World} {ao : Option Addr} {n : Nat} {f : Nat → Bool} (h : BoolsOwn X w ao n f) (hb : Mod Z w w') (hxz : ∀ b, X b → ¬ Z b) : BoolsOwn X w' ao n f :=
  ⟨h.1, fun hn => let ⟨b, hx, e, hr⟩ := h.2 hn; ⟨b, hx, e, hr.mod hb (hxz _ hx)⟩⟩
theorem LinesOwn.mod {X Z : Nat → Prop} {w w' : World} {ao : Option Addr} {n : Nat} {len : Nat → Nat} {v : Nat → Nat → Int} (h : LinesOwn X w ao n len v) (hb : Mod Z w w') (hxz : ∀ b, X b → ¬ Z b) : LinesOwn X w' ao n len v :=
  ⟨h.1, fun hn => let ⟨b, F, c, hx, e, hr, hl, hd⟩ := h.2 hn
    ⟨b, F, c, hx, e, hr.mod hb (hxz _ hx), fun i hi => let ⟨g1, g2, g3, g4⟩ := hl i hi; ⟨g1, g2, g3, g4.mod hb (hxz _ g2)⟩, hd⟩⟩
theorem LinesOwn.blw {X : Nat → Prop} {w w' : World} {ao : Option Addr} {n : Nat} {len : Nat → Nat} {v : Nat → Nat → Int} (h : LinesOwn X w ao n len v) (hb : Blw w w') : LinesOwn X w' ao n len v := h.mod (hb.mod (fun _ => False)) (fun _ _ => id)
theorem BoolsOwn.blw {X : Nat → Prop} {w w' : World} {ao : Option Addr} {n : Nat} {f : Nat → Bool} (h : BoolsOwn X w ao n f) (hb : Blw w w') : BoolsOwn X w' ao n f := h.mod (hb.mod (fun _ => False)) (fun _ _ => id)
theorem MemOwn.mod {X Z : Nat → Prop} {w w' : World} {m : MV} {M : MD} (h : MemOwn X w m M) (hb : Mod Z w w') (hxz : ∀ b, X b → ¬ Z b) : MemOwn X w' m M := by
  obtain ⟨X1, X2, X3, h1, h2, h3, s, c, d⟩ := h.ex
  exact ⟨X1, X2, X3, h1, h2, h3, s.mod hb (fun b hb => hxz b (h1 b hb).1), c.mod hb (fun b hb => hxz b (h2 b hb).1), d.mod hb (fun b hb => hxz b (h3 b hb))⟩
theorem MemOwn.blw {X : Nat → Prop} {w w' : World} {m : MV} {M : MD} (h : MemOwn X w m M) (hb : Blw w w') : MemOwn X w' m M := h.mod (hb.mod (fun _ => False)) (fun _ _ => id)
end Go.Proofs.Ytkmkidahaagbpaa
