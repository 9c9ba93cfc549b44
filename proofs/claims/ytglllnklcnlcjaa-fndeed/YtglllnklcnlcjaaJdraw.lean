/- Merged by program, in this order: DrawM, DrawS, DrawT, DrawK, DrawU, Calm, Mid, Draw4, Draw5, FactD, Same, FactE, LawT, LawL, LawX4, OpenP. -/
import Derived.Test.YtglllnklcnlcjaaDraw
import Derived.Test.YtglllnklcnlcjaaNewO
import Derived.Test.YtglllnklcnlcjaaLawG
import Derived.Test.YtglllnklcnlcjaaRise
import Derived.Test.YtglllnklcnlcjaaJimpl
import Derived.Test.YtglllnklcnlcjaaJspec
import Derived.Test.YtglllnklcnlcjaaDeedS
import Derived.Test.YtglllnklcnlcjaaFailP
import Derived.Test.YtglllnklcnlcjaaData
import Derived.Test.YtglllnklcnlcjaaEq
import Derived.Test.YtglllnklcnlcjaaGoodL
import Derived.Test.YtglllnklcnlcjaaLawM
import Derived.Test.YtglllnklcnlcjaaXGood
import Derived.Test.YtglllnklcnlcjaaMark
import Derived.Test.YtglllnklcnlcjaaEq4
import Derived.Test.YtglllnklcnlcjaaGoodP
import Derived.Test.YtglllnklcnlcjaaOpenS
import Derived.Test.YtglllnklcnlcjaaPair
import Derived.Deep.SlicePairs
/- A place and a memory that are drawn. -/
namespace Go.Proofs.Ytglllnklcnlcjaa
open Go.RowKit
set_option linter.unusedSimpArgs false
set_option linter.unusedVariables false
theorem ints_lit (w : World) (l : List Int) (t : TypeId) (hl : l.length ≤ 100) : IntsAt (fun b => b = w.heap.size) (w.alloc (.cells (l.map (fun x => Value.int .i64 x)).toArray t)) (some ⟨w.heap.size, 0, none⟩) l.length (fun i => l.getD i 0) := by
  have r : Row (w.alloc (.cells (l.map (fun x => Value.int .i64 x)).toArray t)) w.heap.size l.length (fun i => .int .i64 (l.getD i 0)) :=
    ⟨_, t, heap_alloc_new _ _, by simp, fun i hi => by simp [hi]⟩
  exact ⟨by omega, fun i hi => ⟨w.heap.size, 0, rfl, rfl, by rw [Nat.zero_add]; exact r.cell hi⟩⟩
/-- A memory that is drawn: its box at z, the result's at R, all newer than w; the cursor at C. -/
structure Dm (Y : Nat → Prop) (w wr : World) (C k z R : Nat) (m : MV) (s c : Nat → Nat → Int) (d : Nat → Bool) : Prop where
  cur : Cur Y wr C k
  mod : Mod (fun b => b = C) w wr
  box : Box wr z m (MD.full s c d)
  own : MemOwn (fun b => w.heap.size ≤ b ∧ b < wr.heap.size ∧ b ≠ z ∧ b ≠ R) wr m (MD.full s c d)
  res : Row wr R 3 (fun _ => .slice none 0 0)
  oz : w.heap.size ≤ z
  oR : w.heap.size ≤ R
  ne : z ≠ R
/-- A memory in a box at z that a call behind wr has answered; the cursor has gone on. -/
structure Drawn (Y : Nat → Prop) (wr W : World) (C k z : Nat) (m : MV) (M : MD) : Prop where
  cur : Cur Y W C k
  mod : Mod (fun b => b = C) wr W
  lo : wr.heap.size ≤ z
  box : Box W z m M
  own : MemOwn (fun b => wr.heap.size ≤ b ∧ b < W.heap.size ∧ b ≠ z) W m M
theorem Drawn.late {Y : Nat → Prop} {wr w4 : World} {C k : Nat} {X : Nat → Prop} {m : MV} {M : MD} (cur : Cur Y w4 C k) (hm : Mod (fun b => b = C) wr w4) (own : MemOwn X w4 m M) (hX : ∀ b, X b → wr.heap.size ≤ b ∧ b < w4.heap.size) : Drawn Y wr (w4.alloc (.cells #[.slice m.a1 M.n1 m.c1, .slice m.a2 M.n2 m.c2, .slice m.a3 M.n3 m.c3] 26)) C k w4.heap.size m M :=
  ⟨cur.blw ((Blw.refl _).alloc _), hm.alloc _, hm.size, box3 w4 _ _ _ 26, (own.blw ((Blw.refl _).alloc _)).mono (fun b h => by have := hX b h; exact ⟨this.1, by rw [World.size_alloc]; omega, by omega⟩)⟩
theorem Drawn.early {Y : Nat → Prop} {wr w4 : World} {C k z : Nat} {X : Nat → Prop} {m : MV} {M : MD} {f : Nat → Value} (cur : Cur Y w4 C k) (hm : Mod (fun b => b = C) wr w4) (r : Row w4 z 3 f) (hz : wr.heap.size ≤ z) (hC : C < wr.heap.size) (hY : ∀ b, Y b → b < wr.heap.size) (own : MemOwn X w4 m M) (hX : ∀ b, X b → wr.heap.size ≤ b ∧ b < w4.heap.size ∧ b ≠ z) :
    Drawn Y wr (((w4.setCell ⟨z, 0, none⟩ (.slice m.a1 M.n1 m.c1)).setCell ⟨z, 1, none⟩ (.slice m.a2 M.n2 m.c2)).setCell ⟨z, 2, none⟩ (.slice m.a3 M.n3 m.c3)) C k z m M := by
  have hs := mod_set3 w4 z (.slice m.a1 M.n1 m.c1) (.slice m.a2 M.n2 m.c2) (.slice m.a3 M.n3 m.c3)
  have hsz := hs.size
  refine ⟨cur.mod hs (by omega) (fun b hb => by have := hY b hb; omega), ⟨hs.os.trans hm.os, hs.tape.trans hm.tape, hs.output.trans hm.output, Nat.le_trans hm.size hs.size, fun i hi hx => (hs.block i (Nat.lt_of_lt_of_le hi hm.size) (by omega)).trans (hm.block i hi hx)⟩, hz, box_put r _ _ _, (own.mod hs (fun b h => (hX b h).2.2)).mono (fun b h => by have := hX b h; exact ⟨this.1, by omega, this.2.2⟩)⟩
/-- The drawn memory is another one. -/
theorem Dm.take {Y : Nat → Prop} {w wr W : World} {C k k' z R z5 : Nat} {m m5 : MV} {s c s5 c5 : Nat → Nat → Int} {d d5 : Nat → Bool} (D : Dm Y w wr C k z R m s c d) (E : Drawn Y wr W C k' z5 m5 (MD.full s5 c5 d5)) (hC : C < w.heap.size) (hY : ∀ b, Y b → b < w.heap.size) :
    Dm Y w (((W.setCell ⟨z, 0, none⟩ (.slice m5.a1 12 m5.c1)).setCell ⟨z, 1, none⟩ (.slice m5.a2 12 m5.c2)).setCell ⟨z, 2, none⟩ (.slice m5.a3 12 m5.c3)) C k' z R m5 s5 c5 d5 := by
  have hs := mod_set3 W z (.slice m5.a1 12 m5.c1) (.slice m5.a2 12 m5.c2) (.slice m5.a3 12 m5.c3)
  have hsz := hs.size
  have oz := D.oz
  have oR := D.oR
  have ne := D.ne
  have zlt := D.box.lt
  have rlt := D.res.lt
  have ms := D.mod.size
  have es := E.mod.size
  have m2 := D.mod.trans E.mod
  refine ⟨E.cur.mod hs (by omega) (fun b hb => by have := hY b hb; omega), ⟨hs.os.trans m2.os, hs.tape.trans m2.tape, hs.output.trans m2.output, Nat.le_trans m2.size hs.size, fun i hi hx => (hs.block i (Nat.lt_of_lt_of_le hi m2.size) (by omega)).trans (m2.block i hi hx)⟩, box_put (D.box.mod E.mod (by omega)) _ _ _, (E.own.mod hs (fun b h => by have := h.1; omega)).mono (fun b h => by have := h.1; have := h.2.1; exact ⟨by omega, by omega, by omega, by omega⟩), (D.res.mod E.mod (by omega)).mod hs (by omega), oz, oR, ne⟩
/-- The drawn memory stays. -/
theorem Dm.stay {Y : Nat → Prop} {w wr W : World} {C k k' z R : Nat} {m : MV} {s c : Nat → Nat → Int} {d : Nat → Bool} (D : Dm Y w wr C k z R m s c d) (hm : Mod (fun b => b = C) wr W) (cur : Cur Y W C k') (hC : C < w.heap.size) : Dm Y w W C k' z R m s c d := by
  have oz := D.oz
  have oR := D.oR
  have hs := hm.size
  exact ⟨cur, D.mod.trans hm, D.box.mod hm (by omega), (D.own.mod hm (fun b hb => by have := hb.1; omega)).mono (fun b hb => ⟨hb.1, by have := hb.2.1; omega, hb.2.2⟩), D.res.mod hm (by omega), oz, oR, D.ne⟩
theorem Cur.facts {Y : Nat → Prop} {w : World} {C k : Nat} (h : Cur Y w C k) : C < w.heap.size ∧ True := ⟨h.lt, trivial⟩
theorem own_dirty {X : Nat → Prop} {w : World} {m : MV} {s c : Nat → Nat → Int} {d : Nat → Bool} (h : MemOwn X w m (MD.full s c d)) : ∃ b3, X b3 ∧ m.a3 = some ⟨b3, 0, none⟩ ∧ Row w b3 12 (fun i => .bool (d i)) ∧
    ∀ w' (d' : Nat → Bool), Mod (fun x => ¬ X x ∨ x = b3) w w' → Row w' b3 12 (fun i => .bool (d' i)) → MemOwn X w' m (MD.full s c d') := by
  obtain ⟨X1, X2, X3, h1, h2, h3, hs, hc, hd⟩ := h.ex
  obtain ⟨b, hb, e, r⟩ := hd.2 (by show 0 < 12; omega)
  refine ⟨b, h3 b hb, e, r, fun w' d' hm r' => ⟨X1, X2, fun x => x = b, fun x hx => ?_, fun x hx => ?_, fun x hx => ?_, hs.mod hm (fun x hx hh => ?_), hc.mod hm (fun x hx hh => ?_), ⟨by show 12 ≤ _; omega, fun _ => ⟨b, rfl, e, r'⟩⟩⟩⟩
  · exact ⟨(h1 x hx).1, (h1 x hx).2.1, fun he => (h1 x hx).2.2 (he ▸ hb)⟩
  · exact ⟨(h2 x hx).1, fun he => (h2 x hx).2 (he ▸ hb)⟩
  · exact hx ▸ h3 b hb
  · rcases hh with hh | hh
    · exact hh (h1 x hx).1
    · exact (h1 x hx).2.2 (hh ▸ hb)
  · rcases hh with hh | hh
    · exact hh (h2 x hx).1
    · exact (h2 x hx).2 (hh ▸ hb)
theorem box3_mod2 {w : World} {B R R2 : Nat} {a b c : Value} (r : Row w B 3 (fun i => if i = 0 then a else if i = 1 then b else c)) (hR : B ≠ R) (hR2 : B ≠ R2) :
    (∀ w', Mod (fun x => x = R ∨ x = R2) w w' → w'.cell? ⟨B, 0, none⟩ = some a) ∧ (∀ w', Mod (fun x => x = R ∨ x = R2) w w' → w'.cell? ⟨B, 1, none⟩ = some b) ∧ (∀ w', Mod (fun x => x = R ∨ x = R2) w w' → w'.cell? ⟨B, 2, none⟩ = some c) :=
  ⟨fun _ h => (get3 (r.mod h (by omega))).1, fun _ h => (get3 (r.mod h (by omega))).2.1, fun _ h => (get3 (r.mod h (by omega))).2.2⟩
/-- One mark of the drawn memory is another one. -/
theorem Dm.dirty {Y : Nat → Prop} {w wr W : World} {C k k' z R b3 i : Nat} {m : MV} {s c : Nat → Nat → Int} {d : Nat → Bool} {v : Bool} (D : Dm Y w wr C k z R m s c d)
    (nx : ∀ w' (d' : Nat → Bool), Mod (fun x => ¬ (w.heap.size ≤ x ∧ x < wr.heap.size ∧ x ≠ z ∧ x ≠ R) ∨ x = b3) wr w' → Row w' b3 12 (fun i => .bool (d' i)) → MemOwn (fun x => w.heap.size ≤ x ∧ x < wr.heap.size ∧ x ≠ z ∧ x ≠ R) w' m (MD.full s c d'))
    (r : Row wr b3 12 (fun i => .bool (d i))) (hi : i < 12) (hbC : b3 ≠ C) (hx : w.heap.size ≤ b3 ∧ b3 < wr.heap.size ∧ b3 ≠ z ∧ b3 ≠ R) (hm : Mod (fun x => x = C) wr W) (cur : Cur Y W C k') (hC : C < w.heap.size) (hY : ∀ b, Y b → b < w.heap.size) :
    Dm Y w (W.setCell ⟨b3, i, none⟩ (.bool v)) C k' z R m s c (fun j => if j = i then v else d j) := by
  have oz := D.oz
  have oR := D.oR
  have hs := Mod.setCell (X := fun x => x = b3) W (p := ⟨b3, i, none⟩) rfl (.bool v)
  have hsz := hs.size
  have hmz := hm.size
  have ms := D.mod.size
  have m2 := D.mod.trans hm
  have all : Mod (fun x => ¬ (w.heap.size ≤ x ∧ x < wr.heap.size ∧ x ≠ z ∧ x ≠ R) ∨ x = b3) wr (W.setCell ⟨b3, i, none⟩ (.bool v)) := (hm.mono (fun x hx => Or.inl (by omega))).trans (hs.mono (fun x hx => Or.inr hx))
  refine ⟨cur.mod hs (fun e => hbC e.symm) (fun b hb => by have := hY b hb; omega), ⟨hs.os.trans m2.os, hs.tape.trans m2.tape, hs.output.trans m2.output, Nat.le_trans m2.size hs.size, fun t ht hx => (hs.block t (Nat.lt_of_lt_of_le ht m2.size) (by omega)).trans (m2.block t ht hx)⟩, (D.box.mod hm (by omega)).mod hs (by omega), (nx _ _ all (((r.mod hm hbC).set i (.bool v)).congr (fun t ht => by by_cases e : t = i <;> simp [e]))).mono (fun b hb => ⟨hb.1, by have := hb.2.1; omega, hb.2.2⟩), (D.res.mod hm (by omega)).mod hs (by omega), oz, oR, D.ne⟩
theorem own_word {X : Nat → Prop} {w : World} {m : MV} {s c : Nat → Nat → Int} {d : Nat → Bool} (h : MemOwn X w m (MD.full s c d)) : ∃ bL bW cW, X bW ∧ (X bL ∧ bL ≠ bW) ∧ m.a1 = some ⟨bL, 0, none⟩ ∧ w.cell? ⟨bL, 0, none⟩ = some (.slice (some ⟨bW, 0, none⟩) 4 cW) ∧ Row w bW 4 (fun t => .int .i64 (s 0 t)) ∧
    ∀ w' (f : Nat → Int), Mod (fun x => ¬ X x ∨ x = bW) w w' → Row w' bW 4 (fun t => .int .i64 (f t)) → MemOwn X w' m (MD.full (fun i => if i = 0 then f else s i) c d) := by
  obtain ⟨X1, X2, X3, h1, h2, h3, hs, hc, hd⟩ := h.ex
  obtain ⟨b, F, cc, hb, e, r, hl, hdif⟩ := hs.2 (by show 0 < 12; omega)
  obtain ⟨g1, g2, g3, g4⟩ := hl 0 (by show 0 < 12; omega)
  refine ⟨b, F 0, cc 0, (h1 _ g2).1, ⟨(h1 _ hb).1, fun e => g3 e.symm⟩, e, r.cell (by show 0 < 12; omega), g4, fun w' f hm r' => ⟨X1, X2, X3, h1, h2, h3, ⟨hs.1, fun _ => ⟨b, F, cc, hb, e, r.mod hm (fun hh => ?_), fun i hi => ?_, hdif⟩⟩, hc.mod hm (fun x hx hh => ?_), hd.mod hm (fun x hx hh => ?_)⟩⟩
  · rcases hh with hh | hh
    · exact hh (h1 _ hb).1
    · exact g3 hh.symm
  · obtain ⟨k1, k2, k3, k4⟩ := hl i hi
    refine ⟨k1, k2, k3, ?_⟩
    by_cases e0 : i = 0
    · subst e0
      exact r'
    · have hr := k4.mod hm (fun hh => by
        rcases hh with hh | hh
        · exact hh (h1 _ k2).1
        · exact hdif i 0 hi (by show 0 < 12; omega) e0 hh)
      simpa [MD.full, e0] using hr
  · rcases hh with hh | hh
    · exact hh (h2 _ hx).1
    · exact (h1 _ g2).2.1 (hh ▸ hx)
  · rcases hh with hh | hh
    · exact hh (h3 _ hx)
    · exact (h1 _ g2).2.2 (hh ▸ hx)
/-- The first sure word of the drawn memory is another one. -/
theorem Dm.word {Y : Nat → Prop} {w wr W : World} {C k k' z R b3 : Nat} {m : MV} {s c : Nat → Nat → Int} {d : Nat → Bool} {v : Int} (D : Dm Y w wr C k z R m s c d)
    (nx : ∀ w' (f : Nat → Int), Mod (fun x => ¬ (w.heap.size ≤ x ∧ x < wr.heap.size ∧ x ≠ z ∧ x ≠ R) ∨ x = b3) wr w' → Row w' b3 4 (fun t => .int .i64 (f t)) → MemOwn (fun x => w.heap.size ≤ x ∧ x < wr.heap.size ∧ x ≠ z ∧ x ≠ R) w' m (MD.full (fun i => if i = 0 then f else s i) c d))
    (r : Row wr b3 4 (fun t => .int .i64 (s 0 t))) (hbC : b3 ≠ C) (hx : w.heap.size ≤ b3 ∧ b3 < wr.heap.size ∧ b3 ≠ z ∧ b3 ≠ R) (hm : Mod (fun x => x = C) wr W) (cur : Cur Y W C k') (hC : C < w.heap.size) (hY : ∀ b, Y b → b < w.heap.size) :
    Dm Y w (W.setCell ⟨b3, 0, none⟩ (.int .i64 v)) C k' z R m (fun i => if i = 0 then (fun t => if t = 0 then v else s 0 t) else s i) c d := by
  have oz := D.oz
  have oR := D.oR
  have hs := Mod.setCell (X := fun x => x = b3) W (p := ⟨b3, 0, none⟩) rfl (.int .i64 v)
  have hsz := hs.size
  have hmz := hm.size
  have ms := D.mod.size
  have m2 := D.mod.trans hm
  have all : Mod (fun x => ¬ (w.heap.size ≤ x ∧ x < wr.heap.size ∧ x ≠ z ∧ x ≠ R) ∨ x = b3) wr (W.setCell ⟨b3, 0, none⟩ (.int .i64 v)) := (hm.mono (fun x hx => Or.inl (by omega))).trans (hs.mono (fun x hx => Or.inr hx))
  refine ⟨cur.mod hs (fun e => hbC e.symm) (fun b hb => by have := hY b hb; omega), ⟨hs.os.trans m2.os, hs.tape.trans m2.tape, hs.output.trans m2.output, Nat.le_trans m2.size hs.size, fun t ht hx => (hs.block t (Nat.lt_of_lt_of_le ht m2.size) (by omega)).trans (m2.block t ht hx)⟩, (D.box.mod hm (by omega)).mod hs (by omega), (nx _ _ all (((r.mod hm hbC).set 0 (.int .i64 v)).congr (fun t ht => by by_cases e : t = 0 <;> simp [e]))).mono (fun b hb => ⟨hb.1, by have := hb.2.1; omega, hb.2.2⟩), (D.res.mod hm (by omega)).mod hs (by omega), oz, oR, D.ne⟩
/-- The drawn memory is handed back. -/
theorem Dm.done {Y : Nat → Prop} {w wr : World} {C k z : Nat} {m : MV} {s c : Nat → Nat → Int} {d : Nat → Bool} (D : Dm Y w wr C k z w.heap.size m s c d) (hC : C < w.heap.size) (hY : ∀ b, Y b → b < w.heap.size) :
    Cur Y (((wr.setCell ⟨w.heap.size, 0, none⟩ (.slice m.a1 12 m.c1)).setCell ⟨w.heap.size, 1, none⟩ (.slice m.a2 12 m.c2)).setCell ⟨w.heap.size, 2, none⟩ (.slice m.a3 12 m.c3)) C k ∧
    MemOwn (fun b => w.heap.size ≤ b ∧ b < (((wr.setCell ⟨w.heap.size, 0, none⟩ (.slice m.a1 12 m.c1)).setCell ⟨w.heap.size, 1, none⟩ (.slice m.a2 12 m.c2)).setCell ⟨w.heap.size, 2, none⟩ (.slice m.a3 12 m.c3)).heap.size) (((wr.setCell ⟨w.heap.size, 0, none⟩ (.slice m.a1 12 m.c1)).setCell ⟨w.heap.size, 1, none⟩ (.slice m.a2 12 m.c2)).setCell ⟨w.heap.size, 2, none⟩ (.slice m.a3 12 m.c3)) m (MD.full s c d) ∧
    Mod (fun b => b = C) w (((wr.setCell ⟨w.heap.size, 0, none⟩ (.slice m.a1 12 m.c1)).setCell ⟨w.heap.size, 1, none⟩ (.slice m.a2 12 m.c2)).setCell ⟨w.heap.size, 2, none⟩ (.slice m.a3 12 m.c3)) := by
  have hs := mod_set3 wr w.heap.size (.slice m.a1 12 m.c1) (.slice m.a2 12 m.c2) (.slice m.a3 12 m.c3)
  have hsz := hs.size
  have m2 := D.mod
  exact ⟨D.cur.mod hs (by omega) (fun b hb => by have := hY b hb; omega), (D.own.mod hs (fun b hb => hb.2.2.2)).mono (fun b hb => ⟨hb.1, by have := hb.2.1; omega⟩), ⟨hs.os.trans m2.os, hs.tape.trans m2.tape, hs.output.trans m2.output, Nat.le_trans m2.size hs.size, fun t ht hx => (hs.block t (Nat.lt_of_lt_of_le ht m2.size) (by omega)).trans (m2.block t ht hx)⟩⟩
theorem Drawn.more {Y : Nat → Prop} {wr W W' : World} {C k k' z : Nat} {m : MV} {M : MD} (E : Drawn Y wr W C k z m M) (hm : Mod (fun b => b = C) W W') (cur : Cur Y W' C k') (hC : C < wr.heap.size) : Drawn Y wr W' C k' z m M := by
  have lo := E.lo
  have hs := hm.size
  exact ⟨cur, E.mod.trans hm, lo, E.box.mod hm (by omega), (E.own.mod hm (fun b hb => by have := hb.1; omega)).mono (fun b hb => ⟨hb.1, by have := hb.2.1; omega, hb.2.2⟩)⟩
theorem setz {wr w4 : World} {C z : Nat} {a b c : Value} (hm : Mod (fun b => b = C) wr w4) (hz : wr.heap.size ≤ z) : Mod (fun b => b = C) wr (((w4.setCell ⟨z, 0, none⟩ a).setCell ⟨z, 1, none⟩ b).setCell ⟨z, 2, none⟩ c) := by
  have hs := mod_set3 w4 z a b c
  exact ⟨hs.os.trans hm.os, hs.tape.trans hm.tape, hs.output.trans hm.output, Nat.le_trans hm.size hs.size, fun i hi hx => (hs.block i (Nat.lt_of_lt_of_le hi hm.size) (by omega)).trans (hm.block i hi hx)⟩
set_option maxRecDepth 10000 in
set_option maxHeartbeats 6400000 in
theorem memory_any (Y : Nat → Prop) (C k : Nat) (w : World) (hk : k ≤ 800000) (hY : ∀ b, Y b → b < w.heap.size) (h : Cur Y w C k) :
    Calls Try.prog 75 #[.pointer (some ⟨C, 0, none⟩)] w fun e w' => ∃ m s c d, e = .returned (m.val (MD.full s c d)) ∧ MemOwn (fun b => w.heap.size ≤ b ∧ b < w'.heap.size) w' m (MD.full s c d) ∧ Cur Y w' C (k + 100) ∧ Mod (fun b => b = C) w w' := by
  have hC := h.lt
  have HY : Hid (∀ b, Y b → b < w.heap.size) := hY
  clear hY
  go_enter Try.func75, Try.ntmps75
  go_wp2_with fail
  have hb0 : Blw w (w.alloc (.cells #[.slice none 0 0, .slice none 0 0, .slice none 0 0] 26)) := (Blw.refl _).alloc _
  have rR := row_box w 26
  have s0 : (w.alloc (.cells #[.slice none 0 0, .slice none 0 0, .slice none 0 0] 26)).heap.size = w.heap.size + 1 := by simp
  refine (specNewO_any _).mono ?_
  rintro e w1 ⟨m1, rfl, own1, hb1⟩
  simp only [MV.val, MD.full]
  have z1 := hb1.size
  go_wp2_with fail
  have hA : Blw w1 (w1.alloc (.cells #[.slice m1.a1 12 m1.c1, .slice m1.a2 12 m1.c2, .slice m1.a3 12 m1.c3] 26)) := (Blw.refl _).alloc _
  have hb2 := (hb0.trans hb1).trans hA
  refine (pick_any Y C k 12 _ (by omega) (by omega) (h.blw hb2)).mono ?_
  rintro e w2 ⟨n, rfl, hn, c2, mm2⟩
  have D0 : Hid (Dm Y w w2 C (k + 2) w1.heap.size w.heap.size m1 zeros zeros (fun _ => false)) := by
    have s1 : (w1.alloc (.cells #[.slice m1.a1 12 m1.c1, .slice m1.a2 12 m1.c2, .slice m1.a3 12 m1.c3] 26)).heap.size = w1.heap.size + 1 := by simp
    have s2 := mm2.size
    exact ⟨c2, (hb2.mod _).trans mm2, (box3 w1 _ _ _ 26).mod mm2 (by omega), ((own1.blw hA).mod mm2 (fun b hb => by have := hb.1; omega)).mono (fun b hb => ⟨by have := hb.1; omega, by have := hb.2; omega, by have := hb.2; omega, by have := hb.1; omega⟩), ((rR.blw hb1).blw hA).mod mm2 (by omega), by omega, by omega, by omega⟩
  have hn12 : n ≤ 11 := by omega
  have zz : w.heap.size < w1.heap.size := by omega
  clear c2 mm2 hA hb2 own1 hb1 rR hb0 h s0 hn z1
  generalize w1.heap.size = z at *
  go_wp2_with fail
  go_loopw [4] (fun i wr => ∃ l : Nat, l ≤ n ∧ i = .int .i64 l ∧ ∃ m s c d, Dm Y w wr C (k + 2 + (n - l) * 8) z w.heap.size m s c d) (fun i _ => (intOf i).toNat)
  case atStart => exact ⟨n, Nat.le_refl _, rfl, m1, _, _, _, by rw [Nat.sub_self]; exact D0.out⟩
  case round =>
    obtain ⟨l, hl, rfl, m, s, c, d, D⟩ := hrel
    clear D0
    by_cases hl0 : 0 < l
    · have d1 : decide ((l : Int) > 0) = true := by simp; omega
      obtain ⟨K, eK⟩ : ∃ K, K = k + 2 + (n - l) * 8 := ⟨_, rfl⟩
      rw [← eK] at D
      have hK : K ≤ 800090 := by omega
      have DD : Hid (Dm Y w wr C K z w.heap.size m s c d) := D
      have C0 : Hid (Cur Y wr C K) := D.cur
      have HM : Hid (MemAt _ wr m (MD.full s c d)) := D.own.at
      have hCr : C < wr.heap.size := D.cur.lt
      have HYr : Hid (∀ b, Y b → b < wr.heap.size) := fun b hb => Nat.lt_of_lt_of_le (HY.out b hb) D.mod.size
      obtain ⟨A0, A1, A2⟩ := box3_mod (R := C) D.box (by have := D.oz; omega)
      clear D
      go_upto_region 5 with fail
      go_cut [5, 6] from 12 to 39 (fun a b wx => ∃ z5 m5 M5 ok, a = .pointer (some ⟨z5, 0, none⟩) ∧ b = .bool ok ∧ (∃ x y, stOut (MD.full s c d) x y M5 ok) ∧ Drawn Y wr wx C (K + 4) z5 m5 M5)
      case first =>
        go_region_held3 (fun w' => Mod (fun b => b = C) wr w') ((first | exact (Mod.refl _ _).drew | assumption | exact Mod.alloc kf _ | exact Mod.alloc kp2 _ | exact Mod.alloc kp1 _ | exact Mod.alloc (Mod.refl _ _).drew _ | exact setz kf hz)) (first
          | (go_at_call_of 51 (Value.int IntKind.i64 20); refine (pick_any Y C (K + 0) 20 _ (by omega) (by omega) (by first | exact C0.out.blw (Blw.refl _).drew | exact C0.out.blw (Blw.alloc (Blw.refl _).drew _))).mono ?_; rintro e wp1 ⟨x1, rfl, hx1, cp1, mp1⟩; have kp1 : Mod (fun b => b = C) wr wp1 := Mod.trans (by assumption) mp1; have zk1 := kp1.size; have sb1 := mp1.size)
          | (go_at_call_of 51 (Value.int IntKind.i64 9); refine (pick_any Y C (K + 2) 9 _ (by omega) (by omega) (by first | exact cp1 | exact cp1.blw ((Blw.refl _).alloc _))).mono ?_; rintro e wp2 ⟨x2, rfl, hx2, cp2, mp2⟩; have kp2 : Mod (fun b => b = C) wr wp2 := Mod.trans (by assumption) mp2; have zk2 := kp2.size; have sb2 := mp2.size)
          | (go_at_call 110; refine (specStore_any m (MD.full s c d) _ _ x1 x2 (by exact HM.out.mod (by assumption) (fun b hb => by have := hb.1; omega))).mono ?_; rintro e wf ⟨mf, Mf, ok, rfl, hout, ownf, hbf⟩; have sbf := hbf.size; have kf : Mod (fun b => b = C) wr wf := Mod.setBlw (by assumption) hbf; have zkf := kf.size; have cf : Cur Y wf C (K + 4) := (by first | exact cp2.blw hbf | exact (cp2.blw ((Blw.refl _).alloc _)).blw hbf); (first | (have rZ := (row_box wp2 26).blw hbf; have hz : wr.heap.size ≤ wp2.heap.size := (by omega); obtain ⟨⟨y0, y1, y2⟩, f0, f1, f2⟩ := res6 rZ) | (have rZ := Row.blw (Row.mod (row_box wp1 26) mp2 (by omega)) hbf; have hz : wr.heap.size ≤ wp1.heap.size := (by omega); obtain ⟨⟨y0, y1, y2⟩, f0, f1, f2⟩ := res6 rZ) | (have rZ : Row wf wr.heap.size 3 (fun _ => .slice none 0 0) := Row.blw (Row.mod (Row.mod (row_box wr.drew 26) mp1 (by show ¬ wr.heap.size = C; omega)) mp2 (by show ¬ wr.heap.size = C; omega)) hbf; have hz : wr.heap.size ≤ wr.heap.size := (by omega); obtain ⟨⟨y0, y1, y2⟩, f0, f1, f2⟩ := res6 rZ) | skip)))
        all_goals go_wp2_with fail
        all_goals go_meet
        all_goals try simp only [World.size_alloc, World.size_drew] at ownf sbf sb1 sb2
        all_goals first
          | exact ⟨_, mf, Mf, ok, rfl, rfl, ⟨_, _, hout⟩, Drawn.late cf kf ownf (fun b hb => ⟨by have := hb.1; omega, hb.2⟩)⟩
          | exact ⟨_, mf, Mf, ok, rfl, rfl, ⟨_, _, hout⟩, Drawn.early cf kf rZ hz hCr HYr.out ownf (fun b hb => ⟨by have := hb.1; omega, hb.2, by have := hb.1; omega⟩)⟩
      case rest =>
        obtain ⟨z5, m5, M5, ok, rfl, rfl, ⟨x5, y5, hst⟩, E⟩ := hcut
        have HST : Hid (stOut (MD.full s c d) x5 y5 M5 ok) := hst
        have HE : Hid (Drawn Y wr wc C (K + 4) z5 m5 M5) := E
        clear hst E A0 A1 A2 C0 HM hCr HYr
        go_upto_if 25 with fail
        go_cut [] from 12 to 39 (fun wx => ∃ m s c d, Dm Y w wx C (K + 4) z w.heap.size m s c d)
        case first =>
          cases ok
          · go_wp2_with fail
            go_meet
            exact ⟨m, s, c, d, DD.out.stay HE.out.mod HE.out.cur hC⟩
          · obtain ⟨s5, c5, d5, rfl⟩ : ∃ s5 c5 d5, M5 = MD.full s5 c5 d5 := by
              rcases HST.out with ⟨_, _, _, _, _, rfl, _⟩ | ⟨_, _, g⟩
              · exact ⟨_, _, _, rfl⟩
              · cases g
            have rz := DD.out.box.mod HE.out.mod (by have := DD.out.oz; omega)
            obtain ⟨p0, p1, p2⟩ := get3 HE.out.box
            obtain ⟨q0, q1, q2⟩ := get3 rz
            have f0 := rz.frozen 0
            have f1 := rz.frozen 1
            have f2 := rz.frozen 2
            clear rz
            simp only [MD.full] at p0 p1 p2 q0 q1 q2
            go_wp2_with fail
            go_meet
            exact ⟨m5, s5, c5, d5, DD.out.take HE.out hC HY.out⟩
        case rest =>
          obtain ⟨m', s', c', d', D⟩ := hcut
          clear HE HST DD m5 M5 x5 y5 m s c d
          obtain ⟨wq, hwq⟩ : ∃ wq, wc = wq := ⟨_, rfl⟩
          subst hwq
          obtain ⟨K2, eK2⟩ : ∃ K2, K2 = K + 4 := ⟨_, rfl⟩
          rw [← eK2] at D
          have hK2 : K2 ≤ 800094 := by omega
          have DD : Hid (Dm Y w wc C K2 z w.heap.size m' s' c' d') := D
          have C0 : Hid (Cur Y wc C K2) := D.cur
          have HM : Hid (MemAt _ wc m' (MD.full s' c' d')) := D.own.at
          have hCr : C < wc.heap.size := D.cur.lt
          have HYr : Hid (∀ b, Y b → b < wc.heap.size) := fun b hb => Nat.lt_of_lt_of_le (HY.out b hb) D.mod.size
          obtain ⟨A0, A1, A2⟩ := box3_mod (R := C) D.box (by have := D.oz; omega)
          clear D
          go_upto_region 8 with fail
          go_cut [7, 8] from 12 to 39 (fun a b wx => ∃ z5 m5 M5 ok, a = .pointer (some ⟨z5, 0, none⟩) ∧ b = .bool ok ∧ (∃ x, flOut (MD.full s' c' d') x M5 ok) ∧ Drawn Y wc wx C (K2 + 2) z5 m5 M5)
          case first =>
            go_region_held3 (fun w' => Mod (fun b => b = C) wc w') ((first | exact (Mod.refl _ _).drew | assumption | exact Mod.alloc kf _ | exact Mod.alloc kp1 _ | exact Mod.alloc (Mod.refl _ _).drew _ | exact setz kf hz)) (first
              | (go_at_call_of 51 (Value.int IntKind.i64 5); refine (pick_any Y C (K2 + 0) 5 _ (by omega) (by omega) (by first | exact C0.out.blw (Blw.refl _).drew | exact C0.out.blw (Blw.alloc (Blw.refl _).drew _))).mono ?_; rintro e wp1 ⟨x1, rfl, hx1, cp1, mp1⟩; have kp1 : Mod (fun b => b = C) wc wp1 := Mod.trans (by assumption) mp1; have zk1 := kp1.size; have sb1 := mp1.size)
              | (go_at_call 113; refine (specFlush_any m' (MD.full s' c' d') _ _ x1 (by exact HM.out.mod (by assumption) (fun b hb => by have := hb.1; omega))).mono ?_; rintro e wf ⟨mf, Mf, ok, rfl, hout, ownf, hbf⟩; have sbf := hbf.size; have kf : Mod (fun b => b = C) wc wf := Mod.setBlw (by assumption) hbf; have zkf := kf.size; have cf : Cur Y wf C (K2 + 2) := (by first | exact cp1.blw hbf | exact (cp1.blw ((Blw.refl _).alloc _)).blw hbf); (first | (have rZ := (row_box wp1 26).blw hbf; have hz : wc.heap.size ≤ wp1.heap.size := (by omega); obtain ⟨⟨y0, y1, y2⟩, f0, f1, f2⟩ := res6 rZ) | (have rZ : Row wf wc.heap.size 3 (fun _ => .slice none 0 0) := Row.blw (Row.mod (row_box wc.drew 26) mp1 (by show ¬ wc.heap.size = C; omega)) hbf; have hz : wc.heap.size ≤ wc.heap.size := (by omega); obtain ⟨⟨y0, y1, y2⟩, f0, f1, f2⟩ := res6 rZ) | skip)))
            all_goals go_wp2_with fail
            all_goals go_meet
            all_goals try simp only [World.size_alloc, World.size_drew] at ownf sbf sb1
            all_goals first
              | exact ⟨_, mf, Mf, ok, rfl, rfl, ⟨_, hout⟩, Drawn.late cf kf ownf (fun b hb => ⟨by have := hb.1; omega, hb.2⟩)⟩
              | exact ⟨_, mf, Mf, ok, rfl, rfl, ⟨_, hout⟩, Drawn.early cf kf rZ hz hCr HYr.out ownf (fun b hb => ⟨by have := hb.1; omega, hb.2, by have := hb.1; omega⟩)⟩
          case rest =>
            obtain ⟨z5, m5, M5, ok, rfl, rfl, ⟨x5, hst⟩, E⟩ := hcut
            have HST : Hid (flOut (MD.full s' c' d') x5 M5 ok) := hst
            have HE : Hid (Drawn Y _ wc C (K2 + 2) z5 m5 M5) := E
            clear hst E A0 A1 A2 C0 HM HYr
            cases ok
            · have J := DD.out.stay HE.out.mod (HE.out.cur.le (k' := k + 2 + (n - (l - 1)) * 8) (by omega)) hC
              clear DD HE HST
              go_wp2
              go_roundw
              case rel => exact ⟨l - 1, by omega, by congr 1; omega, m', s', c', d', J⟩
              case measure => simp [intOf]; omega
            · obtain ⟨s5, c5, d5, rfl⟩ : ∃ s5 c5 d5, M5 = MD.full s5 c5 d5 := by
                rcases HST.out with ⟨_, _, _, _, rfl, _⟩ | ⟨_, _, g⟩
                · exact ⟨_, _, _, rfl⟩
                · cases g
              clear HST
              go_wp2_with fail
              refine (one_any Y C (K2 + 2) 3 _ (by omega) (by omega) HE.out.cur).mono ?_
              rintro e wo ⟨bo, rfl, co, mo⟩
              cases bo
              · have J := DD.out.stay (HE.out.mod.trans mo) (co.le (k' := k + 2 + (n - (l - 1)) * 8) (by omega)) hC
                clear DD HE co mo
                go_wp2
                go_roundw
                case rel => exact ⟨l - 1, by omega, by congr 1; omega, m', s', c', d', J⟩
                case measure => simp [intOf]; omega
              · have HE2 := HE.out.more mo (co.le (k' := k + 2 + (n - (l - 1)) * 8) (by omega)) hCr
                have rz := DD.out.box.mod HE2.mod (by have := DD.out.oz; omega)
                obtain ⟨p0, p1, p2⟩ := get3 HE2.box
                obtain ⟨q0, q1, q2⟩ := get3 rz
                have f0 := rz.frozen 0
                have f1 := rz.frozen 1
                have f2 := rz.frozen 2
                have J : Hid _ := DD.out.take HE2 hC HY.out
                clear rz HE2 DD HE co mo
                simp only [MD.full] at p0 p1 p2 q0 q1 q2
                go_wp2
                go_roundw
                case rel => exact ⟨l - 1, by omega, by congr 1; omega, m5, s5, c5, d5, J.out⟩
                case measure => simp [intOf]; omega
    · obtain rfl : l = 0 := by omega
      have d1 : decide (((0 : Nat) : Int) > 0) = false := by decide
      have DD : Hid (Dm Y w wr C (k + 2 + (n - 0) * 8) z w.heap.size m s c d) := D
      clear D hl hl0
      go_wp2_with fail
      refine (pick_any Y C (k + 2 + (n - 0) * 8) 30 _ (by omega) (by omega) DD.out.cur).mono ?_
      rintro e wp ⟨v, rfl, hv, cp, mp⟩
      have DP : Hid (Dm Y w wp C (k + 92) z w.heap.size m s c d) := DD.out.stay mp (cp.le (by omega)) hC
      clear DD cp mp
      by_cases h0 : v = 0
      · have e0 : ((v : Int) == 0) = true := by simp [h0]
        obtain ⟨b3, hx3, ea3, r3, next3⟩ := own_dirty DP.out.own
        have N3 : Hid _ := next3
        have Cp : Hid (Cur Y wp C (k + 92)) := DP.out.cur
        have bz := DP.out.box
        have oz := DP.out.oz
        have b3C : b3 ≠ C := by omega
        have b3z : b3 ≠ z := hx3.2.2.1
        obtain ⟨A0, A1, A2⟩ := box3_mod2 (R := C) (R2 := b3) bz (by omega) (by omega)
        rw [ea3] at A2
        clear ea3
        simp only [MD.full] at A0 A1 A2
        have T3 : ∀ i, i < 12 → ∀ w', Mod (fun x => x = C) wp w' → w'.cell? ⟨b3, i, none⟩ = some (.bool (d i)) ∧ w'.frozen? ⟨b3, i, none⟩ = false := fun i hi w' hm => ⟨(r3.mod hm b3C).cell hi, (r3.mod hm b3C).frozen i⟩
        have H3 : Hid _ := T3
        have R3 : Hid (Row wp b3 12 (fun i => .bool (d i))) := r3
        clear next3 T3 r3 bz
        go_upto_region 13 with fail
        go_region_held3 (fun w' => Mod (fun x => x = C ∨ x = b3) wp w') ((first | exact (Mod.refl _ _).drew | assumption | exact Mod.mono m8 (fun k hk => Or.inl hk) | exact Mod.mono m7 (fun k hk => Or.inl hk) | exact Mod.trans (Mod.mono m8 (fun k hk => Or.inl hk)) (Mod.setCell _ (Or.inr rfl) _))) (first
          | (go_at_call 51; refine (pick_any Y C (k + 92) 12 _ (by omega) (by omega) (by exact Cp.out.blw (Blw.refl _).drew)).mono ?_; rintro e w7 ⟨x7, rfl, hx7, c7, m70⟩; have m7 : Mod (fun x => x = C) wp w7 := Mod.trans (Mod.refl _ _).drew m70)
          | (go_at_call 74; refine (one_any Y C (k + 94) 2 _ (by omega) (by omega) (by exact c7)).mono ?_; rintro e w8 ⟨b8, rfl, c8, m80⟩; have m8 : Mod (fun x => x = C) wp w8 := Mod.trans m7 m80; have hx7' : x7 < 12 := (by omega); obtain ⟨t0, t1⟩ := H3.out x7 hx7' w8 m8))
        all_goals have D := DP.out.dirty (v := b8) N3.out R3.out hx7' b3C hx3 m8 c8 hC HY.out
        all_goals have e1 : ((v : Int) == 1) = false := by simp; omega
        all_goals obtain ⟨p0, p1, p2⟩ := get3 D.box
        all_goals obtain ⟨⟨x0, x1, x2⟩, f0, f1, f2⟩ := res6 D.res
        all_goals have F : Hid _ := D.done hC HY.out
        all_goals clear D A0 A1 A2 N3 H3 R3 Cp DP
        all_goals simp only [MD.full] at p0 p1 p2
        all_goals go_wp2
        all_goals exact bodyPost_ret (v := m.val (MD.full s c (fun j => if j = x7 then b8 else d j))) (by simp [results, Try.results75, go_sem, x0, x1, x2, MD.full]) rfl ⟨m, _, _, _, rfl, F.out.2.1, F.out.1.le (by omega), F.out.2.2⟩
      · have e0 : ((v : Int) == 0) = false := by simp; omega
        by_cases h1 : v = 1
        · have e1 : ((v : Int) == 1) = true := by simp [h1]
          obtain ⟨bL, bW, cW, hxW, hLW, eaL, cL, rW, nextW⟩ := own_word DP.out.own
          have NW : Hid _ := nextW
          have Cp : Hid (Cur Y wp C (k + 92)) := DP.out.cur
          have bz := DP.out.box
          have oz := DP.out.oz
          have zlt := bz.lt
          have bWC : bW ≠ C := by omega
          have bLC : bL ≠ C := by omega
          obtain ⟨A0, A1, A2⟩ := box3_mod2 (R := C) (R2 := bW) bz (by omega) (by omega)
          rw [eaL] at A0
          clear eaL
          simp only [MD.full] at A0 A1 A2
          have AL : ∀ w', Mod (fun x => x = C ∨ x = bW) wp w' → w'.cell? ⟨bL, 0, none⟩ = some (.slice (some ⟨bW, 0, none⟩) 4 cW) := fun w' hm => hm.cell cL (by show ¬ (bL = C ∨ bL = bW); omega)
          have TW : ∀ w', Mod (fun x => x = C) wp w' → w'.cell? ⟨bW, 0, none⟩ = some (.int .i64 (s 0 0)) ∧ w'.frozen? ⟨bW, 0, none⟩ = false := fun w' hm => ⟨(rW.mod hm bWC).cell (i := 0) (by omega), (rW.mod hm bWC).frozen 0⟩
          have HW : Hid _ := TW
          have RW : Hid (Row wp bW 4 (fun t => .int .i64 (s 0 t))) := rW
          clear nextW TW rW bz cL
          go_upto_region 15 with fail
          go_region_held3 (fun w' => Mod (fun x => x = C ∨ x = bW) wp w') ((first | exact (Mod.refl _ _).drew | assumption | exact Mod.alloc (Mod.refl _ _).drew _ | exact Mod.mono m8 (fun k hk => Or.inl hk) | exact Mod.trans (Mod.mono m8 (fun k hk => Or.inl hk)) (Mod.setCell _ (Or.inr rfl) _))) (first
            | (go_at_call 112; refine (among_any Y _ C (k + 92) _ 3 3 _ _ (by omega) (by omega) (by exact ints_lit wp.drew [-1, 65535, 65536] 3 (by simp)) (by intro b hb; have hb' : b = wp.heap.size := hb; have := Cp.out.lt; omega) (by exact Cp.out.blw (Blw.alloc (Blw.refl _).drew _))).mono ?_; rintro e w8 ⟨x8, rfl, c8, m80⟩; have m8 : Mod (fun x => x = C) wp w8 := Mod.trans (Mod.alloc (Mod.refl _ _).drew _) m80; obtain ⟨t0, t1⟩ := HW.out w8 m8))
          all_goals have D := DP.out.word (v := x8) NW.out RW.out bWC hxW m8 c8 hC HY.out
          all_goals obtain ⟨p0, p1, p2⟩ := get3 D.box
          all_goals obtain ⟨⟨x0, x1, x2⟩, f0, f1, f2⟩ := res6 D.res
          all_goals have F : Hid _ := D.done hC HY.out
          all_goals clear D A0 A1 A2 AL NW HW RW Cp DP
          all_goals simp only [MD.full] at p0 p1 p2
          all_goals go_wp2
          all_goals exact bodyPost_ret (v := m.val (MD.full (fun i => if i = 0 then (fun t => if t = 0 then x8 else s 0 t) else s i) c d)) (by simp [results, Try.results75, go_sem, x0, x1, x2, MD.full]) rfl ⟨m, _, _, _, rfl, F.out.2.1, F.out.1.le (by omega), F.out.2.2⟩
        · have e1 : ((v : Int) == 1) = false := by simp; omega
          obtain ⟨p0, p1, p2⟩ := get3 DP.out.box
          obtain ⟨⟨x0, x1, x2⟩, f0, f1, f2⟩ := res6 DP.out.res
          have F : Hid _ := DP.out.done hC HY.out
          clear DP
          simp only [MD.full] at p0 p1 p2
          go_wp2
          exact bodyPost_ret (v := m.val (MD.full s c d)) (by simp [results, Try.results75, go_sem, x0, x1, x2, MD.full]) rfl ⟨m, _, _, _, rfl, F.out.2.1, F.out.1.le (by omega), F.out.2.2⟩
end Go.Proofs.Ytglllnklcnlcjaa
/- What is drawn for the laws on stores. -/
namespace Go.Proofs.Ytglllnklcnlcjaa
open Go.RowKit
set_option linter.unusedSimpArgs false
set_option linter.unusedVariables false
abbrev drawW (w : World) (ao : Option Addr) (n c : Nat) : World := (w.alloc (.cells #[.slice none 0 0, .slice none 0 0, .slice none 0 0] 26)).alloc (.cells #[.slice ao n c, .int .i64 0, .int .u64 0] 75)
theorem draw_start (w : World) (ao : Option Addr) (n c : Nat) (f : Nat → Int) (h : BytesAt (fun b => b < w.heap.size) w ao n f) :
    Blw w (drawW w ao n c) ∧ Cur (fun b => b < w.heap.size) (drawW w ao n c) (w.heap.size + 1) 0 ∧ Row (drawW w ao n c) w.heap.size 3 (fun _ => .slice none 0 0) ∧ (drawW w ao n c).heap.size = w.heap.size + 2 := by
  have hb : Blw w (drawW w ao n c) := ((Blw.refl _).alloc _).alloc _
  refine ⟨hb, ⟨ao, n, c, 0, f, 0, ?_, h.blw hb, Nat.le_refl _, fun b hb => by omega⟩, (row_box w 26).blw ((Blw.refl _).alloc _), by simp⟩
  have := box3 (w.alloc (.cells #[.slice none 0 0, .slice none 0 0, .slice none 0 0] 26)) (.slice ao n c) (.int .i64 0) (.int .u64 0) 75
  rw [World.size_alloc] at this
  exact this
/-- What is drawn stands behind the draw: R the result's box, C the cursor. -/
structure Ds (w W : World) (k : Nat) (m : MV) (s c : Nat → Nat → Int) (d : Nat → Bool) : Prop where
  cur : Cur (fun b => b < w.heap.size) W (w.heap.size + 1) k
  res : Row W w.heap.size 3 (fun _ => .slice none 0 0)
  own : MemOwn (fun b => w.heap.size + 2 ≤ b ∧ b < W.heap.size) W m (MD.full s c d)
  blw : Blw w W
theorem Ds.start {w w1 : World} {ao : Option Addr} {n c0 : Nat} {f : Nat → Int} {m : MV} {s c : Nat → Nat → Int} {d : Nat → Bool} {k : Nat} (h : BytesAt (fun b => b < w.heap.size) w ao n f) (own : MemOwn (fun b => (drawW w ao n c0).heap.size ≤ b ∧ b < w1.heap.size) w1 m (MD.full s c d)) (cur : Cur (fun b => b < w.heap.size) w1 (w.heap.size + 1) k) (hm : Mod (fun b => b = w.heap.size + 1) (drawW w ao n c0) w1) : Ds w w1 k m s c d := by
  obtain ⟨h1, _, h3, h4⟩ := draw_start w ao n c0 f h
  exact ⟨cur, h3.mod hm (by omega), own.mono (fun b hb => ⟨by have := hb.1; omega, hb.2⟩), Mod.blw h1 hm (fun i hi => by omega)⟩
theorem Ds.go {w W W' : World} {k k' : Nat} {m : MV} {s c : Nat → Nat → Int} {d : Nat → Bool} (D : Ds w W k m s c d) (hm : Mod (fun b => b = w.heap.size + 1) W W') (cur : Cur (fun b => b < w.heap.size) W' (w.heap.size + 1) k') : Ds w W' k' m s c d :=
  ⟨cur, D.res.mod hm (by omega), (D.own.mod hm (fun b hb => by have := hb.1; omega)).mono (fun b hb => ⟨hb.1, by have := hb.2; have := hm.size; omega⟩), Mod.blw D.blw hm (fun i hi => by omega)⟩
theorem Ds.more {w W W' : World} {k : Nat} {m : MV} {s c : Nat → Nat → Int} {d : Nat → Bool} (D : Ds w W k m s c d) (hb : Blw W W') : Ds w W' k m s c d :=
  D.go (hb.mod _) (D.cur.blw hb)
/-- It is handed back. -/
theorem Ds.done {w W : World} {k : Nat} {m : MV} {s c : Nat → Nat → Int} {d : Nat → Bool} (D : Ds w W k m s c d) :
    MemOwn (fun b => w.heap.size ≤ b ∧ b < (((W.setCell ⟨w.heap.size, 0, none⟩ (.slice m.a1 12 m.c1)).setCell ⟨w.heap.size, 1, none⟩ (.slice m.a2 12 m.c2)).setCell ⟨w.heap.size, 2, none⟩ (.slice m.a3 12 m.c3)).heap.size) (((W.setCell ⟨w.heap.size, 0, none⟩ (.slice m.a1 12 m.c1)).setCell ⟨w.heap.size, 1, none⟩ (.slice m.a2 12 m.c2)).setCell ⟨w.heap.size, 2, none⟩ (.slice m.a3 12 m.c3)) m (MD.full s c d) ∧
    Blw w (((W.setCell ⟨w.heap.size, 0, none⟩ (.slice m.a1 12 m.c1)).setCell ⟨w.heap.size, 1, none⟩ (.slice m.a2 12 m.c2)).setCell ⟨w.heap.size, 2, none⟩ (.slice m.a3 12 m.c3)) := by
  have hs := mod_set3 W w.heap.size (.slice m.a1 12 m.c1) (.slice m.a2 12 m.c2) (.slice m.a3 12 m.c3)
  have hsz := hs.size
  exact ⟨(D.own.mod hs (fun b hb => by have := hb.1; omega)).mono (fun b hb => ⟨by have := hb.1; omega, by have := hb.2; omega⟩), Mod.blw D.blw hs (fun i hi => by omega)⟩
end Go.Proofs.Ytglllnklcnlcjaa
/- What is drawn for StoreAll: a list of words, too. -/

namespace Go.Proofs.Ytglllnklcnlcjaa
open Go.RowKit
set_option linter.unusedSimpArgs false
set_option linter.unusedVariables false
theorem ownsRow_modN {w w' : World} {Z : Nat → Prop} {v : Value} {n s : Nat} {xs : List Value} {e : TypeId} (h : w.ownsRow 0 e s v n xs) (hm : Mod Z w w') (hz : ∀ g, v.ownBlock = some g → ¬ Z g) : w'.ownsRow 0 e s v n xs := by
  obtain ⟨h1, h2⟩ := h
  refine ⟨h1, ?_⟩
  rcases h2 with h2 | ⟨g, cap, cur, rfl, hg, hh, r⟩
  · exact Or.inl h2
  · refine Or.inr ⟨g, cap, cur, rfl, hg, ?_, r⟩
    rw [hm.block g (Array.getElem?_eq_some_iff.1 hh).1 (hz g rfl)]
    exact hh
/-- A list of numbers that is built behind w0, while the cursor at C goes on. -/
structure PutI (Y : Nat → Prop) (w0 wr : World) (C k : Nat) (v : Value) (l : List Int) : Prop where
  own : wr.ownsRow 0 3 1 v l.length (l.map (fun x => Value.int .i64 x))
  blk : ∀ g, v.ownBlock = some g → w0.heap.size ≤ g ∧ g < wr.heap.size
  mod : Mod (fun b => b = C) w0 wr
  cur : Cur Y wr C k
theorem PutI.next {Y : Nat → Prop} {w0 wr wp w' : World} {C k k' : Nat} {v : Value} {l : List Int} {g cap : Nat} {t : Int} (P : PutI Y w0 wr C k v l) (hC : C < w0.heap.size) (hY : ∀ b, Y b → b < w0.heap.size) (hp : Mod (fun b => b = C) wr wp) (cur : Cur Y wp C k')
    (own' : w'.ownsRow 0 3 1 (.slice (some ⟨g, 0, none⟩) (l.length + 1) cap) (l.length + 1) (l.map (fun x => Value.int .i64 x) ++ [.int .i64 t])) (gr : (wp.alloc (.cells #[.int .i64 t] 3)).grownBy w' v.ownBlock) (hg : v.ownBlock = some g ∨ g = (wp.alloc (.cells #[.int .i64 t] 3)).heap.size) (hgl : g < w'.heap.size) :
    PutI Y w0 w' C k' (.slice (some ⟨g, 0, none⟩) (l.length + 1) cap) (l ++ [t]) := by
  have hm : Mod (fun x => v.ownBlock = some x) (wp.alloc (.cells #[.int .i64 t] 3)) w' := grown_mod gr
  have m1 : Mod (fun b => b = C) w0 (wp.alloc (.cells #[.int .i64 t] 3)) := (P.mod.trans hp).alloc _
  have s1 := m1.size
  refine ⟨?_, fun x hx => ?_, ⟨hm.os.trans m1.os, hm.tape.trans m1.tape, hm.output.trans m1.output, Nat.le_trans m1.size hm.size, fun i hi hx => (hm.block i (Nat.lt_of_lt_of_le hi m1.size) (fun e => by have := (P.blk i e).1; omega)).trans (m1.block i hi hx)⟩, (cur.blw ((Blw.refl _).alloc _)).mod hm (fun e => by have := (P.blk C e).1; omega) (fun b hb e => by have := (P.blk b e).1; have := hY b hb; omega)⟩
  · rw [List.map_append, List.length_append]
    exact own'
  · simp only [Value.ownBlock, Option.some.injEq] at hx
    subst hx
    rcases hg with hg | hg
    · exact ⟨(P.blk _ hg).1, hgl⟩
    · exact ⟨by omega, hgl⟩
theorem PutI.ints {Y : Nat → Prop} {w0 wr : World} {C k : Nat} {v : Value} {l : List Int} (P : PutI Y w0 wr C k v l) (hl : l.length ≤ 100) : ∃ ao cap, v = .slice ao l.length cap ∧ IntsAt (fun b => w0.heap.size ≤ b ∧ b < wr.heap.size) wr ao l.length (fun i => l.getD i 0) := by
  have own := P.own
  have blk := P.blk
  rcases P.own.2 with ⟨e1, e2⟩ | ⟨g, cap, cur, rfl, r⟩
  · subst e1
    exact ⟨none, 0, by rw [e2], by omega, fun i hi => by omega⟩
  · refine ⟨_, cap, rfl, by omega, fun i hi => ?_⟩
    have rr : Row wr g l.length (fun i => .int .i64 (l.getD i 0)) := owned_row own (fun i hi => by simp [hi]) (by omega)
    exact ⟨g, 0, rfl, blk g rfl, by rw [Nat.zero_add]; exact rr.cell hi⟩
end Go.Proofs.Ytglllnklcnlcjaa
/- What is drawn for the law on memories. -/
namespace Go.Proofs.Ytglllnklcnlcjaa
open Go.RowKit
set_option linter.unusedSimpArgs false
set_option linter.unusedVariables false
theorem BytesAt.mono' {X Y : Nat → Prop} {w : World} {ao : Option Addr} {n : Nat} {f : Nat → Int} (h : BytesAt X w ao n f) (hxy : ∀ b, X b → Y b) : BytesAt Y w ao n f :=
  ⟨h.1, fun i hi => let ⟨b, o, h1, hX, h2⟩ := h.2 i hi; ⟨b, o, h1, hxy _ hX, h2⟩⟩
theorem PutI.go {Y : Nat → Prop} {w0 wr wp : World} {C k k' : Nat} {v : Value} {l : List Int} (P : PutI Y w0 wr C k v l) (hC : C < w0.heap.size) (hp : Mod (fun b => b = C) wr wp) (cur : Cur Y wp C k') : PutI Y w0 wp C k' v l :=
  ⟨ownsRow_modN P.own hp (fun g hg e => by have := (P.blk g hg).1; omega), fun g hg => ⟨(P.blk g hg).1, Nat.lt_of_lt_of_le (P.blk g hg).2 hp.size⟩, P.mod.trans hp, cur⟩
theorem int_src (w : World) (x : Int) : ∀ j u, [Value.int .i64 x][j]? = some u → (w.alloc (.cells #[.int .i64 x] 3)).cell? ((⟨w.heap.size, 0, none⟩ : Addr).add j) = some u := fun j u hj => by
  match j, hj with
  | 0, hj => rw [← hj]; go_cell
  | j + 1, hj => simp at hj
set_option maxRecDepth 10000 in
set_option maxHeartbeats 3200000 in
theorem kept_any (Y : Nat → Prop) (C k : Nat) (w : World) (hk : k ≤ 800000) (hY : ∀ b, Y b → b < w.heap.size) (h : Cur Y w C k) :
    Calls Try.prog 52 #[.pointer (some ⟨C, 0, none⟩)] w fun e w' => ∃ a n c f, e = .returned (.slice a n c) ∧ n ≤ 13 ∧ IntsAt (fun b => w.heap.size ≤ b ∧ b < w'.heap.size) w' a n f ∧ Cur Y w' C (k + 26) ∧ Mod (fun b => b = C) w w' := by
  obtain ⟨i0, hi0, hz0, hz1, hz2⟩ := info_parts tinfo3
  have hC := h.lt
  have HY : Hid (∀ b, Y b → b < w.heap.size) := hY
  have H0 : Hid (Cur Y w C k) := h
  clear hY h
  go_enter Try.func52, Try.ntmps52
  go_wp2_with fail
  go_loopw [3, 4] (fun v i wr => ∃ (l : Nat) (L : List Int), l ≤ 12 ∧ i = .int .i64 l ∧ L.length ≤ l ∧ PutI Y w wr C (k + 2 * l) v L) (fun _ i _ => 12 - (intOf i).toNat)
  case atStart => exact ⟨0, [], by omega, rfl, by simp, ⟨⟨by simp, Or.inl ⟨rfl, rfl⟩⟩, fun g hg => by simp [Value.ownBlock] at hg, Mod.refl _ _, H0.out⟩⟩
  case round =>
    obtain ⟨l, L, hl, rfl, hL, P⟩ := hrel
    by_cases hlt : l < 12
    · have hlt' : (l : Int) < 12 := by omega
      have HP : Hid _ := P
      clear P
      go_wp2_with fail
      refine (one_any _ C (k + 2 * l) 2 _ (by omega) (by omega) HP.out.cur).mono ?_
      rintro e wp ⟨b, rfl, cp, mp⟩
      cases b
      · have J := HP.out.go hC mp (cp.le (k' := k + 2 * (l + 1)) (by omega))
        clear HP cp mp
        go_wp2
        go_roundw
        case rel => exact ⟨l + 1, L, by omega, by go_num, by omega, J⟩
        case measure => simp [intOf]; omega
      · have HO : Hid ((wp.alloc (.cells #[.int .i64 (l : Int)] 3)).ownsRow 0 3 1 _ L.length (L.map (fun x => Value.int .i64 x))) := ownsRow_modN (ownsRow_modN HP.out.own mp (fun g hg e => by have := (HP.out.blk g hg).1; omega)) (((Blw.refl wp).alloc _).mod (fun _ => False)) (fun _ _ => id)
        have HSrc : Hid _ := int_src wp (l : Int)
        have HN : Hid _ := fun g cap w' => HP.out.next (g := g) (cap := cap) (w' := w') (t := (l : Int)) (k' := k + 2 * (l + 1)) hC HY.out mp (cp.le (by omega))
        clear mp cp HP
        go_wp2_with (at_builtin; refine wpList_append_lies _ rfl (.tmp 11) (.tmp 13) 28 rfl 0 3 i0 (.int .i64 0) 1 8 Try.underlying28 hi0 hz0 hz1 hz2 rfl (by decide) _ L.length _ rfl HO.out ⟨wp.heap.size, 0, none⟩ 1 1 [.int .i64 (l : Int)] rfl (by simp) HSrc.out (fun u hu => by simp only [List.mem_singleton] at hu; subst hu; rfl) (by omega) (by unfold maxLen; omega) (by omega) (by omega) _ rfl ?_; intro g cap w' own' gr hg hgl; have I' := HN.out g cap w' own' gr hg hgl; clear own' gr hg hgl)
        clear HN HO HSrc
        go_roundw
        case rel => exact ⟨l + 1, L ++ [(l : Int)], by omega, by go_num, by rw [List.length_append]; simp only [List.length_cons, List.length_nil]; omega, I'⟩
        case measure => simp [intOf]; omega
    · obtain rfl : l = 12 := by omega
      have HP : Hid _ := P
      clear P
      go_wp2_with fail
      refine (one_any _ C (k + 2 * 12) 30 _ (by omega) (by omega) HP.out.cur).mono ?_
      rintro e wp ⟨b, rfl, cp, mp⟩
      cases b
      · have J := HP.out.go hC mp (cp.le (k' := k + 26) (by omega))
        obtain ⟨a2, c2, rfl, hI⟩ := J.ints (by omega)
        have Z : Hid _ := And.intro hI (And.intro J.cur J.mod)
        clear HP cp mp J hI
        go_wp2
        go_ret
        exact ⟨a2, L.length, c2, _, rfl, by omega, Z.out⟩
      · have HO : Hid ((wp.alloc (.cells #[.int .i64 12] 3)).ownsRow 0 3 1 _ L.length (L.map (fun x => Value.int .i64 x))) := ownsRow_modN (ownsRow_modN HP.out.own mp (fun g hg e => by have := (HP.out.blk g hg).1; omega)) (((Blw.refl wp).alloc _).mod (fun _ => False)) (fun _ _ => id)
        have HSrc : Hid _ := int_src wp 12
        have HN : Hid _ := fun g cap w' => HP.out.next (g := g) (cap := cap) (w' := w') (t := 12) (k' := k + 26) hC HY.out mp (cp.le (by omega))
        clear mp cp HP
        go_wp2_with (at_builtin; refine wpList_append_lies _ rfl (.tmp 17) (.tmp 18) 28 rfl 0 3 i0 (.int .i64 0) 1 8 Try.underlying28 hi0 hz0 hz1 hz2 rfl (by decide) _ L.length _ rfl HO.out ⟨wp.heap.size, 0, none⟩ 1 1 [.int .i64 12] rfl (by simp) HSrc.out (fun u hu => by simp only [List.mem_singleton] at hu; subst hu; rfl) (by omega) (by unfold maxLen; omega) (by omega) (by omega) _ rfl ?_; intro g cap w' own' gr hg hgl; have I' := HN.out g cap w' own' gr hg hgl; clear own' gr hg hgl)
        clear HN HO HSrc
        have hln : (L ++ [(12 : Int)]).length = L.length + 1 := by simp
        obtain ⟨a2, c2, e2, hI⟩ := I'.ints (by omega)
        rw [hln] at e2 hI
        rw [e2]
        have Z : Hid _ := And.intro hI (And.intro I'.cur I'.mod)
        clear I' hI e2
        go_ret
        exact ⟨a2, L.length + 1, c2, _, rfl, by omega, Z.out⟩
end Go.Proofs.Ytglllnklcnlcjaa
/- Pairs that are drawn. -/
namespace Go.Proofs.Ytglllnklcnlcjaa
open Go.RowKit
set_option linter.unusedSimpArgs false
set_option linter.unusedVariables false
theorem BufU.pushM {C : Nat} {w wr W : World} {v : Value} {k : Nat} {f g : Nat → Int} (h : BufU (fun x => w.heap.size ≤ x ∧ x < wr.heap.size) wr v k f g) (hb : Blw wr W) (hbw : Mod (fun b => b = C) w wr) (hk : k ≤ 90) :
    ∃ ao' cap w', (Builtin.append_ #[27, 27] 27 #[v, .slice (some ⟨W.heap.size, 0, none⟩) 1 1]).run Try.prog (W.alloc (.cells #[.int .i64 (f k), .int .i64 (g k)] 43)) = .ok (.slice ao' (k + 1) cap) w' ∧ BufU (fun x => w.heap.size ≤ x ∧ x < w'.heap.size) w' (.slice ao' (k + 1) cap) (k + 1) f g ∧ Mod (fun x => w.heap.size ≤ x ∧ x < wr.heap.size) (W.alloc (.cells #[.int .i64 (f k), .int .i64 (g k)] 43)) w' ∧ Mod (fun b => b = C) w w' := by
  have hA : Blw W (W.alloc (.cells #[.int .i64 (f k), .int .i64 (g k)] 43)) := (Blw.refl _).alloc _
  have hs : (W.alloc (.cells #[.int .i64 (f k), .int .i64 (g k)] 43)).heap.size = W.heap.size + 1 := by simp
  have h1 := hb.size
  have h0 := hbw.size
  obtain ⟨ao', cap, w', e1, e2, e3⟩ := BufU.append (Buf.blw h (hb.trans hA)) 1 (one_undo W (f k) (g k)) (by omega) 27
  have hx' : ∀ x, ((w.heap.size ≤ x ∧ x < wr.heap.size) ∨ x = (W.alloc (.cells #[.int .i64 (f k), .int .i64 (g k)] 43)).heap.size) ∧ x < w'.heap.size → w.heap.size ≤ x ∧ x < w'.heap.size := fun x hx => by omega
  refine ⟨ao', cap, w', e1, (Buf.mono e2 hx').congr (fun i hi => ?_), e3.mono (fun x hx => h.2 x hx), (hbw.trans ((hb.trans hA).mod _)).newer e3 (fun i hi => (h.2 i hi).1)⟩
  have q : ∀ (a b : Nat → Int) (hab : ∀ t, t < k + 1 → a t = b t), ∀ c d : Nat → Int, (∀ t, t < k + 1 → c t = d t) → uc a c i = uc b d i := fun a b hab c d hcd => by
    simp only [uc, hab (i / 2) (by omega), hcd (i / 2) (by omega)]
  refine q _ _ (fun t ht => ?_) _ _ (fun t ht => ?_)
  · unfold icat
    by_cases e : t < k
    · rw [if_pos e]
    · rw [if_neg e, show t = k by omega]
  · unfold icat
    by_cases e : t < k
    · rw [if_pos e]
    · rw [if_neg e, show t = k by omega]
/-- Pairs that are being drawn: j of them, the cursor at C. -/
structure Pd (Y : Nat → Prop) (w wr : World) (C K : Nat) (v : Value) (j : Nat) (f g : Nat → Int) : Prop where
  buf : BufU (fun x => w.heap.size ≤ x ∧ x < wr.heap.size) wr v j f g
  cur : Cur Y wr C K
  mod : Mod (fun b => b = C) w wr
theorem Pd.go {Y : Nat → Prop} {w wr wp : World} {C K K' : Nat} {v : Value} {j : Nat} {f g : Nat → Int} (P : Pd Y w wr C K v j f g) (hC : C < w.heap.size) (hm : Mod (fun b => b = C) wr wp) (cur : Cur Y wp C K') : Pd Y w wp C K' v j f g :=
  ⟨(Buf.mod P.buf hm (fun b hb e => by have := hb.1; omega)).mono (fun b hb => ⟨hb.1, Nat.lt_of_lt_of_le hb.2 hm.size⟩), cur, P.mod.trans hm⟩
theorem Pd.next {Y : Nat → Prop} {w wr : World} {C K : Nat} {v : Value} {j : Nat} {f g : Nat → Int} (P : Pd Y w wr C K v j f g) (hC : C < w.heap.size) (hY : ∀ b, Y b → b < w.heap.size) (x y : Int) (hj : j ≤ 90) :
    ∃ ao' cap w', (Builtin.append_ #[27, 27] 27 #[v, .slice (some ⟨wr.heap.size, 0, none⟩) 1 1]).run Try.prog (wr.alloc (.cells #[.int .i64 x, .int .i64 y] 43)) = .ok (.slice ao' (j + 1) cap) w' ∧ Pd Y w w' C K (.slice ao' (j + 1) cap) (j + 1) (fun t => if t = j then x else f t) (fun t => if t = j then y else g t) := by
  have h1 : BufU (fun x => w.heap.size ≤ x ∧ x < wr.heap.size) wr v j (fun t => if t = j then x else f t) (fun t => if t = j then y else g t) := Buf.congr P.buf (fun i hi => by
    have : ¬ i / 2 = j := by omega
    simp only [uc, if_neg this])
  obtain ⟨ao', cap, w', e1, e2, e3, e4⟩ := BufU.pushM h1 (Blw.refl wr) P.mod hj
  simp only [if_true] at e1 e3
  have hs := P.mod.size
  exact ⟨ao', cap, w', e1, e2, (P.cur.blw ((Blw.refl _).alloc _)).mod e3 (fun h => by omega) (fun b hb h => by have := hY b hb; omega), e4⟩
/-- What pairs answers. -/
def GivesPd (Y : Nat → Prop) (C K : Nat) (w : World) (e : Ending) (w' : World) : Prop := ∃ a n c f g, e = .returned (.slice a n c) ∧ n ≤ 3 ∧ UndosAt (fun x => w.heap.size ≤ x ∧ x < w'.heap.size) w' a n f g ∧ Cur Y w' C K ∧ Mod (fun b => b = C) w w'
set_option maxRecDepth 10000 in
set_option maxHeartbeats 3200000 in
theorem pairs_any (Y : Nat → Prop) (C k : Nat) (w : World) (hk : k ≤ 800000) (hY : ∀ b, Y b → b < w.heap.size) (h : Cur Y w C k) :
    Calls Try.prog 72 #[.pointer (some ⟨C, 0, none⟩)] w (GivesPd Y C (k + 20) w) := by
  have hC := h.lt
  have HY : Hid (∀ b, Y b → b < w.heap.size) := hY
  have H0 : Hid (Cur Y w C k) := h
  clear hY h
  go_enter Try.func72, Try.ntmps72
  go_wp2_with fail
  refine (pick_any Y C k 3 _ (by omega) (by omega) H0.out).mono ?_
  rintro e w1 ⟨x, rfl, hx, c1, m1⟩
  have hx3 : x ≤ 2 := by omega
  have P0 : Hid (Pd Y w w1 C (k + 2 + 4 * 0) (.slice none 0 0) 0 (fun _ => 0) (fun _ => 0)) := ⟨Buf.nil _ _ _ _ _, c1, m1⟩
  clear c1 m1 hx H0
  have ex : (1 : Int) + (x : Int) = ((x + 1 : Nat) : Int) := by omega
  go_wp2_with fail
  go_loopw [3, 4, 5] (fun v a i wr => ∃ (l j q : Nat) (f g : Nat → Int), l + j = x + 1 ∧ i = .int .i64 l ∧ a = .int .i64 q ∧ q ≤ 7 + 5 * j ∧ Pd Y w wr C (k + 2 + 4 * j) v j f g) (fun _ _ i _ => (intOf i).toNat)
  case atStart => exact ⟨x + 1, 0, 7, _, _, rfl, by first | rfl | (congr 1; omega), rfl, by omega, P0.out⟩
  case round =>
    obtain ⟨l, j, q, f, g, hlj, rfl, rfl, hq, P⟩ := hrel
    clear P0 ex
    have HP : Hid (Pd Y w wr C (k + 2 + 4 * j) _ j f g) := P
    clear P
    by_cases hl : 0 < l
    · have d1 : decide ((l : Int) > 0) = true := by simp; omega
      go_wp2_with fail
      refine (pick_any Y C (k + 2 + 4 * j) 5 _ (by omega) (by omega) HP.out.cur).mono ?_
      rintro e w2 ⟨x2, rfl, hx2, c2, m2⟩
      replace HP : Hid (Pd Y w w2 C (k + 2 + 4 * j + 2) _ j f g) := HP.out.go hC m2 c2
      have hx24 : x2 ≤ 4 := by omega
      clear c2 m2 hx2
      go_wp2_with fail
      refine (pick_any Y C (k + 2 + 4 * j + 2) 200 _ (by omega) (by omega) HP.out.cur).mono ?_
      rintro e w3 ⟨x3, rfl, hx3', c3, m3⟩
      replace HP : Hid (Pd Y w w3 C (k + 2 + 4 * j + 2 + 2) _ j f g) := HP.out.go hC m3 c3
      have hx34 : x3 ≤ 199 := by omega
      clear c3 m3 hx3'
      obtain ⟨ao', cap', w4, hrun, P4⟩ := HP.out.next hC HY.out ((q : Int) + (1 + (x2 : Int))) ((x3 : Int) * 300) (by omega)
      have HRN : Hid _ := hrun
      have HN : Hid _ := P4
      clear hrun P4 HP
      go_wp2_with (first | (at_builtin; refine wpList_append_run rfl (.tmp 18) (.tmp 24) 27 rfl _ _ rfl rfl HRN.out ?_) | go_in)
      go_roundw
      case rel => exact ⟨l - 1, j + 1, q + (1 + x2), _, _, by omega, by go_num, by go_num, by omega, by rw [show k + 2 + 4 * (j + 1) = k + 2 + 4 * j + 2 + 2 by omega]; exact HN.out⟩
      case measure => simp [intOf]; omega
    · obtain rfl : l = 0 := by omega
      have hj3 : j ≤ 3 := by omega
      have hj0 : 0 < j := by omega
      clear hlj
      go_wp2_with fail
      refine (one_any Y C (k + 2 + 4 * j) 20 _ (by omega) (by omega) HP.out.cur).mono ?_
      rintro e w2 ⟨b, rfl, c2, m2⟩
      replace HP : Hid (Pd Y w w2 C (k + 2 + 4 * j + 2) _ j f g) := HP.out.go hC m2 c2
      clear c2 m2
      obtain ⟨ao2, cap2, rfl, own⟩ := BufU.own HP.out.buf (by omega)
      have HO : Hid (UndosOwn _ w2 ao2 j f g) := own
      have HC : Hid (Cur Y w2 C (k + 2 + 4 * j + 2) ∧ Mod (fun b => b = C) w w2) := ⟨HP.out.cur, HP.out.mod⟩
      clear HP own
      cases b
      · go_wp2
        go_ret
        exact ⟨ao2, j, cap2, f, g, rfl, by omega, HO.out.at, HC.out.1.le (by omega), HC.out.2⟩
      · obtain ⟨bl, hbl, rfl, r⟩ := HO.out.2 hj0
        have hA : Blw w2 (w2.alloc (.cells #[.int .i64 7, .int .i64 8, .int .i64 23, .int .i64 24] 3)) := (Blw.refl _).alloc _
        have hI := ints_lit w2 [7, 8, 23, 24] 3 (by decide)
        have HI : Hid (IntsAt (fun b => b = w2.heap.size) (w2.alloc (.cells #[.int .i64 7, .int .i64 8, .int .i64 23, .int .i64 24] 3)) (some ⟨w2.heap.size, 0, none⟩) 4 (fun i => [7, 8, 23, 24].getD i 0)) := hI
        have HR : Hid (Row (w2.alloc (.cells #[.int .i64 7, .int .i64 8, .int .i64 23, .int .i64 24] 3)) bl (j * 2) (uc f g)) := r.blw hA
        have HC2 : Hid (Cur Y (w2.alloc (.cells #[.int .i64 7, .int .i64 8, .int .i64 23, .int .i64 24] 3)) C (k + 2 + 4 * j + 2) ∧ Mod (fun b => b = C) w (w2.alloc (.cells #[.int .i64 7, .int .i64 8, .int .i64 23, .int .i64 24] 3))) := ⟨HC.out.1.blw hA, HC.out.2.trans (hA.mod _)⟩
        have hw2 := HC.out.2.size
        clear hA hI r HC HO
        go_wp2_with fail
        refine (among_any Y (fun b => b = w2.heap.size) C (k + 2 + 4 * j + 2) _ 4 4 _ _ (by omega) (by omega) HI.out (fun b hb => by omega) HC2.out.1).mono ?_
        rintro e w3 ⟨x3, rfl, c3, m3⟩
        have r3 := HR.out.mod m3 (by omega)
        have s3 := m3.size
        simp only [World.size_alloc] at s3
        have q0 := (undo_get r3 hj0).1
        simp only [Nat.zero_mul] at q0
        have f0 := r3.frozen 0
        have rs : Row (w3.setCell ⟨bl, 0, none⟩ (.int .i64 x3)) bl (j * 2) (uc (fun t => if t = 0 then x3 else f t) g) := (r3.set 0 _).congr (fun i hi => by
          by_cases e : i = 0
          · subst e; simp [uc]
          · rw [if_neg e]
            by_cases e2 : i % 2 = 0
            · have : ¬ i / 2 = 0 := by omega
              simp only [uc, if_pos e2, if_neg this]
            · simp only [uc, if_neg e2])
        have ms := Mod.setCell (X := fun b => b = bl) w3 (p := ⟨bl, 0, none⟩) rfl (.int .i64 x3)
        have ss := ms.size
        have m4 := HC2.out.2.trans m3
        have FIN : Hid (GivesPd Y C (k + 20) w (.returned (.slice (some ⟨bl, 0, none⟩) j cap2)) (w3.setCell ⟨bl, 0, none⟩ (.int .i64 x3))) :=
          ⟨some ⟨bl, 0, none⟩, j, cap2, _, _, rfl, hj3, (show UndosOwn (fun x => w.heap.size ≤ x ∧ x < (w3.setCell ⟨bl, 0, none⟩ (.int .i64 x3)).heap.size) _ _ j _ _ from ⟨by omega, fun _ => ⟨bl, ⟨hbl.1, by have := hbl.2; omega⟩, rfl, rs⟩⟩).at, (c3.le (by omega)).mod ms (by omega) (fun b hb e => by have := HY.out b hb; omega), m4.newer ms (fun i hi => by omega)⟩
        clear r3 rs ms c3 m3 m4 HI HR HC2
        go_wp2
        go_ret
        exact FIN.out
end Go.Proofs.Ytglllnklcnlcjaa
/- A memory without anything pending that is drawn. -/
namespace Go.Proofs.Ytglllnklcnlcjaa
open Go.RowKit
set_option linter.unusedSimpArgs false
set_option linter.unusedVariables false
theorem Drawn.go {Y : Nat → Prop} {wr W W' : World} {C k k' z : Nat} {m : MV} {M : MD} (E : Drawn Y wr W C k z m M) (hm : Mod (fun b => b = C) W W') (cur : Cur Y W' C k') (hC : C < wr.heap.size) : Drawn Y wr W' C k' z m M :=
  ⟨cur, E.mod.trans hm, E.lo, E.box.mod hm (by have := E.lo; omega), (E.own.mod hm (fun b hb => by have := hb.1; omega)).mono (fun b hb => ⟨hb.1, Nat.lt_of_lt_of_le hb.2.1 hm.size, hb.2.2⟩)⟩
set_option maxRecDepth 10000 in
set_option maxHeartbeats 6400000 in
theorem calm_any (Y : Nat → Prop) (C k : Nat) (w : World) (hk : k ≤ 800000) (hY : ∀ b, Y b → b < w.heap.size) (h : Cur Y w C k) :
    Calls Try.prog 71 #[.pointer (some ⟨C, 0, none⟩)] w fun e w' => ∃ m s c d, e = .returned (m.val (MD.full s c d)) ∧ MemOwn (fun b => w.heap.size ≤ b ∧ b < w'.heap.size) w' m (MD.full s c d) ∧ Cur Y w' C (k + 50) ∧ Mod (fun b => b = C) w w' := by
  have hC := h.lt
  have HY : Hid (∀ b, Y b → b < w.heap.size) := hY
  clear hY
  go_enter Try.func71, Try.ntmps71
  go_wp2_with fail
  have hb0 : Blw w (w.alloc (.cells #[.slice none 0 0, .slice none 0 0, .slice none 0 0] 26)) := (Blw.refl _).alloc _
  have rR := row_box w 26
  have s0 : (w.alloc (.cells #[.slice none 0 0, .slice none 0 0, .slice none 0 0] 26)).heap.size = w.heap.size + 1 := by simp
  refine (specNewO_any _).mono ?_
  rintro e w1 ⟨m1, rfl, own1, hb1⟩
  simp only [MV.val, MD.full]
  have z1 := hb1.size
  go_wp2_with fail
  have hA : Blw w1 (w1.alloc (.cells #[.slice m1.a1 12 m1.c1, .slice m1.a2 12 m1.c2, .slice m1.a3 12 m1.c3] 26)) := (Blw.refl _).alloc _
  have hb2 := (hb0.trans hb1).trans hA
  refine (pick_any Y C k 8 _ (by omega) (by omega) (h.blw hb2)).mono ?_
  rintro e w2 ⟨n, rfl, hn, c2, mm2⟩
  have D0 : Hid (Dm Y w w2 C (k + 2) w1.heap.size w.heap.size m1 zeros zeros (fun _ => false)) := by
    have s1 : (w1.alloc (.cells #[.slice m1.a1 12 m1.c1, .slice m1.a2 12 m1.c2, .slice m1.a3 12 m1.c3] 26)).heap.size = w1.heap.size + 1 := by simp
    have s2 := mm2.size
    exact ⟨c2, (hb2.mod _).trans mm2, (box3 w1 _ _ _ 26).mod mm2 (by omega), ((own1.blw hA).mod mm2 (fun b hb => by have := hb.1; omega)).mono (fun b hb => ⟨by have := hb.1; omega, by have := hb.2; omega, by have := hb.2; omega, by have := hb.1; omega⟩), ((rR.blw hb1).blw hA).mod mm2 (by omega), by omega, by omega, by omega⟩
  have hn12 : n ≤ 7 := by omega
  have zz : w.heap.size < w1.heap.size := by omega
  clear c2 mm2 hA hb2 own1 hb1 rR hb0 h s0 hn z1
  generalize w1.heap.size = z at *
  go_wp2_with fail
  go_loopw [4] (fun i wr => ∃ l : Nat, l ≤ n ∧ i = .int .i64 l ∧ ∃ m s c d, Dm Y w wr C (k + 2 + (n - l) * 4) z w.heap.size m s c d) (fun i _ => (intOf i).toNat)
  case atStart => exact ⟨n, Nat.le_refl _, rfl, m1, _, _, _, by rw [Nat.sub_self]; exact D0.out⟩
  case round =>
    obtain ⟨l, hl, rfl, m, s, c, d, D⟩ := hrel
    clear D0
    by_cases hl0 : 0 < l
    · have d1 : decide ((l : Int) > 0) = true := by simp; omega
      obtain ⟨K, eK⟩ : ∃ K, K = k + 2 + (n - l) * 4 := ⟨_, rfl⟩
      rw [← eK] at D
      have hK : K ≤ 800090 := by omega
      have DD : Hid (Dm Y w wr C K z w.heap.size m s c d) := D
      have C0 : Hid (Cur Y wr C K) := D.cur
      have HM : Hid (MemAt _ wr m (MD.full s c d)) := D.own.at
      have hCr : C < wr.heap.size := D.cur.lt
      have HYr : Hid (∀ b, Y b → b < wr.heap.size) := fun b hb => Nat.lt_of_lt_of_le (HY.out b hb) D.mod.size
      obtain ⟨A0, A1, A2⟩ := box3_mod (R := C) D.box (by have := D.oz; omega)
      clear D
      go_upto_region 5 with fail
      go_cut [5, 6] from 12 to 27 (fun a b wx => ∃ z5 m5 M5 ok, a = .pointer (some ⟨z5, 0, none⟩) ∧ b = .bool ok ∧ (∃ x y, stOut (MD.full s c d) x y M5 ok) ∧ Drawn Y wr wx C (K + 4) z5 m5 M5)
      case first =>
        go_region_held3 (fun w' => Mod (fun b => b = C) wr w') ((first | exact (Mod.refl _ _).drew | assumption | exact Mod.alloc kf _ | exact Mod.alloc kp2 _ | exact Mod.alloc kp1 _ | exact Mod.alloc (Mod.refl _ _).drew _ | exact setz kf hz)) (first
          | (go_at_call_of 51 (Value.int IntKind.i64 16); refine (pick_any Y C (K + 0) 16 _ (by omega) (by omega) (by first | exact C0.out.blw (Blw.refl _).drew | exact C0.out.blw (Blw.alloc (Blw.refl _).drew _))).mono ?_; rintro e wp1 ⟨x1, rfl, hx1, cp1, mp1⟩; have kp1 : Mod (fun b => b = C) wr wp1 := Mod.trans (by assumption) mp1; have zk1 := kp1.size; have sb1 := mp1.size; have e8 : IntKind.i64.wrap (8 + (x1 : Int)) = 8 + (x1 : Int) := (by rw [IntKind.wrap_i64]; omega))
          | (go_at_call_of 51 (Value.int IntKind.i64 99); refine (pick_any Y C (K + 2) 99 _ (by omega) (by omega) (by first | exact cp1 | exact cp1.blw ((Blw.refl _).alloc _))).mono ?_; rintro e wp2 ⟨x2, rfl, hx2, cp2, mp2⟩; have kp2 : Mod (fun b => b = C) wr wp2 := Mod.trans (by assumption) mp2; have zk2 := kp2.size; have sb2 := mp2.size)
          | (go_at_call 110; refine (specStore_any m (MD.full s c d) _ _ (8 + (x1 : Int)) x2 (by exact HM.out.mod (by assumption) (fun b hb => by have := hb.1; omega))).mono ?_; rintro e wf ⟨mf, Mf, ok, rfl, hout, ownf, hbf⟩; have sbf := hbf.size; have kf : Mod (fun b => b = C) wr wf := Mod.setBlw (by assumption) hbf; have zkf := kf.size; have cf : Cur Y wf C (K + 4) := (by first | exact cp2.blw hbf | exact (cp2.blw ((Blw.refl _).alloc _)).blw hbf); (first | (have rZ := (row_box wp2 26).blw hbf; have hz : wr.heap.size ≤ wp2.heap.size := (by omega); obtain ⟨⟨y0, y1, y2⟩, f0, f1, f2⟩ := res6 rZ) | (have rZ := Row.blw (Row.mod (row_box wp1 26) mp2 (by omega)) hbf; have hz : wr.heap.size ≤ wp1.heap.size := (by omega); obtain ⟨⟨y0, y1, y2⟩, f0, f1, f2⟩ := res6 rZ) | (have rZ : Row wf wr.heap.size 3 (fun _ => .slice none 0 0) := Row.blw (Row.mod (Row.mod (row_box wr.drew 26) mp1 (by show ¬ wr.heap.size = C; omega)) mp2 (by show ¬ wr.heap.size = C; omega)) hbf; have hz : wr.heap.size ≤ wr.heap.size := (by omega); obtain ⟨⟨y0, y1, y2⟩, f0, f1, f2⟩ := res6 rZ) | skip)))
        all_goals go_wp2_with fail
        all_goals go_meet
        all_goals try simp only [World.size_alloc, World.size_drew] at ownf sbf sb1 sb2
        all_goals first
          | exact ⟨_, mf, Mf, ok, rfl, rfl, ⟨_, _, hout⟩, Drawn.late cf kf ownf (fun b hb => ⟨by have := hb.1; omega, hb.2⟩)⟩
          | exact ⟨_, mf, Mf, ok, rfl, rfl, ⟨_, _, hout⟩, Drawn.early cf kf rZ hz hCr HYr.out ownf (fun b hb => ⟨by have := hb.1; omega, hb.2, by have := hb.1; omega⟩)⟩
      case rest =>
        obtain ⟨z5, m5, M5, ok, rfl, rfl, ⟨x5, y5, hst⟩, E⟩ := hcut
        have HST : Hid (stOut (MD.full s c d) x5 y5 M5 ok) := hst
        have HE : Hid (Drawn Y wr wc C (K + 4) z5 m5 M5) := E
        have EK : Hid (K + 4 = k + 2 + (n - (l - 1)) * 4) := by show _ = _; omega
        clear hst E A0 A1 A2 C0 HM hCr HYr eK
        cases ok
        · have HN : Hid (Dm Y w wc C (K + 4) z w.heap.size m s c d) := DD.out.stay HE.out.mod HE.out.cur hC
          clear HE DD HST
          go_wp2
          go_roundw
          case rel => exact ⟨l - 1, by omega, by go_num, m, s, c, d, by rw [← EK.out]; exact HN.out⟩
          case measure => simp [intOf]; omega
        · obtain ⟨s5, c5, d5, rfl⟩ : ∃ s5 c5 d5, M5 = MD.full s5 c5 d5 := by
            rcases HST.out with ⟨_, _, _, _, _, rfl, _⟩ | ⟨_, _, g⟩
            · exact ⟨_, _, _, rfl⟩
            · cases g
          have rz := DD.out.box.mod HE.out.mod (by have := DD.out.oz; omega)
          obtain ⟨p0, p1, p2⟩ := get3 HE.out.box
          obtain ⟨q0, q1, q2⟩ := get3 rz
          have f0 := rz.frozen 0
          have f1 := rz.frozen 1
          have f2 := rz.frozen 2
          clear rz
          simp only [MD.full] at p0 p1 p2 q0 q1 q2
          have HN : Hid _ := DD.out.take HE.out hC HY.out
          clear HE DD HST
          go_wp2
          go_roundw
          case rel => exact ⟨l - 1, by omega, by go_num, m5, s5, c5, d5, by rw [← EK.out]; exact HN.out⟩
          case measure => simp [intOf]; omega
    · obtain rfl : l = 0 := by omega
      have d1 : decide (((0 : Nat) : Int) > 0) = false := by decide
      have DD : Hid (Dm Y w wr C (k + 2 + (n - 0) * 4) z w.heap.size m s c d) := D
      obtain ⟨K, eK⟩ : ∃ K, K = k + 2 + (n - 0) * 4 := ⟨_, rfl⟩
      have hK : K ≤ k + 30 := by omega
      replace DD : Hid (Dm Y w wr C K z w.heap.size m s c d) := by rw [eK]; exact D
      clear D hl hl0 eK
      obtain ⟨p0, p1, p2⟩ := get3 DD.out.box
      simp only [MD.full] at p0 p1 p2
      go_wp2_with fail
      clear p0 p1 p2
      refine (specFlushAll_any m (MD.full s c d) _ _ DD.out.own.at).mono ?_
      rintro e wf ⟨mf, Mf, ok, rfl, hout, ownf, hbf⟩
      have HOUT : Hid (faOut (MD.full s c d) Mf ok) := hout
      have HE : Hid (Drawn Y wr (wf.alloc (.cells #[.slice mf.a1 Mf.n1 mf.c1, .slice mf.a2 Mf.n2 mf.c2, .slice mf.a3 Mf.n3 mf.c3] 26)) C K wf.heap.size mf Mf) := Drawn.late (DD.out.cur.blw hbf) (hbf.mod _) ownf (fun b hb => hb)
      clear hout ownf hbf
      cases ok
      · have HN : Hid (Dm Y w _ C K z w.heap.size m s c d) := DD.out.stay HE.out.mod HE.out.cur hC
        obtain ⟨p0, p1, p2⟩ := get3 HN.out.box
        obtain ⟨⟨x0, x1, x2⟩, f0, f1, f2⟩ := res6 HN.out.res
        have F : Hid _ := HN.out.done hC HY.out
        clear HN HE DD
        simp only [MD.full] at p0 p1 p2
        go_wp2
        exact bodyPost_ret (v := m.val (MD.full s c d)) (by simp [results, Try.results71, go_sem, x0, x1, x2, MD.full]) rfl ⟨m, _, _, _, rfl, F.out.2.1, F.out.1.le (by omega), F.out.2.2⟩
      · obtain ⟨s5, c5, d5, rfl⟩ : ∃ s5 c5 d5, Mf = MD.full s5 c5 d5 := by
          rcases HOUT.out with ⟨_, rfl, _⟩ | ⟨_, _, g⟩
          · exact ⟨_, _, _, rfl⟩
          · cases g
        have hCr : C < wr.heap.size := DD.out.cur.lt
        have HE' : Hid (Drawn Y wr (wf.alloc (.cells #[.slice mf.a1 12 mf.c1, .slice mf.a2 12 mf.c2, .slice mf.a3 12 mf.c3] 26)) C K wf.heap.size mf (MD.full s5 c5 d5)) := HE.out
        clear HE HOUT
        simp only [MD.full]
        go_wp2_with fail
        refine (one_any Y C K 20 _ (by omega) (by omega) HE'.out.cur).mono ?_
        rintro e wp ⟨b, rfl, cp, mp⟩
        have HE : Hid (Drawn Y wr wp C (K + 2) wf.heap.size mf (MD.full s5 c5 d5)) := HE'.out.go mp cp hCr
        clear HE' cp mp
        generalize wf.heap.size = z5 at *
        cases b
        · have rz := DD.out.box.mod HE.out.mod (by have := DD.out.oz; omega)
          obtain ⟨p0, p1, p2⟩ := get3 HE.out.box
          obtain ⟨q0, q1, q2⟩ := get3 rz
          have f0 := rz.frozen 0
          have f1 := rz.frozen 1
          have f2 := rz.frozen 2
          clear rz
          simp only [MD.full] at p0 p1 p2 q0 q1 q2
          have HN : Hid (Dm Y w _ C (K + 2) z w.heap.size mf s5 c5 d5) := DD.out.take HE.out hC HY.out
          obtain ⟨t0, t1, t2⟩ := get3 HN.out.box
          obtain ⟨⟨x0, x1, x2⟩, g0, g1, g2⟩ := res6 HN.out.res
          have F : Hid _ := HN.out.done hC HY.out
          clear HN HE DD
          simp only [MD.full] at t0 t1 t2
          go_wp2
          exact bodyPost_ret (v := mf.val (MD.full s5 c5 d5)) (by simp [results, Try.results71, go_sem, x0, x1, x2, MD.full]) rfl ⟨mf, _, _, _, rfl, F.out.2.1, F.out.1.le (by omega), F.out.2.2⟩
        · have HN : Hid (Dm Y w wp C (K + 2) z w.heap.size m s c d) := DD.out.stay HE.out.mod HE.out.cur hC
          obtain ⟨p0, p1, p2⟩ := get3 HN.out.box
          obtain ⟨⟨x0, x1, x2⟩, f0, f1, f2⟩ := res6 HN.out.res
          have F : Hid _ := HN.out.done hC HY.out
          clear HN HE DD
          simp only [MD.full] at p0 p1 p2
          go_wp2
          exact bodyPost_ret (v := m.val (MD.full s c d)) (by simp [results, Try.results71, go_sem, x0, x1, x2, MD.full]) rfl ⟨m, _, _, _, rfl, F.out.2.1, F.out.1.le (by omega), F.out.2.2⟩
end Go.Proofs.Ytglllnklcnlcjaa
/- A memory in the midst of a deed that is drawn. -/
namespace Go.Proofs.Ytglllnklcnlcjaa
open Go.RowKit
set_option linter.unusedSimpArgs false
set_option linter.unusedVariables false
/-- The drawn memory is another one, which stands in no box. -/
theorem Dm.put {Y : Nat → Prop} {w wr W : World} {C k k' z R : Nat} {m m5 : MV} {s c s5 c5 : Nat → Nat → Int} {d d5 : Nat → Bool} {X : Nat → Prop} (D : Dm Y w wr C k z R m s c d) (hm : Mod (fun b => b = C) wr W) (cur : Cur Y W C k') (own : MemOwn X W m5 (MD.full s5 c5 d5)) (hX : ∀ b, X b → wr.heap.size ≤ b ∧ b < W.heap.size) (hC : C < w.heap.size) (hY : ∀ b, Y b → b < w.heap.size) :
    Dm Y w (((W.setCell ⟨z, 0, none⟩ (.slice m5.a1 12 m5.c1)).setCell ⟨z, 1, none⟩ (.slice m5.a2 12 m5.c2)).setCell ⟨z, 2, none⟩ (.slice m5.a3 12 m5.c3)) C k' z R m5 s5 c5 d5 := by
  have hs := mod_set3 W z (.slice m5.a1 12 m5.c1) (.slice m5.a2 12 m5.c2) (.slice m5.a3 12 m5.c3)
  have hsz := hs.size
  have oz := D.oz
  have oR := D.oR
  have ne := D.ne
  have zlt := D.box.lt
  have rlt := D.res.lt
  have ms := D.mod.size
  have es := hm.size
  have m2 := D.mod.trans hm
  refine ⟨cur.mod hs (by omega) (fun b hb => by have := hY b hb; omega), ⟨hs.os.trans m2.os, hs.tape.trans m2.tape, hs.output.trans m2.output, Nat.le_trans m2.size hs.size, fun i hi hx => (hs.block i (Nat.lt_of_lt_of_le hi m2.size) (by omega)).trans (m2.block i hi hx)⟩, box_put (D.box.mod hm (by omega)) _ _ _, (own.mod hs (fun b h => by have := hX b h; omega)).mono (fun b h => by have := hX b h; exact ⟨by omega, by omega, by omega, by omega⟩), (D.res.mod hm (by omega)).mod hs (by omega), oz, oR, ne⟩
set_option maxRecDepth 20000 in
set_option maxHeartbeats 6400000 in
theorem midDeed_any (Y : Nat → Prop) (C k : Nat) (w : World) (hk : k ≤ 700000) (hY : ∀ b, Y b → b < w.heap.size) (h : Cur Y w C k) :
    Calls Try.prog 76 #[.pointer (some ⟨C, 0, none⟩)] w fun e w' => ∃ m s c d, e = .returned (m.val (MD.full s c d)) ∧ MemOwn (fun b => w.heap.size ≤ b ∧ b < w'.heap.size) w' m (MD.full s c d) ∧ Cur Y w' C (k + 150) ∧ Mod (fun b => b = C) w w' := by
  have hC := h.lt
  have HY : Hid (∀ b, Y b → b < w.heap.size) := hY
  clear hY
  go_enter Try.func76, Try.ntmps76
  go_wp2_with fail
  have hb0 : Blw w (w.alloc (.cells #[.slice none 0 0, .slice none 0 0, .slice none 0 0] 26)) := (Blw.refl _).alloc _
  have rR := row_box w 26
  have s0 : (w.alloc (.cells #[.slice none 0 0, .slice none 0 0, .slice none 0 0] 26)).heap.size = w.heap.size + 1 := by simp
  refine (calm_any Y C k _ (by omega) (fun b hb => by have := HY.out b hb; omega) (h.blw hb0)).mono ?_
  rintro e w1 ⟨m1, s1, c1, d1, rfl, own1, cu1, mm1⟩
  simp only [MV.val, MD.full]
  have z1 := mm1.size
  have hA : Blw w1 (w1.alloc (.cells #[.slice m1.a1 12 m1.c1, .slice m1.a2 12 m1.c2, .slice m1.a3 12 m1.c3] 26)) := (Blw.refl _).alloc _
  have D0 : Hid (Dm Y w (w1.alloc (.cells #[.slice m1.a1 12 m1.c1, .slice m1.a2 12 m1.c2, .slice m1.a3 12 m1.c3] 26)) C (k + 50) w1.heap.size w.heap.size m1 s1 c1 d1) := by
    have ss : (w1.alloc (.cells #[.slice m1.a1 12 m1.c1, .slice m1.a2 12 m1.c2, .slice m1.a3 12 m1.c3] 26)).heap.size = w1.heap.size + 1 := by simp
    exact ⟨cu1.blw hA, ((hb0.mod _).trans mm1).trans (hA.mod _), box3 w1 _ _ _ 26, (own1.blw hA).mono (fun b hb => ⟨by have := hb.1; omega, by have := hb.2; omega, by have := hb.2; omega, by have := hb.1; omega⟩), (rR.mod mm1 (by omega)).blw hA, by omega, by omega, by omega⟩
  clear own1 cu1 mm1 hA hb0 rR h
  go_upto_region 2 with fail
  have zz : w.heap.size < w1.heap.size := by omega
  clear z1 s0
  revert D0
  generalize w1.alloc (.cells #[.slice m1.a1 12 m1.c1, .slice m1.a2 12 m1.c2, .slice m1.a3 12 m1.c3] 26) = wr
  intro D0
  generalize w1.heap.size = z at *
  go_cut [4, 5] from 10 to 16 (fun a b wx => ∃ ao n cc R ok, a = .slice ao n cc ∧ b = .bool ok ∧ (∃ np f g, dsOut (MD.full s1 c1 d1) np f g n R ok) ∧ MemsOwn (fun x => wr.heap.size ≤ x ∧ x < wx.heap.size) wx ao n R ∧ Cur Y wx C (k + 70) ∧ Mod (fun b => b = C) wr wx)
  case first =>
    obtain ⟨A0, A1, A2⟩ := box3_mod (R := C) D0.out.box (by have := D0.out.oz; omega)
    simp only [MD.full] at A0 A1 A2
    have C0 : Hid (Cur Y wr C (k + 50)) := D0.out.cur
    have HM : Hid (MemAt _ wr m1 (MD.full s1 c1 d1)) := D0.out.own.at
    have hCr : C < wr.heap.size := D0.out.cur.lt
    have HYr : Hid (∀ b, Y b → b < wr.heap.size) := fun b hb => Nat.lt_of_lt_of_le (HY.out b hb) D0.out.mod.size
    go_region_held3 (fun w' => Mod (fun b => b = C) wr w') ((first | exact (Mod.refl _ _).drew | assumption)) (first
      | (go_at_call 72; refine (pairs_any Y C (k + 50) _ (by omega) (fun b hb => by have := HYr.out b hb; first | exact this | (simp only [World.size_drew]; omega)) (C0.out.blw (Blw.refl _).drew)).mono ?_; intro e wp hG; obtain ⟨ap, np, cp, fp, gp, rfl, hnp, hU, cup, mp⟩ := hG; have kp : Mod (fun b => b = C) wr wp := Mod.trans (Mod.refl _ _).drew mp; have zp := kp.size)
      | (go_at_call 28; refine (specSteps_any m1 (MD.full s1 c1 d1) ap np cp fp gp _ _ _ (HM.out.mod kp (fun b hb => by have := hb.1; omega)) (fun b hb => by have := hb.2.1; omega) hU (fun b hb => hb.2)).mono ?_; rintro e wf ⟨af, nf, cf, Rf, ok, rfl, hof, ownf, hbf⟩; have kf : Mod (fun b => b = C) wr wf := Mod.setBlw kp hbf; have cuf := cup.blw hbf))
    all_goals go_wp2_with fail
    all_goals go_meet
    all_goals exact ⟨af, nf, cf, Rf, ok, rfl, rfl, ⟨np, fp, gp, hof⟩, ownf.mono (fun x hx => ⟨by have := hx.1; omega, hx.2⟩), cuf, kf⟩
  case rest =>
    obtain ⟨al, nl, cl, Rl, ok, rfl, rfl, ⟨np, f, g, hds⟩, ownl, cu2, m2⟩ := hcut
    have HDS : Hid (dsOut (MD.full s1 c1 d1) np f g nl Rl ok) := hds
    have HOL : Hid (MemsOwn (fun x => wr.heap.size ≤ x ∧ x < wc.heap.size) wc al nl Rl) := ownl
    have HC2 : Hid (Cur Y wc C (k + 70) ∧ Mod (fun b => b = C) wr wc) := ⟨cu2, m2⟩
    clear hds ownl cu2 m2
    go_upto_if 17 with fail
    go_cut [] from 10 to 24 (fun wx => ∃ m s c d, Dm Y w wx C (k + 72) z w.heap.size m s c d)
    case first =>
      cases ok
      · go_wp2_with fail
        go_meet
        exact ⟨m1, s1, c1, d1, D0.out.stay HC2.out.2 (HC2.out.1.le (by omega)) hC⟩
      · have HT : Hid ((4 < nl ∧ nl ≤ 17) ∧ ∀ i, i < nl → ∃ s c d, Rl i = MD.full s c d) := by
          rcases HDS.out with ⟨hr, e, hR, _⟩ | ⟨_, _, h9⟩
          · have h1 := hr.2.2.1
            exact ⟨by omega, fun i hi => ⟨_, _, _, hR i hi⟩⟩
          · cases h9
        go_wp2_with fail
        refine (pick_any Y C (k + 70) nl _ (by omega) (by have := HT.out.1; omega) HC2.out.1).mono ?_
        rintro e wp ⟨i, rfl, hi, cp, mp⟩
        have hil : i < nl := by omega
        obtain ⟨b2, mv, Z, xb, rfl, r2, hI⟩ := HOL.out.2 (by omega)
        have hCr : C < wr.heap.size := D0.out.cur.lt
        have r2' := r2.mod mp (by omega)
        obtain ⟨q0, q1, q2⟩ := mems_get r2' hil
        obtain ⟨s5, c5, d5, hR5⟩ := HT.out.2 i hil
        rw [hR5] at q0 q1 q2
        change _ = some (Value.slice (mv i).a1 12 (mv i).c1) at q0
        change _ = some (Value.slice (mv i).a2 12 (mv i).c2) at q1
        change _ = some (Value.slice (mv i).a3 12 (mv i).c3) at q2
        have own5 : MemOwn (Z i) wp (mv i) (MD.full s5 c5 d5) := by
          have h9 := (hI.own i hil).mod mp (fun x hx e => by have := (hI.sub i hil x hx).1; omega)
          rw [hR5] at h9
          exact h9
        have m3 := HC2.out.2.trans mp
        have s3 := mp.size
        have HN : Hid (Dm Y w _ C (k + 72) z w.heap.size (mv i) s5 c5 d5) := D0.out.put m3 cp own5 (fun b hb => by have := (hI.sub i hil b hb).1; exact ⟨this.1, by omega⟩) hC HY.out
        have rz := D0.out.box.mod m3 (by have := D0.out.oz; omega)
        obtain ⟨t0, t1, t2⟩ := get3 rz
        have f0 := rz.frozen 0
        have f1 := rz.frozen 1
        have f2 := rz.frozen 2
        simp only [MD.full] at t0 t1 t2
        have hi2 : (i : Int) < nl := by omega
        have hi17 : i ≤ 17 := by have := HT.out.1; omega
        clear rz own5 m3 r2 r2' hI HT HDS HOL HC2 D0 cp mp hR5 s3
        go_wp2_with fail
        go_meet
        exact ⟨mv i, s5, c5, d5, HN.out⟩
    case rest =>
      obtain ⟨m, s, c, d, D⟩ := hcut
      clear HDS HOL HC2 D0
      have DD : Hid (Dm Y w wc C (k + 72) z w.heap.size m s c d) := D
      have C0 : Hid (Cur Y wc C (k + 72)) := D.cur
      have HM : Hid (MemAt _ wc m (MD.full s c d)) := D.own.at
      have hCr : C < wc.heap.size := D.cur.lt
      have HYr : Hid (∀ b, Y b → b < wc.heap.size) := fun b hb => Nat.lt_of_lt_of_le (HY.out b hb) D.mod.size
      obtain ⟨A0, A1, A2⟩ := box3_mod (R := C) D.box (by have := D.oz; omega)
      clear D
      simp only [MD.full] at A0 A1 A2
      go_upto_region 5 with fail
      go_cut [6, 7] from 25 to 31 (fun a b wx => ∃ z5 m5 M5 ok, a = .pointer (some ⟨z5, 0, none⟩) ∧ b = .bool ok ∧ (∃ nn ff, fwOut (MD.full s c d) nn ff M5 ok) ∧ Drawn Y wc wx C (k + 98) z5 m5 M5)
      case first =>
        obtain ⟨wv, hwv⟩ : ∃ wv, wc = wv := ⟨_, rfl⟩
        subst hwv
        go_region_held3 (fun w' => Mod (fun b => b = C) wc w') ((first | exact (Mod.refl _ _).drew | assumption | exact Mod.alloc kf _ | exact Mod.alloc kp1 _ | exact Mod.alloc (Mod.refl _ _).drew _ | exact setz kf hz)) (first
          | (go_at_call 52; refine (kept_any Y C (k + 72) _ (by omega) (fun b hb => by have := HYr.out b hb; first | exact this | (simp only [World.size_alloc, World.size_drew]; omega)) (by first | exact C0.out.blw (Blw.refl _).drew | exact C0.out.blw (Blw.alloc (Blw.refl _).drew _))).mono ?_; rintro e wp1 ⟨a1, n1, cc1, ff1, rfl, hn1, hI1, cp1, mp1⟩; have kp1 : Mod (fun b => b = C) wc wp1 := Mod.trans (by assumption) mp1; have zk1 := kp1.size; have sb1 := mp1.size)
          | (go_at_call 114; refine (specFail_any m (MD.full s c d) _ _ _ a1 n1 cc1 ff1 (by exact HM.out.mod (by assumption) (fun b hb => by have := hb.1; omega)) (by first | exact hI1 | exact hI1.blw ((Blw.refl _).alloc _))).mono ?_; rintro e wf ⟨mf, Mf, ok, rfl, hout, ownf, hbf⟩; have sbf := hbf.size; have kf : Mod (fun b => b = C) wc wf := Mod.setBlw (by assumption) hbf; have zkf := kf.size; have cf : Cur Y wf C (k + 98) := (by first | exact cp1.blw hbf | exact (cp1.blw ((Blw.refl _).alloc _)).blw hbf); (first | (have rZ := (row_box wp1 26).blw hbf; have hz : wc.heap.size ≤ wp1.heap.size := (by omega); obtain ⟨⟨y0, y1, y2⟩, f0, f1, f2⟩ := res6 rZ) | (have rZ : Row wf wc.heap.size 3 (fun _ => .slice none 0 0) := Row.blw (Row.mod (row_box wc.drew 26) mp1 (by show ¬ wc.heap.size = C; omega)) hbf; have hz : wc.heap.size ≤ wc.heap.size := (by omega); obtain ⟨⟨y0, y1, y2⟩, f0, f1, f2⟩ := res6 rZ) | skip)))
        all_goals go_wp2_with fail
        all_goals go_meet
        all_goals try simp only [World.size_alloc, World.size_drew] at ownf sbf sb1
        all_goals first
          | exact ⟨_, mf, Mf, ok, rfl, rfl, ⟨_, _, hout⟩, Drawn.late cf kf ownf (fun b hb => ⟨by have := hb.1; omega, hb.2⟩)⟩
          | exact ⟨_, mf, Mf, ok, rfl, rfl, ⟨_, _, hout⟩, Drawn.early cf kf rZ hz hCr HYr.out ownf (fun b hb => ⟨by have := hb.1; omega, hb.2, by have := hb.1; omega⟩)⟩
      case rest =>
        obtain ⟨z5, m5, M5, ok, rfl, rfl, ⟨nn, ff, hfw⟩, E⟩ := hcut
        have HFW : Hid (fwOut (MD.full s c d) nn ff M5 ok) := hfw
        have HE : Hid (Drawn Y _ wc C (k + 98) z5 m5 M5) := E
        clear hfw E A0 A1 A2 C0 HM HYr
        cases ok
        · have HN : Hid (Dm Y w wc C (k + 98) z w.heap.size m s c d) := DD.out.stay HE.out.mod HE.out.cur hC
          obtain ⟨p0, p1, p2⟩ := get3 HN.out.box
          obtain ⟨⟨x0, x1, x2⟩, f0, f1, f2⟩ := res6 HN.out.res
          have F : Hid _ := HN.out.done hC HY.out
          clear HN HE DD HFW
          simp only [MD.full] at p0 p1 p2
          go_wp2
          exact bodyPost_ret (v := m.val (MD.full s c d)) (by simp [results, Try.results76, go_sem, x0, x1, x2, MD.full]) rfl ⟨m, _, _, _, rfl, F.out.2.1, F.out.1.le (by omega), F.out.2.2⟩
        · obtain ⟨s5, c5, d5, rfl⟩ : ∃ s5 c5 d5, M5 = MD.full s5 c5 d5 := by
            rcases HFW.out with ⟨_, _, rfl, _⟩ | ⟨_, _, g⟩
            · exact ⟨_, _, _, rfl⟩
            · cases g
          clear HFW
          go_wp2_with fail
          refine (one_any Y C (k + 98) 2 _ (by omega) (by omega) HE.out.cur).mono ?_
          rintro e wp ⟨b, rfl, cp, mp⟩
          replace HE : Hid (Drawn Y _ wp C (k + 100) z5 m5 (MD.full s5 c5 d5)) := HE.out.go mp cp hCr
          clear cp mp
          cases b
          · have HN : Hid (Dm Y w wp C (k + 100) z w.heap.size m s c d) := DD.out.stay HE.out.mod HE.out.cur hC
            obtain ⟨p0, p1, p2⟩ := get3 HN.out.box
            obtain ⟨⟨x0, x1, x2⟩, f0, f1, f2⟩ := res6 HN.out.res
            have F : Hid _ := HN.out.done hC HY.out
            clear HN HE DD
            simp only [MD.full] at p0 p1 p2
            go_wp2
            exact bodyPost_ret (v := m.val (MD.full s c d)) (by simp [results, Try.results76, go_sem, x0, x1, x2, MD.full]) rfl ⟨m, _, _, _, rfl, F.out.2.1, F.out.1.le (by omega), F.out.2.2⟩
          · have rz := DD.out.box.mod HE.out.mod (by have := DD.out.oz; omega)
            obtain ⟨p0, p1, p2⟩ := get3 HE.out.box
            obtain ⟨q0, q1, q2⟩ := get3 rz
            have f0 := rz.frozen 0
            have f1 := rz.frozen 1
            have f2 := rz.frozen 2
            clear rz
            simp only [MD.full] at p0 p1 p2 q0 q1 q2
            have HN : Hid (Dm Y w _ C (k + 100) z w.heap.size m5 s5 c5 d5) := DD.out.take HE.out hC HY.out
            obtain ⟨t0, t1, t2⟩ := get3 HN.out.box
            obtain ⟨⟨x0, x1, x2⟩, g0, g1, g2⟩ := res6 HN.out.res
            have F : Hid _ := HN.out.done hC HY.out
            clear HN HE DD
            simp only [MD.full] at t0 t1 t2
            go_wp2
            exact bodyPost_ret (v := m5.val (MD.full s5 c5 d5)) (by simp [results, Try.results76, go_sem, x0, x1, x2, MD.full]) rfl ⟨m5, _, _, _, rfl, F.out.2.1, F.out.1.le (by omega), F.out.2.2⟩
end Go.Proofs.Ytglllnklcnlcjaa
/- What the laws of stage 4 draw. -/
namespace Go.Proofs.Ytglllnklcnlcjaa
open Go.RowKit
set_option linter.unusedSimpArgs false
set_option linter.unusedVariables false
def GivesD (w : World) (e : Ending) (w' : World) : Prop := ∃ m M a n c f g, e = .returned (.tuple #[m.val M, .slice a n c]) ∧ MemAt (fun x => w.heap.size ≤ x ∧ x < w'.heap.size) w' m M ∧ UndosAt (fun x => w.heap.size ≤ x ∧ x < w'.heap.size) w' a n f g ∧ Blw w w'
def GivesM1 (w : World) (e : Ending) (w' : World) : Prop := ∃ m M, e = .returned (m.val M) ∧ MemAt (fun x => w.heap.size ≤ x ∧ x < w'.heap.size) w' m M ∧ Blw w w'
def GivesF (w : World) (e : Ending) (w' : World) : Prop := ∃ m M a n c f g k az ns cs fs, e = .returned (.tuple #[m.val M, .slice a n c, .int .i64 k, .slice az ns cs]) ∧ MemAt (fun x => x < w'.heap.size) w' m M ∧ UndosAt (fun x => x < w'.heap.size) w' a n f g ∧ IntsAt (fun x => x < w'.heap.size) w' az ns fs ∧ Blw w w'
set_option maxHeartbeats 3200000 in
theorem drawDeedSteps_any (ao : Option Addr) (n cc : Nat) (f : Nat → Int) (w : World) (h : BytesAt (fun b => b < w.heap.size) w ao n f) :
    Calls Try.prog 26 #[.slice ao n cc] w (GivesD w) := by
  obtain ⟨hb0, cu0, rR, hz⟩ := draw_start w ao n cc f h
  have H : Hid (BytesAt (fun b => b < w.heap.size) w ao n f) := h
  clear h
  go_enter Try.func26, Try.ntmps26
  go_wp2_with fail
  change Calls Try.prog 71 _ (drawW w ao n cc) _
  refine (calm_any (fun b => b < w.heap.size) (w.heap.size + 1) 0 _ (by omega) (fun b hb => by omega) cu0).mono ?_
  rintro e w1 ⟨m, s, c, d, rfl, own, c1, m1⟩
  have D : Hid (Ds w w1 (0 + 50) m s c d) := Ds.start (c0 := cc) H.out own c1 m1
  have z1 := m1.size
  rw [hz] at z1
  simp only [MV.val, MD.full]
  clear own c1 m1 hb0 cu0 rR
  go_wp2_with fail
  refine (pairs_any (fun b => b < w.heap.size) (w.heap.size + 1) (0 + 50) _ (by omega) (fun b hb => by omega) D.out.cur).mono ?_
  intro e w2 hG
  obtain ⟨a2, n2, c2, f2, g2, rfl, -, hU, cu2, m2⟩ := hG
  have D2 : Hid (Ds w w2 (0 + 50 + 20) m s c d) := D.out.go m2 cu2
  obtain ⟨⟨x0, x1, x2⟩, f0, f1, f2'⟩ := res6 D2.out.res
  have hs := mod_set3 w2 w.heap.size (.slice m.a1 12 m.c1) (.slice m.a2 12 m.c2) (.slice m.a3 12 m.c3)
  have hsz := hs.size
  have FIN : Hid (GivesD w (.returned (.tuple #[m.val (MD.full s c d), .slice a2 n2 c2])) (((w2.setCell ⟨w.heap.size, 0, none⟩ (.slice m.a1 12 m.c1)).setCell ⟨w.heap.size, 1, none⟩ (.slice m.a2 12 m.c2)).setCell ⟨w.heap.size, 2, none⟩ (.slice m.a3 12 m.c3))) :=
    ⟨m, _, a2, n2, c2, f2, g2, rfl, D2.out.done.1.at, (hU.mod hs (fun b hb => by have := hb.1; omega)).mono (fun b hb => ⟨by have := hb.1; omega, Nat.lt_of_lt_of_le hb.2 hsz⟩), D2.out.done.2⟩
  clear hs hsz hU cu2 m2 D D2 H
  go_wp2
  exact bodyPost_ret (v := .tuple #[m.val (MD.full s c d), .slice a2 n2 c2]) (by simp [results, Try.results26, go_sem, x0, x1, x2, MD.full]) rfl FIN.out
set_option maxHeartbeats 3200000 in
theorem drawRecover_any (ao : Option Addr) (n cc : Nat) (f : Nat → Int) (w : World) (h : BytesAt (fun b => b < w.heap.size) w ao n f) :
    Calls Try.prog 30 #[.slice ao n cc] w (GivesM1 w) := by
  obtain ⟨hb0, cu0, rR, hz⟩ := draw_start w ao n cc f h
  have H : Hid (BytesAt (fun b => b < w.heap.size) w ao n f) := h
  clear h
  go_enter Try.func30, Try.ntmps30
  go_wp2_with fail
  change Calls Try.prog 74 _ (drawW w ao n cc) _
  refine (one_any (fun b => b < w.heap.size) (w.heap.size + 1) 0 8 _ (by omega) (by omega) cu0).mono ?_
  rintro e w1 ⟨b, rfl, c1, m1⟩
  have z1 := m1.size
  rw [hz] at z1
  have HB1 : Hid (Blw w w1) := Mod.blw hb0 m1 (fun i hi => by omega)
  have HR1 : Hid (Row w1 w.heap.size 3 (fun _ => .slice none 0 0)) := rR.mod m1 (by omega)
  clear hb0 cu0 rR m1 hz
  cases b
  · go_wp2_with fail
    refine (midDeed_any (fun b => b < w.heap.size) (w.heap.size + 1) (0 + 2) _ (by omega) (fun b hb => by omega) c1).mono ?_
    rintro e w2 ⟨m, s, c, d, rfl, own, c2, m2⟩
    simp only [MV.val, MD.full]
    have z2 := m2.size
    have r2 := HR1.out.mod m2 (by omega)
    obtain ⟨⟨x0, x1, x2⟩, f0, f1, f2'⟩ := res6 r2
    have hs := mod_set3 w2 w.heap.size (.slice m.a1 12 m.c1) (.slice m.a2 12 m.c2) (.slice m.a3 12 m.c3)
    have hsz := hs.size
    have FIN : Hid (GivesM1 w (.returned (m.val (MD.full s c d))) (((w2.setCell ⟨w.heap.size, 0, none⟩ (.slice m.a1 12 m.c1)).setCell ⟨w.heap.size, 1, none⟩ (.slice m.a2 12 m.c2)).setCell ⟨w.heap.size, 2, none⟩ (.slice m.a3 12 m.c3))) :=
      ⟨m, _, rfl, (own.mod hs (fun b hb => by have := hb.1; omega)).at.mono (fun b hb => ⟨by have := hb.1; omega, Nat.lt_of_lt_of_le hb.2 hsz⟩), Mod.blw (Mod.blw HB1.out m2 (fun i hi => by omega)) hs (fun i hi => by omega)⟩
    clear hs hsz own c2 m2 r2 HR1 HB1 H
    go_wp2
    exact bodyPost_ret (v := m.val (MD.full s c d)) (by simp [results, Try.results30, go_sem, x0, x1, x2, MD.full]) rfl FIN.out
  · go_wp2_with fail
    refine (memory_any (fun b => b < w.heap.size) (w.heap.size + 1) (0 + 2) _ (by omega) (fun b hb => by omega) c1).mono ?_
    rintro e w2 ⟨m, s, c, d, rfl, own, c2, m2⟩
    simp only [MV.val, MD.full]
    have z2 := m2.size
    have r2 := HR1.out.mod m2 (by omega)
    obtain ⟨⟨x0, x1, x2⟩, f0, f1, f2'⟩ := res6 r2
    have hs := mod_set3 w2 w.heap.size (.slice m.a1 12 m.c1) (.slice m.a2 12 m.c2) (.slice m.a3 12 m.c3)
    have hsz := hs.size
    have FIN : Hid (GivesM1 w (.returned (m.val (MD.full s c d))) (((w2.setCell ⟨w.heap.size, 0, none⟩ (.slice m.a1 12 m.c1)).setCell ⟨w.heap.size, 1, none⟩ (.slice m.a2 12 m.c2)).setCell ⟨w.heap.size, 2, none⟩ (.slice m.a3 12 m.c3))) :=
      ⟨m, _, rfl, (own.mod hs (fun b hb => by have := hb.1; omega)).at.mono (fun b hb => ⟨by have := hb.1; omega, Nat.lt_of_lt_of_le hb.2 hsz⟩), Mod.blw (Mod.blw HB1.out m2 (fun i hi => by omega)) hs (fun i hi => by omega)⟩
    clear hs hsz own c2 m2 r2 HR1 HB1 H
    go_wp2
    exact bodyPost_ret (v := m.val (MD.full s c d)) (by simp [results, Try.results30, go_sem, x0, x1, x2, MD.full]) rfl FIN.out
set_option maxHeartbeats 1600000 in
theorem drawPending_any (ao : Option Addr) (n cc : Nat) (f : Nat → Int) (w : World) (h : BytesAt (fun b => b < w.heap.size) w ao n f) :
    Calls Try.prog 32 #[.slice ao n cc] w (GivesM1 w) := by
  have hb0 : Blw w (w.alloc (.cells #[.slice none 0 0, .slice none 0 0, .slice none 0 0] 26)) := (Blw.refl _).alloc _
  have rR := row_box w 26
  have s0 : (w.alloc (.cells #[.slice none 0 0, .slice none 0 0, .slice none 0 0] 26)).heap.size = w.heap.size + 1 := by simp
  have H : Hid (BytesAt (fun b => b < (w.alloc (.cells #[.slice none 0 0, .slice none 0 0, .slice none 0 0] 26)).heap.size) (w.alloc (.cells #[.slice none 0 0, .slice none 0 0, .slice none 0 0] 26)) ao n f) := (h.blw hb0).mono' (fun b hb => by omega)
  clear h
  go_enter Try.func32, Try.ntmps32
  go_wp2_with fail
  refine (drawRecover_any ao n cc f _ H.out).mono ?_
  intro e w2 hG
  obtain ⟨m, M, rfl, hA, hb2⟩ := hG
  have z2 := hb2.size
  obtain ⟨⟨x0, x1, x2⟩, f0, f1, f2'⟩ := res6 (rR.blw hb2)
  have hs := mod_set3 w2 w.heap.size (.slice m.a1 M.n1 m.c1) (.slice m.a2 M.n2 m.c2) (.slice m.a3 M.n3 m.c3)
  have hsz := hs.size
  have FIN : Hid (GivesM1 w (.returned (m.val M)) (((w2.setCell ⟨w.heap.size, 0, none⟩ (.slice m.a1 M.n1 m.c1)).setCell ⟨w.heap.size, 1, none⟩ (.slice m.a2 M.n2 m.c2)).setCell ⟨w.heap.size, 2, none⟩ (.slice m.a3 M.n3 m.c3))) :=
    ⟨m, M, rfl, (hA.mod hs (fun b hb => by have := hb.1; omega)).mono (fun b hb => ⟨by have := hb.1; omega, Nat.lt_of_lt_of_le hb.2 hsz⟩), Mod.blw (hb0.trans hb2) hs (fun i hi => by omega)⟩
  clear hs hsz hA hb2 rR hb0 s0 z2 H
  go_wp2
  exact bodyPost_ret (v := m.val M) (by simp [results, Try.results32, go_sem, x0, x1, x2]) rfl FIN.out
set_option maxHeartbeats 1600000 in
theorem drawData_any (ao : Option Addr) (n cc : Nat) (f : Nat → Int) (w : World) (h : BytesAt (fun b => b < w.heap.size) w ao n f) :
    Calls Try.prog 24 #[.slice ao n cc] w (GivesM1 w) := by
  have hb0 : Blw w (w.alloc (.cells #[.slice none 0 0, .slice none 0 0, .slice none 0 0] 26)) := (Blw.refl _).alloc _
  have rR := row_box w 26
  have s0 : (w.alloc (.cells #[.slice none 0 0, .slice none 0 0, .slice none 0 0] 26)).heap.size = w.heap.size + 1 := by simp
  have H : Hid (BytesAt (fun b => b < (w.alloc (.cells #[.slice none 0 0, .slice none 0 0, .slice none 0 0] 26)).heap.size) (w.alloc (.cells #[.slice none 0 0, .slice none 0 0, .slice none 0 0] 26)) ao n f) := (h.blw hb0).mono' (fun b hb => by omega)
  clear h
  go_enter Try.func24, Try.ntmps24
  go_wp2_with fail
  refine (drawRecover_any ao n cc f _ H.out).mono ?_
  intro e w2 hG
  obtain ⟨m, M, rfl, hA, hb2⟩ := hG
  have z2 := hb2.size
  obtain ⟨⟨x0, x1, x2⟩, f0, f1, f2'⟩ := res6 (rR.blw hb2)
  have hs := mod_set3 w2 w.heap.size (.slice m.a1 M.n1 m.c1) (.slice m.a2 M.n2 m.c2) (.slice m.a3 M.n3 m.c3)
  have hsz := hs.size
  have FIN : Hid (GivesM1 w (.returned (m.val M)) (((w2.setCell ⟨w.heap.size, 0, none⟩ (.slice m.a1 M.n1 m.c1)).setCell ⟨w.heap.size, 1, none⟩ (.slice m.a2 M.n2 m.c2)).setCell ⟨w.heap.size, 2, none⟩ (.slice m.a3 M.n3 m.c3))) :=
    ⟨m, M, rfl, (hA.mod hs (fun b hb => by have := hb.1; omega)).mono (fun b hb => ⟨by have := hb.1; omega, Nat.lt_of_lt_of_le hb.2 hsz⟩), Mod.blw (hb0.trans hb2) hs (fun i hi => by omega)⟩
  clear hs hsz hA hb2 rR hb0 s0 z2 H
  go_wp2
  exact bodyPost_ret (v := m.val M) (by simp [results, Try.results24, go_sem, x0, x1, x2]) rfl FIN.out
theorem givesF_fin {w w1 w2 wp2 wp3 : World} {m : MV} {M : MD} {a1 a3 : Option Addr} {n1 c1 n3 c3 : Nat} {f1 g1 f3 : Nat → Int} {k : Int} (hA : MemAt (fun x => w.heap.size + 1 ≤ x ∧ x < w1.heap.size) w2 m M) (hU : UndosAt (fun x => w.heap.size + 1 ≤ x ∧ x < w1.heap.size) w2 a1 n1 f1 g1) (hB : Blw w w2) (k3 : Mod (fun b => b = w1.heap.size + 1) w2 wp3) (hI : IntsAt (fun b => wp2.heap.size ≤ b ∧ b < wp3.heap.size) wp3 a3 n3 f3) (z1 : w.heap.size + 1 ≤ w1.heap.size) (hS : w1.heap.size + 1 < w2.heap.size) (z2 : w2.heap.size ≤ wp2.heap.size) (z3 : wp2.heap.size ≤ wp3.heap.size) :
    GivesF w (.returned (.tuple #[m.val M, .slice a1 n1 c1, .int .i64 k, .slice a3 n3 c3])) (((wp3.setCell ⟨w.heap.size, 0, none⟩ (.slice m.a1 M.n1 m.c1)).setCell ⟨w.heap.size, 1, none⟩ (.slice m.a2 M.n2 m.c2)).setCell ⟨w.heap.size, 2, none⟩ (.slice m.a3 M.n3 m.c3)) := by
  have hs := mod_set3 wp3 w.heap.size (.slice m.a1 M.n1 m.c1) (.slice m.a2 M.n2 m.c2) (.slice m.a3 M.n3 m.c3)
  have hsz := hs.size
  exact ⟨m, M, a1, n1, c1, f1, g1, k, a3, n3, c3, f3, rfl, ((hA.mod k3 (fun b hb => by have := hb.2; omega)).mod hs (fun b hb => by have := hb.1; omega)).mono (fun b hb => by have := hb.2; omega), ((hU.mod k3 (fun b hb => by have := hb.2; omega)).mod hs (fun b hb => by have := hb.1; omega)).mono (fun b hb => by have := hb.2; omega), (hI.mod hs (fun b hb => by have := hb.1; omega)).mono (fun b hb => by have := hb.2; omega), Mod.blw (Mod.blw hB k3 (fun i hi => by omega)) hs (fun i hi => by omega)⟩
end Go.Proofs.Ytglllnklcnlcjaa
/- What the law of a deed that fails draws. -/
namespace Go.Proofs.Ytglllnklcnlcjaa
open Go.RowKit
set_option linter.unusedSimpArgs false
set_option linter.unusedVariables false
theorem hid_of {p : Prop} (h : p) : Hid p := h
set_option maxRecDepth 10000 in
set_option maxHeartbeats 6400000 in
theorem drawFail_any (ao : Option Addr) (n cc : Nat) (f : Nat → Int) (w : World) (h : BytesAt (fun b => b < w.heap.size) w ao n f) :
    Calls Try.prog 12 #[.slice ao n cc] w (GivesF w) := by
  have hb0 : Blw w (w.alloc (.cells #[.slice none 0 0, .slice none 0 0, .slice none 0 0] 26)) := (Blw.refl _).alloc _
  have rR := row_box w 26
  have s0 : (w.alloc (.cells #[.slice none 0 0, .slice none 0 0, .slice none 0 0] 26)).heap.size = w.heap.size + 1 := by simp
  have H : Hid (BytesAt (fun b => b < w.heap.size) w ao n f) := h
  clear h
  go_enter Try.func12, Try.ntmps12
  go_wp2_with fail
  refine (drawDeedSteps_any ao n cc f _ ((H.out.blw hb0).mono' (fun b hb => by omega))).mono ?_
  intro e w1 hG
  obtain ⟨m, M, a1, n1, c1, f1, g1, rfl, hA, hU, hb1⟩ := hG
  have z1 := hb1.size
  rw [s0] at z1
  have hbA : Blw w1 (w1.alloc (.cells #[.slice m.a1 M.n1 m.c1, .slice m.a2 M.n2 m.c2, .slice m.a3 M.n3 m.c3] 26)) := (Blw.refl _).alloc _
  have hbC : Blw (w1.alloc (.cells #[.slice m.a1 M.n1 m.c1, .slice m.a2 M.n2 m.c2, .slice m.a3 M.n3 m.c3] 26)) ((w1.alloc (.cells #[.slice m.a1 M.n1 m.c1, .slice m.a2 M.n2 m.c2, .slice m.a3 M.n3 m.c3] 26)).alloc (.cells #[.slice ao n cc, .int .i64 0, .int .u64 0] 75)) := (Blw.refl _).alloc _
  have hb2 := hbA.trans hbC
  have bx := (box3 w1 (.slice m.a1 M.n1 m.c1) (.slice m.a2 M.n2 m.c2) (.slice m.a3 M.n3 m.c3) 26).blw hbC
  have cb := box3 (w1.alloc (.cells #[.slice m.a1 M.n1 m.c1, .slice m.a2 M.n2 m.c2, .slice m.a3 M.n3 m.c3] 26)) (.slice ao n cc) (.int .i64 0) (.int .u64 0) 75
  rw [World.size_alloc] at cb
  have s2 : ((w1.alloc (.cells #[.slice m.a1 M.n1 m.c1, .slice m.a2 M.n2 m.c2, .slice m.a3 M.n3 m.c3] 26)).alloc (.cells #[.slice ao n cc, .int .i64 0, .int .u64 0] 75)).heap.size = w1.heap.size + 1 + 1 := by simp
  have C0 : Hid (Cur (fun b => b < w.heap.size) ((w1.alloc (.cells #[.slice m.a1 M.n1 m.c1, .slice m.a2 M.n2 m.c2, .slice m.a3 M.n3 m.c3] 26)).alloc (.cells #[.slice ao n cc, .int .i64 0, .int .u64 0] 75)) (w1.heap.size + 1) 0) := ⟨ao, n, cc, 0, f, 0, cb, H.out.blw ((hb0.trans hb1).trans hb2), Nat.le_refl _, fun b hb => by omega⟩
  have HA : Hid _ := hA.blw hb2
  have HU : Hid _ := hU.blw hb2
  have HR : Hid _ := (rR.blw hb1).blw hb2
  have HB : Hid _ := (hb0.trans hb1).trans hb2
  have HX : Hid _ := bx
  clear hA hU hb1 rR bx cb hb2 hbA hbC hb0 H
  go_upto_region 3 with fail
  revert s2 C0 HA HU HR HB HX
  generalize (w1.alloc (.cells #[.slice m.a1 M.n1 m.c1, .slice m.a2 M.n2 m.c2, .slice m.a3 M.n3 m.c3] 26)).alloc (.cells #[.slice ao n cc, .int .i64 0, .int .u64 0] 75) = w2
  intro s2 C0 HA HU HR HB HX
  rw [s0] at HA HU
  obtain ⟨A0, A1, A2⟩ := box3_mod2 (R := w1.heap.size + 1) (R2 := w.heap.size) HX.out (by omega) (by omega)
  have hYr : ∀ b, b < w.heap.size → b < w2.heap.size := fun b hb => by omega
  have HYr : Hid (∀ b, b < w.heap.size → b < w2.heap.size) := hYr
  have hS2 : w1.heap.size + 1 < w2.heap.size := by omega
  clear hYr s2 HX
  go_region_held3 (fun w' => Mod (fun b => b = w1.heap.size + 1 ∨ b = w.heap.size) w2 w')
    ((first
      | exact (Mod.refl _ _).drew
      | assumption
      | exact Mod.mono k3 (fun b hb => Or.inl hb)
      | exact Mod.mono k2 (fun b hb => Or.inl hb)
      | exact Mod.mono k1 (fun b hb => Or.inl hb)
      | exact Mod.trans (Mod.mono k3 (fun b hb => Or.inl hb)) (Mod.mono (mod_set3 _ _ _ _ _) (fun b hb => Or.inr hb))))
    (first
      | (go_at_call_of 51 (Value.int IntKind.i64 22); refine (pick_any (fun b => b < w.heap.size) (w1.heap.size + 1) 0 22 _ (by omega) (by omega) (C0.out.blw (Blw.refl _).drew)).mono ?_; rintro e wp1 ⟨y1, rfl, hy1, cp1, mp1⟩; have k1 : Mod (fun b => b = w1.heap.size + 1) w2 wp1 := Mod.trans (Mod.refl _ _).drew mp1)
      | (go_at_call_of 51 (Value.int IntKind.i64 9); refine (pick_any (fun b => b < w.heap.size) (w1.heap.size + 1) (0 + 2) 9 _ (by omega) (by omega) cp1).mono ?_; rintro e wp2 ⟨y2, rfl, hy2, cp2, mp2⟩; have k2 : Mod (fun b => b = w1.heap.size + 1) w2 wp2 := Mod.trans k1 mp2; have z2 := k2.size; have e8 : IntKind.i64.wrap ((y2 : Int) / 8) = (y2 : Int) / 8 := (by rw [IntKind.wrap_i64]; omega); have e9 : IntKind.i64.wrap ((y1 : Int) - (y2 : Int) / 8) = (y1 : Int) - (y2 : Int) / 8 := (by rw [IntKind.wrap_i64]; omega))
      | (go_at_call 52
         refine (kept_any (fun b => b < w.heap.size) (w1.heap.size + 1) (0 + 2 + 2) _ (by omega) (fun b hb => by have := HYr.out b hb; omega) cp2).mono ?_
         intro e wp3 hG3
         obtain ⟨a3, n3, c3, f3, rfl, hn3, hI3, cp3, mp3⟩ := hG3
         have k3 : Mod (fun b => b = w1.heap.size + 1) w2 wp3 := Mod.trans k2 mp3
         have z3 := mp3.size
         have r3 : Row wp3 w.heap.size 3 (fun _ => .slice none 0 0) := Row.mod (show Row w2 w.heap.size 3 (fun _ => .slice none 0 0) from HR.out) k3 (by omega)
         obtain ⟨⟨x0, x1, x2⟩, g0, g1', g2⟩ := res6 r3
         have FIN := hid_of (givesF_fin (k := (y1 : Int) - (y2 : Int) / 8) (c1 := c1) (c3 := c3) HA.out HU.out HB.out k3 hI3 z1 hS2 z2 z3)
         clear r3 hI3 cp3))
  all_goals clear A0 A1 A2 k1 k2 k3 HA HU HR HB
  all_goals go_wp2
  all_goals exact bodyPost_ret (v := .tuple #[m.val M, .slice a1 n1 c1, .int .i64 ((y1 : Int) - (y2 : Int) / 8), .slice a3 n3 c3]) (by simp [results, Try.results12, go_sem, x0, x1, x2, e8, e9]) rfl FIN.out
end Go.Proofs.Ytglllnklcnlcjaa
/- What the laws of stage 4 say, without any walk. -/
namespace Go.Proofs.Ytglllnklcnlcjaa
open Go.RowKit
set_option linter.unusedSimpArgs false
set_option linter.unusedVariables false
theorem fail_good {H : HS} {P : Nat → Prop} (g : H.md.Good) : (MD.full (fpS H.s H.c P 12) (fpC H.s H.c P 12) (faD H.d 12)).Good := by
  refine ⟨rfl, rfl, rfl, fun k hk => ?_⟩
  have o := g.ok k hk
  by_cases hp : P k
  · have e : fpC H.s H.c P 12 k = H.c k := by funext j; unfold fpC; rw [if_pos hk, if_pos hp]
    refine ⟨?_, ?_, fun _ j _ => fp_same hk j⟩
    · show lineOK 4 (fpS H.s H.c P 12 k)
      rw [show fpS H.s H.c P 12 k = H.c k by funext j; rw [fp_same hk j, e]]
      exact o.b
    · show lineOK 4 (fpC H.s H.c P 12 k)
      rw [e]; exact o.b
  · have e : fpC H.s H.c P 12 k = H.s k := by funext j; unfold fpC; rw [if_pos hk, if_neg hp]
    refine ⟨?_, ?_, fun _ j _ => fp_same hk j⟩
    · show lineOK 4 (fpS H.s H.c P 12 k)
      rw [show fpS H.s H.c P 12 k = H.s k by funext j; rw [fp_same hk j, e]]
      exact o.a
    · show lineOK 4 (fpC H.s H.c P 12 k)
      rw [e]; exact o.a
theorem fail_w {H : HS} {P : Nat → Prop} {s : Nat → Nat → Int} {d : Nat → Bool} : Failed H ⟨s, fpC H.s H.c P 12, d⟩ := by
  refine ⟨fun k hk => ?_⟩
  by_cases hp : P k
  · exact Or.inl fun j _ => by show fpC H.s H.c P 12 k j = _; unfold fpC; rw [if_pos hk, if_pos hp]
  · exact Or.inr fun j _ => by show fpC H.s H.c P 12 k j = _; unfold fpC; rw [if_pos hk, if_neg hp]
theorem back_fact {M R : MD} (h : rdOut M R true) : R.Good ∧ (HS.of R).w 24 = 0 ∧ (HS.of R).u 24 = 0 := by
  rcases h with ⟨⟨g, l⟩, rfl, -⟩ | ⟨-, -, h⟩
  · exact ⟨back_good (good_of g) l, back_count _⟩
  · cases h
theorem none_pending {M : MD} {x : Int} {b : Bool} (g : M.Good) (h : (HS.of M).w 24 = 0) (k : pnOut M x b) : x = 0 ∧ b = true := by
  rcases k with ⟨_, _, rfl, rfl⟩ | ⟨n, _, _⟩
  · exact ⟨h, rfl⟩
  · exact absurd ⟨g, by omega⟩ n
theorem recovered_fact {U R F : MD} {f : Nat → Int} {x y : Int} {b5 b6 b7 : Bool} (h : rdOut U R true) (hf : fwOut R 0 f F b5) (hn : pnOut R x b6) (hk : pnOut F y b7) : R.Good ∧ b5 = true ∧ b6 = true ∧ x = 0 ∧ b7 = true ∧ y = 0 := by
  obtain ⟨g, c, u⟩ := back_fact h
  obtain ⟨rfl, rfl⟩ := none_pending g c hn
  rcases hf with ⟨_, _, rfl, rfl⟩ | ⟨n, _, _⟩
  · obtain ⟨rfl, rfl⟩ := none_pending (M := MD.full (fpS R.v1 R.v2 (hasLine 0 f) 12) (fpC R.v1 R.v2 (hasLine 0 f) 12) (faD R.d 12)) (fail_good (H := HS.of R) (good_of g)) (by
      have w := (fail_w (H := HS.of R) (P := hasLine 0 f) (s := fpS R.v1 R.v2 (hasLine 0 f) 12) (d := faD R.d 12)).two (q := 24) (by omega) c u
      exact w) hk
    exact ⟨g, rfl, rfl, rfl, rfl, rfl⟩
  · exact absurd ⟨g, fun i hi => absurd hi (Nat.not_lt_zero _)⟩ n
theorem steps_fact {M : MD} {n : Nat} {f g : Nat → Int} {N : Nat} {R : Nat → MD} {D : MD} {one : Bool} (h : dsOut M n f g N R true) (hd : ddOut M n f g D one) : N = 4 * n + 5 ∧ M.Good ∧ R 0 = (HS.of M).md ∧ R (N - 1) = D ∧ one = true := by
  rcases h with ⟨g0, rfl, e, -⟩ | ⟨-, -, h⟩
  · rcases hd with ⟨-, rfl, rfl⟩ | ⟨n, _, _⟩
    · exact ⟨rfl, g0.1, e 0 (by omega), e _ (by omega), rfl⟩
    · exact absurd g0 n
  · cases h
theorem all_good {M : MD} {n : Nat} {f g : Nat → Int} {N : Nat} {R : Nat → MD} {b : Bool} (h : dsOut M n f g N R b) {i : Nat} (hi : i < N) : (R i).Good := by
  rcases h with ⟨g0, rfl, e, -⟩ | ⟨-, rfl, -⟩
  · rw [e i hi]; exact DS_good g0.1 g0.2.2 (by omega)
  · omega
theorem words_fact {M D : MD} {n : Nat} {f g : Nat → Int} {nb : Nat} {fb : Nat → Int} {two : Bool} (hd : ddOut M n f g D true) (hB : daOut D nb fb two) : two = true ∧ nb = 16 ∧ ∀ i, i < n → (8 ≤ f i ∧ f i ≤ 23) ∧ fb (f i - 8).toNat = g i := by
  rcases hd with ⟨g0, rfl, -⟩ | ⟨-, -, h⟩
  · have gd := DS_good g0.1 g0.2.2 (Nat.le_refl (4 * n + 4))
    rcases hB with ⟨_, rfl, e, rfl⟩ | ⟨n, _, _⟩
    · refine ⟨rfl, rfl, fun i hi => ?_⟩
      have p := pl_place g0.2.2 hi
      have q := (inv_data (x := g) (v := vs M f) (H := HS.of M) (goodP_places g0.2.2) hi (4 * n + 4) (Nat.le_refl _)).1 (by omega)
      refine ⟨by omega, ?_⟩
      rw [e _ (by omega), show 8 + (f i - 8).toNat = pl f i by omega]
      exact q
    · exact absurd gd n
  · cases h
theorem deed_fact {M F D A : MD} {n : Nat} {f g : Nat → Int} {k : Int} {ns : Nat} {fs : Nat → Int} {na nb nc ne : Nat} {fa fb fc fe : Nat → Int} {one two three four five six seven : Bool} {x : Int}
    (hf : fdOut M n f g k ns fs F true) (hd : ddOut M n f g D one) (calm : ∀ i, i < 12 → M.d i = false) (hA : daOut M na fa two) (hB : daOut D nb fb three) (hC : daOut F nc fc four) (hN : pnOut F x five) (hR : rdOut F A six) (hE : daOut A ne fe seven) :
    (one = true ∧ two = true ∧ three = true ∧ four = true ∧ five = true ∧ x = 0 ∧ six = true ∧ seven = true) ∧ (na = 16 ∧ nb = 16 ∧ nc = 16 ∧ ne = 16) ∧ ((∀ i, i < 16 → fc i = fa i) ∨ (∀ i, i < 16 → fc i = fb i)) ∧ ∀ i, i < 16 → fe i = fc i := by
  rcases hf with ⟨g0, hr, i, rfl, hi, h⟩ | ⟨-, -, h⟩
  · obtain ⟨gF, cF, uF⟩ := back_fact h
    obtain ⟨rfl, rfl⟩ := none_pending gF cF hN
    have lF : (HS.of F).log := ⟨by omega, fun k hk => by omega⟩
    rcases hR with ⟨-, rfl, rfl⟩ | ⟨n, _, _⟩
    · have gA : ((HS.of F).back.md).Good := back_good (good_of gF) lF
      rcases hd with ⟨-, rfl, rfl⟩ | ⟨n, _, _⟩
      · have gD := DS_good g0.1 g0.2.2 (Nat.le_refl (4 * n + 4))
        rcases hA with ⟨gM, rfl, eA, rfl⟩ | ⟨n, _, _⟩
        · rcases hB with ⟨-, rfl, eB, rfl⟩ | ⟨n, _, _⟩
          · rcases hC with ⟨-, rfl, eC, rfl⟩ | ⟨n, _, _⟩
            · rcases hE with ⟨-, rfl, eE, rfl⟩ | ⟨n, _, _⟩
              · refine ⟨⟨rfl, rfl, rfl, rfl, rfl, rfl, rfl, rfl⟩, ⟨rfl, rfl, rfl, rfl⟩, ?_, fun q hq => ?_⟩
                · rcases h with ⟨⟨g1, l1⟩, rfl, -⟩ | ⟨-, -, h⟩
                  · have hu : ∀ q, q < 48 → (HS.of M).u q = (HS.of M).w q := fun q hq => (gM.ok (q / 4) (by omega)).c (calm _ (by omega)) _ (by omega)
                    have W := deed_whole (n := n) (p := pl f) (x := g) (H := HS.of M) (F := HS.of (fdM M n f g i ns fs)) (goodP_places g0.2.2) (by have := g0.2.2.1.1; omega) g0.2.1 hu (i := i) (by omega) (fail_w (H := DS M n f g i) (P := hasLine ns fs))
                    rcases W with W | W
                    · left; intro q hq; rw [eC q hq, eA q hq]; exact W (8 + q) (by omega)
                    · right; intro q hq; rw [eC q hq, eB q hq]; exact W (8 + q) (by omega)
                  · cases h
                · rw [eE q hq, eC q hq]; exact back_none cF (by omega)
              · exact absurd gA n
            · exact absurd gF n
          · exact absurd gD n
        · exact absurd g0.1 n
      · exact absurd g0 n
    · exact absurd ⟨gF, lF⟩ n
  · cases h
end Go.Proofs.Ytglllnklcnlcjaa
/- What the laws' own 'sameMemory' and its parts answer. -/
namespace Go.Proofs.Ytglllnklcnlcjaa
open Go.RowKit
set_option linter.unusedSimpArgs false
set_option maxHeartbeats 400000 in
theorem sameInts_yes (a1 a2 : Option Addr) (c1 c2 n0 : Nat) (f g : Nat → Int) {Y Z : Nat → Prop} (w : World) (h1 : IntsAt Y w a1 n0 f) (h2 : IntsAt Z w a2 n0 g) (he : ∀ i, i < n0 → f i = g i) :
    Calls Try.prog 22 #[.slice a1 n0 c1, .slice a2 n0 c2] w fun e w' => e = .returned (.bool true) ∧ ∃ n, w' = w.drewN n := by
  replace h2 := h2.congr (fun i hi => (he i hi).symm)
  clear he
  obtain ⟨hl, h1⟩ := h1
  obtain ⟨-, h2⟩ := h2
  go_enter Try.func22, Try.ntmps22
  go_wp2
  go_loopw [13] (fun i wr => ∃ k n : Nat, k ≤ n0 ∧ i = .int .i64 k ∧ wr = w.drewN n) (fun i _ => n0 - (intOf i).toNat)
  case atStart => exact ⟨0, 0, Nat.zero_le _, rfl, rfl⟩
  case round =>
    obtain ⟨k, n, hk, rfl, rfl⟩ := hrel
    by_cases hlt : k < n0
    · obtain ⟨b, o, rfl, -, g1⟩ := h1 k hlt
      obtain ⟨b', o', rfl, -, g2⟩ := h2 k hlt
      clear h1 h2
      go_wp2
      go_quiet (fail)
      go_wp2
      go_roundw
      case rel => exact ⟨k + 1, _, by omega, by go_num, rfl⟩
      case measure => simp [intOf]; omega
    · go_wp2
      go_ret
      exact ⟨rfl, n, rfl⟩
set_option maxHeartbeats 400000 in
theorem sameInts_no (a1 a2 : Option Addr) (c1 c2 n0 : Nat) (f g : Nat → Int) {Y Z : Nat → Prop} (w : World) (h1 : IntsAt Y w a1 n0 f) (h2 : IntsAt Z w a2 n0 g) (i : Nat) (hi : i < n0) (he : ¬ f i = g i) :
    Calls Try.prog 22 #[.slice a1 n0 c1, .slice a2 n0 c2] w fun e w' => e = .returned (.bool false) ∧ ∃ n, w' = w.drewN n := by
  obtain ⟨hl, h1⟩ := h1
  obtain ⟨-, h2⟩ := h2
  have HE : Hid (¬ f i = g i) := he
  clear he
  go_enter Try.func22, Try.ntmps22
  go_wp2
  go_loopw [13] (fun ii wr => ∃ k n : Nat, k ≤ i ∧ ii = .int .i64 k ∧ wr = w.drewN n) (fun i _ => n0 - (intOf i).toNat)
  case atStart => exact ⟨0, 0, Nat.zero_le _, rfl, rfl⟩
  case round =>
    obtain ⟨k, n, hk, rfl, rfl⟩ := hrel
    have hlt : k < n0 := by omega
    obtain ⟨b, o, rfl, -, g1⟩ := h1 k hlt
    obtain ⟨b', o', rfl, -, g2⟩ := h2 k hlt
    clear h1 h2
    by_cases hf : f k = g k
    · have hne : k ≠ i := fun e => HE.out (e ▸ hf)
      rw [← hf] at g2
      clear hf
      go_wp2
      go_quiet (fail)
      go_wp2
      go_roundw
      case rel => exact ⟨k + 1, _, by omega, by go_num, rfl⟩
      case measure => simp [intOf]; omega
    · have hb : (f k != g k) = true := by simpa using hf
      clear hf
      go_wp2
      go_quiet (fail)
      go_wp2
      go_ret
      exact ⟨rfl, _, by simp only [World.drewN_drewN]; rfl⟩
set_option maxHeartbeats 400000 in
theorem sameBools_same (a1 a2 : Option Addr) (c1 c2 : Nat) (n0 : Nat) (f : Nat → Bool) {Y Z : Nat → Prop} (w : World) (h1 : BoolsAt Y w a1 n0 f) (h2 : BoolsAt Z w a2 n0 f) :
    Calls Try.prog 58 #[.slice a1 n0 c1, .slice a2 n0 c2] w fun e w' => e = .returned (.bool true) ∧ ∃ n, w' = w.drewN n := by
  obtain ⟨hl, h1⟩ := h1
  obtain ⟨-, h2⟩ := h2
  go_enter Try.func58, Try.ntmps58
  go_wp2
  go_loopw [13] (fun i wr => ∃ k n : Nat, k ≤ n0 ∧ i = .int .i64 k ∧ wr = w.drewN n) (fun i _ => n0 - (intOf i).toNat)
  case atStart => exact ⟨0, 0, Nat.zero_le _, rfl, rfl⟩
  case round =>
    obtain ⟨k, n, hk, rfl, rfl⟩ := hrel
    by_cases hlt : k < n0
    · obtain ⟨b, o, rfl, -, g1⟩ := h1 k hlt
      obtain ⟨b', o', rfl, -, g2⟩ := h2 k hlt
      clear h1 h2
      go_wp2
      go_quiet (fail)
      go_wp2
      go_roundw
      case rel => exact ⟨k + 1, _, by omega, by go_num, rfl⟩
      case measure => simp [intOf]; omega
    · go_wp2
      go_ret
      exact ⟨rfl, n, rfl⟩
set_option maxHeartbeats 800000 in
theorem sameLines_same (a1 a2 : Option Addr) (c1 c2 : Nat) (n0 : Nat) (len : Nat → Nat) (f : Nat → Nat → Int) {Y Z : Nat → Prop} (w : World) (h1 : LinesAt Y w a1 n0 len f) (h2 : LinesAt Z w a2 n0 len f) :
    Calls Try.prog 57 #[.slice a1 n0 c1, .slice a2 n0 c2] w fun e w' => e = .returned (.bool true) ∧ Blw w w' := by
  obtain ⟨hl, h1⟩ := h1
  obtain ⟨-, h2⟩ := h2
  go_enter Try.func57, Try.ntmps57
  go_wp2
  go_loopw [13] (fun i wr => ∃ k : Nat, k ≤ n0 ∧ i = .int .i64 k ∧ Blw w wr) (fun i _ => n0 - (intOf i).toNat)
  case atStart => exact ⟨0, Nat.zero_le _, rfl, Blw.refl _⟩
  case round =>
    obtain ⟨k, hk, rfl, hb⟩ := hrel
    by_cases hlt : k < n0
    · obtain ⟨b, o, e, ce, rfl, -, g1, k1⟩ := h1 k hlt
      obtain ⟨b', o', e', ce', rfl, -, g2, k2⟩ := h2 k hlt
      replace g1 := hb.cell g1
      replace g2 := hb.cell g2
      replace k1 := k1.blw hb
      replace k2 := k2.blw hb
      clear h1 h2
      generalize len k = lk at *
      go_wp2
      go_region_with (go_at_call 22; refine (sameInts_yes _ _ _ _ lk (f k) (f k) _ (k1.blw (Blw.refl _).drew) (k2.blw (Blw.refl _).drew) (fun _ _ => rfl)).mono ?_; rintro e w' ⟨rfl, nq, rfl⟩)
      all_goals go_wp2
      all_goals go_roundw
      all_goals first | exact ⟨k + 1, by omega, by go_num, hb.trans (by repeat (first | exact Blw.refl _ | apply Blw.drewN | apply Blw.drew))⟩ | (simp [intOf]; omega)
    · go_wp2
      go_ret
      exact ⟨rfl, hb⟩
set_option maxHeartbeats 800000 in
theorem sameMemory_same (m m' : MV) (M : MD) {Y Z : Nat → Prop} (w : World) (h1 : MemAt Y w m M) (h2 : MemAt Z w m' M) :
    Calls Try.prog 17 #[m.val M, m'.val M] w fun e w' => e = .returned (.bool true) ∧ Blw w w' := by
  obtain ⟨a1, a2, a3, c1, c2, c3⟩ := m
  obtain ⟨b1, b2, b3, d1, d2, d3⟩ := m'
  obtain ⟨n1, n2, n3, l1, l2, v1, v2, dd⟩ := M
  obtain ⟨s1, s2, s3⟩ := h1
  obtain ⟨t1, t2, t3⟩ := h2
  simp only [MV.val] at *
  go_enter Try.func17, Try.ntmps17
  go_wp2_with fail
  have hb0 : Blw w ((w.alloc (.cells #[.slice a1 n1 c1, .slice a2 n2 c2, .slice a3 n3 c3] 26)).alloc (.cells #[.slice b1 n1 d1, .slice b2 n2 d2, .slice b3 n3 d3] 26)) := ((Blw.refl _).alloc _).alloc _
  refine (sameLines_same _ _ _ _ n1 l1 v1 _ (s1.blw hb0) (t1.blw hb0)).mono ?_
  rintro e w1 ⟨rfl, hb1⟩
  have p1 : w1.cell? ⟨w.heap.size, 1, none⟩ = some (.slice a2 n2 c2) := hb1.cell (by go_cell)
  have p2 : w1.cell? ⟨w.heap.size, 2, none⟩ = some (.slice a3 n3 c3) := hb1.cell (by go_cell)
  have q1 : w1.cell? ⟨w.heap.size + 1, 1, none⟩ = some (.slice b2 n2 d2) := hb1.cell (by go_cell)
  have q2 : w1.cell? ⟨w.heap.size + 1, 2, none⟩ = some (.slice b3 n3 d3) := hb1.cell (by go_cell)
  have hB1 : Blw w w1 := hb0.trans hb1
  clear hb0 hb1
  go_wp2_with fail
  refine (sameLines_same _ _ _ _ n2 l2 v2 _ (s2.blw hB1) (t2.blw hB1)).mono ?_
  rintro e w2 ⟨rfl, hb2⟩
  replace p2 := hb2.cell p2
  replace q2 := hb2.cell q2
  have hB2 : Blw w w2 := hB1.trans hb2
  clear p1 q1 hB1 hb2
  go_wp2_with fail
  refine (sameBools_same _ _ _ _ n3 dd _ (s3.blw hB2) (t3.blw hB2)).mono ?_
  rintro e w3 ⟨rfl, n, rfl⟩
  go_wp2
  go_ret
  exact ⟨rfl, hB2.drewN _⟩
end Go.Proofs.Ytglllnklcnlcjaa
/- What FnDeed says, in the order in which it asks. -/
namespace Go.Proofs.Ytglllnklcnlcjaa
open Go.RowKit
set_option linter.unusedVariables false
theorem deed_one {M F D : MD} {n : Nat} {f g : Nat → Int} {k : Int} {ns : Nat} {fs : Nat → Int} {na nb nc : Nat} {fa fb fc : Nat → Int} {one two three four five : Bool} {x : Int}
    (hf : fdOut M n f g k ns fs F true) (hd : ddOut M n f g D one) (calm : ∀ i, i < 12 → M.d i = false) (hA : daOut M na fa two) (hB : daOut D nb fb three) (hC : daOut F nc fc four) (hN : pnOut F x five) :
    (one = true ∧ two = true ∧ three = true ∧ four = true ∧ five = true ∧ x = 0) ∧ (na = 16 ∧ nb = 16 ∧ nc = 16) ∧ ((∀ i, i < 16 → fc i = fa i) ∨ (∀ i, i < 16 → fc i = fb i)) := by
  have hR : ∃ A six, rdOut F A six := by
    by_cases r : F.Good ∧ (HS.of F).log
    · exact ⟨_, _, Or.inl ⟨r, rfl, rfl⟩⟩
    · exact ⟨_, _, Or.inr ⟨r, rfl, rfl⟩⟩
  obtain ⟨A, six, hR⟩ := hR
  have hE : ∃ ne fe seven, daOut A ne fe seven := by
    by_cases r : A.Good
    · exact ⟨_, _, _, Or.inl ⟨r, rfl, fun i _ => rfl, rfl⟩⟩
    · exact ⟨_, fun _ => 0, _, Or.inr ⟨r, rfl, rfl⟩⟩
  obtain ⟨ne, fe, seven, hE⟩ := hE
  obtain ⟨⟨e1, e2, e3, e4, e5, e6, e7, e8⟩, ⟨f1, f2, f3, f4⟩, h, -⟩ := deed_fact hf hd calm hA hB hC hN hR hE
  exact ⟨⟨e1, e2, e3, e4, e5, e6⟩, ⟨f1, f2, f3⟩, h⟩
theorem deed_two {M F D A : MD} {n : Nat} {f g : Nat → Int} {k : Int} {ns : Nat} {fs : Nat → Int} {na nb ne : Nat} {fa fb fc fe : Nat → Int} {two three six seven : Bool}
    (hf : fdOut M n f g k ns fs F true) (hd : ddOut M n f g D true) (calm : ∀ i, i < 12 → M.d i = false) (hA : daOut M na fa two) (hB : daOut D nb fb three) (hC : daOut F 16 fc true) (hN : pnOut F 0 true) (hR : rdOut F A six) (hE : daOut A ne fe seven) :
    six = true ∧ seven = true ∧ ne = 16 ∧ ∀ i, i < 16 → fe i = fc i := by
  obtain ⟨⟨e1, e2, e3, e4, e5, e6, e7, e8⟩, ⟨f1, f2, f3, f4⟩, -, h⟩ := deed_fact hf hd calm hA hB hC hN hR hE
  exact ⟨e7, e8, f4, h⟩
theorem fd_n3 {M F : MD} {n : Nat} {f g : Nat → Int} {k : Int} {ns : Nat} {fs : Nat → Int} (hf : fdOut M n f g k ns fs F true) : M.n3 = 12 := by
  rcases hf with ⟨g0, hr, i, rfl, hi, h⟩ | ⟨-, -, h⟩
  · exact g0.1.n3
  · cases h
theorem iff_bool {a b : Bool} {p : Prop} (h : a = true ↔ p) (k : b = true ↔ p) : a = b := by
  cases a <;> cases b <;> simp_all
theorem BoolsAt.small {Y : Nat → Prop} {w : World} {a : Option Addr} {n : Nat} {f : Nat → Bool} (h : BoolsAt Y w a n f) : n ≤ 9223372036854775807 := h.1
theorem no22 (a1 a2 : Option Addr) (c1 c2 n0 : Nat) (f g : Nat → Int) (w : World) (h1 : IntsAt (fun x => x < w.heap.size) w a1 n0 f) (h2 : IntsAt (fun x => x < w.heap.size) w a2 n0 g) (i : Nat) (hi : i < n0) (he : ¬ f i = g i) :
    Calls Try.prog 22 #[.slice a1 n0 c1, .slice a2 n0 c2] w fun e w' => e = .returned (.bool false) ∧ Blw w w' :=
  (sameInts_no a1 a2 c1 c2 n0 f g w h1 h2 i hi he).mono fun e w' ⟨he, n, hw⟩ => ⟨he, by subst hw; exact (Blw.refl _).drewN n⟩
end Go.Proofs.Ytglllnklcnlcjaa
/- How great answers are. -/
namespace Go.Proofs.Ytglllnklcnlcjaa
open Go.RowKit
theorem rdOut_total {M R : MD} {b : Bool} (h : rdOut M R b) : R.total ≤ 108 := by
  rcases h with ⟨_, rfl, _⟩ | ⟨_, rfl, _⟩
  · exact Nat.le_of_eq (total_full _ _ _)
  · rw [total_zero]; omega
theorem ddOut_total {M : MD} {n : Nat} {f g : Nat → Int} {R : MD} {b : Bool} (h : ddOut M n f g R b) : R.total ≤ 108 := by
  rcases h with ⟨_, rfl, _⟩ | ⟨_, rfl, _⟩
  · exact Nat.le_of_eq (total_full _ _ _)
  · rw [total_zero]; omega
theorem fdOut_total {M : MD} {n : Nat} {f g : Nat → Int} {k : Int} {ns : Nat} {fs : Nat → Int} {R : MD} {b : Bool} (h : fdOut M n f g k ns fs R b) : R.total ≤ 108 := by
  rcases h with ⟨_, _, _, _, _, h⟩ | ⟨_, rfl, _⟩
  · exact rdOut_total h
  · rw [total_zero]; omega
end Go.Proofs.Ytglllnklcnlcjaa
/- The laws' functions on lists of memories: compared, marked, held. -/
namespace Go.Proofs.Ytglllnklcnlcjaa
open Go.RowKit
set_option linter.unusedSimpArgs false
set_option linter.unusedVariables false
/-- How many marks the first memories bear. -/
def totals (R : Nat → MD) : Nat → Nat
  | 0 => 0
  | k + 1 => totals R k + (R k).total
def markedS (R : Nat → MD) (k : Int) : Nat → MD := fun i => (R i).marked (k + totals R i)
def SmallS (R : Nat → MD) (n : Nat) : Prop := n ≤ 100 ∧ ∀ i, i < n → (R i).total ≤ 108
theorem totals_le' {R : Nat → MD} {n : Nat} (h : SmallS R n) : ∀ k, k ≤ n → totals R k ≤ 108 * k
  | 0, _ => Nat.le_refl _
  | k + 1, hk => by
    have h1 := totals_le' h k (by omega)
    have h2 := h.2 k (by omega)
    show totals R k + (R k).total ≤ _
    omega
theorem totals_le {R : Nat → MD} {n : Nat} (h : SmallS R n) : totals R n ≤ 1048576 := by
  have h1 := totals_le' h n (Nat.le_refl _)
  have h2 := h.1
  omega
theorem dsOut_n {M : MD} {n : Nat} {f g : Nat → Int} {N : Nat} {R : Nat → MD} {b : Bool} (h : dsOut M n f g N R b) : SmallS R N := by
  rcases h with ⟨hr, rfl, hR, _⟩ | ⟨_, rfl, _⟩
  · have := hr.2.2.1.2
    exact ⟨by omega, fun i hi => by rw [hR i hi]; exact Nat.le_of_eq (total_full _ _ _)⟩
  · exact ⟨by omega, fun i hi => by omega⟩
set_option maxHeartbeats 3200000 in
theorem eqMemoryS_same (a1 a2 : Option Addr) (c1 c2 : Nat) (n : Nat) (R : Nat → MD) {X Y : Nat → Prop} (w : World) (h1 : MemsOwn X w a1 n R) (h2 : MemsOwn Y w a2 n R) :
    Calls Try.prog 40 #[.slice a1 n c1, .slice a2 n c2] w fun e w' => e = .returned (.bool true) ∧ Blw w w' := by
  obtain ⟨mv1, h1'⟩ := h1.at
  obtain ⟨mv2, h2'⟩ := h2.at
  have H1 : Hid (MemsAt X w a1 n mv1 R) := h1'
  have H2 : Hid (MemsAt Y w a2 n mv2 R) := h2'
  have hn := h1.1
  clear h1 h2 h1' h2'
  have hne : ((n : Int) != (n : Int)) = false := by simp
  go_enter Try.func40, Try.ntmps40
  go_wp2_with fail
  go_loopw [5] (fun i wr => ∃ k : Nat, k ≤ n ∧ i = .int .i64 k ∧ Blw w wr) (fun i _ => n - (intOf i).toNat)
  case atStart => exact ⟨0, Nat.zero_le _, rfl, Blw.refl _⟩
  case round =>
    obtain ⟨k, hk, rfl, hb⟩ := hrel
    by_cases hlt : k < n
    · have hlt' : (k : Int) < n := by omega
      obtain ⟨⟨b1, o1, rfl, -, r10, r11, r12⟩, m1⟩ := (H1.out.blw hb).2 k hlt
      obtain ⟨⟨b2, o2, rfl, -, r20, r21, r22⟩, m2⟩ := (H2.out.blw hb).2 k hlt
      have P0 : ∀ w', Blw wr w' → w'.cell? ⟨b1, o1 + k * 3, none⟩ = some (.slice (mv1 k).a1 (R k).n1 (mv1 k).c1) := fun w' hh => hh.cell r10
      have P1 : ∀ w', Blw wr w' → w'.cell? ⟨b1, o1 + k * 3 + 1, none⟩ = some (.slice (mv1 k).a2 (R k).n2 (mv1 k).c2) := fun w' hh => hh.cell r11
      have P2 : ∀ w', Blw wr w' → w'.cell? ⟨b1, o1 + k * 3 + 2, none⟩ = some (.slice (mv1 k).a3 (R k).n3 (mv1 k).c3) := fun w' hh => hh.cell r12
      have Q0 : ∀ w', Blw wr w' → w'.cell? ⟨b2, o2 + k * 3, none⟩ = some (.slice (mv2 k).a1 (R k).n1 (mv2 k).c1) := fun w' hh => hh.cell r20
      have Q1 : ∀ w', Blw wr w' → w'.cell? ⟨b2, o2 + k * 3 + 1, none⟩ = some (.slice (mv2 k).a2 (R k).n2 (mv2 k).c2) := fun w' hh => hh.cell r21
      have Q2 : ∀ w', Blw wr w' → w'.cell? ⟨b2, o2 + k * 3 + 2, none⟩ = some (.slice (mv2 k).a3 (R k).n3 (mv2 k).c3) := fun w' hh => hh.cell r22
      have HB : Hid (Blw w wr) := hb
      have M1 : Hid (MemAt X wr (mv1 k) (R k)) := m1
      have M2 : Hid (MemAt Y wr (mv2 k) (R k)) := m2
      clear r10 r11 r12 r20 r21 r22 hb m1 m2
      go_wp2_with fail
      go_region_held3 (fun w' => Blw wr w') ((first | exact (Blw.refl _).drew | assumption | exact Blw.trans (by assumption) (by assumption))) (first
        | (go_at_call 41; refine (eqMemory_same (mv1 k) (mv2 k) (R k) _ (M1.out.blw (Blw.refl _).drew) (M2.out.blw (Blw.refl _).drew)).mono ?_; rintro e w7 ⟨rfl, hb7⟩))
      all_goals clear P0 P1 P2 Q0 Q1 Q2
      all_goals go_wp2
      all_goals go_roundw
      all_goals first | exact ⟨k + 1, by omega, by go_num, HB.out.trans (by assumption)⟩ | (simp [intOf]; omega)
    · obtain rfl : k = n := by omega
      have hlt' : ¬ (k : Int) < k := by omega
      go_wp2
      go_ret
      exact ⟨rfl, hb⟩
theorem markedS_n (R : Nat → MD) (k : Int) (i : Nat) : (markedS R k i).n1 = (R i).n1 ∧ (markedS R k i).n2 = (R i).n2 ∧ (markedS R k i).n3 = (R i).n3 := ⟨rfl, rfl, rfl⟩
theorem mcell_marked (mv : Nat → MV) (R : Nat → MD) (k : Int) : mcell mv (markedS R k) = mcell mv R := by
  funext j
  simp only [mcell, markedS, MD.marked]
/-- The first j memories are marked. -/
structure MarkJ (X : Nat → Prop) (w wr : World) (b n : Nat) (mv : Nat → MV) (R : Nat → MD) (Z : Nat → Nat → Prop) (k : Int) (j : Nat) : Prop where
  row : Row wr b (n * 3) (mcell mv R)
  own : ∀ i, i < n → MemOwn (Z i) wr (mv i) (if i < j then markedS R k i else R i)
  mod : Mod X w wr
set_option maxRecDepth 10000 in
set_option maxHeartbeats 3200000 in
theorem markMemoryS_any (ao : Option Addr) (c n : Nat) (R : Nat → MD) (X : Nat → Prop) (k : Int) (w : World) (hk0 : 0 ≤ k ∧ k ≤ 1000) (hS : SmallS R n) (hX : ∀ b, X b → b < w.heap.size) (h : MemsOwn X w ao n R) :
    Calls Try.prog 44 #[.slice ao n c, .int .i64 k] w fun e w' => e = .returned (.int .i64 (k + totals R n)) ∧ MemsOwn X w' ao n (markedS R k) ∧ Mod X w w' := by
  have hn := h.1
  have hn100 := hS.1
  have HS : Hid (SmallS R n) := hS
  clear hS
  rcases Nat.eq_zero_or_pos n with hn0 | hn0
  · subst hn0
    go_enter Try.func44, Try.ntmps44
    go_wp2_with fail
    go_loopw [1, 5] (fun kv i wr => i = .int .i64 0 ∧ kv = .int .i64 k ∧ wr = w) (fun _ _ _ => 0)
    case atStart => exact ⟨rfl, rfl, rfl⟩
    case round =>
      obtain ⟨rfl, rfl, rfl⟩ := hrel
      go_wp2
      go_ret
      exact ⟨ret_int (by simp [totals]), MemsOwn.nil _ _ _ _, Mod.refl _ _⟩
  · obtain ⟨b, mv, Z, xb, rfl, r, hI⟩ := h.2 hn0
    have J0 : Hid (MarkJ X w w b n mv R Z k 0) := ⟨r, fun i hi => by rw [if_neg (Nat.not_lt_zero _)]; exact hI.own i hi, Mod.refl _ _⟩
    have HI : Hid (MemsIn (fun x => X x ∧ x ≠ b) w n mv R Z) := hI
    have HXb : Hid (X b) := xb
    clear h r hI xb
    go_enter Try.func44, Try.ntmps44
    go_wp2_with fail
    go_loopw [1, 5] (fun kv i wr => ∃ j : Nat, j ≤ n ∧ i = .int .i64 j ∧ kv = .int .i64 (k + totals R j) ∧ MarkJ X w wr b n mv R Z k j) (fun _ i _ => n - (intOf i).toNat)
    case atStart => exact ⟨0, by omega, rfl, by simp [totals], J0.out⟩
    case round =>
      obtain ⟨j, hj, rfl, rfl, J⟩ := hrel
      clear J0
      by_cases hlt : j < n
      · have hlt' : (j : Int) < n := by omega
        obtain ⟨p0, p1, p2⟩ := mems_get J.row hlt
        have ho := J.own j hlt
        rw [if_neg (Nat.lt_irrefl j)] at ho
        have HJ : Hid _ := J
        obtain ⟨X1, X2, X3, h1, h2, h3, s, cc, d⟩ := ho.ex
        have htj := totals_le' HS.out j (by omega)
        have htt := HS.out.2 j hlt
        have hZb : ∀ x, Z j x → X x ∧ x ≠ b := HI.out.sub j hlt
        have HZb : Hid (∀ x, Z j x → X x ∧ x ≠ b) := hZb
        have x1 : ¬ X1 b := fun hh => (hZb _ (h1 _ hh).1).2 rfl
        have x2 : ¬ X2 b := fun hh => (hZb _ (h2 _ hh).1).2 rfl
        obtain ⟨mj, hmj⟩ : ∃ mj, mj = mv j := ⟨_, rfl⟩
        rw [← hmj] at p0 p1 p2 s cc d
        have hRj : ∃ Rj, Rj = R j := ⟨_, rfl⟩
        obtain ⟨Rj, hRj⟩ := hRj
        rw [← hRj] at p0 p1 p2 s cc d htt
        have HMJ : Hid (mj = mv j) := hmj
        have HRJ : Hid (Rj = R j) := hRj
        obtain ⟨n1, n2, n3, l1, l2, v1, v2, dd⟩ := Rj
        obtain ⟨a1, a2, a3, d1, d2, d3⟩ := mj
        simp only [MD.total] at htt
        have HTT : Hid (totals R (j + 1) = totals R j + (pre l1 n1 + pre l2 n2 + n3)) := by show totals R j + (R j).total = _; rw [← HRJ.out]; rfl
        dsimp only at p0 p1 p2 s cc d
        clear J ho hmj hRj hZb
        generalize hT : totals R j = T at *
        go_wp2_with fail
        clear p0
        refine (markLineS_any _ _ n1 l1 v1 X1 _ _ (by omega) (by omega) s).mono ?_
        rintro e w1 ⟨rfl, o1, m1⟩
        replace p1 := m1.cell p1 x1
        replace p2 := m1.cell p2 x1
        replace cc := cc.mod m1 (fun b hb hh => (h1 b hh).2.1 hb)
        replace d := d.mod m1 (fun b hb hh => (h1 b hh).2.2 hb)
        have M1 : Hid (Mod (Z j) wr w1) := m1.mono (fun b hb => (h1 b hb).1)
        clear s m1
        go_wp2_with fail
        clear p1
        refine (markLineS_any _ _ n2 l2 v2 X2 _ _ (by omega) (by omega) cc).mono ?_
        rintro e w2 ⟨rfl, o2, m2⟩
        replace p2 := m2.cell p2 x2
        replace o1 := o1.mod m2 (fun b hb hh => (h1 b hb).2.1 hh)
        replace d := d.mod m2 (fun b hb hh => (h2 b hh).2 hb)
        have M2 : Hid (Mod (Z j) wr w2) := M1.out.trans (m2.mono (fun b hb => (h2 b hb).1))
        clear cc m2 M1
        go_wp2_with fail
        clear p2
        refine (markBoolS_any _ _ n3 dd X3 _ _ (by omega) (by omega) d).mono ?_
        rintro e w3 ⟨rfl, o3, m3⟩
        replace o1 := o1.mod m3 (fun b hb hh => (h1 b hb).2.2 hh.1)
        replace o2 := o2.mod m3 (fun b hb hh => (h2 b hb).2 hh.1)
        have M3 : Mod (Z j) wr w3 := M2.out.trans (m3.mono (fun b hb => h3 b hb.1))
        have OJ : MemOwn (Z j) w3 (mv j) (markedS R k j) := by
          have h9 : MemOwn (Z j) w3 ⟨a1, a2, a3, d1, d2, d3⟩ (MD.marked ⟨n1, n2, n3, l1, l2, v1, v2, dd⟩ (k + T)) := ⟨X1, X2, X3, h1, h2, h3, o1, o2, o3⟩
          rw [HMJ.out, HRJ.out, ← hT] at h9
          exact h9
        have HN : Hid (MarkJ X w w3 b n mv R Z k (j + 1)) := by
          refine ⟨HJ.out.row.mod M3 (fun hh => (HZb.out _ hh).2 rfl), fun i hi => ?_, HJ.out.mod.trans (M3.mono (fun x hx => (HZb.out x hx).1))⟩
          by_cases e : i = j
          · subst e
            rw [if_pos (by omega)]
            exact OJ
          · have h9 := (HJ.out.own i hi).mod M3 (fun x hx hh => HI.out.dis i j hi hlt e x hx hh)
            by_cases e2 : i < j
            · rw [if_pos e2] at h9
              rw [if_pos (by omega)]; exact h9
            · rw [if_neg e2] at h9
              rw [if_neg (by omega)]; exact h9
        have e1 : k + (T : Int) + (pre l1 n1 : Int) + (pre l2 n2 : Int) + (n3 : Int) = k + (totals R (j + 1) : Nat) := by have := HTT.out; omega
        clear M3 OJ o1 o2 o3 m3 d M2 x1 x2 h1 h2 h3 HJ
        rw [e1]
        clear e1
        go_wp2
        go_roundw
        case rel => exact ⟨j + 1, by omega, by go_num, rfl, HN.out⟩
        case measure => simp [intOf]; omega
      · obtain rfl : j = n := by omega
        have hlt' : ¬ (j : Int) < j := by omega
        have HN : Hid (MemsOwn X wr (some ⟨b, 0, none⟩) j (markedS R k) ∧ Mod X w wr) := by
          refine ⟨⟨hn, fun _ => ⟨b, mv, Z, HXb.out, rfl, by rw [mcell_marked]; exact J.row, ⟨fun i hi => ?_, HI.out.sub, HI.out.dis⟩⟩⟩, J.mod⟩
          have h9 := J.own i hi
          rw [if_pos hi] at h9
          exact h9
        clear J
        go_wp2
        go_ret
        exact ⟨rfl, HN.out.1, HN.out.2⟩
set_option maxRecDepth 10000 in
set_option maxHeartbeats 3200000 in
theorem heldMemoryS_any (ao : Option Addr) (c n : Nat) (R : Nat → MD) (X : Nat → Prop) (k : Int) (w : World) (hk0 : 0 ≤ k ∧ k ≤ 1000) (hS : SmallS R n) (h : MemsOwn X w ao n (markedS R k)) :
    Calls Try.prog 45 #[.slice ao n c, .int .i64 k] w fun e w' => e = .returned (.int .i64 (k + totals R n)) ∧ Blw w w' := by
  have hn := h.1
  have hn100 := hS.1
  have HS : Hid (SmallS R n) := hS
  obtain ⟨mv, hA⟩ := h.at
  have HA : Hid (MemsAt X w ao n mv (markedS R k)) := hA
  clear h hA hS
  go_enter Try.func45, Try.ntmps45
  go_wp2_with fail
  go_loopw [1, 5] (fun kv i wr => ∃ j : Nat, j ≤ n ∧ i = .int .i64 j ∧ kv = .int .i64 (k + totals R j) ∧ Blw w wr) (fun _ i _ => n - (intOf i).toNat)
  case atStart => exact ⟨0, by omega, rfl, by simp [totals], Blw.refl _⟩
  case round =>
    obtain ⟨j, hj, rfl, rfl, hb⟩ := hrel
    by_cases hlt : j < n
    · have hlt' : (j : Int) < n := by omega
      obtain ⟨⟨b, o, rfl, -, p0, p1, p2⟩, mm⟩ := (HA.out.blw hb).2 j hlt
      have htj := totals_le' HS.out j (by omega)
      have htt := HS.out.2 j hlt
      have hRj : ∃ Rj, Rj = R j := ⟨_, rfl⟩
      obtain ⟨Rj, hRj⟩ := hRj
      have mm' : MemAt X wr (mv j) (MD.marked Rj (k + totals R j)) := by rw [hRj]; exact mm
      have q0 : wr.cell? ⟨b, o + j * 3, none⟩ = some (.slice (mv j).a1 Rj.n1 (mv j).c1) := by rw [hRj]; exact p0
      have q1 : wr.cell? ⟨b, o + j * 3 + 1, none⟩ = some (.slice (mv j).a2 Rj.n2 (mv j).c2) := by rw [hRj]; exact p1
      have q2 : wr.cell? ⟨b, o + j * 3 + 2, none⟩ = some (.slice (mv j).a3 Rj.n3 (mv j).c3) := by rw [hRj]; exact p2
      have HTT : Hid (totals R (j + 1) = totals R j + Rj.total) := by rw [hRj]; rfl
      rw [← hRj] at htt
      have HB : Hid (Blw w wr) := hb
      obtain ⟨n1, n2, n3, l1, l2, v1, v2, dd⟩ := Rj
      obtain ⟨s, cc, d⟩ := mm'
      simp only [MD.total, MD.marked] at htt HTT s cc d q0 q1 q2
      clear p0 p1 p2 mm hRj hb
      generalize hT : totals R j = T at *
      go_wp2_with fail
      clear q0
      refine (heldLineS_any _ _ n1 l1 X _ _ (by omega) (by omega) s).mono ?_
      rintro e w1 ⟨rfl, hb1⟩
      replace q1 := hb1.cell q1
      replace q2 := hb1.cell q2
      have k1 : ¬ (k + (T : Int) + (pre l1 n1 : Int) < 0) := by omega
      go_wp2_with fail
      clear q1 k1
      refine (heldLineS_any _ _ n2 l2 X _ _ (by omega) (by omega) (cc.blw hb1)).mono ?_
      rintro e w2 ⟨rfl, hb2⟩
      replace q2 := hb2.cell q2
      replace hb2 := hb1.trans hb2
      have k1 : ¬ (k + (T : Int) + (pre l1 n1 : Int) + (pre l2 n2 : Int) < 0) := by omega
      clear hb1
      go_wp2_with fail
      clear q2 k1
      refine (heldBoolS_any _ _ n3 X _ _ (by omega) (by omega) (d.blw hb2)).mono ?_
      rintro e w3 ⟨rfl, hb3⟩
      replace hb3 := HB.out.trans (hb2.trans hb3)
      have e1 : k + (T : Int) + (pre l1 n1 : Int) + (pre l2 n2 : Int) + (n3 : Int) = k + (totals R (j + 1) : Nat) := by have h9 : totals R (j + 1) = T + (pre l1 n1 + pre l2 n2 + n3) := HTT.out; omega
      have k1 : ¬ (k + (totals R (j + 1) : Nat) < 0) := by omega
      clear s cc d hb2
      rw [e1]
      clear e1
      go_wp2
      go_roundw
      case rel => exact ⟨j + 1, by omega, by go_num, rfl, hb3⟩
      case measure => simp [intOf]; omega
    · obtain rfl : j = n := by omega
      have hlt' : ¬ (j : Int) < j := by omega
      go_wp2
      go_ret
      exact ⟨rfl, hb⟩
end Go.Proofs.Ytglllnklcnlcjaa
/- What stands in the drawn laws of stage 4. -/
namespace Go.Proofs.Ytglllnklcnlcjaa
open Go.RowKit
set_option linter.unusedVariables false
/-- A memory and its box. -/
structure MX (W : World) (z : Nat) (m : MV) (M : MD) : Prop where
  at_ : MemAt (fun x => x < W.heap.size) W m M
  box : Row W z 3 (fun i => if i = 0 then .slice m.a1 M.n1 m.c1 else if i = 1 then .slice m.a2 M.n2 m.c2 else .slice m.a3 M.n3 m.c3)
theorem MX.blw {W W' : World} {z : Nat} {m : MV} {M : MD} (h : MX W z m M) (hb : Blw W W') : MX W' z m M :=
  ⟨(h.at_.blw hb).mono (fun x hx => Nat.lt_of_lt_of_le hx hb.size), h.box.blw hb⟩
theorem MX.all {W : World} {z : Nat} {m : MV} {M : MD} (h : MX W z m M) : (∀ w', Blw W w' → w'.cell? ⟨z, 0, none⟩ = some (.slice m.a1 M.n1 m.c1)) ∧ (∀ w', Blw W w' → w'.cell? ⟨z, 1, none⟩ = some (.slice m.a2 M.n2 m.c2)) ∧ (∀ w', Blw W w' → w'.cell? ⟨z, 2, none⟩ = some (.slice m.a3 M.n3 m.c3)) :=
  ⟨fun w' hb => (get3 (h.box.blw hb)).1, fun w' hb => (get3 (h.box.blw hb)).2.1, fun w' hb => (get3 (h.box.blw hb)).2.2⟩
def LI (W : World) (a : Option Addr) (n : Nat) (f : Nat → Int) : Prop := IntsAt (fun x => x < W.heap.size) W a n f
theorem LI.blw {W W' : World} {a : Option Addr} {n : Nat} {f : Nat → Int} (h : LI W a n f) (hb : Blw W W') : LI W' a n f := (IntsAt.blw h hb).mono (fun x hx => Nat.lt_of_lt_of_le hx hb.size)
def LU (W : World) (a : Option Addr) (n : Nat) (f g : Nat → Int) : Prop := UndosAt (fun x => x < W.heap.size) W a n f g
theorem LU.blw {W W' : World} {a : Option Addr} {n : Nat} {f g : Nat → Int} (h : LU W a n f g) (hb : Blw W W') : LU W' a n f g := (UndosAt.blw h hb).mono (fun x hx => Nat.lt_of_lt_of_le hx hb.size)
def LM (W : World) (a : Option Addr) (n : Nat) (mv : Nat → MV) (R : Nat → MD) : Prop := MemsAt (fun x => x < W.heap.size) W a n mv R
theorem LM.blw {W W' : World} {a : Option Addr} {n : Nat} {mv : Nat → MV} {R : Nat → MD} (h : LM W a n mv R) (hb : Blw W W') : LM W' a n mv R := (MemsAt.blw h hb).mono (fun x hx => Nat.lt_of_lt_of_le hx hb.size)
def BY (W : World) (a : Option Addr) (n : Nat) (f : Nat → Int) : Prop := BytesAt (fun b => b < W.heap.size) W a n f
theorem BY.blw {W W' : World} {a : Option Addr} {n : Nat} {f : Nat → Int} (h : BY W a n f) (hb : Blw W W') : BY W' a n f := (BytesAt.blw h hb).mono' (fun x hx => Nat.lt_of_lt_of_le hx hb.size)
theorem same22 (a1 a2 : Option Addr) (c1 c2 n0 : Nat) (f g : Nat → Int) (w : World) (h1 : LI w a1 n0 f) (h2 : LI w a2 n0 g) (he : ∀ i, i < n0 → f i = g i) :
    Calls Try.prog 22 #[.slice a1 n0 c1, .slice a2 n0 c2] w fun e w' => e = .returned (.bool true) ∧ Blw w w' :=
  (sameInts_yes a1 a2 c1 c2 n0 f g w h1 h2 he).mono fun e w' ⟨he, n, hw⟩ => ⟨he, by subst hw; exact (Blw.refl _).drewN n⟩
theorem good29 {Y : Nat → Prop} (m : MV) (M : MD) (w : World) (g : M.Good) (h : MemAt Y w m M) :
    Calls Try.prog 29 #[m.val M] w fun e w' => e = .returned (.bool true) ∧ Blw w w' :=
  (goodI_any m M _ w h).mono fun e w' ⟨b, he, hb, hw⟩ => ⟨by rw [he, hb.2 g], hw⟩
theorem same_first {Y Z : Nat → Prop} (m m' : MV) (R M : MD) (w : World) (g : M.Good) (e : R = (HS.of M).md) (h1 : MemAt Y w m R) (h2 : MemAt Z w m' M) :
    Calls Try.prog 17 #[m.val R, m'.val M] w fun e w' => e = .returned (.bool true) ∧ Blw w w' := by
  rw [val_full (m := m') g]
  subst e
  exact sameMemory_same m m' _ w h1 (mem_full g h2)
theorem same_last {Y Z : Nat → Prop} (m m' : MV) (R D : MD) (w : World) (e : R = D) (h1 : MemAt Y w m R) (h2 : MemAt Z w m' D) :
    Calls Try.prog 17 #[m.val R, m'.val D] w fun e w' => e = .returned (.bool true) ∧ Blw w w' := by
  subst e
  exact sameMemory_same m m' _ w h1 h2
end Go.Proofs.Ytglllnklcnlcjaa
/- A list of pairs that comes in, opened. -/
namespace Go.Proofs.Ytglllnklcnlcjaa
open Go.ChangeShapes Go.WideShapes Go.ChangeAt Go.RowKit Go.Joins Go.Deep
theorem cells86 : Try.prog.cellsOf 110 = 2 := by kernel_rfl
section
variable {H : Type} {enc : TypeId × Value → H} {w : World} {base : Nat} {spare : Nat → Bool} {held : Bool}
theorem open_undosAt {fuel : Nat} {v : Value} {x : DataW H × List MemPlace} (h : DataW.trod enc Try.prog w base spare held fuel 53 [v] = some x) :
    ∃ ao n c f g, v = .slice ao n c ∧ UndosAt (fun b => b < w.heap.size) w ao n f g := by
  rcases open_slice_pairs Try.underlying53 Try.underlying110 cells86 rfl rfl cells3 cells3 h with ⟨hcs, _⟩ | ⟨a, len, cap, m, n, V0, V1, D0, D1, P0, P1, hcs, _, hl, hm, hmm, _, hx⟩
  · simp only [List.cons.injEq, and_true] at hcs
    exact ⟨none, 0, 0, fun _ => 0, fun _ => 0, hcs, by omega, fun i hi => absurd hi (Nat.not_lt_zero _)⟩
  · simp only [List.cons.injEq, and_true] at hcs
    have hml : len ≤ m := by rw [hmm]; split <;> omega
    unfold maxLen at hm
    have hb : ∀ i, i < len → ∃ t : Int × Int, V0 i = .int .i64 t.1 ∧ V1 i = .int .i64 t.2 := fun i hi => by
      obtain ⟨_, _, h2, h3⟩ := hx i (by omega)
      obtain ⟨a0, e0, _⟩ := DataW.trod_int Try.underlying3 h2
      obtain ⟨a1, e1, _⟩ := DataW.trod_int Try.underlying3 h3
      exact ⟨(a0, a1), by simpa using e0, by simpa using e1⟩
    obtain ⟨T, hT⟩ := choose_lt (α := Int × Int) (n := len) (p := fun i t => V0 i = .int .i64 t.1 ∧ V1 i = .int .i64 t.2) hb
    refine ⟨some a, len, cap, fun i => (T i).1, fun i => (T i).2, hcs, by omega, fun i hi => ?_⟩
    have ha := addr_of_cell (by simpa [Addr.add] using (hx 0 (by omega)).1)
    obtain ⟨hc0, hc1, -⟩ := hx i (by omega)
    rw [ha, Addr.add_mid] at hc0 hc1
    exact ⟨a.block, a.off, by rw [← ha], World.block_lt_of_cell? w ⟨a.block, a.off + i * 2, none⟩ hc0, by rw [hc0, (hT i hi).1], by rw [Nat.add_assoc, hc1, (hT i hi).2]⟩
end
end Go.Proofs.Ytglllnklcnlcjaa
