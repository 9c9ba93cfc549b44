/- A place and a memory that are drawn. -/
import Derived.Test.YtnbcjdoohmjghaaDraw
import Derived.Test.YtnbcjdoohmjghaaNewO
import Derived.Test.YtnbcjdoohmjghaaLawG
namespace Go.Proofs.Ytnbcjdoohmjghaa
open Go.RowKit
set_option linter.unusedSimpArgs false
set_option linter.unusedVariables false
theorem ints_lit (w : World) (l : List Int) (t : TypeId) (hl : l.length ≤ 100) : IntsAt (fun b => b = w.heap.size) (w.alloc (.cells (l.map (fun x => Value.int .i64 x)).toArray t)) (some ⟨w.heap.size, 0, none⟩) l.length (fun i => l.getD i 0) := by
  have r : Row (w.alloc (.cells (l.map (fun x => Value.int .i64 x)).toArray t)) w.heap.size l.length (fun i => .int .i64 (l.getD i 0)) :=
    ⟨_, t, heap_alloc_new _ _, by simp, fun i hi => by simp [hi]⟩
  exact ⟨by omega, fun i hi => ⟨w.heap.size, 0, rfl, rfl, by rw [Nat.zero_add]; exact r.cell hi⟩⟩
set_option maxHeartbeats 1600000 in
theorem place_any (Y : Nat → Prop) (C k : Nat) (w : World) (hk : k ≤ 800000) (h : Cur Y w C k) :
    Calls Try.prog 92 #[.pointer (some ⟨C, 0, none⟩)] w fun e w' => ∃ x : Int, e = .returned (.int .i64 x) ∧ Cur Y w' C (k + 4) ∧ Mod (fun b => b = C) w w' := by
  go_enter Try.func92, Try.ntmps92
  go_wp2_with fail
  refine (pick_any Y C k 20 _ (by omega) (by omega) h).mono ?_
  rintro e w1 ⟨x, rfl, hx, c1, m1⟩
  have hlt := c1.lt
  clear h hx
  have hb : Blw w1 (w1.alloc (.cells #[.int .i64 (-1), .int .i64 0, .int .i64 3, .int .i64 7, .int .i64 44, .int .i64 47, .int .i64 48, .int .i64 x] 3)) := (Blw.refl _).alloc _
  have hI := ints_lit w1 [-1, 0, 3, 7, 44, 47, 48, (x : Int)] 3 (by simp)
  go_wp2_with fail
  refine (among_any Y _ C (k + 2) _ 8 8 _ _ (by omega) (by omega) hI (fun b hb => by omega) (c1.blw hb)).mono ?_
  rintro e w2 ⟨y, rfl, c2, m2⟩
  have m3 := (m1.setBlw hb).trans m2
  clear c1 m1 hb hI m2
  go_wp2
  go_ret
  exact ⟨y, rfl, c2, m3⟩
/-- A memory that is drawn: its box at z, the result's at R, all newer than w; the cursor at C. -/
structure Dm (Y : Nat → Prop) (w wr : World) (C k z R : Nat) (m : MV) (s c : Nat → Nat → Int) (d : Nat → Bool) : Prop where
  cur : Cur Y wr C k
  mod : Mod (fun b => b = C) w wr
  box : Box wr z m (MD.full s c d)
  own : MemOwn (fun b => w.heap.size ≤ b ∧ b < wr.heap.size ∧ b ≠ z ∧ b ≠ R) wr m (MD.full s c d)
  res : Row wr R 3 (fun _ => .slice none 0 0)
  oz : w.heap.size ≤ z
  oR : w.heap.size ≤ R
  ne : z ≠ R
/-- A memory in a box at z that a call behind wr has answered; the cursor has gone on. -/
structure Drawn (Y : Nat → Prop) (wr W : World) (C k z : Nat) (m : MV) (M : MD) : Prop where
  cur : Cur Y W C k
  mod : Mod (fun b => b = C) wr W
  lo : wr.heap.size ≤ z
  box : Box W z m M
  own : MemOwn (fun b => wr.heap.size ≤ b ∧ b < W.heap.size ∧ b ≠ z) W m M
theorem Drawn.late {Y : Nat → Prop} {wr w4 : World} {C k : Nat} {X : Nat → Prop} {m : MV} {M : MD} (cur : Cur Y w4 C k) (hm : Mod (fun b => b = C) wr w4) (own : MemOwn X w4 m M) (hX : ∀ b, X b → wr.heap.size ≤ b ∧ b < w4.heap.size) : Drawn Y wr (w4.alloc (.cells #[.slice m.a1 M.n1 m.c1, .slice m.a2 M.n2 m.c2, .slice m.a3 M.n3 m.c3] 26)) C k w4.heap.size m M :=
  ⟨cur.blw ((Blw.refl _).alloc _), hm.alloc _, hm.size, box3 w4 _ _ _ 26, (own.blw ((Blw.refl _).alloc _)).mono (fun b h => by have := hX b h; exact ⟨this.1, by rw [World.size_alloc]; omega, by omega⟩)⟩
theorem Drawn.early {Y : Nat → Prop} {wr w4 : World} {C k z : Nat} {X : Nat → Prop} {m : MV} {M : MD} {f : Nat → Value} (cur : Cur Y w4 C k) (hm : Mod (fun b => b = C) wr w4) (r : Row w4 z 3 f) (hz : wr.heap.size ≤ z) (hC : C < wr.heap.size) (hY : ∀ b, Y b → b < wr.heap.size) (own : MemOwn X w4 m M) (hX : ∀ b, X b → wr.heap.size ≤ b ∧ b < w4.heap.size ∧ b ≠ z) :
    Drawn Y wr (((w4.setCell ⟨z, 0, none⟩ (.slice m.a1 M.n1 m.c1)).setCell ⟨z, 1, none⟩ (.slice m.a2 M.n2 m.c2)).setCell ⟨z, 2, none⟩ (.slice m.a3 M.n3 m.c3)) C k z m M := by
  have hs := mod_set3 w4 z (.slice m.a1 M.n1 m.c1) (.slice m.a2 M.n2 m.c2) (.slice m.a3 M.n3 m.c3)
  have hsz := hs.size
  refine ⟨cur.mod hs (by omega) (fun b hb => by have := hY b hb; omega), ⟨hs.os.trans hm.os, hs.tape.trans hm.tape, hs.output.trans hm.output, Nat.le_trans hm.size hs.size, fun i hi hx => (hs.block i (Nat.lt_of_lt_of_le hi hm.size) (by omega)).trans (hm.block i hi hx)⟩, hz, box_put r _ _ _, (own.mod hs (fun b h => (hX b h).2.2)).mono (fun b h => by have := hX b h; exact ⟨this.1, by omega, this.2.2⟩)⟩
/-- The drawn memory is another one. -/
theorem Dm.take {Y : Nat → Prop} {w wr W : World} {C k k' z R z5 : Nat} {m m5 : MV} {s c s5 c5 : Nat → Nat → Int} {d d5 : Nat → Bool} (D : Dm Y w wr C k z R m s c d) (E : Drawn Y wr W C k' z5 m5 (MD.full s5 c5 d5)) (hC : C < w.heap.size) (hY : ∀ b, Y b → b < w.heap.size) :
    Dm Y w (((W.setCell ⟨z, 0, none⟩ (.slice m5.a1 12 m5.c1)).setCell ⟨z, 1, none⟩ (.slice m5.a2 12 m5.c2)).setCell ⟨z, 2, none⟩ (.slice m5.a3 12 m5.c3)) C k' z R m5 s5 c5 d5 := by
  have hs := mod_set3 W z (.slice m5.a1 12 m5.c1) (.slice m5.a2 12 m5.c2) (.slice m5.a3 12 m5.c3)
  have hsz := hs.size
  have oz := D.oz
  have oR := D.oR
  have ne := D.ne
  have zlt := D.box.lt
  have rlt := D.res.lt
  have ms := D.mod.size
  have es := E.mod.size
  have m2 := D.mod.trans E.mod
  refine ⟨E.cur.mod hs (by omega) (fun b hb => by have := hY b hb; omega), ⟨hs.os.trans m2.os, hs.tape.trans m2.tape, hs.output.trans m2.output, Nat.le_trans m2.size hs.size, fun i hi hx => (hs.block i (Nat.lt_of_lt_of_le hi m2.size) (by omega)).trans (m2.block i hi hx)⟩, box_put (D.box.mod E.mod (by omega)) _ _ _, (E.own.mod hs (fun b h => by have := h.1; omega)).mono (fun b h => by have := h.1; have := h.2.1; exact ⟨by omega, by omega, by omega, by omega⟩), (D.res.mod E.mod (by omega)).mod hs (by omega), oz, oR, ne⟩
/-- The drawn memory stays. -/
theorem Dm.stay {Y : Nat → Prop} {w wr W : World} {C k k' z R : Nat} {m : MV} {s c : Nat → Nat → Int} {d : Nat → Bool} (D : Dm Y w wr C k z R m s c d) (hm : Mod (fun b => b = C) wr W) (cur : Cur Y W C k') (hC : C < w.heap.size) : Dm Y w W C k' z R m s c d := by
  have oz := D.oz
  have oR := D.oR
  have hs := hm.size
  exact ⟨cur, D.mod.trans hm, D.box.mod hm (by omega), (D.own.mod hm (fun b hb => by have := hb.1; omega)).mono (fun b hb => ⟨hb.1, by have := hb.2.1; omega, hb.2.2⟩), D.res.mod hm (by omega), oz, oR, D.ne⟩
theorem Cur.facts {Y : Nat → Prop} {w : World} {C k : Nat} (h : Cur Y w C k) : C < w.heap.size ∧ True := ⟨h.lt, trivial⟩
theorem own_dirty {X : Nat → Prop} {w : World} {m : MV} {s c : Nat → Nat → Int} {d : Nat → Bool} (h : MemOwn X w m (MD.full s c d)) : ∃ b3, X b3 ∧ m.a3 = some ⟨b3, 0, none⟩ ∧ Row w b3 12 (fun i => .bool (d i)) ∧
    ∀ w' (d' : Nat → Bool), Mod (fun x => ¬ X x ∨ x = b3) w w' → Row w' b3 12 (fun i => .bool (d' i)) → MemOwn X w' m (MD.full s c d') := by
  obtain ⟨X1, X2, X3, h1, h2, h3, hs, hc, hd⟩ := h.ex
  obtain ⟨b, hb, e, r⟩ := hd.2 (by show 0 < 12; omega)
  refine ⟨b, h3 b hb, e, r, fun w' d' hm r' => ⟨X1, X2, fun x => x = b, fun x hx => ?_, fun x hx => ?_, fun x hx => ?_, hs.mod hm (fun x hx hh => ?_), hc.mod hm (fun x hx hh => ?_), ⟨by show 12 ≤ _; omega, fun _ => ⟨b, rfl, e, r'⟩⟩⟩⟩
  · exact ⟨(h1 x hx).1, (h1 x hx).2.1, fun he => (h1 x hx).2.2 (he ▸ hb)⟩
  · exact ⟨(h2 x hx).1, fun he => (h2 x hx).2 (he ▸ hb)⟩
  · exact hx ▸ h3 b hb
  · rcases hh with hh | hh
    · exact hh (h1 x hx).1
    · exact (h1 x hx).2.2 (hh ▸ hb)
  · rcases hh with hh | hh
    · exact hh (h2 x hx).1
    · exact (h2 x hx).2 (hh ▸ hb)
theorem box3_mod2 {w : World} {B R R2 : Nat} {a b c : Value} (r : Row w B 3 (fun i => if i = 0 then a else if i = 1 then b else c)) (hR : B ≠ R) (hR2 : B ≠ R2) :
    (∀ w', Mod (fun x => x = R ∨ x = R2) w w' → w'.cell? ⟨B, 0, none⟩ = some a) ∧ (∀ w', Mod (fun x => x = R ∨ x = R2) w w' → w'.cell? ⟨B, 1, none⟩ = some b) ∧ (∀ w', Mod (fun x => x = R ∨ x = R2) w w' → w'.cell? ⟨B, 2, none⟩ = some c) :=
  ⟨fun _ h => (get3 (r.mod h (by omega))).1, fun _ h => (get3 (r.mod h (by omega))).2.1, fun _ h => (get3 (r.mod h (by omega))).2.2⟩
/-- One mark of the drawn memory is another one. -/
theorem Dm.dirty {Y : Nat → Prop} {w wr W : World} {C k k' z R b3 i : Nat} {m : MV} {s c : Nat → Nat → Int} {d : Nat → Bool} {v : Bool} (D : Dm Y w wr C k z R m s c d)
    (nx : ∀ w' (d' : Nat → Bool), Mod (fun x => ¬ (w.heap.size ≤ x ∧ x < wr.heap.size ∧ x ≠ z ∧ x ≠ R) ∨ x = b3) wr w' → Row w' b3 12 (fun i => .bool (d' i)) → MemOwn (fun x => w.heap.size ≤ x ∧ x < wr.heap.size ∧ x ≠ z ∧ x ≠ R) w' m (MD.full s c d'))
    (r : Row wr b3 12 (fun i => .bool (d i))) (hi : i < 12) (hbC : b3 ≠ C) (hx : w.heap.size ≤ b3 ∧ b3 < wr.heap.size ∧ b3 ≠ z ∧ b3 ≠ R) (hm : Mod (fun x => x = C) wr W) (cur : Cur Y W C k') (hC : C < w.heap.size) (hY : ∀ b, Y b → b < w.heap.size) :
    Dm Y w (W.setCell ⟨b3, i, none⟩ (.bool v)) C k' z R m s c (fun j => if j = i then v else d j) := by
  have oz := D.oz
  have oR := D.oR
  have hs := Mod.setCell (X := fun x => x = b3) W (p := ⟨b3, i, none⟩) rfl (.bool v)
  have hsz := hs.size
  have hmz := hm.size
  have ms := D.mod.size
  have m2 := D.mod.trans hm
  have all : Mod (fun x => ¬ (w.heap.size ≤ x ∧ x < wr.heap.size ∧ x ≠ z ∧ x ≠ R) ∨ x = b3) wr (W.setCell ⟨b3, i, none⟩ (.bool v)) := (hm.mono (fun x hx => Or.inl (by omega))).trans (hs.mono (fun x hx => Or.inr hx))
  refine ⟨cur.mod hs (fun e => hbC e.symm) (fun b hb => by have := hY b hb; omega), ⟨hs.os.trans m2.os, hs.tape.trans m2.tape, hs.output.trans m2.output, Nat.le_trans m2.size hs.size, fun t ht hx => (hs.block t (Nat.lt_of_lt_of_le ht m2.size) (by omega)).trans (m2.block t ht hx)⟩, (D.box.mod hm (by omega)).mod hs (by omega), (nx _ _ all (((r.mod hm hbC).set i (.bool v)).congr (fun t ht => by by_cases e : t = i <;> simp [e]))).mono (fun b hb => ⟨hb.1, by have := hb.2.1; omega, hb.2.2⟩), (D.res.mod hm (by omega)).mod hs (by omega), oz, oR, D.ne⟩
theorem own_word {X : Nat → Prop} {w : World} {m : MV} {s c : Nat → Nat → Int} {d : Nat → Bool} (h : MemOwn X w m (MD.full s c d)) : ∃ bL bW cW, X bW ∧ (X bL ∧ bL ≠ bW) ∧ m.a1 = some ⟨bL, 0, none⟩ ∧ w.cell? ⟨bL, 0, none⟩ = some (.slice (some ⟨bW, 0, none⟩) 4 cW) ∧ Row w bW 4 (fun t => .int .i64 (s 0 t)) ∧
    ∀ w' (f : Nat → Int), Mod (fun x => ¬ X x ∨ x = bW) w w' → Row w' bW 4 (fun t => .int .i64 (f t)) → MemOwn X w' m (MD.full (fun i => if i = 0 then f else s i) c d) := by
  obtain ⟨X1, X2, X3, h1, h2, h3, hs, hc, hd⟩ := h.ex
  obtain ⟨b, F, cc, hb, e, r, hl, hdif⟩ := hs.2 (by show 0 < 12; omega)
  obtain ⟨g1, g2, g3, g4⟩ := hl 0 (by show 0 < 12; omega)
  refine ⟨b, F 0, cc 0, (h1 _ g2).1, ⟨(h1 _ hb).1, fun e => g3 e.symm⟩, e, r.cell (by show 0 < 12; omega), g4, fun w' f hm r' => ⟨X1, X2, X3, h1, h2, h3, ⟨hs.1, fun _ => ⟨b, F, cc, hb, e, r.mod hm (fun hh => ?_), fun i hi => ?_, hdif⟩⟩, hc.mod hm (fun x hx hh => ?_), hd.mod hm (fun x hx hh => ?_)⟩⟩
  · rcases hh with hh | hh
    · exact hh (h1 _ hb).1
    · exact g3 hh.symm
  · obtain ⟨k1, k2, k3, k4⟩ := hl i hi
    refine ⟨k1, k2, k3, ?_⟩
    by_cases e0 : i = 0
    · subst e0
      exact r'
    · have hr := k4.mod hm (fun hh => by
        rcases hh with hh | hh
        · exact hh (h1 _ k2).1
        · exact hdif i 0 hi (by show 0 < 12; omega) e0 hh)
      simpa [MD.full, e0] using hr
  · rcases hh with hh | hh
    · exact hh (h2 _ hx).1
    · exact (h1 _ g2).2.1 (hh ▸ hx)
  · rcases hh with hh | hh
    · exact hh (h3 _ hx)
    · exact (h1 _ g2).2.2 (hh ▸ hx)
/-- The first sure word of the drawn memory is another one. -/
theorem Dm.word {Y : Nat → Prop} {w wr W : World} {C k k' z R b3 : Nat} {m : MV} {s c : Nat → Nat → Int} {d : Nat → Bool} {v : Int} (D : Dm Y w wr C k z R m s c d)
    (nx : ∀ w' (f : Nat → Int), Mod (fun x => ¬ (w.heap.size ≤ x ∧ x < wr.heap.size ∧ x ≠ z ∧ x ≠ R) ∨ x = b3) wr w' → Row w' b3 4 (fun t => .int .i64 (f t)) → MemOwn (fun x => w.heap.size ≤ x ∧ x < wr.heap.size ∧ x ≠ z ∧ x ≠ R) w' m (MD.full (fun i => if i = 0 then f else s i) c d))
    (r : Row wr b3 4 (fun t => .int .i64 (s 0 t))) (hbC : b3 ≠ C) (hx : w.heap.size ≤ b3 ∧ b3 < wr.heap.size ∧ b3 ≠ z ∧ b3 ≠ R) (hm : Mod (fun x => x = C) wr W) (cur : Cur Y W C k') (hC : C < w.heap.size) (hY : ∀ b, Y b → b < w.heap.size) :
    Dm Y w (W.setCell ⟨b3, 0, none⟩ (.int .i64 v)) C k' z R m (fun i => if i = 0 then (fun t => if t = 0 then v else s 0 t) else s i) c d := by
  have oz := D.oz
  have oR := D.oR
  have hs := Mod.setCell (X := fun x => x = b3) W (p := ⟨b3, 0, none⟩) rfl (.int .i64 v)
  have hsz := hs.size
  have hmz := hm.size
  have ms := D.mod.size
  have m2 := D.mod.trans hm
  have all : Mod (fun x => ¬ (w.heap.size ≤ x ∧ x < wr.heap.size ∧ x ≠ z ∧ x ≠ R) ∨ x = b3) wr (W.setCell ⟨b3, 0, none⟩ (.int .i64 v)) := (hm.mono (fun x hx => Or.inl (by omega))).trans (hs.mono (fun x hx => Or.inr hx))
  refine ⟨cur.mod hs (fun e => hbC e.symm) (fun b hb => by have := hY b hb; omega), ⟨hs.os.trans m2.os, hs.tape.trans m2.tape, hs.output.trans m2.output, Nat.le_trans m2.size hs.size, fun t ht hx => (hs.block t (Nat.lt_of_lt_of_le ht m2.size) (by omega)).trans (m2.block t ht hx)⟩, (D.box.mod hm (by omega)).mod hs (by omega), (nx _ _ all (((r.mod hm hbC).set 0 (.int .i64 v)).congr (fun t ht => by by_cases e : t = 0 <;> simp [e]))).mono (fun b hb => ⟨hb.1, by have := hb.2.1; omega, hb.2.2⟩), (D.res.mod hm (by omega)).mod hs (by omega), oz, oR, D.ne⟩
/-- The drawn memory is handed back. -/
theorem Dm.done {Y : Nat → Prop} {w wr : World} {C k z : Nat} {m : MV} {s c : Nat → Nat → Int} {d : Nat → Bool} (D : Dm Y w wr C k z w.heap.size m s c d) (hC : C < w.heap.size) (hY : ∀ b, Y b → b < w.heap.size) :
    Cur Y (((wr.setCell ⟨w.heap.size, 0, none⟩ (.slice m.a1 12 m.c1)).setCell ⟨w.heap.size, 1, none⟩ (.slice m.a2 12 m.c2)).setCell ⟨w.heap.size, 2, none⟩ (.slice m.a3 12 m.c3)) C k ∧
    MemOwn (fun b => w.heap.size ≤ b ∧ b < (((wr.setCell ⟨w.heap.size, 0, none⟩ (.slice m.a1 12 m.c1)).setCell ⟨w.heap.size, 1, none⟩ (.slice m.a2 12 m.c2)).setCell ⟨w.heap.size, 2, none⟩ (.slice m.a3 12 m.c3)).heap.size) (((wr.setCell ⟨w.heap.size, 0, none⟩ (.slice m.a1 12 m.c1)).setCell ⟨w.heap.size, 1, none⟩ (.slice m.a2 12 m.c2)).setCell ⟨w.heap.size, 2, none⟩ (.slice m.a3 12 m.c3)) m (MD.full s c d) ∧
    Mod (fun b => b = C) w (((wr.setCell ⟨w.heap.size, 0, none⟩ (.slice m.a1 12 m.c1)).setCell ⟨w.heap.size, 1, none⟩ (.slice m.a2 12 m.c2)).setCell ⟨w.heap.size, 2, none⟩ (.slice m.a3 12 m.c3)) := by
  have hs := mod_set3 wr w.heap.size (.slice m.a1 12 m.c1) (.slice m.a2 12 m.c2) (.slice m.a3 12 m.c3)
  have hsz := hs.size
  have m2 := D.mod
  exact ⟨D.cur.mod hs (by omega) (fun b hb => by have := hY b hb; omega), (D.own.mod hs (fun b hb => hb.2.2.2)).mono (fun b hb => ⟨hb.1, by have := hb.2.1; omega⟩), ⟨hs.os.trans m2.os, hs.tape.trans m2.tape, hs.output.trans m2.output, Nat.le_trans m2.size hs.size, fun t ht hx => (hs.block t (Nat.lt_of_lt_of_le ht m2.size) (by omega)).trans (m2.block t ht hx)⟩⟩
theorem Drawn.more {Y : Nat → Prop} {wr W W' : World} {C k k' z : Nat} {m : MV} {M : MD} (E : Drawn Y wr W C k z m M) (hm : Mod (fun b => b = C) W W') (cur : Cur Y W' C k') (hC : C < wr.heap.size) : Drawn Y wr W' C k' z m M := by
  have lo := E.lo
  have hs := hm.size
  exact ⟨cur, E.mod.trans hm, lo, E.box.mod hm (by omega), (E.own.mod hm (fun b hb => by have := hb.1; omega)).mono (fun b hb => ⟨hb.1, by have := hb.2.1; omega, hb.2.2⟩)⟩
theorem setz {wr w4 : World} {C z : Nat} {a b c : Value} (hm : Mod (fun b => b = C) wr w4) (hz : wr.heap.size ≤ z) : Mod (fun b => b = C) wr (((w4.setCell ⟨z, 0, none⟩ a).setCell ⟨z, 1, none⟩ b).setCell ⟨z, 2, none⟩ c) := by
  have hs := mod_set3 w4 z a b c
  exact ⟨hs.os.trans hm.os, hs.tape.trans hm.tape, hs.output.trans hm.output, Nat.le_trans hm.size hs.size, fun i hi hx => (hs.block i (Nat.lt_of_lt_of_le hi hm.size) (by omega)).trans (hm.block i hi hx)⟩
set_option maxRecDepth 10000 in
set_option maxHeartbeats 6400000 in
theorem memory_any (Y : Nat → Prop) (C k : Nat) (w : World) (hk : k ≤ 800000) (hY : ∀ b, Y b → b < w.heap.size) (h : Cur Y w C k) :
    Calls Try.prog 74 #[.pointer (some ⟨C, 0, none⟩)] w fun e w' => ∃ m s c d, e = .returned (m.val (MD.full s c d)) ∧ MemOwn (fun b => w.heap.size ≤ b ∧ b < w'.heap.size) w' m (MD.full s c d) ∧ Cur Y w' C (k + 100) ∧ Mod (fun b => b = C) w w' := by
  have hC := h.lt
  have HY : Hid (∀ b, Y b → b < w.heap.size) := hY
  clear hY
  go_enter Try.func74, Try.ntmps74
  go_wp2_with fail
  have hb0 : Blw w (w.alloc (.cells #[.slice none 0 0, .slice none 0 0, .slice none 0 0] 26)) := (Blw.refl _).alloc _
  have rR := row_box w 26
  have s0 : (w.alloc (.cells #[.slice none 0 0, .slice none 0 0, .slice none 0 0] 26)).heap.size = w.heap.size + 1 := by simp
  refine (specNewO_any _).mono ?_
  rintro e w1 ⟨m1, rfl, own1, hb1⟩
  simp only [MV.val, MD.full]
  have z1 := hb1.size
  go_wp2_with fail
  have hA : Blw w1 (w1.alloc (.cells #[.slice m1.a1 12 m1.c1, .slice m1.a2 12 m1.c2, .slice m1.a3 12 m1.c3] 26)) := (Blw.refl _).alloc _
  have hb2 := (hb0.trans hb1).trans hA
  refine (pick_any Y C k 12 _ (by omega) (by omega) (h.blw hb2)).mono ?_
  rintro e w2 ⟨n, rfl, hn, c2, mm2⟩
  have D0 : Hid (Dm Y w w2 C (k + 2) w1.heap.size w.heap.size m1 zeros zeros (fun _ => false)) := by
    have s1 : (w1.alloc (.cells #[.slice m1.a1 12 m1.c1, .slice m1.a2 12 m1.c2, .slice m1.a3 12 m1.c3] 26)).heap.size = w1.heap.size + 1 := by simp
    have s2 := mm2.size
    exact ⟨c2, (hb2.mod _).trans mm2, (box3 w1 _ _ _ 26).mod mm2 (by omega), ((own1.blw hA).mod mm2 (fun b hb => by have := hb.1; omega)).mono (fun b hb => ⟨by have := hb.1; omega, by have := hb.2; omega, by have := hb.2; omega, by have := hb.1; omega⟩), ((rR.blw hb1).blw hA).mod mm2 (by omega), by omega, by omega, by omega⟩
  have hn12 : n ≤ 11 := by omega
  have zz : w.heap.size < w1.heap.size := by omega
  clear c2 mm2 hA hb2 own1 hb1 rR hb0 h s0 hn z1
  generalize w1.heap.size = z at *
  go_wp2_with fail
  go_loopw [4] (fun i wr => ∃ l : Nat, l ≤ n ∧ i = .int .i64 l ∧ ∃ m s c d, Dm Y w wr C (k + 2 + (n - l) * 8) z w.heap.size m s c d) (fun i _ => (intOf i).toNat)
  case atStart => exact ⟨n, Nat.le_refl _, rfl, m1, _, _, _, by rw [Nat.sub_self]; exact D0.out⟩
  case round =>
    obtain ⟨l, hl, rfl, m, s, c, d, D⟩ := hrel
    clear D0
    by_cases hl0 : 0 < l
    · have d1 : decide ((l : Int) > 0) = true := by simp; omega
      obtain ⟨K, eK⟩ : ∃ K, K = k + 2 + (n - l) * 8 := ⟨_, rfl⟩
      rw [← eK] at D
      have hK : K ≤ 800090 := by omega
      have DD : Hid (Dm Y w wr C K z w.heap.size m s c d) := D
      have C0 : Hid (Cur Y wr C K) := D.cur
      have HM : Hid (MemAt _ wr m (MD.full s c d)) := D.own.at
      have hCr : C < wr.heap.size := D.cur.lt
      have HYr : Hid (∀ b, Y b → b < wr.heap.size) := fun b hb => Nat.lt_of_lt_of_le (HY.out b hb) D.mod.size
      obtain ⟨A0, A1, A2⟩ := box3_mod (R := C) D.box (by have := D.oz; omega)
      clear D
      go_upto_region 5 with fail
      go_cut [5, 6] from 12 to 39 (fun a b wx => ∃ z5 m5 M5 ok, a = .pointer (some ⟨z5, 0, none⟩) ∧ b = .bool ok ∧ (∃ x y, stOut (MD.full s c d) x y M5 ok) ∧ Drawn Y wr wx C (K + 4) z5 m5 M5)
      case first =>
        go_region_held3 (fun w' => Mod (fun b => b = C) wr w') ((first | exact (Mod.refl _ _).drew | assumption | exact Mod.alloc kf _ | exact Mod.alloc kp2 _ | exact Mod.alloc kp1 _ | exact Mod.alloc (Mod.refl _ _).drew _ | exact setz kf hz)) (first
          | (go_at_call_of 89 (Value.int IntKind.i64 20); refine (pick_any Y C (K + 0) 20 _ (by omega) (by omega) (by first | exact C0.out.blw (Blw.refl _).drew | exact C0.out.blw (Blw.alloc (Blw.refl _).drew _))).mono ?_; rintro e wp1 ⟨x1, rfl, hx1, cp1, mp1⟩; have kp1 : Mod (fun b => b = C) wr wp1 := Mod.trans (by assumption) mp1; have zk1 := kp1.size; have sb1 := mp1.size)
          | (go_at_call_of 89 (Value.int IntKind.i64 9); refine (pick_any Y C (K + 2) 9 _ (by omega) (by omega) (by first | exact cp1 | exact cp1.blw ((Blw.refl _).alloc _))).mono ?_; rintro e wp2 ⟨x2, rfl, hx2, cp2, mp2⟩; have kp2 : Mod (fun b => b = C) wr wp2 := Mod.trans (by assumption) mp2; have zk2 := kp2.size; have sb2 := mp2.size)
          | (go_at_call 32; refine (specStore_any m (MD.full s c d) _ _ x1 x2 (by exact HM.out.mod (by assumption) (fun b hb => by have := hb.1; omega))).mono ?_; rintro e wf ⟨mf, Mf, ok, rfl, hout, ownf, hbf⟩; have sbf := hbf.size; have kf : Mod (fun b => b = C) wr wf := Mod.setBlw (by assumption) hbf; have zkf := kf.size; have cf : Cur Y wf C (K + 4) := (by first | exact cp2.blw hbf | exact (cp2.blw ((Blw.refl _).alloc _)).blw hbf); (first | (have rZ := (row_box wp2 26).blw hbf; have hz : wr.heap.size ≤ wp2.heap.size := (by omega); obtain ⟨⟨y0, y1, y2⟩, f0, f1, f2⟩ := res6 rZ) | (have rZ := Row.blw (Row.mod (row_box wp1 26) mp2 (by omega)) hbf; have hz : wr.heap.size ≤ wp1.heap.size := (by omega); obtain ⟨⟨y0, y1, y2⟩, f0, f1, f2⟩ := res6 rZ) | (have rZ : Row wf wr.heap.size 3 (fun _ => .slice none 0 0) := Row.blw (Row.mod (Row.mod (row_box wr.drew 26) mp1 (by show ¬ wr.heap.size = C; omega)) mp2 (by show ¬ wr.heap.size = C; omega)) hbf; have hz : wr.heap.size ≤ wr.heap.size := (by omega); obtain ⟨⟨y0, y1, y2⟩, f0, f1, f2⟩ := res6 rZ) | skip)))
        all_goals go_wp2_with fail
        all_goals go_meet
        all_goals try simp only [World.size_alloc, World.size_drew] at ownf sbf sb1 sb2
        all_goals first
          | exact ⟨_, mf, Mf, ok, rfl, rfl, ⟨_, _, hout⟩, Drawn.late cf kf ownf (fun b hb => ⟨by have := hb.1; omega, hb.2⟩)⟩
          | exact ⟨_, mf, Mf, ok, rfl, rfl, ⟨_, _, hout⟩, Drawn.early cf kf rZ hz hCr HYr.out ownf (fun b hb => ⟨by have := hb.1; omega, hb.2, by have := hb.1; omega⟩)⟩
      case rest =>
        obtain ⟨z5, m5, M5, ok, rfl, rfl, ⟨x5, y5, hst⟩, E⟩ := hcut
        have HST : Hid (stOut (MD.full s c d) x5 y5 M5 ok) := hst
        have HE : Hid (Drawn Y wr wc C (K + 4) z5 m5 M5) := E
        clear hst E A0 A1 A2 C0 HM hCr HYr
        go_upto_if 25 with fail
        go_cut [] from 12 to 39 (fun wx => ∃ m s c d, Dm Y w wx C (K + 4) z w.heap.size m s c d)
        case first =>
          cases ok
          · go_wp2_with fail
            go_meet
            exact ⟨m, s, c, d, DD.out.stay HE.out.mod HE.out.cur hC⟩
          · obtain ⟨s5, c5, d5, rfl⟩ : ∃ s5 c5 d5, M5 = MD.full s5 c5 d5 := by
              rcases HST.out with ⟨_, _, _, _, _, rfl, _⟩ | ⟨_, _, g⟩
              · exact ⟨_, _, _, rfl⟩
              · cases g
            have rz := DD.out.box.mod HE.out.mod (by have := DD.out.oz; omega)
            obtain ⟨p0, p1, p2⟩ := get3 HE.out.box
            obtain ⟨q0, q1, q2⟩ := get3 rz
            have f0 := rz.frozen 0
            have f1 := rz.frozen 1
            have f2 := rz.frozen 2
            clear rz
            simp only [MD.full] at p0 p1 p2 q0 q1 q2
            go_wp2_with fail
            go_meet
            exact ⟨m5, s5, c5, d5, DD.out.take HE.out hC HY.out⟩
        case rest =>
          obtain ⟨m', s', c', d', D⟩ := hcut
          clear HE HST DD m5 M5 x5 y5 m s c d
          obtain ⟨wq, hwq⟩ : ∃ wq, wc = wq := ⟨_, rfl⟩
          subst hwq
          obtain ⟨K2, eK2⟩ : ∃ K2, K2 = K + 4 := ⟨_, rfl⟩
          rw [← eK2] at D
          have hK2 : K2 ≤ 800094 := by omega
          have DD : Hid (Dm Y w wc C K2 z w.heap.size m' s' c' d') := D
          have C0 : Hid (Cur Y wc C K2) := D.cur
          have HM : Hid (MemAt _ wc m' (MD.full s' c' d')) := D.own.at
          have hCr : C < wc.heap.size := D.cur.lt
          have HYr : Hid (∀ b, Y b → b < wc.heap.size) := fun b hb => Nat.lt_of_lt_of_le (HY.out b hb) D.mod.size
          obtain ⟨A0, A1, A2⟩ := box3_mod (R := C) D.box (by have := D.oz; omega)
          clear D
          go_upto_region 8 with fail
          go_cut [7, 8] from 12 to 39 (fun a b wx => ∃ z5 m5 M5 ok, a = .pointer (some ⟨z5, 0, none⟩) ∧ b = .bool ok ∧ (∃ x, flOut (MD.full s' c' d') x M5 ok) ∧ Drawn Y wc wx C (K2 + 2) z5 m5 M5)
          case first =>
            go_region_held3 (fun w' => Mod (fun b => b = C) wc w') ((first | exact (Mod.refl _ _).drew | assumption | exact Mod.alloc kf _ | exact Mod.alloc kp1 _ | exact Mod.alloc (Mod.refl _ _).drew _ | exact setz kf hz)) (first
              | (go_at_call_of 89 (Value.int IntKind.i64 5); refine (pick_any Y C (K2 + 0) 5 _ (by omega) (by omega) (by first | exact C0.out.blw (Blw.refl _).drew | exact C0.out.blw (Blw.alloc (Blw.refl _).drew _))).mono ?_; rintro e wp1 ⟨x1, rfl, hx1, cp1, mp1⟩; have kp1 : Mod (fun b => b = C) wc wp1 := Mod.trans (by assumption) mp1; have zk1 := kp1.size; have sb1 := mp1.size)
              | (go_at_call 27; refine (specFlush_any m' (MD.full s' c' d') _ _ x1 (by exact HM.out.mod (by assumption) (fun b hb => by have := hb.1; omega))).mono ?_; rintro e wf ⟨mf, Mf, ok, rfl, hout, ownf, hbf⟩; have sbf := hbf.size; have kf : Mod (fun b => b = C) wc wf := Mod.setBlw (by assumption) hbf; have zkf := kf.size; have cf : Cur Y wf C (K2 + 2) := (by first | exact cp1.blw hbf | exact (cp1.blw ((Blw.refl _).alloc _)).blw hbf); (first | (have rZ := (row_box wp1 26).blw hbf; have hz : wc.heap.size ≤ wp1.heap.size := (by omega); obtain ⟨⟨y0, y1, y2⟩, f0, f1, f2⟩ := res6 rZ) | (have rZ : Row wf wc.heap.size 3 (fun _ => .slice none 0 0) := Row.blw (Row.mod (row_box wc.drew 26) mp1 (by show ¬ wc.heap.size = C; omega)) hbf; have hz : wc.heap.size ≤ wc.heap.size := (by omega); obtain ⟨⟨y0, y1, y2⟩, f0, f1, f2⟩ := res6 rZ) | skip)))
            all_goals go_wp2_with fail
            all_goals go_meet
            all_goals try simp only [World.size_alloc, World.size_drew] at ownf sbf sb1
            all_goals first
              | exact ⟨_, mf, Mf, ok, rfl, rfl, ⟨_, hout⟩, Drawn.late cf kf ownf (fun b hb => ⟨by have := hb.1; omega, hb.2⟩)⟩
              | exact ⟨_, mf, Mf, ok, rfl, rfl, ⟨_, hout⟩, Drawn.early cf kf rZ hz hCr HYr.out ownf (fun b hb => ⟨by have := hb.1; omega, hb.2, by have := hb.1; omega⟩)⟩
          case rest =>
            obtain ⟨z5, m5, M5, ok, rfl, rfl, ⟨x5, hst⟩, E⟩ := hcut
            have HST : Hid (flOut (MD.full s' c' d') x5 M5 ok) := hst
            have HE : Hid (Drawn Y _ wc C (K2 + 2) z5 m5 M5) := E
            clear hst E A0 A1 A2 C0 HM HYr
            cases ok
            · have J := DD.out.stay HE.out.mod (HE.out.cur.le (k' := k + 2 + (n - (l - 1)) * 8) (by omega)) hC
              clear DD HE HST
              go_wp2
              go_roundw
              case rel => exact ⟨l - 1, by omega, by congr 1; omega, m', s', c', d', J⟩
              case measure => simp [intOf]; omega
            · obtain ⟨s5, c5, d5, rfl⟩ : ∃ s5 c5 d5, M5 = MD.full s5 c5 d5 := by
                rcases HST.out with ⟨_, _, _, _, rfl, _⟩ | ⟨_, _, g⟩
                · exact ⟨_, _, _, rfl⟩
                · cases g
              clear HST
              go_wp2_with fail
              refine (one_any Y C (K2 + 2) 3 _ (by omega) (by omega) HE.out.cur).mono ?_
              rintro e wo ⟨bo, rfl, co, mo⟩
              cases bo
              · have J := DD.out.stay (HE.out.mod.trans mo) (co.le (k' := k + 2 + (n - (l - 1)) * 8) (by omega)) hC
                clear DD HE co mo
                go_wp2
                go_roundw
                case rel => exact ⟨l - 1, by omega, by congr 1; omega, m', s', c', d', J⟩
                case measure => simp [intOf]; omega
              · have HE2 := HE.out.more mo (co.le (k' := k + 2 + (n - (l - 1)) * 8) (by omega)) hCr
                have rz := DD.out.box.mod HE2.mod (by have := DD.out.oz; omega)
                obtain ⟨p0, p1, p2⟩ := get3 HE2.box
                obtain ⟨q0, q1, q2⟩ := get3 rz
                have f0 := rz.frozen 0
                have f1 := rz.frozen 1
                have f2 := rz.frozen 2
                have J : Hid _ := DD.out.take HE2 hC HY.out
                clear rz HE2 DD HE co mo
                simp only [MD.full] at p0 p1 p2 q0 q1 q2
                go_wp2
                go_roundw
                case rel => exact ⟨l - 1, by omega, by congr 1; omega, m5, s5, c5, d5, J.out⟩
                case measure => simp [intOf]; omega
    · obtain rfl : l = 0 := by omega
      have d1 : decide (((0 : Nat) : Int) > 0) = false := by decide
      have DD : Hid (Dm Y w wr C (k + 2 + (n - 0) * 8) z w.heap.size m s c d) := D
      clear D hl hl0
      go_wp2_with fail
      refine (pick_any Y C (k + 2 + (n - 0) * 8) 30 _ (by omega) (by omega) DD.out.cur).mono ?_
      rintro e wp ⟨v, rfl, hv, cp, mp⟩
      have DP : Hid (Dm Y w wp C (k + 92) z w.heap.size m s c d) := DD.out.stay mp (cp.le (by omega)) hC
      clear DD cp mp
      by_cases h0 : v = 0
      · have e0 : ((v : Int) == 0) = true := by simp [h0]
        obtain ⟨b3, hx3, ea3, r3, next3⟩ := own_dirty DP.out.own
        have N3 : Hid _ := next3
        have Cp : Hid (Cur Y wp C (k + 92)) := DP.out.cur
        have bz := DP.out.box
        have oz := DP.out.oz
        have b3C : b3 ≠ C := by omega
        have b3z : b3 ≠ z := hx3.2.2.1
        obtain ⟨A0, A1, A2⟩ := box3_mod2 (R := C) (R2 := b3) bz (by omega) (by omega)
        rw [ea3] at A2
        clear ea3
        simp only [MD.full] at A0 A1 A2
        have T3 : ∀ i, i < 12 → ∀ w', Mod (fun x => x = C) wp w' → w'.cell? ⟨b3, i, none⟩ = some (.bool (d i)) ∧ w'.frozen? ⟨b3, i, none⟩ = false := fun i hi w' hm => ⟨(r3.mod hm b3C).cell hi, (r3.mod hm b3C).frozen i⟩
        have H3 : Hid _ := T3
        have R3 : Hid (Row wp b3 12 (fun i => .bool (d i))) := r3
        clear next3 T3 r3 bz
        go_upto_region 13 with fail
        go_region_held3 (fun w' => Mod (fun x => x = C ∨ x = b3) wp w') ((first | exact (Mod.refl _ _).drew | assumption | exact Mod.mono m8 (fun k hk => Or.inl hk) | exact Mod.mono m7 (fun k hk => Or.inl hk) | exact Mod.trans (Mod.mono m8 (fun k hk => Or.inl hk)) (Mod.setCell _ (Or.inr rfl) _))) (first
          | (go_at_call 89; refine (pick_any Y C (k + 92) 12 _ (by omega) (by omega) (by exact Cp.out.blw (Blw.refl _).drew)).mono ?_; rintro e w7 ⟨x7, rfl, hx7, c7, m70⟩; have m7 : Mod (fun x => x = C) wp w7 := Mod.trans (Mod.refl _ _).drew m70)
          | (go_at_call 123; refine (one_any Y C (k + 94) 2 _ (by omega) (by omega) (by exact c7)).mono ?_; rintro e w8 ⟨b8, rfl, c8, m80⟩; have m8 : Mod (fun x => x = C) wp w8 := Mod.trans m7 m80; have hx7' : x7 < 12 := (by omega); obtain ⟨t0, t1⟩ := H3.out x7 hx7' w8 m8))
        all_goals have D := DP.out.dirty (v := b8) N3.out R3.out hx7' b3C hx3 m8 c8 hC HY.out
        all_goals have e1 : ((v : Int) == 1) = false := by simp; omega
        all_goals obtain ⟨p0, p1, p2⟩ := get3 D.box
        all_goals obtain ⟨⟨x0, x1, x2⟩, f0, f1, f2⟩ := res6 D.res
        all_goals have F : Hid _ := D.done hC HY.out
        all_goals clear D A0 A1 A2 N3 H3 R3 Cp DP
        all_goals simp only [MD.full] at p0 p1 p2
        all_goals go_wp2
        all_goals exact bodyPost_ret (v := m.val (MD.full s c (fun j => if j = x7 then b8 else d j))) (by simp [results, Try.results74, go_sem, x0, x1, x2, MD.full]) rfl ⟨m, _, _, _, rfl, F.out.2.1, F.out.1.le (by omega), F.out.2.2⟩
      · have e0 : ((v : Int) == 0) = false := by simp; omega
        by_cases h1 : v = 1
        · have e1 : ((v : Int) == 1) = true := by simp [h1]
          obtain ⟨bL, bW, cW, hxW, hLW, eaL, cL, rW, nextW⟩ := own_word DP.out.own
          have NW : Hid _ := nextW
          have Cp : Hid (Cur Y wp C (k + 92)) := DP.out.cur
          have bz := DP.out.box
          have oz := DP.out.oz
          have zlt := bz.lt
          have bWC : bW ≠ C := by omega
          have bLC : bL ≠ C := by omega
          obtain ⟨A0, A1, A2⟩ := box3_mod2 (R := C) (R2 := bW) bz (by omega) (by omega)
          rw [eaL] at A0
          clear eaL
          simp only [MD.full] at A0 A1 A2
          have AL : ∀ w', Mod (fun x => x = C ∨ x = bW) wp w' → w'.cell? ⟨bL, 0, none⟩ = some (.slice (some ⟨bW, 0, none⟩) 4 cW) := fun w' hm => hm.cell cL (by show ¬ (bL = C ∨ bL = bW); omega)
          have TW : ∀ w', Mod (fun x => x = C) wp w' → w'.cell? ⟨bW, 0, none⟩ = some (.int .i64 (s 0 0)) ∧ w'.frozen? ⟨bW, 0, none⟩ = false := fun w' hm => ⟨(rW.mod hm bWC).cell (i := 0) (by omega), (rW.mod hm bWC).frozen 0⟩
          have HW : Hid _ := TW
          have RW : Hid (Row wp bW 4 (fun t => .int .i64 (s 0 t))) := rW
          clear nextW TW rW bz cL
          go_upto_region 15 with fail
          go_region_held3 (fun w' => Mod (fun x => x = C ∨ x = bW) wp w') ((first | exact (Mod.refl _ _).drew | assumption | exact Mod.alloc (Mod.refl _ _).drew _ | exact Mod.mono m8 (fun k hk => Or.inl hk) | exact Mod.trans (Mod.mono m8 (fun k hk => Or.inl hk)) (Mod.setCell _ (Or.inr rfl) _))) (first
            | (go_at_call 93; refine (among_any Y _ C (k + 92) _ 3 3 _ _ (by omega) (by omega) (by exact ints_lit wp.drew [-1, 65535, 65536] 3 (by simp)) (by intro b hb; have hb' : b = wp.heap.size := hb; have := Cp.out.lt; omega) (by exact Cp.out.blw (Blw.alloc (Blw.refl _).drew _))).mono ?_; rintro e w8 ⟨x8, rfl, c8, m80⟩; have m8 : Mod (fun x => x = C) wp w8 := Mod.trans (Mod.alloc (Mod.refl _ _).drew _) m80; obtain ⟨t0, t1⟩ := HW.out w8 m8))
          all_goals have D := DP.out.word (v := x8) NW.out RW.out bWC hxW m8 c8 hC HY.out
          all_goals obtain ⟨p0, p1, p2⟩ := get3 D.box
          all_goals obtain ⟨⟨x0, x1, x2⟩, f0, f1, f2⟩ := res6 D.res
          all_goals have F : Hid _ := D.done hC HY.out
          all_goals clear D A0 A1 A2 AL NW HW RW Cp DP
          all_goals simp only [MD.full] at p0 p1 p2
          all_goals go_wp2
          all_goals exact bodyPost_ret (v := m.val (MD.full (fun i => if i = 0 then (fun t => if t = 0 then x8 else s 0 t) else s i) c d)) (by simp [results, Try.results74, go_sem, x0, x1, x2, MD.full]) rfl ⟨m, _, _, _, rfl, F.out.2.1, F.out.1.le (by omega), F.out.2.2⟩
        · have e1 : ((v : Int) == 1) = false := by simp; omega
          obtain ⟨p0, p1, p2⟩ := get3 DP.out.box
          obtain ⟨⟨x0, x1, x2⟩, f0, f1, f2⟩ := res6 DP.out.res
          have F : Hid _ := DP.out.done hC HY.out
          clear DP
          simp only [MD.full] at p0 p1 p2
          go_wp2
          exact bodyPost_ret (v := m.val (MD.full s c d)) (by simp [results, Try.results74, go_sem, x0, x1, x2, MD.full]) rfl ⟨m, _, _, _, rfl, F.out.2.1, F.out.1.le (by omega), F.out.2.2⟩
end Go.Proofs.Ytnbcjdoohmjghaa
