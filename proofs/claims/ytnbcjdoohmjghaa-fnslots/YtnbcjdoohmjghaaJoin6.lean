/- Merged by program, in this order: DrawM, DrawS, ReadS, SlotL, DrawP, DrawQ, DrawR, LoadA, LoadB, Rise, FailW. -/
import Derived.Test.YtnbcjdoohmjghaaJoin5
/- A place and a memory that are drawn. -/
namespace Go.Proofs.Ytnbcjdoohmjghaa
open Go.RowKit
set_option linter.unusedSimpArgs false
set_option linter.unusedVariables false
theorem ints_lit (w : World) (l : List Int) (t : TypeId) (hl : l.length ≤ 100) : IntsAt (fun b => b = w.heap.size) (w.alloc (.cells (l.map (fun x => Value.int .i64 x)).toArray t)) (some ⟨w.heap.size, 0, none⟩) l.length (fun i => l.getD i 0) := by
  have r : Row (w.alloc (.cells (l.map (fun x => Value.int .i64 x)).toArray t)) w.heap.size l.length (fun i => .int .i64 (l.getD i 0)) :=
    ⟨_, t, heap_alloc_new _ _, by simp, fun i hi => by simp [hi]⟩
  exact ⟨by omega, fun i hi => ⟨w.heap.size, 0, rfl, rfl, by rw [Nat.zero_add]; exact r.cell hi⟩⟩
set_option maxHeartbeats 1600000 in
theorem place_any (Y : Nat → Prop) (C k : Nat) (w : World) (hk : k ≤ 800000) (h : Cur Y w C k) :
    Calls Try.prog 92 #[.pointer (some ⟨C, 0, none⟩)] w fun e w' => ∃ x : Int, e = .returned (.int .i64 x) ∧ Cur Y w' C (k + 4) ∧ Mod (fun b => b = C) w w' := by
  go_enter Try.func92, Try.ntmps92
  go_wp2_with fail
  refine (pick_any Y C k 20 _ (by omega) (by omega) h).mono ?_
  rintro e w1 ⟨x, rfl, hx, c1, m1⟩
  have hlt := c1.lt
  clear h hx
  have hb : Blw w1 (w1.alloc (.cells #[.int .i64 (-1), .int .i64 0, .int .i64 3, .int .i64 7, .int .i64 44, .int .i64 47, .int .i64 48, .int .i64 x] 3)) := (Blw.refl _).alloc _
  have hI := ints_lit w1 [-1, 0, 3, 7, 44, 47, 48, (x : Int)] 3 (by simp)
  go_wp2_with fail
  refine (among_any Y _ C (k + 2) _ 8 8 _ _ (by omega) (by omega) hI (fun b hb => by omega) (c1.blw hb)).mono ?_
  rintro e w2 ⟨y, rfl, c2, m2⟩
  have m3 := (m1.setBlw hb).trans m2
  clear c1 m1 hb hI m2
  go_wp2
  go_ret
  exact ⟨y, rfl, c2, m3⟩
/-- A memory that is drawn: its box at z, the result's at R, all newer than w; the cursor at C. -/
structure Dm (Y : Nat → Prop) (w wr : World) (C k z R : Nat) (m : MV) (s c : Nat → Nat → Int) (d : Nat → Bool) : Prop where
  cur : Cur Y wr C k
  mod : Mod (fun b => b = C) w wr
  box : Box wr z m (MD.full s c d)
  own : MemOwn (fun b => w.heap.size ≤ b ∧ b < wr.heap.size ∧ b ≠ z ∧ b ≠ R) wr m (MD.full s c d)
  res : Row wr R 3 (fun _ => .slice none 0 0)
  oz : w.heap.size ≤ z
  oR : w.heap.size ≤ R
  ne : z ≠ R
/-- A memory in a box at z that a call behind wr has answered; the cursor has gone on. -/
structure Drawn (Y : Nat → Prop) (wr W : World) (C k z : Nat) (m : MV) (M : MD) : Prop where
  cur : Cur Y W C k
  mod : Mod (fun b => b = C) wr W
  lo : wr.heap.size ≤ z
  box : Box W z m M
  own : MemOwn (fun b => wr.heap.size ≤ b ∧ b < W.heap.size ∧ b ≠ z) W m M
theorem Drawn.late {Y : Nat → Prop} {wr w4 : World} {C k : Nat} {X : Nat → Prop} {m : MV} {M : MD} (cur : Cur Y w4 C k) (hm : Mod (fun b => b = C) wr w4) (own : MemOwn X w4 m M) (hX : ∀ b, X b → wr.heap.size ≤ b ∧ b < w4.heap.size) : Drawn Y wr (w4.alloc (.cells #[.slice m.a1 M.n1 m.c1, .slice m.a2 M.n2 m.c2, .slice m.a3 M.n3 m.c3] 26)) C k w4.heap.size m M :=
  ⟨cur.blw ((Blw.refl _).alloc _), hm.alloc _, hm.size, box3 w4 _ _ _ 26, (own.blw ((Blw.refl _).alloc _)).mono (fun b h => by have := hX b h; exact ⟨this.1, by rw [World.size_alloc]; omega, by omega⟩)⟩
theorem Drawn.early {Y : Nat → Prop} {wr w4 : World} {C k z : Nat} {X : Nat → Prop} {m : MV} {M : MD} {f : Nat → Value} (cur : Cur Y w4 C k) (hm : Mod (fun b => b = C) wr w4) (r : Row w4 z 3 f) (hz : wr.heap.size ≤ z) (hC : C < wr.heap.size) (hY : ∀ b, Y b → b < wr.heap.size) (own : MemOwn X w4 m M) (hX : ∀ b, X b → wr.heap.size ≤ b ∧ b < w4.heap.size ∧ b ≠ z) :
    Drawn Y wr (((w4.setCell ⟨z, 0, none⟩ (.slice m.a1 M.n1 m.c1)).setCell ⟨z, 1, none⟩ (.slice m.a2 M.n2 m.c2)).setCell ⟨z, 2, none⟩ (.slice m.a3 M.n3 m.c3)) C k z m M := by
  have hs := mod_set3 w4 z (.slice m.a1 M.n1 m.c1) (.slice m.a2 M.n2 m.c2) (.slice m.a3 M.n3 m.c3)
  have hsz := hs.size
  refine ⟨cur.mod hs (by omega) (fun b hb => by have := hY b hb; omega), ⟨hs.os.trans hm.os, hs.tape.trans hm.tape, hs.output.trans hm.output, Nat.le_trans hm.size hs.size, fun i hi hx => (hs.block i (Nat.lt_of_lt_of_le hi hm.size) (by omega)).trans (hm.block i hi hx)⟩, hz, box_put r _ _ _, (own.mod hs (fun b h => (hX b h).2.2)).mono (fun b h => by have := hX b h; exact ⟨this.1, by omega, this.2.2⟩)⟩
/-- The drawn memory is another one. -/
theorem Dm.take {Y : Nat → Prop} {w wr W : World} {C k k' z R z5 : Nat} {m m5 : MV} {s c s5 c5 : Nat → Nat → Int} {d d5 : Nat → Bool} (D : Dm Y w wr C k z R m s c d) (E : Drawn Y wr W C k' z5 m5 (MD.full s5 c5 d5)) (hC : C < w.heap.size) (hY : ∀ b, Y b → b < w.heap.size) :
    Dm Y w (((W.setCell ⟨z, 0, none⟩ (.slice m5.a1 12 m5.c1)).setCell ⟨z, 1, none⟩ (.slice m5.a2 12 m5.c2)).setCell ⟨z, 2, none⟩ (.slice m5.a3 12 m5.c3)) C k' z R m5 s5 c5 d5 := by
  have hs := mod_set3 W z (.slice m5.a1 12 m5.c1) (.slice m5.a2 12 m5.c2) (.slice m5.a3 12 m5.c3)
  have hsz := hs.size
  have oz := D.oz
  have oR := D.oR
  have ne := D.ne
  have zlt := D.box.lt
  have rlt := D.res.lt
  have ms := D.mod.size
  have es := E.mod.size
  have m2 := D.mod.trans E.mod
  refine ⟨E.cur.mod hs (by omega) (fun b hb => by have := hY b hb; omega), ⟨hs.os.trans m2.os, hs.tape.trans m2.tape, hs.output.trans m2.output, Nat.le_trans m2.size hs.size, fun i hi hx => (hs.block i (Nat.lt_of_lt_of_le hi m2.size) (by omega)).trans (m2.block i hi hx)⟩, box_put (D.box.mod E.mod (by omega)) _ _ _, (E.own.mod hs (fun b h => by have := h.1; omega)).mono (fun b h => by have := h.1; have := h.2.1; exact ⟨by omega, by omega, by omega, by omega⟩), (D.res.mod E.mod (by omega)).mod hs (by omega), oz, oR, ne⟩
/-- The drawn memory stays. -/
theorem Dm.stay {Y : Nat → Prop} {w wr W : World} {C k k' z R : Nat} {m : MV} {s c : Nat → Nat → Int} {d : Nat → Bool} (D : Dm Y w wr C k z R m s c d) (hm : Mod (fun b => b = C) wr W) (cur : Cur Y W C k') (hC : C < w.heap.size) : Dm Y w W C k' z R m s c d := by
  have oz := D.oz
  have oR := D.oR
  have hs := hm.size
  exact ⟨cur, D.mod.trans hm, D.box.mod hm (by omega), (D.own.mod hm (fun b hb => by have := hb.1; omega)).mono (fun b hb => ⟨hb.1, by have := hb.2.1; omega, hb.2.2⟩), D.res.mod hm (by omega), oz, oR, D.ne⟩
theorem Cur.facts {Y : Nat → Prop} {w : World} {C k : Nat} (h : Cur Y w C k) : C < w.heap.size ∧ True := ⟨h.lt, trivial⟩
theorem own_dirty {X : Nat → Prop} {w : World} {m : MV} {s c : Nat → Nat → Int} {d : Nat → Bool} (h : MemOwn X w m (MD.full s c d)) : ∃ b3, X b3 ∧ m.a3 = some ⟨b3, 0, none⟩ ∧ Row w b3 12 (fun i => .bool (d i)) ∧
    ∀ w' (d' : Nat → Bool), Mod (fun x => ¬ X x ∨ x = b3) w w' → Row w' b3 12 (fun i => .bool (d' i)) → MemOwn X w' m (MD.full s c d') := by
  obtain ⟨X1, X2, X3, h1, h2, h3, hs, hc, hd⟩ := h.ex
  obtain ⟨b, hb, e, r⟩ := hd.2 (by show 0 < 12; omega)
  refine ⟨b, h3 b hb, e, r, fun w' d' hm r' => ⟨X1, X2, fun x => x = b, fun x hx => ?_, fun x hx => ?_, fun x hx => ?_, hs.mod hm (fun x hx hh => ?_), hc.mod hm (fun x hx hh => ?_), ⟨by show 12 ≤ _; omega, fun _ => ⟨b, rfl, e, r'⟩⟩⟩⟩
  · exact ⟨(h1 x hx).1, (h1 x hx).2.1, fun he => (h1 x hx).2.2 (he ▸ hb)⟩
  · exact ⟨(h2 x hx).1, fun he => (h2 x hx).2 (he ▸ hb)⟩
  · exact hx ▸ h3 b hb
  · rcases hh with hh | hh
    · exact hh (h1 x hx).1
    · exact (h1 x hx).2.2 (hh ▸ hb)
  · rcases hh with hh | hh
    · exact hh (h2 x hx).1
    · exact (h2 x hx).2 (hh ▸ hb)
theorem box3_mod2 {w : World} {B R R2 : Nat} {a b c : Value} (r : Row w B 3 (fun i => if i = 0 then a else if i = 1 then b else c)) (hR : B ≠ R) (hR2 : B ≠ R2) :
    (∀ w', Mod (fun x => x = R ∨ x = R2) w w' → w'.cell? ⟨B, 0, none⟩ = some a) ∧ (∀ w', Mod (fun x => x = R ∨ x = R2) w w' → w'.cell? ⟨B, 1, none⟩ = some b) ∧ (∀ w', Mod (fun x => x = R ∨ x = R2) w w' → w'.cell? ⟨B, 2, none⟩ = some c) :=
  ⟨fun _ h => (get3 (r.mod h (by omega))).1, fun _ h => (get3 (r.mod h (by omega))).2.1, fun _ h => (get3 (r.mod h (by omega))).2.2⟩
/-- One mark of the drawn memory is another one. -/
theorem Dm.dirty {Y : Nat → Prop} {w wr W : World} {C k k' z R b3 i : Nat} {m : MV} {s c : Nat → Nat → Int} {d : Nat → Bool} {v : Bool} (D : Dm Y w wr C k z R m s c d)
    (nx : ∀ w' (d' : Nat → Bool), Mod (fun x => ¬ (w.heap.size ≤ x ∧ x < wr.heap.size ∧ x ≠ z ∧ x ≠ R) ∨ x = b3) wr w' → Row w' b3 12 (fun i => .bool (d' i)) → MemOwn (fun x => w.heap.size ≤ x ∧ x < wr.heap.size ∧ x ≠ z ∧ x ≠ R) w' m (MD.full s c d'))
    (r : Row wr b3 12 (fun i => .bool (d i))) (hi : i < 12) (hbC : b3 ≠ C) (hx : w.heap.size ≤ b3 ∧ b3 < wr.heap.size ∧ b3 ≠ z ∧ b3 ≠ R) (hm : Mod (fun x => x = C) wr W) (cur : Cur Y W C k') (hC : C < w.heap.size) (hY : ∀ b, Y b → b < w.heap.size) :
    Dm Y w (W.setCell ⟨b3, i, none⟩ (.bool v)) C k' z R m s c (fun j => if j = i then v else d j) := by
  have oz := D.oz
  have oR := D.oR
  have hs := Mod.setCell (X := fun x => x = b3) W (p := ⟨b3, i, none⟩) rfl (.bool v)
  have hsz := hs.size
  have hmz := hm.size
  have ms := D.mod.size
  have m2 := D.mod.trans hm
  have all : Mod (fun x => ¬ (w.heap.size ≤ x ∧ x < wr.heap.size ∧ x ≠ z ∧ x ≠ R) ∨ x = b3) wr (W.setCell ⟨b3, i, none⟩ (.bool v)) := (hm.mono (fun x hx => Or.inl (by omega))).trans (hs.mono (fun x hx => Or.inr hx))
  refine ⟨cur.mod hs (fun e => hbC e.symm) (fun b hb => by have := hY b hb; omega), ⟨hs.os.trans m2.os, hs.tape.trans m2.tape, hs.output.trans m2.output, Nat.le_trans m2.size hs.size, fun t ht hx => (hs.block t (Nat.lt_of_lt_of_le ht m2.size) (by omega)).trans (m2.block t ht hx)⟩, (D.box.mod hm (by omega)).mod hs (by omega), (nx _ _ all (((r.mod hm hbC).set i (.bool v)).congr (fun t ht => by by_cases e : t = i <;> simp [e]))).mono (fun b hb => ⟨hb.1, by have := hb.2.1; omega, hb.2.2⟩), (D.res.mod hm (by omega)).mod hs (by omega), oz, oR, D.ne⟩
theorem own_word {X : Nat → Prop} {w : World} {m : MV} {s c : Nat → Nat → Int} {d : Nat → Bool} (h : MemOwn X w m (MD.full s c d)) : ∃ bL bW cW, X bW ∧ (X bL ∧ bL ≠ bW) ∧ m.a1 = some ⟨bL, 0, none⟩ ∧ w.cell? ⟨bL, 0, none⟩ = some (.slice (some ⟨bW, 0, none⟩) 4 cW) ∧ Row w bW 4 (fun t => .int .i64 (s 0 t)) ∧
    ∀ w' (f : Nat → Int), Mod (fun x => ¬ X x ∨ x = bW) w w' → Row w' bW 4 (fun t => .int .i64 (f t)) → MemOwn X w' m (MD.full (fun i => if i = 0 then f else s i) c d) := by
  obtain ⟨X1, X2, X3, h1, h2, h3, hs, hc, hd⟩ := h.ex
  obtain ⟨b, F, cc, hb, e, r, hl, hdif⟩ := hs.2 (by show 0 < 12; omega)
  obtain ⟨g1, g2, g3, g4⟩ := hl 0 (by show 0 < 12; omega)
  refine ⟨b, F 0, cc 0, (h1 _ g2).1, ⟨(h1 _ hb).1, fun e => g3 e.symm⟩, e, r.cell (by show 0 < 12; omega), g4, fun w' f hm r' => ⟨X1, X2, X3, h1, h2, h3, ⟨hs.1, fun _ => ⟨b, F, cc, hb, e, r.mod hm (fun hh => ?_), fun i hi => ?_, hdif⟩⟩, hc.mod hm (fun x hx hh => ?_), hd.mod hm (fun x hx hh => ?_)⟩⟩
  · rcases hh with hh | hh
    · exact hh (h1 _ hb).1
    · exact g3 hh.symm
  · obtain ⟨k1, k2, k3, k4⟩ := hl i hi
    refine ⟨k1, k2, k3, ?_⟩
    by_cases e0 : i = 0
    · subst e0
      exact r'
    · have hr := k4.mod hm (fun hh => by
        rcases hh with hh | hh
        · exact hh (h1 _ k2).1
        · exact hdif i 0 hi (by show 0 < 12; omega) e0 hh)
      simpa [MD.full, e0] using hr
  · rcases hh with hh | hh
    · exact hh (h2 _ hx).1
    · exact (h1 _ g2).2.1 (hh ▸ hx)
  · rcases hh with hh | hh
    · exact hh (h3 _ hx)
    · exact (h1 _ g2).2.2 (hh ▸ hx)
/-- The first sure word of the drawn memory is another one. -/
theorem Dm.word {Y : Nat → Prop} {w wr W : World} {C k k' z R b3 : Nat} {m : MV} {s c : Nat → Nat → Int} {d : Nat → Bool} {v : Int} (D : Dm Y w wr C k z R m s c d)
    (nx : ∀ w' (f : Nat → Int), Mod (fun x => ¬ (w.heap.size ≤ x ∧ x < wr.heap.size ∧ x ≠ z ∧ x ≠ R) ∨ x = b3) wr w' → Row w' b3 4 (fun t => .int .i64 (f t)) → MemOwn (fun x => w.heap.size ≤ x ∧ x < wr.heap.size ∧ x ≠ z ∧ x ≠ R) w' m (MD.full (fun i => if i = 0 then f else s i) c d))
    (r : Row wr b3 4 (fun t => .int .i64 (s 0 t))) (hbC : b3 ≠ C) (hx : w.heap.size ≤ b3 ∧ b3 < wr.heap.size ∧ b3 ≠ z ∧ b3 ≠ R) (hm : Mod (fun x => x = C) wr W) (cur : Cur Y W C k') (hC : C < w.heap.size) (hY : ∀ b, Y b → b < w.heap.size) :
    Dm Y w (W.setCell ⟨b3, 0, none⟩ (.int .i64 v)) C k' z R m (fun i => if i = 0 then (fun t => if t = 0 then v else s 0 t) else s i) c d := by
  have oz := D.oz
  have oR := D.oR
  have hs := Mod.setCell (X := fun x => x = b3) W (p := ⟨b3, 0, none⟩) rfl (.int .i64 v)
  have hsz := hs.size
  have hmz := hm.size
  have ms := D.mod.size
  have m2 := D.mod.trans hm
  have all : Mod (fun x => ¬ (w.heap.size ≤ x ∧ x < wr.heap.size ∧ x ≠ z ∧ x ≠ R) ∨ x = b3) wr (W.setCell ⟨b3, 0, none⟩ (.int .i64 v)) := (hm.mono (fun x hx => Or.inl (by omega))).trans (hs.mono (fun x hx => Or.inr hx))
  refine ⟨cur.mod hs (fun e => hbC e.symm) (fun b hb => by have := hY b hb; omega), ⟨hs.os.trans m2.os, hs.tape.trans m2.tape, hs.output.trans m2.output, Nat.le_trans m2.size hs.size, fun t ht hx => (hs.block t (Nat.lt_of_lt_of_le ht m2.size) (by omega)).trans (m2.block t ht hx)⟩, (D.box.mod hm (by omega)).mod hs (by omega), (nx _ _ all (((r.mod hm hbC).set 0 (.int .i64 v)).congr (fun t ht => by by_cases e : t = 0 <;> simp [e]))).mono (fun b hb => ⟨hb.1, by have := hb.2.1; omega, hb.2.2⟩), (D.res.mod hm (by omega)).mod hs (by omega), oz, oR, D.ne⟩
/-- The drawn memory is handed back. -/
theorem Dm.done {Y : Nat → Prop} {w wr : World} {C k z : Nat} {m : MV} {s c : Nat → Nat → Int} {d : Nat → Bool} (D : Dm Y w wr C k z w.heap.size m s c d) (hC : C < w.heap.size) (hY : ∀ b, Y b → b < w.heap.size) :
    Cur Y (((wr.setCell ⟨w.heap.size, 0, none⟩ (.slice m.a1 12 m.c1)).setCell ⟨w.heap.size, 1, none⟩ (.slice m.a2 12 m.c2)).setCell ⟨w.heap.size, 2, none⟩ (.slice m.a3 12 m.c3)) C k ∧
    MemOwn (fun b => w.heap.size ≤ b ∧ b < (((wr.setCell ⟨w.heap.size, 0, none⟩ (.slice m.a1 12 m.c1)).setCell ⟨w.heap.size, 1, none⟩ (.slice m.a2 12 m.c2)).setCell ⟨w.heap.size, 2, none⟩ (.slice m.a3 12 m.c3)).heap.size) (((wr.setCell ⟨w.heap.size, 0, none⟩ (.slice m.a1 12 m.c1)).setCell ⟨w.heap.size, 1, none⟩ (.slice m.a2 12 m.c2)).setCell ⟨w.heap.size, 2, none⟩ (.slice m.a3 12 m.c3)) m (MD.full s c d) ∧
    Mod (fun b => b = C) w (((wr.setCell ⟨w.heap.size, 0, none⟩ (.slice m.a1 12 m.c1)).setCell ⟨w.heap.size, 1, none⟩ (.slice m.a2 12 m.c2)).setCell ⟨w.heap.size, 2, none⟩ (.slice m.a3 12 m.c3)) := by
  have hs := mod_set3 wr w.heap.size (.slice m.a1 12 m.c1) (.slice m.a2 12 m.c2) (.slice m.a3 12 m.c3)
  have hsz := hs.size
  have m2 := D.mod
  exact ⟨D.cur.mod hs (by omega) (fun b hb => by have := hY b hb; omega), (D.own.mod hs (fun b hb => hb.2.2.2)).mono (fun b hb => ⟨hb.1, by have := hb.2.1; omega⟩), ⟨hs.os.trans m2.os, hs.tape.trans m2.tape, hs.output.trans m2.output, Nat.le_trans m2.size hs.size, fun t ht hx => (hs.block t (Nat.lt_of_lt_of_le ht m2.size) (by omega)).trans (m2.block t ht hx)⟩⟩
theorem Drawn.more {Y : Nat → Prop} {wr W W' : World} {C k k' z : Nat} {m : MV} {M : MD} (E : Drawn Y wr W C k z m M) (hm : Mod (fun b => b = C) W W') (cur : Cur Y W' C k') (hC : C < wr.heap.size) : Drawn Y wr W' C k' z m M := by
  have lo := E.lo
  have hs := hm.size
  exact ⟨cur, E.mod.trans hm, lo, E.box.mod hm (by omega), (E.own.mod hm (fun b hb => by have := hb.1; omega)).mono (fun b hb => ⟨hb.1, by have := hb.2.1; omega, hb.2.2⟩)⟩
theorem setz {wr w4 : World} {C z : Nat} {a b c : Value} (hm : Mod (fun b => b = C) wr w4) (hz : wr.heap.size ≤ z) : Mod (fun b => b = C) wr (((w4.setCell ⟨z, 0, none⟩ a).setCell ⟨z, 1, none⟩ b).setCell ⟨z, 2, none⟩ c) := by
  have hs := mod_set3 w4 z a b c
  exact ⟨hs.os.trans hm.os, hs.tape.trans hm.tape, hs.output.trans hm.output, Nat.le_trans hm.size hs.size, fun i hi hx => (hs.block i (Nat.lt_of_lt_of_le hi hm.size) (by omega)).trans (hm.block i hi hx)⟩
set_option maxRecDepth 10000 in
set_option maxHeartbeats 6400000 in
theorem memory_any (Y : Nat → Prop) (C k : Nat) (w : World) (hk : k ≤ 800000) (hY : ∀ b, Y b → b < w.heap.size) (h : Cur Y w C k) :
    Calls Try.prog 74 #[.pointer (some ⟨C, 0, none⟩)] w fun e w' => ∃ m s c d, e = .returned (m.val (MD.full s c d)) ∧ MemOwn (fun b => w.heap.size ≤ b ∧ b < w'.heap.size) w' m (MD.full s c d) ∧ Cur Y w' C (k + 100) ∧ Mod (fun b => b = C) w w' := by
  have hC := h.lt
  have HY : Hid (∀ b, Y b → b < w.heap.size) := hY
  clear hY
  go_enter Try.func74, Try.ntmps74
  go_wp2_with fail
  have hb0 : Blw w (w.alloc (.cells #[.slice none 0 0, .slice none 0 0, .slice none 0 0] 26)) := (Blw.refl _).alloc _
  have rR := row_box w 26
  have s0 : (w.alloc (.cells #[.slice none 0 0, .slice none 0 0, .slice none 0 0] 26)).heap.size = w.heap.size + 1 := by simp
  refine (specNewO_any _).mono ?_
  rintro e w1 ⟨m1, rfl, own1, hb1⟩
  simp only [MV.val, MD.full]
  have z1 := hb1.size
  go_wp2_with fail
  have hA : Blw w1 (w1.alloc (.cells #[.slice m1.a1 12 m1.c1, .slice m1.a2 12 m1.c2, .slice m1.a3 12 m1.c3] 26)) := (Blw.refl _).alloc _
  have hb2 := (hb0.trans hb1).trans hA
  refine (pick_any Y C k 12 _ (by omega) (by omega) (h.blw hb2)).mono ?_
  rintro e w2 ⟨n, rfl, hn, c2, mm2⟩
  have D0 : Hid (Dm Y w w2 C (k + 2) w1.heap.size w.heap.size m1 zeros zeros (fun _ => false)) := by
    have s1 : (w1.alloc (.cells #[.slice m1.a1 12 m1.c1, .slice m1.a2 12 m1.c2, .slice m1.a3 12 m1.c3] 26)).heap.size = w1.heap.size + 1 := by simp
    have s2 := mm2.size
    exact ⟨c2, (hb2.mod _).trans mm2, (box3 w1 _ _ _ 26).mod mm2 (by omega), ((own1.blw hA).mod mm2 (fun b hb => by have := hb.1; omega)).mono (fun b hb => ⟨by have := hb.1; omega, by have := hb.2; omega, by have := hb.2; omega, by have := hb.1; omega⟩), ((rR.blw hb1).blw hA).mod mm2 (by omega), by omega, by omega, by omega⟩
  have hn12 : n ≤ 11 := by omega
  have zz : w.heap.size < w1.heap.size := by omega
  clear c2 mm2 hA hb2 own1 hb1 rR hb0 h s0 hn z1
  generalize w1.heap.size = z at *
  go_wp2_with fail
  go_loopw [4] (fun i wr => ∃ l : Nat, l ≤ n ∧ i = .int .i64 l ∧ ∃ m s c d, Dm Y w wr C (k + 2 + (n - l) * 8) z w.heap.size m s c d) (fun i _ => (intOf i).toNat)
  case atStart => exact ⟨n, Nat.le_refl _, rfl, m1, _, _, _, by rw [Nat.sub_self]; exact D0.out⟩
  case round =>
    obtain ⟨l, hl, rfl, m, s, c, d, D⟩ := hrel
    clear D0
    by_cases hl0 : 0 < l
    · have d1 : decide ((l : Int) > 0) = true := by simp; omega
      obtain ⟨K, eK⟩ : ∃ K, K = k + 2 + (n - l) * 8 := ⟨_, rfl⟩
      rw [← eK] at D
      have hK : K ≤ 800090 := by omega
      have DD : Hid (Dm Y w wr C K z w.heap.size m s c d) := D
      have C0 : Hid (Cur Y wr C K) := D.cur
      have HM : Hid (MemAt _ wr m (MD.full s c d)) := D.own.at
      have hCr : C < wr.heap.size := D.cur.lt
      have HYr : Hid (∀ b, Y b → b < wr.heap.size) := fun b hb => Nat.lt_of_lt_of_le (HY.out b hb) D.mod.size
      obtain ⟨A0, A1, A2⟩ := box3_mod (R := C) D.box (by have := D.oz; omega)
      clear D
      go_upto_region 5 with fail
      go_cut [5, 6] from 12 to 39 (fun a b wx => ∃ z5 m5 M5 ok, a = .pointer (some ⟨z5, 0, none⟩) ∧ b = .bool ok ∧ (∃ x y, stOut (MD.full s c d) x y M5 ok) ∧ Drawn Y wr wx C (K + 4) z5 m5 M5)
      case first =>
        go_region_held3 (fun w' => Mod (fun b => b = C) wr w') ((first | exact (Mod.refl _ _).drew | assumption | exact Mod.alloc kf _ | exact Mod.alloc kp2 _ | exact Mod.alloc kp1 _ | exact Mod.alloc (Mod.refl _ _).drew _ | exact setz kf hz)) (first
          | (go_at_call_of 89 (Value.int IntKind.i64 20); refine (pick_any Y C (K + 0) 20 _ (by omega) (by omega) (by first | exact C0.out.blw (Blw.refl _).drew | exact C0.out.blw (Blw.alloc (Blw.refl _).drew _))).mono ?_; rintro e wp1 ⟨x1, rfl, hx1, cp1, mp1⟩; have kp1 : Mod (fun b => b = C) wr wp1 := Mod.trans (by assumption) mp1; have zk1 := kp1.size; have sb1 := mp1.size)
          | (go_at_call_of 89 (Value.int IntKind.i64 9); refine (pick_any Y C (K + 2) 9 _ (by omega) (by omega) (by first | exact cp1 | exact cp1.blw ((Blw.refl _).alloc _))).mono ?_; rintro e wp2 ⟨x2, rfl, hx2, cp2, mp2⟩; have kp2 : Mod (fun b => b = C) wr wp2 := Mod.trans (by assumption) mp2; have zk2 := kp2.size; have sb2 := mp2.size)
          | (go_at_call 32; refine (specStore_any m (MD.full s c d) _ _ x1 x2 (by exact HM.out.mod (by assumption) (fun b hb => by have := hb.1; omega))).mono ?_; rintro e wf ⟨mf, Mf, ok, rfl, hout, ownf, hbf⟩; have sbf := hbf.size; have kf : Mod (fun b => b = C) wr wf := Mod.setBlw (by assumption) hbf; have zkf := kf.size; have cf : Cur Y wf C (K + 4) := (by first | exact cp2.blw hbf | exact (cp2.blw ((Blw.refl _).alloc _)).blw hbf); (first | (have rZ := (row_box wp2 26).blw hbf; have hz : wr.heap.size ≤ wp2.heap.size := (by omega); obtain ⟨⟨y0, y1, y2⟩, f0, f1, f2⟩ := res6 rZ) | (have rZ := Row.blw (Row.mod (row_box wp1 26) mp2 (by omega)) hbf; have hz : wr.heap.size ≤ wp1.heap.size := (by omega); obtain ⟨⟨y0, y1, y2⟩, f0, f1, f2⟩ := res6 rZ) | (have rZ : Row wf wr.heap.size 3 (fun _ => .slice none 0 0) := Row.blw (Row.mod (Row.mod (row_box wr.drew 26) mp1 (by show ¬ wr.heap.size = C; omega)) mp2 (by show ¬ wr.heap.size = C; omega)) hbf; have hz : wr.heap.size ≤ wr.heap.size := (by omega); obtain ⟨⟨y0, y1, y2⟩, f0, f1, f2⟩ := res6 rZ) | skip)))
        all_goals go_wp2_with fail
        all_goals go_meet
        all_goals try simp only [World.size_alloc, World.size_drew] at ownf sbf sb1 sb2
        all_goals first
          | exact ⟨_, mf, Mf, ok, rfl, rfl, ⟨_, _, hout⟩, Drawn.late cf kf ownf (fun b hb => ⟨by have := hb.1; omega, hb.2⟩)⟩
          | exact ⟨_, mf, Mf, ok, rfl, rfl, ⟨_, _, hout⟩, Drawn.early cf kf rZ hz hCr HYr.out ownf (fun b hb => ⟨by have := hb.1; omega, hb.2, by have := hb.1; omega⟩)⟩
      case rest =>
        obtain ⟨z5, m5, M5, ok, rfl, rfl, ⟨x5, y5, hst⟩, E⟩ := hcut
        have HST : Hid (stOut (MD.full s c d) x5 y5 M5 ok) := hst
        have HE : Hid (Drawn Y wr wc C (K + 4) z5 m5 M5) := E
        clear hst E A0 A1 A2 C0 HM hCr HYr
        go_upto_if 25 with fail
        go_cut [] from 12 to 39 (fun wx => ∃ m s c d, Dm Y w wx C (K + 4) z w.heap.size m s c d)
        case first =>
          cases ok
          · go_wp2_with fail
            go_meet
            exact ⟨m, s, c, d, DD.out.stay HE.out.mod HE.out.cur hC⟩
          · obtain ⟨s5, c5, d5, rfl⟩ : ∃ s5 c5 d5, M5 = MD.full s5 c5 d5 := by
              rcases HST.out with ⟨_, _, _, _, _, rfl, _⟩ | ⟨_, _, g⟩
              · exact ⟨_, _, _, rfl⟩
              · cases g
            have rz := DD.out.box.mod HE.out.mod (by have := DD.out.oz; omega)
            obtain ⟨p0, p1, p2⟩ := get3 HE.out.box
            obtain ⟨q0, q1, q2⟩ := get3 rz
            have f0 := rz.frozen 0
            have f1 := rz.frozen 1
            have f2 := rz.frozen 2
            clear rz
            simp only [MD.full] at p0 p1 p2 q0 q1 q2
            go_wp2_with fail
            go_meet
            exact ⟨m5, s5, c5, d5, DD.out.take HE.out hC HY.out⟩
        case rest =>
          obtain ⟨m', s', c', d', D⟩ := hcut
          clear HE HST DD m5 M5 x5 y5 m s c d
          obtain ⟨wq, hwq⟩ : ∃ wq, wc = wq := ⟨_, rfl⟩
          subst hwq
          obtain ⟨K2, eK2⟩ : ∃ K2, K2 = K + 4 := ⟨_, rfl⟩
          rw [← eK2] at D
          have hK2 : K2 ≤ 800094 := by omega
          have DD : Hid (Dm Y w wc C K2 z w.heap.size m' s' c' d') := D
          have C0 : Hid (Cur Y wc C K2) := D.cur
          have HM : Hid (MemAt _ wc m' (MD.full s' c' d')) := D.own.at
          have hCr : C < wc.heap.size := D.cur.lt
          have HYr : Hid (∀ b, Y b → b < wc.heap.size) := fun b hb => Nat.lt_of_lt_of_le (HY.out b hb) D.mod.size
          obtain ⟨A0, A1, A2⟩ := box3_mod (R := C) D.box (by have := D.oz; omega)
          clear D
          go_upto_region 8 with fail
          go_cut [7, 8] from 12 to 39 (fun a b wx => ∃ z5 m5 M5 ok, a = .pointer (some ⟨z5, 0, none⟩) ∧ b = .bool ok ∧ (∃ x, flOut (MD.full s' c' d') x M5 ok) ∧ Drawn Y wc wx C (K2 + 2) z5 m5 M5)
          case first =>
            go_region_held3 (fun w' => Mod (fun b => b = C) wc w') ((first | exact (Mod.refl _ _).drew | assumption | exact Mod.alloc kf _ | exact Mod.alloc kp1 _ | exact Mod.alloc (Mod.refl _ _).drew _ | exact setz kf hz)) (first
              | (go_at_call_of 89 (Value.int IntKind.i64 5); refine (pick_any Y C (K2 + 0) 5 _ (by omega) (by omega) (by first | exact C0.out.blw (Blw.refl _).drew | exact C0.out.blw (Blw.alloc (Blw.refl _).drew _))).mono ?_; rintro e wp1 ⟨x1, rfl, hx1, cp1, mp1⟩; have kp1 : Mod (fun b => b = C) wc wp1 := Mod.trans (by assumption) mp1; have zk1 := kp1.size; have sb1 := mp1.size)
              | (go_at_call 27; refine (specFlush_any m' (MD.full s' c' d') _ _ x1 (by exact HM.out.mod (by assumption) (fun b hb => by have := hb.1; omega))).mono ?_; rintro e wf ⟨mf, Mf, ok, rfl, hout, ownf, hbf⟩; have sbf := hbf.size; have kf : Mod (fun b => b = C) wc wf := Mod.setBlw (by assumption) hbf; have zkf := kf.size; have cf : Cur Y wf C (K2 + 2) := (by first | exact cp1.blw hbf | exact (cp1.blw ((Blw.refl _).alloc _)).blw hbf); (first | (have rZ := (row_box wp1 26).blw hbf; have hz : wc.heap.size ≤ wp1.heap.size := (by omega); obtain ⟨⟨y0, y1, y2⟩, f0, f1, f2⟩ := res6 rZ) | (have rZ : Row wf wc.heap.size 3 (fun _ => .slice none 0 0) := Row.blw (Row.mod (row_box wc.drew 26) mp1 (by show ¬ wc.heap.size = C; omega)) hbf; have hz : wc.heap.size ≤ wc.heap.size := (by omega); obtain ⟨⟨y0, y1, y2⟩, f0, f1, f2⟩ := res6 rZ) | skip)))
            all_goals go_wp2_with fail
            all_goals go_meet
            all_goals try simp only [World.size_alloc, World.size_drew] at ownf sbf sb1
            all_goals first
              | exact ⟨_, mf, Mf, ok, rfl, rfl, ⟨_, hout⟩, Drawn.late cf kf ownf (fun b hb => ⟨by have := hb.1; omega, hb.2⟩)⟩
              | exact ⟨_, mf, Mf, ok, rfl, rfl, ⟨_, hout⟩, Drawn.early cf kf rZ hz hCr HYr.out ownf (fun b hb => ⟨by have := hb.1; omega, hb.2, by have := hb.1; omega⟩)⟩
          case rest =>
            obtain ⟨z5, m5, M5, ok, rfl, rfl, ⟨x5, hst⟩, E⟩ := hcut
            have HST : Hid (flOut (MD.full s' c' d') x5 M5 ok) := hst
            have HE : Hid (Drawn Y _ wc C (K2 + 2) z5 m5 M5) := E
            clear hst E A0 A1 A2 C0 HM HYr
            cases ok
            · have J := DD.out.stay HE.out.mod (HE.out.cur.le (k' := k + 2 + (n - (l - 1)) * 8) (by omega)) hC
              clear DD HE HST
              go_wp2
              go_roundw
              case rel => exact ⟨l - 1, by omega, by congr 1; omega, m', s', c', d', J⟩
              case measure => simp [intOf]; omega
            · obtain ⟨s5, c5, d5, rfl⟩ : ∃ s5 c5 d5, M5 = MD.full s5 c5 d5 := by
                rcases HST.out with ⟨_, _, _, _, rfl, _⟩ | ⟨_, _, g⟩
                · exact ⟨_, _, _, rfl⟩
                · cases g
              clear HST
              go_wp2_with fail
              refine (one_any Y C (K2 + 2) 3 _ (by omega) (by omega) HE.out.cur).mono ?_
              rintro e wo ⟨bo, rfl, co, mo⟩
              cases bo
              · have J := DD.out.stay (HE.out.mod.trans mo) (co.le (k' := k + 2 + (n - (l - 1)) * 8) (by omega)) hC
                clear DD HE co mo
                go_wp2
                go_roundw
                case rel => exact ⟨l - 1, by omega, by congr 1; omega, m', s', c', d', J⟩
                case measure => simp [intOf]; omega
              · have HE2 := HE.out.more mo (co.le (k' := k + 2 + (n - (l - 1)) * 8) (by omega)) hCr
                have rz := DD.out.box.mod HE2.mod (by have := DD.out.oz; omega)
                obtain ⟨p0, p1, p2⟩ := get3 HE2.box
                obtain ⟨q0, q1, q2⟩ := get3 rz
                have f0 := rz.frozen 0
                have f1 := rz.frozen 1
                have f2 := rz.frozen 2
                have J : Hid _ := DD.out.take HE2 hC HY.out
                clear rz HE2 DD HE co mo
                simp only [MD.full] at p0 p1 p2 q0 q1 q2
                go_wp2
                go_roundw
                case rel => exact ⟨l - 1, by omega, by congr 1; omega, m5, s5, c5, d5, J.out⟩
                case measure => simp [intOf]; omega
    · obtain rfl : l = 0 := by omega
      have d1 : decide (((0 : Nat) : Int) > 0) = false := by decide
      have DD : Hid (Dm Y w wr C (k + 2 + (n - 0) * 8) z w.heap.size m s c d) := D
      clear D hl hl0
      go_wp2_with fail
      refine (pick_any Y C (k + 2 + (n - 0) * 8) 30 _ (by omega) (by omega) DD.out.cur).mono ?_
      rintro e wp ⟨v, rfl, hv, cp, mp⟩
      have DP : Hid (Dm Y w wp C (k + 92) z w.heap.size m s c d) := DD.out.stay mp (cp.le (by omega)) hC
      clear DD cp mp
      by_cases h0 : v = 0
      · have e0 : ((v : Int) == 0) = true := by simp [h0]
        obtain ⟨b3, hx3, ea3, r3, next3⟩ := own_dirty DP.out.own
        have N3 : Hid _ := next3
        have Cp : Hid (Cur Y wp C (k + 92)) := DP.out.cur
        have bz := DP.out.box
        have oz := DP.out.oz
        have b3C : b3 ≠ C := by omega
        have b3z : b3 ≠ z := hx3.2.2.1
        obtain ⟨A0, A1, A2⟩ := box3_mod2 (R := C) (R2 := b3) bz (by omega) (by omega)
        rw [ea3] at A2
        clear ea3
        simp only [MD.full] at A0 A1 A2
        have T3 : ∀ i, i < 12 → ∀ w', Mod (fun x => x = C) wp w' → w'.cell? ⟨b3, i, none⟩ = some (.bool (d i)) ∧ w'.frozen? ⟨b3, i, none⟩ = false := fun i hi w' hm => ⟨(r3.mod hm b3C).cell hi, (r3.mod hm b3C).frozen i⟩
        have H3 : Hid _ := T3
        have R3 : Hid (Row wp b3 12 (fun i => .bool (d i))) := r3
        clear next3 T3 r3 bz
        go_upto_region 13 with fail
        go_region_held3 (fun w' => Mod (fun x => x = C ∨ x = b3) wp w') ((first | exact (Mod.refl _ _).drew | assumption | exact Mod.mono m8 (fun k hk => Or.inl hk) | exact Mod.mono m7 (fun k hk => Or.inl hk) | exact Mod.trans (Mod.mono m8 (fun k hk => Or.inl hk)) (Mod.setCell _ (Or.inr rfl) _))) (first
          | (go_at_call 89; refine (pick_any Y C (k + 92) 12 _ (by omega) (by omega) (by exact Cp.out.blw (Blw.refl _).drew)).mono ?_; rintro e w7 ⟨x7, rfl, hx7, c7, m70⟩; have m7 : Mod (fun x => x = C) wp w7 := Mod.trans (Mod.refl _ _).drew m70)
          | (go_at_call 123; refine (one_any Y C (k + 94) 2 _ (by omega) (by omega) (by exact c7)).mono ?_; rintro e w8 ⟨b8, rfl, c8, m80⟩; have m8 : Mod (fun x => x = C) wp w8 := Mod.trans m7 m80; have hx7' : x7 < 12 := (by omega); obtain ⟨t0, t1⟩ := H3.out x7 hx7' w8 m8))
        all_goals have D := DP.out.dirty (v := b8) N3.out R3.out hx7' b3C hx3 m8 c8 hC HY.out
        all_goals have e1 : ((v : Int) == 1) = false := by simp; omega
        all_goals obtain ⟨p0, p1, p2⟩ := get3 D.box
        all_goals obtain ⟨⟨x0, x1, x2⟩, f0, f1, f2⟩ := res6 D.res
        all_goals have F : Hid _ := D.done hC HY.out
        all_goals clear D A0 A1 A2 N3 H3 R3 Cp DP
        all_goals simp only [MD.full] at p0 p1 p2
        all_goals go_wp2
        all_goals exact bodyPost_ret (v := m.val (MD.full s c (fun j => if j = x7 then b8 else d j))) (by simp [results, Try.results74, go_sem, x0, x1, x2, MD.full]) rfl ⟨m, _, _, _, rfl, F.out.2.1, F.out.1.le (by omega), F.out.2.2⟩
      · have e0 : ((v : Int) == 0) = false := by simp; omega
        by_cases h1 : v = 1
        · have e1 : ((v : Int) == 1) = true := by simp [h1]
          obtain ⟨bL, bW, cW, hxW, hLW, eaL, cL, rW, nextW⟩ := own_word DP.out.own
          have NW : Hid _ := nextW
          have Cp : Hid (Cur Y wp C (k + 92)) := DP.out.cur
          have bz := DP.out.box
          have oz := DP.out.oz
          have zlt := bz.lt
          have bWC : bW ≠ C := by omega
          have bLC : bL ≠ C := by omega
          obtain ⟨A0, A1, A2⟩ := box3_mod2 (R := C) (R2 := bW) bz (by omega) (by omega)
          rw [eaL] at A0
          clear eaL
          simp only [MD.full] at A0 A1 A2
          have AL : ∀ w', Mod (fun x => x = C ∨ x = bW) wp w' → w'.cell? ⟨bL, 0, none⟩ = some (.slice (some ⟨bW, 0, none⟩) 4 cW) := fun w' hm => hm.cell cL (by show ¬ (bL = C ∨ bL = bW); omega)
          have TW : ∀ w', Mod (fun x => x = C) wp w' → w'.cell? ⟨bW, 0, none⟩ = some (.int .i64 (s 0 0)) ∧ w'.frozen? ⟨bW, 0, none⟩ = false := fun w' hm => ⟨(rW.mod hm bWC).cell (i := 0) (by omega), (rW.mod hm bWC).frozen 0⟩
          have HW : Hid _ := TW
          have RW : Hid (Row wp bW 4 (fun t => .int .i64 (s 0 t))) := rW
          clear nextW TW rW bz cL
          go_upto_region 15 with fail
          go_region_held3 (fun w' => Mod (fun x => x = C ∨ x = bW) wp w') ((first | exact (Mod.refl _ _).drew | assumption | exact Mod.alloc (Mod.refl _ _).drew _ | exact Mod.mono m8 (fun k hk => Or.inl hk) | exact Mod.trans (Mod.mono m8 (fun k hk => Or.inl hk)) (Mod.setCell _ (Or.inr rfl) _))) (first
            | (go_at_call 93; refine (among_any Y _ C (k + 92) _ 3 3 _ _ (by omega) (by omega) (by exact ints_lit wp.drew [-1, 65535, 65536] 3 (by simp)) (by intro b hb; have hb' : b = wp.heap.size := hb; have := Cp.out.lt; omega) (by exact Cp.out.blw (Blw.alloc (Blw.refl _).drew _))).mono ?_; rintro e w8 ⟨x8, rfl, c8, m80⟩; have m8 : Mod (fun x => x = C) wp w8 := Mod.trans (Mod.alloc (Mod.refl _ _).drew _) m80; obtain ⟨t0, t1⟩ := HW.out w8 m8))
          all_goals have D := DP.out.word (v := x8) NW.out RW.out bWC hxW m8 c8 hC HY.out
          all_goals obtain ⟨p0, p1, p2⟩ := get3 D.box
          all_goals obtain ⟨⟨x0, x1, x2⟩, f0, f1, f2⟩ := res6 D.res
          all_goals have F : Hid _ := D.done hC HY.out
          all_goals clear D A0 A1 A2 AL NW HW RW Cp DP
          all_goals simp only [MD.full] at p0 p1 p2
          all_goals go_wp2
          all_goals exact bodyPost_ret (v := m.val (MD.full (fun i => if i = 0 then (fun t => if t = 0 then x8 else s 0 t) else s i) c d)) (by simp [results, Try.results74, go_sem, x0, x1, x2, MD.full]) rfl ⟨m, _, _, _, rfl, F.out.2.1, F.out.1.le (by omega), F.out.2.2⟩
        · have e1 : ((v : Int) == 1) = false := by simp; omega
          obtain ⟨p0, p1, p2⟩ := get3 DP.out.box
          obtain ⟨⟨x0, x1, x2⟩, f0, f1, f2⟩ := res6 DP.out.res
          have F : Hid _ := DP.out.done hC HY.out
          clear DP
          simp only [MD.full] at p0 p1 p2
          go_wp2
          exact bodyPost_ret (v := m.val (MD.full s c d)) (by simp [results, Try.results74, go_sem, x0, x1, x2, MD.full]) rfl ⟨m, _, _, _, rfl, F.out.2.1, F.out.1.le (by omega), F.out.2.2⟩
end Go.Proofs.Ytnbcjdoohmjghaa
/- What is drawn for the laws on stores. -/
namespace Go.Proofs.Ytnbcjdoohmjghaa
open Go.RowKit
set_option linter.unusedSimpArgs false
set_option linter.unusedVariables false
abbrev drawW (w : World) (ao : Option Addr) (n c : Nat) : World := (w.alloc (.cells #[.slice none 0 0, .slice none 0 0, .slice none 0 0] 26)).alloc (.cells #[.slice ao n c, .int .i64 0, .int .u64 0] 91)
theorem draw_start (w : World) (ao : Option Addr) (n c : Nat) (f : Nat → Int) (h : BytesAt (fun b => b < w.heap.size) w ao n f) :
    Blw w (drawW w ao n c) ∧ Cur (fun b => b < w.heap.size) (drawW w ao n c) (w.heap.size + 1) 0 ∧ Row (drawW w ao n c) w.heap.size 3 (fun _ => .slice none 0 0) ∧ (drawW w ao n c).heap.size = w.heap.size + 2 := by
  have hb : Blw w (drawW w ao n c) := ((Blw.refl _).alloc _).alloc _
  refine ⟨hb, ⟨ao, n, c, 0, f, 0, ?_, h.blw hb, Nat.le_refl _, fun b hb => by omega⟩, (row_box w 26).blw ((Blw.refl _).alloc _), by simp⟩
  have := box3 (w.alloc (.cells #[.slice none 0 0, .slice none 0 0, .slice none 0 0] 26)) (.slice ao n c) (.int .i64 0) (.int .u64 0) 91
  rw [World.size_alloc] at this
  exact this
/-- What is drawn stands behind the draw: R the result's box, C the cursor. -/
structure Ds (w W : World) (k : Nat) (m : MV) (s c : Nat → Nat → Int) (d : Nat → Bool) : Prop where
  cur : Cur (fun b => b < w.heap.size) W (w.heap.size + 1) k
  res : Row W w.heap.size 3 (fun _ => .slice none 0 0)
  own : MemOwn (fun b => w.heap.size + 2 ≤ b ∧ b < W.heap.size) W m (MD.full s c d)
  blw : Blw w W
theorem Ds.start {w w1 : World} {ao : Option Addr} {n c0 : Nat} {f : Nat → Int} {m : MV} {s c : Nat → Nat → Int} {d : Nat → Bool} {k : Nat} (h : BytesAt (fun b => b < w.heap.size) w ao n f) (own : MemOwn (fun b => (drawW w ao n c0).heap.size ≤ b ∧ b < w1.heap.size) w1 m (MD.full s c d)) (cur : Cur (fun b => b < w.heap.size) w1 (w.heap.size + 1) k) (hm : Mod (fun b => b = w.heap.size + 1) (drawW w ao n c0) w1) : Ds w w1 k m s c d := by
  obtain ⟨h1, _, h3, h4⟩ := draw_start w ao n c0 f h
  exact ⟨cur, h3.mod hm (by omega), own.mono (fun b hb => ⟨by have := hb.1; omega, hb.2⟩), Mod.blw h1 hm (fun i hi => by omega)⟩
theorem Ds.go {w W W' : World} {k k' : Nat} {m : MV} {s c : Nat → Nat → Int} {d : Nat → Bool} (D : Ds w W k m s c d) (hm : Mod (fun b => b = w.heap.size + 1) W W') (cur : Cur (fun b => b < w.heap.size) W' (w.heap.size + 1) k') : Ds w W' k' m s c d :=
  ⟨cur, D.res.mod hm (by omega), (D.own.mod hm (fun b hb => by have := hb.1; omega)).mono (fun b hb => ⟨hb.1, by have := hb.2; have := hm.size; omega⟩), Mod.blw D.blw hm (fun i hi => by omega)⟩
theorem Ds.more {w W W' : World} {k : Nat} {m : MV} {s c : Nat → Nat → Int} {d : Nat → Bool} (D : Ds w W k m s c d) (hb : Blw W W') : Ds w W' k m s c d :=
  D.go (hb.mod _) (D.cur.blw hb)
/-- It is handed back. -/
theorem Ds.done {w W : World} {k : Nat} {m : MV} {s c : Nat → Nat → Int} {d : Nat → Bool} (D : Ds w W k m s c d) :
    MemOwn (fun b => w.heap.size ≤ b ∧ b < (((W.setCell ⟨w.heap.size, 0, none⟩ (.slice m.a1 12 m.c1)).setCell ⟨w.heap.size, 1, none⟩ (.slice m.a2 12 m.c2)).setCell ⟨w.heap.size, 2, none⟩ (.slice m.a3 12 m.c3)).heap.size) (((W.setCell ⟨w.heap.size, 0, none⟩ (.slice m.a1 12 m.c1)).setCell ⟨w.heap.size, 1, none⟩ (.slice m.a2 12 m.c2)).setCell ⟨w.heap.size, 2, none⟩ (.slice m.a3 12 m.c3)) m (MD.full s c d) ∧
    Blw w (((W.setCell ⟨w.heap.size, 0, none⟩ (.slice m.a1 12 m.c1)).setCell ⟨w.heap.size, 1, none⟩ (.slice m.a2 12 m.c2)).setCell ⟨w.heap.size, 2, none⟩ (.slice m.a3 12 m.c3)) := by
  have hs := mod_set3 W w.heap.size (.slice m.a1 12 m.c1) (.slice m.a2 12 m.c2) (.slice m.a3 12 m.c3)
  have hsz := hs.size
  exact ⟨(D.own.mod hs (fun b hb => by have := hb.1; omega)).mono (fun b hb => ⟨by have := hb.1; omega, by have := hb.2; omega⟩), Mod.blw D.blw hs (fun i hi => by omega)⟩
set_option maxHeartbeats 1600000 in
theorem drawLoad_any (ao : Option Addr) (n cc : Nat) (f : Nat → Int) (w : World) (h : BytesAt (fun b => b < w.heap.size) w ao n f) :
    Calls Try.prog 40 #[.slice ao n cc] w fun e w' => ∃ m s c d x, e = .returned (.tuple #[m.val (MD.full s c d), .int .i64 x]) ∧ MemOwn (fun b => w.heap.size ≤ b ∧ b < w'.heap.size) w' m (MD.full s c d) ∧ Blw w w' := by
  obtain ⟨hb0, c0, rR, sz⟩ := draw_start w ao n cc f h
  have HH : Hid (BytesAt (fun b => b < w.heap.size) w ao n f) := h
  clear h
  go_enter Try.func40, Try.ntmps40
  go_wp2_with fail
  refine (memory_any _ (w.heap.size + 1) 0 _ (by omega) (fun b hb => by omega) c0).mono ?_
  rintro e w1 ⟨m, s, c, d, rfl, own, c1, m1⟩
  have D : Ds w w1 100 m s c d := Ds.start HH.out own c1 m1
  clear own c1 m1 hb0 c0 rR sz HH
  go_wp2_with fail
  refine (place_any _ (w.heap.size + 1) 100 _ (by omega) D.cur).mono ?_
  rintro e w2 ⟨x, rfl, c2, m2⟩
  replace D := D.go m2 c2
  clear c2 m2
  obtain ⟨⟨x0, x1, x2⟩, f0, f1, f2⟩ := res6 D.res
  have Z : Hid _ := D.done
  clear D
  simp only [MV.val, MD.full]
  go_wp2
  exact bodyPost_ret (v := .tuple #[m.val (MD.full s c d), .int .i64 x]) (by simp [results, Try.results40, go_sem, x0, x1, x2, MD.full]) rfl ⟨m, s, c, d, x, rfl, Z.out⟩
set_option maxHeartbeats 1600000 in
theorem drawLoadAll_any (ao : Option Addr) (n cc : Nat) (f : Nat → Int) (w : World) (h : BytesAt (fun b => b < w.heap.size) w ao n f) :
    Calls Try.prog 37 #[.slice ao n cc] w fun e w' => ∃ m s c d x y, e = .returned (.tuple #[m.val (MD.full s c d), .int .i64 x, .int .i64 y]) ∧ MemOwn (fun b => w.heap.size ≤ b ∧ b < w'.heap.size) w' m (MD.full s c d) ∧ Blw w w' := by
  obtain ⟨hb0, c0, rR, sz⟩ := draw_start w ao n cc f h
  have HH : Hid (BytesAt (fun b => b < w.heap.size) w ao n f) := h
  clear h
  go_enter Try.func37, Try.ntmps37
  go_wp2_with fail
  refine (memory_any _ (w.heap.size + 1) 0 _ (by omega) (fun b hb => by omega) c0).mono ?_
  rintro e w1 ⟨m, s, c, d, rfl, own, c1, m1⟩
  have D : Ds w w1 100 m s c d := Ds.start HH.out own c1 m1
  clear own c1 m1 hb0 c0 rR sz HH
  go_wp2_with fail
  refine (place_any _ (w.heap.size + 1) 100 _ (by omega) D.cur).mono ?_
  rintro e w2 ⟨x, rfl, c2, m2⟩
  replace D := D.go m2 c2
  clear c2 m2
  go_wp2_with fail
  refine (pick_any _ (w.heap.size + 1) 104 11 _ (by omega) (by omega) D.cur).mono ?_
  rintro e w3 ⟨y, rfl, hy, c3, m3⟩
  replace D := D.go m3 c3
  clear c3 m3
  obtain ⟨⟨x0, x1, x2⟩, f0, f1, f2⟩ := res6 D.res
  have Z : Hid _ := D.done
  clear D
  simp only [MV.val, MD.full]
  go_wp2
  exact bodyPost_ret (v := .tuple #[m.val (MD.full s c d), .int .i64 x, .int .i64 ((y : Int) - 1)]) (by simp [results, Try.results37, go_sem, x0, x1, x2, MD.full]) rfl ⟨m, s, c, d, x, _, rfl, Z.out⟩
set_option maxHeartbeats 1600000 in
theorem drawStore_any (ao : Option Addr) (n cc : Nat) (f : Nat → Int) (w : World) (h : BytesAt (fun b => b < w.heap.size) w ao n f) :
    Calls Try.prog 30 #[.slice ao n cc] w fun e w' => ∃ m s c d x y, e = .returned (.tuple #[m.val (MD.full s c d), .int .i64 x, .int .i64 y]) ∧ MemOwn (fun b => w.heap.size ≤ b ∧ b < w'.heap.size) w' m (MD.full s c d) ∧ Blw w w' := by
  obtain ⟨hb0, c0, rR, sz⟩ := draw_start w ao n cc f h
  have HH : Hid (BytesAt (fun b => b < w.heap.size) w ao n f) := h
  clear h
  go_enter Try.func30, Try.ntmps30
  go_wp2_with fail
  refine (memory_any _ (w.heap.size + 1) 0 _ (by omega) (fun b hb => by omega) c0).mono ?_
  rintro e w1 ⟨m, s, c, d, rfl, own, c1, m1⟩
  have D : Ds w w1 100 m s c d := Ds.start HH.out own c1 m1
  clear own c1 m1 hb0 c0 rR sz HH
  go_wp2_with fail
  refine (place_any _ (w.heap.size + 1) 100 _ (by omega) D.cur).mono ?_
  rintro e w2 ⟨x, rfl, c2, m2⟩
  replace D := D.go m2 c2
  clear c2 m2
  go_wp2_with fail
  have hlt := D.cur.lt
  have hA : Blw w2 (w2.alloc (.cells #[.int .i64 (-1), .int .i64 0, .int .i64 7, .int .i64 65535, .int .i64 65536] 3)) := (Blw.refl _).alloc _
  refine (among_any _ _ (w.heap.size + 1) 104 _ 5 5 _ _ (by omega) (by omega) (ints_lit w2 [-1, 0, 7, 65535, 65536] 3 (by simp)) (fun b hb => by omega) (D.cur.blw hA)).mono ?_
  rintro e w3 ⟨y, rfl, c3, m3⟩
  replace D := (D.more hA).go m3 c3
  clear c3 m3 hA hlt
  obtain ⟨⟨x0, x1, x2⟩, f0, f1, f2⟩ := res6 D.res
  have Z : Hid _ := D.done
  clear D
  simp only [MV.val, MD.full]
  go_wp2
  exact bodyPost_ret (v := .tuple #[m.val (MD.full s c d), .int .i64 x, .int .i64 y]) (by simp [results, Try.results30, go_sem, x0, x1, x2, MD.full]) rfl ⟨m, s, c, d, x, y, rfl, Z.out⟩
end Go.Proofs.Ytnbcjdoohmjghaa
/- A slot in a line: 'impl.slotIn'. -/
namespace Go.Proofs.Ytnbcjdoohmjghaa
open Go.RowKit
set_option linter.unusedSimpArgs false
set_option linter.unusedVariables false
/-- The words f are the record of a slot of line k. -/
def recI (f : Nat → Int) (k : Nat) : Prop := slotOK (f 0) (f 1) (f 2) ∧ f 0 % 2 = k ∧ sumOf (f 0) (f 1) (f 2) = f 3
theorem get5a {w : World} {B : Nat} {a b c d e : Value} (r : Row w B 5 (fun i => if i = 0 then a else if i = 1 then b else if i = 2 then c else if i = 3 then d else e)) (o : Obj) :
    (w.alloc o).cell? ⟨B, 0, none⟩ = some a ∧ (w.alloc o).cell? ⟨B, 1, none⟩ = some b ∧ (w.alloc o).cell? ⟨B, 2, none⟩ = some c ∧ (w.alloc o).cell? ⟨B, 3, none⟩ = some d ∧ (w.alloc o).cell? ⟨B, 4, none⟩ = some e :=
  (get5 (r.blw ((Blw.refl _).alloc o))).1
abbrev inW (w : World) (k : Int) (f : Nat → Int) : World := ((w.alloc (.cells (four f) 94)).alloc (.cells #[.int .i64 0, .int .i64 0, .int .i64 0] 56)).alloc (.cells #[.int .i64 k, .int .i64 (f 0), .int .i64 (f 1), .int .i64 (f 2), .int .i64 (f 3)] 120)
theorem in_boxes (w : World) (k : Int) (f : Nat → Int) : Blw w (inW w k f) ∧ Row (inW w k f) (w.heap.size + 1) 3 (fun i => if i = 0 then Value.int .i64 0 else if i = 1 then .int .i64 0 else .int .i64 0) ∧ Row (inW w k f) (w.heap.size + 1 + 1) 5 (fun i => if i = 0 then Value.int .i64 k else if i = 1 then .int .i64 (f 0) else if i = 2 then .int .i64 (f 1) else if i = 3 then .int .i64 (f 2) else .int .i64 (f 3)) := by
  refine ⟨(((Blw.refl _).alloc _).alloc _).alloc _, ?_, ?_⟩
  · have := (box3 (w.alloc (.cells (four f) 94)) (.int .i64 0) (.int .i64 0) (.int .i64 0) 56).blw ((Blw.refl _).alloc (.cells #[.int .i64 k, .int .i64 (f 0), .int .i64 (f 1), .int .i64 (f 2), .int .i64 (f 3)] 120))
    rw [World.size_alloc] at this
    exact this
  · have := box5 ((w.alloc (.cells (four f) 94)).alloc (.cells #[.int .i64 0, .int .i64 0, .int .i64 0] 56)) (.int .i64 k) (.int .i64 (f 0)) (.int .i64 (f 1)) (.int .i64 (f 2)) (.int .i64 (f 3)) 120
    rw [World.size_alloc, World.size_alloc] at this
    exact this
set_option maxHeartbeats 1600000 in
theorem slotIn_ok (k : Nat) (f : Nat → Int) (w : World) (hk : k < 2) (h : slotOK (f 0) (f 1) (f 2)) : Calls Try.prog 110 #[.int .i64 k, .agg (four f)] w fun r w' => ((recI f k ∧ r = .returned (.tuple #[slotV (f 0) (f 1) (f 2), .bool true])) ∨ (¬ recI f k ∧ r = .returned (.tuple #[slotV 0 0 0, .bool false]))) ∧ Blw w w' := by
  have H : Hid (slotOK (f 0) (f 1) (f 2)) := h
  clear h
  obtain ⟨hb0, rR, rX⟩ := in_boxes w k f
  go_enter Try.func110, Try.ntmps110
  go_wp2_with fail
  refine (recordOf_yes _ _ _ _ H.out).mono ?_
  rintro r w1 ⟨rfl, hb1⟩
  replace rX := rX.blw hb1
  replace rR := rR.blw hb1
  replace hb1 := hb0.trans hb1
  have pX := get5a rX
  have xX := fun o => get3 (rR.blw ((Blw.refl w1).alloc o))
  have f0 := fun o => (rR.blw ((Blw.refl w1).alloc o)).frozen 0
  have f1 := fun o => (rR.blw ((Blw.refl w1).alloc o)).frozen 1
  have f2 := fun o => (rR.blw ((Blw.refl w1).alloc o)).frozen 2
  clear hb0 rR rX
  by_cases h1 : (k : Int) = f 0 % 2
  · by_cases h2 : f 3 = sumOf (f 0) (f 1) (f 2)
    · go_wp2
      exact bodyPost_ret (v := .tuple #[slotV (f 0) (f 1) (f 2), .bool true]) (by simp [results, Try.results110, go_sem, xX]) rfl ⟨Or.inl ⟨⟨H.out, h1.symm, h2.symm⟩, rfl⟩, (((hb1.alloc _).setCell (Nat.le_succ _) _).setCell (Nat.le_succ _) _).setCell (Nat.le_succ _) _⟩
    · go_wp2
      exact bodyPost_ret (v := .tuple #[slotV 0 0 0, .bool false]) (by simp [results, Try.results110, go_sem, xX]) rfl ⟨Or.inr ⟨fun g => h2 g.2.2.symm, rfl⟩, (((hb1.alloc _).setCell (Nat.le_succ _) _).setCell (Nat.le_succ _) _).setCell (Nat.le_succ _) _⟩
  · go_wp2
    exact bodyPost_ret (v := .tuple #[slotV 0 0 0, .bool false]) (by simp [results, Try.results110, go_sem, xX]) rfl ⟨Or.inr ⟨fun g => h1 g.2.1.symm, rfl⟩, (((hb1.alloc _).setCell (Nat.le_succ _) _).setCell (Nat.le_succ _) _).setCell (Nat.le_succ _) _⟩
set_option maxHeartbeats 1600000 in
theorem slotIn_no (k : Nat) (f : Nat → Int) (w : World) (h : ¬ slotOK (f 0) (f 1) (f 2)) : Calls Try.prog 110 #[.int .i64 k, .agg (four f)] w fun r w' => r = .returned (.tuple #[slotV 0 0 0, .bool false]) ∧ Blw w w' := by
  have H : Hid (¬ slotOK (f 0) (f 1) (f 2)) := h
  clear h
  obtain ⟨hb0, rR, rX⟩ := in_boxes w k f
  go_enter Try.func110, Try.ntmps110
  go_wp2_with fail
  refine (recordOf_no _ _ _ _ H.out).mono ?_
  rintro r w1 ⟨rfl, hb1⟩
  replace rR := rR.blw hb1
  replace hb1 := hb0.trans hb1
  have xX := fun o => get3 (rR.blw ((Blw.refl w1).alloc o))
  have f0 := fun o => (rR.blw ((Blw.refl w1).alloc o)).frozen 0
  have f1 := fun o => (rR.blw ((Blw.refl w1).alloc o)).frozen 1
  have f2 := fun o => (rR.blw ((Blw.refl w1).alloc o)).frozen 2
  clear hb0 rR rX
  go_wp2
  exact bodyPost_ret (v := .tuple #[slotV 0 0 0, .bool false]) (by simp [results, Try.results110, go_sem, xX]) rfl ⟨rfl, (((hb1.alloc _).setCell (Nat.le_succ _) _).setCell (Nat.le_succ _) _).setCell (Nat.le_succ _) _⟩
theorem slotIn_any (k : Nat) (f : Nat → Int) (w : World) (hk : k < 2) : Calls Try.prog 110 #[.int .i64 k, .agg (four f)] w fun r w' => ((recI f k ∧ r = .returned (.tuple #[slotV (f 0) (f 1) (f 2), .bool true])) ∨ (¬ recI f k ∧ r = .returned (.tuple #[slotV 0 0 0, .bool false]))) ∧ Blw w w' := by
  by_cases h : slotOK (f 0) (f 1) (f 2)
  · exact slotIn_ok k f w hk h
  · exact (slotIn_no k f w h).mono fun r w' hh => ⟨Or.inr ⟨fun g => h g.1, hh.1⟩, hh.2⟩
end Go.Proofs.Ytnbcjdoohmjghaa
/- Lists of slots: built by append, read, owned. -/
namespace Go.Proofs.Ytnbcjdoohmjghaa
open Go.RowKit
set_option linter.unusedSimpArgs false
abbrev T3 := Int × Int × Int
abbrev slotCells (l : List T3) : List Value := l.flatMap (fun t => [.int .i64 t.1, .int .i64 t.2.1, .int .i64 t.2.2])
def sc (f : Nat → T3) (i : Nat) : Value := .int .i64 (if i % 3 = 0 then (f (i / 3)).1 else if i % 3 = 1 then (f (i / 3)).2.1 else (f (i / 3)).2.2)
def lf (l : List T3) : Nat → T3 := fun i => l.getD i (0, 0, 0)
theorem slotCells_get (l : List T3) : ∀ i, i < 3 * l.length → (slotCells l)[i]? = some (sc (lf l) i) := by
  induction l with
  | nil => intro i hi; simp at hi
  | cons t l ih =>
    intro i hi
    match i, hi with
    | 0, _ => rfl
    | 1, _ => rfl
    | 2, _ => rfl
    | i + 3, hi =>
      have h1 : (slotCells (t :: l))[i + 3]? = (slotCells l)[i]? := by simp [slotCells]
      have h2 : (i + 3) / 3 = i / 3 + 1 := by omega
      have h3 : (i + 3) % 3 = i % 3 := by omega
      rw [h1, ih i (by simp at hi; omega)]
      simp [sc, lf, h2, h3]
theorem slotCells_len (l : List T3) : (slotCells l).length = l.length * 3 := by
  induction l with
  | nil => rfl
  | cons t l ih => simp only [slotCells, List.flatMap_cons, List.length_append, List.length_cons, List.length_nil] at *; omega
theorem slotCells_snoc (l : List T3) (t : T3) : slotCells (l ++ [t]) = slotCells l ++ [.int .i64 t.1, .int .i64 t.2.1, .int .i64 t.2.2] := by
  simp [slotCells]
theorem ownsRow_modN {w w' : World} {Z : Nat → Prop} {v : Value} {n s : Nat} {xs : List Value} {e : TypeId} (h : w.ownsRow 0 e s v n xs) (hm : Mod Z w w') (hz : ∀ g, v.ownBlock = some g → ¬ Z g) : w'.ownsRow 0 e s v n xs := by
  obtain ⟨h1, h2⟩ := h
  refine ⟨h1, ?_⟩
  rcases h2 with h2 | ⟨g, cap, cur, rfl, hg, hh, r⟩
  · exact Or.inl h2
  · refine Or.inr ⟨g, cap, cur, rfl, hg, ?_, r⟩
    rw [hm.block g (Array.getElem?_eq_some_iff.1 hh).1 (hz g rfl)]
    exact hh
theorem owned_rowN {w : World} {g n s cap : Nat} {e : TypeId} {xs : List Value} {f : Nat → Value} (h : w.ownsRow 0 e s (.slice (some ⟨g, 0, none⟩) n cap) n xs) (hf : ∀ i, i < n * s → xs[i]? = some (f i)) (hn : 0 < n) : Row w g (n * s) f := by
  obtain ⟨h1, h2⟩ := h
  rcases h2 with ⟨_, h2⟩ | ⟨g', cap', cur, hv, hg, hh, hcap, _, hsz, ht⟩
  · omega
  · simp only [Value.slice.injEq, Option.some.injEq, Addr.mk.injEq, and_true, true_and] at hv
    obtain ⟨rfl, rfl⟩ := hv
    have hle : n * s ≤ cap * s := Nat.mul_le_mul_right _ hcap
    refine ⟨cur, e, hh, by omega, fun i hi => ?_⟩
    have : (cur.toList.take (n * s))[i]? = cur[i]? := by rw [List.getElem?_take, if_pos (by omega)]; simp
    rw [← this, ht]
    exact hf i hi
/-- A list of slots that is built, all of it newer than w0. -/
structure PutS (w0 wr : World) (v : Value) (l : List T3) : Prop where
  own : wr.ownsRow 0 56 3 v l.length (slotCells l)
  blk : ∀ g, v.ownBlock = some g → w0.heap.size ≤ g ∧ g < wr.heap.size
  blw : Blw w0 wr
theorem PutS.nil {w0 wr : World} (hb : Blw w0 wr) : PutS w0 wr (.slice none 0 0) [] :=
  ⟨⟨by simp, Or.inl ⟨rfl, rfl⟩⟩, fun g hg => by simp [Value.ownBlock] at hg, hb⟩
theorem PutS.more {w0 wr W : World} {v : Value} {l : List T3} (P : PutS w0 wr v l) (hb : Blw wr W) : PutS w0 W v l :=
  ⟨ownsRow_modN P.own (hb.mod (fun _ => False)) (fun _ _ => id), fun g hg => ⟨(P.blk g hg).1, Nat.lt_of_lt_of_le (P.blk g hg).2 hb.size⟩, P.blw.trans hb⟩
theorem PutS.next {w0 W w' : World} {v : Value} {l : List T3} {g cap : Nat} {t : T3} (P : PutS w0 W v l)
    (own' : w'.ownsRow 0 56 3 (.slice (some ⟨g, 0, none⟩) (l.length + 1) cap) (l.length + 1) (slotCells l ++ [.int .i64 t.1, .int .i64 t.2.1, .int .i64 t.2.2])) (gr : W.grownBy w' v.ownBlock) (hg : v.ownBlock = some g ∨ g = W.heap.size) (hgl : g < w'.heap.size) :
    PutS w0 w' (.slice (some ⟨g, 0, none⟩) (l.length + 1) cap) (l ++ [t]) := by
  have hm : Mod (fun x => v.ownBlock = some x) W w' := grown_mod gr
  refine ⟨?_, fun x hx => ?_, Mod.blw P.blw hm (fun i hi => (P.blk i hi).1)⟩
  · rw [slotCells_snoc, List.length_append]
    exact own'
  · simp only [Value.ownBlock, Option.some.injEq] at hx
    subst hx
    rcases hg with hg | hg
    · exact ⟨(P.blk _ hg).1, hgl⟩
    · exact ⟨by have := P.blw.size; omega, hgl⟩
/-- The slots f, n of them, at 'ao': owned by X. -/
def SlotsOwn (X : Nat → Prop) (w : World) (ao : Option Addr) (n : Nat) (f : Nat → T3) : Prop :=
  n ≤ 2 ∧ (0 < n → ∃ b, X b ∧ ao = some ⟨b, 0, none⟩ ∧ Row w b (n * 3) (sc f))
theorem SlotsOwn.mono {X Y : Nat → Prop} {w : World} {ao : Option Addr} {n : Nat} {f : Nat → T3} (h : SlotsOwn X w ao n f) (hxy : ∀ b, X b → Y b) : SlotsOwn Y w ao n f :=
  ⟨h.1, fun hn => let ⟨b, hx, e, hr⟩ := h.2 hn; ⟨b, hxy _ hx, e, hr⟩⟩
theorem SlotsOwn.mod {X Z : Nat → Prop} {w w' : World} {ao : Option Addr} {n : Nat} {f : Nat → T3} (h : SlotsOwn X w ao n f) (hb : Mod Z w w') (hxz : ∀ b, X b → ¬ Z b) : SlotsOwn X w' ao n f :=
  ⟨h.1, fun hn => let ⟨b, hx, e, hr⟩ := h.2 hn; ⟨b, hx, e, hr.mod hb (hxz _ hx)⟩⟩
theorem SlotsOwn.blw {X : Nat → Prop} {w w' : World} {ao : Option Addr} {n : Nat} {f : Nat → T3} (h : SlotsOwn X w ao n f) (hb : Blw w w') : SlotsOwn X w' ao n f := h.mod (hb.mod (fun _ => False)) (fun _ _ => id)
theorem PutS.owned {w0 wr : World} {v : Value} {l : List T3} (P : PutS w0 wr v l) (hl : l.length ≤ 2) : ∃ ao cap, v = .slice ao l.length cap ∧ SlotsOwn (fun b => w0.heap.size ≤ b ∧ b < wr.heap.size) wr ao l.length (lf l) := by
  have own := P.own
  have blk := P.blk
  rcases P.own.2 with ⟨e1, e2⟩ | ⟨g, cap, cur, rfl, r⟩
  · subst e1
    exact ⟨none, 0, by rw [e2], hl, fun h => absurd h (by omega)⟩
  · exact ⟨_, cap, rfl, hl, fun h => ⟨g, blk g rfl, rfl, owned_rowN own (fun i hi => slotCells_get l i (by omega)) h⟩⟩
open Classical in
/-- The slots that stand in the first k lines. -/
noncomputable def rdL (c : Nat → Nat → Int) : Nat → List T3
  | 0 => []
  | k + 1 => rdL c k ++ (if recI (c k) k then [(c k 0, c k 1, c k 2)] else [])
theorem rdL_yes {c : Nat → Nat → Int} {k : Nat} (h : recI (c k) k) : rdL c (k + 1) = rdL c k ++ [(c k 0, c k 1, c k 2)] := by
  simp [rdL, h]
theorem rdL_no {c : Nat → Nat → Int} {k : Nat} (h : ¬ recI (c k) k) : rdL c (k + 1) = rdL c k := by
  simp [rdL, h]
theorem rdL_len (c : Nat → Nat → Int) : ∀ k, (rdL c k).length ≤ k := by
  intro k
  induction k with
  | zero => simp [rdL]
  | succ k ih =>
    by_cases h : recI (c k) k
    · rw [rdL_yes h, List.length_append]; simp only [List.length_cons, List.length_nil]; omega
    · rw [rdL_no h]; omega
theorem tinfo56 : (Try.prog.info? 56).map (fun i => (i.zero, i.size, i.bytes)) = some (some (.agg #[.int .i64 0, .int .i64 0, .int .i64 0]), 3, 24) := by kernel_rfl
/-- What a function of slots and a bool answers, in new memory. -/
abbrev GivesS (out : Nat → (Nat → T3) → Bool → Prop) (w : World) (e : Ending) (w' : World) : Prop :=
  ∃ (ao : Option Addr) (n c : Nat) (f : Nat → T3) (b : Bool), e = .returned (.tuple #[.slice ao n c, .bool b]) ∧ out n f b ∧ SlotsOwn (fun b => w.heap.size ≤ b ∧ b < w'.heap.size) w' ao n f ∧ Blw w w'
/-- What ReadSlots answers. -/
def rsOut (M : MD) (n : Nat) (f : Nat → T3) (b : Bool) : Prop := (M.Good ∧ n = (rdL M.v2 2).length ∧ f = lf (rdL M.v2 2) ∧ b = true) ∨ (¬ M.Good ∧ n = 0 ∧ f = (fun _ => (0, 0, 0)) ∧ b = false)
theorem rsOut_same {M : MD} {n n' : Nat} {f f' : Nat → T3} {b b' : Bool} (h : rsOut M n f b) (k : rsOut M n' f' b') : n = n' ∧ f = f' ∧ b = b' := by
  rcases h with ⟨g, rfl, rfl, rfl⟩ | ⟨g, rfl, rfl, rfl⟩ <;> rcases k with ⟨g', rfl, rfl, rfl⟩ | ⟨g', rfl, rfl, rfl⟩
  · exact ⟨rfl, rfl, rfl⟩
  · exact absurd g g'
  · exact absurd g' g
  · exact ⟨rfl, rfl, rfl⟩
theorem zero_givesS {M : MD} {w w1 : World} (ho : ¬ M.Good) (hb : Blw w w1) : GivesS (rsOut M) w (.returned (.tuple #[.slice none 0 0, .bool false])) w1 :=
  ⟨none, 0, 0, _, false, rfl, Or.inr ⟨ho, rfl, rfl, rfl⟩, ⟨by omega, fun h => absurd h (Nat.lt_irrefl 0)⟩, hb⟩
end Go.Proofs.Ytnbcjdoohmjghaa
/- Slots that are drawn, and a memory with slots. -/
namespace Go.Proofs.Ytnbcjdoohmjghaa
open Go.RowKit
set_option linter.unusedSimpArgs false
set_option linter.unusedVariables false
abbrev sbx (w : World) (z : Nat) (e a b : Int) : Prop := Row w z 3 (fun i => if i = 0 then Value.int .i64 e else if i = 1 then .int .i64 a else .int .i64 b)
theorem sbx_set {w : World} {z : Nat} {f : Nat → Value} (r : Row w z 3 f) (e a b : Int) : sbx (((w.setCell ⟨z, 0, none⟩ (.int .i64 e)).setCell ⟨z, 1, none⟩ (.int .i64 a)).setCell ⟨z, 2, none⟩ (.int .i64 b)) z e a b := box_put r _ _ _
theorem fz3 {w : World} {z : Nat} {f : Nat → Value} (r : Row w z 3 f) : w.frozen? ⟨z, 0, none⟩ = false ∧ w.frozen? ⟨z, 1, none⟩ = false ∧ w.frozen? ⟨z, 2, none⟩ = false := ⟨r.frozen 0, r.frozen 1, r.frozen 2⟩
/-- A slot that is drawn: its box at z, the result's at R. -/
structure Dl (Y : Nat → Prop) (w wr : World) (C k z R : Nat) (e a b : Int) : Prop where
  cur : Cur Y wr C k
  mod : Mod (fun b => b = C) w wr
  box : sbx wr z e a b
  res : sbx wr R 0 0 0
theorem Dl.go {Y : Nat → Prop} {w wr W : World} {C k k' z R : Nat} {e a b : Int} (D : Dl Y w wr C k z R e a b) (hz : z ≠ C) (hR : R ≠ C) (hm : Mod (fun b => b = C) wr W) (cur : Cur Y W C k') : Dl Y w W C k' z R e a b :=
  ⟨cur, D.mod.trans hm, D.box.mod hm hz, D.res.mod hm hR⟩
theorem Dl.set {Y : Nat → Prop} {w wr : World} {C k z R : Nat} {e a b : Int} (D : Dl Y w wr C k z R e a b) (hz : w.heap.size ≤ z) (hne : z ≠ R) (hC : C < w.heap.size) (hY : ∀ b, Y b → b < w.heap.size) (e' a' b' : Int) : Dl Y w (((wr.setCell ⟨z, 0, none⟩ (.int .i64 e')).setCell ⟨z, 1, none⟩ (.int .i64 a')).setCell ⟨z, 2, none⟩ (.int .i64 b')) C k z R e' a' b' :=
  have hs := mod_set3 wr z (.int .i64 e') (.int .i64 a') (.int .i64 b')
  ⟨D.cur.mod hs (by omega) (fun b hb => by have := hY b hb; omega), setz D.mod hz, sbx_set D.box e' a' b', D.res.mod hs (by omega)⟩
theorem Dl.fin {Y : Nat → Prop} {w wr : World} {C k k' z : Nat} {e a b : Int} (D : Dl Y w wr C k z w.heap.size e a b) (hk : k ≤ k') (hC : C < w.heap.size) (hY : ∀ b, Y b → b < w.heap.size) (e' a' b' : Int) :
    Cur Y (((wr.setCell ⟨w.heap.size, 0, none⟩ (.int .i64 e')).setCell ⟨w.heap.size, 1, none⟩ (.int .i64 a')).setCell ⟨w.heap.size, 2, none⟩ (.int .i64 b')) C k' ∧ Mod (fun b => b = C) w (((wr.setCell ⟨w.heap.size, 0, none⟩ (.int .i64 e')).setCell ⟨w.heap.size, 1, none⟩ (.int .i64 a')).setCell ⟨w.heap.size, 2, none⟩ (.int .i64 b')) :=
  ⟨(D.cur.le hk).mod (mod_set3 wr w.heap.size (.int .i64 e') (.int .i64 a') (.int .i64 b')) (by omega) (fun b hb => by have := hY b hb; omega), setz D.mod (Nat.le_refl _)⟩
set_option maxRecDepth 10000 in
set_option maxHeartbeats 3200000 in
theorem slot_any (Y : Nat → Prop) (C k : Nat) (w : World) (hk : k ≤ 800000) (hY : ∀ b, Y b → b < w.heap.size) (h : Cur Y w C k) :
    Calls Try.prog 107 #[.pointer (some ⟨C, 0, none⟩)] w fun r w' => ∃ e a b, r = .returned (slotV e a b) ∧ Cur Y w' C (k + 12) ∧ Mod (fun b => b = C) w w' := by
  have hC := h.lt
  have HY : Hid (∀ b, Y b → b < w.heap.size) := hY
  clear hY
  go_enter Try.func107, Try.ntmps107
  go_wp2_with fail
  have hA : Blw w (w.alloc (.cells #[.int .i64 0, .int .i64 0, .int .i64 0] 56)) := (Blw.refl _).alloc _
  have rR := box3 w (.int .i64 0) (.int .i64 0) (.int .i64 0) 56
  refine (pick_any Y C k 6 _ (by omega) (by omega) (h.blw hA)).mono ?_
  rintro r w1 ⟨x1, rfl, hx1, c1, m1⟩
  go_wp2_with fail
  refine (pick_any Y C (k + 2) 200 _ (by omega) (by omega) c1).mono ?_
  rintro r w2 ⟨x2, rfl, hx2, c2, m2⟩
  go_wp2_with fail
  refine (pick_any Y C (k + 4) 9 _ (by omega) (by omega) c2).mono ?_
  rintro r w3 ⟨x3, rfl, hx3, c3, m3⟩
  have hA3 : Blw w3 (w3.alloc (.cells #[.int .i64 (1 + (x1 : Int)), .int .i64 ((x2 : Int) * 300), .int .i64 x3] 56)) := (Blw.refl _).alloc _
  have s1 := m1.size
  have s2 := m2.size
  have s3 := m3.size
  have s0 : (w.alloc (.cells #[.int .i64 0, .int .i64 0, .int .i64 0] 56)).heap.size = w.heap.size + 1 := by simp
  have D : Dl Y w (w3.alloc (.cells #[.int .i64 (1 + (x1 : Int)), .int .i64 ((x2 : Int) * 300), .int .i64 x3] 56)) C (k + 6) w3.heap.size w.heap.size (1 + (x1 : Int)) ((x2 : Int) * 300) x3 :=
    ⟨c3.blw hA3, (((((hA.mod _).trans m1).trans m2).trans m3).setBlw hA3), box3 w3 _ _ _ 56, ((((rR.mod m1 (by omega)).mod m2 (by omega)).mod m3 (by omega)).blw hA3)⟩
  have zz : w.heap.size < w3.heap.size := by omega
  clear c1 c2 c3 m1 m2 m3 hA hA3 rR h s1 s2 s3 s0
  go_wp2_with fail
  generalize w3.heap.size = z at *
  refine (one_any Y C (k + 6) 20 _ (by omega) (by omega) D.cur).mono ?_
  rintro r w4 ⟨b4, rfl, c4, m4⟩
  replace D := D.go (by omega) (by omega) m4 c4
  clear c4 m4
  cases b4
  · obtain ⟨p0, p1, p2⟩ := get3 D.box
    obtain ⟨x0, x1', x2'⟩ := get3 D.res
    obtain ⟨f0, f1, f2⟩ := fz3 D.res
    have F : Hid _ := D.fin (k' := k + 12) (by omega) hC HY.out (1 + (x1 : Int)) ((x2 : Int) * 300) x3
    clear D
    go_wp2
    exact bodyPost_ret (v := slotV (1 + (x1 : Int)) ((x2 : Int) * 300) x3) (by simp [results, Try.results107, go_sem, x0, x1', x2']) rfl ⟨_, _, _, rfl, F.out⟩
  · go_wp2_with fail
    have hlt := D.cur.lt
    have hA : Blw w4 (w4.alloc (.cells #[.int .i64 0, .int .i64 1000, .int .i64 1001] 3)) := (Blw.refl _).alloc _
    replace D := D.go (by omega) (by omega) (hA.mod _) (D.cur.blw hA)
    refine (among_any Y _ C (k + 8) _ 3 3 _ _ (by omega) (by omega) (ints_lit w4 [0, 1000, 1001] 3 (by simp)) (fun b hb => by omega) D.cur).mono ?_
    rintro r w5 ⟨y5, rfl, c5, m5⟩
    replace D := D.go (by omega) (by omega) m5 c5
    clear c5 m5 hA
    go_wp2_with fail
    have hlt5 := D.cur.lt
    have hA : Blw w5 (w5.alloc (.cells #[.int .i64 (-1), .int .i64 65535, .int .i64 65536] 3)) := (Blw.refl _).alloc _
    replace D := D.go (by omega) (by omega) (hA.mod _) (D.cur.blw hA)
    refine (among_any Y _ C (k + 10) _ 3 3 _ _ (by omega) (by omega) (ints_lit w5 [-1, 65535, 65536] 3 (by simp)) (fun b hb => by omega) D.cur).mono ?_
    rintro r w6 ⟨y6, rfl, c6, m6⟩
    replace D := D.go (by omega) (by omega) m6 c6
    clear c6 m6 hA
    obtain ⟨p0, p1, p2⟩ := get3 D.box
    obtain ⟨g0, g1, g2⟩ := fz3 D.box
    have D2 := D.set (by omega) (by omega) hC HY.out y5 y6 0
    obtain ⟨x0, x1', x2'⟩ := get3 D2.res
    obtain ⟨f0, f1, f2⟩ := fz3 D2.res
    obtain ⟨q0, q1, q2⟩ := get3 D2.box
    have F : Hid _ := D2.fin (k' := k + 12) (by omega) hC HY.out y5 y6 0
    clear D D2
    go_wp2
    exact bodyPost_ret (v := slotV y5 y6 0) (by simp [results, Try.results107, go_sem, x0, x1', x2']) rfl ⟨_, _, _, rfl, F.out⟩
end Go.Proofs.Ytnbcjdoohmjghaa
/- A memory with slots that is drawn. -/
namespace Go.Proofs.Ytnbcjdoohmjghaa
open Go.RowKit
set_option linter.unusedSimpArgs false
set_option linter.unusedVariables false
theorem csOut_full {M M' : MD} {e a b : Int} (h : csOut M e a b M' true) : ∃ s c d, M' = MD.full s c d := by
  obtain ⟨N1, o1, h1, h2⟩ := h
  rcases h2 with ⟨_, h2⟩ | ⟨_, _, h2⟩
  · rcases h2 with ⟨_, _, _, _, rfl, _⟩ | ⟨_, _, g⟩
    · exact ⟨_, _, _, rfl⟩
    · cases g
  · cases h2
theorem wsOut_full {M M' : MD} {e a b : Int} (h : wsOut M e a b M' true) : ∃ s c d, M' = MD.full s c d := by
  rcases h with ⟨_, h⟩ | ⟨_, _, g⟩
  · rcases h with ⟨_, _, _, rfl, _⟩ | ⟨_, _, g⟩
    · exact ⟨_, _, _, rfl⟩
    · cases g
  · cases g
set_option maxRecDepth 10000 in
set_option maxHeartbeats 6400000 in
theorem slotMemory_any (Y : Nat → Prop) (C k : Nat) (w : World) (hk : k ≤ 700000) (hY : ∀ b, Y b → b < w.heap.size) (h : Cur Y w C k) :
    Calls Try.prog 111 #[.pointer (some ⟨C, 0, none⟩)] w fun e w' => ∃ m s c d, e = .returned (m.val (MD.full s c d)) ∧ MemOwn (fun b => w.heap.size ≤ b ∧ b < w'.heap.size) w' m (MD.full s c d) ∧ Cur Y w' C (k + 130) ∧ Mod (fun b => b = C) w w' := by
  have hC := h.lt
  have HY : Hid (∀ b, Y b → b < w.heap.size) := hY
  clear hY
  go_enter Try.func111, Try.ntmps111
  go_wp2_with fail
  have hb0 : Blw w (w.alloc (.cells #[.slice none 0 0, .slice none 0 0, .slice none 0 0] 26)) := (Blw.refl _).alloc _
  have rR := row_box w 26
  have s0 : (w.alloc (.cells #[.slice none 0 0, .slice none 0 0, .slice none 0 0] 26)).heap.size = w.heap.size + 1 := by simp
  refine (memory_any Y C k _ (by omega) (fun b hb => by have := HY.out b hb; omega) (h.blw hb0)).mono ?_
  rintro e w1 ⟨m, s, c, d, rfl, own, c1, m1⟩
  have hA : Blw w1 (w1.alloc (.cells #[.slice m.a1 (MD.full s c d).n1 m.c1, .slice m.a2 (MD.full s c d).n2 m.c2, .slice m.a3 (MD.full s c d).n3 m.c3] 26)) := (Blw.refl _).alloc _
  have s1 := m1.size
  have hz1 : (w1.alloc (.cells #[.slice m.a1 (MD.full s c d).n1 m.c1, .slice m.a2 (MD.full s c d).n2 m.c2, .slice m.a3 (MD.full s c d).n3 m.c3] 26)).heap.size = w1.heap.size + 1 := by simp
  have D : Dm Y w (w1.alloc (.cells #[.slice m.a1 (MD.full s c d).n1 m.c1, .slice m.a2 (MD.full s c d).n2 m.c2, .slice m.a3 (MD.full s c d).n3 m.c3] 26)) C (k + 100) w1.heap.size w.heap.size m s c d :=
    ⟨c1.blw hA, ((hb0.mod _).trans m1).setBlw hA, box3 w1 _ _ _ 26, (own.blw hA).mono (fun b hb => ⟨by have := hb.1; omega, by have := hb.2; omega, by have := hb.2; omega, by have := hb.1; omega⟩), ((rR.mod m1 (by omega)).blw hA), by omega, by omega, by omega⟩
  have zz : w.heap.size < w1.heap.size := by omega
  simp only [MD.full] at D
  clear own c1 m1 hA hb0 rR h s0 s1 hz1
  have DD : Hid (Dm Y w _ C (k + 100) w1.heap.size w.heap.size m s c d) := D
  clear D
  simp only [MV.val, MD.full]
  go_wp2_with fail
  generalize w1.heap.size = z at *
  refine (slot_any Y C (k + 100) _ (by omega) (fun b hb => Nat.lt_of_lt_of_le (HY.out b hb) DD.out.mod.size) DD.out.cur).mono ?_
  rintro r w2 ⟨e4, a4, b4, rfl, c2, m2⟩
  have hA : Blw w2 (w2.alloc (.cells #[.int .i64 e4, .int .i64 a4, .int .i64 b4] 56)) := (Blw.refl _).alloc _
  have r4 := box3 w2 (.int .i64 e4) (.int .i64 a4) (.int .i64 b4) 56
  have D2 : Hid (Dm Y w _ C (k + 112) z w.heap.size m s c d) := DD.out.stay (m2.setBlw hA) (c2.blw hA) hC
  have H4 : Hid (sbx _ w2.heap.size e4 a4 b4) := r4
  have hz4 : w.heap.size < w2.heap.size := by have := DD.out.mod.size; have := m2.size; have := DD.out.box.lt; omega
  clear DD c2 m2 hA r4
  obtain ⟨p0, p1, p2⟩ := get3 D2.out.box
  obtain ⟨q0, q1, q2⟩ := get3 H4.out
  simp only [MD.full] at p0 p1 p2
  go_wp2_with fail
  clear p0 p1 p2 q0 q1 q2
  obtain ⟨w3, hw3⟩ : ∃ w3, w2.alloc (.cells #[.int .i64 e4, .int .i64 a4, .int .i64 b4] 56) = w3 := ⟨_, rfl⟩
  rw [hw3] at D2 H4 ⊢
  clear hw3
  generalize w2.heap.size = z4 at *
  refine (specCommit_any m (MD.full s c d) _ _ e4 a4 b4 D2.out.own.at).mono ?_
  rintro r w5 ⟨m5, M5, ok, rfl, hout, own5, hb5⟩
  have E5 : Hid (Drawn Y w3 _ C (k + 112) w5.heap.size m5 M5) := Drawn.late (D2.out.cur.blw hb5) (hb5.mod _) own5 (fun b hb => hb)
  have HO : Hid (csOut (MD.full s c d) e4 a4 b4 M5 ok) := hout
  clear hout own5 hb5
  go_upto_if 21 with fail
  obtain ⟨w6, hw6⟩ : ∃ w6, w5.alloc (.cells #[.slice m5.a1 M5.n1 m5.c1, .slice m5.a2 M5.n2 m5.c2, .slice m5.a3 M5.n3 m5.c3] 26) = w6 := ⟨_, rfl⟩
  rw [hw6] at E5 ⊢
  clear hw6
  go_cut [] from 11 to 22 (fun wx => ∃ m s c d, Dm Y w wx C (k + 112) z w.heap.size m s c d ∧ sbx wx z4 e4 a4 b4)
  case first =>
    have hzz : z4 ≠ z := fun e => by
      have p := (get3 H4.out).1
      have q := (get3 D2.out.box).1
      rw [e] at p
      rw [p] at q
      cases q
    cases ok
    · go_wp2_with fail
      go_meet
      exact ⟨m, s, c, d, D2.out.stay E5.out.mod E5.out.cur hC, H4.out.mod E5.out.mod (by omega)⟩
    · obtain ⟨s5, c5, d5, rfl⟩ := csOut_full HO.out
      have rz := D2.out.box.mod E5.out.mod (by have := D2.out.oz; omega)
      obtain ⟨p0, p1, p2⟩ := get3 E5.out.box
      obtain ⟨q0, q1, q2⟩ := get3 rz
      have f0 := rz.frozen 0
      have f1 := rz.frozen 1
      have f2 := rz.frozen 2
      clear rz
      simp only [MD.full] at p0 p1 p2 q0 q1 q2
      go_wp2_with fail
      go_meet
      exact ⟨m5, s5, c5, d5, D2.out.take E5.out hC HY.out, (H4.out.mod E5.out.mod (by omega)).mod (mod_set3 _ z _ _ _) (by omega)⟩
  case rest =>
    obtain ⟨m', s', c', d', D, r4⟩ := hcut
    clear D2 H4 E5 HO m s c d
    have DD : Hid (Dm Y w wc C (k + 112) z w.heap.size m' s' c' d') := D
    have H4 : Hid (sbx wc z4 e4 a4 b4) := r4
    have C0 : Hid (Cur Y wc C (k + 112)) := D.cur
    have hCr : C < wc.heap.size := D.cur.lt
    obtain ⟨S0, S1, S2⟩ := box3_mod (R := C) r4 (by omega)
    clear D r4
    go_upto_region 6 with fail
    go_cut [7, 8] from 23 to 31 (fun a b wx => ∃ z7 e a' b' ok, a = .pointer (some ⟨z7, 0, none⟩) ∧ b = .bool ok ∧ wc.heap.size ≤ z7 ∧ sbx wx z7 e a' b' ∧ Cur Y wx C (k + 116) ∧ Mod (fun b => b = C) wc wx)
    case first =>
      go_region_held3 (fun w' => Mod (fun b => b = C) wc w') ((first | exact (Mod.refl _ _).drew | assumption | exact Mod.alloc kf _ | exact Mod.alloc kp2 _ | exact Mod.alloc kp1 _ | exact Mod.alloc (Mod.refl _ _).drew _ | exact setz kf hz)) (first
        | (go_at_call 89; refine (pick_any Y C (k + 114) 9 _ (by omega) (by omega) (by first | exact cp1 | exact cp1.blw ((Blw.refl _).alloc _))).mono ?_; rintro e wp2 ⟨x2, rfl, hx2, cp2, mp2⟩; have kp2 : Mod (fun b => b = C) wc wp2 := Mod.trans (by assumption) mp2; have zk2 := kp2.size; have sb2 := mp2.size)
        | (go_at_call 89; refine (pick_any Y C (k + 112) 9 _ (by omega) (by omega) (by first | exact C0.out.blw (Blw.refl _).drew | exact C0.out.blw (Blw.alloc (Blw.refl _).drew _))).mono ?_; rintro e wp1 ⟨x1, rfl, hx1, cp1, mp1⟩; have kp1 : Mod (fun b => b = C) wc wp1 := Mod.trans (by assumption) mp1; have zk1 := kp1.size; have sb1 := mp1.size)
        | (go_at_call 57; refine (specNext_any e4 a4 b4 x1 x2 _).mono ?_; rintro e wf ⟨ef, af, bf, ok, rfl, hout, hbf⟩; have sbf := hbf.size; have kf : Mod (fun b => b = C) wc wf := Mod.setBlw (by assumption) hbf; have zkf := kf.size; have cf : Cur Y wf C (k + 116) := (by first | exact cp2.blw hbf | exact (cp2.blw ((Blw.refl _).alloc _)).blw hbf); (first | (have rZ := (box3 wp2 (.int .i64 0) (.int .i64 0) (.int .i64 0) 56).blw hbf; have hz : wc.heap.size ≤ wp2.heap.size := (by omega); obtain ⟨y0, y1, y2⟩ := get3 rZ; obtain ⟨f0, f1, f2⟩ := fz3 rZ) | (have rZ := Row.blw (Row.mod (box3 wp1 (.int .i64 0) (.int .i64 0) (.int .i64 0) 56) mp2 (by omega)) hbf; have hz : wc.heap.size ≤ wp1.heap.size := (by omega); obtain ⟨y0, y1, y2⟩ := get3 rZ; obtain ⟨f0, f1, f2⟩ := fz3 rZ) | (have rZ : sbx wf wc.heap.size 0 0 0 := Row.blw (Row.mod (Row.mod (box3 wc.drew (.int .i64 0) (.int .i64 0) (.int .i64 0) 56) mp1 (by show ¬ wc.heap.size = C; omega)) mp2 (by show ¬ wc.heap.size = C; omega)) hbf; have hz : wc.heap.size ≤ wc.heap.size := (by omega); obtain ⟨y0, y1, y2⟩ := get3 rZ; obtain ⟨f0, f1, f2⟩ := fz3 rZ) | skip)))
      all_goals go_wp2_with fail
      all_goals go_meet
      all_goals first
        | exact ⟨_, ef, af, bf, ok, rfl, rfl, kf.size, box3 wf _ _ _ 56, cf.blw ((Blw.refl _).alloc _), kf.alloc _⟩
        | exact ⟨_, ef, af, bf, ok, rfl, rfl, hz, sbx_set rZ _ _ _, cf.mod (mod_set3 _ _ _ _ _) (by omega) (fun b hb => by have := HY.out b hb; have := DD.out.mod.size; omega), setz kf hz⟩
    case rest =>
      obtain ⟨z7, e7, a7, b7, ok7, rfl, rfl, hz7, r7, c7, m7⟩ := hcut
      have D7 : Hid (Dm Y w wc C (k + 116) z w.heap.size m' s' c' d') := DD.out.stay m7 c7 hC
      have H7 : Hid (sbx wc z7 e7 a7 b7) := r7
      have hz7C : z7 ≠ C := by omega
      clear DD H4 C0 S0 S1 S2 r7 c7 m7 hCr hz7
      go_upto_region 7 with fail
      go_cut [36] from 23 to 36 (fun b wx => ∃ ok, b = .bool ok ∧ Cur Y wx C (k + 118) ∧ Mod (fun b => b = C) wc wx)
      case first =>
        cases ok7
        · go_wp2_with fail
          go_meet
          exact ⟨false, rfl, D7.out.cur.le (by omega), Mod.refl _ _⟩
        · go_wp2_with fail
          refine (one_any Y C (k + 116) 2 _ (by omega) (by omega) D7.out.cur).mono ?_
          rintro r wo ⟨bo, rfl, co, mo⟩
          cases bo
          · go_wp2_with fail
            go_meet
            exact ⟨false, rfl, co, mo⟩
          · go_wp2_with fail
            go_meet
            exact ⟨true, rfl, co, mo⟩
      case rest =>
        obtain ⟨ok8, rfl, c8, m8⟩ := hcut
        have D8 : Hid (Dm Y w wc C (k + 118) z w.heap.size m' s' c' d') := D7.out.stay m8 c8 hC
        have H8 : Hid (sbx wc z7 e7 a7 b7) := H7.out.mod m8 hz7C
        clear D7 H7 c8 m8
        go_upto_if 36 with fail
        go_cut [] from 23 to 44 (fun wx => ∃ m s c d, Dm Y w wx C (k + 118) z w.heap.size m s c d)
        case first =>
          cases ok8
          · go_wp2_with fail
            go_meet
            exact ⟨m', s', c', d', D8.out⟩
          · obtain ⟨p0, p1, p2⟩ := get3 D8.out.box
            obtain ⟨q0, q1, q2⟩ := get3 H8.out
            simp only [MD.full] at p0 p1 p2
            go_wp2_with fail
            clear p0 p1 p2 q0 q1 q2
            refine (specWrite_any m' (MD.full s' c' d') _ _ e7 a7 b7 D8.out.own.at).mono ?_
            rintro r w9 ⟨m9, M9, ok, rfl, hout, own9, hb9⟩
            have E9 : Hid (Drawn Y wc _ C (k + 118) w9.heap.size m9 M9) := Drawn.late (D8.out.cur.blw hb9) (hb9.mod _) own9 (fun b hb => hb)
            have HO : Hid (wsOut (MD.full s' c' d') e7 a7 b7 M9 ok) := hout
            clear hout own9 hb9
            go_upto_if 43 with fail
            obtain ⟨w10, hw10⟩ : ∃ w10, w9.alloc (.cells #[.slice m9.a1 M9.n1 m9.c1, .slice m9.a2 M9.n2 m9.c2, .slice m9.a3 M9.n3 m9.c3] 26) = w10 := ⟨_, rfl⟩
            rw [hw10] at E9 ⊢
            clear hw10
            cases ok
            · go_wp2_with fail
              go_meet
              exact ⟨m', s', c', d', D8.out.stay E9.out.mod E9.out.cur hC⟩
            · obtain ⟨s5, c5, d5, rfl⟩ := wsOut_full HO.out
              have rz := D8.out.box.mod E9.out.mod (by have := D8.out.oz; omega)
              obtain ⟨p0, p1, p2⟩ := get3 E9.out.box
              obtain ⟨q0, q1, q2⟩ := get3 rz
              have f0 := rz.frozen 0
              have f1 := rz.frozen 1
              have f2 := rz.frozen 2
              clear rz
              simp only [MD.full] at p0 p1 p2 q0 q1 q2
              go_wp2_with fail
              go_meet
              exact ⟨m9, s5, c5, d5, D8.out.take E9.out hC HY.out⟩
        case rest =>
          obtain ⟨m, s, c, d, D⟩ := hcut
          clear D8 H8
          obtain ⟨p0, p1, p2⟩ := get3 D.box
          obtain ⟨⟨x0, x1, x2⟩, f0, f1, f2⟩ := res6 D.res
          have F : Hid _ := D.done hC HY.out
          clear D
          simp only [MD.full] at p0 p1 p2
          go_wp2
          exact bodyPost_ret (v := m.val (MD.full s c d)) (by simp [results, Try.results111, go_sem, x0, x1, x2, MD.full]) rfl ⟨m, _, _, _, rfl, F.out.2.1, F.out.1.le (by omega), F.out.2.2⟩
end Go.Proofs.Ytnbcjdoohmjghaa
/- What is drawn for the laws on slots. -/
namespace Go.Proofs.Ytnbcjdoohmjghaa
open Go.RowKit
set_option linter.unusedSimpArgs false
set_option linter.unusedVariables false
theorem bytes_more {w w' : World} {ao : Option Addr} {n : Nat} {f : Nat → Int} (h : BytesAt (fun b => b < w.heap.size) w ao n f) (hb : Blw w w') : BytesAt (fun b => b < w'.heap.size) w' ao n f :=
  ⟨h.1, fun i hi => let ⟨b, o, h1, hX, h2⟩ := (h.blw hb).2 i hi; ⟨b, o, h1, Nat.lt_of_lt_of_le hX hb.size, h2⟩⟩
set_option maxHeartbeats 1600000 in
theorem drawRead_any (ao : Option Addr) (n cc : Nat) (f : Nat → Int) (w : World) (h : BytesAt (fun b => b < w.heap.size) w ao n f) :
    Calls Try.prog 54 #[.slice ao n cc] w fun e w' => ∃ m s c d, e = .returned (m.val (MD.full s c d)) ∧ MemOwn (fun b => w.heap.size ≤ b ∧ b < w'.heap.size) w' m (MD.full s c d) ∧ Blw w w' := by
  obtain ⟨hb0, c0, rR, sz⟩ := draw_start w ao n cc f h
  have HH : Hid (BytesAt (fun b => b < w.heap.size) w ao n f) := h
  clear h
  go_enter Try.func54, Try.ntmps54
  go_wp2_with fail
  refine (slotMemory_any _ (w.heap.size + 1) 0 _ (by omega) (fun b hb => by omega) c0).mono ?_
  rintro e w1 ⟨m, s, c, d, rfl, own, c1, m1⟩
  have D : Ds w w1 130 m s c d := Ds.start HH.out own c1 m1
  clear own c1 m1 hb0 c0 rR sz HH
  obtain ⟨⟨x0, x1, x2⟩, f0, f1, f2⟩ := res6 D.res
  have Z : Hid _ := D.done
  clear D
  simp only [MV.val, MD.full]
  go_wp2
  exact bodyPost_ret (v := m.val (MD.full s c d)) (by simp [results, Try.results54, go_sem, x0, x1, x2, MD.full]) rfl ⟨m, s, c, d, rfl, Z.out⟩
set_option maxHeartbeats 1600000 in
theorem drawNewest_any (ao : Option Addr) (n cc : Nat) (f : Nat → Int) (w : World) (h : BytesAt (fun b => b < w.heap.size) w ao n f) :
    Calls Try.prog 42 #[.slice ao n cc] w fun e w' => ∃ m s c d, e = .returned (m.val (MD.full s c d)) ∧ MemOwn (fun b => w.heap.size ≤ b ∧ b < w'.heap.size) w' m (MD.full s c d) ∧ Blw w w' := by
  have hb0 : Blw w (w.alloc (.cells #[.slice none 0 0, .slice none 0 0, .slice none 0 0] 26)) := (Blw.refl _).alloc _
  have rR := row_box w 26
  have HH : Hid (BytesAt (fun b => b < (w.alloc (.cells #[.slice none 0 0, .slice none 0 0, .slice none 0 0] 26)).heap.size) (w.alloc (.cells #[.slice none 0 0, .slice none 0 0, .slice none 0 0] 26)) ao n f) := ⟨h.1, fun i hi => let ⟨b, o, h1, hX, h2⟩ := (h.blw hb0).2 i hi; ⟨b, o, h1, Nat.lt_of_lt_of_le hX hb0.size, h2⟩⟩
  clear h
  go_enter Try.func42, Try.ntmps42
  go_wp2_with fail
  refine (drawRead_any ao n cc f _ HH.out).mono ?_
  rintro e w1 ⟨m, s, c, d, rfl, own, hb1⟩
  obtain ⟨⟨x0, x1, x2⟩, f0, f1, f2⟩ := res6 (rR.blw hb1)
  have hs := mod_set3 w1 w.heap.size (.slice m.a1 12 m.c1) (.slice m.a2 12 m.c2) (.slice m.a3 12 m.c3)
  have sz : (w.alloc (.cells #[.slice none 0 0, .slice none 0 0, .slice none 0 0] 26)).heap.size = w.heap.size + 1 := by simp
  have hsz := hs.size
  have Z : Hid _ := And.intro ((own.mod hs (fun b hb => by have := hb.1; omega)).mono (Y := fun b => w.heap.size ≤ b ∧ b < (((w1.setCell ⟨w.heap.size, 0, none⟩ (.slice m.a1 12 m.c1)).setCell ⟨w.heap.size, 1, none⟩ (.slice m.a2 12 m.c2)).setCell ⟨w.heap.size, 2, none⟩ (.slice m.a3 12 m.c3)).heap.size) (fun b hb => ⟨by have := hb.1; omega, by have := hb.2; omega⟩)) (Mod.blw (hb0.trans hb1) hs (fun i hi => by omega))
  clear own hb1 hs rR hb0 HH sz hsz
  simp only [MV.val, MD.full]
  go_wp2
  exact bodyPost_ret (v := m.val (MD.full s c d)) (by simp [results, Try.results42, go_sem, x0, x1, x2, MD.full]) rfl ⟨m, s, c, d, rfl, Z.out⟩
theorem two_out {w W : World} {m : MV} {s c : Nat → Nat → Int} {d : Nat → Bool} {X : Nat → Prop} (e a b : Int) (hb : Blw w W) (own : MemOwn X W m (MD.full s c d)) (hX : ∀ x, X x → w.heap.size + 2 ≤ x ∧ x < W.heap.size) :
    MemOwn (fun x => w.heap.size ≤ x ∧ x < ((((((W.setCell ⟨w.heap.size, 0, none⟩ (.slice m.a1 12 m.c1)).setCell ⟨w.heap.size, 1, none⟩ (.slice m.a2 12 m.c2)).setCell ⟨w.heap.size, 2, none⟩ (.slice m.a3 12 m.c3)).setCell ⟨w.heap.size + 1, 0, none⟩ (.int .i64 e)).setCell ⟨w.heap.size + 1, 1, none⟩ (.int .i64 a)).setCell ⟨w.heap.size + 1, 2, none⟩ (.int .i64 b)).heap.size) ((((((W.setCell ⟨w.heap.size, 0, none⟩ (.slice m.a1 12 m.c1)).setCell ⟨w.heap.size, 1, none⟩ (.slice m.a2 12 m.c2)).setCell ⟨w.heap.size, 2, none⟩ (.slice m.a3 12 m.c3)).setCell ⟨w.heap.size + 1, 0, none⟩ (.int .i64 e)).setCell ⟨w.heap.size + 1, 1, none⟩ (.int .i64 a)).setCell ⟨w.heap.size + 1, 2, none⟩ (.int .i64 b)) m (MD.full s c d) ∧ Blw w ((((((W.setCell ⟨w.heap.size, 0, none⟩ (.slice m.a1 12 m.c1)).setCell ⟨w.heap.size, 1, none⟩ (.slice m.a2 12 m.c2)).setCell ⟨w.heap.size, 2, none⟩ (.slice m.a3 12 m.c3)).setCell ⟨w.heap.size + 1, 0, none⟩ (.int .i64 e)).setCell ⟨w.heap.size + 1, 1, none⟩ (.int .i64 a)).setCell ⟨w.heap.size + 1, 2, none⟩ (.int .i64 b)) := by
  have h1 := mod_set3 W w.heap.size (.slice m.a1 12 m.c1) (.slice m.a2 12 m.c2) (.slice m.a3 12 m.c3)
  have h2 := mod_set3 (((W.setCell ⟨w.heap.size, 0, none⟩ (.slice m.a1 12 m.c1)).setCell ⟨w.heap.size, 1, none⟩ (.slice m.a2 12 m.c2)).setCell ⟨w.heap.size, 2, none⟩ (.slice m.a3 12 m.c3)) (w.heap.size + 1) (.int .i64 e) (.int .i64 a) (.int .i64 b)
  have s1 := h1.size
  have s2 := h2.size
  exact ⟨((own.mod h1 (fun x hx => by have := hX x hx; omega)).mod h2 (fun x hx => by have := hX x hx; omega)).mono (fun x hx => by have := hX x hx; exact ⟨by omega, by omega⟩), Mod.blw (Mod.blw hb h1 (fun i hi => by omega)) h2 (fun i hi => by omega)⟩
set_option maxRecDepth 10000 in
set_option maxHeartbeats 1600000 in
theorem drawWrite_any (ao : Option Addr) (n cc : Nat) (f : Nat → Int) (w : World) (h : BytesAt (fun b => b < w.heap.size) w ao n f) :
    Calls Try.prog 51 #[.slice ao n cc] w fun r w' => ∃ m s c d e a b, r = .returned (.tuple #[m.val (MD.full s c d), slotV e a b]) ∧ MemOwn (fun b => w.heap.size ≤ b ∧ b < w'.heap.size) w' m (MD.full s c d) ∧ Blw w w' := by
  have hb0 : Blw w (((w.alloc (.cells #[.slice none 0 0, .slice none 0 0, .slice none 0 0] 26)).alloc (.cells #[.int .i64 0, .int .i64 0, .int .i64 0] 56)).alloc (.cells #[.slice ao n cc, .int .i64 0, .int .u64 0] 91)) := (((Blw.refl _).alloc _).alloc _).alloc _
  have sz : (((w.alloc (.cells #[.slice none 0 0, .slice none 0 0, .slice none 0 0] 26)).alloc (.cells #[.int .i64 0, .int .i64 0, .int .i64 0] 56)).alloc (.cells #[.slice ao n cc, .int .i64 0, .int .u64 0] 91)).heap.size = w.heap.size + 3 := by simp
  have rR := (row_box w 26).blw (((Blw.refl _).alloc (.cells #[.int .i64 0, .int .i64 0, .int .i64 0] 56)).alloc (.cells #[.slice ao n cc, .int .i64 0, .int .u64 0] 91))
  have rS := (box3 (w.alloc (.cells #[.slice none 0 0, .slice none 0 0, .slice none 0 0] 26)) (.int .i64 0) (.int .i64 0) (.int .i64 0) 56).blw ((Blw.refl _).alloc (.cells #[.slice ao n cc, .int .i64 0, .int .u64 0] 91))
  rw [World.size_alloc] at rS
  have c0 : Cur (fun b => b < w.heap.size) (((w.alloc (.cells #[.slice none 0 0, .slice none 0 0, .slice none 0 0] 26)).alloc (.cells #[.int .i64 0, .int .i64 0, .int .i64 0] 56)).alloc (.cells #[.slice ao n cc, .int .i64 0, .int .u64 0] 91)) (w.heap.size + 2) 0 := by
    refine ⟨ao, n, cc, 0, f, 0, ?_, h.blw hb0, Nat.le_refl _, fun b hb => by omega⟩
    have := box3 ((w.alloc (.cells #[.slice none 0 0, .slice none 0 0, .slice none 0 0] 26)).alloc (.cells #[.int .i64 0, .int .i64 0, .int .i64 0] 56)) (.slice ao n cc) (.int .i64 0) (.int .u64 0) 91
    rw [World.size_alloc, World.size_alloc] at this
    exact this
  clear h
  go_enter Try.func51, Try.ntmps51
  go_wp2_with fail
  refine (memory_any _ (w.heap.size + 2) 0 _ (by omega) (fun b hb => by omega) c0).mono ?_
  rintro r w1 ⟨m, s, c, d, rfl, own, c1, m1⟩
  have s1 := m1.size
  go_wp2_with fail
  refine (slot_any _ (w.heap.size + 2) 100 _ (by omega) (fun b hb => by omega) c1).mono ?_
  rintro r w2 ⟨e, a, b, rfl, c2, m2⟩
  have s2 := m2.size
  replace rR := (rR.mod m1 (by omega)).mod m2 (by omega)
  replace rS := (rS.mod m1 (by omega)).mod m2 (by omega)
  have hb2 : Blw w w2 := Mod.blw (Mod.blw hb0 m1 (fun i hi => by omega)) m2 (fun i hi => by omega)
  have Z : Hid _ := two_out e a b hb2 (own.mod m2 (fun x hx => by have := hx.1; omega)) (fun x hx => ⟨by have := hx.1; omega, by have := hx.2; omega⟩)
  obtain ⟨⟨x0, x1, x2⟩, f0, f1, f2⟩ := res6 rR
  obtain ⟨y0, y1, y2⟩ := get3 rS
  obtain ⟨g0, g1, g2⟩ := fz3 rS
  clear own c0 c1 c2 m1 m2 hb0 hb2 rR rS s1 s2 sz
  simp only [MV.val, MD.full]
  go_wp2
  exact bodyPost_ret (v := .tuple #[m.val (MD.full s c d), slotV e a b]) (by simp [results, Try.results51, go_sem, x0, x1, x2, y0, y1, y2, MD.full]) rfl ⟨m, s, c, d, e, a, b, rfl, Z.out⟩
set_option maxHeartbeats 1600000 in
theorem drawCommit_any (ao : Option Addr) (n cc : Nat) (f : Nat → Int) (w : World) (h : BytesAt (fun b => b < w.heap.size) w ao n f) :
    Calls Try.prog 49 #[.slice ao n cc] w fun r w' => ∃ m s c d e a b, r = .returned (.tuple #[m.val (MD.full s c d), slotV e a b]) ∧ MemOwn (fun b => w.heap.size ≤ b ∧ b < w'.heap.size) w' m (MD.full s c d) ∧ Blw w w' := by
  have hb0 : Blw w ((w.alloc (.cells #[.slice none 0 0, .slice none 0 0, .slice none 0 0] 26)).alloc (.cells #[.int .i64 0, .int .i64 0, .int .i64 0] 56)) := ((Blw.refl _).alloc _).alloc _
  have sz : ((w.alloc (.cells #[.slice none 0 0, .slice none 0 0, .slice none 0 0] 26)).alloc (.cells #[.int .i64 0, .int .i64 0, .int .i64 0] 56)).heap.size = w.heap.size + 2 := by simp
  have rR := (row_box w 26).blw ((Blw.refl _).alloc (.cells #[.int .i64 0, .int .i64 0, .int .i64 0] 56))
  have rS := box3 (w.alloc (.cells #[.slice none 0 0, .slice none 0 0, .slice none 0 0] 26)) (.int .i64 0) (.int .i64 0) (.int .i64 0) 56
  rw [World.size_alloc] at rS
  have HH : Hid (BytesAt (fun b => b < ((w.alloc (.cells #[.slice none 0 0, .slice none 0 0, .slice none 0 0] 26)).alloc (.cells #[.int .i64 0, .int .i64 0, .int .i64 0] 56)).heap.size) ((w.alloc (.cells #[.slice none 0 0, .slice none 0 0, .slice none 0 0] 26)).alloc (.cells #[.int .i64 0, .int .i64 0, .int .i64 0] 56)) ao n f) := bytes_more h hb0
  clear h
  go_enter Try.func49, Try.ntmps49
  go_wp2_with fail
  refine (drawWrite_any ao n cc f _ HH.out).mono ?_
  rintro r w1 ⟨m, s, c, d, e, a, b, rfl, own, hb1⟩
  have Z : Hid _ := two_out e a b (hb0.trans hb1) own (fun x hx => ⟨by have := hx.1; omega, hx.2⟩)
  obtain ⟨⟨x0, x1, x2⟩, f0, f1, f2⟩ := res6 (rR.blw hb1)
  obtain ⟨y0, y1, y2⟩ := get3 (rS.blw hb1)
  obtain ⟨g0, g1, g2⟩ := fz3 (rS.blw hb1)
  clear own hb0 hb1 rR rS sz HH
  simp only [MV.val, MD.full]
  go_wp2
  exact bodyPost_ret (v := .tuple #[m.val (MD.full s c d), slotV e a b]) (by simp [results, Try.results49, go_sem, x0, x1, x2, y0, y1, y2, MD.full]) rfl ⟨m, s, c, d, e, a, b, rfl, Z.out⟩
theorem cur_start (w W : World) (ao : Option Addr) (n cc : Nat) (f : Nat → Int) (hb : Blw w W) (h : BytesAt (fun b => b < w.heap.size) w ao n f) : Cur (fun b => b < w.heap.size) (W.alloc (.cells #[.slice ao n cc, .int .i64 0, .int .u64 0] 91)) W.heap.size 0 :=
  ⟨ao, n, cc, 0, f, 0, box3 W _ _ _ 91, (h.blw hb).blw ((Blw.refl _).alloc _), Nat.le_refl _, fun b hb' => by have := hb.size; omega⟩
set_option maxHeartbeats 1600000 in
theorem drawLine_any (ao : Option Addr) (n cc : Nat) (f : Nat → Int) (w : World) (h : BytesAt (fun b => b < w.heap.size) w ao n f) :
    Calls Try.prog 61 #[.slice ao n cc] w fun r w' => ∃ x : Int, r = .returned (.int .i64 x) ∧ Blw w w' := by
  have c0 := cur_start w w ao n cc f (Blw.refl w) h
  have hb0 : Blw w (w.alloc (.cells #[.slice ao n cc, .int .i64 0, .int .u64 0] 91)) := (Blw.refl _).alloc _
  clear h
  go_enter Try.func61, Try.ntmps61
  go_wp2_with fail
  have hA : Blw (w.alloc (.cells #[.slice ao n cc, .int .i64 0, .int .u64 0] 91)) ((w.alloc (.cells #[.slice ao n cc, .int .i64 0, .int .u64 0] 91)).alloc (.cells #[.int .i64 0, .int .i64 1, .int .i64 2, .int .i64 7, .int .i64 1000, .int .i64 1001] 3)) := (Blw.refl _).alloc _
  have hI := ints_lit (w.alloc (.cells #[.slice ao n cc, .int .i64 0, .int .u64 0] 91)) [0, 1, 2, 7, 1000, 1001] 3 (by simp)
  rw [World.size_alloc] at hI
  refine (among_any _ _ w.heap.size 0 _ 6 6 _ _ (by omega) (by omega) hI (fun b hb => by omega) (c0.blw hA)).mono ?_
  rintro r w1 ⟨x, rfl, c1, m1⟩
  have hb1 : Blw w w1 := Mod.blw (hb0.trans hA) m1 (fun i hi => by omega)
  clear c0 c1 m1 hb0 hA hI
  go_wp2
  go_ret
  exact ⟨x, rfl, hb1⟩
set_option maxHeartbeats 1600000 in
theorem drawSum_any (ao : Option Addr) (n cc : Nat) (f : Nat → Int) (w : World) (h : BytesAt (fun b => b < w.heap.size) w ao n f) :
    Calls Try.prog 58 #[.slice ao n cc] w fun r w' => ∃ e a b, r = .returned (slotV e a b) ∧ Blw w w' := by
  have hb0 : Blw w (w.alloc (.cells #[.int .i64 0, .int .i64 0, .int .i64 0] 56)) := (Blw.refl _).alloc _
  have c0 := cur_start w (w.alloc (.cells #[.int .i64 0, .int .i64 0, .int .i64 0] 56)) ao n cc f hb0 h
  rw [World.size_alloc] at c0
  have rS := (box3 w (.int .i64 0) (.int .i64 0) (.int .i64 0) 56).blw ((Blw.refl _).alloc (.cells #[.slice ao n cc, .int .i64 0, .int .u64 0] 91))
  have hb1 : Blw w ((w.alloc (.cells #[.int .i64 0, .int .i64 0, .int .i64 0] 56)).alloc (.cells #[.slice ao n cc, .int .i64 0, .int .u64 0] 91)) := hb0.alloc _
  have sz : ((w.alloc (.cells #[.int .i64 0, .int .i64 0, .int .i64 0] 56)).alloc (.cells #[.slice ao n cc, .int .i64 0, .int .u64 0] 91)).heap.size = w.heap.size + 2 := by simp
  clear h
  go_enter Try.func58, Try.ntmps58
  go_wp2_with fail
  refine (slot_any _ (w.heap.size + 1) 0 _ (by omega) (fun b hb => by omega) c0).mono ?_
  rintro r w2 ⟨e, a, b, rfl, c2, m2⟩
  have hb2 : Blw w w2 := Mod.blw hb1 m2 (fun i hi => by omega)
  obtain ⟨y0, y1, y2⟩ := get3 (rS.mod m2 (by omega))
  obtain ⟨g0, g1, g2⟩ := fz3 (rS.mod m2 (by omega))
  have Z : Hid (Blw w _) := Mod.blw hb2 (mod_set3 w2 w.heap.size (.int .i64 e) (.int .i64 a) (.int .i64 b)) (fun i hi => by omega)
  clear c0 c2 m2 hb0 hb1 hb2 rS sz
  go_wp2
  exact bodyPost_ret (v := slotV e a b) (by simp [results, Try.results58, go_sem, y0, y1, y2]) rfl ⟨e, a, b, rfl, Z.out⟩
set_option maxHeartbeats 1600000 in
theorem drawNext_any (ao : Option Addr) (n cc : Nat) (f : Nat → Int) (w : World) (h : BytesAt (fun b => b < w.heap.size) w ao n f) :
    Calls Try.prog 56 #[.slice ao n cc] w fun r w' => ∃ e a b x y, r = .returned (.tuple #[slotV e a b, .int .i64 x, .int .i64 y]) ∧ Blw w w' := by
  have hb0 : Blw w (w.alloc (.cells #[.int .i64 0, .int .i64 0, .int .i64 0] 56)) := (Blw.refl _).alloc _
  have c0 := cur_start w (w.alloc (.cells #[.int .i64 0, .int .i64 0, .int .i64 0] 56)) ao n cc f hb0 h
  rw [World.size_alloc] at c0
  have rS := (box3 w (.int .i64 0) (.int .i64 0) (.int .i64 0) 56).blw ((Blw.refl _).alloc (.cells #[.slice ao n cc, .int .i64 0, .int .u64 0] 91))
  have hb1 : Blw w ((w.alloc (.cells #[.int .i64 0, .int .i64 0, .int .i64 0] 56)).alloc (.cells #[.slice ao n cc, .int .i64 0, .int .u64 0] 91)) := hb0.alloc _
  have sz : ((w.alloc (.cells #[.int .i64 0, .int .i64 0, .int .i64 0] 56)).alloc (.cells #[.slice ao n cc, .int .i64 0, .int .u64 0] 91)).heap.size = w.heap.size + 2 := by simp
  clear h
  go_enter Try.func56, Try.ntmps56
  go_wp2_with fail
  refine (slot_any _ (w.heap.size + 1) 0 _ (by omega) (fun b hb => by omega) c0).mono ?_
  rintro r w2 ⟨e, a, b, rfl, c2, m2⟩
  have hlt := c2.lt
  go_wp2_with fail
  have hA : Blw w2 (w2.alloc (.cells #[.int .i64 (-1), .int .i64 0, .int .i64 65535, .int .i64 65536] 3)) := (Blw.refl _).alloc _
  refine (among_any _ _ (w.heap.size + 1) 12 _ 4 4 _ _ (by omega) (by omega) (ints_lit w2 [-1, 0, 65535, 65536] 3 (by simp)) (fun b hb => by omega) (c2.blw hA)).mono ?_
  rintro r w3 ⟨x, rfl, c3, m3⟩
  go_wp2_with fail
  refine (pick_any _ (w.heap.size + 1) 14 9 _ (by omega) (by omega) c3).mono ?_
  rintro r w4 ⟨y, rfl, hy, c4, m4⟩
  have mm := ((m2.setBlw hA).trans m3).trans m4
  have hb2 : Blw w w4 := Mod.blw hb1 mm (fun i hi => by omega)
  obtain ⟨y0, y1, y2⟩ := get3 (rS.mod mm (by omega))
  obtain ⟨g0, g1, g2⟩ := fz3 (rS.mod mm (by omega))
  have Z : Hid (Blw w _) := Mod.blw hb2 (mod_set3 w4 w.heap.size (.int .i64 e) (.int .i64 a) (.int .i64 b)) (fun i hi => by omega)
  clear c0 c2 c3 c4 m2 m3 m4 mm hb0 hb1 hb2 rS sz hA hlt
  go_wp2
  exact bodyPost_ret (v := .tuple #[slotV e a b, .int .i64 x, .int .i64 y]) (by simp [results, Try.results56, go_sem, y0, y1, y2]) rfl ⟨e, a, b, x, y, rfl, Z.out⟩
set_option maxHeartbeats 1600000 in
theorem numberOf_any (ao : Option Addr) (n cc : Nat) (f : Nat → Int) (Y : Nat → Prop) (w : World) (h : BytesAt Y w ao n f) :
    Calls Try.prog 46 #[.slice ao n cc] w fun r w' => ∃ x : Nat, r = .returned (.int .i64 x) ∧ x < 1000003 ∧ w' = w := by
  have HH : Hid (BytesAt Y w ao n f) := h
  have hn := h.1
  clear h
  go_enter Try.func46, Try.ntmps46
  go_wp2_with fail
  go_loopw [3, 8] (fun v i wr => ∃ k x : Nat, k ≤ n ∧ i = .int .i64 k ∧ v = .int .i64 x ∧ x < 1000003 ∧ wr = w) (fun _ i _ => n - (intOf i).toNat)
  case atStart => exact ⟨0, 0, Nat.zero_le _, rfl, rfl, by omega, rfl⟩
  case round =>
    obtain ⟨k, x, hk, rfl, rfl, hx, rfl⟩ := hrel
    by_cases hlt : k < n
    · have hlt' : (k : Int) < n := by omega
      obtain ⟨b, o, rfl, -, q, x0, x1⟩ := HH.out.2 k hlt
      obtain ⟨y, hy⟩ := Int.eq_ofNat_of_zero_le x0
      rw [hy] at q x0 x1
      obtain ⟨z, hz, hz3⟩ : ∃ z : Nat, (31 * (x : Int) + y) % 1000003 = z ∧ z < 1000003 := ⟨(31 * x + y) % 1000003, by omega, by omega⟩
      have hm : (31 * (x : Int) + y).tmod 1000003 = z := by rw [Int.tmod_eq_emod_of_nonneg (by omega)]; exact hz
      clear hy
      go_wp2
      go_roundw
      case rel => exact ⟨k + 1, z, by omega, by go_num, by first | rfl | (congr 1), hz3, by first | rfl | trivial⟩
      case measure => simp [intOf]; omega
    · obtain rfl : k = n := by omega
      go_wp2
      go_ret
      exact ⟨x, rfl, hx, rfl⟩
end Go.Proofs.Ytnbcjdoohmjghaa
/- 'spec.LoadAll' and 'impl.LoadAll'. -/
namespace Go.Proofs.Ytnbcjdoohmjghaa
open Go.RowKit
set_option linter.unusedSimpArgs false
/-- A function that answers numbers and a bool, in new memory. -/
abbrev GivesI (out : Nat → (Nat → Int) → Bool → Prop) (w : World) (e : Ending) (w' : World) : Prop :=
  ∃ (ao : Option Addr) (n c : Nat) (f : Nat → Int) (b : Bool), e = .returned (.tuple #[.slice ao n c, .bool b]) ∧ out n f b ∧ IntsOwn (fun b => w.heap.size ≤ b ∧ b < w'.heap.size) w' ao n f ∧ Blw w w'
/-- The words from a on. -/
def wordsFrom (c : Nat → Nat → Int) (a : Nat) : Nat → Int := fun i => c ((a + i) / 4) ((a + i) % 4)
/-- What LoadAll answers. -/
def laOut (M : MD) (at_ many : Int) (n : Nat) (f : Nat → Int) (b : Bool) : Prop :=
  (M.Good ∧ stretch at_ many ∧ n = many.toNat ∧ f = wordsFrom M.v2 at_.toNat ∧ b = true) ∨ (¬ (M.Good ∧ stretch at_ many) ∧ n = 0 ∧ f = (fun _ => 0) ∧ b = false)
theorem laOut_same {M : MD} {at_ many : Int} {n n' : Nat} {f f' : Nat → Int} {b c : Bool} (h : laOut M at_ many n f b) (k : laOut M at_ many n' f' c) : n = n' ∧ f = f' ∧ b = c := by
  rcases h with ⟨g, s, rfl, rfl, rfl⟩ | ⟨g, rfl, rfl, rfl⟩
  · rcases k with ⟨_, _, rfl, rfl, rfl⟩ | ⟨g', rfl, rfl, rfl⟩
    · exact ⟨rfl, rfl, rfl⟩
    · exact absurd ⟨g, s⟩ g'
  · rcases k with ⟨g', s, rfl, rfl, rfl⟩ | ⟨g', rfl, rfl, rfl⟩
    · exact absurd ⟨g', s⟩ g
    · exact ⟨rfl, rfl, rfl⟩
theorem laOut_small {M : MD} {at_ many : Int} {n : Nat} {f : Nat → Int} {b : Bool} (h : laOut M at_ many n f b) : n ≤ 8 := by
  rcases h with ⟨g, s, rfl, rfl, rfl⟩ | ⟨g, rfl, rfl, rfl⟩
  · have := s.2.1; omega
  · omega
theorem zero_givesI {out : Nat → (Nat → Int) → Bool → Prop} {w w1 : World} (ho : out 0 (fun _ => 0) false) (hb : Blw w w1) : GivesI out w (.returned (.tuple #[.slice none 0 0, .bool false])) w1 :=
  ⟨none, 0, 0, _, false, rfl, ho, ⟨Nat.zero_le _, fun h => absurd h (Nat.lt_irrefl 0)⟩, hb⟩
/-- The list that the model appends to. -/
structure Put (Y : Nat → Prop) (w wr : World) (m : MV) (M : MD) (v : Value) (k : Nat) (f : Nat → Int) : Prop where
  own : wr.ownsRow 0 3 1 v k ((List.range k).map fun i => .int .i64 (f i))
  blk : ∀ g, v.ownBlock = some g → w.heap.size < g ∧ g < wr.heap.size
  blw : Blw w wr
  box : Row wr w.heap.size 3 (fun i => if i = 0 then .slice m.a1 M.n1 m.c1 else if i = 1 then .slice m.a2 M.n2 m.c2 else .slice m.a3 M.n3 m.c3)
  h : MemAt Y wr m M
theorem put_next {Y : Nat → Prop} {w wr W w' : World} {m : MV} {M : MD} {v : Value} {k g cap : Nat} {f : Nat → Int} (P : Put Y w wr m M v k f) (hb : Blw wr W) (hY : ∀ b, Y b → b < w.heap.size)
    (own' : w'.ownsRow 0 3 1 (.slice (some ⟨g, 0, none⟩) (k + 1) cap) (k + 1) (((List.range k).map fun i => .int .i64 (f i)) ++ [.int .i64 (f k)])) (gr : W.grownBy w' v.ownBlock) (hg : v.ownBlock = some g ∨ g = W.heap.size) (hgl : g < w'.heap.size) :
    Put Y w w' m M (.slice (some ⟨g, 0, none⟩) (k + 1) cap) (k + 1) f := by
  have hm : Mod (fun x => v.ownBlock = some x) W w' := grown_mod gr
  have bl := P.box.lt
  have hs := hb.size
  have nb : ∀ b, b ≤ w.heap.size → ¬ v.ownBlock = some b := fun b h1 h2 => by have := (P.blk b h2).1; omega
  refine ⟨?_, fun x hx => ?_, Mod.blw (P.blw.trans hb) hm (fun i hi => by have := (P.blk i hi).1; omega), (P.box.blw hb).mod hm (nb _ (Nat.le_refl _)), (P.h.blw hb).mod hm (fun b hb => nb b (by have := hY b hb; omega))⟩
  · rw [List.range_succ, List.map_append]
    exact own'
  · simp only [Value.ownBlock, Option.some.injEq] at hx
    subst hx
    rcases hg with hg | hg
    · exact ⟨(P.blk _ hg).1, hgl⟩
    · exact ⟨by omega, hgl⟩
theorem put_ints {Y : Nat → Prop} {w wr : World} {m : MV} {M : MD} {v : Value} {k : Nat} {f : Nat → Int} (P : Put Y w wr m M v k f) (hk : k ≤ 8) : ∃ ao cap, v = .slice ao k cap ∧ IntsOwn (fun b => w.heap.size ≤ b ∧ b < wr.heap.size) wr ao k f := by
  have own := P.own
  have blk := P.blk
  rcases P.own.2 with ⟨e1, e2⟩ | ⟨g, cap, cur, rfl, r⟩
  · subst e1
    obtain rfl : k = 0 := by simpa using e2
    exact ⟨none, 0, rfl, Nat.zero_le _, fun h => absurd h (Nat.lt_irrefl 0)⟩
  · refine ⟨_, cap, rfl, by omega, fun h => ⟨g, ?_, rfl, owned_row own (fun i hi => by simp [hi]) h⟩⟩
    have := blk g rfl
    exact ⟨by omega, this.2⟩
set_option maxRecDepth 10000 in
set_option maxHeartbeats 1600000 in
theorem specLoadAll_any (m : MV) (M : MD) (Y : Nat → Prop) (w : World) (at_ many : Int) (h : MemAt Y w m M) (hY : ∀ b, Y b → b < w.heap.size) :
    Calls Try.prog 39 #[m.val M, .int .i64 at_, .int .i64 many] w (GivesI (laOut M at_ many) w) := by
  obtain ⟨i0, hi, hz0, hz1, hz2⟩ := info_parts tinfo3
  go_enter Try.func39, Try.ntmps39
  go_wp2_with fail
  have hb0 : Blw w (w.alloc (.cells #[.slice m.a1 M.n1 m.c1, .slice m.a2 M.n2 m.c2, .slice m.a3 M.n3 m.c3] 26)) := (Blw.refl _).alloc _
  have rA := box3 w (.slice m.a1 M.n1 m.c1) (.slice m.a2 M.n2 m.c2) (.slice m.a3 M.n3 m.c3) 26
  refine (goodS_any m M Y _ (h.blw hb0)).mono ?_
  rintro e w1 ⟨b, rfl, hgd, hb1⟩
  replace rA := rA.blw hb1
  replace hb1 := hb0.trans hb1
  replace h := h.blw hb1
  clear hb0
  have HG : Hid (b = true ↔ M.Good) := hgd
  have HY : Hid (∀ b, Y b → b < w.heap.size) := hY
  clear hgd hY
  cases b
  · have NG : Hid (¬ M.Good) := fun g => absurd (HG.out.2 g) (by decide)
    clear HG rA h
    go_wp2
    go_ret2
    exact zero_givesI (Or.inr ⟨fun g => NG.out g.1, rfl, rfl, rfl⟩) hb1
  · have GD : Hid M.Good := HG.out.1 rfl
    clear HG
    by_cases hst : stretch at_ many
    · have HT : Hid (stretch at_ many) := hst
      clear hst
      go_wp2_with fail
      refine (l1Place_yes _ _ _ HT.out).mono ?_
      rintro e w1 ⟨rfl, rfl⟩
      go_wp2_with fail
      obtain ⟨a, rfl⟩ := Int.eq_ofNat_of_zero_le HT.out.1.1
      obtain ⟨n, rfl⟩ := Int.eq_ofNat_of_zero_le HT.out.2.1.1
      have ha : a + n ≤ 48 := by have := HT.out.2.2; omega
      have hn8 : n ≤ 8 := by have := HT.out.2.1.2; omega
      have P0 : Hid (Put Y w w1 m M (.slice none 0 0) 0 (wordsFrom M.v2 a)) := ⟨⟨by simp, Or.inl ⟨rfl, rfl⟩⟩, fun g hg => by simp [Value.ownBlock] at hg, hb1, rA, h⟩
      clear rA h hb1
      go_loopw [8, 9] (fun v i wr => ∃ k : Nat, k ≤ n ∧ i = .int .i64 k ∧ Put Y w wr m M v k (wordsFrom M.v2 a)) (fun _ i _ => n - (intOf i).toNat)
      case atStart => exact ⟨0, by omega, rfl, P0.out⟩
      case round =>
        obtain ⟨k, hk, rfl, I⟩ := hrel
        clear P0
        by_cases hlt : k < n
        · obtain ⟨q0, q1, q2⟩ := get3 I.box
          have hlt' : (k : Int) < n := by omega
          go_wp2_with fail
          clear q0 q1 q2
          have ek : ((a : Int) + (k : Int)) = ((a + k : Nat) : Int) := by omega
          rw [ek]
          clear ek
          refine (l1Load_any m M Y _ (a + k) (by omega) GD.out I.h).mono ?_
          rintro e w4 ⟨rfl, hb4⟩
          have hb5 : Blw w4 (w4.alloc (.cells #[.int .i64 (M.v2 ((a + k) / 4) ((a + k) % 4))] 3)) := (Blw.refl _).alloc _
          have HO : Hid ((w4.alloc (.cells #[.int .i64 (M.v2 ((a + k) / 4) ((a + k) % 4))] 3)).ownsRow 0 3 1 _ k ((List.range k).map fun i => .int .i64 (wordsFrom M.v2 a i))) := ownsRow_mod I.own ((hb4.trans hb5).mod (fun _ => False)) (fun _ _ => id)
          have HSrc : Hid (∀ j u, [Value.int .i64 (M.v2 ((a + k) / 4) ((a + k) % 4))][j]? = some u → (w4.alloc (.cells #[.int .i64 (M.v2 ((a + k) / 4) ((a + k) % 4))] 3)).cell? ((⟨w4.heap.size, 0, none⟩ : Addr).add j) = some u) := fun j u hj => by
            match j, hj with
            | 0, hj => rw [← hj]; go_cell
            | j + 1, hj => simp at hj
          have HN : Hid _ := fun g cap w' => put_next (g := g) (cap := cap) (w' := w') I (hb4.trans hb5) HY.out
          clear I hb4 hb5
          go_wp2_with (at_builtin; refine wpList_append_lies _ rfl (.tmp 24) (.tmp 30) 27 rfl 0 3 i0 (.int .i64 0) 1 8 Try.underlying27 hi hz0 hz1 hz2 rfl (by decide) _ k _ rfl HO.out ⟨w4.heap.size, 0, none⟩ 1 1 [.int .i64 (M.v2 ((a + k) / 4) ((a + k) % 4))] rfl (by simp) HSrc.out (fun u hu => by simp only [List.mem_singleton] at hu; subst hu; rfl) (by omega) (by unfold maxLen; omega) (by omega) (by omega) _ rfl ?_; intro g cap w' own' gr hg hgl; have I' := HN.out g cap w' own' gr hg hgl; clear own' gr hg hgl; simp only [Nat.zero_add])
          clear HN HO HSrc
          go_roundw
          case rel => exact ⟨k + 1, by omega, by go_num, I'⟩
          case measure => simp [intOf]; omega
        · obtain rfl : k = n := by omega
          obtain ⟨ao, cap, rfl, own⟩ := put_ints I hn8
          have hbI := I.blw
          clear I
          go_wp2
          go_ret2
          exact ⟨ao, k, cap, _, true, rfl, Or.inl ⟨GD.out, HT.out, by simp, rfl, rfl⟩, own, hbI⟩
    · have NX : Hid (¬ stretch at_ many) := hst
      clear hst rA h
      go_wp2_with fail
      refine (l1Place_no _ _ _ NX.out).mono ?_
      rintro e w1 ⟨rfl, rfl⟩
      go_wp2
      go_ret2
      exact zero_givesI (Or.inr ⟨fun g => NX.out g.2, rfl, rfl, rfl⟩) hb1
end Go.Proofs.Ytnbcjdoohmjghaa
/- 'impl.LoadAll'. -/
namespace Go.Proofs.Ytnbcjdoohmjghaa
open Go.RowKit
set_option linter.unusedSimpArgs false
theorem held_facts' {w w1 wz : World} {cs : Array Value} {f g : Nat → Value} {o : Obj} (hb1 : Blw w w1) (q1 : Row wz w1.heap.size 108 (fun i => if 0 ≤ i ∧ i < 0 + cs.size then g (i - 0) else f i)) (q2 : Mod (fun x => x = w1.heap.size) (w1.alloc o) wz) (z1 : cs.size = 108) :
    Row wz w1.heap.size 108 g ∧ Blw w wz :=
  have h0 : Blw w1 (w1.alloc o) := (Blw.refl _).alloc _
  ⟨held_row q1 z1, Mod.blw (hb1.trans h0) q2 (fun i hi => by have := hb1.size; omega)⟩
set_option maxRecDepth 10000 in
set_option maxHeartbeats 1600000 in
theorem implLoadAll_any (m : MV) (M : MD) (Y : Nat → Prop) (w : World) (at_ many : Int) (h : MemAt Y w m M) :
    Calls Try.prog 38 #[m.val M, .int .i64 at_, .int .i64 many] w (GivesI (laOut M at_ many) w) := by
  go_enter Try.func38, Try.ntmps38
  go_wp2_with fail
  have hb0 : Blw w (w.alloc (.cells #[.slice m.a1 M.n1 m.c1, .slice m.a2 M.n2 m.c2, .slice m.a3 M.n3 m.c3] 26)) := (Blw.refl _).alloc _
  refine (holdMemory_any m M Y _ (h.blw hb0)).mono ?_
  rintro e w1 ⟨hr, hb1⟩
  replace hb1 := hb0.trans hb1
  have r79 := row79 w1
  have zw := hb1.size
  clear h hb0
  rcases hr with ⟨good, cs, z1, z2, rfl⟩ | ⟨bad, rfl⟩
  · have hi : (Try.prog.info? 98).map (·.size) = some cs.size := by rw [z1]; exact info79
    have one := one_cells' z1 z2
    have GD : Hid M.Good := good
    clear good
    go_wp2_with (refine wpList_store_row rfl 98 (.tmp 8) (.tmp 15) rfl w1.heap.size 0 cs rfl rfl 108 _ (hcell M.v1 M.v2 M.d) r79 (by omega) hi one (fun j hj => z2 j (by omega)) ?_; intro wz qz1 qz2 qz3; have hz := held_facts' hb1 qz1 qz2 z1; obtain ⟨rH, hbz⟩ := hz; clear qz1 qz2 qz3)
    have zlt := rH.lt
    clear r79 hi one z1 z2 hb1
    by_cases hst : stretch at_ many
    · have HT : Hid (stretch at_ many) := hst
      clear hst
      refine (isStretch_yes _ _ _ HT.out).mono ?_
      rintro e wz ⟨rfl, rfl⟩
      obtain ⟨a, rfl⟩ := Int.eq_ofNat_of_zero_le HT.out.1.1
      obtain ⟨n, rfl⟩ := Int.eq_ofNat_of_zero_le HT.out.2.1.1
      have ha : a + n ≤ 48 := by have := HT.out.2.2; omega
      have hn8 : n ≤ 8 := by have := HT.out.2.1.2; omega
      have hmk := mkInts n (by omega)
      go_wp2_with fail
      clear hmk
      have hA : Blw wz (wz.alloc (.cells (madeCells #[.int .i64 0] n) 3)) := (Blw.refl _).alloc _
      have HZ : Hid (Row _ w1.heap.size 108 (hcell M.v1 M.v2 M.d) ∧ Blw w _) := And.intro (rH.blw hA) (hbz.trans hA)
      have HR : Hid (Row _ wz.heap.size n (fun _ => .int .i64 0)) := Row.made wz (.int .i64 0) n 3
      have zz := hbz.size
      clear rH hbz hA
      generalize w1.heap.size = z at *
      go_loopw [29] (fun i wr => ∃ k : Nat, k ≤ n ∧ i = .int .i64 k ∧ Row wr z 108 (hcell M.v1 M.v2 M.d) ∧ Row wr wz.heap.size n (fun t => Value.int .i64 (if t < k then wordsFrom M.v2 a t else 0)) ∧ Blw w wr) (fun i _ => n - (intOf i).toNat)
      case atStart => exact ⟨0, by omega, rfl, HZ.out.1, Row.congr HR.out (fun i _ => by simp), HZ.out.2⟩
      case round =>
        obtain ⟨k, hk, rfl, rH, rN, hb⟩ := hrel
        clear HZ HR
        by_cases hlt : k < n
        · have hlt' : (k : Int) < n := by omega
          go_wp2_with fail
          have ek : ((a : Int) + (k : Int)) = ((a + k : Nat) : Int) := by omega
          rw [ek]
          clear ek
          refine (wordAt_any _ _ _ _ (a + k) _ (by omega) rH).mono ?_
          rintro e wr ⟨rfl, rfl⟩
          have g2 : wr.cell? ⟨wz.heap.size, k, none⟩ = some (.int .i64 0) := by simpa using rN.cell hlt
          have g3 := rN.frozen k
          have J : Hid (Row (wr.setCell ⟨wz.heap.size, k, none⟩ (.int .i64 (M.v2 ((a + k) / 4) ((a + k) % 4)))) z 108 (hcell M.v1 M.v2 M.d) ∧ Row (wr.setCell ⟨wz.heap.size, k, none⟩ (.int .i64 (M.v2 ((a + k) / 4) ((a + k) % 4)))) wz.heap.size n (fun t => Value.int .i64 (if t < k + 1 then wordsFrom M.v2 a t else 0)) ∧ Blw w (wr.setCell ⟨wz.heap.size, k, none⟩ (.int .i64 (M.v2 ((a + k) / 4) ((a + k) % 4))))) :=
            ⟨rH.setOther (by show z ≠ wz.heap.size; omega) _, (rN.set k _).congr (fun t ht => by
              by_cases e : t = k
              · subst e; simp [wordsFrom]
              · have e2 : (t < k + 1) = (t < k) := by simp; omega
                simp [e, e2]), hb.setCell (by show w.heap.size ≤ wz.heap.size; omega) _⟩
          clear rH rN hb
          go_wp2
          go_roundw
          case rel => exact ⟨k + 1, by omega, by go_num, J.out⟩
          case measure => simp [intOf]; omega
        · obtain rfl : k = n := by omega
          have rlt := rN.lt
          go_wp2
          go_ret2
          exact ⟨_, k, _, wordsFrom M.v2 a, true, rfl, Or.inl ⟨GD.out, HT.out, by simp, rfl, rfl⟩, ⟨by omega, fun _ => ⟨_, ⟨by omega, rlt⟩, rfl, rN.congr (fun t ht => by simp [ht])⟩⟩, hb⟩
    · have NX : Hid (¬ stretch at_ many) := hst
      clear hst rH
      refine (isStretch_no _ _ _ NX.out).mono ?_
      rintro e wz ⟨rfl, rfl⟩
      go_wp2
      go_ret2
      exact zero_givesI (Or.inr ⟨fun g => NX.out g.2, rfl, rfl, rfl⟩) hbz
  · have NG : Hid (¬ M.Good) := bad
    clear bad
    go_wp2_with (refine wpList_store_row rfl 98 (.tmp 8) (.tmp 15) rfl w1.heap.size 0 Try.zeroCells98 rfl rfl 108 _ (hcell zeros zeros (fun _ => false)) r79 (by rw [size79]; omega) (by rw [size79]; exact info79) one79 cell79 ?_; intro wz qz1 qz2 qz3; have hz := held_facts' hb1 qz1 qz2 size79; obtain ⟨rH, hbz⟩ := hz; clear qz1 qz2 qz3 rH)
    go_ret2
    exact zero_givesI (Or.inr ⟨fun g => NG.out g.1, rfl, rfl, rfl⟩) hbz
end Go.Proofs.Ytnbcjdoohmjghaa
/- Rising lists of lines, and whether a list has a line. -/
namespace Go.Proofs.Ytnbcjdoohmjghaa
open Go.RowKit
set_option linter.unusedSimpArgs false
def riseAt (f : Nat → Int) (i : Nat) : Prop := (0 ≤ f i ∧ f i ≤ 11) ∧ (0 < i → f (i - 1) < f i)
def rising (n : Nat) (f : Nat → Int) : Prop := ∀ i, i < n → riseAt f i
def hasLine (n : Nat) (f : Nat → Int) (k : Nat) : Prop := ∃ t, t < n ∧ f t = k
set_option maxHeartbeats 1600000 in
theorem l1Rising_any (ao : Option Addr) (c n : Nat) (f : Nat → Int) (Y : Nat → Prop) (w : World) (h : IntsAt Y w ao n f) :
    Calls Try.prog 80 #[.slice ao n c, .int .i64 0, .int .i64 11] w fun e w' => ∃ b, e = .returned (.bool b) ∧ (b = true ↔ rising n f) ∧ w' = w := by
  obtain ⟨hn, h⟩ := h
  have HH : Hid (∀ i, i < n → ∃ b o, ao = some ⟨b, o, none⟩ ∧ Y b ∧ w.cell? ⟨b, o + i, none⟩ = some (.int .i64 (f i))) := h
  clear h
  go_enter Try.func80, Try.ntmps80
  go_wp2
  go_loopw [11] (fun i wr => ∃ k : Nat, k ≤ n ∧ i = .int .i64 k ∧ (∀ t, t < k → riseAt f t) ∧ wr = w) (fun i _ => n - (intOf i).toNat)
  case atStart => exact ⟨0, Nat.zero_le _, rfl, fun t ht => absurd ht (Nat.not_lt_zero _), rfl⟩
  case round =>
    obtain ⟨k, hk, rfl, hok, rfl⟩ := hrel
    have HO : Hid (∀ t, t < k → riseAt f t) := hok
    clear hok
    by_cases hlt : k < n
    · obtain ⟨b, o, rfl, -, g1⟩ := HH.out k hlt
      have hlt' : (k : Int) < n := by omega
      by_cases hr : 0 ≤ f k ∧ f k ≤ 11
      · have HR : Hid (0 ≤ f k ∧ f k ≤ 11) := hr
        clear hr
        cases k with
        | zero =>
          simp only [Nat.add_zero] at g1
          go_wp2_with fail
          refine (l1In_yes _ _ _ _ HR.out.1 HR.out.2).mono ?_
          rintro e wr ⟨rfl, rfl⟩
          go_wp2
          go_roundw
          case rel => exact ⟨1, by omega, by go_num, fun t ht => by obtain rfl : t = 0 := by omega
                                                                    exact ⟨HR.out, fun h0 => absurd h0 (Nat.lt_irrefl 0)⟩, by first | rfl | trivial⟩
          case measure => simp [intOf]; omega
        | succ j =>
          obtain ⟨b', o', e1, -, g2⟩ := HH.out j (by omega)
          simp only [Option.some.injEq, Addr.mk.injEq, and_true] at e1
          obtain ⟨rfl, rfl⟩ := e1
          have hj : (0 : Int) < ((j + 1 : Nat) : Int) := by omega
          have hj2 : (((j + 1 : Nat) : Int) - 1) = (j : Int) := by omega
          have hj3 : (j : Int) < n := by omega
          by_cases hl : f j < f (j + 1)
          · have d1 : decide (f j ≥ f (j + 1)) = false := by simp; omega
            go_wp2_with fail
            refine (l1In_yes _ _ _ _ HR.out.1 HR.out.2).mono ?_
            rintro e wr ⟨rfl, rfl⟩
            go_wp2
            go_roundw
            case rel => exact ⟨j + 1 + 1, by omega, by go_num, fun t ht => by
              by_cases e : t = j + 1
              · subst e; exact ⟨HR.out, fun _ => by simp only [Nat.add_sub_cancel]; omega⟩
              · exact HO.out t (by omega), by first | rfl | trivial⟩
            case measure => simp [intOf]; omega
          · have d1 : decide (f j ≥ f (j + 1)) = true := by simp; omega
            go_wp2_with fail
            refine (l1In_yes _ _ _ _ HR.out.1 HR.out.2).mono ?_
            rintro e wr ⟨rfl, rfl⟩
            go_wp2
            go_ret
            exact ⟨false, rfl, ⟨fun h => absurd h (by decide), fun h => by have h9 := (h (j + 1) (by omega)).2 (by omega)
                                                                           simp only [Nat.add_sub_cancel] at h9
                                                                           omega⟩, by first | rfl | trivial⟩
      · have HR : Hid (¬ (0 ≤ f k ∧ f k ≤ 11)) := hr
        clear hr
        go_wp2_with fail
        refine (l1In_no _ _ _ _ HR.out).mono ?_
        rintro e wr ⟨rfl, rfl⟩
        go_wp2
        go_ret
        exact ⟨false, rfl, ⟨fun h => absurd h (by decide), fun h => absurd (h k hlt).1 HR.out⟩, rfl⟩
    · obtain rfl : k = n := by omega
      go_wp2
      go_ret
      exact ⟨true, rfl, ⟨fun _ => HO.out, fun _ => rfl⟩, rfl⟩
set_option maxHeartbeats 1600000 in
theorem risingLines_any (ao : Option Addr) (c n : Nat) (f : Nat → Int) (Y : Nat → Prop) (w : World) (h : IntsAt Y w ao n f) :
    Calls Try.prog 77 #[.slice ao n c] w fun e w' => ∃ b, e = .returned (.bool b) ∧ (b = true ↔ rising n f) ∧ w' = w := by
  obtain ⟨hn, h⟩ := h
  have HH : Hid (∀ i, i < n → ∃ b o, ao = some ⟨b, o, none⟩ ∧ Y b ∧ w.cell? ⟨b, o + i, none⟩ = some (.int .i64 (f i))) := h
  clear h
  go_enter Try.func77, Try.ntmps77
  go_wp2
  go_loopw [7] (fun i wr => ∃ k : Nat, k ≤ n ∧ i = .int .i64 k ∧ (∀ t, t < k → riseAt f t) ∧ wr = w) (fun i _ => n - (intOf i).toNat)
  case atStart => exact ⟨0, Nat.zero_le _, rfl, fun t ht => absurd ht (Nat.not_lt_zero _), rfl⟩
  case round =>
    obtain ⟨k, hk, rfl, hok, rfl⟩ := hrel
    have HO : Hid (∀ t, t < k → riseAt f t) := hok
    clear hok
    by_cases hlt : k < n
    · obtain ⟨b, o, rfl, -, g1⟩ := HH.out k hlt
      have hlt' : (k : Int) < n := by omega
      by_cases hr : 0 ≤ f k ∧ f k ≤ 11
      · have HR : Hid (0 ≤ f k ∧ f k ≤ 11) := hr
        clear hr
        cases k with
        | zero =>
          simp only [Nat.add_zero] at g1
          go_wp2_with fail
          refine (isLine_yes _ _ HR.out.1 HR.out.2).mono ?_
          rintro e wr ⟨rfl, rfl⟩
          go_wp2
          go_roundw
          case rel => exact ⟨1, by omega, by go_num, fun t ht => by obtain rfl : t = 0 := by omega
                                                                    exact ⟨HR.out, fun h0 => absurd h0 (Nat.lt_irrefl 0)⟩, by first | rfl | trivial⟩
          case measure => simp [intOf]; omega
        | succ j =>
          obtain ⟨b', o', e1, -, g2⟩ := HH.out j (by omega)
          simp only [Option.some.injEq, Addr.mk.injEq, and_true] at e1
          obtain ⟨rfl, rfl⟩ := e1
          have hj : (0 : Int) < ((j + 1 : Nat) : Int) := by omega
          have hj2 : (((j + 1 : Nat) : Int) - 1) = (j : Int) := by omega
          have hj3 : (j : Int) < n := by omega
          by_cases hl : f j < f (j + 1)
          · have d1 : decide (f (j + 1) ≤ f j) = false := by simp; omega
            go_wp2_with fail
            refine (isLine_yes _ _ HR.out.1 HR.out.2).mono ?_
            rintro e wr ⟨rfl, rfl⟩
            go_wp2
            go_roundw
            case rel => exact ⟨j + 1 + 1, by omega, by go_num, fun t ht => by
              by_cases e : t = j + 1
              · subst e; exact ⟨HR.out, fun _ => by simp only [Nat.add_sub_cancel]; omega⟩
              · exact HO.out t (by omega), by first | rfl | trivial⟩
            case measure => simp [intOf]; omega
          · have d1 : decide (f (j + 1) ≤ f j) = true := by simp; omega
            go_wp2_with fail
            refine (isLine_yes _ _ HR.out.1 HR.out.2).mono ?_
            rintro e wr ⟨rfl, rfl⟩
            go_wp2
            go_ret
            exact ⟨false, rfl, ⟨fun h => absurd h (by decide), fun h => by have h9 := (h (j + 1) (by omega)).2 (by omega)
                                                                           simp only [Nat.add_sub_cancel] at h9
                                                                           omega⟩, by first | rfl | trivial⟩
      · have HR : Hid (¬ (0 ≤ f k ∧ f k ≤ 11)) := hr
        clear hr
        go_wp2_with fail
        refine (isLine_no _ _ HR.out).mono ?_
        rintro e wr ⟨rfl, rfl⟩
        go_wp2
        go_ret
        exact ⟨false, rfl, ⟨fun h => absurd h (by decide), fun h => absurd (h k hlt).1 HR.out⟩, rfl⟩
    · obtain rfl : k = n := by omega
      go_wp2
      go_ret
      exact ⟨true, rfl, ⟨fun _ => HO.out, fun _ => rfl⟩, rfl⟩
set_option maxHeartbeats 1600000 in
theorem l1Has_any (ao : Option Addr) (c n : Nat) (f : Nat → Int) (Y : Nat → Prop) (w : World) (x : Nat) (h : IntsAt Y w ao n f) :
    Calls Try.prog 126 #[.slice ao n c, .int .i64 x] w fun e w' => ∃ b, e = .returned (.bool b) ∧ (b = true ↔ hasLine n f x) ∧ w' = w := by
  obtain ⟨hn, h⟩ := h
  have HH : Hid (∀ i, i < n → ∃ b o, ao = some ⟨b, o, none⟩ ∧ Y b ∧ w.cell? ⟨b, o + i, none⟩ = some (.int .i64 (f i))) := h
  clear h
  go_enter Try.func126, Try.ntmps126
  go_wp2
  go_loopw [9] (fun i wr => ∃ k : Nat, k ≤ n ∧ i = .int .i64 k ∧ (∀ t, t < k → ¬ f t = x) ∧ wr = w) (fun i _ => n - (intOf i).toNat)
  case atStart => exact ⟨0, Nat.zero_le _, rfl, fun t ht => absurd ht (Nat.not_lt_zero _), rfl⟩
  case round =>
    obtain ⟨k, hk, rfl, hok, rfl⟩ := hrel
    have HO : Hid (∀ t, t < k → ¬ f t = x) := hok
    clear hok
    by_cases hlt : k < n
    · obtain ⟨b, o, rfl, -, g1⟩ := HH.out k hlt
      have hlt' : (k : Int) < n := by omega
      by_cases hr : f k = (x : Int)
      · have d1 : (f k == (x : Int)) = true := by simp [hr]
        go_wp2
        go_ret
        exact ⟨true, rfl, ⟨fun _ => ⟨k, hlt, hr⟩, fun _ => rfl⟩, rfl⟩
      · have d1 : (f k == (x : Int)) = false := by simp [hr]
        go_wp2
        go_roundw
        case rel => exact ⟨k + 1, by omega, by go_num, fun t ht => by
          by_cases e : t = k
          · subst e; exact hr
          · exact HO.out t (by omega), by first | rfl | trivial⟩
        case measure => simp [intOf]; omega
    · obtain rfl : k = n := by omega
      go_wp2
      go_ret
      exact ⟨false, rfl, ⟨fun h => absurd h (by decide), fun ⟨t, h1, h2⟩ => absurd h2 (HO.out t h1)⟩, rfl⟩
end Go.Proofs.Ytnbcjdoohmjghaa
/- 'spec.l1Fail': a line of the cache that is as its line of what is sure. -/
namespace Go.Proofs.Ytnbcjdoohmjghaa
open Go.RowKit
set_option linter.unusedSimpArgs false
theorem own_backed {X X1 X2 X3 : Nat → Prop} {w1 w2 : World} {sv cv : Nat → Nat → Int} {d : Nat → Bool} {a1 : Option Addr} {b2 b3 c1 c2 c3 i b cc N : Nat} {F k : Nat → Nat} (hi : i < 12)
    (h1 : ∀ b, X1 b → X b ∧ ¬ X2 b ∧ ¬ X3 b) (h2 : ∀ b, X2 b → X b ∧ ¬ X3 b) (h3 : ∀ b, X3 b → X b) (hX : ∀ b, X b → b < N) (hb : Blw w1 w2)
    (xb2 : X2 b2) (r2 : Row w1 b2 12 (fun i => .slice (some ⟨F i, 0, none⟩) 4 (k i)))
    (hl : ∀ i, i < 12 → 4 ≤ 9223372036854775807 ∧ X2 (F i) ∧ F i ≠ b2 ∧ Row w1 (F i) 4 (fun t => .int .i64 (cv i t))) (hd : ∀ i j, i < 12 → j < 12 → i ≠ j → F i ≠ F j)
    (s : LinesOwn X1 w1 a1 12 (fun _ => 4) sv) (xb3 : X3 b3) (r3 : Row w1 b3 12 (fun i => .bool (d i))) (hlo : N ≤ b) (hhi : b < w2.heap.size) (hrow : Row w2 b 4 (fun t => .int .i64 (sv i t))) :
    MemOwn (fun x => X x ∨ (N ≤ x ∧ x < ((w2.setCell ⟨b2, i, none⟩ (.slice (some ⟨b, 0, none⟩) 4 cc)).setCell ⟨b3, i, none⟩ (.bool false)).heap.size)) ((w2.setCell ⟨b2, i, none⟩ (.slice (some ⟨b, 0, none⟩) 4 cc)).setCell ⟨b3, i, none⟩ (.bool false)) ⟨a1, some ⟨b2, 0, none⟩, some ⟨b3, 0, none⟩, c1, c2, c3⟩ (MD.full sv (flS cv sv i) (flD d i)) := by
  have nX : ∀ x, X x → x ≠ b := fun x hx e => by have := hX x hx; omega
  have mA := Mod.setCell (X := fun x => x = b2) w2 (p := ⟨b2, i, none⟩) rfl (.slice (some ⟨b, 0, none⟩) 4 cc)
  have mB := Mod.setCell (X := fun x => x = b3) (w2.setCell ⟨b2, i, none⟩ (.slice (some ⟨b, 0, none⟩) 4 cc)) (p := ⟨b3, i, none⟩) rfl (.bool false)
  have n1 : ∀ x, X1 x → ¬ x = b3 := fun x hx e => (h1 x hx).2.2 (e ▸ xb3)
  have n2 : ∀ x, X2 x → ¬ x = b3 := fun x hx e => (h2 x hx).2 (e ▸ xb3)
  have n12 : ∀ x, X1 x → ¬ x = b2 := fun x hx e => (h1 x hx).2.1 (e ▸ xb2)
  have eb2 : b ≠ b2 := fun e => nX b2 (h2 _ xb2).1 e.symm
  have eb3 : b ≠ b3 := fun e => nX b3 (h3 _ xb3) e.symm
  refine ⟨X1, fun x => X2 x ∨ x = b, X3, fun x hx => ⟨Or.inl (h1 x hx).1, fun hh => hh.elim (h1 x hx).2.1 (nX x (h1 x hx).1), (h1 x hx).2.2⟩, fun x hx => ?_, fun x hx => Or.inl (h3 x hx), ((s.blw hb).mod mA n12).mod mB n1, ⟨by show 12 ≤ _; omega, fun _ => ⟨b2, fun t => if t = i then b else F t, fun t => if t = i then cc else k t, Or.inl xb2, rfl, ?_, fun t ht => ?_, fun t u ht hu htu => ?_⟩⟩, ⟨by show 12 ≤ _; omega, fun _ => ⟨b3, xb3, rfl, ?_⟩⟩⟩
  · rcases hx with hx | rfl
    · exact ⟨Or.inl (h2 x hx).1, (h2 x hx).2⟩
    · exact ⟨Or.inr ⟨hlo, by simpa [World.setCell] using hhi⟩, fun e => nX x (h3 x e) rfl⟩
  · exact (((r2.blw hb).set i (.slice (some ⟨b, 0, none⟩) 4 cc)).mod mB (n2 _ xb2)).congr (fun t ht => by
      show (if t = i then Value.slice (some ⟨b, 0, none⟩) 4 cc else .slice (some ⟨F t, 0, none⟩) 4 (k t)) = .slice (some ⟨if t = i then b else F t, 0, none⟩) 4 (if t = i then cc else k t)
      by_cases e : t = i <;> simp [e])
  · obtain ⟨-, xt, ht1, rt⟩ := hl t ht
    by_cases e : t = i
    · subst e
      simp only [if_true]
      exact ⟨by show 4 ≤ _; omega, Or.inr trivial, eb2, ((hrow.mod mA eb2).mod mB eb3).congr (fun j hj => by simp [flS, MD.full])⟩
    · simp only [if_neg e]
      exact ⟨by show 4 ≤ _; omega, Or.inl xt, ht1, (((rt.blw hb).mod mA ht1).mod mB (n2 _ xt)).congr (fun j hj => by simp [flS, MD.full, e])⟩
  · obtain ⟨-, xt, -, -⟩ := hl t ht
    obtain ⟨-, xu, -, -⟩ := hl u hu
    by_cases e : t = i
    · have e' : ¬ u = i := fun h => htu (e.trans h.symm)
      simp only [if_pos e, if_neg e']
      exact fun h => nX _ (h2 _ xu).1 h.symm
    · by_cases e' : u = i
      · simp only [if_neg e, if_pos e']
        exact nX _ (h2 _ xt).1
      · simp only [if_neg e, if_neg e']
        exact hd t u ht hu htu
  · exact (((r3.blw hb).mod mA (fun e => n2 _ xb2 e.symm)).set i (.bool false)).congr (fun t ht => by
      show (if t = i then Value.bool false else .bool (d t)) = .bool (flD d i t)
      unfold flD
      by_cases e : t = i <;> simp [e])
/-- What the store into the cache wants of an owned memory. -/
theorem back_facts {X : Nat → Prop} {W0 : World} {m : MV} {sv cv : Nat → Nat → Int} {d : Nat → Bool} {k : Nat} (h : MemOwn X W0 m (MD.full sv cv d)) (hX : ∀ b, X b → b < W0.heap.size) (hk : k < 12) :
    ∃ b1 F1 k1 b2 b3, m.a1 = some ⟨b1, 0, none⟩ ∧ m.a2 = some ⟨b2, 0, none⟩ ∧ m.a3 = some ⟨b3, 0, none⟩ ∧
      (∃ F kk : Nat → Nat, Row W0 b2 12 (fun i => .slice (some ⟨F i, 0, none⟩) 4 (kk i))) ∧
      (∀ w', Mod (fun x => x = b2) W0 w' → w'.cell? ⟨b1, k, none⟩ = some (.slice (some ⟨F1, 0, none⟩) 4 k1)) ∧
      (∀ w', Mod (fun x => x = b2) W0 w' → ∀ t, t < 4 → w'.cell? ⟨F1, 0 + t, none⟩ = some (.int .i64 (sv k t))) ∧
      (∀ w', Mod (fun x => x = b2) W0 w' → Row w' b3 12 (fun i => .bool (d i))) ∧ (X b2 ∧ X b3) ∧ True ∧
      ∀ w2 b cc c1 c2 c3, Blw W0 w2 → W0.heap.size ≤ b → b < w2.heap.size → Row w2 b 4 (fun t => .int .i64 (sv k t)) →
        MemOwn (fun x => X x ∨ (W0.heap.size ≤ x ∧ x < ((w2.setCell ⟨b2, k, none⟩ (.slice (some ⟨b, 0, none⟩) 4 cc)).setCell ⟨b3, k, none⟩ (.bool false)).heap.size)) ((w2.setCell ⟨b2, k, none⟩ (.slice (some ⟨b, 0, none⟩) 4 cc)).setCell ⟨b3, k, none⟩ (.bool false)) ⟨m.a1, some ⟨b2, 0, none⟩, some ⟨b3, 0, none⟩, c1, c2, c3⟩ (MD.full sv (flS cv sv k) (flD d k)) := by
  obtain ⟨X1, X2, X3, h1, h2, h3, s, c, d'⟩ := h.ex
  have s0 := s
  obtain ⟨b1, F1, k1, xb1, e1, r1, hl1, hd1⟩ := s.2 (by show 0 < 12; omega)
  obtain ⟨b2, F2, k2, xb2, e2, r2, hl2, hd2⟩ := c.2 (by show 0 < 12; omega)
  obtain ⟨b3, xb3, e3, r3⟩ := d'.2 (by show 0 < 12; omega)
  have n12 : ∀ x, X1 x → ¬ x = b2 := fun x hx e => (h1 x hx).2.1 (e ▸ xb2)
  refine ⟨b1, F1 k, k1 k, b2, b3, e1, e2, e3, ⟨F2, k2, r2⟩, fun w' hS => (r1.mod hS (n12 _ xb1)).cell hk, fun w' hS t ht => ?_, fun w' hS => r3.mod hS (fun e => (h2 _ xb2).2 (e ▸ xb3)), ⟨(h2 _ xb2).1, h3 _ xb3⟩, trivial, fun w2 b cc c1 c2 c3 hb hlo hhi hrow => own_backed (cc := cc) hk h1 h2 h3 hX hb xb2 r2 hl2 hd2 s0 xb3 r3 hlo hhi hrow⟩
  rw [Nat.zero_add]
  exact ((hl1 k hk).2.2.2.mod hS (n12 _ (hl1 k hk).2.1)).cell ht
theorem Mine.next {w wr w' : World} {z : Nat} {m : MV} {s c s' c' : Nat → Nat → Int} {d d' : Nat → Bool} {X : Nat → Prop} (h : Mine w wr z m s c d) (hx : ∀ b, X b → w.heap.size + 1 < b ∧ b < wr.heap.size ∧ b ≠ z) (own : MemOwn (fun b => X b ∨ (wr.heap.size ≤ b ∧ b < w'.heap.size)) w' m (MD.full s' c' d')) (hm : Mod X wr w') : Mine w w' z m s' c' d' := by
  have hzl := h.box.lt
  have hr := h.res.lt
  have hs := hm.size
  have hzz := h.zz
  refine ⟨⟨_, own, fun b hb => ?_⟩, h.box.mod hm (fun e => (hx z e).2.2 rfl), h.res.mod hm (fun e => by have := (hx _ e).1; omega), Mod.blw h.blw hm (fun i hi => by have := (hx i hi).1; omega), h.zz⟩
  rcases hb with hb | hb
  · have := hx b hb
    exact ⟨by omega, by omega, this.2.2⟩
  · exact ⟨by omega, by omega, by omega⟩
open Classical in
/-- The first k lines behind a failure, those of P kept. -/
noncomputable def fpS (s c : Nat → Nat → Int) (P : Nat → Prop) (k : Nat) : Nat → Nat → Int := fun i j => if i < k then (if P i then c i j else s i j) else s i j
open Classical in
noncomputable def fpC (s c : Nat → Nat → Int) (P : Nat → Prop) (k : Nat) : Nat → Nat → Int := fun i j => if i < k then (if P i then c i j else s i j) else c i j
theorem fpS_zero (s c : Nat → Nat → Int) (P : Nat → Prop) : fpS s c P 0 = s := by
  funext i j
  simp [fpS]
theorem fpC_zero (s c : Nat → Nat → Int) (P : Nat → Prop) : fpC s c P 0 = c := by
  funext i j
  simp [fpC]
theorem fpS_yes {s c : Nat → Nat → Int} {P : Nat → Prop} {k : Nat} (h : P k) : flS (fpS s c P k) (fpC s c P k) k = fpS s c P (k + 1) := by
  funext i j
  unfold flS fpS fpC
  by_cases e : i = k
  · subst e
    simp [h]
  · by_cases h2 : i < k
    · have h3 : i < k + 1 := by omega
      simp [e, h2, h3]
    · have h3 : ¬ i < k + 1 := by omega
      simp [e, h2, h3]
theorem fpS_no {s c : Nat → Nat → Int} {P : Nat → Prop} {k : Nat} (h : ¬ P k) : fpS s c P k = fpS s c P (k + 1) := by
  funext i j
  unfold fpS
  by_cases e : i = k
  · subst e
    simp [h]
  · by_cases h2 : i < k
    · have h3 : i < k + 1 := by omega
      simp [h2, h3]
    · have h3 : ¬ i < k + 1 := by omega
      simp [h2, h3]
theorem fpC_next {s c : Nat → Nat → Int} {P : Nat → Prop} {k : Nat} : flS (fpC s c P k) (fpS s c P (k + 1)) k = fpC s c P (k + 1) := by
  funext i j
  unfold flS fpS fpC
  by_cases e : i = k
  · subst e
    by_cases hp : P i <;> simp [hp]
  · by_cases h2 : i < k
    · have h3 : i < k + 1 := by omega
      simp [e, h2, h3]
    · have h3 : ¬ i < k + 1 := by omega
      simp [e, h2, h3]
theorem flD_twice (d : Nat → Bool) (k : Nat) : flD (flD d k) k = flD d k := by
  funext i
  unfold flD
  by_cases e : i = k <;> simp [e]
end Go.Proofs.Ytnbcjdoohmjghaa
