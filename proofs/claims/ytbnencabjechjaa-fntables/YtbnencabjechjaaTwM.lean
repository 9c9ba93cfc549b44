/- Tables that are drawn. -/
import Derived.Test.YtbnencabjechjaaDraw
import Derived.Test.YtbnencabjechjaaSpecMp
import Derived.Test.YtbnencabjechjaaSpecUn
import Derived.Test.YtbnencabjechjaaNewS
namespace Go.Proofs.Ytbnencabjechjaa
open Go.RowKit
set_option linter.unusedSimpArgs false
set_option linter.unusedVariables false
theorem Mod.newer' {X Z : Nat → Prop} {a b c : World} (h : Mod X a b) (k : Mod Z b c) (hz : ∀ i, Z i → a.heap.size ≤ i) : Mod X a c :=
  ⟨k.os.trans h.os, k.tape.trans h.tape, k.output.trans h.output, Nat.le_trans h.size k.size, fun i hi hx => (k.block i (Nat.lt_of_lt_of_le hi h.size) (fun e => by have := hz i e; omega)).trans (h.block i hi hx)⟩
abbrev bx2 (b : BV) (n k : Nat) : Nat → Value := fun i => if i = 0 then .slice b.a1 n b.c1 else .slice b.a2 k b.c2
abbrev T4 (c : Nat → Int) (kn : Nat) (p m : Nat → Nat → Int) : BD := ⟨4, c, ⟨kn, fun _ => 4, p, m⟩⟩
/-- A table that is being drawn: its box at zs; no block of E is its own. -/
structure TA (Y : Nat → Prop) (w wr : World) (C k zs : Nat) (E : Nat → Prop) (b : BV) (c : Nat → Int) (kn : Nat) (p m : Nat → Nat → Int) : Prop where
  mod : Mod (fun b => b = C) w wr
  cur : Cur Y wr C k
  out : Row wr w.heap.size 2 (fun i => if i = 0 then .slice none 0 0 else .slice none 0 0)
  zl : w.heap.size < zs ∧ zs < wr.heap.size
  box : Row wr zs 2 (bx2 b 4 kn)
  own : BookOwn (fun x => w.heap.size < x ∧ x < wr.heap.size ∧ x ≠ zs ∧ ¬ E x) wr b (T4 c kn p m)
  kn : 1 ≤ kn ∧ kn ≤ 4
def NoE : Nat → Prop := fun _ => False
def OnE (z : Nat) : Nat → Prop := fun x => x = z
def Tw (Y : Nat → Prop) (w wr : World) (C k zs : Nat) : Prop := ∃ b c kn p m, TA Y w wr C k zs NoE b c kn p m
theorem TA.go {Y : Nat → Prop} {w wr : World} {C k zs : Nat} {E : Nat → Prop} {b : BV} {c : Nat → Int} {kn : Nat} {p m : Nat → Nat → Int} {w1 : World} {k' : Nat} (hC : C < w.heap.size) (h : TA Y w wr C k zs E b c kn p m) (hc : Cur Y w1 C k') (hm : Mod (fun b => b = C) wr w1) : TA Y w w1 C k' zs E b c kn p m := by
  have hs := hm.size
  have hz := h.zl
  exact ⟨h.mod.trans hm, hc, h.out.mod hm (by omega), by omega, h.box.mod hm (by omega), (h.own.mod hm (fun x hx e => by omega)).mono (fun x hx => ⟨hx.1, by omega, hx.2.2⟩), h.kn⟩
theorem TA.blw {Y : Nat → Prop} {w wr : World} {C k zs : Nat} {E : Nat → Prop} {b : BV} {c : Nat → Int} {kn : Nat} {p m : Nat → Nat → Int} {w1 : World} (h : TA Y w wr C k zs E b c kn p m) (hb : Blw wr w1) : TA Y w w1 C k zs E b c kn p m := by
  have hs := hb.size
  have hz := h.zl
  exact ⟨h.mod.trans (hb.mod _), h.cur.blw hb, h.out.blw hb, by omega, h.box.blw hb, (h.own.blw hb).mono (fun x hx => ⟨hx.1, by omega, hx.2.2⟩), h.kn⟩
theorem TA.le {Y : Nat → Prop} {w wr : World} {C k zs : Nat} {E : Nat → Prop} {b : BV} {c : Nat → Int} {kn : Nat} {p m : Nat → Nat → Int} {k' : Nat} (h : TA Y w wr C k zs E b c kn p m) (hk : k ≤ k') : TA Y w wr C k' zs E b c kn p m := ⟨h.mod, h.cur.le hk, h.out, h.zl, h.box, h.own, h.kn⟩
theorem TA.free {Y : Nat → Prop} {w wr : World} {C k zs : Nat} {E : Nat → Prop} {b : BV} {c : Nat → Int} {kn : Nat} {p m : Nat → Nat → Int} (h : TA Y w wr C k zs E b c kn p m) : TA Y w wr C k zs NoE b c kn p m := ⟨h.mod, h.cur, h.out, h.zl, h.box, h.own.mono (fun x hx => ⟨hx.1, hx.2.1, hx.2.2.1, id⟩), h.kn⟩
/-- A new block, not of the table's own. -/
theorem TA.alloc {Y : Nat → Prop} {w wr : World} {C k zs : Nat} {E : Nat → Prop} {b : BV} {c : Nat → Int} {kn : Nat} {p m : Nat → Nat → Int} (h : TA Y w wr C k zs E b c kn p m) (o : Obj) : TA Y w (wr.alloc o) C k zs (OnE wr.heap.size) b c kn p m := by
  have hb : Blw wr (wr.alloc o) := (Blw.refl _).alloc _
  have hz := h.zl
  exact ⟨h.mod.trans (hb.mod _), h.cur.blw hb, h.out.blw hb, by rw [World.size_alloc]; omega, h.box.blw hb, (h.own.blw hb).mono (fun x hx => ⟨hx.1, by rw [World.size_alloc]; omega, hx.2.2.1, fun e => by have e' : x = wr.heap.size := e; omega⟩), h.kn⟩
/-- A new table, its box at zb. -/
def Got (Y : Nat → Prop) (w : World) (C k zs : Nat) (b : BV) (c : Nat → Int) (kn : Nat) (p m : Nat → Nat → Int) (v1 v2 : Value) (wx : World) : Prop :=
  ∃ (zb : Nat) (b3 : BV) (R : BD) (r : Bool), v1 = .pointer (some ⟨zb, 0, none⟩) ∧ v2 = .bool r ∧ TA Y w wx C k zs NoE b c kn p m ∧ Row wx zb 2 (bx2 b3 R.n R.D.n) ∧ zb ≠ zs ∧ w.heap.size < zb ∧ (r = true → ∃ c' p' m', R = T4 c' kn p' m') ∧ BookOwn (fun x => w.heap.size < x ∧ x < wx.heap.size ∧ x ≠ zs) wx b3 R
theorem row2_set {w : World} {z : Nat} {u v a b : Value} (h : Row w z 2 (fun i => if i = 0 then u else v)) : Row ((w.setCell ⟨z, 0, none⟩ a).setCell ⟨z, 1, none⟩ b) z 2 (fun i => if i = 0 then a else b) :=
  ((h.set 0 _).set 1 _).congr (fun i hi => by
    match i, hi with
    | 0, _ => rfl
    | 1, _ => rfl)
theorem got_fin {Y : Nat → Prop} {w W : World} {C k zs : Nat} {b : BV} {c : Nat → Int} {kn : Nat} {p m : Nat → Nat → Int} {zb : Nat} {b3 : BV} {R : BD} {r : Bool} (hC : C < w.heap.size) (hY : ∀ x, Y x → x < w.heap.size) (h : TA Y w W C k zs (OnE zb) b c kn p m) (hz : Row W zb 2 (fun i => if i = 0 then .slice none 0 0 else .slice none 0 0)) (hzb : zb ≠ zs ∧ w.heap.size < zb) (hr : r = true → ∃ c' p' m', R = T4 c' kn p' m') (own : BookOwn (fun x => w.heap.size < x ∧ x < W.heap.size ∧ x ≠ zs ∧ ¬ OnE zb x) W b3 R) :
    Got Y w C k zs b c kn p m (.pointer (some ⟨zb, 0, none⟩)) (.bool r) ((W.setCell ⟨zb, 0, none⟩ (.slice b3.a1 R.n b3.c1)).setCell ⟨zb, 1, none⟩ (.slice b3.a2 R.D.n b3.c2)) := by
  have ms := set2_mod (X := fun x => x = zb) W rfl (.slice b3.a1 R.n b3.c1) (.slice b3.a2 R.D.n b3.c2)
  have hs := ms.size
  have hzl := h.zl
  refine ⟨zb, b3, R, r, rfl, rfl, ⟨h.mod.newer' ms (fun i hi => by omega), h.cur.mod ms (by omega) (fun x hx e => by have := hY x hx; omega), h.out.mod ms (by omega), by omega, h.box.mod ms (by omega), (h.own.mod ms (fun x hx e => hx.2.2.2 e)).mono (fun x hx => ⟨hx.1, by omega, hx.2.2.1, id⟩), h.kn⟩, row2_set hz, hzb.1, hzb.2, hr, (own.mod ms (fun x hx e => hx.2.2.2 e)).mono (fun x hx => ⟨hx.1, by omega, hx.2.2.1⟩)⟩
theorem got_yes {Y : Nat → Prop} {w wx : World} {C k zs : Nat} {b : BV} {c : Nat → Int} {kn : Nat} {p m : Nat → Nat → Int} {b3 : BV} {R : BD} (hC : C < w.heap.size) (hY : ∀ x, Y x → x < w.heap.size) (h : TA Y w wx C k zs NoE b c kn p m) (hn : ∃ c' p' m', R = T4 c' kn p' m') (own : BookOwn (fun x => w.heap.size < x ∧ x < wx.heap.size ∧ x ≠ zs) wx b3 R) :
    Tw Y w ((wx.setCell ⟨zs, 0, none⟩ (.slice b3.a1 R.n b3.c1)).setCell ⟨zs, 1, none⟩ (.slice b3.a2 R.D.n b3.c2)) C k zs := by
  obtain ⟨c', p', m', rfl⟩ := hn
  show Tw Y w ((wx.setCell ⟨zs, 0, none⟩ (.slice b3.a1 4 b3.c1)).setCell ⟨zs, 1, none⟩ (.slice b3.a2 kn b3.c2)) C k zs
  have ms := set2_mod (X := fun x => x = zs) wx rfl (.slice b3.a1 4 b3.c1) (.slice b3.a2 kn b3.c2)
  have hs := ms.size
  have hzl := h.zl
  exact ⟨b3, c', kn, p', m', ⟨h.mod.newer' ms (fun i hi => by omega), h.cur.mod ms (by omega) (fun x hx e => by have := hY x hx; omega), h.out.mod ms (by omega), by omega, row2_set h.box, (own.mod ms (fun x hx e => by omega)).mono (fun x hx => ⟨hx.1, by omega, hx.2.2, id⟩), h.kn⟩⟩
theorem TA.put {Y : Nat → Prop} {w W W2 : World} {C k zs : Nat} {b : BV} {c : Nat → Int} {kn : Nat} {p m : Nat → Nat → Int} {y : Nat} {c' : Nat → Int} {p' m' : Nat → Nat → Int} (h : TA Y w W C k zs NoE b c kn p m) (hC : C < w.heap.size) (hY : ∀ x, Y x → x < w.heap.size) (hy : w.heap.size < y ∧ y < W.heap.size ∧ y ≠ zs) (ms : Mod (fun x => x = y) W W2) (own : BookOwn (fun x => w.heap.size < x ∧ x < W.heap.size ∧ x ≠ zs ∧ ¬ NoE x) W2 b (T4 c' kn p' m')) : TA Y w W2 C k zs NoE b c' kn p' m' := by
  have hs := ms.size
  have hzl := h.zl
  exact ⟨h.mod.newer' ms (fun i hi => by omega), h.cur.mod ms (by omega) (fun x hx e => by have := hY x hx; omega), h.out.mod ms (by omega), by omega, h.box.mod ms (by omega), own.mono (fun x hx => ⟨hx.1, by omega, hx.2.2⟩), h.kn⟩
theorem tw_fin {Y : Nat → Prop} {w W : World} {C k zs : Nat} {b : BV} {c : Nat → Int} {kn : Nat} {p m : Nat → Nat → Int} {K : Nat} (hC : C < w.heap.size) (hY : ∀ x, Y x → x < w.heap.size) (h : TA Y w W C k zs NoE b c kn p m) (hk : k ≤ K) :
    BookOwn (fun x => w.heap.size < x ∧ x < ((W.setCell ⟨w.heap.size, 0, none⟩ (.slice b.a1 4 b.c1)).setCell ⟨w.heap.size, 1, none⟩ (.slice b.a2 kn b.c2)).heap.size) ((W.setCell ⟨w.heap.size, 0, none⟩ (.slice b.a1 4 b.c1)).setCell ⟨w.heap.size, 1, none⟩ (.slice b.a2 kn b.c2)) b (T4 c kn p m) ∧ Cur Y ((W.setCell ⟨w.heap.size, 0, none⟩ (.slice b.a1 4 b.c1)).setCell ⟨w.heap.size, 1, none⟩ (.slice b.a2 kn b.c2)) C K ∧ Mod (fun b => b = C) w ((W.setCell ⟨w.heap.size, 0, none⟩ (.slice b.a1 4 b.c1)).setCell ⟨w.heap.size, 1, none⟩ (.slice b.a2 kn b.c2)) := by
  have ms := set2_mod (X := fun x => x = w.heap.size) W rfl (.slice b.a1 4 b.c1) (.slice b.a2 kn b.c2)
  have hs := ms.size
  have hzl := h.zl
  exact ⟨(h.own.mod ms (fun x hx e => by omega)).mono (fun x hx => by omega), (h.cur.mod ms (by omega) (fun x hx e => by have := hY x hx; omega)).le hk, h.mod.newer' ms (fun i hi => by omega)⟩
theorem ch_shape {c : Nat → Int} {kn : Nat} {p m : Nat → Nat → Int} {a : Int} {P : Int → Int → Prop} {G : Int → Int} {y : Int} {R : BD} {r : Bool} (h : chOut (T4 c kn p m) a P G y R r) : r = true → ∃ c' p' m', R = T4 c' kn p' m' := by
  intro e
  rcases h with ⟨_, ⟨q, _, rfl⟩, _⟩ | ⟨_, _, e2⟩
  · exact ⟨_, _, _, rfl⟩
  · rw [e2] at e; cases e
theorem wrap1 (x : Nat) (h : (x : Int) < 1000) : IntKind.i64.wrap (1 + (x : Int)) = 1 + (x : Int) := by rw [IntKind.wrap_i64] <;> omega
theorem table_owned {X : Nat → Prop} {w : World} {b : BV} {c : Nat → Int} {kn : Nat} {p m : Nat → Nat → Int} (h : BookOwn X w b (T4 c kn p m)) (x : Int) :
    ∃ y, b.a1 = some ⟨y, 0, none⟩ ∧ X y ∧ w.cell? ⟨y, 0, none⟩ = some (.int .i64 (c 0)) ∧ w.frozen? ⟨y, 0, none⟩ = false ∧ BookOwn X (w.setCell ⟨y, 0, none⟩ (.int .i64 x)) b (T4 (upd c 0 x) kn p m) := by
  obtain ⟨X1, X2, d1, d2, hc, hl⟩ := h.ex
  obtain ⟨y, hy, ea, r⟩ := hc.2 (by show 0 < 4; omega)
  have nm : Mod (fun z => z = y) w (w.setCell ⟨y, 0, none⟩ (.int .i64 x)) := Mod.setCell (X := fun z => z = y) _ (p := ⟨y, 0, none⟩) rfl _
  refine ⟨y, ea, (d1 y hy).1, r.cell (i := 0) (by show 0 < 4; omega), r.frozen 0, X1, X2, d1, d2, ⟨by show 4 ≤ _; omega, fun _ => ⟨y, hy, ea, (r.set 0 _).congr (fun i hi => ?_)⟩⟩, hl.mod nm (fun z hz e => by subst e; exact (d1 z hy).2 hz)⟩
  by_cases e : i = 0
  · subst e; simp [upd]
  · simp [e, upd]
theorem table_leaf {X : Nat → Prop} {w : World} {b : BV} {c : Nat → Int} {kn : Nat} {p m : Nat → Nat → Int} (hk : 1 ≤ kn) (h : BookOwn X w b (T4 c kn p m)) :
    ∃ bl A C gb, b.a2 = some ⟨bl, 0, none⟩ ∧ w.cell? ⟨bl, 0, none⟩ = some (.slice (some ⟨gb, 0, none⟩) 4 C) ∧ X gb ∧ X bl ∧ gb ≠ bl ∧ A = gb ∧ w.cell? ⟨gb, 0, none⟩ = some (.int .i64 (p 0 0)) ∧ w.cell? ⟨gb, 1, none⟩ = some (.int .i64 (m 0 0)) ∧ w.frozen? ⟨gb, 0, none⟩ = false ∧ w.frozen? ⟨gb, 1, none⟩ = false ∧ ∀ x y : Int, BookOwn X ((w.setCell ⟨gb, 0, none⟩ (.int .i64 x)).setCell ⟨gb, 1, none⟩ (.int .i64 y)) b (T4 c kn (upd2 p 0 0 x) (upd2 m 0 0 y)) := by
  obtain ⟨X1, X2, d1, d2, hc, hl⟩ := h.ex
  obtain ⟨bl, A, Cc, Z, ea, hp⟩ := hl.2 hk
  obtain ⟨gb, eA, hX, hne, hr8, hs2, -⟩ := psin_leaf (q := 0) (j := 0) hp (by show 0 < kn; omega) (by omega)
  have c0 := hp.row.cell (i := 0) (by show 0 < kn; omega)
  dsimp only at c0
  rw [eA] at c0
  refine ⟨bl, gb, Cc 0, gb, ea, c0, d2 gb hX, d2 bl hp.hb, hne, rfl, by rw [hr8.cell (i := 0) (by omega)]; exact congrArg some (uc_at (p 0) (m 0) 0).1, by rw [hr8.cell (i := 1) (by omega)]; exact congrArg some (uc_at (p 0) (m 0) 0).2, hr8.frozen 0, hr8.frozen 1, fun x y => ?_⟩
  have nm : Mod (fun z => z = gb) w ((w.setCell ⟨gb, 0, none⟩ (.int .i64 x)).setCell ⟨gb, 1, none⟩ (.int .i64 y)) := set2_mod (X := fun z => z = gb) w rfl _ _
  exact ⟨X1, X2, d1, d2, ⟨hc.1, fun h0 => let ⟨g, hg, e, r⟩ := hc.2 h0; ⟨g, hg, e, r.mod nm (fun e2 => (d1 g hg).2 (e2 ▸ hX))⟩⟩, ⟨hl.1, fun _ => ⟨bl, A, Cc, Z, ea, hs2 x y⟩⟩⟩
end Go.Proofs.Ytbnencabjechjaa
