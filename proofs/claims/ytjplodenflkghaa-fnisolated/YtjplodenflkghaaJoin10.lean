/- Merged by program, in this order: Draw, TwM, Tw. -/
import Derived.Laws.BitsAllLaws
import Derived.Test.YtjplodenflkghaaJoin9
/- The cursor that draws. -/
namespace Go.Proofs.Ytjplodenflkghaa
open Go.RowKit
set_option linter.unusedSimpArgs false
set_option linter.unusedVariables false
theorem box3 (w : World) (a b c : Value) (t : TypeId) : Row (w.alloc (.cells #[a, b, c] t)) w.heap.size 3 (fun i => if i = 0 then a else if i = 1 then b else c) :=
  ⟨_, t, heap_alloc_new _ _, by simp, fun i hi => by
    match i, hi with
    | 0, _ => rfl
    | 1, _ => rfl
    | 2, _ => rfl⟩
/-- The three blocks that a function over a memory lays first: its argument, its result, a local one. -/
theorem set3_0 {w : World} {B : Nat} {a b c : Value} (r : Row w B 3 (fun i => if i = 0 then a else if i = 1 then b else c)) (u : Value) : Row (w.setCell ⟨B, 0, none⟩ u) B 3 (fun i => if i = 0 then u else if i = 1 then b else c) :=
  (r.set 0 u).congr fun i _ => by by_cases e : i = 0 <;> simp [e]
theorem set3_1 {w : World} {B : Nat} {a b c : Value} (r : Row w B 3 (fun i => if i = 0 then a else if i = 1 then b else c)) (u : Value) : Row (w.setCell ⟨B, 1, none⟩ u) B 3 (fun i => if i = 0 then a else if i = 1 then u else c) :=
  (r.set 1 u).congr fun i _ => by by_cases e : i = 1 <;> simp [e]
theorem set3_2 {w : World} {B : Nat} {a b c : Value} (r : Row w B 3 (fun i => if i = 0 then a else if i = 1 then b else c)) (u : Value) : Row (w.setCell ⟨B, 2, none⟩ u) B 3 (fun i => if i = 0 then a else if i = 1 then b else u) :=
  (r.set 2 u).congr fun i hi => by
    match i, hi with
    | 0, _ => rfl
    | 1, _ => rfl
    | 2, _ => rfl
theorem get3 {w : World} {B : Nat} {a b c : Value} (r : Row w B 3 (fun i => if i = 0 then a else if i = 1 then b else c)) : w.cell? ⟨B, 0, none⟩ = some a ∧ w.cell? ⟨B, 1, none⟩ = some b ∧ w.cell? ⟨B, 2, none⟩ = some c :=
  ⟨r.cell (i := 0) (by omega), r.cell (i := 1) (by omega), r.cell (i := 2) (by omega)⟩
/-- A cursor at block C that has read at most k times, its bytes in blocks of Y. -/
def Cur (Y : Nat → Prop) (w : World) (C k : Nat) : Prop :=
  ∃ (ao : Option Addr) (n c at_ : Nat) (f : Nat → Int) (s : Int), Row w C 3 (fun i => if i = 0 then Value.slice ao n c else if i = 1 then .int .i64 at_ else .int .u64 s) ∧ BytesAt Y w ao n f ∧ at_ ≤ k ∧ (∀ b, Y b → b ≠ C)
theorem low8 (n : Int) : ∃ x : Nat, x ≤ 255 ∧ wrap64 (bits .and .u64 (IntKind.u64.wrap n / 1099511627776) 255) = x := by
  have h : IntKind.u64.wrap n = n % 18446744073709551616 := by simp [IntKind.wrap, IntKind.bits, IntKind.signed]
  rw [h, u64_and _ _ (by omega) (by omega) (by omega) (by omega)]
  have hle : (n % 18446744073709551616 / 1099511627776).toNat &&& (255 : Int).toNat ≤ 255 := Nat.and_le_right
  refine ⟨_, hle, ?_⟩
  unfold wrap64
  omega
/-- A read: the cursor goes on. -/
theorem cur_step {Y : Nat → Prop} {w : World} {C k n c at_ : Nat} {ao : Option Addr} {f : Nat → Int} {s : Int} (r : Row w C 3 (fun i => if i = 0 then Value.slice ao n c else if i = 1 then .int .i64 at_ else .int .u64 s)) (hB : BytesAt Y w ao n f) (hat : at_ ≤ k) (hY : ∀ b, Y b → b ≠ C) (a b : Nat) (s' : Int) :
    Cur Y ((((w.drewN a).setCell ⟨C, 1, none⟩ (.int .i64 ((at_ : Int) + 1))).setCell ⟨C, 2, none⟩ (.int .u64 s')).drewN b) C (k + 1) ∧ Mod (fun b => b = C) w ((((w.drewN a).setCell ⟨C, 1, none⟩ (.int .i64 ((at_ : Int) + 1))).setCell ⟨C, 2, none⟩ (.int .u64 s')).drewN b) := by
  have m1 : Mod (fun b => b = C) w (w.drewN a) := ((Blw.refl w).drewN a).mod _
  have m2 := (m1.trans (Mod.setCell (X := fun b => b = C) _ (p := ⟨C, 1, none⟩) rfl (.int .i64 ((at_ : Int) + 1)))).trans (Mod.setCell (X := fun b => b = C) _ (p := ⟨C, 2, none⟩) rfl (.int .u64 s'))
  have m3 := m2.trans (((Blw.refl _).drewN b).mod (fun b => b = C))
  refine ⟨⟨ao, n, c, at_ + 1, f, s', ?_, hB.mod m3 (fun x hx => hY x hx), by omega, hY⟩, m3⟩
  refine ((((r.blw ((Blw.refl w).drewN a)).set 1 _).set 2 _).blw ((Blw.refl _).drewN b)).congr (fun i hi => ?_)
  match i, hi with
  | 0, _ => rfl
  | 1, _ => simp
  | 2, _ => rfl
set_option maxRecDepth 10000 in
set_option maxHeartbeats 1600000 in
theorem next_any (Y : Nat → Prop) (C k : Nat) (w : World) (hk : k ≤ 1000000) (h : Cur Y w C k) :
    Calls Try.prog 138 #[.pointer (some ⟨C, 0, none⟩)] w fun e w' => ∃ x : Nat, e = .returned (.int .i64 x) ∧ x ≤ 255 ∧ Cur Y w' C (k + 1) ∧ Mod (fun b => b = C) w w' := by
  obtain ⟨ao, n, c, at_, f, s, r, hB, hat, hY⟩ := h
  have hn := hB.1
  have HB : Hid (BytesAt Y w ao n f) := hB
  obtain ⟨p0, p1, p2⟩ := get3 r
  have f0 := r.frozen 0
  have f1 := r.frozen 1
  have f2 := r.frozen 2
  have HN : Hid _ := fun a b s' => cur_step r hB hat hY a b s'
  clear hB r
  go_enter Try.func138, Try.ntmps138
  by_cases hlt : at_ < n
  · have hlt' : (at_ : Int) < n := by omega
    have d1 : decide ((at_ : Int) < n) = true := by simp; omega
    obtain ⟨b, o, rfl, -, q, x0, x1⟩ := HB.out.2 at_ hlt
    go_wp2_with fail
    go_quiet (fail)
    go_wp2_with fail
    go_quiet (fail)
    have d2 : decide ((at_ : Int) + 1 ≤ n) = true := by simp; omega
    go_wp2_with fail
    go_quiet (fail)
    go_wp2
    go_ret
    obtain ⟨x, hx⟩ := Int.eq_ofNat_of_zero_le x0
    exact ⟨x, by rw [← hx]; rfl, by omega, HN.out _ _ _⟩
  · have d1 : decide ((at_ : Int) < n) = false := by simp; omega
    have d2 : decide ((at_ : Int) + 1 ≤ n) = false := by simp; omega
    go_wp2_with fail
    go_quiet (fail)
    go_wp2_with fail
    go_quiet (fail)
    go_wp2
    go_ret
    obtain ⟨x, hx, e⟩ := low8 (IntKind.u64.wrap (IntKind.u64.wrap (s * 6364136223846793005)) + 1442695040888963407)
    exact ⟨x, by rw [← e]; rfl, hx, HN.out _ _ _⟩
theorem Cur.le {Y : Nat → Prop} {w : World} {C k k' : Nat} (h : Cur Y w C k) (hk : k ≤ k') : Cur Y w C k' := by
  obtain ⟨ao, n, c, at_, f, s, r, hB, hat, hY⟩ := h
  exact ⟨ao, n, c, at_, f, s, r, hB, by omega, hY⟩
theorem Cur.blw {Y : Nat → Prop} {w w' : World} {C k : Nat} (h : Cur Y w C k) (hb : Blw w w') : Cur Y w' C k := by
  obtain ⟨ao, n, c, at_, f, s, r, hB, hat, hY⟩ := h
  exact ⟨ao, n, c, at_, f, s, r.blw hb, hB.blw hb, hat, hY⟩
theorem Cur.mod {X Y : Nat → Prop} {w w' : World} {C k : Nat} (h : Cur Y w C k) (hb : Mod X w w') (hC : ¬ X C) (hx : ∀ b, Y b → ¬ X b) : Cur Y w' C k := by
  obtain ⟨ao, n, c, at_, f, s, r, hB, hat, hY⟩ := h
  exact ⟨ao, n, c, at_, f, s, r.mod hb hC, hB.mod hb hx, hat, hY⟩
theorem Cur.lt {Y : Nat → Prop} {w : World} {C k : Nat} (h : Cur Y w C k) : C < w.heap.size := by
  obtain ⟨ao, n, c, at_, f, s, r, _⟩ := h
  exact r.lt
set_option maxHeartbeats 1600000 in
theorem pick_any (Y : Nat → Prop) (C k : Nat) (N : Int) (w : World) (hk : k ≤ 900000) (hN : 1 < N) (h : Cur Y w C k) :
    Calls Try.prog 78 #[.pointer (some ⟨C, 0, none⟩), .int .i64 N] w fun e w' => ∃ x : Nat, e = .returned (.int .i64 x) ∧ (x : Int) < N ∧ Cur Y w' C (k + 2) ∧ Mod (fun b => b = C) w w' := by
  have d1 : decide (N ≤ 1) = false := by simp; omega
  have hN0 : ¬ N = 0 := by omega
  have hm : ∀ x : Nat, ∃ y : Nat, (x : Int).tmod N = y ∧ (y : Int) < N := fun x => by
    rw [Int.tmod_eq_emod_of_nonneg (by omega)]
    obtain ⟨y, hy⟩ := Int.eq_ofNat_of_zero_le (Int.emod_nonneg x hN0)
    exact ⟨y, hy, by rw [← hy]; exact Int.emod_lt_of_pos _ (by omega)⟩
  have HM : Hid _ := hm
  clear hm
  go_enter Try.func78, Try.ntmps78
  go_wp2_with fail
  refine (next_any Y C k _ (by omega) h).mono ?_
  rintro e w1 ⟨x, rfl, hx, c1, m1⟩
  by_cases hg : N > 200
  · have d2 : decide (N > 200) = true := by simp; omega
    go_wp2_with fail
    refine (next_any Y C (k + 1) _ (by omega) c1).mono ?_
    rintro e w2 ⟨x2, rfl, hx2, c2, m2⟩
    obtain ⟨y, e1, e2⟩ := HM.out (x * 256 + x2)
    have e1' : ((x : Int) * 256 + x2).tmod N = y := by rw [← e1]; congr 1
    clear h c1
    go_wp2
    go_ret
    exact ⟨y, rfl, e2, c2, m1.trans m2⟩
  · have d2 : decide (N > 200) = false := by simp; omega
    obtain ⟨y, e1, e2⟩ := HM.out x
    clear h
    go_wp2
    go_ret
    exact ⟨y, rfl, e2, c1.le (by omega), m1⟩
set_option maxHeartbeats 1600000 in
theorem among_any (Y Y2 : Nat → Prop) (C k : Nat) (ao : Option Addr) (n c : Nat) (f : Nat → Int) (w : World) (hk : k ≤ 900000) (hn : 1 < n) (hI : IntsAt Y2 w ao n f) (hY2 : ∀ b, Y2 b → b ≠ C) (h : Cur Y w C k) :
    Calls Try.prog 152 #[.pointer (some ⟨C, 0, none⟩), .slice ao n c] w fun e w' => ∃ x : Int, e = .returned (.int .i64 x) ∧ Cur Y w' C (k + 2) ∧ Mod (fun b => b = C) w w' := by
  have HI : Hid (IntsAt Y2 w ao n f) := hI
  clear hI
  go_enter Try.func152, Try.ntmps152
  go_wp2_with fail
  refine (pick_any Y C k n _ hk (by omega) h).mono ?_
  rintro e w1 ⟨x, rfl, hx, c1, m1⟩
  obtain ⟨b, o, rfl, -, q⟩ := (HI.out.mod m1 (fun b hb => hY2 b hb)).2 x (by omega)
  clear h
  go_wp2
  go_ret
  exact ⟨f x, rfl, c1, m1⟩
end Go.Proofs.Ytjplodenflkghaa
/- Tables that are drawn. -/
namespace Go.Proofs.Ytjplodenflkghaa
open Go.RowKit
set_option linter.unusedSimpArgs false
set_option linter.unusedVariables false
theorem Mod.newer' {X Z : Nat → Prop} {a b c : World} (h : Mod X a b) (k : Mod Z b c) (hz : ∀ i, Z i → a.heap.size ≤ i) : Mod X a c :=
  ⟨k.os.trans h.os, k.tape.trans h.tape, k.output.trans h.output, Nat.le_trans h.size k.size, fun i hi hx => (k.block i (Nat.lt_of_lt_of_le hi h.size) (fun e => by have := hz i e; omega)).trans (h.block i hi hx)⟩
abbrev bx2 (b : BV) (n k : Nat) : Nat → Value := fun i => if i = 0 then .slice b.a1 n b.c1 else .slice b.a2 k b.c2
abbrev T4 (c : Nat → Int) (kn : Nat) (p m : Nat → Nat → Int) : BD := ⟨4, c, ⟨kn, fun _ => 4, p, m⟩⟩
/-- A table that is being drawn: its box at zs; no block of E is its own. -/
structure TA (Y : Nat → Prop) (w wr : World) (C k zs : Nat) (E : Nat → Prop) (b : BV) (c : Nat → Int) (kn : Nat) (p m : Nat → Nat → Int) : Prop where
  mod : Mod (fun b => b = C) w wr
  cur : Cur Y wr C k
  out : Row wr w.heap.size 2 (fun i => if i = 0 then .slice none 0 0 else .slice none 0 0)
  zl : w.heap.size < zs ∧ zs < wr.heap.size
  box : Row wr zs 2 (bx2 b 4 kn)
  own : BookOwn (fun x => w.heap.size < x ∧ x < wr.heap.size ∧ x ≠ zs ∧ ¬ E x) wr b (T4 c kn p m)
  kn : 1 ≤ kn ∧ kn ≤ 4
def NoE : Nat → Prop := fun _ => False
def OnE (z : Nat) : Nat → Prop := fun x => x = z
def Tw (Y : Nat → Prop) (w wr : World) (C k zs : Nat) : Prop := ∃ b c kn p m, TA Y w wr C k zs NoE b c kn p m
theorem TA.go {Y : Nat → Prop} {w wr : World} {C k zs : Nat} {E : Nat → Prop} {b : BV} {c : Nat → Int} {kn : Nat} {p m : Nat → Nat → Int} {w1 : World} {k' : Nat} (hC : C < w.heap.size) (h : TA Y w wr C k zs E b c kn p m) (hc : Cur Y w1 C k') (hm : Mod (fun b => b = C) wr w1) : TA Y w w1 C k' zs E b c kn p m := by
  have hs := hm.size
  have hz := h.zl
  exact ⟨h.mod.trans hm, hc, h.out.mod hm (by omega), by omega, h.box.mod hm (by omega), (h.own.mod hm (fun x hx e => by omega)).mono (fun x hx => ⟨hx.1, by omega, hx.2.2⟩), h.kn⟩
theorem TA.blw {Y : Nat → Prop} {w wr : World} {C k zs : Nat} {E : Nat → Prop} {b : BV} {c : Nat → Int} {kn : Nat} {p m : Nat → Nat → Int} {w1 : World} (h : TA Y w wr C k zs E b c kn p m) (hb : Blw wr w1) : TA Y w w1 C k zs E b c kn p m := by
  have hs := hb.size
  have hz := h.zl
  exact ⟨h.mod.trans (hb.mod _), h.cur.blw hb, h.out.blw hb, by omega, h.box.blw hb, (h.own.blw hb).mono (fun x hx => ⟨hx.1, by omega, hx.2.2⟩), h.kn⟩
theorem TA.le {Y : Nat → Prop} {w wr : World} {C k zs : Nat} {E : Nat → Prop} {b : BV} {c : Nat → Int} {kn : Nat} {p m : Nat → Nat → Int} {k' : Nat} (h : TA Y w wr C k zs E b c kn p m) (hk : k ≤ k') : TA Y w wr C k' zs E b c kn p m := ⟨h.mod, h.cur.le hk, h.out, h.zl, h.box, h.own, h.kn⟩
theorem TA.free {Y : Nat → Prop} {w wr : World} {C k zs : Nat} {E : Nat → Prop} {b : BV} {c : Nat → Int} {kn : Nat} {p m : Nat → Nat → Int} (h : TA Y w wr C k zs E b c kn p m) : TA Y w wr C k zs NoE b c kn p m := ⟨h.mod, h.cur, h.out, h.zl, h.box, h.own.mono (fun x hx => ⟨hx.1, hx.2.1, hx.2.2.1, id⟩), h.kn⟩
/-- A new block, not of the table's own. -/
theorem TA.alloc {Y : Nat → Prop} {w wr : World} {C k zs : Nat} {E : Nat → Prop} {b : BV} {c : Nat → Int} {kn : Nat} {p m : Nat → Nat → Int} (h : TA Y w wr C k zs E b c kn p m) (o : Obj) : TA Y w (wr.alloc o) C k zs (OnE wr.heap.size) b c kn p m := by
  have hb : Blw wr (wr.alloc o) := (Blw.refl _).alloc _
  have hz := h.zl
  exact ⟨h.mod.trans (hb.mod _), h.cur.blw hb, h.out.blw hb, by rw [World.size_alloc]; omega, h.box.blw hb, (h.own.blw hb).mono (fun x hx => ⟨hx.1, by rw [World.size_alloc]; omega, hx.2.2.1, fun e => by have e' : x = wr.heap.size := e; omega⟩), h.kn⟩
/-- A new table, its box at zb. -/
def Got (Y : Nat → Prop) (w : World) (C k zs : Nat) (b : BV) (c : Nat → Int) (kn : Nat) (p m : Nat → Nat → Int) (v1 v2 : Value) (wx : World) : Prop :=
  ∃ (zb : Nat) (b3 : BV) (R : BD) (r : Bool), v1 = .pointer (some ⟨zb, 0, none⟩) ∧ v2 = .bool r ∧ TA Y w wx C k zs NoE b c kn p m ∧ Row wx zb 2 (bx2 b3 R.n R.D.n) ∧ zb ≠ zs ∧ w.heap.size < zb ∧ (r = true → ∃ c' p' m', R = T4 c' kn p' m') ∧ BookOwn (fun x => w.heap.size < x ∧ x < wx.heap.size ∧ x ≠ zs) wx b3 R
theorem row2_set {w : World} {z : Nat} {u v a b : Value} (h : Row w z 2 (fun i => if i = 0 then u else v)) : Row ((w.setCell ⟨z, 0, none⟩ a).setCell ⟨z, 1, none⟩ b) z 2 (fun i => if i = 0 then a else b) :=
  ((h.set 0 _).set 1 _).congr (fun i hi => by
    match i, hi with
    | 0, _ => rfl
    | 1, _ => rfl)
theorem got_fin {Y : Nat → Prop} {w W : World} {C k zs : Nat} {b : BV} {c : Nat → Int} {kn : Nat} {p m : Nat → Nat → Int} {zb : Nat} {b3 : BV} {R : BD} {r : Bool} (hC : C < w.heap.size) (hY : ∀ x, Y x → x < w.heap.size) (h : TA Y w W C k zs (OnE zb) b c kn p m) (hz : Row W zb 2 (fun i => if i = 0 then .slice none 0 0 else .slice none 0 0)) (hzb : zb ≠ zs ∧ w.heap.size < zb) (hr : r = true → ∃ c' p' m', R = T4 c' kn p' m') (own : BookOwn (fun x => w.heap.size < x ∧ x < W.heap.size ∧ x ≠ zs ∧ ¬ OnE zb x) W b3 R) :
    Got Y w C k zs b c kn p m (.pointer (some ⟨zb, 0, none⟩)) (.bool r) ((W.setCell ⟨zb, 0, none⟩ (.slice b3.a1 R.n b3.c1)).setCell ⟨zb, 1, none⟩ (.slice b3.a2 R.D.n b3.c2)) := by
  have ms := set2_mod (X := fun x => x = zb) W rfl (.slice b3.a1 R.n b3.c1) (.slice b3.a2 R.D.n b3.c2)
  have hs := ms.size
  have hzl := h.zl
  refine ⟨zb, b3, R, r, rfl, rfl, ⟨h.mod.newer' ms (fun i hi => by omega), h.cur.mod ms (by omega) (fun x hx e => by have := hY x hx; omega), h.out.mod ms (by omega), by omega, h.box.mod ms (by omega), (h.own.mod ms (fun x hx e => hx.2.2.2 e)).mono (fun x hx => ⟨hx.1, by omega, hx.2.2.1, id⟩), h.kn⟩, row2_set hz, hzb.1, hzb.2, hr, (own.mod ms (fun x hx e => hx.2.2.2 e)).mono (fun x hx => ⟨hx.1, by omega, hx.2.2.1⟩)⟩
theorem got_yes {Y : Nat → Prop} {w wx : World} {C k zs : Nat} {b : BV} {c : Nat → Int} {kn : Nat} {p m : Nat → Nat → Int} {b3 : BV} {R : BD} (hC : C < w.heap.size) (hY : ∀ x, Y x → x < w.heap.size) (h : TA Y w wx C k zs NoE b c kn p m) (hn : ∃ c' p' m', R = T4 c' kn p' m') (own : BookOwn (fun x => w.heap.size < x ∧ x < wx.heap.size ∧ x ≠ zs) wx b3 R) :
    Tw Y w ((wx.setCell ⟨zs, 0, none⟩ (.slice b3.a1 R.n b3.c1)).setCell ⟨zs, 1, none⟩ (.slice b3.a2 R.D.n b3.c2)) C k zs := by
  obtain ⟨c', p', m', rfl⟩ := hn
  show Tw Y w ((wx.setCell ⟨zs, 0, none⟩ (.slice b3.a1 4 b3.c1)).setCell ⟨zs, 1, none⟩ (.slice b3.a2 kn b3.c2)) C k zs
  have ms := set2_mod (X := fun x => x = zs) wx rfl (.slice b3.a1 4 b3.c1) (.slice b3.a2 kn b3.c2)
  have hs := ms.size
  have hzl := h.zl
  exact ⟨b3, c', kn, p', m', ⟨h.mod.newer' ms (fun i hi => by omega), h.cur.mod ms (by omega) (fun x hx e => by have := hY x hx; omega), h.out.mod ms (by omega), by omega, row2_set h.box, (own.mod ms (fun x hx e => by omega)).mono (fun x hx => ⟨hx.1, by omega, hx.2.2, id⟩), h.kn⟩⟩
theorem TA.put {Y : Nat → Prop} {w W W2 : World} {C k zs : Nat} {b : BV} {c : Nat → Int} {kn : Nat} {p m : Nat → Nat → Int} {y : Nat} {c' : Nat → Int} {p' m' : Nat → Nat → Int} (h : TA Y w W C k zs NoE b c kn p m) (hC : C < w.heap.size) (hY : ∀ x, Y x → x < w.heap.size) (hy : w.heap.size < y ∧ y < W.heap.size ∧ y ≠ zs) (ms : Mod (fun x => x = y) W W2) (own : BookOwn (fun x => w.heap.size < x ∧ x < W.heap.size ∧ x ≠ zs ∧ ¬ NoE x) W2 b (T4 c' kn p' m')) : TA Y w W2 C k zs NoE b c' kn p' m' := by
  have hs := ms.size
  have hzl := h.zl
  exact ⟨h.mod.newer' ms (fun i hi => by omega), h.cur.mod ms (by omega) (fun x hx e => by have := hY x hx; omega), h.out.mod ms (by omega), by omega, h.box.mod ms (by omega), own.mono (fun x hx => ⟨hx.1, by omega, hx.2.2⟩), h.kn⟩
theorem tw_fin {Y : Nat → Prop} {w W : World} {C k zs : Nat} {b : BV} {c : Nat → Int} {kn : Nat} {p m : Nat → Nat → Int} {K : Nat} (hC : C < w.heap.size) (hY : ∀ x, Y x → x < w.heap.size) (h : TA Y w W C k zs NoE b c kn p m) (hk : k ≤ K) :
    BookOwn (fun x => w.heap.size < x ∧ x < ((W.setCell ⟨w.heap.size, 0, none⟩ (.slice b.a1 4 b.c1)).setCell ⟨w.heap.size, 1, none⟩ (.slice b.a2 kn b.c2)).heap.size) ((W.setCell ⟨w.heap.size, 0, none⟩ (.slice b.a1 4 b.c1)).setCell ⟨w.heap.size, 1, none⟩ (.slice b.a2 kn b.c2)) b (T4 c kn p m) ∧ Cur Y ((W.setCell ⟨w.heap.size, 0, none⟩ (.slice b.a1 4 b.c1)).setCell ⟨w.heap.size, 1, none⟩ (.slice b.a2 kn b.c2)) C K ∧ Mod (fun b => b = C) w ((W.setCell ⟨w.heap.size, 0, none⟩ (.slice b.a1 4 b.c1)).setCell ⟨w.heap.size, 1, none⟩ (.slice b.a2 kn b.c2)) := by
  have ms := set2_mod (X := fun x => x = w.heap.size) W rfl (.slice b.a1 4 b.c1) (.slice b.a2 kn b.c2)
  have hs := ms.size
  have hzl := h.zl
  exact ⟨(h.own.mod ms (fun x hx e => by omega)).mono (fun x hx => by omega), (h.cur.mod ms (by omega) (fun x hx e => by have := hY x hx; omega)).le hk, h.mod.newer' ms (fun i hi => by omega)⟩
theorem ch_shape {c : Nat → Int} {kn : Nat} {p m : Nat → Nat → Int} {a : Int} {P : Int → Int → Prop} {G : Int → Int} {y : Int} {R : BD} {r : Bool} (h : chOut (T4 c kn p m) a P G y R r) : r = true → ∃ c' p' m', R = T4 c' kn p' m' := by
  intro e
  rcases h with ⟨_, ⟨q, _, rfl⟩, _⟩ | ⟨_, _, e2⟩
  · exact ⟨_, _, _, rfl⟩
  · rw [e2] at e; cases e
theorem wrap1 (x : Nat) (h : (x : Int) < 1000) : IntKind.i64.wrap (1 + (x : Int)) = 1 + (x : Int) := by rw [IntKind.wrap_i64] <;> omega
theorem table_owned {X : Nat → Prop} {w : World} {b : BV} {c : Nat → Int} {kn : Nat} {p m : Nat → Nat → Int} (h : BookOwn X w b (T4 c kn p m)) (x : Int) :
    ∃ y, b.a1 = some ⟨y, 0, none⟩ ∧ X y ∧ w.cell? ⟨y, 0, none⟩ = some (.int .i64 (c 0)) ∧ w.frozen? ⟨y, 0, none⟩ = false ∧ BookOwn X (w.setCell ⟨y, 0, none⟩ (.int .i64 x)) b (T4 (upd c 0 x) kn p m) := by
  obtain ⟨X1, X2, d1, d2, hc, hl⟩ := h.ex
  obtain ⟨y, hy, ea, r⟩ := hc.2 (by show 0 < 4; omega)
  have nm : Mod (fun z => z = y) w (w.setCell ⟨y, 0, none⟩ (.int .i64 x)) := Mod.setCell (X := fun z => z = y) _ (p := ⟨y, 0, none⟩) rfl _
  refine ⟨y, ea, (d1 y hy).1, r.cell (i := 0) (by show 0 < 4; omega), r.frozen 0, X1, X2, d1, d2, ⟨by show 4 ≤ _; omega, fun _ => ⟨y, hy, ea, (r.set 0 _).congr (fun i hi => ?_)⟩⟩, hl.mod nm (fun z hz e => by subst e; exact (d1 z hy).2 hz)⟩
  by_cases e : i = 0
  · subst e; simp [upd]
  · simp [e, upd]
theorem table_leaf {X : Nat → Prop} {w : World} {b : BV} {c : Nat → Int} {kn : Nat} {p m : Nat → Nat → Int} (hk : 1 ≤ kn) (h : BookOwn X w b (T4 c kn p m)) :
    ∃ bl A C gb, b.a2 = some ⟨bl, 0, none⟩ ∧ w.cell? ⟨bl, 0, none⟩ = some (.slice (some ⟨gb, 0, none⟩) 4 C) ∧ X gb ∧ X bl ∧ gb ≠ bl ∧ A = gb ∧ w.cell? ⟨gb, 0, none⟩ = some (.int .i64 (p 0 0)) ∧ w.cell? ⟨gb, 1, none⟩ = some (.int .i64 (m 0 0)) ∧ w.frozen? ⟨gb, 0, none⟩ = false ∧ w.frozen? ⟨gb, 1, none⟩ = false ∧ ∀ x y : Int, BookOwn X ((w.setCell ⟨gb, 0, none⟩ (.int .i64 x)).setCell ⟨gb, 1, none⟩ (.int .i64 y)) b (T4 c kn (upd2 p 0 0 x) (upd2 m 0 0 y)) := by
  obtain ⟨X1, X2, d1, d2, hc, hl⟩ := h.ex
  obtain ⟨bl, A, Cc, Z, ea, hp⟩ := hl.2 hk
  obtain ⟨gb, eA, hX, hne, hr8, hs2, -⟩ := psin_leaf (q := 0) (j := 0) hp (by show 0 < kn; omega) (by omega)
  have c0 := hp.row.cell (i := 0) (by show 0 < kn; omega)
  dsimp only at c0
  rw [eA] at c0
  refine ⟨bl, gb, Cc 0, gb, ea, c0, d2 gb hX, d2 bl hp.hb, hne, rfl, by rw [hr8.cell (i := 0) (by omega)]; exact congrArg some (uc_at (p 0) (m 0) 0).1, by rw [hr8.cell (i := 1) (by omega)]; exact congrArg some (uc_at (p 0) (m 0) 0).2, hr8.frozen 0, hr8.frozen 1, fun x y => ?_⟩
  have nm : Mod (fun z => z = gb) w ((w.setCell ⟨gb, 0, none⟩ (.int .i64 x)).setCell ⟨gb, 1, none⟩ (.int .i64 y)) := set2_mod (X := fun z => z = gb) w rfl _ _
  exact ⟨X1, X2, d1, d2, ⟨hc.1, fun h0 => let ⟨g, hg, e, r⟩ := hc.2 h0; ⟨g, hg, e, r.mod nm (fun e2 => (d1 g hg).2 (e2 ▸ hX))⟩⟩, ⟨hl.1, fun _ => ⟨bl, A, Cc, Z, ea, hs2 x y⟩⟩⟩
end Go.Proofs.Ytjplodenflkghaa
/- A table that is drawn. -/
namespace Go.Proofs.Ytjplodenflkghaa
open Go.RowKit
set_option linter.unusedSimpArgs false
set_option linter.unusedVariables false
set_option maxHeartbeats 400000 in
theorem one_any (Y : Nat → Prop) (C k : Nat) (N : Int) (w : World) (hk : k ≤ 900000) (hN : 1 < N) (h : Cur Y w C k) :
    Calls Try.prog 125 #[.pointer (some ⟨C, 0, none⟩), .int .i64 N] w fun e w' => ∃ r, e = .returned (.bool r) ∧ Cur Y w' C (k + 2) ∧ Mod (fun b => b = C) w w' := by
  go_enter Try.func125, Try.ntmps125
  go_wp2_with fail
  refine (pick_any Y C k N _ hk hN h).mono ?_
  rintro e w1 ⟨x, rfl, hx, hc, hm⟩
  clear h
  go_wp2
  go_ret
  exact ⟨_, rfl, hc, hm⟩
set_option maxRecDepth 10000 in
set_option maxHeartbeats 12800000 in
theorem table_any (Y : Nat → Prop) (C k : Nat) (w : World) (hk : k ≤ 700000) (hY : ∀ b, Y b → b < w.heap.size ∧ b ≠ C) (h : Cur Y w C k) :
    Calls Try.prog 162 #[.pointer (some ⟨C, 0, none⟩)] w fun e w' => ∃ b c kn p m, e = .returned (b.val (T4 c kn p m)) ∧ (1 ≤ kn ∧ kn ≤ 4) ∧ BookOwn (fun x => w.heap.size < x ∧ x < w'.heap.size) w' b (T4 c kn p m) ∧ Cur Y w' C (k + 400) ∧ Mod (fun b => b = C) w w' := by
  have hC := h.lt
  have hYw : ∀ x, Y x → x < w.heap.size := fun x hx => (hY x hx).1
  have hb0 : Blw w (w.alloc (.cells #[.slice none 0 0, .slice none 0 0] 29)) := (Blw.refl _).alloc _
  have r0 := box2 w (.slice none 0 0) (.slice none 0 0) 29
  have HC0 : Hid (Cur Y (w.alloc (.cells #[.slice none 0 0, .slice none 0 0] 29)) C k) := h.blw hb0
  clear h
  go_enter Try.func162, Try.ntmps162
  go_wp2_with fail
  refine (pick_any Y C k 4 _ (by omega) (by omega) HC0.out).mono ?_
  rintro e w0 ⟨x, rfl, hx4, hc0, hm0⟩
  have hs0 := hm0.size
  have r00 := r0.mod hm0 (by omega)
  have HM0 : Hid (Mod (fun b => b = C) w w0) := (hb0.mod _).trans hm0
  have HC1 : Hid (Cur Y w0 C (k + 2)) := hc0
  have HR00 : Hid (Row w0 w.heap.size 2 (fun i => if i = 0 then .slice none 0 0 else .slice none 0 0)) := r00
  have HS0 : Hid (w.heap.size + 1 ≤ w0.heap.size) := by simp only [World.size_alloc] at hs0; exact hs0
  clear hb0 r0 HC0 hc0 hm0 hs0 r00
  go_wp2_with fail
  refine (specNew_any _ _).mono ?_
  rintro e w1 ⟨b1, R1, r1, rfl, ho1, hs1, own1, hb1⟩
  have hcnt : cntOK (1 + (x : Int)) := by unfold cntOK; omega
  have hR1 : R1 = newB (1 + (x : Int)) := by
    rcases ho1 with ⟨_, e, _⟩ | ⟨e, _, _⟩
    · exact e
    · exact absurd hcnt e
  subst hR1
  have hx1 : (1 + (x : Int)).toNat = x + 1 := by omega
  have hA : Blw w1 (w1.alloc (.cells #[.slice b1.a1 4 b1.c1, .slice b1.a2 (x + 1) b1.c2] 29)) := (Blw.refl _).alloc _
  have hz1 := hb1.size
  have hz0 := HS0.out
  have e1 : newB (1 + (x : Int)) = T4 (fun _ => -1) (x + 1) zz zz := by unfold newB; rw [hx1]
  rw [e1] at own1
  have HOW0 : Hid (Tw Y w (w1.alloc (.cells #[.slice b1.a1 4 b1.c1, .slice b1.a2 (x + 1) b1.c2] 29)) C (k + 2) w1.heap.size) :=
    ⟨b1, _, _, _, _, ⟨HM0.out.trans ((hb1.trans hA).mod _), (HC1.out.blw hb1).blw hA, (HR00.out.blw hb1).blw hA, ⟨by omega, by simp⟩, box2 w1 _ _ 29, (own1.blw hA).mono (fun x hx => ⟨by omega, by rw [World.size_alloc]; omega, by omega, id⟩), by omega⟩⟩
  have hval : b1.val (newB (1 + (x : Int))) = .agg #[.slice b1.a1 4 b1.c1, .slice b1.a2 (x + 1) b1.c2] := by rw [e1]
  rw [hval]
  clear own1 hb1 hz1 hz0 hA HC1 HR00 HM0 HS0 ho1 hs1 e1 hval hcnt hx1
  go_wp2_with fail
  generalize w1.heap.size = zs at *
  generalize w1.alloc (.cells #[.slice b1.a1 4 b1.c1, .slice b1.a2 (x + 1) b1.c2] 29) = w2 at *
  obtain ⟨b4, c4, kn, p4, m4, ho4⟩ := HOW0.out
  refine (pick_any Y C (k + 2) 9 _ (by omega) (by omega) ho4.cur).mono ?_
  rintro e w3 ⟨n, rfl, hn9, hc3, hm3⟩
  have HOW1 : Hid (Tw Y w w3 C (k + 2 + 2) zs) := ⟨b4, c4, kn, p4, m4, ho4.go hC hc3 hm3⟩
  clear HOW0 ho4 hc3 hm3 w2 b4 c4 kn p4 m4
  go_wp2_with fail
  go_loopw [5] (fun v wr => ∃ i : Nat, i ≤ 8 ∧ v = .int .i64 i ∧ Tw Y w wr C (k + 4 + 10 * (8 - i)) zs) (fun v _ => (intOf v).toNat)
  case atStart => exact ⟨n, by omega, rfl, by obtain ⟨b, c, kn, p, m, h⟩ := HOW1.out; exact ⟨b, c, kn, p, m, h.le (by omega)⟩⟩
  case round =>
    obtain ⟨i, hi8, rfl, hbk⟩ := hrel
    clear HOW1
    have HOW0 : Hid (Tw Y w wr C (k + 4 + 10 * (8 - i)) zs) := hbk
    clear hbk
    by_cases hi0 : 0 < i
    · have hi0' : (0 : Int) < i := by omega
      obtain ⟨kk, hkk⟩ : ∃ kk, kk = k + 4 + 10 * (8 - i) := ⟨_, rfl⟩
      have hkb : kk ≤ 800000 := by omega
      rw [← hkk] at HOW0
      have HKK : Hid (kk = k + 4 + 10 * (8 - i)) := hkk
      clear hkk
      obtain ⟨b4, c4, kn, p4, m4, ho4⟩ := HOW0.out
      have HO : Hid (TA Y w wr C (kk) zs NoE b4 c4 kn p4 m4) := ho4
      clear ho4 HOW0
      have P0 : ∀ w', Row w' zs 2 (bx2 b4 4 kn) → w'.cell? ⟨zs, 0, none⟩ = some (.slice b4.a1 4 b4.c1) := fun w' hh => (get2 hh).1
      have P1 : ∀ w', Row w' zs 2 (bx2 b4 4 kn) → w'.cell? ⟨zs, 1, none⟩ = some (.slice b4.a2 kn b4.c2) := fun w' hh => (get2 hh).2
      go_upto_region 5 with fail
      go_cut [6, 7] from 19 to 49 (fun v1 v2 wx => Got Y w C (kk + 2 + 2 + 2) zs b4 c4 kn p4 m4 v1 v2 wx)
      case first =>
        replace HO : Hid (TA Y w wr.drew C (kk) zs NoE b4 c4 kn p4 m4) := HO.out.blw (Blw.refl _).drew
        refine wp_region_noPanic ?_
        refine wp_region_held_drew (S := fun w' => Row w' zs 2 (bx2 b4 4 kn)) (by kernel_rfl) HO.out.box (fun hB => ?_)
        clear hB
        generalize wr.drew = wd at *
        refine wpAnyH_take (i := 0) (oi := { dst := some 24, op := Op.load 29 (Operand.tmp 3), type := 29, pos := _, after := #[], guard := none }) (v := (.agg #[.slice b4.a1 4 b4.c1, .slice b4.a2 kn b4.c2])) rfl (by kernel_rfl) (by kernel_rfl) (by kernel_rfl) (fun _ _ _ h => h) (Or.inl ⟨by rfl, fun w' hS => by (try dsimp only at hS); go_simp⟩) HO.out.box ?_
        simp only [Act.put, List.setIfInBounds_toArray, List.set_cons_zero, List.set_cons_succ]
        refine wpAnyH_take (i := 1) (oi := { dst := some 25, op := Op.move (Operand.tmp 0), type := 101, pos := _, after := #[], guard := none }) (v := (.pointer (some ⟨C, 0, none⟩))) rfl (by kernel_rfl) (by kernel_rfl) (by kernel_rfl) (fun _ _ _ h => h) (Or.inl ⟨by rfl, fun w' hS => by (try dsimp only at hS); go_simp⟩) HO.out.box ?_
        simp only [Act.put, List.setIfInBounds_toArray, List.set_cons_zero, List.set_cons_succ]
        refine wpAnyH_take (i := 3) (oi := { dst := some 27, op := Op.move (Operand.tmp 0), type := 101, pos := _, after := #[], guard := none }) (v := (.pointer (some ⟨C, 0, none⟩))) rfl (by kernel_rfl) (by kernel_rfl) (by kernel_rfl) (fun _ _ _ h => h) (Or.inl ⟨by rfl, fun w' hS => by (try dsimp only at hS); go_simp⟩) HO.out.box ?_
        simp only [Act.put, List.setIfInBounds_toArray, List.set_cons_zero, List.set_cons_succ]
        refine wpAnyH_take (i := 5) (oi := { dst := some 29, op := Op.move (Operand.tmp 0), type := 101, pos := _, after := #[], guard := none }) (v := (.pointer (some ⟨C, 0, none⟩))) rfl (by kernel_rfl) (by kernel_rfl) (by kernel_rfl) (fun _ _ _ h => h) (Or.inl ⟨by rfl, fun w' hS => by (try dsimp only at hS); go_simp⟩) HO.out.box ?_
        simp only [Act.put, List.setIfInBounds_toArray, List.set_cons_zero, List.set_cons_succ]
        refine wpAnyH_ready (rs := [2, 12]) (by kernel_rfl) (by simp) ?_
        refine AllReadyH.cons (o := { dst := some 26, op := Op.call { callee := Callee.value (Operand.func 78), args := #[Operand.tmp 25, Operand.const (Value.int IntKind.i64 16)], argTypes := #[101, 3] }, type := 3, pos := _, after := #[{ on := 1, ground := Ground.data }], guard := none }) rfl (fun K hK => ?_) (AllReadyH.cons (o := { dst := some 6, op := Op.alloc 29, type := 0, pos := _, after := #[], guard := none }) rfl (fun K hK => ?_) AllReadyH.nil)
        · go_simp
          refine (pick_any Y C (kk) 16 _ (by omega) (by omega) HO.out.cur).mono ?_
          rintro e wn ⟨x0, rfl, hx0, hc, hm⟩
          have hwx0 := wrap1 x0 (by omega)
          replace HO : Hid (TA Y w wn C (kk + 2) zs NoE b4 c4 kn p4 m4) := HO.out.go hC hc hm
          clear hc hm
          refine hK.out _ _ HO.out.box (fun hB => ?_)
          clear hK K hB
          try simp only [Act.put, List.setIfInBounds_toArray, List.set_cons_zero, List.set_cons_succ]
          refine wpAnyH_ready (rs := [4, 12]) (by kernel_rfl) (by simp) ?_
          refine AllReadyH.cons (o := { dst := some 28, op := Op.call { callee := Callee.value (Operand.func 78), args := #[Operand.tmp 27, Operand.const (Value.int IntKind.i64 16)], argTypes := #[101, 3] }, type := 3, pos := _, after := #[{ on := 3, ground := Ground.data }, { on := 2, ground := Ground.chain }], guard := none }) rfl (fun K hK => ?_) (AllReadyH.cons (o := { dst := some 6, op := Op.alloc 29, type := 0, pos := _, after := #[], guard := none }) rfl (fun K hK => ?_) AllReadyH.nil)
          · go_simp
            refine (pick_any Y C (kk + 2) 16 _ (by omega) (by omega) HO.out.cur).mono ?_
            rintro e wn ⟨x1, rfl, hx1, hc, hm⟩
            have hwx1 := wrap1 x1 (by omega)
            replace HO : Hid (TA Y w wn C (kk + 2 + 2) zs NoE b4 c4 kn p4 m4) := HO.out.go hC hc hm
            clear hc hm
            refine hK.out _ _ HO.out.box (fun hB => ?_)
            clear hK K hB
            try simp only [Act.put, List.setIfInBounds_toArray, List.set_cons_zero, List.set_cons_succ]
            refine wpAnyH_ready (rs := [6, 12]) (by kernel_rfl) (by simp) ?_
            refine AllReadyH.cons (o := { dst := some 30, op := Op.call { callee := Callee.value (Operand.func 78), args := #[Operand.tmp 29, Operand.const (Value.int IntKind.i64 3)], argTypes := #[101, 3] }, type := 3, pos := _, after := #[{ on := 5, ground := Ground.data }, { on := 4, ground := Ground.chain }], guard := none }) rfl (fun K hK => ?_) (AllReadyH.cons (o := { dst := some 6, op := Op.alloc 29, type := 0, pos := _, after := #[], guard := none }) rfl (fun K hK => ?_) AllReadyH.nil)
            · go_simp
              refine (pick_any Y C (kk + 2 + 2) 3 _ (by omega) (by omega) HO.out.cur).mono ?_
              rintro e wn ⟨x2, rfl, hx2, hc, hm⟩
              have hwx2 := wrap1 x2 (by omega)
              replace HO : Hid (TA Y w wn C (kk + 2 + 2 + 2) zs NoE b4 c4 kn p4 m4) := HO.out.go hC hc hm
              clear hc hm
              refine hK.out _ _ HO.out.box (fun hB => ?_)
              clear hK K hB
              try simp only [Act.put, List.setIfInBounds_toArray, List.set_cons_zero, List.set_cons_succ]
              refine wpAnyH_take (i := 7) (oi := { dst := some 31, op := Op.binOp BinOp.add 3 (Operand.const (Value.int IntKind.i64 1)) (Operand.tmp 30) 3, type := 3, pos := _, after := #[{ on := 6, ground := Ground.data }], guard := none }) (v := (.int .i64 (1 + (x2 : Int)))) rfl (by kernel_rfl) (by kernel_rfl) (by kernel_rfl) (fun _ _ _ h => h) (Or.inl ⟨by rfl, fun w' hS => by (try dsimp only at hS); go_simp⟩) HO.out.box ?_
              simp only [Act.put, List.setIfInBounds_toArray, List.set_cons_zero, List.set_cons_succ]
              refine wpAnyH_ready (rs := [8, 12]) (by kernel_rfl) (by simp) ?_
              refine AllReadyH.cons (o := { dst := some 32, op := Op.call { callee := Callee.value (Operand.func 115), args := #[Operand.tmp 24, Operand.tmp 26, Operand.tmp 28, Operand.tmp 31], argTypes := #[29, 3, 3, 3] }, type := 62, pos := _, after := #[{ on := 0, ground := Ground.data }, { on := 2, ground := Ground.data }, { on := 4, ground := Ground.data }, { on := 7, ground := Ground.data }, { on := 6, ground := Ground.chain }], guard := none }) rfl (fun K hK => ?_) (AllReadyH.cons (o := { dst := some 6, op := Op.alloc 29, type := 0, pos := _, after := #[], guard := none }) rfl (fun K hK => ?_) AllReadyH.nil)
              · go_simp
                refine (specMap_any b4 (T4 c4 kn p4 m4) (x0 : Int) (x1 : Int) (1 + (x2 : Int)) _ _ (by show 4 ≤ _; omega) HO.out.own.at).mono ?_
                rintro e wn ⟨b3, R, r3, rfl, ho3, hs3, own3, hbk⟩
                have HRR : Hid (r3 = true → ∃ c' p' m', R = T4 c' kn p' m') := ch_shape ho3
                have hzl := HO.out.zl
                have hsz := hbk.size
                have HOW : Hid (BookOwn (fun x => w.heap.size < x ∧ x < wn.heap.size ∧ x ≠ zs ∧ ¬ NoE x) wn b3 R) := own3.mono (fun x hx => ⟨by omega, hx.2, by omega, id⟩)
                replace HO : Hid (TA Y w wn C (kk + 2 + 2 + 2) zs NoE b4 c4 kn p4 m4) := HO.out.blw hbk
                clear ho3 hs3 own3 hbk hzl hsz
                refine hK.out _ _ HO.out.box (fun hB => ?_)
                clear hK K hB
                try simp only [Act.put, List.setIfInBounds_toArray, List.set_cons_zero, List.set_cons_succ]
                refine wpAnyH_take (i := 9) (oi := { dst := some 23, op := Op.move (Operand.tmp 32), type := 62, pos := _, after := #[{ on := 8, ground := Ground.data }], guard := none }) (v := (.tuple #[b3.val R, .bool r3])) rfl (by kernel_rfl) (by kernel_rfl) (by kernel_rfl) (fun _ _ _ h => h) (Or.inl ⟨by rfl, fun w' hS => by (try dsimp only at hS); go_simp⟩) HO.out.box ?_
                simp only [Act.put, List.setIfInBounds_toArray, List.set_cons_zero, List.set_cons_succ]
                refine wpAnyH_take (i := 10) (oi := { dst := some 33, op := Op.extract (Operand.tmp 23) 0, type := 29, pos := _, after := #[{ on := 9, ground := Ground.data }], guard := none }) (v := (.agg #[.slice b3.a1 R.n b3.c1, .slice b3.a2 R.D.n b3.c2])) rfl (by kernel_rfl) (by kernel_rfl) (by kernel_rfl) (fun _ _ _ h => h) (Or.inl ⟨by rfl, fun w' hS => by (try dsimp only at hS); go_simp⟩) HO.out.box ?_
                simp only [Act.put, List.setIfInBounds_toArray, List.set_cons_zero, List.set_cons_succ]
                refine wpAnyH_take (i := 11) (oi := { dst := some 34, op := Op.extract (Operand.tmp 23) 1, type := 4, pos := _, after := #[{ on := 9, ground := Ground.data }, { on := 13, ground := Ground.gcOnly Departure.lateStores }], guard := none }) (v := (.bool r3)) rfl (by kernel_rfl) (by kernel_rfl) (by kernel_rfl) (fun _ _ _ h => h) (Or.inl ⟨by rfl, fun w' hS => by (try dsimp only at hS); go_simp⟩) HO.out.box ?_
                simp only [Act.put, List.setIfInBounds_toArray, List.set_cons_zero, List.set_cons_succ]
                refine wpAnyH_ready (rs := [12]) (by kernel_rfl) (by simp) ?_
                refine AllReadyH.cons (o := { dst := some 6, op := Op.alloc 29, type := 0, pos := _, after := #[], guard := none }) rfl (fun K hK => ?_) AllReadyH.nil
                go_simp
                have HZ : Hid (Row (wn.alloc (.cells #[.slice none 0 0, .slice none 0 0] 29)) wn.heap.size 2 (fun i => if i = 0 then .slice none 0 0 else .slice none 0 0)) := box2 wn _ _ 29
                have HZB : Hid (wn.heap.size ≠ zs ∧ w.heap.size < wn.heap.size ∧ C < wn.heap.size) := by have := HO.out.zl; show _ ∧ _ ∧ _; omega
                replace HOW : Hid (BookOwn (fun x => w.heap.size < x ∧ x < (wn.alloc (.cells #[.slice none 0 0, .slice none 0 0] 29)).heap.size ∧ x ≠ zs ∧ ¬ OnE wn.heap.size x) (wn.alloc (.cells #[.slice none 0 0, .slice none 0 0] 29)) b3 R) := (HOW.out.blw ((Blw.refl _).alloc _)).mono (fun x hx => ⟨hx.1, by rw [World.size_alloc]; omega, hx.2.2.1, fun e => by have e' : x = wn.heap.size := e; omega⟩)
                replace HO : Hid (TA Y w (wn.alloc (.cells #[.slice none 0 0, .slice none 0 0] 29)) C (kk + 2 + 2 + 2) zs (OnE wn.heap.size) b4 c4 kn p4 m4) := HO.out.alloc _
                refine hK.out _ _ HO.out.box (fun hB => ?_)
                clear hK K hB
                try simp only [Act.put, List.setIfInBounds_toArray, List.set_cons_zero, List.set_cons_succ]
                generalize wn.alloc (.cells #[.slice none 0 0, .slice none 0 0] 29) = wA at *
                generalize wn.heap.size = zb at *
                refine wpAnyH_ready (rs := [13]) (by kernel_rfl) (by simp) ?_
                refine AllReadyH.cons (o := { dst := none, op := Op.store 29 (Operand.tmp 6) (Operand.tmp 33), type := 0, pos := _, after := #[{ on := 12, ground := Ground.data }, { on := 10, ground := Ground.data }, { on := 8, ground := Ground.chain }, { on := 0, ground := Ground.phase }, { on := 1, ground := Ground.phase }, { on := 2, ground := Ground.phase }, { on := 3, ground := Ground.phase }, { on := 4, ground := Ground.phase }, { on := 5, ground := Ground.phase }, { on := 6, ground := Ground.phase }, { on := 7, ground := Ground.phase }, { on := 8, ground := Ground.phase }, { on := 9, ground := Ground.phase }, { on := 10, ground := Ground.phase }, { on := 11, ground := Ground.textOnly Departure.lateStores }, { on := 12, ground := Ground.phase }], guard := none }) rfl (fun K hK => ?_) AllReadyH.nil
                obtain ⟨z0, z1⟩ := get2 HZ.out
                have fz0 := HZ.out.frozen 0
                have fz1 := HZ.out.frozen 1
                have FIN : Hid _ := got_fin hC hYw HO.out HZ.out ⟨HZB.out.1, HZB.out.2.1⟩ HRR.out HOW.out
                go_simp
                refine hK.out _ _ (by obtain ⟨_, _, _, _, _, _, ho, _⟩ := FIN.out; exact ho.box) (fun hB => ?_)
                clear hK K hB
                try simp only [Act.put, List.setIfInBounds_toArray, List.set_cons_zero, List.set_cons_succ]
                clear z0 z1 fz0 fz1
                refine wpAnyH_take (i := 14) (oi := { dst := some 7, op := Op.assign (Operand.tmp 34), type := 4, pos := _, after := #[{ on := 11, ground := Ground.data }, { on := 13, ground := Ground.chain }, { on := 0, ground := Ground.phase }, { on := 1, ground := Ground.phase }, { on := 2, ground := Ground.phase }, { on := 3, ground := Ground.phase }, { on := 4, ground := Ground.phase }, { on := 5, ground := Ground.phase }, { on := 6, ground := Ground.phase }, { on := 7, ground := Ground.phase }, { on := 8, ground := Ground.phase }, { on := 9, ground := Ground.phase }, { on := 10, ground := Ground.phase }, { on := 11, ground := Ground.phase }, { on := 12, ground := Ground.phase }, { on := 13, ground := Ground.phase }], guard := none }) (v := (.bool r3)) rfl (by kernel_rfl) (by kernel_rfl) (by kernel_rfl) (fun _ _ _ h => h) (Or.inl ⟨by rfl, fun w' hS => by (try dsimp only at hS); go_simp⟩) (by obtain ⟨_, _, _, _, _, _, ho, _⟩ := FIN.out; exact ho.box) ?_
                simp only [Act.put, List.setIfInBounds_toArray, List.set_cons_zero, List.set_cons_succ]
                refine wpAnyH_done (by kernel_rfl) ?_ _
                refine NoPanic.normal ?_
                go_wp2_with fail
                go_meet
                exact FIN.out
              · go_simp
                have HZ : Hid (Row (wn.alloc (.cells #[.slice none 0 0, .slice none 0 0] 29)) wn.heap.size 2 (fun i => if i = 0 then .slice none 0 0 else .slice none 0 0)) := box2 wn _ _ 29
                have HZB : Hid (wn.heap.size ≠ zs ∧ w.heap.size < wn.heap.size ∧ C < wn.heap.size) := by have := HO.out.zl; show _ ∧ _ ∧ _; omega
                replace HO : Hid (TA Y w (wn.alloc (.cells #[.slice none 0 0, .slice none 0 0] 29)) C (kk + 2 + 2 + 2) zs (OnE wn.heap.size) b4 c4 kn p4 m4) := HO.out.alloc _
                refine hK.out _ _ HO.out.box (fun hB => ?_)
                clear hK K hB
                try simp only [Act.put, List.setIfInBounds_toArray, List.set_cons_zero, List.set_cons_succ]
                generalize wn.alloc (.cells #[.slice none 0 0, .slice none 0 0] 29) = wA at *
                generalize wn.heap.size = zb at *
                refine wpAnyH_ready (rs := [8]) (by kernel_rfl) (by simp) ?_
                refine AllReadyH.cons (o := { dst := some 32, op := Op.call { callee := Callee.value (Operand.func 115), args := #[Operand.tmp 24, Operand.tmp 26, Operand.tmp 28, Operand.tmp 31], argTypes := #[29, 3, 3, 3] }, type := 62, pos := _, after := #[{ on := 0, ground := Ground.data }, { on := 2, ground := Ground.data }, { on := 4, ground := Ground.data }, { on := 7, ground := Ground.data }, { on := 6, ground := Ground.chain }], guard := none }) rfl (fun K hK => ?_) AllReadyH.nil
                go_simp
                refine (specMap_any b4 (T4 c4 kn p4 m4) (x0 : Int) (x1 : Int) (1 + (x2 : Int)) _ _ (by show 4 ≤ _; omega) HO.out.own.at).mono ?_
                rintro e wn ⟨b3, R, r3, rfl, ho3, hs3, own3, hbk⟩
                have HRR : Hid (r3 = true → ∃ c' p' m', R = T4 c' kn p' m') := ch_shape ho3
                have hzl := HO.out.zl
                have hsz := hbk.size
                have hzz := HZ.out.lt
                replace HZ : Hid (Row wn zb 2 (fun i => if i = 0 then .slice none 0 0 else .slice none 0 0)) := HZ.out.blw hbk
                have HOW : Hid (BookOwn (fun x => w.heap.size < x ∧ x < wn.heap.size ∧ x ≠ zs ∧ ¬ OnE zb x) wn b3 R) := own3.mono (fun x hx => ⟨by omega, hx.2, by omega, fun e => by have e' : x = zb := e; omega⟩)
                replace HO : Hid (TA Y w wn C (kk + 2 + 2 + 2) zs (OnE zb) b4 c4 kn p4 m4) := HO.out.blw hbk
                clear ho3 hs3 own3 hbk hzl hsz hzz
                refine hK.out _ _ HO.out.box (fun hB => ?_)
                clear hK K hB
                try simp only [Act.put, List.setIfInBounds_toArray, List.set_cons_zero, List.set_cons_succ]
                refine wpAnyH_take (i := 9) (oi := { dst := some 23, op := Op.move (Operand.tmp 32), type := 62, pos := _, after := #[{ on := 8, ground := Ground.data }], guard := none }) (v := (.tuple #[b3.val R, .bool r3])) rfl (by kernel_rfl) (by kernel_rfl) (by kernel_rfl) (fun _ _ _ h => h) (Or.inl ⟨by rfl, fun w' hS => by (try dsimp only at hS); go_simp⟩) HO.out.box ?_
                simp only [Act.put, List.setIfInBounds_toArray, List.set_cons_zero, List.set_cons_succ]
                refine wpAnyH_take (i := 10) (oi := { dst := some 33, op := Op.extract (Operand.tmp 23) 0, type := 29, pos := _, after := #[{ on := 9, ground := Ground.data }], guard := none }) (v := (.agg #[.slice b3.a1 R.n b3.c1, .slice b3.a2 R.D.n b3.c2])) rfl (by kernel_rfl) (by kernel_rfl) (by kernel_rfl) (fun _ _ _ h => h) (Or.inl ⟨by rfl, fun w' hS => by (try dsimp only at hS); go_simp⟩) HO.out.box ?_
                simp only [Act.put, List.setIfInBounds_toArray, List.set_cons_zero, List.set_cons_succ]
                refine wpAnyH_take (i := 11) (oi := { dst := some 34, op := Op.extract (Operand.tmp 23) 1, type := 4, pos := _, after := #[{ on := 9, ground := Ground.data }, { on := 13, ground := Ground.gcOnly Departure.lateStores }], guard := none }) (v := (.bool r3)) rfl (by kernel_rfl) (by kernel_rfl) (by kernel_rfl) (fun _ _ _ h => h) (Or.inl ⟨by rfl, fun w' hS => by (try dsimp only at hS); go_simp⟩) HO.out.box ?_
                simp only [Act.put, List.setIfInBounds_toArray, List.set_cons_zero, List.set_cons_succ]
                refine wpAnyH_ready (rs := [13]) (by kernel_rfl) (by simp) ?_
                refine AllReadyH.cons (o := { dst := none, op := Op.store 29 (Operand.tmp 6) (Operand.tmp 33), type := 0, pos := _, after := #[{ on := 12, ground := Ground.data }, { on := 10, ground := Ground.data }, { on := 8, ground := Ground.chain }, { on := 0, ground := Ground.phase }, { on := 1, ground := Ground.phase }, { on := 2, ground := Ground.phase }, { on := 3, ground := Ground.phase }, { on := 4, ground := Ground.phase }, { on := 5, ground := Ground.phase }, { on := 6, ground := Ground.phase }, { on := 7, ground := Ground.phase }, { on := 8, ground := Ground.phase }, { on := 9, ground := Ground.phase }, { on := 10, ground := Ground.phase }, { on := 11, ground := Ground.textOnly Departure.lateStores }, { on := 12, ground := Ground.phase }], guard := none }) rfl (fun K hK => ?_) AllReadyH.nil
                obtain ⟨z0, z1⟩ := get2 HZ.out
                have fz0 := HZ.out.frozen 0
                have fz1 := HZ.out.frozen 1
                have FIN : Hid _ := got_fin hC hYw HO.out HZ.out ⟨HZB.out.1, HZB.out.2.1⟩ HRR.out HOW.out
                go_simp
                refine hK.out _ _ (by obtain ⟨_, _, _, _, _, _, ho, _⟩ := FIN.out; exact ho.box) (fun hB => ?_)
                clear hK K hB
                try simp only [Act.put, List.setIfInBounds_toArray, List.set_cons_zero, List.set_cons_succ]
                clear z0 z1 fz0 fz1
                refine wpAnyH_take (i := 14) (oi := { dst := some 7, op := Op.assign (Operand.tmp 34), type := 4, pos := _, after := #[{ on := 11, ground := Ground.data }, { on := 13, ground := Ground.chain }, { on := 0, ground := Ground.phase }, { on := 1, ground := Ground.phase }, { on := 2, ground := Ground.phase }, { on := 3, ground := Ground.phase }, { on := 4, ground := Ground.phase }, { on := 5, ground := Ground.phase }, { on := 6, ground := Ground.phase }, { on := 7, ground := Ground.phase }, { on := 8, ground := Ground.phase }, { on := 9, ground := Ground.phase }, { on := 10, ground := Ground.phase }, { on := 11, ground := Ground.phase }, { on := 12, ground := Ground.phase }, { on := 13, ground := Ground.phase }], guard := none }) (v := (.bool r3)) rfl (by kernel_rfl) (by kernel_rfl) (by kernel_rfl) (fun _ _ _ h => h) (Or.inl ⟨by rfl, fun w' hS => by (try dsimp only at hS); go_simp⟩) (by obtain ⟨_, _, _, _, _, _, ho, _⟩ := FIN.out; exact ho.box) ?_
                simp only [Act.put, List.setIfInBounds_toArray, List.set_cons_zero, List.set_cons_succ]
                refine wpAnyH_done (by kernel_rfl) ?_ _
                refine NoPanic.normal ?_
                go_wp2_with fail
                go_meet
                exact FIN.out
            · go_simp
              have HZ : Hid (Row (wn.alloc (.cells #[.slice none 0 0, .slice none 0 0] 29)) wn.heap.size 2 (fun i => if i = 0 then .slice none 0 0 else .slice none 0 0)) := box2 wn _ _ 29
              have HZB : Hid (wn.heap.size ≠ zs ∧ w.heap.size < wn.heap.size ∧ C < wn.heap.size) := by have := HO.out.zl; show _ ∧ _ ∧ _; omega
              replace HO : Hid (TA Y w (wn.alloc (.cells #[.slice none 0 0, .slice none 0 0] 29)) C (kk + 2 + 2) zs (OnE wn.heap.size) b4 c4 kn p4 m4) := HO.out.alloc _
              refine hK.out _ _ HO.out.box (fun hB => ?_)
              clear hK K hB
              try simp only [Act.put, List.setIfInBounds_toArray, List.set_cons_zero, List.set_cons_succ]
              generalize wn.alloc (.cells #[.slice none 0 0, .slice none 0 0] 29) = wA at *
              generalize wn.heap.size = zb at *
              refine wpAnyH_ready (rs := [6]) (by kernel_rfl) (by simp) ?_
              refine AllReadyH.cons (o := { dst := some 30, op := Op.call { callee := Callee.value (Operand.func 78), args := #[Operand.tmp 29, Operand.const (Value.int IntKind.i64 3)], argTypes := #[101, 3] }, type := 3, pos := _, after := #[{ on := 5, ground := Ground.data }, { on := 4, ground := Ground.chain }], guard := none }) rfl (fun K hK => ?_) AllReadyH.nil
              go_simp
              refine (pick_any Y C (kk + 2 + 2) 3 _ (by omega) (by omega) HO.out.cur).mono ?_
              rintro e wn ⟨x2, rfl, hx2, hc, hm⟩
              have hwx2 := wrap1 x2 (by omega)
              replace HO : Hid (TA Y w wn C (kk + 2 + 2 + 2) zs (OnE zb) b4 c4 kn p4 m4) := HO.out.go hC hc hm
              replace HZ : Hid (Row wn zb 2 (fun i => if i = 0 then .slice none 0 0 else .slice none 0 0)) := HZ.out.mod hm (by have := HZB.out; omega)
              clear hc hm
              refine hK.out _ _ HO.out.box (fun hB => ?_)
              clear hK K hB
              try simp only [Act.put, List.setIfInBounds_toArray, List.set_cons_zero, List.set_cons_succ]
              refine wpAnyH_take (i := 7) (oi := { dst := some 31, op := Op.binOp BinOp.add 3 (Operand.const (Value.int IntKind.i64 1)) (Operand.tmp 30) 3, type := 3, pos := _, after := #[{ on := 6, ground := Ground.data }], guard := none }) (v := (.int .i64 (1 + (x2 : Int)))) rfl (by kernel_rfl) (by kernel_rfl) (by kernel_rfl) (fun _ _ _ h => h) (Or.inl ⟨by rfl, fun w' hS => by (try dsimp only at hS); go_simp⟩) HO.out.box ?_
              simp only [Act.put, List.setIfInBounds_toArray, List.set_cons_zero, List.set_cons_succ]
              refine wpAnyH_ready (rs := [8]) (by kernel_rfl) (by simp) ?_
              refine AllReadyH.cons (o := { dst := some 32, op := Op.call { callee := Callee.value (Operand.func 115), args := #[Operand.tmp 24, Operand.tmp 26, Operand.tmp 28, Operand.tmp 31], argTypes := #[29, 3, 3, 3] }, type := 62, pos := _, after := #[{ on := 0, ground := Ground.data }, { on := 2, ground := Ground.data }, { on := 4, ground := Ground.data }, { on := 7, ground := Ground.data }, { on := 6, ground := Ground.chain }], guard := none }) rfl (fun K hK => ?_) AllReadyH.nil
              go_simp
              refine (specMap_any b4 (T4 c4 kn p4 m4) (x0 : Int) (x1 : Int) (1 + (x2 : Int)) _ _ (by show 4 ≤ _; omega) HO.out.own.at).mono ?_
              rintro e wn ⟨b3, R, r3, rfl, ho3, hs3, own3, hbk⟩
              have HRR : Hid (r3 = true → ∃ c' p' m', R = T4 c' kn p' m') := ch_shape ho3
              have hzl := HO.out.zl
              have hsz := hbk.size
              have hzz := HZ.out.lt
              replace HZ : Hid (Row wn zb 2 (fun i => if i = 0 then .slice none 0 0 else .slice none 0 0)) := HZ.out.blw hbk
              have HOW : Hid (BookOwn (fun x => w.heap.size < x ∧ x < wn.heap.size ∧ x ≠ zs ∧ ¬ OnE zb x) wn b3 R) := own3.mono (fun x hx => ⟨by omega, hx.2, by omega, fun e => by have e' : x = zb := e; omega⟩)
              replace HO : Hid (TA Y w wn C (kk + 2 + 2 + 2) zs (OnE zb) b4 c4 kn p4 m4) := HO.out.blw hbk
              clear ho3 hs3 own3 hbk hzl hsz hzz
              refine hK.out _ _ HO.out.box (fun hB => ?_)
              clear hK K hB
              try simp only [Act.put, List.setIfInBounds_toArray, List.set_cons_zero, List.set_cons_succ]
              refine wpAnyH_take (i := 9) (oi := { dst := some 23, op := Op.move (Operand.tmp 32), type := 62, pos := _, after := #[{ on := 8, ground := Ground.data }], guard := none }) (v := (.tuple #[b3.val R, .bool r3])) rfl (by kernel_rfl) (by kernel_rfl) (by kernel_rfl) (fun _ _ _ h => h) (Or.inl ⟨by rfl, fun w' hS => by (try dsimp only at hS); go_simp⟩) HO.out.box ?_
              simp only [Act.put, List.setIfInBounds_toArray, List.set_cons_zero, List.set_cons_succ]
              refine wpAnyH_take (i := 10) (oi := { dst := some 33, op := Op.extract (Operand.tmp 23) 0, type := 29, pos := _, after := #[{ on := 9, ground := Ground.data }], guard := none }) (v := (.agg #[.slice b3.a1 R.n b3.c1, .slice b3.a2 R.D.n b3.c2])) rfl (by kernel_rfl) (by kernel_rfl) (by kernel_rfl) (fun _ _ _ h => h) (Or.inl ⟨by rfl, fun w' hS => by (try dsimp only at hS); go_simp⟩) HO.out.box ?_
              simp only [Act.put, List.setIfInBounds_toArray, List.set_cons_zero, List.set_cons_succ]
              refine wpAnyH_take (i := 11) (oi := { dst := some 34, op := Op.extract (Operand.tmp 23) 1, type := 4, pos := _, after := #[{ on := 9, ground := Ground.data }, { on := 13, ground := Ground.gcOnly Departure.lateStores }], guard := none }) (v := (.bool r3)) rfl (by kernel_rfl) (by kernel_rfl) (by kernel_rfl) (fun _ _ _ h => h) (Or.inl ⟨by rfl, fun w' hS => by (try dsimp only at hS); go_simp⟩) HO.out.box ?_
              simp only [Act.put, List.setIfInBounds_toArray, List.set_cons_zero, List.set_cons_succ]
              refine wpAnyH_ready (rs := [13]) (by kernel_rfl) (by simp) ?_
              refine AllReadyH.cons (o := { dst := none, op := Op.store 29 (Operand.tmp 6) (Operand.tmp 33), type := 0, pos := _, after := #[{ on := 12, ground := Ground.data }, { on := 10, ground := Ground.data }, { on := 8, ground := Ground.chain }, { on := 0, ground := Ground.phase }, { on := 1, ground := Ground.phase }, { on := 2, ground := Ground.phase }, { on := 3, ground := Ground.phase }, { on := 4, ground := Ground.phase }, { on := 5, ground := Ground.phase }, { on := 6, ground := Ground.phase }, { on := 7, ground := Ground.phase }, { on := 8, ground := Ground.phase }, { on := 9, ground := Ground.phase }, { on := 10, ground := Ground.phase }, { on := 11, ground := Ground.textOnly Departure.lateStores }, { on := 12, ground := Ground.phase }], guard := none }) rfl (fun K hK => ?_) AllReadyH.nil
              obtain ⟨z0, z1⟩ := get2 HZ.out
              have fz0 := HZ.out.frozen 0
              have fz1 := HZ.out.frozen 1
              have FIN : Hid _ := got_fin hC hYw HO.out HZ.out ⟨HZB.out.1, HZB.out.2.1⟩ HRR.out HOW.out
              go_simp
              refine hK.out _ _ (by obtain ⟨_, _, _, _, _, _, ho, _⟩ := FIN.out; exact ho.box) (fun hB => ?_)
              clear hK K hB
              try simp only [Act.put, List.setIfInBounds_toArray, List.set_cons_zero, List.set_cons_succ]
              clear z0 z1 fz0 fz1
              refine wpAnyH_take (i := 14) (oi := { dst := some 7, op := Op.assign (Operand.tmp 34), type := 4, pos := _, after := #[{ on := 11, ground := Ground.data }, { on := 13, ground := Ground.chain }, { on := 0, ground := Ground.phase }, { on := 1, ground := Ground.phase }, { on := 2, ground := Ground.phase }, { on := 3, ground := Ground.phase }, { on := 4, ground := Ground.phase }, { on := 5, ground := Ground.phase }, { on := 6, ground := Ground.phase }, { on := 7, ground := Ground.phase }, { on := 8, ground := Ground.phase }, { on := 9, ground := Ground.phase }, { on := 10, ground := Ground.phase }, { on := 11, ground := Ground.phase }, { on := 12, ground := Ground.phase }, { on := 13, ground := Ground.phase }], guard := none }) (v := (.bool r3)) rfl (by kernel_rfl) (by kernel_rfl) (by kernel_rfl) (fun _ _ _ h => h) (Or.inl ⟨by rfl, fun w' hS => by (try dsimp only at hS); go_simp⟩) (by obtain ⟨_, _, _, _, _, _, ho, _⟩ := FIN.out; exact ho.box) ?_
              simp only [Act.put, List.setIfInBounds_toArray, List.set_cons_zero, List.set_cons_succ]
              refine wpAnyH_done (by kernel_rfl) ?_ _
              refine NoPanic.normal ?_
              go_wp2_with fail
              go_meet
              exact FIN.out
          · go_simp
            have HZ : Hid (Row (wn.alloc (.cells #[.slice none 0 0, .slice none 0 0] 29)) wn.heap.size 2 (fun i => if i = 0 then .slice none 0 0 else .slice none 0 0)) := box2 wn _ _ 29
            have HZB : Hid (wn.heap.size ≠ zs ∧ w.heap.size < wn.heap.size ∧ C < wn.heap.size) := by have := HO.out.zl; show _ ∧ _ ∧ _; omega
            replace HO : Hid (TA Y w (wn.alloc (.cells #[.slice none 0 0, .slice none 0 0] 29)) C (kk + 2) zs (OnE wn.heap.size) b4 c4 kn p4 m4) := HO.out.alloc _
            refine hK.out _ _ HO.out.box (fun hB => ?_)
            clear hK K hB
            try simp only [Act.put, List.setIfInBounds_toArray, List.set_cons_zero, List.set_cons_succ]
            generalize wn.alloc (.cells #[.slice none 0 0, .slice none 0 0] 29) = wA at *
            generalize wn.heap.size = zb at *
            refine wpAnyH_ready (rs := [4]) (by kernel_rfl) (by simp) ?_
            refine AllReadyH.cons (o := { dst := some 28, op := Op.call { callee := Callee.value (Operand.func 78), args := #[Operand.tmp 27, Operand.const (Value.int IntKind.i64 16)], argTypes := #[101, 3] }, type := 3, pos := _, after := #[{ on := 3, ground := Ground.data }, { on := 2, ground := Ground.chain }], guard := none }) rfl (fun K hK => ?_) AllReadyH.nil
            go_simp
            refine (pick_any Y C (kk + 2) 16 _ (by omega) (by omega) HO.out.cur).mono ?_
            rintro e wn ⟨x1, rfl, hx1, hc, hm⟩
            have hwx1 := wrap1 x1 (by omega)
            replace HO : Hid (TA Y w wn C (kk + 2 + 2) zs (OnE zb) b4 c4 kn p4 m4) := HO.out.go hC hc hm
            replace HZ : Hid (Row wn zb 2 (fun i => if i = 0 then .slice none 0 0 else .slice none 0 0)) := HZ.out.mod hm (by have := HZB.out; omega)
            clear hc hm
            refine hK.out _ _ HO.out.box (fun hB => ?_)
            clear hK K hB
            try simp only [Act.put, List.setIfInBounds_toArray, List.set_cons_zero, List.set_cons_succ]
            refine wpAnyH_ready (rs := [6]) (by kernel_rfl) (by simp) ?_
            refine AllReadyH.cons (o := { dst := some 30, op := Op.call { callee := Callee.value (Operand.func 78), args := #[Operand.tmp 29, Operand.const (Value.int IntKind.i64 3)], argTypes := #[101, 3] }, type := 3, pos := _, after := #[{ on := 5, ground := Ground.data }, { on := 4, ground := Ground.chain }], guard := none }) rfl (fun K hK => ?_) AllReadyH.nil
            go_simp
            refine (pick_any Y C (kk + 2 + 2) 3 _ (by omega) (by omega) HO.out.cur).mono ?_
            rintro e wn ⟨x2, rfl, hx2, hc, hm⟩
            have hwx2 := wrap1 x2 (by omega)
            replace HO : Hid (TA Y w wn C (kk + 2 + 2 + 2) zs (OnE zb) b4 c4 kn p4 m4) := HO.out.go hC hc hm
            replace HZ : Hid (Row wn zb 2 (fun i => if i = 0 then .slice none 0 0 else .slice none 0 0)) := HZ.out.mod hm (by have := HZB.out; omega)
            clear hc hm
            refine hK.out _ _ HO.out.box (fun hB => ?_)
            clear hK K hB
            try simp only [Act.put, List.setIfInBounds_toArray, List.set_cons_zero, List.set_cons_succ]
            refine wpAnyH_take (i := 7) (oi := { dst := some 31, op := Op.binOp BinOp.add 3 (Operand.const (Value.int IntKind.i64 1)) (Operand.tmp 30) 3, type := 3, pos := _, after := #[{ on := 6, ground := Ground.data }], guard := none }) (v := (.int .i64 (1 + (x2 : Int)))) rfl (by kernel_rfl) (by kernel_rfl) (by kernel_rfl) (fun _ _ _ h => h) (Or.inl ⟨by rfl, fun w' hS => by (try dsimp only at hS); go_simp⟩) HO.out.box ?_
            simp only [Act.put, List.setIfInBounds_toArray, List.set_cons_zero, List.set_cons_succ]
            refine wpAnyH_ready (rs := [8]) (by kernel_rfl) (by simp) ?_
            refine AllReadyH.cons (o := { dst := some 32, op := Op.call { callee := Callee.value (Operand.func 115), args := #[Operand.tmp 24, Operand.tmp 26, Operand.tmp 28, Operand.tmp 31], argTypes := #[29, 3, 3, 3] }, type := 62, pos := _, after := #[{ on := 0, ground := Ground.data }, { on := 2, ground := Ground.data }, { on := 4, ground := Ground.data }, { on := 7, ground := Ground.data }, { on := 6, ground := Ground.chain }], guard := none }) rfl (fun K hK => ?_) AllReadyH.nil
            go_simp
            refine (specMap_any b4 (T4 c4 kn p4 m4) (x0 : Int) (x1 : Int) (1 + (x2 : Int)) _ _ (by show 4 ≤ _; omega) HO.out.own.at).mono ?_
            rintro e wn ⟨b3, R, r3, rfl, ho3, hs3, own3, hbk⟩
            have HRR : Hid (r3 = true → ∃ c' p' m', R = T4 c' kn p' m') := ch_shape ho3
            have hzl := HO.out.zl
            have hsz := hbk.size
            have hzz := HZ.out.lt
            replace HZ : Hid (Row wn zb 2 (fun i => if i = 0 then .slice none 0 0 else .slice none 0 0)) := HZ.out.blw hbk
            have HOW : Hid (BookOwn (fun x => w.heap.size < x ∧ x < wn.heap.size ∧ x ≠ zs ∧ ¬ OnE zb x) wn b3 R) := own3.mono (fun x hx => ⟨by omega, hx.2, by omega, fun e => by have e' : x = zb := e; omega⟩)
            replace HO : Hid (TA Y w wn C (kk + 2 + 2 + 2) zs (OnE zb) b4 c4 kn p4 m4) := HO.out.blw hbk
            clear ho3 hs3 own3 hbk hzl hsz hzz
            refine hK.out _ _ HO.out.box (fun hB => ?_)
            clear hK K hB
            try simp only [Act.put, List.setIfInBounds_toArray, List.set_cons_zero, List.set_cons_succ]
            refine wpAnyH_take (i := 9) (oi := { dst := some 23, op := Op.move (Operand.tmp 32), type := 62, pos := _, after := #[{ on := 8, ground := Ground.data }], guard := none }) (v := (.tuple #[b3.val R, .bool r3])) rfl (by kernel_rfl) (by kernel_rfl) (by kernel_rfl) (fun _ _ _ h => h) (Or.inl ⟨by rfl, fun w' hS => by (try dsimp only at hS); go_simp⟩) HO.out.box ?_
            simp only [Act.put, List.setIfInBounds_toArray, List.set_cons_zero, List.set_cons_succ]
            refine wpAnyH_take (i := 10) (oi := { dst := some 33, op := Op.extract (Operand.tmp 23) 0, type := 29, pos := _, after := #[{ on := 9, ground := Ground.data }], guard := none }) (v := (.agg #[.slice b3.a1 R.n b3.c1, .slice b3.a2 R.D.n b3.c2])) rfl (by kernel_rfl) (by kernel_rfl) (by kernel_rfl) (fun _ _ _ h => h) (Or.inl ⟨by rfl, fun w' hS => by (try dsimp only at hS); go_simp⟩) HO.out.box ?_
            simp only [Act.put, List.setIfInBounds_toArray, List.set_cons_zero, List.set_cons_succ]
            refine wpAnyH_take (i := 11) (oi := { dst := some 34, op := Op.extract (Operand.tmp 23) 1, type := 4, pos := _, after := #[{ on := 9, ground := Ground.data }, { on := 13, ground := Ground.gcOnly Departure.lateStores }], guard := none }) (v := (.bool r3)) rfl (by kernel_rfl) (by kernel_rfl) (by kernel_rfl) (fun _ _ _ h => h) (Or.inl ⟨by rfl, fun w' hS => by (try dsimp only at hS); go_simp⟩) HO.out.box ?_
            simp only [Act.put, List.setIfInBounds_toArray, List.set_cons_zero, List.set_cons_succ]
            refine wpAnyH_ready (rs := [13]) (by kernel_rfl) (by simp) ?_
            refine AllReadyH.cons (o := { dst := none, op := Op.store 29 (Operand.tmp 6) (Operand.tmp 33), type := 0, pos := _, after := #[{ on := 12, ground := Ground.data }, { on := 10, ground := Ground.data }, { on := 8, ground := Ground.chain }, { on := 0, ground := Ground.phase }, { on := 1, ground := Ground.phase }, { on := 2, ground := Ground.phase }, { on := 3, ground := Ground.phase }, { on := 4, ground := Ground.phase }, { on := 5, ground := Ground.phase }, { on := 6, ground := Ground.phase }, { on := 7, ground := Ground.phase }, { on := 8, ground := Ground.phase }, { on := 9, ground := Ground.phase }, { on := 10, ground := Ground.phase }, { on := 11, ground := Ground.textOnly Departure.lateStores }, { on := 12, ground := Ground.phase }], guard := none }) rfl (fun K hK => ?_) AllReadyH.nil
            obtain ⟨z0, z1⟩ := get2 HZ.out
            have fz0 := HZ.out.frozen 0
            have fz1 := HZ.out.frozen 1
            have FIN : Hid _ := got_fin hC hYw HO.out HZ.out ⟨HZB.out.1, HZB.out.2.1⟩ HRR.out HOW.out
            go_simp
            refine hK.out _ _ (by obtain ⟨_, _, _, _, _, _, ho, _⟩ := FIN.out; exact ho.box) (fun hB => ?_)
            clear hK K hB
            try simp only [Act.put, List.setIfInBounds_toArray, List.set_cons_zero, List.set_cons_succ]
            clear z0 z1 fz0 fz1
            refine wpAnyH_take (i := 14) (oi := { dst := some 7, op := Op.assign (Operand.tmp 34), type := 4, pos := _, after := #[{ on := 11, ground := Ground.data }, { on := 13, ground := Ground.chain }, { on := 0, ground := Ground.phase }, { on := 1, ground := Ground.phase }, { on := 2, ground := Ground.phase }, { on := 3, ground := Ground.phase }, { on := 4, ground := Ground.phase }, { on := 5, ground := Ground.phase }, { on := 6, ground := Ground.phase }, { on := 7, ground := Ground.phase }, { on := 8, ground := Ground.phase }, { on := 9, ground := Ground.phase }, { on := 10, ground := Ground.phase }, { on := 11, ground := Ground.phase }, { on := 12, ground := Ground.phase }, { on := 13, ground := Ground.phase }], guard := none }) (v := (.bool r3)) rfl (by kernel_rfl) (by kernel_rfl) (by kernel_rfl) (fun _ _ _ h => h) (Or.inl ⟨by rfl, fun w' hS => by (try dsimp only at hS); go_simp⟩) (by obtain ⟨_, _, _, _, _, _, ho, _⟩ := FIN.out; exact ho.box) ?_
            simp only [Act.put, List.setIfInBounds_toArray, List.set_cons_zero, List.set_cons_succ]
            refine wpAnyH_done (by kernel_rfl) ?_ _
            refine NoPanic.normal ?_
            go_wp2_with fail
            go_meet
            exact FIN.out
        · go_simp
          have HZ : Hid (Row (wd.alloc (.cells #[.slice none 0 0, .slice none 0 0] 29)) wd.heap.size 2 (fun i => if i = 0 then .slice none 0 0 else .slice none 0 0)) := box2 wd _ _ 29
          have HZB : Hid (wd.heap.size ≠ zs ∧ w.heap.size < wd.heap.size ∧ C < wd.heap.size) := by have := HO.out.zl; show _ ∧ _ ∧ _; omega
          replace HO : Hid (TA Y w (wd.alloc (.cells #[.slice none 0 0, .slice none 0 0] 29)) C (kk) zs (OnE wd.heap.size) b4 c4 kn p4 m4) := HO.out.alloc _
          refine hK.out _ _ HO.out.box (fun hB => ?_)
          clear hK K hB
          try simp only [Act.put, List.setIfInBounds_toArray, List.set_cons_zero, List.set_cons_succ]
          generalize wd.alloc (.cells #[.slice none 0 0, .slice none 0 0] 29) = wA at *
          generalize wd.heap.size = zb at *
          refine wpAnyH_ready (rs := [2]) (by kernel_rfl) (by simp) ?_
          refine AllReadyH.cons (o := { dst := some 26, op := Op.call { callee := Callee.value (Operand.func 78), args := #[Operand.tmp 25, Operand.const (Value.int IntKind.i64 16)], argTypes := #[101, 3] }, type := 3, pos := _, after := #[{ on := 1, ground := Ground.data }], guard := none }) rfl (fun K hK => ?_) AllReadyH.nil
          go_simp
          refine (pick_any Y C (kk) 16 _ (by omega) (by omega) HO.out.cur).mono ?_
          rintro e wn ⟨x0, rfl, hx0, hc, hm⟩
          have hwx0 := wrap1 x0 (by omega)
          replace HO : Hid (TA Y w wn C (kk + 2) zs (OnE zb) b4 c4 kn p4 m4) := HO.out.go hC hc hm
          replace HZ : Hid (Row wn zb 2 (fun i => if i = 0 then .slice none 0 0 else .slice none 0 0)) := HZ.out.mod hm (by have := HZB.out; omega)
          clear hc hm
          refine hK.out _ _ HO.out.box (fun hB => ?_)
          clear hK K hB
          try simp only [Act.put, List.setIfInBounds_toArray, List.set_cons_zero, List.set_cons_succ]
          refine wpAnyH_ready (rs := [4]) (by kernel_rfl) (by simp) ?_
          refine AllReadyH.cons (o := { dst := some 28, op := Op.call { callee := Callee.value (Operand.func 78), args := #[Operand.tmp 27, Operand.const (Value.int IntKind.i64 16)], argTypes := #[101, 3] }, type := 3, pos := _, after := #[{ on := 3, ground := Ground.data }, { on := 2, ground := Ground.chain }], guard := none }) rfl (fun K hK => ?_) AllReadyH.nil
          go_simp
          refine (pick_any Y C (kk + 2) 16 _ (by omega) (by omega) HO.out.cur).mono ?_
          rintro e wn ⟨x1, rfl, hx1, hc, hm⟩
          have hwx1 := wrap1 x1 (by omega)
          replace HO : Hid (TA Y w wn C (kk + 2 + 2) zs (OnE zb) b4 c4 kn p4 m4) := HO.out.go hC hc hm
          replace HZ : Hid (Row wn zb 2 (fun i => if i = 0 then .slice none 0 0 else .slice none 0 0)) := HZ.out.mod hm (by have := HZB.out; omega)
          clear hc hm
          refine hK.out _ _ HO.out.box (fun hB => ?_)
          clear hK K hB
          try simp only [Act.put, List.setIfInBounds_toArray, List.set_cons_zero, List.set_cons_succ]
          refine wpAnyH_ready (rs := [6]) (by kernel_rfl) (by simp) ?_
          refine AllReadyH.cons (o := { dst := some 30, op := Op.call { callee := Callee.value (Operand.func 78), args := #[Operand.tmp 29, Operand.const (Value.int IntKind.i64 3)], argTypes := #[101, 3] }, type := 3, pos := _, after := #[{ on := 5, ground := Ground.data }, { on := 4, ground := Ground.chain }], guard := none }) rfl (fun K hK => ?_) AllReadyH.nil
          go_simp
          refine (pick_any Y C (kk + 2 + 2) 3 _ (by omega) (by omega) HO.out.cur).mono ?_
          rintro e wn ⟨x2, rfl, hx2, hc, hm⟩
          have hwx2 := wrap1 x2 (by omega)
          replace HO : Hid (TA Y w wn C (kk + 2 + 2 + 2) zs (OnE zb) b4 c4 kn p4 m4) := HO.out.go hC hc hm
          replace HZ : Hid (Row wn zb 2 (fun i => if i = 0 then .slice none 0 0 else .slice none 0 0)) := HZ.out.mod hm (by have := HZB.out; omega)
          clear hc hm
          refine hK.out _ _ HO.out.box (fun hB => ?_)
          clear hK K hB
          try simp only [Act.put, List.setIfInBounds_toArray, List.set_cons_zero, List.set_cons_succ]
          refine wpAnyH_take (i := 7) (oi := { dst := some 31, op := Op.binOp BinOp.add 3 (Operand.const (Value.int IntKind.i64 1)) (Operand.tmp 30) 3, type := 3, pos := _, after := #[{ on := 6, ground := Ground.data }], guard := none }) (v := (.int .i64 (1 + (x2 : Int)))) rfl (by kernel_rfl) (by kernel_rfl) (by kernel_rfl) (fun _ _ _ h => h) (Or.inl ⟨by rfl, fun w' hS => by (try dsimp only at hS); go_simp⟩) HO.out.box ?_
          simp only [Act.put, List.setIfInBounds_toArray, List.set_cons_zero, List.set_cons_succ]
          refine wpAnyH_ready (rs := [8]) (by kernel_rfl) (by simp) ?_
          refine AllReadyH.cons (o := { dst := some 32, op := Op.call { callee := Callee.value (Operand.func 115), args := #[Operand.tmp 24, Operand.tmp 26, Operand.tmp 28, Operand.tmp 31], argTypes := #[29, 3, 3, 3] }, type := 62, pos := _, after := #[{ on := 0, ground := Ground.data }, { on := 2, ground := Ground.data }, { on := 4, ground := Ground.data }, { on := 7, ground := Ground.data }, { on := 6, ground := Ground.chain }], guard := none }) rfl (fun K hK => ?_) AllReadyH.nil
          go_simp
          refine (specMap_any b4 (T4 c4 kn p4 m4) (x0 : Int) (x1 : Int) (1 + (x2 : Int)) _ _ (by show 4 ≤ _; omega) HO.out.own.at).mono ?_
          rintro e wn ⟨b3, R, r3, rfl, ho3, hs3, own3, hbk⟩
          have HRR : Hid (r3 = true → ∃ c' p' m', R = T4 c' kn p' m') := ch_shape ho3
          have hzl := HO.out.zl
          have hsz := hbk.size
          have hzz := HZ.out.lt
          replace HZ : Hid (Row wn zb 2 (fun i => if i = 0 then .slice none 0 0 else .slice none 0 0)) := HZ.out.blw hbk
          have HOW : Hid (BookOwn (fun x => w.heap.size < x ∧ x < wn.heap.size ∧ x ≠ zs ∧ ¬ OnE zb x) wn b3 R) := own3.mono (fun x hx => ⟨by omega, hx.2, by omega, fun e => by have e' : x = zb := e; omega⟩)
          replace HO : Hid (TA Y w wn C (kk + 2 + 2 + 2) zs (OnE zb) b4 c4 kn p4 m4) := HO.out.blw hbk
          clear ho3 hs3 own3 hbk hzl hsz hzz
          refine hK.out _ _ HO.out.box (fun hB => ?_)
          clear hK K hB
          try simp only [Act.put, List.setIfInBounds_toArray, List.set_cons_zero, List.set_cons_succ]
          refine wpAnyH_take (i := 9) (oi := { dst := some 23, op := Op.move (Operand.tmp 32), type := 62, pos := _, after := #[{ on := 8, ground := Ground.data }], guard := none }) (v := (.tuple #[b3.val R, .bool r3])) rfl (by kernel_rfl) (by kernel_rfl) (by kernel_rfl) (fun _ _ _ h => h) (Or.inl ⟨by rfl, fun w' hS => by (try dsimp only at hS); go_simp⟩) HO.out.box ?_
          simp only [Act.put, List.setIfInBounds_toArray, List.set_cons_zero, List.set_cons_succ]
          refine wpAnyH_take (i := 10) (oi := { dst := some 33, op := Op.extract (Operand.tmp 23) 0, type := 29, pos := _, after := #[{ on := 9, ground := Ground.data }], guard := none }) (v := (.agg #[.slice b3.a1 R.n b3.c1, .slice b3.a2 R.D.n b3.c2])) rfl (by kernel_rfl) (by kernel_rfl) (by kernel_rfl) (fun _ _ _ h => h) (Or.inl ⟨by rfl, fun w' hS => by (try dsimp only at hS); go_simp⟩) HO.out.box ?_
          simp only [Act.put, List.setIfInBounds_toArray, List.set_cons_zero, List.set_cons_succ]
          refine wpAnyH_take (i := 11) (oi := { dst := some 34, op := Op.extract (Operand.tmp 23) 1, type := 4, pos := _, after := #[{ on := 9, ground := Ground.data }, { on := 13, ground := Ground.gcOnly Departure.lateStores }], guard := none }) (v := (.bool r3)) rfl (by kernel_rfl) (by kernel_rfl) (by kernel_rfl) (fun _ _ _ h => h) (Or.inl ⟨by rfl, fun w' hS => by (try dsimp only at hS); go_simp⟩) HO.out.box ?_
          simp only [Act.put, List.setIfInBounds_toArray, List.set_cons_zero, List.set_cons_succ]
          refine wpAnyH_ready (rs := [13]) (by kernel_rfl) (by simp) ?_
          refine AllReadyH.cons (o := { dst := none, op := Op.store 29 (Operand.tmp 6) (Operand.tmp 33), type := 0, pos := _, after := #[{ on := 12, ground := Ground.data }, { on := 10, ground := Ground.data }, { on := 8, ground := Ground.chain }, { on := 0, ground := Ground.phase }, { on := 1, ground := Ground.phase }, { on := 2, ground := Ground.phase }, { on := 3, ground := Ground.phase }, { on := 4, ground := Ground.phase }, { on := 5, ground := Ground.phase }, { on := 6, ground := Ground.phase }, { on := 7, ground := Ground.phase }, { on := 8, ground := Ground.phase }, { on := 9, ground := Ground.phase }, { on := 10, ground := Ground.phase }, { on := 11, ground := Ground.textOnly Departure.lateStores }, { on := 12, ground := Ground.phase }], guard := none }) rfl (fun K hK => ?_) AllReadyH.nil
          obtain ⟨z0, z1⟩ := get2 HZ.out
          have fz0 := HZ.out.frozen 0
          have fz1 := HZ.out.frozen 1
          have FIN : Hid _ := got_fin hC hYw HO.out HZ.out ⟨HZB.out.1, HZB.out.2.1⟩ HRR.out HOW.out
          go_simp
          refine hK.out _ _ (by obtain ⟨_, _, _, _, _, _, ho, _⟩ := FIN.out; exact ho.box) (fun hB => ?_)
          clear hK K hB
          try simp only [Act.put, List.setIfInBounds_toArray, List.set_cons_zero, List.set_cons_succ]
          clear z0 z1 fz0 fz1
          refine wpAnyH_take (i := 14) (oi := { dst := some 7, op := Op.assign (Operand.tmp 34), type := 4, pos := _, after := #[{ on := 11, ground := Ground.data }, { on := 13, ground := Ground.chain }, { on := 0, ground := Ground.phase }, { on := 1, ground := Ground.phase }, { on := 2, ground := Ground.phase }, { on := 3, ground := Ground.phase }, { on := 4, ground := Ground.phase }, { on := 5, ground := Ground.phase }, { on := 6, ground := Ground.phase }, { on := 7, ground := Ground.phase }, { on := 8, ground := Ground.phase }, { on := 9, ground := Ground.phase }, { on := 10, ground := Ground.phase }, { on := 11, ground := Ground.phase }, { on := 12, ground := Ground.phase }, { on := 13, ground := Ground.phase }], guard := none }) (v := (.bool r3)) rfl (by kernel_rfl) (by kernel_rfl) (by kernel_rfl) (fun _ _ _ h => h) (Or.inl ⟨by rfl, fun w' hS => by (try dsimp only at hS); go_simp⟩) (by obtain ⟨_, _, _, _, _, _, ho, _⟩ := FIN.out; exact ho.box) ?_
          simp only [Act.put, List.setIfInBounds_toArray, List.set_cons_zero, List.set_cons_succ]
          refine wpAnyH_done (by kernel_rfl) ?_ _
          refine NoPanic.normal ?_
          go_wp2_with fail
          go_meet
          exact FIN.out
      case rest =>
        clear HO P0 P1
        obtain ⟨zb, b3, R, r, rfl, rfl, ho, hzb, hne, hlo, hr, own⟩ := hcut
        have HOZ : Hid (w.heap.size < zb) := hlo
        have HO : Hid (TA Y w wc C (kk + 2 + 2 + 2) zs NoE b4 c4 kn p4 m4) := ho
        have HZ : Hid (Row wc zb 2 (bx2 b3 R.n R.D.n)) := hzb
        have HR : Hid (r = true → ∃ c' p' m', R = T4 c' kn p' m') := hr
        have HOO : Hid (BookOwn (fun x => w.heap.size < x ∧ x < wc.heap.size ∧ x ≠ zs) wc b3 R) := own
        clear ho hzb hr own hlo
        clear wr
        go_upto_if 35 with fail
        go_cut [] from 19 to 49 (fun wx => Tw Y w wx C (kk + 2 + 2 + 2) zs)
        case first =>
          cases r
          · go_wp2_with fail
            go_meet
            exact ⟨_, _, _, _, _, HO.out⟩
          · obtain ⟨z0, z1⟩ := get2 HZ.out
            obtain ⟨t0, t1⟩ := get2 HO.out.box
            have f0 := HO.out.box.frozen 0
            have f1 := HO.out.box.frozen 1
            have FIN : Hid _ := got_yes hC hYw HO.out (HR.out (by first | rfl | trivial)) HOO.out
            clear HZ HO HR HOO
            go_wp2_with fail
            go_meet
            exact FIN.out
        case rest =>
          have HOW0 : Hid (Tw Y w wc C (kk + 2 + 2 + 2) zs) := hcut
          clear hcut HO HZ HR HOO hne HOZ
          obtain ⟨b4, c4, kn, p4, m4, ho4⟩ := HOW0.out
          have HO : Hid (TA Y w wc C (kk + 2 + 2 + 2) zs NoE b4 c4 kn p4 m4) := ho4
          clear ho4 HOW0
          have P0 : ∀ w', Row w' zs 2 (bx2 b4 4 kn) → w'.cell? ⟨zs, 0, none⟩ = some (.slice b4.a1 4 b4.c1) := fun w' hh => (get2 hh).1
          have P1 : ∀ w', Row w' zs 2 (bx2 b4 4 kn) → w'.cell? ⟨zs, 1, none⟩ = some (.slice b4.a2 kn b4.c2) := fun w' hh => (get2 hh).2
          go_upto_region 8 with fail
          go_cut [8, 9] from 19 to 49 (fun v1 v2 wx => Got Y w C (kk + 2 + 2 + 2 + 2) zs b4 c4 kn p4 m4 v1 v2 wx)
          case first =>
            replace HO : Hid (TA Y w wc.drew C (kk + 2 + 2 + 2) zs NoE b4 c4 kn p4 m4) := HO.out.blw (Blw.refl _).drew
            refine wp_region_noPanic ?_
            refine wp_region_held_drew (S := fun w' => Row w' zs 2 (bx2 b4 4 kn)) (by kernel_rfl) HO.out.box (fun hB => ?_)
            clear hB
            generalize wc.drew = wd at *
            refine wpAnyH_take (i := 0) (oi := { dst := some 38, op := Op.load 29 (Operand.tmp 3), type := 29, pos := _, after := #[], guard := none }) (v := (.agg #[.slice b4.a1 4 b4.c1, .slice b4.a2 kn b4.c2])) rfl (by kernel_rfl) (by kernel_rfl) (by kernel_rfl) (fun _ _ _ h => h) (Or.inl ⟨by rfl, fun w' hS => by (try dsimp only at hS); go_simp⟩) HO.out.box ?_
            simp only [Act.put, List.setIfInBounds_toArray, List.set_cons_zero, List.set_cons_succ]
            refine wpAnyH_take (i := 1) (oi := { dst := some 39, op := Op.move (Operand.tmp 0), type := 101, pos := _, after := #[], guard := none }) (v := (.pointer (some ⟨C, 0, none⟩))) rfl (by kernel_rfl) (by kernel_rfl) (by kernel_rfl) (fun _ _ _ h => h) (Or.inl ⟨by rfl, fun w' hS => by (try dsimp only at hS); go_simp⟩) HO.out.box ?_
            simp only [Act.put, List.setIfInBounds_toArray, List.set_cons_zero, List.set_cons_succ]
            refine wpAnyH_ready (rs := [2, 7]) (by kernel_rfl) (by simp) ?_
            refine AllReadyH.cons (o := { dst := some 40, op := Op.call { callee := Callee.value (Operand.func 78), args := #[Operand.tmp 39, Operand.const (Value.int IntKind.i64 16)], argTypes := #[101, 3] }, type := 3, pos := _, after := #[{ on := 1, ground := Ground.data }], guard := none }) rfl (fun K hK => ?_) (AllReadyH.cons (o := { dst := some 8, op := Op.alloc 29, type := 0, pos := _, after := #[], guard := none }) rfl (fun K hK => ?_) AllReadyH.nil)
            · go_simp
              refine (pick_any Y C (kk + 2 + 2 + 2) 16 _ (by omega) (by omega) HO.out.cur).mono ?_
              rintro e wn ⟨x0, rfl, hx0, hc, hm⟩
              have hwx0 := wrap1 x0 (by omega)
              replace HO : Hid (TA Y w wn C (kk + 2 + 2 + 2 + 2) zs NoE b4 c4 kn p4 m4) := HO.out.go hC hc hm
              clear hc hm
              refine hK.out _ _ HO.out.box (fun hB => ?_)
              clear hK K hB
              try simp only [Act.put, List.setIfInBounds_toArray, List.set_cons_zero, List.set_cons_succ]
              refine wpAnyH_ready (rs := [3, 7]) (by kernel_rfl) (by simp) ?_
              refine AllReadyH.cons (o := { dst := some 41, op := Op.call { callee := Callee.value (Operand.func 148), args := #[Operand.tmp 38, Operand.tmp 40], argTypes := #[29, 3] }, type := 62, pos := _, after := #[{ on := 0, ground := Ground.data }, { on := 2, ground := Ground.data }, { on := 2, ground := Ground.chain }], guard := none }) rfl (fun K hK => ?_) (AllReadyH.cons (o := { dst := some 8, op := Op.alloc 29, type := 0, pos := _, after := #[], guard := none }) rfl (fun K hK => ?_) AllReadyH.nil)
              · go_simp
                refine (specUnmap_any b4 (T4 c4 kn p4 m4) (x0 : Int) _ _ (by show 4 ≤ _; omega) HO.out.own.at).mono ?_
                rintro e wn ⟨b3, R, r3, rfl, ho3, hs3, own3, hbk⟩
                have HRR : Hid (r3 = true → ∃ c' p' m', R = T4 c' kn p' m') := ch_shape ho3
                have hzl := HO.out.zl
                have hsz := hbk.size
                have HOW : Hid (BookOwn (fun x => w.heap.size < x ∧ x < wn.heap.size ∧ x ≠ zs ∧ ¬ NoE x) wn b3 R) := own3.mono (fun x hx => ⟨by omega, hx.2, by omega, id⟩)
                replace HO : Hid (TA Y w wn C (kk + 2 + 2 + 2 + 2) zs NoE b4 c4 kn p4 m4) := HO.out.blw hbk
                clear ho3 hs3 own3 hbk hzl hsz
                refine hK.out _ _ HO.out.box (fun hB => ?_)
                clear hK K hB
                try simp only [Act.put, List.setIfInBounds_toArray, List.set_cons_zero, List.set_cons_succ]
                refine wpAnyH_take (i := 4) (oi := { dst := some 37, op := Op.move (Operand.tmp 41), type := 62, pos := _, after := #[{ on := 3, ground := Ground.data }], guard := none }) (v := (.tuple #[b3.val R, .bool r3])) rfl (by kernel_rfl) (by kernel_rfl) (by kernel_rfl) (fun _ _ _ h => h) (Or.inl ⟨by rfl, fun w' hS => by (try dsimp only at hS); go_simp⟩) HO.out.box ?_
                simp only [Act.put, List.setIfInBounds_toArray, List.set_cons_zero, List.set_cons_succ]
                refine wpAnyH_take (i := 5) (oi := { dst := some 42, op := Op.extract (Operand.tmp 37) 0, type := 29, pos := _, after := #[{ on := 4, ground := Ground.data }], guard := none }) (v := (.agg #[.slice b3.a1 R.n b3.c1, .slice b3.a2 R.D.n b3.c2])) rfl (by kernel_rfl) (by kernel_rfl) (by kernel_rfl) (fun _ _ _ h => h) (Or.inl ⟨by rfl, fun w' hS => by (try dsimp only at hS); go_simp⟩) HO.out.box ?_
                simp only [Act.put, List.setIfInBounds_toArray, List.set_cons_zero, List.set_cons_succ]
                refine wpAnyH_take (i := 6) (oi := { dst := some 43, op := Op.extract (Operand.tmp 37) 1, type := 4, pos := _, after := #[{ on := 4, ground := Ground.data }, { on := 8, ground := Ground.gcOnly Departure.lateStores }], guard := none }) (v := (.bool r3)) rfl (by kernel_rfl) (by kernel_rfl) (by kernel_rfl) (fun _ _ _ h => h) (Or.inl ⟨by rfl, fun w' hS => by (try dsimp only at hS); go_simp⟩) HO.out.box ?_
                simp only [Act.put, List.setIfInBounds_toArray, List.set_cons_zero, List.set_cons_succ]
                refine wpAnyH_ready (rs := [7]) (by kernel_rfl) (by simp) ?_
                refine AllReadyH.cons (o := { dst := some 8, op := Op.alloc 29, type := 0, pos := _, after := #[], guard := none }) rfl (fun K hK => ?_) AllReadyH.nil
                go_simp
                have HZ : Hid (Row (wn.alloc (.cells #[.slice none 0 0, .slice none 0 0] 29)) wn.heap.size 2 (fun i => if i = 0 then .slice none 0 0 else .slice none 0 0)) := box2 wn _ _ 29
                have HZB : Hid (wn.heap.size ≠ zs ∧ w.heap.size < wn.heap.size ∧ C < wn.heap.size) := by have := HO.out.zl; show _ ∧ _ ∧ _; omega
                replace HOW : Hid (BookOwn (fun x => w.heap.size < x ∧ x < (wn.alloc (.cells #[.slice none 0 0, .slice none 0 0] 29)).heap.size ∧ x ≠ zs ∧ ¬ OnE wn.heap.size x) (wn.alloc (.cells #[.slice none 0 0, .slice none 0 0] 29)) b3 R) := (HOW.out.blw ((Blw.refl _).alloc _)).mono (fun x hx => ⟨hx.1, by rw [World.size_alloc]; omega, hx.2.2.1, fun e => by have e' : x = wn.heap.size := e; omega⟩)
                replace HO : Hid (TA Y w (wn.alloc (.cells #[.slice none 0 0, .slice none 0 0] 29)) C (kk + 2 + 2 + 2 + 2) zs (OnE wn.heap.size) b4 c4 kn p4 m4) := HO.out.alloc _
                refine hK.out _ _ HO.out.box (fun hB => ?_)
                clear hK K hB
                try simp only [Act.put, List.setIfInBounds_toArray, List.set_cons_zero, List.set_cons_succ]
                generalize wn.alloc (.cells #[.slice none 0 0, .slice none 0 0] 29) = wA at *
                generalize wn.heap.size = zb at *
                refine wpAnyH_ready (rs := [8]) (by kernel_rfl) (by simp) ?_
                refine AllReadyH.cons (o := { dst := none, op := Op.store 29 (Operand.tmp 8) (Operand.tmp 42), type := 0, pos := _, after := #[{ on := 7, ground := Ground.data }, { on := 5, ground := Ground.data }, { on := 3, ground := Ground.chain }, { on := 0, ground := Ground.phase }, { on := 1, ground := Ground.phase }, { on := 2, ground := Ground.phase }, { on := 3, ground := Ground.phase }, { on := 4, ground := Ground.phase }, { on := 5, ground := Ground.phase }, { on := 6, ground := Ground.textOnly Departure.lateStores }, { on := 7, ground := Ground.phase }], guard := none }) rfl (fun K hK => ?_) AllReadyH.nil
                obtain ⟨z0, z1⟩ := get2 HZ.out
                have fz0 := HZ.out.frozen 0
                have fz1 := HZ.out.frozen 1
                have FIN : Hid _ := got_fin hC hYw HO.out HZ.out ⟨HZB.out.1, HZB.out.2.1⟩ HRR.out HOW.out
                go_simp
                refine hK.out _ _ (by obtain ⟨_, _, _, _, _, _, ho, _⟩ := FIN.out; exact ho.box) (fun hB => ?_)
                clear hK K hB
                try simp only [Act.put, List.setIfInBounds_toArray, List.set_cons_zero, List.set_cons_succ]
                clear z0 z1 fz0 fz1
                refine wpAnyH_take (i := 9) (oi := { dst := some 9, op := Op.assign (Operand.tmp 43), type := 4, pos := _, after := #[{ on := 6, ground := Ground.data }, { on := 8, ground := Ground.chain }, { on := 0, ground := Ground.phase }, { on := 1, ground := Ground.phase }, { on := 2, ground := Ground.phase }, { on := 3, ground := Ground.phase }, { on := 4, ground := Ground.phase }, { on := 5, ground := Ground.phase }, { on := 6, ground := Ground.phase }, { on := 7, ground := Ground.phase }, { on := 8, ground := Ground.phase }], guard := none }) (v := (.bool r3)) rfl (by kernel_rfl) (by kernel_rfl) (by kernel_rfl) (fun _ _ _ h => h) (Or.inl ⟨by rfl, fun w' hS => by (try dsimp only at hS); go_simp⟩) (by obtain ⟨_, _, _, _, _, _, ho, _⟩ := FIN.out; exact ho.box) ?_
                simp only [Act.put, List.setIfInBounds_toArray, List.set_cons_zero, List.set_cons_succ]
                refine wpAnyH_done (by kernel_rfl) ?_ _
                refine NoPanic.normal ?_
                go_wp2_with fail
                go_meet
                exact FIN.out
              · go_simp
                have HZ : Hid (Row (wn.alloc (.cells #[.slice none 0 0, .slice none 0 0] 29)) wn.heap.size 2 (fun i => if i = 0 then .slice none 0 0 else .slice none 0 0)) := box2 wn _ _ 29
                have HZB : Hid (wn.heap.size ≠ zs ∧ w.heap.size < wn.heap.size ∧ C < wn.heap.size) := by have := HO.out.zl; show _ ∧ _ ∧ _; omega
                replace HO : Hid (TA Y w (wn.alloc (.cells #[.slice none 0 0, .slice none 0 0] 29)) C (kk + 2 + 2 + 2 + 2) zs (OnE wn.heap.size) b4 c4 kn p4 m4) := HO.out.alloc _
                refine hK.out _ _ HO.out.box (fun hB => ?_)
                clear hK K hB
                try simp only [Act.put, List.setIfInBounds_toArray, List.set_cons_zero, List.set_cons_succ]
                generalize wn.alloc (.cells #[.slice none 0 0, .slice none 0 0] 29) = wA at *
                generalize wn.heap.size = zb at *
                refine wpAnyH_ready (rs := [3]) (by kernel_rfl) (by simp) ?_
                refine AllReadyH.cons (o := { dst := some 41, op := Op.call { callee := Callee.value (Operand.func 148), args := #[Operand.tmp 38, Operand.tmp 40], argTypes := #[29, 3] }, type := 62, pos := _, after := #[{ on := 0, ground := Ground.data }, { on := 2, ground := Ground.data }, { on := 2, ground := Ground.chain }], guard := none }) rfl (fun K hK => ?_) AllReadyH.nil
                go_simp
                refine (specUnmap_any b4 (T4 c4 kn p4 m4) (x0 : Int) _ _ (by show 4 ≤ _; omega) HO.out.own.at).mono ?_
                rintro e wn ⟨b3, R, r3, rfl, ho3, hs3, own3, hbk⟩
                have HRR : Hid (r3 = true → ∃ c' p' m', R = T4 c' kn p' m') := ch_shape ho3
                have hzl := HO.out.zl
                have hsz := hbk.size
                have hzz := HZ.out.lt
                replace HZ : Hid (Row wn zb 2 (fun i => if i = 0 then .slice none 0 0 else .slice none 0 0)) := HZ.out.blw hbk
                have HOW : Hid (BookOwn (fun x => w.heap.size < x ∧ x < wn.heap.size ∧ x ≠ zs ∧ ¬ OnE zb x) wn b3 R) := own3.mono (fun x hx => ⟨by omega, hx.2, by omega, fun e => by have e' : x = zb := e; omega⟩)
                replace HO : Hid (TA Y w wn C (kk + 2 + 2 + 2 + 2) zs (OnE zb) b4 c4 kn p4 m4) := HO.out.blw hbk
                clear ho3 hs3 own3 hbk hzl hsz hzz
                refine hK.out _ _ HO.out.box (fun hB => ?_)
                clear hK K hB
                try simp only [Act.put, List.setIfInBounds_toArray, List.set_cons_zero, List.set_cons_succ]
                refine wpAnyH_take (i := 4) (oi := { dst := some 37, op := Op.move (Operand.tmp 41), type := 62, pos := _, after := #[{ on := 3, ground := Ground.data }], guard := none }) (v := (.tuple #[b3.val R, .bool r3])) rfl (by kernel_rfl) (by kernel_rfl) (by kernel_rfl) (fun _ _ _ h => h) (Or.inl ⟨by rfl, fun w' hS => by (try dsimp only at hS); go_simp⟩) HO.out.box ?_
                simp only [Act.put, List.setIfInBounds_toArray, List.set_cons_zero, List.set_cons_succ]
                refine wpAnyH_take (i := 5) (oi := { dst := some 42, op := Op.extract (Operand.tmp 37) 0, type := 29, pos := _, after := #[{ on := 4, ground := Ground.data }], guard := none }) (v := (.agg #[.slice b3.a1 R.n b3.c1, .slice b3.a2 R.D.n b3.c2])) rfl (by kernel_rfl) (by kernel_rfl) (by kernel_rfl) (fun _ _ _ h => h) (Or.inl ⟨by rfl, fun w' hS => by (try dsimp only at hS); go_simp⟩) HO.out.box ?_
                simp only [Act.put, List.setIfInBounds_toArray, List.set_cons_zero, List.set_cons_succ]
                refine wpAnyH_take (i := 6) (oi := { dst := some 43, op := Op.extract (Operand.tmp 37) 1, type := 4, pos := _, after := #[{ on := 4, ground := Ground.data }, { on := 8, ground := Ground.gcOnly Departure.lateStores }], guard := none }) (v := (.bool r3)) rfl (by kernel_rfl) (by kernel_rfl) (by kernel_rfl) (fun _ _ _ h => h) (Or.inl ⟨by rfl, fun w' hS => by (try dsimp only at hS); go_simp⟩) HO.out.box ?_
                simp only [Act.put, List.setIfInBounds_toArray, List.set_cons_zero, List.set_cons_succ]
                refine wpAnyH_ready (rs := [8]) (by kernel_rfl) (by simp) ?_
                refine AllReadyH.cons (o := { dst := none, op := Op.store 29 (Operand.tmp 8) (Operand.tmp 42), type := 0, pos := _, after := #[{ on := 7, ground := Ground.data }, { on := 5, ground := Ground.data }, { on := 3, ground := Ground.chain }, { on := 0, ground := Ground.phase }, { on := 1, ground := Ground.phase }, { on := 2, ground := Ground.phase }, { on := 3, ground := Ground.phase }, { on := 4, ground := Ground.phase }, { on := 5, ground := Ground.phase }, { on := 6, ground := Ground.textOnly Departure.lateStores }, { on := 7, ground := Ground.phase }], guard := none }) rfl (fun K hK => ?_) AllReadyH.nil
                obtain ⟨z0, z1⟩ := get2 HZ.out
                have fz0 := HZ.out.frozen 0
                have fz1 := HZ.out.frozen 1
                have FIN : Hid _ := got_fin hC hYw HO.out HZ.out ⟨HZB.out.1, HZB.out.2.1⟩ HRR.out HOW.out
                go_simp
                refine hK.out _ _ (by obtain ⟨_, _, _, _, _, _, ho, _⟩ := FIN.out; exact ho.box) (fun hB => ?_)
                clear hK K hB
                try simp only [Act.put, List.setIfInBounds_toArray, List.set_cons_zero, List.set_cons_succ]
                clear z0 z1 fz0 fz1
                refine wpAnyH_take (i := 9) (oi := { dst := some 9, op := Op.assign (Operand.tmp 43), type := 4, pos := _, after := #[{ on := 6, ground := Ground.data }, { on := 8, ground := Ground.chain }, { on := 0, ground := Ground.phase }, { on := 1, ground := Ground.phase }, { on := 2, ground := Ground.phase }, { on := 3, ground := Ground.phase }, { on := 4, ground := Ground.phase }, { on := 5, ground := Ground.phase }, { on := 6, ground := Ground.phase }, { on := 7, ground := Ground.phase }, { on := 8, ground := Ground.phase }], guard := none }) (v := (.bool r3)) rfl (by kernel_rfl) (by kernel_rfl) (by kernel_rfl) (fun _ _ _ h => h) (Or.inl ⟨by rfl, fun w' hS => by (try dsimp only at hS); go_simp⟩) (by obtain ⟨_, _, _, _, _, _, ho, _⟩ := FIN.out; exact ho.box) ?_
                simp only [Act.put, List.setIfInBounds_toArray, List.set_cons_zero, List.set_cons_succ]
                refine wpAnyH_done (by kernel_rfl) ?_ _
                refine NoPanic.normal ?_
                go_wp2_with fail
                go_meet
                exact FIN.out
            · go_simp
              have HZ : Hid (Row (wd.alloc (.cells #[.slice none 0 0, .slice none 0 0] 29)) wd.heap.size 2 (fun i => if i = 0 then .slice none 0 0 else .slice none 0 0)) := box2 wd _ _ 29
              have HZB : Hid (wd.heap.size ≠ zs ∧ w.heap.size < wd.heap.size ∧ C < wd.heap.size) := by have := HO.out.zl; show _ ∧ _ ∧ _; omega
              replace HO : Hid (TA Y w (wd.alloc (.cells #[.slice none 0 0, .slice none 0 0] 29)) C (kk + 2 + 2 + 2) zs (OnE wd.heap.size) b4 c4 kn p4 m4) := HO.out.alloc _
              refine hK.out _ _ HO.out.box (fun hB => ?_)
              clear hK K hB
              try simp only [Act.put, List.setIfInBounds_toArray, List.set_cons_zero, List.set_cons_succ]
              generalize wd.alloc (.cells #[.slice none 0 0, .slice none 0 0] 29) = wA at *
              generalize wd.heap.size = zb at *
              refine wpAnyH_ready (rs := [2]) (by kernel_rfl) (by simp) ?_
              refine AllReadyH.cons (o := { dst := some 40, op := Op.call { callee := Callee.value (Operand.func 78), args := #[Operand.tmp 39, Operand.const (Value.int IntKind.i64 16)], argTypes := #[101, 3] }, type := 3, pos := _, after := #[{ on := 1, ground := Ground.data }], guard := none }) rfl (fun K hK => ?_) AllReadyH.nil
              go_simp
              refine (pick_any Y C (kk + 2 + 2 + 2) 16 _ (by omega) (by omega) HO.out.cur).mono ?_
              rintro e wn ⟨x0, rfl, hx0, hc, hm⟩
              have hwx0 := wrap1 x0 (by omega)
              replace HO : Hid (TA Y w wn C (kk + 2 + 2 + 2 + 2) zs (OnE zb) b4 c4 kn p4 m4) := HO.out.go hC hc hm
              replace HZ : Hid (Row wn zb 2 (fun i => if i = 0 then .slice none 0 0 else .slice none 0 0)) := HZ.out.mod hm (by have := HZB.out; omega)
              clear hc hm
              refine hK.out _ _ HO.out.box (fun hB => ?_)
              clear hK K hB
              try simp only [Act.put, List.setIfInBounds_toArray, List.set_cons_zero, List.set_cons_succ]
              refine wpAnyH_ready (rs := [3]) (by kernel_rfl) (by simp) ?_
              refine AllReadyH.cons (o := { dst := some 41, op := Op.call { callee := Callee.value (Operand.func 148), args := #[Operand.tmp 38, Operand.tmp 40], argTypes := #[29, 3] }, type := 62, pos := _, after := #[{ on := 0, ground := Ground.data }, { on := 2, ground := Ground.data }, { on := 2, ground := Ground.chain }], guard := none }) rfl (fun K hK => ?_) AllReadyH.nil
              go_simp
              refine (specUnmap_any b4 (T4 c4 kn p4 m4) (x0 : Int) _ _ (by show 4 ≤ _; omega) HO.out.own.at).mono ?_
              rintro e wn ⟨b3, R, r3, rfl, ho3, hs3, own3, hbk⟩
              have HRR : Hid (r3 = true → ∃ c' p' m', R = T4 c' kn p' m') := ch_shape ho3
              have hzl := HO.out.zl
              have hsz := hbk.size
              have hzz := HZ.out.lt
              replace HZ : Hid (Row wn zb 2 (fun i => if i = 0 then .slice none 0 0 else .slice none 0 0)) := HZ.out.blw hbk
              have HOW : Hid (BookOwn (fun x => w.heap.size < x ∧ x < wn.heap.size ∧ x ≠ zs ∧ ¬ OnE zb x) wn b3 R) := own3.mono (fun x hx => ⟨by omega, hx.2, by omega, fun e => by have e' : x = zb := e; omega⟩)
              replace HO : Hid (TA Y w wn C (kk + 2 + 2 + 2 + 2) zs (OnE zb) b4 c4 kn p4 m4) := HO.out.blw hbk
              clear ho3 hs3 own3 hbk hzl hsz hzz
              refine hK.out _ _ HO.out.box (fun hB => ?_)
              clear hK K hB
              try simp only [Act.put, List.setIfInBounds_toArray, List.set_cons_zero, List.set_cons_succ]
              refine wpAnyH_take (i := 4) (oi := { dst := some 37, op := Op.move (Operand.tmp 41), type := 62, pos := _, after := #[{ on := 3, ground := Ground.data }], guard := none }) (v := (.tuple #[b3.val R, .bool r3])) rfl (by kernel_rfl) (by kernel_rfl) (by kernel_rfl) (fun _ _ _ h => h) (Or.inl ⟨by rfl, fun w' hS => by (try dsimp only at hS); go_simp⟩) HO.out.box ?_
              simp only [Act.put, List.setIfInBounds_toArray, List.set_cons_zero, List.set_cons_succ]
              refine wpAnyH_take (i := 5) (oi := { dst := some 42, op := Op.extract (Operand.tmp 37) 0, type := 29, pos := _, after := #[{ on := 4, ground := Ground.data }], guard := none }) (v := (.agg #[.slice b3.a1 R.n b3.c1, .slice b3.a2 R.D.n b3.c2])) rfl (by kernel_rfl) (by kernel_rfl) (by kernel_rfl) (fun _ _ _ h => h) (Or.inl ⟨by rfl, fun w' hS => by (try dsimp only at hS); go_simp⟩) HO.out.box ?_
              simp only [Act.put, List.setIfInBounds_toArray, List.set_cons_zero, List.set_cons_succ]
              refine wpAnyH_take (i := 6) (oi := { dst := some 43, op := Op.extract (Operand.tmp 37) 1, type := 4, pos := _, after := #[{ on := 4, ground := Ground.data }, { on := 8, ground := Ground.gcOnly Departure.lateStores }], guard := none }) (v := (.bool r3)) rfl (by kernel_rfl) (by kernel_rfl) (by kernel_rfl) (fun _ _ _ h => h) (Or.inl ⟨by rfl, fun w' hS => by (try dsimp only at hS); go_simp⟩) HO.out.box ?_
              simp only [Act.put, List.setIfInBounds_toArray, List.set_cons_zero, List.set_cons_succ]
              refine wpAnyH_ready (rs := [8]) (by kernel_rfl) (by simp) ?_
              refine AllReadyH.cons (o := { dst := none, op := Op.store 29 (Operand.tmp 8) (Operand.tmp 42), type := 0, pos := _, after := #[{ on := 7, ground := Ground.data }, { on := 5, ground := Ground.data }, { on := 3, ground := Ground.chain }, { on := 0, ground := Ground.phase }, { on := 1, ground := Ground.phase }, { on := 2, ground := Ground.phase }, { on := 3, ground := Ground.phase }, { on := 4, ground := Ground.phase }, { on := 5, ground := Ground.phase }, { on := 6, ground := Ground.textOnly Departure.lateStores }, { on := 7, ground := Ground.phase }], guard := none }) rfl (fun K hK => ?_) AllReadyH.nil
              obtain ⟨z0, z1⟩ := get2 HZ.out
              have fz0 := HZ.out.frozen 0
              have fz1 := HZ.out.frozen 1
              have FIN : Hid _ := got_fin hC hYw HO.out HZ.out ⟨HZB.out.1, HZB.out.2.1⟩ HRR.out HOW.out
              go_simp
              refine hK.out _ _ (by obtain ⟨_, _, _, _, _, _, ho, _⟩ := FIN.out; exact ho.box) (fun hB => ?_)
              clear hK K hB
              try simp only [Act.put, List.setIfInBounds_toArray, List.set_cons_zero, List.set_cons_succ]
              clear z0 z1 fz0 fz1
              refine wpAnyH_take (i := 9) (oi := { dst := some 9, op := Op.assign (Operand.tmp 43), type := 4, pos := _, after := #[{ on := 6, ground := Ground.data }, { on := 8, ground := Ground.chain }, { on := 0, ground := Ground.phase }, { on := 1, ground := Ground.phase }, { on := 2, ground := Ground.phase }, { on := 3, ground := Ground.phase }, { on := 4, ground := Ground.phase }, { on := 5, ground := Ground.phase }, { on := 6, ground := Ground.phase }, { on := 7, ground := Ground.phase }, { on := 8, ground := Ground.phase }], guard := none }) (v := (.bool r3)) rfl (by kernel_rfl) (by kernel_rfl) (by kernel_rfl) (fun _ _ _ h => h) (Or.inl ⟨by rfl, fun w' hS => by (try dsimp only at hS); go_simp⟩) (by obtain ⟨_, _, _, _, _, _, ho, _⟩ := FIN.out; exact ho.box) ?_
              simp only [Act.put, List.setIfInBounds_toArray, List.set_cons_zero, List.set_cons_succ]
              refine wpAnyH_done (by kernel_rfl) ?_ _
              refine NoPanic.normal ?_
              go_wp2_with fail
              go_meet
              exact FIN.out
          case rest =>
            clear HO P0 P1
            obtain ⟨zb, b3, R, r, rfl, rfl, ho, hzb, hne, hlo, hr, own⟩ := hcut
            have HOZ : Hid (w.heap.size < zb) := hlo
            have HO : Hid (TA Y w wc C (kk + 2 + 2 + 2 + 2) zs NoE b4 c4 kn p4 m4) := ho
            have HZ : Hid (Row wc zb 2 (bx2 b3 R.n R.D.n)) := hzb
            have HR : Hid (r = true → ∃ c' p' m', R = T4 c' kn p' m') := hr
            have HOO : Hid (BookOwn (fun x => w.heap.size < x ∧ x < wc.heap.size ∧ x ≠ zs) wc b3 R) := own
            clear ho hzb hr own hlo
            cases r
            · have FIN : Hid (Tw Y w wc C (kk + 2 + 2 + 2 + 2) zs) := ⟨_, _, _, _, _, HO.out⟩
              obtain ⟨b9, c9, kn9, p9, m9, ho9⟩ := FIN.out
              have HFN : Hid (Tw Y w _ C (k + 4 + 10 * (8 - (i - 1))) zs) := ⟨b9, c9, kn9, p9, m9, ho9.le (by have := HKK.out; omega)⟩
              clear ho9 FIN HZ HO HR HOO
              go_wp2
              go_roundw
              case rel => exact ⟨i - 1, by omega, by congr 1; omega, HFN.out⟩
              case measure => simp [intOf]; omega
            · go_wp2_with fail
              refine (one_any Y C (kk + 2 + 2 + 2 + 2) 3 _ (by omega) (by omega) HO.out.cur).mono ?_
              rintro e w9 ⟨ro, rfl, hc, hm⟩
              replace HZ : Hid (Row w9 zb 2 (bx2 b3 R.n R.D.n)) := HZ.out.mod hm (by have := HOZ.out; omega)
              replace HOO : Hid (BookOwn (fun x => w.heap.size < x ∧ x < w9.heap.size ∧ x ≠ zs) w9 b3 R) := (HOO.out.mod hm (fun x hx e => by omega)).mono (fun x hx => ⟨hx.1, by have := hm.size; omega, hx.2.2⟩)
              replace HO : Hid (TA Y w w9 C (kk + 2 + 2 + 2 + 2 + 2) zs NoE b4 c4 kn p4 m4) := HO.out.go hC hc hm
              clear hc hm
              cases ro
              · have FIN : Hid (Tw Y w w9 C (kk + 2 + 2 + 2 + 2 + 2) zs) := ⟨_, _, _, _, _, HO.out⟩
                obtain ⟨b9, c9, kn9, p9, m9, ho9⟩ := FIN.out
                have HFN : Hid (Tw Y w _ C (k + 4 + 10 * (8 - (i - 1))) zs) := ⟨b9, c9, kn9, p9, m9, ho9.le (by have := HKK.out; omega)⟩
                clear ho9 FIN HZ HO HR HOO
                go_wp2
                go_roundw
                case rel => exact ⟨i - 1, by omega, by congr 1; omega, HFN.out⟩
                case measure => simp [intOf]; omega
              · obtain ⟨z0, z1⟩ := get2 HZ.out
                obtain ⟨t0, t1⟩ := get2 HO.out.box
                have f0 := HO.out.box.frozen 0
                have f1 := HO.out.box.frozen 1
                have FIN : Hid _ := got_yes hC hYw HO.out (HR.out (by first | rfl | trivial)) HOO.out
                obtain ⟨b9, c9, kn9, p9, m9, ho9⟩ := FIN.out
                have HFN : Hid (Tw Y w _ C (k + 4 + 10 * (8 - (i - 1))) zs) := ⟨b9, c9, kn9, p9, m9, ho9.le (by have := HKK.out; omega)⟩
                clear ho9 FIN HZ HO HR HOO
                go_wp2
                go_roundw
                case rel => exact ⟨i - 1, by omega, by congr 1; omega, HFN.out⟩
                case measure => simp [intOf]; omega
    · obtain rfl : i = 0 := by omega
      obtain ⟨b4, c4, kn, p4, m4, ho4⟩ := HOW0.out
      go_wp2_with fail
      refine (pick_any Y C (k + 4 + 10 * (8 - 0)) 30 _ (by omega) (by omega) ho4.cur).mono ?_
      rintro e w5 ⟨x, rfl, hx30, hc5, hm5⟩
      have HO : Hid (TA Y w w5 C (k + 4 + 10 * (8 - 0) + 2) zs NoE b4 c4 kn p4 m4) := ho4.go hC hc5 hm5
      clear HOW0 ho4 hc5 hm5
      obtain ⟨a1, a2, q1, q2⟩ := b4
      by_cases x0 : x = 0
      · subst x0
        obtain ⟨y, ea, hy, -⟩ := table_owned HO.out.own 0
        dsimp only at ea
        subst ea
        have P0 : ∀ w', Row w' zs 2 (bx2 ⟨some ⟨y, 0, none⟩, a2, q1, q2⟩ 4 kn) → w'.cell? ⟨zs, 0, none⟩ = some (.slice (some ⟨y, 0, none⟩) 4 q1) := fun w' hh => (get2 hh).1
        have P1 : ∀ w', Row w' zs 2 (bx2 ⟨some ⟨y, 0, none⟩, a2, q1, q2⟩ 4 kn) → w'.cell? ⟨zs, 1, none⟩ = some (.slice a2 kn q2) := fun w' hh => (get2 hh).2
        go_upto_region 13 with fail
        replace HO : Hid (TA Y w w5.drew C (k + 4 + 10 * (8 - 0) + 2) zs NoE ⟨some ⟨y, 0, none⟩, a2, q1, q2⟩ c4 kn p4 m4) := HO.out.blw (Blw.refl _).drew
        refine wp_region_noPanic ?_
        refine wp_region_held_drew (S := fun w' => Row w' zs 2 (bx2 ⟨some ⟨y, 0, none⟩, a2, q1, q2⟩ 4 kn)) (by kernel_rfl) HO.out.box (fun hB => ?_)
        clear hB
        generalize w5.drew = wd at *
        refine wpAnyH_take (i := 0) (oi := { dst := some 54, op := Op.fieldAddr 29 (Operand.tmp 3) 0, type := 0, pos := _, after := #[], guard := none }) (v := (.pointer (some ⟨zs, 0, none⟩))) rfl (by kernel_rfl) (by kernel_rfl) (by kernel_rfl) (fun _ _ _ h => h) (Or.inl ⟨by rfl, fun w' hS => by (try dsimp only at hS); go_simp⟩) HO.out.box ?_
        simp only [Act.put, List.setIfInBounds_toArray, List.set_cons_zero, List.set_cons_succ]
        refine wpAnyH_take (i := 2) (oi := { dst := some 56, op := Op.move (Operand.tmp 0), type := 101, pos := _, after := #[], guard := none }) (v := (.pointer (some ⟨C, 0, none⟩))) rfl (by kernel_rfl) (by kernel_rfl) (by kernel_rfl) (fun _ _ _ h => h) (Or.inl ⟨by rfl, fun w' hS => by (try dsimp only at hS); go_simp⟩) HO.out.box ?_
        simp only [Act.put, List.setIfInBounds_toArray, List.set_cons_zero, List.set_cons_succ]
        refine wpAnyH_take (i := 1) (oi := { dst := some 55, op := Op.load 26 (Operand.tmp 54), type := 26, pos := _, after := #[{ on := 0, ground := Ground.data }], guard := none }) (v := (.slice (some ⟨y, 0, none⟩) 4 q1)) rfl (by kernel_rfl) (by kernel_rfl) (by kernel_rfl) (fun _ _ _ h => h) (Or.inl ⟨by rfl, fun w' hS => by (try dsimp only at hS); go_simp⟩) HO.out.box ?_
        simp only [Act.put, List.setIfInBounds_toArray, List.set_cons_zero, List.set_cons_succ]
        refine wpAnyH_ready (rs := [3]) (by kernel_rfl) (by simp) ?_
        refine AllReadyH.cons (o := { dst := some 57, op := Op.buildSlice 26 3 #[(0, Operand.const (Value.int IntKind.i64 (-2))), (1, Operand.const (Value.int IntKind.i64 3)), (2, Operand.const (Value.int IntKind.i64 4))], type := 26, pos := _, after := #[], guard := none }) rfl (fun K hK => ?_) AllReadyH.nil
        have HI3 : Hid (IntsAt (fun b => b = wd.heap.size) (wd.alloc (.cells #[.int .i64 (-2), .int .i64 3, .int .i64 4] 3)) (some ⟨wd.heap.size, 0, none⟩) 3 (fun i => if i = 0 then -2 else if i = 1 then 3 else 4)) := by
          have r3 := box3 wd (.int .i64 (-2)) (.int .i64 3) (.int .i64 4) 3
          refine ⟨by omega, fun i hi => ⟨wd.heap.size, 0, rfl, rfl, ?_⟩⟩
          rw [Nat.zero_add, r3.cell hi]
          match i, hi with
          | 0, _ => rfl
          | 1, _ => rfl
          | 2, _ => rfl
        have HCW : Hid (C < wd.heap.size) := by have := HO.out.mod.size; show _ < _; omega
        replace HO : Hid (TA Y w (wd.alloc (.cells #[.int .i64 (-2), .int .i64 3, .int .i64 4] 3)) C (k + 4 + 10 * (8 - 0) + 2) zs NoE ⟨some ⟨y, 0, none⟩, a2, q1, q2⟩ c4 kn p4 m4) := HO.out.blw ((Blw.refl _).alloc _)
        go_simp
        refine hK.out _ _ HO.out.box (fun hB => ?_)
        clear hK K hB
        try simp only [Act.put, List.setIfInBounds_toArray, List.set_cons_zero, List.set_cons_succ]
        generalize (wd.alloc (.cells #[.int .i64 (-2), .int .i64 3, .int .i64 4] 3)) = wA at *
        refine wpAnyH_ready (rs := [4]) (by kernel_rfl) (by simp) ?_
        refine AllReadyH.cons (o := { dst := some 58, op := Op.call { callee := Callee.value (Operand.func 152), args := #[Operand.tmp 56, Operand.tmp 57], argTypes := #[101, 26] }, type := 3, pos := _, after := #[{ on := 2, ground := Ground.data }, { on := 3, ground := Ground.data }], guard := none }) rfl (fun K hK => ?_) AllReadyH.nil
        go_simp
        refine (among_any Y _ C (k + 4 + 10 * (8 - 0) + 2) _ 3 3 _ _ (by omega) (by omega) HI3.out (fun b hb => by have := HCW.out; omega) HO.out.cur).mono ?_
        rintro e w6 ⟨xa, rfl, hc6, hm6⟩
        replace HO : Hid (TA Y w w6 C (k + 4 + 10 * (8 - 0) + 2 + 2) zs NoE ⟨some ⟨y, 0, none⟩, a2, q1, q2⟩ c4 kn p4 m4) := HO.out.go hC hc6 hm6
        clear hc6 hm6 HI3 HCW
        refine hK.out _ _ HO.out.box (fun hB => ?_)
        clear hK K hB
        try simp only [Act.put, List.setIfInBounds_toArray, List.set_cons_zero, List.set_cons_succ]
        refine wpAnyH_take (i := 5) (oi := { dst := some 59, op := Op.indexAddr 26 (Operand.tmp 55) (Operand.const (Value.int IntKind.i64 0)), type := 0, pos := _, after := #[{ on := 1, ground := Ground.data }, { on := 0, ground := Ground.phase }, { on := 1, ground := Ground.phase }, { on := 2, ground := Ground.phase }, { on := 3, ground := Ground.phase }, { on := 4, ground := Ground.phase }], guard := none }) (v := (.pointer (some ⟨y, 0, none⟩))) rfl (by kernel_rfl) (by kernel_rfl) (by kernel_rfl) (fun _ _ _ h => h) (Or.inl ⟨by rfl, fun w' hS => by (try dsimp only at hS); go_simp⟩) HO.out.box ?_
        simp only [Act.put, List.setIfInBounds_toArray, List.set_cons_zero, List.set_cons_succ]
        refine wpAnyH_ready (rs := [6]) (by kernel_rfl) (by simp) ?_
        refine AllReadyH.cons (o := { dst := none, op := Op.store 3 (Operand.tmp 59) (Operand.tmp 58), type := 0, pos := _, after := #[{ on := 5, ground := Ground.data }, { on := 4, ground := Ground.data }, { on := 4, ground := Ground.chain }, { on := 0, ground := Ground.phase }, { on := 1, ground := Ground.phase }, { on := 2, ground := Ground.phase }, { on := 3, ground := Ground.phase }, { on := 4, ground := Ground.phase }], guard := none }) rfl (fun K hK => ?_) AllReadyH.nil
        obtain ⟨y', ea, hy2, hcell, hfr, hnew⟩ := table_owned HO.out.own xa
        cases ea
        replace HO : Hid (TA Y w (w6.setCell ⟨y, 0, none⟩ (.int .i64 xa)) C (k + 4 + 10 * (8 - 0) + 2 + 2) zs NoE ⟨some ⟨y, 0, none⟩, a2, q1, q2⟩ (upd c4 0 xa) kn p4 m4) := HO.out.put hC hYw ⟨hy2.1, hy2.2.1, hy2.2.2.1⟩ (Mod.setCell (X := fun z => z = y) _ (p := ⟨y, 0, none⟩) rfl _) hnew
        clear hnew hy2 hy
        go_simp
        refine hK.out _ _ HO.out.box (fun hB => ?_)
        clear hK K hB
        try simp only [Act.put, List.setIfInBounds_toArray, List.set_cons_zero, List.set_cons_succ]
        clear hcell hfr P0 P1
        refine wpAnyH_done (by kernel_rfl) ?_ _
        refine NoPanic.normal ?_
        generalize w6.setCell ⟨y, 0, none⟩ (.int .i64 xa) = w7 at *
        obtain ⟨g0, g1⟩ := get2 HO.out.box
        obtain ⟨t0, t1⟩ := get2 HO.out.out
        have f0 := HO.out.out.frozen 0
        have f1 := HO.out.out.frozen 1
        have hkn := HO.out.kn
        have HKN : Hid (1 ≤ kn ∧ kn ≤ 4) := hkn
        have FIN : Hid _ := tw_fin (K := k + 400) hC hYw HO.out (by omega)
        clear HO hkn
        go_wp2
        exact bodyPost_ret (v := .agg #[.slice (some ⟨y, 0, none⟩) 4 q1, .slice a2 kn q2]) (by simp [results, Try.results162, go_sem, t0, t1, BV.val]) rfl ⟨⟨some ⟨y, 0, none⟩, a2, q1, q2⟩, _, _, _, _, rfl, HKN.out, FIN.out⟩
      · have d0 : ((x : Int) == 0) = false := by simp; omega
        by_cases x1 : x = 1
        · subst x1
          obtain ⟨bl, A, Cc, gb, ea, -⟩ := table_leaf HO.out.kn.1 HO.out.own
          dsimp only at ea
          subst ea
          have P1 : ∀ w', Row w' zs 2 (bx2 ⟨a1, some ⟨bl, 0, none⟩, q1, q2⟩ 4 kn) → w'.cell? ⟨zs, 1, none⟩ = some (.slice (some ⟨bl, 0, none⟩) kn q2) := fun w' hh => (get2 hh).2
          have P0 : ∀ w', Row w' zs 2 (bx2 ⟨a1, some ⟨bl, 0, none⟩, q1, q2⟩ 4 kn) → w'.cell? ⟨zs, 0, none⟩ = some (.slice a1 4 q1) := fun w' hh => (get2 hh).1
          clear A Cc gb
          go_upto_region 15 with fail
          replace HO : Hid (TA Y w w5.drew C (k + 4 + 10 * (8 - 0) + 2) zs NoE ⟨a1, some ⟨bl, 0, none⟩, q1, q2⟩ c4 kn p4 m4) := HO.out.blw (Blw.refl _).drew
          obtain ⟨bl', A, Cc, gb, ea, hls, hX, hXl, hne, -⟩ := table_leaf HO.out.kn.1 HO.out.own
          cases ea
          have hkn1 := HO.out.kn.1
          have hkn1' : (0 : Int) < (kn : Int) := by omega
          have hkn0 : ¬ kn = 0 := by omega
          have HLS : Hid (w5.drew.cell? ⟨bl, 0, none⟩ = some (.slice (some ⟨gb, 0, none⟩) 4 Cc)) := hls
          have HXL : Hid (bl ≠ C ∧ bl ≠ gb ∧ gb ≠ zs ∧ bl < w5.drew.heap.size) := by show _ ∧ _ ∧ _ ∧ _; exact ⟨by omega, fun e => hne e.symm, hX.2.2.1, hXl.2.1⟩
          have PL : ∀ w', (Row w' zs 2 (bx2 ⟨a1, some ⟨bl, 0, none⟩, q1, q2⟩ 4 kn) ∧ w'.cell? ⟨bl, 0, none⟩ = some (.slice (some ⟨gb, 0, none⟩) 4 Cc)) → w'.cell? ⟨zs, 1, none⟩ = some (.slice (some ⟨bl, 0, none⟩) kn q2) := fun w' hh => (get2 hh.1).2
          have PM : ∀ w', (Row w' zs 2 (bx2 ⟨a1, some ⟨bl, 0, none⟩, q1, q2⟩ 4 kn) ∧ w'.cell? ⟨bl, 0, none⟩ = some (.slice (some ⟨gb, 0, none⟩) 4 Cc)) → w'.cell? ⟨bl, 0, none⟩ = some (.slice (some ⟨gb, 0, none⟩) 4 Cc) := fun w' hh => hh.2
          clear hls hX hXl hne A
          refine wp_region_noPanic ?_
          refine wp_region_held_drew (S := fun w' => Row w' zs 2 (bx2 ⟨a1, some ⟨bl, 0, none⟩, q1, q2⟩ 4 kn) ∧ w'.cell? ⟨bl, 0, none⟩ = some (.slice (some ⟨gb, 0, none⟩) 4 Cc)) (by kernel_rfl) (And.intro HO.out.box HLS.out) (fun hB => ?_)
          clear hB
          generalize w5.drew = wd at *
          refine wpAnyH_take (i := 0) (oi := { dst := some 62, op := Op.fieldAddr 29 (Operand.tmp 3) 1, type := 0, pos := _, after := #[], guard := none }) (v := (.pointer (some ⟨zs, 1, none⟩))) rfl (by kernel_rfl) (by kernel_rfl) (by kernel_rfl) (fun _ _ _ h => h) (Or.inl ⟨by rfl, fun w' hS => by (try dsimp only at hS); go_simp⟩) (And.intro HO.out.box HLS.out) ?_
          simp only [Act.put, List.setIfInBounds_toArray, List.set_cons_zero, List.set_cons_succ]
          refine wpAnyH_take (i := 4) (oi := { dst := some 66, op := Op.move (Operand.tmp 0), type := 101, pos := _, after := #[], guard := none }) (v := (.pointer (some ⟨C, 0, none⟩))) rfl (by kernel_rfl) (by kernel_rfl) (by kernel_rfl) (fun _ _ _ h => h) (Or.inl ⟨by rfl, fun w' hS => by (try dsimp only at hS); go_simp⟩) (And.intro HO.out.box HLS.out) ?_
          simp only [Act.put, List.setIfInBounds_toArray, List.set_cons_zero, List.set_cons_succ]
          refine wpAnyH_take (i := 6) (oi := { dst := some 68, op := Op.move (Operand.tmp 0), type := 101, pos := _, after := #[], guard := none }) (v := (.pointer (some ⟨C, 0, none⟩))) rfl (by kernel_rfl) (by kernel_rfl) (by kernel_rfl) (fun _ _ _ h => h) (Or.inl ⟨by rfl, fun w' hS => by (try dsimp only at hS); go_simp⟩) (And.intro HO.out.box HLS.out) ?_
          simp only [Act.put, List.setIfInBounds_toArray, List.set_cons_zero, List.set_cons_succ]
          refine wpAnyH_take (i := 1) (oi := { dst := some 63, op := Op.load 27 (Operand.tmp 62), type := 27, pos := _, after := #[{ on := 0, ground := Ground.data }], guard := none }) (v := (.slice (some ⟨bl, 0, none⟩) kn q2)) rfl (by kernel_rfl) (by kernel_rfl) (by kernel_rfl) (fun _ _ _ h => h) (Or.inl ⟨by rfl, fun w' hS => by (try dsimp only at hS); go_simp⟩) (And.intro HO.out.box HLS.out) ?_
          simp only [Act.put, List.setIfInBounds_toArray, List.set_cons_zero, List.set_cons_succ]
          refine wpAnyH_take (i := 2) (oi := { dst := some 64, op := Op.indexAddr 27 (Operand.tmp 63) (Operand.const (Value.int IntKind.i64 0)), type := 0, pos := _, after := #[{ on := 1, ground := Ground.data }], guard := none }) (v := (.pointer (some ⟨bl, 0, none⟩))) rfl (by kernel_rfl) (by kernel_rfl) (by kernel_rfl) (fun _ _ _ h => h) (Or.inl ⟨by rfl, fun w' hS => by (try dsimp only at hS); go_simp⟩) (And.intro HO.out.box HLS.out) ?_
          simp only [Act.put, List.setIfInBounds_toArray, List.set_cons_zero, List.set_cons_succ]
          refine wpAnyH_take (i := 3) (oi := { dst := some 65, op := Op.load 147 (Operand.tmp 64), type := 147, pos := _, after := #[{ on := 2, ground := Ground.data }], guard := none }) (v := (.slice (some ⟨gb, 0, none⟩) 4 Cc)) rfl (by kernel_rfl) (by kernel_rfl) (by kernel_rfl) (fun _ _ _ h => h) (Or.inl ⟨by rfl, fun w' hS => by (try dsimp only at hS); go_simp⟩) (And.intro HO.out.box HLS.out) ?_
          simp only [Act.put, List.setIfInBounds_toArray, List.set_cons_zero, List.set_cons_succ]
          refine wpAnyH_ready (rs := [5]) (by kernel_rfl) (by simp) ?_
          refine AllReadyH.cons (o := { dst := some 67, op := Op.call { callee := Callee.value (Operand.func 78), args := #[Operand.tmp 66, Operand.const (Value.int IntKind.i64 18)], argTypes := #[101, 3] }, type := 3, pos := _, after := #[{ on := 4, ground := Ground.data }], guard := none }) rfl (fun K hK => ?_) AllReadyH.nil
          go_simp
          refine (pick_any Y C (k + 4 + 10 * (8 - 0) + 2) 18 _ (by omega) (by omega) HO.out.cur).mono ?_
          rintro e w6 ⟨x3, rfl, hx3, hc, hm⟩
          replace HO : Hid (TA Y w w6 C (k + 4 + 10 * (8 - 0) + 2 + 2) zs NoE ⟨a1, some ⟨bl, 0, none⟩, q1, q2⟩ c4 kn p4 m4) := HO.out.go hC hc hm
          replace HLS : Hid (w6.cell? ⟨bl, 0, none⟩ = some (.slice (some ⟨gb, 0, none⟩) 4 Cc)) := hm.cell HLS.out HXL.out.1
          clear hc hm
          refine hK.out _ _ (And.intro HO.out.box HLS.out) (fun hB => ?_)
          clear hK K hB
          try simp only [Act.put, List.setIfInBounds_toArray, List.set_cons_zero, List.set_cons_succ]
          refine wpAnyH_ready (rs := [7]) (by kernel_rfl) (by simp) ?_
          refine AllReadyH.cons (o := { dst := some 69, op := Op.call { callee := Callee.value (Operand.func 78), args := #[Operand.tmp 68, Operand.const (Value.int IntKind.i64 5)], argTypes := #[101, 3] }, type := 3, pos := _, after := #[{ on := 6, ground := Ground.data }, { on := 5, ground := Ground.chain }], guard := none }) rfl (fun K hK => ?_) AllReadyH.nil
          go_simp
          refine (pick_any Y C (k + 4 + 10 * (8 - 0) + 2 + 2) 5 _ (by omega) (by omega) HO.out.cur).mono ?_
          rintro e w7 ⟨x4, rfl, hx4, hc, hm⟩
          replace HO : Hid (TA Y w w7 C (k + 4 + 10 * (8 - 0) + 2 + 2 + 2) zs NoE ⟨a1, some ⟨bl, 0, none⟩, q1, q2⟩ c4 kn p4 m4) := HO.out.go hC hc hm
          replace HLS : Hid (w7.cell? ⟨bl, 0, none⟩ = some (.slice (some ⟨gb, 0, none⟩) 4 Cc)) := hm.cell HLS.out HXL.out.1
          clear hc hm
          refine hK.out _ _ (And.intro HO.out.box HLS.out) (fun hB => ?_)
          clear hK K hB
          try simp only [Act.put, List.setIfInBounds_toArray, List.set_cons_zero, List.set_cons_succ]
          refine wpAnyH_take (i := 8) (oi := { dst := some 70, op := Op.build 144 #[(0, Operand.tmp 67), (1, Operand.tmp 69)], type := 144, pos := _, after := #[{ on := 5, ground := Ground.data }, { on := 7, ground := Ground.data }], guard := none }) (v := (.agg #[.int .i64 x3, .int .i64 x4])) rfl (by kernel_rfl) (by kernel_rfl) (by kernel_rfl) (fun _ _ _ h => h) (Or.inl ⟨by rfl, fun w' hS => by (try dsimp only at hS); go_simp⟩) (And.intro HO.out.box HLS.out) ?_
          simp only [Act.put, List.setIfInBounds_toArray, List.set_cons_zero, List.set_cons_succ]
          refine wpAnyH_take (i := 9) (oi := { dst := some 71, op := Op.indexAddr 147 (Operand.tmp 65) (Operand.const (Value.int IntKind.i64 0)), type := 0, pos := _, after := #[{ on := 3, ground := Ground.data }, { on := 0, ground := Ground.phase }, { on := 1, ground := Ground.phase }, { on := 2, ground := Ground.phase }, { on := 3, ground := Ground.phase }, { on := 4, ground := Ground.phase }, { on := 5, ground := Ground.phase }, { on := 6, ground := Ground.phase }, { on := 7, ground := Ground.phase }, { on := 8, ground := Ground.phase }], guard := none }) (v := (.pointer (some ⟨gb, 0, none⟩))) rfl (by kernel_rfl) (by kernel_rfl) (by kernel_rfl) (fun _ _ _ h => h) (Or.inl ⟨by rfl, fun w' hS => by (try dsimp only at hS); go_simp⟩) (And.intro HO.out.box HLS.out) ?_
          simp only [Act.put, List.setIfInBounds_toArray, List.set_cons_zero, List.set_cons_succ]
          refine wpAnyH_ready (rs := [10]) (by kernel_rfl) (by simp) ?_
          refine AllReadyH.cons (o := { dst := none, op := Op.store 144 (Operand.tmp 71) (Operand.tmp 70), type := 0, pos := _, after := #[{ on := 9, ground := Ground.data }, { on := 8, ground := Ground.data }, { on := 7, ground := Ground.chain }, { on := 0, ground := Ground.phase }, { on := 1, ground := Ground.phase }, { on := 2, ground := Ground.phase }, { on := 3, ground := Ground.phase }, { on := 4, ground := Ground.phase }, { on := 5, ground := Ground.phase }, { on := 6, ground := Ground.phase }, { on := 7, ground := Ground.phase }, { on := 8, ground := Ground.phase }], guard := none }) rfl (fun K hK => ?_) AllReadyH.nil
          obtain ⟨bl2, A2, C2, gb2, ea2, hls2, hX2, hXl2, hne2, -, l0, l1, f0, f1, hnew⟩ := table_leaf HO.out.kn.1 HO.out.own
          cases ea2
          have hgb : gb2 = gb := by have h1 := HLS.out; rw [hls2] at h1; simp only [Option.some.injEq, Value.slice.injEq, Addr.mk.injEq] at h1; exact h1.1.1
          subst hgb
          have ms : Mod (fun z => z = gb2) w7 ((w7.setCell ⟨gb2, 0, none⟩ (.int .i64 x3)).setCell ⟨gb2, 1, none⟩ (.int .i64 x4)) := set2_mod (X := fun z => z = gb2) w7 rfl _ _
          replace HO : Hid (TA Y w ((w7.setCell ⟨gb2, 0, none⟩ (.int .i64 x3)).setCell ⟨gb2, 1, none⟩ (.int .i64 x4)) C (k + 4 + 10 * (8 - 0) + 2 + 2 + 2) zs NoE ⟨a1, some ⟨bl, 0, none⟩, q1, q2⟩ c4 kn (upd2 p4 0 0 x3) (upd2 m4 0 0 x4)) := HO.out.put hC hYw ⟨hX2.1, hX2.2.1, hX2.2.2.1⟩ ms (hnew _ _)
          have hls3 := ms.cell HLS.out HXL.out.2.1
          clear hnew hX2 hXl2 hne2 hls2 ms
          go_simp
          refine hK.out _ _ (And.intro HO.out.box hls3) (fun hB => ?_)
          clear hK K hB
          try simp only [Act.put, List.setIfInBounds_toArray, List.set_cons_zero, List.set_cons_succ]
          clear hls3 l0 l1 f0 f1 P0 P1 PL PM HLS HXL
          refine wpAnyH_done (by kernel_rfl) ?_ _
          refine NoPanic.normal ?_
          generalize ((w7.setCell ⟨gb2, 0, none⟩ (.int .i64 x3)).setCell ⟨gb2, 1, none⟩ (.int .i64 x4)) = w8 at *
          obtain ⟨g0, g1⟩ := get2 HO.out.box
          obtain ⟨t0, t1⟩ := get2 HO.out.out
          have f0 := HO.out.out.frozen 0
          have f1 := HO.out.out.frozen 1
          have hkn := HO.out.kn
          have HKN : Hid (1 ≤ kn ∧ kn ≤ 4) := hkn
          have FIN : Hid _ := tw_fin (K := k + 400) hC hYw HO.out (by omega)
          clear HO hkn
          go_wp2
          exact bodyPost_ret (v := .agg #[.slice a1 4 q1, .slice (some ⟨bl, 0, none⟩) kn q2]) (by simp [results, Try.results162, go_sem, t0, t1, BV.val]) rfl ⟨⟨a1, some ⟨bl, 0, none⟩, q1, q2⟩, _, _, _, _, rfl, HKN.out, FIN.out⟩
        · have d1 : ((x : Int) == 1) = false := by simp; omega
          obtain ⟨g0, g1⟩ := get2 HO.out.box
          obtain ⟨t0, t1⟩ := get2 HO.out.out
          have f0 := HO.out.out.frozen 0
          have f1 := HO.out.out.frozen 1
          have hkn := HO.out.kn
          have HKN : Hid (1 ≤ kn ∧ kn ≤ 4) := hkn
          have FIN : Hid _ := tw_fin (K := k + 400) hC hYw HO.out (by omega)
          clear HO hkn
          go_wp2
          exact bodyPost_ret (v := .agg #[.slice a1 4 q1, .slice a2 kn q2]) (by simp [results, Try.results162, go_sem, t0, t1, BV.val]) rfl ⟨⟨a1, a2, q1, q2⟩, _, _, _, _, rfl, HKN.out, FIN.out⟩
end Go.Proofs.Ytjplodenflkghaa
