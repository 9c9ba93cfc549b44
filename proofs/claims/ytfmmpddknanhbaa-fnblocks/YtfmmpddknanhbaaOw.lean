/- Owners that are drawn. -/
import Derived.Test.YtfmmpddknanhbaaDraw
import Derived.Test.YtfmmpddknanhbaaFbS
import Derived.Test.YtfmmpddknanhbaaSpecL
import Derived.Test.YtfmmpddknanhbaaLawNew
namespace Go.Proofs.Ytfmmpddknanhbaa
open Go.RowKit
set_option linter.unusedSimpArgs false
set_option linter.unusedVariables false
theorem Mod.newer' {X Z : Nat → Prop} {a b c : World} (h : Mod X a b) (k : Mod Z b c) (hz : ∀ i, Z i → a.heap.size ≤ i) : Mod X a c :=
  ⟨k.os.trans h.os, k.tape.trans h.tape, k.output.trans h.output, Nat.le_trans h.size k.size, fun i hi hx => (k.block i (Nat.lt_of_lt_of_le hi h.size) (fun e => by have := hz i e; omega)).trans (h.block i hi hx)⟩
abbrev bx2 (b : BV) (n k : Nat) : Nat → Value := fun i => if i = 0 then .slice b.a1 n b.c1 else .slice b.a2 k b.c2
/-- Owners that are being drawn: their box at zs. -/
structure OwA (Y : Nat → Prop) (w wr : World) (C k zs : Nat) (b : BV) (c l : Nat → Int) : Prop where
  mod : Mod (fun b => b = C) w wr
  cur : Cur Y wr C k
  out : Row wr w.heap.size 2 (fun i => if i = 0 then .slice none 0 0 else .slice none 0 0)
  zl : w.heap.size < zs ∧ zs < wr.heap.size
  box : Row wr zs 2 (bx2 b 16 16)
  own : BookOwn (fun x => w.heap.size < x ∧ x < wr.heap.size ∧ x ≠ zs) wr b ⟨16, c, 16, l⟩
def Ow (Y : Nat → Prop) (w wr : World) (C k zs : Nat) : Prop := ∃ b c l, OwA Y w wr C k zs b c l
theorem OwA.go {Y : Nat → Prop} {w wr w1 : World} {C k k' zs : Nat} {b : BV} {c l : Nat → Int} (hC : C < w.heap.size) (h : OwA Y w wr C k zs b c l) (hc : Cur Y w1 C k') (hm : Mod (fun b => b = C) wr w1) : OwA Y w w1 C k' zs b c l := by
  have hs := hm.size
  have hz := h.zl
  exact ⟨h.mod.trans hm, hc, h.out.mod hm (by omega), by omega, h.box.mod hm (by omega), (h.own.mod hm (fun x hx e => by omega)).mono (fun x hx => by omega)⟩
theorem OwA.blw {Y : Nat → Prop} {w wr w1 : World} {C k zs : Nat} {b : BV} {c l : Nat → Int} (h : OwA Y w wr C k zs b c l) (hb : Blw wr w1) : OwA Y w w1 C k zs b c l := by
  have hs := hb.size
  have hz := h.zl
  exact ⟨h.mod.trans (hb.mod _), h.cur.blw hb, h.out.blw hb, by omega, h.box.blw hb, (h.own.blw hb).mono (fun x hx => by omega)⟩
theorem OwA.le {Y : Nat → Prop} {w wr : World} {C k k' zs : Nat} {b : BV} {c l : Nat → Int} (h : OwA Y w wr C k zs b c l) (hk : k ≤ k') : OwA Y w wr C k' zs b c l := ⟨h.mod, h.cur.le hk, h.out, h.zl, h.box, h.own⟩
/-- A new book, its box at zb. -/
def Got (Y : Nat → Prop) (w : World) (C k zs : Nat) (b : BV) (c l : Nat → Int) (p q : Value) (wx : World) : Prop :=
  ∃ (zb : Nat) (b3 : BV) (R : BD) (r : Bool), p = .pointer (some ⟨zb, 0, none⟩) ∧ q = .bool r ∧ OwA Y w wx C k zs b c l ∧ Row wx zb 2 (bx2 b3 R.n R.k) ∧ zb ≠ zs ∧ (r = true → R.n = 16 ∧ R.k = 16) ∧ BookOwn (fun x => w.heap.size < x ∧ x < wx.heap.size ∧ x ≠ zs) wx b3 R
theorem row2_set {w : World} {z : Nat} {u v a b : Value} (h : Row w z 2 (fun i => if i = 0 then u else v)) : Row ((w.setCell ⟨z, 0, none⟩ a).setCell ⟨z, 1, none⟩ b) z 2 (fun i => if i = 0 then a else b) :=
  ((h.set 0 _).set 1 _).congr (fun i hi => by
    match i, hi with
    | 0, _ => rfl
    | 1, _ => rfl)
theorem got_fin {Y X : Nat → Prop} {w W : World} {C k zs zb : Nat} {b b3 : BV} {c l : Nat → Int} {R : BD} {r : Bool} (hC : C < w.heap.size) (hY : ∀ x, Y x → x < w.heap.size) (h : OwA Y w W C k zs b c l) (hz : Row W zb 2 (fun i => if i = 0 then .slice none 0 0 else .slice none 0 0)) (hzb : zb ≠ zs ∧ w.heap.size < zb) (hr : r = true → R.n = 16 ∧ R.k = 16) (own : BookOwn X W b3 R) (hX : ∀ x, X x → w.heap.size < x ∧ x < W.heap.size ∧ x ≠ zs ∧ x ≠ zb) (hd : ∀ x, x = zb → ¬ (w.heap.size < x ∧ x < W.heap.size ∧ x ≠ zs ∧ False)) (hb : BookOwn (fun x => w.heap.size < x ∧ x < W.heap.size ∧ x ≠ zs ∧ x ≠ zb) W b ⟨16, c, 16, l⟩) :
    Got Y w C k zs b c l (.pointer (some ⟨zb, 0, none⟩)) (.bool r) ((W.setCell ⟨zb, 0, none⟩ (.slice b3.a1 R.n b3.c1)).setCell ⟨zb, 1, none⟩ (.slice b3.a2 R.k b3.c2)) := by
  have ms := set2_mod (X := fun x => x = zb) W rfl (.slice b3.a1 R.n b3.c1) (.slice b3.a2 R.k b3.c2)
  have hs := ms.size
  have hzl := h.zl
  refine ⟨zb, b3, R, r, rfl, rfl, ⟨h.mod.newer' ms (fun i hi => by omega), h.cur.mod ms (by omega) (fun x hx e => by have := hY x hx; omega), h.out.mod ms (by omega), by omega, h.box.mod ms (by omega), (hb.mod ms (fun x hx e => hx.2.2.2 e)).mono (fun x hx => by omega)⟩, row2_set hz, hzb.1, hr, (own.mod ms (fun x hx e => (hX x hx).2.2.2 e)).mono (fun x hx => by have := hX x hx; omega)⟩
theorem got_no {Y : Nat → Prop} {w wx : World} {C k zs : Nat} {b : BV} {c l : Nat → Int} (h : OwA Y w wx C k zs b c l) : Ow Y w wx C k zs := ⟨b, c, l, h⟩
theorem got_yes {Y : Nat → Prop} {w wx : World} {C k zs : Nat} {b b3 : BV} {c l : Nat → Int} {R : BD} (hC : C < w.heap.size) (hY : ∀ x, Y x → x < w.heap.size) (h : OwA Y w wx C k zs b c l) (hn : R.n = 16 ∧ R.k = 16) (own : BookOwn (fun x => w.heap.size < x ∧ x < wx.heap.size ∧ x ≠ zs) wx b3 R) :
    Ow Y w ((wx.setCell ⟨zs, 0, none⟩ (.slice b3.a1 R.n b3.c1)).setCell ⟨zs, 1, none⟩ (.slice b3.a2 R.k b3.c2)) C k zs := by
  obtain ⟨n, c', kk, l'⟩ := R
  obtain ⟨rfl, rfl⟩ := hn
  show Ow Y w ((wx.setCell ⟨zs, 0, none⟩ (.slice b3.a1 16 b3.c1)).setCell ⟨zs, 1, none⟩ (.slice b3.a2 16 b3.c2)) C k zs
  have ms := set2_mod (X := fun x => x = zs) wx rfl (.slice b3.a1 16 b3.c1) (.slice b3.a2 16 b3.c2)
  have hs := ms.size
  have hzl := h.zl
  exact ⟨b3, c', l', ⟨h.mod.newer' ms (fun i hi => by omega), h.cur.mod ms (by omega) (fun x hx e => by have := hY x hx; omega), h.out.mod ms (by omega), by omega, row2_set h.box, (own.mod ms (fun x hx e => by omega)).mono (fun x hx => by omega)⟩⟩
theorem book_owned {X : Nat → Prop} {w : World} {b : BV} {c l : Nat → Int} (h : BookOwn X w b ⟨16, c, 16, l⟩) (x : Int) :
    ∃ y, b.a1 = some ⟨y, 0, none⟩ ∧ X y ∧ w.cell? ⟨y, 0, none⟩ = some (.int .i64 (c 0)) ∧ w.frozen? ⟨y, 0, none⟩ = false ∧ BookOwn X (w.setCell ⟨y, 0, none⟩ (.int .i64 x)) b ⟨16, upd c 0 x, 16, l⟩ := by
  obtain ⟨X1, X2, d1, d2, hc, hl⟩ := h.ex
  obtain ⟨y, hy, ea, r⟩ := hc.2 (by show 0 < 16; omega)
  have nm : Mod (fun z => z = y) w (w.setCell ⟨y, 0, none⟩ (.int .i64 x)) := Mod.setCell (X := fun z => z = y) _ (p := ⟨y, 0, none⟩) rfl _
  refine ⟨y, ea, (d1 y hy).1, r.cell (i := 0) (by show 0 < 16; omega), r.frozen 0, X1, X2, d1, d2, ⟨by show 16 ≤ _; omega, fun _ => ⟨y, hy, ea, (r.set 0 _).congr (fun i hi => ?_)⟩⟩, hl.mod nm (fun z hz e => by subst e; exact (d1 z hy).2 hz)⟩
  by_cases e : i = 0
  · subst e; simp [upd]
  · simp [e, upd]
theorem OwA.put {Y : Nat → Prop} {w W : World} {C k zs y p : Nat} {v : Value} {b : BV} {c l c' l' : Nat → Int} (h : OwA Y w W C k zs b c l) (hC : C < w.heap.size) (hY : ∀ x, Y x → x < w.heap.size) (hy : w.heap.size < y ∧ y < W.heap.size ∧ y ≠ zs) (own : BookOwn (fun x => w.heap.size < x ∧ x < W.heap.size ∧ x ≠ zs) (W.setCell ⟨y, p, none⟩ v) b ⟨16, c', 16, l'⟩) : OwA Y w (W.setCell ⟨y, p, none⟩ v) C k zs b c' l' := by
  have ms : Mod (fun x => x = y) W (W.setCell ⟨y, p, none⟩ v) := Mod.setCell (X := fun z => z = y) _ (p := ⟨y, p, none⟩) rfl _
  have hs := ms.size
  have hzl := h.zl
  exact ⟨h.mod.newer' ms (fun i hi => by omega), h.cur.mod ms (by omega) (fun x hx e => by have := hY x hx; omega), h.out.mod ms (by omega), by omega, h.box.mod ms (by omega), own.mono (fun x hx => by omega)⟩
theorem ow_fin {Y : Nat → Prop} {w W : World} {C k K zs : Nat} {b : BV} {c l : Nat → Int} (hC : C < w.heap.size) (hY : ∀ x, Y x → x < w.heap.size) (h : OwA Y w W C k zs b c l) (hk : k ≤ K) :
    BookOwn (fun x => w.heap.size < x ∧ x < ((W.setCell ⟨w.heap.size, 0, none⟩ (.slice b.a1 16 b.c1)).setCell ⟨w.heap.size, 1, none⟩ (.slice b.a2 16 b.c2)).heap.size) ((W.setCell ⟨w.heap.size, 0, none⟩ (.slice b.a1 16 b.c1)).setCell ⟨w.heap.size, 1, none⟩ (.slice b.a2 16 b.c2)) b ⟨16, c, 16, l⟩ ∧ Cur Y ((W.setCell ⟨w.heap.size, 0, none⟩ (.slice b.a1 16 b.c1)).setCell ⟨w.heap.size, 1, none⟩ (.slice b.a2 16 b.c2)) C K ∧ Mod (fun b => b = C) w ((W.setCell ⟨w.heap.size, 0, none⟩ (.slice b.a1 16 b.c1)).setCell ⟨w.heap.size, 1, none⟩ (.slice b.a2 16 b.c2)) := by
  have ms := set2_mod (X := fun x => x = w.heap.size) W rfl (.slice b.a1 16 b.c1) (.slice b.a2 16 b.c2)
  have hs := ms.size
  have hzl := h.zl
  exact ⟨(h.own.mod ms (fun x hx e => by omega)).mono (fun x hx => by omega), (h.cur.mod ms (by omega) (fun x hx e => by have := hY x hx; omega)).le hk, h.mod.newer' ms (fun i hi => by omega)⟩
theorem wrap1 (x : Nat) (h : (x : Int) < 1000) : IntKind.i64.wrap (1 + (x : Int)) = 1 + (x : Int) := by rw [IntKind.wrap_i64] <;> omega
set_option maxRecDepth 10000 in
set_option maxHeartbeats 12800000 in
theorem owners_any (Y : Nat → Prop) (C k : Nat) (w : World) (hk : k ≤ 700000) (hY : ∀ b, Y b → b < w.heap.size ∧ b ≠ C) (h : Cur Y w C k) :
    Calls Try.prog 53 #[.pointer (some ⟨C, 0, none⟩)] w fun e w' => ∃ b c l, e = .returned (b.val ⟨16, c, 16, l⟩) ∧ BookOwn (fun x => w.heap.size < x ∧ x < w'.heap.size) w' b ⟨16, c, 16, l⟩ ∧ Cur Y w' C (k + 400) ∧ Mod (fun b => b = C) w w' := by
  have hC := h.lt
  have hYw : ∀ x, Y x → x < w.heap.size := fun x hx => (hY x hx).1
  have hb0 : Blw w (w.alloc (.cells #[.slice none 0 0, .slice none 0 0] 25)) := (Blw.refl _).alloc _
  have r0 := box2 w (.slice none 0 0) (.slice none 0 0) 25
  have HC0 : Hid (Cur Y (w.alloc (.cells #[.slice none 0 0, .slice none 0 0] 25)) C k) := h.blw hb0
  clear h
  go_enter Try.func53, Try.ntmps53
  go_wp2_with fail
  refine (specNew_any _).mono ?_
  rintro e w1 ⟨b1, rfl, own1, hb1⟩
  have hA : Blw w1 (w1.alloc (.cells #[.slice b1.a1 16 b1.c1, .slice b1.a2 16 b1.c2] 25)) := (Blw.refl _).alloc _
  have hz1 := hb1.size
  have HOW0 : Hid (Ow Y w (w1.alloc (.cells #[.slice b1.a1 16 b1.c1, .slice b1.a2 16 b1.c2] 25)) C k w1.heap.size) := by
    simp only [World.size_alloc] at hz1
    exact ⟨b1, _, _, ⟨((hb0.trans hb1).trans hA).mod _, (HC0.out.blw hb1).blw hA, (r0.blw hb1).blw hA, ⟨by omega, by simp⟩, box2 w1 _ _ 25, (own1.blw hA).mono (fun x hx => by simp only [World.size_alloc] at hx ⊢; omega)⟩⟩
  clear own1 hb1 hz1 hA HC0 r0 hb0
  go_wp2_with fail
  generalize w1.heap.size = zs at *
  generalize w1.alloc (.cells #[.slice b1.a1 16 b1.c1, .slice b1.a2 16 b1.c2] 25) = w2 at *
  obtain ⟨b4, c4, l4, ho4⟩ := HOW0.out
  refine (pick_any Y C k 7 _ (by omega) (by omega) ho4.cur).mono ?_
  rintro e w3 ⟨n, rfl, hn7, hc3, hm3⟩
  have HOW1 : Hid (Ow Y w w3 C (k + 2) zs) := ⟨b4, c4, l4, ho4.go hC hc3 hm3⟩
  clear HOW0 ho4 hc3 hm3 w2 b4 c4 l4
  go_wp2_with fail
  go_loopw [4] (fun v wr => ∃ i : Nat, i ≤ 7 ∧ v = .int .i64 i ∧ Ow Y w wr C (k + 2 + 16 * (7 - i)) zs) (fun v _ => (intOf v).toNat)
  case atStart => exact ⟨n, by omega, rfl, by obtain ⟨b, c, l, h⟩ := HOW1.out; exact ⟨b, c, l, h.le (by omega)⟩⟩
  case round =>
    obtain ⟨i, hi7, rfl, hbk⟩ := hrel
    clear HOW1
    have HOW0 : Hid (Ow Y w wr C (k + 2 + 16 * (7 - i)) zs) := hbk
    clear hbk
    by_cases hi0 : 0 < i
    · have hi0' : (0 : Int) < i := by omega
      obtain ⟨kk, hkk⟩ : ∃ kk, kk = k + 2 + 16 * (7 - i) := ⟨_, rfl⟩
      have hkb : kk ≤ 800000 := by omega
      rw [← hkk] at HOW0
      have HKK : Hid (kk = k + 2 + 16 * (7 - i)) := hkk
      clear hkk
      obtain ⟨b4, c4, l4, ho4⟩ := HOW0.out
      have HO : Hid (OwA Y w wr C (kk) zs b4 c4 l4) := ho4
      clear ho4 HOW0
      have P0 : ∀ w', Row w' zs 2 (bx2 b4 16 16) → w'.cell? ⟨zs, 0, none⟩ = some (.slice b4.a1 16 b4.c1) := fun w' hh => (get2 hh).1
      have P1 : ∀ w', Row w' zs 2 (bx2 b4 16 16) → w'.cell? ⟨zs, 1, none⟩ = some (.slice b4.a2 16 b4.c2) := fun w' hh => (get2 hh).2
      go_upto_region 5 with fail
      go_cut [5, 7] from 15 to 60 (fun p q wx => Got Y w C (kk + 2 + 2) zs b4 c4 l4 p q wx)
      case first =>
        refine wp_region_noPanic ?_
        refine wp_region_held_drew (S := fun w' => Row w' zs 2 (bx2 b4 16 16)) (by kernel_rfl) (HO.out.box.blw (Blw.refl _).drew) (fun hB => ?_)
        replace HO : Hid (OwA Y w wr.drew C (kk) zs b4 c4 l4) := HO.out.blw (Blw.refl _).drew
        clear hB
        generalize wr.drew = wd at *
        refine wpAnyH_take (i := 0) (oi := { dst := some 20, op := Op.load 25 (Operand.tmp 3), type := 25, pos := _, after := #[], guard := none }) (v := (.agg #[.slice b4.a1 16 b4.c1, .slice b4.a2 16 b4.c2])) rfl (by kernel_rfl) (by kernel_rfl) (by kernel_rfl) (fun _ _ _ h => h) (Or.inl ⟨by rfl, fun w' hS => by (try dsimp only at hS); go_simp⟩) (HO.out.box) ?_
        simp only [Act.put, List.setIfInBounds_toArray, List.set_cons_zero, List.set_cons_succ]
        refine wpAnyH_take (i := 1) (oi := { dst := some 21, op := Op.move (Operand.tmp 0), type := 63, pos := _, after := #[], guard := none }) (v := (.pointer (some ⟨C, 0, none⟩))) rfl (by kernel_rfl) (by kernel_rfl) (by kernel_rfl) (fun _ _ _ h => h) (Or.inl ⟨by rfl, fun w' hS => by (try dsimp only at hS); go_simp⟩) (HO.out.box) ?_
        simp only [Act.put, List.setIfInBounds_toArray, List.set_cons_zero, List.set_cons_succ]
        refine wpAnyH_take (i := 4) (oi := { dst := some 24, op := Op.move (Operand.tmp 0), type := 63, pos := _, after := #[], guard := none }) (v := (.pointer (some ⟨C, 0, none⟩))) rfl (by kernel_rfl) (by kernel_rfl) (by kernel_rfl) (fun _ _ _ h => h) (Or.inl ⟨by rfl, fun w' hS => by (try dsimp only at hS); go_simp⟩) (HO.out.box) ?_
        simp only [Act.put, List.setIfInBounds_toArray, List.set_cons_zero, List.set_cons_succ]
        refine wpAnyH_ready (rs := [2, 11]) (by kernel_rfl) (by simp) ?_
        refine (AllReadyH.cons (o := { dst := some 22, op := Op.call { callee := Callee.value (Operand.func 54), args := #[Operand.tmp 21, Operand.const (Value.int IntKind.i64 3)], argTypes := #[63, 3] }, type := 3, pos := _, after := #[{ on := 1, ground := Ground.data }], guard := none }) rfl (fun K hK => ?_) (AllReadyH.cons (o := { dst := some 5, op := Op.alloc 25, type := 0, pos := _, after := #[], guard := none }) rfl (fun K hK => ?_) AllReadyH.nil))
        · go_simp
          refine (pick_any Y C _ 3 _ (by omega) (by omega) HO.out.cur).mono ?_
          rintro e wp0 ⟨x0, rfl, hx0, hc, hm⟩
          replace HO : Hid (OwA Y w wp0 C (kk + 2) zs b4 c4 l4) := HO.out.go hC hc hm
          refine hK.out _ _ HO.out.box (fun hB => ?_)
          clear hK K hB hc hm
          try simp only [Act.put, List.setIfInBounds_toArray, List.set_cons_zero, List.set_cons_succ]
          have ea := wrap1 x0 (by omega)
          refine wpAnyH_take (i := 3) (oi := { dst := some 23, op := Op.binOp BinOp.add 3 (Operand.const (Value.int IntKind.i64 1)) (Operand.tmp 22) 3, type := 3, pos := _, after := #[{ on := 2, ground := Ground.data }], guard := none }) (v := (.int .i64 (1 + (x0 : Int)))) rfl (by kernel_rfl) (by kernel_rfl) (by kernel_rfl) (fun _ _ _ h => h) (Or.inl ⟨by rfl, fun w' hS => by (try dsimp only at hS); go_simp⟩) (HO.out.box) ?_
          simp only [Act.put, List.setIfInBounds_toArray, List.set_cons_zero, List.set_cons_succ]
          clear ea
          refine wpAnyH_ready (rs := [5, 11]) (by kernel_rfl) (by simp) ?_
          refine (AllReadyH.cons (o := { dst := some 25, op := Op.call { callee := Callee.value (Operand.func 54), args := #[Operand.tmp 24, Operand.const (Value.int IntKind.i64 3)], argTypes := #[63, 3] }, type := 3, pos := _, after := #[{ on := 4, ground := Ground.data }, { on := 2, ground := Ground.chain }], guard := none }) rfl (fun K hK => ?_) (AllReadyH.cons (o := { dst := some 5, op := Op.alloc 25, type := 0, pos := _, after := #[], guard := none }) rfl (fun K hK => ?_) AllReadyH.nil))
          · go_simp
            refine (pick_any Y C _ 3 _ (by omega) (by omega) HO.out.cur).mono ?_
            rintro e wp1 ⟨x1, rfl, hx1, hc, hm⟩
            replace HO : Hid (OwA Y w wp1 C (kk + 2 + 2) zs b4 c4 l4) := HO.out.go hC hc hm
            refine hK.out _ _ HO.out.box (fun hB => ?_)
            clear hK K hB hc hm
            try simp only [Act.put, List.setIfInBounds_toArray, List.set_cons_zero, List.set_cons_succ]
            refine wpAnyH_ready (rs := [6, 11]) (by kernel_rfl) (by simp) ?_
            refine (AllReadyH.cons (o := { dst := some 26, op := Op.call { callee := Callee.value (Operand.func 16), args := #[Operand.tmp 20, Operand.tmp 23, Operand.tmp 25], argTypes := #[25, 3, 3] }, type := 28, pos := _, after := #[{ on := 0, ground := Ground.data }, { on := 3, ground := Ground.data }, { on := 5, ground := Ground.data }, { on := 5, ground := Ground.chain }], guard := none }) rfl (fun K hK => ?_) (AllReadyH.cons (o := { dst := some 5, op := Op.alloc 25, type := 0, pos := _, after := #[], guard := none }) rfl (fun K hK => ?_) AllReadyH.nil))
            · go_simp
              refine (specTake_any b4 ⟨16, c4, 16, l4⟩ (1 + (x0 : Int)) (x1 : Int) _ _ HO.out.own.at (fun x hx => hx.2.1)).mono ?_
              rintro e wk ⟨b3, R, xv, r3, rfl, ho3, hs3, own3, hbk⟩
              have hsz := hbk.size
              have hzl := HO.out.zl
              have HRR : Hid (r3 = true → R.n = 16 ∧ R.k = 16) := fun e => (by rcases ho3 with ⟨_, e2, _⟩ | ⟨_, _, _, e2⟩ <;> first | (subst e2; exact ⟨rfl, rfl⟩) | (rw [e] at e2; cases e2))
              have HOW : Hid (BookOwn _ wk b3 R) := own3
              replace HO : Hid (OwA Y w wk C (kk + 2 + 2) zs b4 c4 l4) := HO.out.blw hbk
              have HXN : Hid (∀ x, _ → w.heap.size < x ∧ x < wk.heap.size ∧ x ≠ zs) := fun x (hx : wp1.heap.size ≤ x ∧ x < wk.heap.size) => ⟨by omega, hx.2, by omega⟩
              refine hK.out _ _ HO.out.box (fun hB => ?_)
              clear hK K hB ho3 hs3 own3 hbk hsz hzl
              try simp only [Act.put, List.setIfInBounds_toArray, List.set_cons_zero, List.set_cons_succ]
              refine wpAnyH_take (i := 7) (oi := { dst := some 19, op := Op.move (Operand.tmp 26), type := 28, pos := _, after := #[{ on := 6, ground := Ground.data }], guard := none }) (v := (.tuple #[b3.val R, .int .i64 xv, .bool r3])) rfl (by kernel_rfl) (by kernel_rfl) (by kernel_rfl) (fun _ _ _ h => h) (Or.inl ⟨by rfl, fun w' hS => by (try dsimp only at hS); go_simp⟩) (HO.out.box) ?_
              simp only [Act.put, List.setIfInBounds_toArray, List.set_cons_zero, List.set_cons_succ]
              refine wpAnyH_take (i := 8) (oi := { dst := some 27, op := Op.extract (Operand.tmp 19) 0, type := 25, pos := _, after := #[{ on := 7, ground := Ground.data }], guard := none }) (v := (.agg #[.slice b3.a1 R.n b3.c1, .slice b3.a2 R.k b3.c2])) rfl (by kernel_rfl) (by kernel_rfl) (by kernel_rfl) (fun _ _ _ h => h) (Or.inl ⟨by rfl, fun w' hS => by (try dsimp only at hS); go_simp⟩) (HO.out.box) ?_
              simp only [Act.put, List.setIfInBounds_toArray, List.set_cons_zero, List.set_cons_succ]
              refine wpAnyH_take (i := 9) (oi := { dst := some 28, op := Op.extract (Operand.tmp 19) 1, type := 3, pos := _, after := #[{ on := 7, ground := Ground.data }, { on := 12, ground := Ground.gcOnly Departure.lateStores }], guard := none }) (v := (.int .i64 xv)) rfl (by kernel_rfl) (by kernel_rfl) (by kernel_rfl) (fun _ _ _ h => h) (Or.inl ⟨by rfl, fun w' hS => by (try dsimp only at hS); go_simp⟩) (HO.out.box) ?_
              simp only [Act.put, List.setIfInBounds_toArray, List.set_cons_zero, List.set_cons_succ]
              refine wpAnyH_take (i := 10) (oi := { dst := some 29, op := Op.extract (Operand.tmp 19) 2, type := 4, pos := _, after := #[{ on := 7, ground := Ground.data }, { on := 13, ground := Ground.gcOnly Departure.lateStores }], guard := none }) (v := (.bool r3)) rfl (by kernel_rfl) (by kernel_rfl) (by kernel_rfl) (fun _ _ _ h => h) (Or.inl ⟨by rfl, fun w' hS => by (try dsimp only at hS); go_simp⟩) (HO.out.box) ?_
              simp only [Act.put, List.setIfInBounds_toArray, List.set_cons_zero, List.set_cons_succ]
              refine wpAnyH_ready (rs := [11]) (by kernel_rfl) (by simp) ?_
              refine (AllReadyH.cons (o := { dst := some 5, op := Op.alloc 25, type := 0, pos := _, after := #[], guard := none }) rfl (fun K hK => ?_) AllReadyH.nil)
              go_simp
              have HZ : Hid (Row (wk.alloc (.cells #[.slice none 0 0, .slice none 0 0] 25)) wk.heap.size 2 (fun i => if i = 0 then .slice none 0 0 else .slice none 0 0)) := box2 wk _ _ 25
              have hzl := HO.out.zl
              have HZB : Hid (wk.heap.size ≠ zs ∧ w.heap.size < wk.heap.size) := ⟨by omega, by omega⟩
              have HOB : Hid (BookOwn (fun x => w.heap.size < x ∧ x < (wk.alloc (.cells #[.slice none 0 0, .slice none 0 0] 25)).heap.size ∧ x ≠ zs ∧ x ≠ wk.heap.size) (wk.alloc (.cells #[.slice none 0 0, .slice none 0 0] 25)) b4 ⟨16, c4, 16, l4⟩) := (HO.out.own.blw ((Blw.refl _).alloc _)).mono (fun x hx => ⟨hx.1, by simp; omega, hx.2.2, by omega⟩)
              replace HOW : Hid (BookOwn _ (wk.alloc (.cells #[.slice none 0 0, .slice none 0 0] 25)) b3 R) := HOW.out.blw ((Blw.refl _).alloc _)
              have HXX : Hid (∀ x, _ → w.heap.size < x ∧ x < (wk.alloc (.cells #[.slice none 0 0, .slice none 0 0] 25)).heap.size ∧ x ≠ zs ∧ x ≠ wk.heap.size) := fun x hx => by have := HXN.out x hx; exact ⟨this.1, by simp; omega, this.2.2, by omega⟩
              replace HO : Hid (OwA Y w (wk.alloc (.cells #[.slice none 0 0, .slice none 0 0] 25)) C (kk + 2 + 2) zs b4 c4 l4) := HO.out.blw ((Blw.refl _).alloc _)
              refine hK.out _ _ HO.out.box (fun hB => ?_)
              clear hK K hB hzl
              try simp only [Act.put, List.setIfInBounds_toArray, List.set_cons_zero, List.set_cons_succ]
              have HSA : Hid ((wk.alloc (.cells #[.slice none 0 0, .slice none 0 0] 25)).heap.size = wk.heap.size + 1) := by show _ = _; simp
              generalize wk.alloc (.cells #[.slice none 0 0, .slice none 0 0] 25) = wA at *
              refine wpAnyH_ready (rs := [12]) (by kernel_rfl) (by simp) ?_
              refine (AllReadyH.cons (o := { dst := none, op := Op.store 25 (Operand.tmp 5) (Operand.tmp 27), type := 0, pos := _, after := #[{ on := 11, ground := Ground.data }, { on := 8, ground := Ground.data }, { on := 6, ground := Ground.chain }, { on := 0, ground := Ground.phase }, { on := 1, ground := Ground.phase }, { on := 2, ground := Ground.phase }, { on := 3, ground := Ground.phase }, { on := 4, ground := Ground.phase }, { on := 5, ground := Ground.phase }, { on := 6, ground := Ground.phase }, { on := 7, ground := Ground.phase }, { on := 8, ground := Ground.phase }, { on := 9, ground := Ground.textOnly Departure.lateStores }, { on := 10, ground := Ground.textOnly Departure.lateStores }, { on := 11, ground := Ground.phase }], guard := none }) rfl (fun K hK => ?_) AllReadyH.nil)
              obtain ⟨z0, z1⟩ := get2 HZ.out
              have fz0 := HZ.out.frozen 0
              have fz1 := HZ.out.frozen 1
              have FIN : Hid _ := got_fin (C := C) hC hYw HO.out HZ.out HZB.out HRR.out HOW.out (fun x hx => by have := HXX.out x hx; omega) (fun x _ h => h.2.2.2) (HOB.out)
              go_simp
              refine hK.out _ _ (by obtain ⟨_, _, _, _, _, _, ho, _⟩ := FIN.out; exact ho.box) (fun hB => ?_)
              clear hK K hB z0 z1 fz0 fz1
              try simp only [Act.put, List.setIfInBounds_toArray, List.set_cons_zero, List.set_cons_succ]
              refine wpAnyH_take (i := 13) (oi := { dst := some 6, op := Op.assign (Operand.tmp 28), type := 3, pos := _, after := #[{ on := 9, ground := Ground.data }, { on := 12, ground := Ground.chain }, { on := 0, ground := Ground.phase }, { on := 1, ground := Ground.phase }, { on := 2, ground := Ground.phase }, { on := 3, ground := Ground.phase }, { on := 4, ground := Ground.phase }, { on := 5, ground := Ground.phase }, { on := 6, ground := Ground.phase }, { on := 7, ground := Ground.phase }, { on := 8, ground := Ground.phase }, { on := 9, ground := Ground.phase }, { on := 10, ground := Ground.textOnly Departure.lateStores }, { on := 11, ground := Ground.phase }, { on := 12, ground := Ground.phase }], guard := none }) (v := (.int .i64 xv)) rfl (by kernel_rfl) (by kernel_rfl) (by kernel_rfl) (fun _ _ _ h => h) (Or.inl ⟨by rfl, fun w' hS => by (try dsimp only at hS); go_simp⟩) (by obtain ⟨_, _, _, _, _, _, ho, _⟩ := FIN.out; exact ho.box) ?_
              simp only [Act.put, List.setIfInBounds_toArray, List.set_cons_zero, List.set_cons_succ]
              refine wpAnyH_take (i := 14) (oi := { dst := some 7, op := Op.assign (Operand.tmp 29), type := 4, pos := _, after := #[{ on := 10, ground := Ground.data }, { on := 13, ground := Ground.chain }, { on := 0, ground := Ground.phase }, { on := 1, ground := Ground.phase }, { on := 2, ground := Ground.phase }, { on := 3, ground := Ground.phase }, { on := 4, ground := Ground.phase }, { on := 5, ground := Ground.phase }, { on := 6, ground := Ground.phase }, { on := 7, ground := Ground.phase }, { on := 8, ground := Ground.phase }, { on := 9, ground := Ground.phase }, { on := 10, ground := Ground.phase }, { on := 11, ground := Ground.phase }, { on := 12, ground := Ground.phase }, { on := 13, ground := Ground.phase }], guard := none }) (v := (.bool r3)) rfl (by kernel_rfl) (by kernel_rfl) (by kernel_rfl) (fun _ _ _ h => h) (Or.inl ⟨by rfl, fun w' hS => by (try dsimp only at hS); go_simp⟩) (by obtain ⟨_, _, _, _, _, _, ho, _⟩ := FIN.out; exact ho.box) ?_
              simp only [Act.put, List.setIfInBounds_toArray, List.set_cons_zero, List.set_cons_succ]
              refine wpAnyH_done (by kernel_rfl) ?_ _
              refine NoPanic.normal ?_
              go_wp2_with fail
              go_meet
              exact FIN.out
            · go_simp
              have HZ : Hid (Row (wp1.alloc (.cells #[.slice none 0 0, .slice none 0 0] 25)) wp1.heap.size 2 (fun i => if i = 0 then .slice none 0 0 else .slice none 0 0)) := box2 wp1 _ _ 25
              have hzl := HO.out.zl
              have HZB : Hid (wp1.heap.size ≠ zs ∧ w.heap.size < wp1.heap.size) := ⟨by omega, by omega⟩
              have HOB : Hid (BookOwn (fun x => w.heap.size < x ∧ x < (wp1.alloc (.cells #[.slice none 0 0, .slice none 0 0] 25)).heap.size ∧ x ≠ zs ∧ x ≠ wp1.heap.size) (wp1.alloc (.cells #[.slice none 0 0, .slice none 0 0] 25)) b4 ⟨16, c4, 16, l4⟩) := (HO.out.own.blw ((Blw.refl _).alloc _)).mono (fun x hx => ⟨hx.1, by simp; omega, hx.2.2, by omega⟩)
              replace HO : Hid (OwA Y w (wp1.alloc (.cells #[.slice none 0 0, .slice none 0 0] 25)) C (kk + 2 + 2) zs b4 c4 l4) := HO.out.blw ((Blw.refl _).alloc _)
              refine hK.out _ _ HO.out.box (fun hB => ?_)
              clear hK K hB hzl
              try simp only [Act.put, List.setIfInBounds_toArray, List.set_cons_zero, List.set_cons_succ]
              have HSA : Hid ((wp1.alloc (.cells #[.slice none 0 0, .slice none 0 0] 25)).heap.size = wp1.heap.size + 1) := by show _ = _; simp
              generalize wp1.alloc (.cells #[.slice none 0 0, .slice none 0 0] 25) = wA at *
              refine wpAnyH_ready (rs := [6]) (by kernel_rfl) (by simp) ?_
              refine (AllReadyH.cons (o := { dst := some 26, op := Op.call { callee := Callee.value (Operand.func 16), args := #[Operand.tmp 20, Operand.tmp 23, Operand.tmp 25], argTypes := #[25, 3, 3] }, type := 28, pos := _, after := #[{ on := 0, ground := Ground.data }, { on := 3, ground := Ground.data }, { on := 5, ground := Ground.data }, { on := 5, ground := Ground.chain }], guard := none }) rfl (fun K hK => ?_) AllReadyH.nil)
              go_simp
              refine (specTake_any b4 ⟨16, c4, 16, l4⟩ (1 + (x0 : Int)) (x1 : Int) _ _ HO.out.own.at (fun x hx => hx.2.1)).mono ?_
              rintro e wk ⟨b3, R, xv, r3, rfl, ho3, hs3, own3, hbk⟩
              have hsz := hbk.size
              have hzl := HO.out.zl
              have HRR : Hid (r3 = true → R.n = 16 ∧ R.k = 16) := fun e => (by rcases ho3 with ⟨_, e2, _⟩ | ⟨_, _, _, e2⟩ <;> first | (subst e2; exact ⟨rfl, rfl⟩) | (rw [e] at e2; cases e2))
              have HZL := HZ.out.lt
              replace HZ : Hid (Row wk _ 2 (fun i => if i = 0 then .slice none 0 0 else .slice none 0 0)) := HZ.out.blw hbk
              replace HOB : Hid (BookOwn _ wk b4 ⟨16, c4, 16, l4⟩) := (HOB.out.blw hbk).mono (fun x hx => (show _ ∧ _ ∧ _ ∧ _ from ⟨hx.1, Nat.lt_of_lt_of_le hx.2.1 hsz, hx.2.2⟩))
              have hsa := HSA.out
              have HXX : Hid (∀ x, _ → w.heap.size < x ∧ x < wk.heap.size ∧ x ≠ zs ∧ x ≠ _) := fun x (hx : wA.heap.size ≤ x ∧ x < wk.heap.size) => ⟨by omega, hx.2, by omega, fun (e : x = wp1.heap.size) => by omega⟩
              have HOW : Hid (BookOwn _ wk b3 R) := own3
              replace HO : Hid (OwA Y w wk C (kk + 2 + 2) zs b4 c4 l4) := HO.out.blw hbk
              refine hK.out _ _ HO.out.box (fun hB => ?_)
              clear hK K hB ho3 hs3 own3 hbk hsz hzl HZL hsa
              try simp only [Act.put, List.setIfInBounds_toArray, List.set_cons_zero, List.set_cons_succ]
              refine wpAnyH_take (i := 7) (oi := { dst := some 19, op := Op.move (Operand.tmp 26), type := 28, pos := _, after := #[{ on := 6, ground := Ground.data }], guard := none }) (v := (.tuple #[b3.val R, .int .i64 xv, .bool r3])) rfl (by kernel_rfl) (by kernel_rfl) (by kernel_rfl) (fun _ _ _ h => h) (Or.inl ⟨by rfl, fun w' hS => by (try dsimp only at hS); go_simp⟩) (HO.out.box) ?_
              simp only [Act.put, List.setIfInBounds_toArray, List.set_cons_zero, List.set_cons_succ]
              refine wpAnyH_take (i := 8) (oi := { dst := some 27, op := Op.extract (Operand.tmp 19) 0, type := 25, pos := _, after := #[{ on := 7, ground := Ground.data }], guard := none }) (v := (.agg #[.slice b3.a1 R.n b3.c1, .slice b3.a2 R.k b3.c2])) rfl (by kernel_rfl) (by kernel_rfl) (by kernel_rfl) (fun _ _ _ h => h) (Or.inl ⟨by rfl, fun w' hS => by (try dsimp only at hS); go_simp⟩) (HO.out.box) ?_
              simp only [Act.put, List.setIfInBounds_toArray, List.set_cons_zero, List.set_cons_succ]
              refine wpAnyH_take (i := 9) (oi := { dst := some 28, op := Op.extract (Operand.tmp 19) 1, type := 3, pos := _, after := #[{ on := 7, ground := Ground.data }, { on := 12, ground := Ground.gcOnly Departure.lateStores }], guard := none }) (v := (.int .i64 xv)) rfl (by kernel_rfl) (by kernel_rfl) (by kernel_rfl) (fun _ _ _ h => h) (Or.inl ⟨by rfl, fun w' hS => by (try dsimp only at hS); go_simp⟩) (HO.out.box) ?_
              simp only [Act.put, List.setIfInBounds_toArray, List.set_cons_zero, List.set_cons_succ]
              refine wpAnyH_take (i := 10) (oi := { dst := some 29, op := Op.extract (Operand.tmp 19) 2, type := 4, pos := _, after := #[{ on := 7, ground := Ground.data }, { on := 13, ground := Ground.gcOnly Departure.lateStores }], guard := none }) (v := (.bool r3)) rfl (by kernel_rfl) (by kernel_rfl) (by kernel_rfl) (fun _ _ _ h => h) (Or.inl ⟨by rfl, fun w' hS => by (try dsimp only at hS); go_simp⟩) (HO.out.box) ?_
              simp only [Act.put, List.setIfInBounds_toArray, List.set_cons_zero, List.set_cons_succ]
              refine wpAnyH_ready (rs := [12]) (by kernel_rfl) (by simp) ?_
              refine (AllReadyH.cons (o := { dst := none, op := Op.store 25 (Operand.tmp 5) (Operand.tmp 27), type := 0, pos := _, after := #[{ on := 11, ground := Ground.data }, { on := 8, ground := Ground.data }, { on := 6, ground := Ground.chain }, { on := 0, ground := Ground.phase }, { on := 1, ground := Ground.phase }, { on := 2, ground := Ground.phase }, { on := 3, ground := Ground.phase }, { on := 4, ground := Ground.phase }, { on := 5, ground := Ground.phase }, { on := 6, ground := Ground.phase }, { on := 7, ground := Ground.phase }, { on := 8, ground := Ground.phase }, { on := 9, ground := Ground.textOnly Departure.lateStores }, { on := 10, ground := Ground.textOnly Departure.lateStores }, { on := 11, ground := Ground.phase }], guard := none }) rfl (fun K hK => ?_) AllReadyH.nil)
              obtain ⟨z0, z1⟩ := get2 HZ.out
              have fz0 := HZ.out.frozen 0
              have fz1 := HZ.out.frozen 1
              have FIN : Hid _ := got_fin (C := C) hC hYw HO.out HZ.out HZB.out HRR.out HOW.out (fun x hx => by have := HXX.out x hx; omega) (fun x _ h => h.2.2.2) (HOB.out)
              go_simp
              refine hK.out _ _ (by obtain ⟨_, _, _, _, _, _, ho, _⟩ := FIN.out; exact ho.box) (fun hB => ?_)
              clear hK K hB z0 z1 fz0 fz1
              try simp only [Act.put, List.setIfInBounds_toArray, List.set_cons_zero, List.set_cons_succ]
              refine wpAnyH_take (i := 13) (oi := { dst := some 6, op := Op.assign (Operand.tmp 28), type := 3, pos := _, after := #[{ on := 9, ground := Ground.data }, { on := 12, ground := Ground.chain }, { on := 0, ground := Ground.phase }, { on := 1, ground := Ground.phase }, { on := 2, ground := Ground.phase }, { on := 3, ground := Ground.phase }, { on := 4, ground := Ground.phase }, { on := 5, ground := Ground.phase }, { on := 6, ground := Ground.phase }, { on := 7, ground := Ground.phase }, { on := 8, ground := Ground.phase }, { on := 9, ground := Ground.phase }, { on := 10, ground := Ground.textOnly Departure.lateStores }, { on := 11, ground := Ground.phase }, { on := 12, ground := Ground.phase }], guard := none }) (v := (.int .i64 xv)) rfl (by kernel_rfl) (by kernel_rfl) (by kernel_rfl) (fun _ _ _ h => h) (Or.inl ⟨by rfl, fun w' hS => by (try dsimp only at hS); go_simp⟩) (by obtain ⟨_, _, _, _, _, _, ho, _⟩ := FIN.out; exact ho.box) ?_
              simp only [Act.put, List.setIfInBounds_toArray, List.set_cons_zero, List.set_cons_succ]
              refine wpAnyH_take (i := 14) (oi := { dst := some 7, op := Op.assign (Operand.tmp 29), type := 4, pos := _, after := #[{ on := 10, ground := Ground.data }, { on := 13, ground := Ground.chain }, { on := 0, ground := Ground.phase }, { on := 1, ground := Ground.phase }, { on := 2, ground := Ground.phase }, { on := 3, ground := Ground.phase }, { on := 4, ground := Ground.phase }, { on := 5, ground := Ground.phase }, { on := 6, ground := Ground.phase }, { on := 7, ground := Ground.phase }, { on := 8, ground := Ground.phase }, { on := 9, ground := Ground.phase }, { on := 10, ground := Ground.phase }, { on := 11, ground := Ground.phase }, { on := 12, ground := Ground.phase }, { on := 13, ground := Ground.phase }], guard := none }) (v := (.bool r3)) rfl (by kernel_rfl) (by kernel_rfl) (by kernel_rfl) (fun _ _ _ h => h) (Or.inl ⟨by rfl, fun w' hS => by (try dsimp only at hS); go_simp⟩) (by obtain ⟨_, _, _, _, _, _, ho, _⟩ := FIN.out; exact ho.box) ?_
              simp only [Act.put, List.setIfInBounds_toArray, List.set_cons_zero, List.set_cons_succ]
              refine wpAnyH_done (by kernel_rfl) ?_ _
              refine NoPanic.normal ?_
              go_wp2_with fail
              go_meet
              exact FIN.out
          · go_simp
            have HZ : Hid (Row (wp0.alloc (.cells #[.slice none 0 0, .slice none 0 0] 25)) wp0.heap.size 2 (fun i => if i = 0 then .slice none 0 0 else .slice none 0 0)) := box2 wp0 _ _ 25
            have hzl := HO.out.zl
            have HZB : Hid (wp0.heap.size ≠ zs ∧ w.heap.size < wp0.heap.size) := ⟨by omega, by omega⟩
            have HOB : Hid (BookOwn (fun x => w.heap.size < x ∧ x < (wp0.alloc (.cells #[.slice none 0 0, .slice none 0 0] 25)).heap.size ∧ x ≠ zs ∧ x ≠ wp0.heap.size) (wp0.alloc (.cells #[.slice none 0 0, .slice none 0 0] 25)) b4 ⟨16, c4, 16, l4⟩) := (HO.out.own.blw ((Blw.refl _).alloc _)).mono (fun x hx => ⟨hx.1, by simp; omega, hx.2.2, by omega⟩)
            replace HO : Hid (OwA Y w (wp0.alloc (.cells #[.slice none 0 0, .slice none 0 0] 25)) C (kk + 2) zs b4 c4 l4) := HO.out.blw ((Blw.refl _).alloc _)
            refine hK.out _ _ HO.out.box (fun hB => ?_)
            clear hK K hB hzl
            try simp only [Act.put, List.setIfInBounds_toArray, List.set_cons_zero, List.set_cons_succ]
            have HSA : Hid ((wp0.alloc (.cells #[.slice none 0 0, .slice none 0 0] 25)).heap.size = wp0.heap.size + 1) := by show _ = _; simp
            generalize wp0.alloc (.cells #[.slice none 0 0, .slice none 0 0] 25) = wA at *
            refine wpAnyH_ready (rs := [5]) (by kernel_rfl) (by simp) ?_
            refine (AllReadyH.cons (o := { dst := some 25, op := Op.call { callee := Callee.value (Operand.func 54), args := #[Operand.tmp 24, Operand.const (Value.int IntKind.i64 3)], argTypes := #[63, 3] }, type := 3, pos := _, after := #[{ on := 4, ground := Ground.data }, { on := 2, ground := Ground.chain }], guard := none }) rfl (fun K hK => ?_) AllReadyH.nil)
            go_simp
            refine (pick_any Y C _ 3 _ (by omega) (by omega) HO.out.cur).mono ?_
            rintro e wp1 ⟨x1, rfl, hx1, hc, hm⟩
            replace HZ : Hid (Row wp1 _ 2 (fun i => if i = 0 then .slice none 0 0 else .slice none 0 0)) := HZ.out.mod hm (by have := HZB.out; omega)
            replace HOB : Hid (BookOwn _ wp1 b4 ⟨16, c4, 16, l4⟩) := (HOB.out.mod hm (fun x hx e => by omega)).mono (fun x hx => (show _ ∧ _ ∧ _ ∧ _ from ⟨hx.1, Nat.lt_of_lt_of_le hx.2.1 hm.size, hx.2.2⟩))
            replace HO : Hid (OwA Y w wp1 C (kk + 2 + 2) zs b4 c4 l4) := HO.out.go hC hc hm
            refine hK.out _ _ HO.out.box (fun hB => ?_)
            clear hK K hB hc hm
            try simp only [Act.put, List.setIfInBounds_toArray, List.set_cons_zero, List.set_cons_succ]
            refine wpAnyH_ready (rs := [6]) (by kernel_rfl) (by simp) ?_
            refine (AllReadyH.cons (o := { dst := some 26, op := Op.call { callee := Callee.value (Operand.func 16), args := #[Operand.tmp 20, Operand.tmp 23, Operand.tmp 25], argTypes := #[25, 3, 3] }, type := 28, pos := _, after := #[{ on := 0, ground := Ground.data }, { on := 3, ground := Ground.data }, { on := 5, ground := Ground.data }, { on := 5, ground := Ground.chain }], guard := none }) rfl (fun K hK => ?_) AllReadyH.nil)
            go_simp
            refine (specTake_any b4 ⟨16, c4, 16, l4⟩ (1 + (x0 : Int)) (x1 : Int) _ _ HO.out.own.at (fun x hx => hx.2.1)).mono ?_
            rintro e wk ⟨b3, R, xv, r3, rfl, ho3, hs3, own3, hbk⟩
            have hsz := hbk.size
            have hzl := HO.out.zl
            have HRR : Hid (r3 = true → R.n = 16 ∧ R.k = 16) := fun e => (by rcases ho3 with ⟨_, e2, _⟩ | ⟨_, _, _, e2⟩ <;> first | (subst e2; exact ⟨rfl, rfl⟩) | (rw [e] at e2; cases e2))
            have HZL := HZ.out.lt
            replace HZ : Hid (Row wk _ 2 (fun i => if i = 0 then .slice none 0 0 else .slice none 0 0)) := HZ.out.blw hbk
            replace HOB : Hid (BookOwn _ wk b4 ⟨16, c4, 16, l4⟩) := (HOB.out.blw hbk).mono (fun x hx => (show _ ∧ _ ∧ _ ∧ _ from ⟨hx.1, Nat.lt_of_lt_of_le hx.2.1 hsz, hx.2.2⟩))
            have hsa := HSA.out
            have HXX : Hid (∀ x, _ → w.heap.size < x ∧ x < wk.heap.size ∧ x ≠ zs ∧ x ≠ _) := fun x (hx : wp1.heap.size ≤ x ∧ x < wk.heap.size) => ⟨by omega, hx.2, by omega, fun (e : x = wp0.heap.size) => by omega⟩
            have HOW : Hid (BookOwn _ wk b3 R) := own3
            replace HO : Hid (OwA Y w wk C (kk + 2 + 2) zs b4 c4 l4) := HO.out.blw hbk
            refine hK.out _ _ HO.out.box (fun hB => ?_)
            clear hK K hB ho3 hs3 own3 hbk hsz hzl HZL hsa
            try simp only [Act.put, List.setIfInBounds_toArray, List.set_cons_zero, List.set_cons_succ]
            refine wpAnyH_take (i := 7) (oi := { dst := some 19, op := Op.move (Operand.tmp 26), type := 28, pos := _, after := #[{ on := 6, ground := Ground.data }], guard := none }) (v := (.tuple #[b3.val R, .int .i64 xv, .bool r3])) rfl (by kernel_rfl) (by kernel_rfl) (by kernel_rfl) (fun _ _ _ h => h) (Or.inl ⟨by rfl, fun w' hS => by (try dsimp only at hS); go_simp⟩) (HO.out.box) ?_
            simp only [Act.put, List.setIfInBounds_toArray, List.set_cons_zero, List.set_cons_succ]
            refine wpAnyH_take (i := 8) (oi := { dst := some 27, op := Op.extract (Operand.tmp 19) 0, type := 25, pos := _, after := #[{ on := 7, ground := Ground.data }], guard := none }) (v := (.agg #[.slice b3.a1 R.n b3.c1, .slice b3.a2 R.k b3.c2])) rfl (by kernel_rfl) (by kernel_rfl) (by kernel_rfl) (fun _ _ _ h => h) (Or.inl ⟨by rfl, fun w' hS => by (try dsimp only at hS); go_simp⟩) (HO.out.box) ?_
            simp only [Act.put, List.setIfInBounds_toArray, List.set_cons_zero, List.set_cons_succ]
            refine wpAnyH_take (i := 9) (oi := { dst := some 28, op := Op.extract (Operand.tmp 19) 1, type := 3, pos := _, after := #[{ on := 7, ground := Ground.data }, { on := 12, ground := Ground.gcOnly Departure.lateStores }], guard := none }) (v := (.int .i64 xv)) rfl (by kernel_rfl) (by kernel_rfl) (by kernel_rfl) (fun _ _ _ h => h) (Or.inl ⟨by rfl, fun w' hS => by (try dsimp only at hS); go_simp⟩) (HO.out.box) ?_
            simp only [Act.put, List.setIfInBounds_toArray, List.set_cons_zero, List.set_cons_succ]
            refine wpAnyH_take (i := 10) (oi := { dst := some 29, op := Op.extract (Operand.tmp 19) 2, type := 4, pos := _, after := #[{ on := 7, ground := Ground.data }, { on := 13, ground := Ground.gcOnly Departure.lateStores }], guard := none }) (v := (.bool r3)) rfl (by kernel_rfl) (by kernel_rfl) (by kernel_rfl) (fun _ _ _ h => h) (Or.inl ⟨by rfl, fun w' hS => by (try dsimp only at hS); go_simp⟩) (HO.out.box) ?_
            simp only [Act.put, List.setIfInBounds_toArray, List.set_cons_zero, List.set_cons_succ]
            refine wpAnyH_ready (rs := [12]) (by kernel_rfl) (by simp) ?_
            refine (AllReadyH.cons (o := { dst := none, op := Op.store 25 (Operand.tmp 5) (Operand.tmp 27), type := 0, pos := _, after := #[{ on := 11, ground := Ground.data }, { on := 8, ground := Ground.data }, { on := 6, ground := Ground.chain }, { on := 0, ground := Ground.phase }, { on := 1, ground := Ground.phase }, { on := 2, ground := Ground.phase }, { on := 3, ground := Ground.phase }, { on := 4, ground := Ground.phase }, { on := 5, ground := Ground.phase }, { on := 6, ground := Ground.phase }, { on := 7, ground := Ground.phase }, { on := 8, ground := Ground.phase }, { on := 9, ground := Ground.textOnly Departure.lateStores }, { on := 10, ground := Ground.textOnly Departure.lateStores }, { on := 11, ground := Ground.phase }], guard := none }) rfl (fun K hK => ?_) AllReadyH.nil)
            obtain ⟨z0, z1⟩ := get2 HZ.out
            have fz0 := HZ.out.frozen 0
            have fz1 := HZ.out.frozen 1
            have FIN : Hid _ := got_fin (C := C) hC hYw HO.out HZ.out HZB.out HRR.out HOW.out (fun x hx => by have := HXX.out x hx; omega) (fun x _ h => h.2.2.2) (HOB.out)
            go_simp
            refine hK.out _ _ (by obtain ⟨_, _, _, _, _, _, ho, _⟩ := FIN.out; exact ho.box) (fun hB => ?_)
            clear hK K hB z0 z1 fz0 fz1
            try simp only [Act.put, List.setIfInBounds_toArray, List.set_cons_zero, List.set_cons_succ]
            refine wpAnyH_take (i := 13) (oi := { dst := some 6, op := Op.assign (Operand.tmp 28), type := 3, pos := _, after := #[{ on := 9, ground := Ground.data }, { on := 12, ground := Ground.chain }, { on := 0, ground := Ground.phase }, { on := 1, ground := Ground.phase }, { on := 2, ground := Ground.phase }, { on := 3, ground := Ground.phase }, { on := 4, ground := Ground.phase }, { on := 5, ground := Ground.phase }, { on := 6, ground := Ground.phase }, { on := 7, ground := Ground.phase }, { on := 8, ground := Ground.phase }, { on := 9, ground := Ground.phase }, { on := 10, ground := Ground.textOnly Departure.lateStores }, { on := 11, ground := Ground.phase }, { on := 12, ground := Ground.phase }], guard := none }) (v := (.int .i64 xv)) rfl (by kernel_rfl) (by kernel_rfl) (by kernel_rfl) (fun _ _ _ h => h) (Or.inl ⟨by rfl, fun w' hS => by (try dsimp only at hS); go_simp⟩) (by obtain ⟨_, _, _, _, _, _, ho, _⟩ := FIN.out; exact ho.box) ?_
            simp only [Act.put, List.setIfInBounds_toArray, List.set_cons_zero, List.set_cons_succ]
            refine wpAnyH_take (i := 14) (oi := { dst := some 7, op := Op.assign (Operand.tmp 29), type := 4, pos := _, after := #[{ on := 10, ground := Ground.data }, { on := 13, ground := Ground.chain }, { on := 0, ground := Ground.phase }, { on := 1, ground := Ground.phase }, { on := 2, ground := Ground.phase }, { on := 3, ground := Ground.phase }, { on := 4, ground := Ground.phase }, { on := 5, ground := Ground.phase }, { on := 6, ground := Ground.phase }, { on := 7, ground := Ground.phase }, { on := 8, ground := Ground.phase }, { on := 9, ground := Ground.phase }, { on := 10, ground := Ground.phase }, { on := 11, ground := Ground.phase }, { on := 12, ground := Ground.phase }, { on := 13, ground := Ground.phase }], guard := none }) (v := (.bool r3)) rfl (by kernel_rfl) (by kernel_rfl) (by kernel_rfl) (fun _ _ _ h => h) (Or.inl ⟨by rfl, fun w' hS => by (try dsimp only at hS); go_simp⟩) (by obtain ⟨_, _, _, _, _, _, ho, _⟩ := FIN.out; exact ho.box) ?_
            simp only [Act.put, List.setIfInBounds_toArray, List.set_cons_zero, List.set_cons_succ]
            refine wpAnyH_done (by kernel_rfl) ?_ _
            refine NoPanic.normal ?_
            go_wp2_with fail
            go_meet
            exact FIN.out
        · go_simp
          have HZ : Hid (Row (wd.alloc (.cells #[.slice none 0 0, .slice none 0 0] 25)) wd.heap.size 2 (fun i => if i = 0 then .slice none 0 0 else .slice none 0 0)) := box2 wd _ _ 25
          have hzl := HO.out.zl
          have HZB : Hid (wd.heap.size ≠ zs ∧ w.heap.size < wd.heap.size) := ⟨by omega, by omega⟩
          have HOB : Hid (BookOwn (fun x => w.heap.size < x ∧ x < (wd.alloc (.cells #[.slice none 0 0, .slice none 0 0] 25)).heap.size ∧ x ≠ zs ∧ x ≠ wd.heap.size) (wd.alloc (.cells #[.slice none 0 0, .slice none 0 0] 25)) b4 ⟨16, c4, 16, l4⟩) := (HO.out.own.blw ((Blw.refl _).alloc _)).mono (fun x hx => ⟨hx.1, by simp; omega, hx.2.2, by omega⟩)
          replace HO : Hid (OwA Y w (wd.alloc (.cells #[.slice none 0 0, .slice none 0 0] 25)) C (kk) zs b4 c4 l4) := HO.out.blw ((Blw.refl _).alloc _)
          refine hK.out _ _ HO.out.box (fun hB => ?_)
          clear hK K hB hzl
          try simp only [Act.put, List.setIfInBounds_toArray, List.set_cons_zero, List.set_cons_succ]
          have HSA : Hid ((wd.alloc (.cells #[.slice none 0 0, .slice none 0 0] 25)).heap.size = wd.heap.size + 1) := by show _ = _; simp
          generalize wd.alloc (.cells #[.slice none 0 0, .slice none 0 0] 25) = wA at *
          refine wpAnyH_ready (rs := [2]) (by kernel_rfl) (by simp) ?_
          refine (AllReadyH.cons (o := { dst := some 22, op := Op.call { callee := Callee.value (Operand.func 54), args := #[Operand.tmp 21, Operand.const (Value.int IntKind.i64 3)], argTypes := #[63, 3] }, type := 3, pos := _, after := #[{ on := 1, ground := Ground.data }], guard := none }) rfl (fun K hK => ?_) AllReadyH.nil)
          go_simp
          refine (pick_any Y C _ 3 _ (by omega) (by omega) HO.out.cur).mono ?_
          rintro e wp0 ⟨x0, rfl, hx0, hc, hm⟩
          replace HZ : Hid (Row wp0 _ 2 (fun i => if i = 0 then .slice none 0 0 else .slice none 0 0)) := HZ.out.mod hm (by have := HZB.out; omega)
          replace HOB : Hid (BookOwn _ wp0 b4 ⟨16, c4, 16, l4⟩) := (HOB.out.mod hm (fun x hx e => by omega)).mono (fun x hx => (show _ ∧ _ ∧ _ ∧ _ from ⟨hx.1, Nat.lt_of_lt_of_le hx.2.1 hm.size, hx.2.2⟩))
          replace HO : Hid (OwA Y w wp0 C (kk + 2) zs b4 c4 l4) := HO.out.go hC hc hm
          refine hK.out _ _ HO.out.box (fun hB => ?_)
          clear hK K hB hc hm
          try simp only [Act.put, List.setIfInBounds_toArray, List.set_cons_zero, List.set_cons_succ]
          have ea := wrap1 x0 (by omega)
          refine wpAnyH_take (i := 3) (oi := { dst := some 23, op := Op.binOp BinOp.add 3 (Operand.const (Value.int IntKind.i64 1)) (Operand.tmp 22) 3, type := 3, pos := _, after := #[{ on := 2, ground := Ground.data }], guard := none }) (v := (.int .i64 (1 + (x0 : Int)))) rfl (by kernel_rfl) (by kernel_rfl) (by kernel_rfl) (fun _ _ _ h => h) (Or.inl ⟨by rfl, fun w' hS => by (try dsimp only at hS); go_simp⟩) (HO.out.box) ?_
          simp only [Act.put, List.setIfInBounds_toArray, List.set_cons_zero, List.set_cons_succ]
          clear ea
          refine wpAnyH_ready (rs := [5]) (by kernel_rfl) (by simp) ?_
          refine (AllReadyH.cons (o := { dst := some 25, op := Op.call { callee := Callee.value (Operand.func 54), args := #[Operand.tmp 24, Operand.const (Value.int IntKind.i64 3)], argTypes := #[63, 3] }, type := 3, pos := _, after := #[{ on := 4, ground := Ground.data }, { on := 2, ground := Ground.chain }], guard := none }) rfl (fun K hK => ?_) AllReadyH.nil)
          go_simp
          refine (pick_any Y C _ 3 _ (by omega) (by omega) HO.out.cur).mono ?_
          rintro e wp1 ⟨x1, rfl, hx1, hc, hm⟩
          replace HZ : Hid (Row wp1 _ 2 (fun i => if i = 0 then .slice none 0 0 else .slice none 0 0)) := HZ.out.mod hm (by have := HZB.out; omega)
          replace HOB : Hid (BookOwn _ wp1 b4 ⟨16, c4, 16, l4⟩) := (HOB.out.mod hm (fun x hx e => by omega)).mono (fun x hx => (show _ ∧ _ ∧ _ ∧ _ from ⟨hx.1, Nat.lt_of_lt_of_le hx.2.1 hm.size, hx.2.2⟩))
          replace HO : Hid (OwA Y w wp1 C (kk + 2 + 2) zs b4 c4 l4) := HO.out.go hC hc hm
          refine hK.out _ _ HO.out.box (fun hB => ?_)
          clear hK K hB hc hm
          try simp only [Act.put, List.setIfInBounds_toArray, List.set_cons_zero, List.set_cons_succ]
          refine wpAnyH_ready (rs := [6]) (by kernel_rfl) (by simp) ?_
          refine (AllReadyH.cons (o := { dst := some 26, op := Op.call { callee := Callee.value (Operand.func 16), args := #[Operand.tmp 20, Operand.tmp 23, Operand.tmp 25], argTypes := #[25, 3, 3] }, type := 28, pos := _, after := #[{ on := 0, ground := Ground.data }, { on := 3, ground := Ground.data }, { on := 5, ground := Ground.data }, { on := 5, ground := Ground.chain }], guard := none }) rfl (fun K hK => ?_) AllReadyH.nil)
          go_simp
          refine (specTake_any b4 ⟨16, c4, 16, l4⟩ (1 + (x0 : Int)) (x1 : Int) _ _ HO.out.own.at (fun x hx => hx.2.1)).mono ?_
          rintro e wk ⟨b3, R, xv, r3, rfl, ho3, hs3, own3, hbk⟩
          have hsz := hbk.size
          have hzl := HO.out.zl
          have HRR : Hid (r3 = true → R.n = 16 ∧ R.k = 16) := fun e => (by rcases ho3 with ⟨_, e2, _⟩ | ⟨_, _, _, e2⟩ <;> first | (subst e2; exact ⟨rfl, rfl⟩) | (rw [e] at e2; cases e2))
          have HZL := HZ.out.lt
          replace HZ : Hid (Row wk _ 2 (fun i => if i = 0 then .slice none 0 0 else .slice none 0 0)) := HZ.out.blw hbk
          replace HOB : Hid (BookOwn _ wk b4 ⟨16, c4, 16, l4⟩) := (HOB.out.blw hbk).mono (fun x hx => (show _ ∧ _ ∧ _ ∧ _ from ⟨hx.1, Nat.lt_of_lt_of_le hx.2.1 hsz, hx.2.2⟩))
          have hsa := HSA.out
          have HXX : Hid (∀ x, _ → w.heap.size < x ∧ x < wk.heap.size ∧ x ≠ zs ∧ x ≠ _) := fun x (hx : wp1.heap.size ≤ x ∧ x < wk.heap.size) => ⟨by omega, hx.2, by omega, fun (e : x = wd.heap.size) => by omega⟩
          have HOW : Hid (BookOwn _ wk b3 R) := own3
          replace HO : Hid (OwA Y w wk C (kk + 2 + 2) zs b4 c4 l4) := HO.out.blw hbk
          refine hK.out _ _ HO.out.box (fun hB => ?_)
          clear hK K hB ho3 hs3 own3 hbk hsz hzl HZL hsa
          try simp only [Act.put, List.setIfInBounds_toArray, List.set_cons_zero, List.set_cons_succ]
          refine wpAnyH_take (i := 7) (oi := { dst := some 19, op := Op.move (Operand.tmp 26), type := 28, pos := _, after := #[{ on := 6, ground := Ground.data }], guard := none }) (v := (.tuple #[b3.val R, .int .i64 xv, .bool r3])) rfl (by kernel_rfl) (by kernel_rfl) (by kernel_rfl) (fun _ _ _ h => h) (Or.inl ⟨by rfl, fun w' hS => by (try dsimp only at hS); go_simp⟩) (HO.out.box) ?_
          simp only [Act.put, List.setIfInBounds_toArray, List.set_cons_zero, List.set_cons_succ]
          refine wpAnyH_take (i := 8) (oi := { dst := some 27, op := Op.extract (Operand.tmp 19) 0, type := 25, pos := _, after := #[{ on := 7, ground := Ground.data }], guard := none }) (v := (.agg #[.slice b3.a1 R.n b3.c1, .slice b3.a2 R.k b3.c2])) rfl (by kernel_rfl) (by kernel_rfl) (by kernel_rfl) (fun _ _ _ h => h) (Or.inl ⟨by rfl, fun w' hS => by (try dsimp only at hS); go_simp⟩) (HO.out.box) ?_
          simp only [Act.put, List.setIfInBounds_toArray, List.set_cons_zero, List.set_cons_succ]
          refine wpAnyH_take (i := 9) (oi := { dst := some 28, op := Op.extract (Operand.tmp 19) 1, type := 3, pos := _, after := #[{ on := 7, ground := Ground.data }, { on := 12, ground := Ground.gcOnly Departure.lateStores }], guard := none }) (v := (.int .i64 xv)) rfl (by kernel_rfl) (by kernel_rfl) (by kernel_rfl) (fun _ _ _ h => h) (Or.inl ⟨by rfl, fun w' hS => by (try dsimp only at hS); go_simp⟩) (HO.out.box) ?_
          simp only [Act.put, List.setIfInBounds_toArray, List.set_cons_zero, List.set_cons_succ]
          refine wpAnyH_take (i := 10) (oi := { dst := some 29, op := Op.extract (Operand.tmp 19) 2, type := 4, pos := _, after := #[{ on := 7, ground := Ground.data }, { on := 13, ground := Ground.gcOnly Departure.lateStores }], guard := none }) (v := (.bool r3)) rfl (by kernel_rfl) (by kernel_rfl) (by kernel_rfl) (fun _ _ _ h => h) (Or.inl ⟨by rfl, fun w' hS => by (try dsimp only at hS); go_simp⟩) (HO.out.box) ?_
          simp only [Act.put, List.setIfInBounds_toArray, List.set_cons_zero, List.set_cons_succ]
          refine wpAnyH_ready (rs := [12]) (by kernel_rfl) (by simp) ?_
          refine (AllReadyH.cons (o := { dst := none, op := Op.store 25 (Operand.tmp 5) (Operand.tmp 27), type := 0, pos := _, after := #[{ on := 11, ground := Ground.data }, { on := 8, ground := Ground.data }, { on := 6, ground := Ground.chain }, { on := 0, ground := Ground.phase }, { on := 1, ground := Ground.phase }, { on := 2, ground := Ground.phase }, { on := 3, ground := Ground.phase }, { on := 4, ground := Ground.phase }, { on := 5, ground := Ground.phase }, { on := 6, ground := Ground.phase }, { on := 7, ground := Ground.phase }, { on := 8, ground := Ground.phase }, { on := 9, ground := Ground.textOnly Departure.lateStores }, { on := 10, ground := Ground.textOnly Departure.lateStores }, { on := 11, ground := Ground.phase }], guard := none }) rfl (fun K hK => ?_) AllReadyH.nil)
          obtain ⟨z0, z1⟩ := get2 HZ.out
          have fz0 := HZ.out.frozen 0
          have fz1 := HZ.out.frozen 1
          have FIN : Hid _ := got_fin (C := C) hC hYw HO.out HZ.out HZB.out HRR.out HOW.out (fun x hx => by have := HXX.out x hx; omega) (fun x _ h => h.2.2.2) (HOB.out)
          go_simp
          refine hK.out _ _ (by obtain ⟨_, _, _, _, _, _, ho, _⟩ := FIN.out; exact ho.box) (fun hB => ?_)
          clear hK K hB z0 z1 fz0 fz1
          try simp only [Act.put, List.setIfInBounds_toArray, List.set_cons_zero, List.set_cons_succ]
          refine wpAnyH_take (i := 13) (oi := { dst := some 6, op := Op.assign (Operand.tmp 28), type := 3, pos := _, after := #[{ on := 9, ground := Ground.data }, { on := 12, ground := Ground.chain }, { on := 0, ground := Ground.phase }, { on := 1, ground := Ground.phase }, { on := 2, ground := Ground.phase }, { on := 3, ground := Ground.phase }, { on := 4, ground := Ground.phase }, { on := 5, ground := Ground.phase }, { on := 6, ground := Ground.phase }, { on := 7, ground := Ground.phase }, { on := 8, ground := Ground.phase }, { on := 9, ground := Ground.phase }, { on := 10, ground := Ground.textOnly Departure.lateStores }, { on := 11, ground := Ground.phase }, { on := 12, ground := Ground.phase }], guard := none }) (v := (.int .i64 xv)) rfl (by kernel_rfl) (by kernel_rfl) (by kernel_rfl) (fun _ _ _ h => h) (Or.inl ⟨by rfl, fun w' hS => by (try dsimp only at hS); go_simp⟩) (by obtain ⟨_, _, _, _, _, _, ho, _⟩ := FIN.out; exact ho.box) ?_
          simp only [Act.put, List.setIfInBounds_toArray, List.set_cons_zero, List.set_cons_succ]
          refine wpAnyH_take (i := 14) (oi := { dst := some 7, op := Op.assign (Operand.tmp 29), type := 4, pos := _, after := #[{ on := 10, ground := Ground.data }, { on := 13, ground := Ground.chain }, { on := 0, ground := Ground.phase }, { on := 1, ground := Ground.phase }, { on := 2, ground := Ground.phase }, { on := 3, ground := Ground.phase }, { on := 4, ground := Ground.phase }, { on := 5, ground := Ground.phase }, { on := 6, ground := Ground.phase }, { on := 7, ground := Ground.phase }, { on := 8, ground := Ground.phase }, { on := 9, ground := Ground.phase }, { on := 10, ground := Ground.phase }, { on := 11, ground := Ground.phase }, { on := 12, ground := Ground.phase }, { on := 13, ground := Ground.phase }], guard := none }) (v := (.bool r3)) rfl (by kernel_rfl) (by kernel_rfl) (by kernel_rfl) (fun _ _ _ h => h) (Or.inl ⟨by rfl, fun w' hS => by (try dsimp only at hS); go_simp⟩) (by obtain ⟨_, _, _, _, _, _, ho, _⟩ := FIN.out; exact ho.box) ?_
          simp only [Act.put, List.setIfInBounds_toArray, List.set_cons_zero, List.set_cons_succ]
          refine wpAnyH_done (by kernel_rfl) ?_ _
          refine NoPanic.normal ?_
          go_wp2_with fail
          go_meet
          exact FIN.out
      case rest =>
        clear HO P0 P1
        obtain ⟨zb, b3, R, r, rfl, rfl, ho, hzb, hne, hr, own⟩ := hcut
        have HO : Hid (OwA Y w wc C (kk + 2 + 2) zs b4 c4 l4) := ho
        have HZ : Hid (Row wc zb 2 (bx2 b3 R.n R.k)) := hzb
        have HR : Hid (r = true → R.n = 16 ∧ R.k = 16) := hr
        have HOO : Hid (BookOwn (fun x => w.heap.size < x ∧ x < wc.heap.size ∧ x ≠ zs) wc b3 R) := own
        clear ho hzb hr own
        clear wr
        go_upto_if 30 with fail
        go_cut [] from 15 to 60 (fun wx => Ow Y w wx C (kk + 2 + 2) zs)
        case first =>
          cases r
          · go_wp2_with fail
            go_meet
            exact got_no HO.out
          · obtain ⟨z0, z1⟩ := get2 HZ.out
            obtain ⟨t0, t1⟩ := get2 HO.out.box
            have f0 := HO.out.box.frozen 0
            have f1 := HO.out.box.frozen 1
            have FIN : Hid _ := got_yes hC hYw HO.out (HR.out rfl) HOO.out
            clear HZ HO HR HOO
            go_wp2_with fail
            go_meet
            exact FIN.out
        case rest =>
          have HOW0 : Hid (Ow Y w wc C (kk + 2 + 2) zs) := hcut
          clear hcut HO HZ HR HOO hne
          obtain ⟨b4, c4, l4, ho4⟩ := HOW0.out
          have HO : Hid (OwA Y w wc C (kk + 2 + 2) zs b4 c4 l4) := ho4
          clear ho4 HOW0
          have P0 : ∀ w', Row w' zs 2 (bx2 b4 16 16) → w'.cell? ⟨zs, 0, none⟩ = some (.slice b4.a1 16 b4.c1) := fun w' hh => (get2 hh).1
          have P1 : ∀ w', Row w' zs 2 (bx2 b4 16 16) → w'.cell? ⟨zs, 1, none⟩ = some (.slice b4.a2 16 b4.c2) := fun w' hh => (get2 hh).2
          go_upto_region 8 with fail
          go_cut [8, 9] from 15 to 60 (fun p q wx => Got Y w C (kk + 2 + 2 + 2 + 2 + 2) zs b4 c4 l4 p q wx)
          case first =>
            refine wp_region_noPanic ?_
            refine wp_region_held_drew (S := fun w' => Row w' zs 2 (bx2 b4 16 16)) (by kernel_rfl) (HO.out.box.blw (Blw.refl _).drew) (fun hB => ?_)
            replace HO : Hid (OwA Y w wc.drew C (kk + 2 + 2) zs b4 c4 l4) := HO.out.blw (Blw.refl _).drew
            clear hB
            generalize wc.drew = wd at *
            refine wpAnyH_take (i := 0) (oi := { dst := some 33, op := Op.load 25 (Operand.tmp 3), type := 25, pos := _, after := #[], guard := none }) (v := (.agg #[.slice b4.a1 16 b4.c1, .slice b4.a2 16 b4.c2])) rfl (by kernel_rfl) (by kernel_rfl) (by kernel_rfl) (fun _ _ _ h => h) (Or.inl ⟨by rfl, fun w' hS => by (try dsimp only at hS); go_simp⟩) (HO.out.box) ?_
            simp only [Act.put, List.setIfInBounds_toArray, List.set_cons_zero, List.set_cons_succ]
            refine wpAnyH_take (i := 1) (oi := { dst := some 34, op := Op.move (Operand.tmp 0), type := 63, pos := _, after := #[], guard := none }) (v := (.pointer (some ⟨C, 0, none⟩))) rfl (by kernel_rfl) (by kernel_rfl) (by kernel_rfl) (fun _ _ _ h => h) (Or.inl ⟨by rfl, fun w' hS => by (try dsimp only at hS); go_simp⟩) (HO.out.box) ?_
            simp only [Act.put, List.setIfInBounds_toArray, List.set_cons_zero, List.set_cons_succ]
            refine wpAnyH_take (i := 4) (oi := { dst := some 37, op := Op.move (Operand.tmp 0), type := 63, pos := _, after := #[], guard := none }) (v := (.pointer (some ⟨C, 0, none⟩))) rfl (by kernel_rfl) (by kernel_rfl) (by kernel_rfl) (fun _ _ _ h => h) (Or.inl ⟨by rfl, fun w' hS => by (try dsimp only at hS); go_simp⟩) (HO.out.box) ?_
            simp only [Act.put, List.setIfInBounds_toArray, List.set_cons_zero, List.set_cons_succ]
            refine wpAnyH_take (i := 6) (oi := { dst := some 39, op := Op.move (Operand.tmp 0), type := 63, pos := _, after := #[], guard := none }) (v := (.pointer (some ⟨C, 0, none⟩))) rfl (by kernel_rfl) (by kernel_rfl) (by kernel_rfl) (fun _ _ _ h => h) (Or.inl ⟨by rfl, fun w' hS => by (try dsimp only at hS); go_simp⟩) (HO.out.box) ?_
            simp only [Act.put, List.setIfInBounds_toArray, List.set_cons_zero, List.set_cons_succ]
            refine wpAnyH_ready (rs := [2, 13]) (by kernel_rfl) (by simp) ?_
            refine (AllReadyH.cons (o := { dst := some 35, op := Op.call { callee := Callee.value (Operand.func 54), args := #[Operand.tmp 34, Operand.const (Value.int IntKind.i64 3)], argTypes := #[63, 3] }, type := 3, pos := _, after := #[{ on := 1, ground := Ground.data }], guard := none }) rfl (fun K hK => ?_) (AllReadyH.cons (o := { dst := some 8, op := Op.alloc 25, type := 0, pos := _, after := #[], guard := none }) rfl (fun K hK => ?_) AllReadyH.nil))
            · go_simp
              refine (pick_any Y C _ 3 _ (by omega) (by omega) HO.out.cur).mono ?_
              rintro e wp0 ⟨x0, rfl, hx0, hc, hm⟩
              replace HO : Hid (OwA Y w wp0 C (kk + 2 + 2 + 2) zs b4 c4 l4) := HO.out.go hC hc hm
              refine hK.out _ _ HO.out.box (fun hB => ?_)
              clear hK K hB hc hm
              try simp only [Act.put, List.setIfInBounds_toArray, List.set_cons_zero, List.set_cons_succ]
              have ea := wrap1 x0 (by omega)
              refine wpAnyH_take (i := 3) (oi := { dst := some 36, op := Op.binOp BinOp.add 3 (Operand.const (Value.int IntKind.i64 1)) (Operand.tmp 35) 3, type := 3, pos := _, after := #[{ on := 2, ground := Ground.data }], guard := none }) (v := (.int .i64 (1 + (x0 : Int)))) rfl (by kernel_rfl) (by kernel_rfl) (by kernel_rfl) (fun _ _ _ h => h) (Or.inl ⟨by rfl, fun w' hS => by (try dsimp only at hS); go_simp⟩) (HO.out.box) ?_
              simp only [Act.put, List.setIfInBounds_toArray, List.set_cons_zero, List.set_cons_succ]
              clear ea
              refine wpAnyH_ready (rs := [5, 13]) (by kernel_rfl) (by simp) ?_
              refine (AllReadyH.cons (o := { dst := some 38, op := Op.call { callee := Callee.value (Operand.func 54), args := #[Operand.tmp 37, Operand.const (Value.int IntKind.i64 8)], argTypes := #[63, 3] }, type := 3, pos := _, after := #[{ on := 4, ground := Ground.data }, { on := 2, ground := Ground.chain }], guard := none }) rfl (fun K hK => ?_) (AllReadyH.cons (o := { dst := some 8, op := Op.alloc 25, type := 0, pos := _, after := #[], guard := none }) rfl (fun K hK => ?_) AllReadyH.nil))
              · go_simp
                refine (pick_any Y C _ 8 _ (by omega) (by omega) HO.out.cur).mono ?_
                rintro e wp1 ⟨x1, rfl, hx1, hc, hm⟩
                replace HO : Hid (OwA Y w wp1 C (kk + 2 + 2 + 2 + 2) zs b4 c4 l4) := HO.out.go hC hc hm
                refine hK.out _ _ HO.out.box (fun hB => ?_)
                clear hK K hB hc hm
                try simp only [Act.put, List.setIfInBounds_toArray, List.set_cons_zero, List.set_cons_succ]
                refine wpAnyH_ready (rs := [7, 13]) (by kernel_rfl) (by simp) ?_
                refine (AllReadyH.cons (o := { dst := some 40, op := Op.call { callee := Callee.value (Operand.func 54), args := #[Operand.tmp 39, Operand.const (Value.int IntKind.i64 4)], argTypes := #[63, 3] }, type := 3, pos := _, after := #[{ on := 6, ground := Ground.data }, { on := 5, ground := Ground.chain }], guard := none }) rfl (fun K hK => ?_) (AllReadyH.cons (o := { dst := some 8, op := Op.alloc 25, type := 0, pos := _, after := #[], guard := none }) rfl (fun K hK => ?_) AllReadyH.nil))
                · go_simp
                  refine (pick_any Y C _ 4 _ (by omega) (by omega) HO.out.cur).mono ?_
                  rintro e wp2 ⟨x2, rfl, hx2, hc, hm⟩
                  replace HO : Hid (OwA Y w wp2 C (kk + 2 + 2 + 2 + 2 + 2) zs b4 c4 l4) := HO.out.go hC hc hm
                  refine hK.out _ _ HO.out.box (fun hB => ?_)
                  clear hK K hB hc hm
                  try simp only [Act.put, List.setIfInBounds_toArray, List.set_cons_zero, List.set_cons_succ]
                  have ea := wrap1 x2 (by omega)
                  refine wpAnyH_take (i := 8) (oi := { dst := some 41, op := Op.binOp BinOp.add 3 (Operand.const (Value.int IntKind.i64 1)) (Operand.tmp 40) 3, type := 3, pos := _, after := #[{ on := 7, ground := Ground.data }], guard := none }) (v := (.int .i64 (1 + (x2 : Int)))) rfl (by kernel_rfl) (by kernel_rfl) (by kernel_rfl) (fun _ _ _ h => h) (Or.inl ⟨by rfl, fun w' hS => by (try dsimp only at hS); go_simp⟩) (HO.out.box) ?_
                  simp only [Act.put, List.setIfInBounds_toArray, List.set_cons_zero, List.set_cons_succ]
                  clear ea
                  refine wpAnyH_ready (rs := [9, 13]) (by kernel_rfl) (by simp) ?_
                  refine (AllReadyH.cons (o := { dst := some 42, op := Op.call { callee := Callee.value (Operand.func 29), args := #[Operand.tmp 33, Operand.tmp 36, Operand.tmp 38, Operand.tmp 41], argTypes := #[25, 3, 3, 3] }, type := 33, pos := _, after := #[{ on := 0, ground := Ground.data }, { on := 3, ground := Ground.data }, { on := 5, ground := Ground.data }, { on := 8, ground := Ground.data }, { on := 7, ground := Ground.chain }], guard := none }) rfl (fun K hK => ?_) (AllReadyH.cons (o := { dst := some 8, op := Op.alloc 25, type := 0, pos := _, after := #[], guard := none }) rfl (fun K hK => ?_) AllReadyH.nil))
                  · go_simp
                    refine (specLend_any b4 ⟨16, c4, 16, l4⟩ (1 + (x0 : Int)) (x1 : Int) (1 + (x2 : Int)) _ _ HO.out.own.at).mono ?_
                    rintro e wk ⟨b3, R, r3, rfl, ho3, hs3, own3, hbk⟩
                    have hsz := hbk.size
                    have hzl := HO.out.zl
                    have HRR : Hid (r3 = true → R.n = 16 ∧ R.k = 16) := fun e => (by rcases ho3 with ⟨_, e2, _⟩ | ⟨_, _, e2⟩ <;> first | (subst e2; exact ⟨rfl, rfl⟩) | (rw [e] at e2; cases e2))
                    have HOW : Hid (BookOwn _ wk b3 R) := own3
                    replace HO : Hid (OwA Y w wk C (kk + 2 + 2 + 2 + 2 + 2) zs b4 c4 l4) := HO.out.blw hbk
                    have HXN : Hid (∀ x, _ → w.heap.size < x ∧ x < wk.heap.size ∧ x ≠ zs) := fun x (hx : wp2.heap.size ≤ x ∧ x < wk.heap.size) => ⟨by omega, hx.2, by omega⟩
                    refine hK.out _ _ HO.out.box (fun hB => ?_)
                    clear hK K hB ho3 hs3 own3 hbk hsz hzl
                    try simp only [Act.put, List.setIfInBounds_toArray, List.set_cons_zero, List.set_cons_succ]
                    refine wpAnyH_take (i := 10) (oi := { dst := some 32, op := Op.move (Operand.tmp 42), type := 33, pos := _, after := #[{ on := 9, ground := Ground.data }], guard := none }) (v := (.tuple #[b3.val R, .bool r3])) rfl (by kernel_rfl) (by kernel_rfl) (by kernel_rfl) (fun _ _ _ h => h) (Or.inl ⟨by rfl, fun w' hS => by (try dsimp only at hS); go_simp⟩) (HO.out.box) ?_
                    simp only [Act.put, List.setIfInBounds_toArray, List.set_cons_zero, List.set_cons_succ]
                    refine wpAnyH_take (i := 11) (oi := { dst := some 43, op := Op.extract (Operand.tmp 32) 0, type := 25, pos := _, after := #[{ on := 10, ground := Ground.data }], guard := none }) (v := (.agg #[.slice b3.a1 R.n b3.c1, .slice b3.a2 R.k b3.c2])) rfl (by kernel_rfl) (by kernel_rfl) (by kernel_rfl) (fun _ _ _ h => h) (Or.inl ⟨by rfl, fun w' hS => by (try dsimp only at hS); go_simp⟩) (HO.out.box) ?_
                    simp only [Act.put, List.setIfInBounds_toArray, List.set_cons_zero, List.set_cons_succ]
                    refine wpAnyH_take (i := 12) (oi := { dst := some 44, op := Op.extract (Operand.tmp 32) 1, type := 4, pos := _, after := #[{ on := 10, ground := Ground.data }, { on := 14, ground := Ground.gcOnly Departure.lateStores }], guard := none }) (v := (.bool r3)) rfl (by kernel_rfl) (by kernel_rfl) (by kernel_rfl) (fun _ _ _ h => h) (Or.inl ⟨by rfl, fun w' hS => by (try dsimp only at hS); go_simp⟩) (HO.out.box) ?_
                    simp only [Act.put, List.setIfInBounds_toArray, List.set_cons_zero, List.set_cons_succ]
                    refine wpAnyH_ready (rs := [13]) (by kernel_rfl) (by simp) ?_
                    refine (AllReadyH.cons (o := { dst := some 8, op := Op.alloc 25, type := 0, pos := _, after := #[], guard := none }) rfl (fun K hK => ?_) AllReadyH.nil)
                    go_simp
                    have HZ : Hid (Row (wk.alloc (.cells #[.slice none 0 0, .slice none 0 0] 25)) wk.heap.size 2 (fun i => if i = 0 then .slice none 0 0 else .slice none 0 0)) := box2 wk _ _ 25
                    have hzl := HO.out.zl
                    have HZB : Hid (wk.heap.size ≠ zs ∧ w.heap.size < wk.heap.size) := ⟨by omega, by omega⟩
                    have HOB : Hid (BookOwn (fun x => w.heap.size < x ∧ x < (wk.alloc (.cells #[.slice none 0 0, .slice none 0 0] 25)).heap.size ∧ x ≠ zs ∧ x ≠ wk.heap.size) (wk.alloc (.cells #[.slice none 0 0, .slice none 0 0] 25)) b4 ⟨16, c4, 16, l4⟩) := (HO.out.own.blw ((Blw.refl _).alloc _)).mono (fun x hx => ⟨hx.1, by simp; omega, hx.2.2, by omega⟩)
                    replace HOW : Hid (BookOwn _ (wk.alloc (.cells #[.slice none 0 0, .slice none 0 0] 25)) b3 R) := HOW.out.blw ((Blw.refl _).alloc _)
                    have HXX : Hid (∀ x, _ → w.heap.size < x ∧ x < (wk.alloc (.cells #[.slice none 0 0, .slice none 0 0] 25)).heap.size ∧ x ≠ zs ∧ x ≠ wk.heap.size) := fun x hx => by have := HXN.out x hx; exact ⟨this.1, by simp; omega, this.2.2, by omega⟩
                    replace HO : Hid (OwA Y w (wk.alloc (.cells #[.slice none 0 0, .slice none 0 0] 25)) C (kk + 2 + 2 + 2 + 2 + 2) zs b4 c4 l4) := HO.out.blw ((Blw.refl _).alloc _)
                    refine hK.out _ _ HO.out.box (fun hB => ?_)
                    clear hK K hB hzl
                    try simp only [Act.put, List.setIfInBounds_toArray, List.set_cons_zero, List.set_cons_succ]
                    have HSA : Hid ((wk.alloc (.cells #[.slice none 0 0, .slice none 0 0] 25)).heap.size = wk.heap.size + 1) := by show _ = _; simp
                    generalize wk.alloc (.cells #[.slice none 0 0, .slice none 0 0] 25) = wA at *
                    refine wpAnyH_ready (rs := [14]) (by kernel_rfl) (by simp) ?_
                    refine (AllReadyH.cons (o := { dst := none, op := Op.store 25 (Operand.tmp 8) (Operand.tmp 43), type := 0, pos := _, after := #[{ on := 13, ground := Ground.data }, { on := 11, ground := Ground.data }, { on := 9, ground := Ground.chain }, { on := 0, ground := Ground.phase }, { on := 1, ground := Ground.phase }, { on := 2, ground := Ground.phase }, { on := 3, ground := Ground.phase }, { on := 4, ground := Ground.phase }, { on := 5, ground := Ground.phase }, { on := 6, ground := Ground.phase }, { on := 7, ground := Ground.phase }, { on := 8, ground := Ground.phase }, { on := 9, ground := Ground.phase }, { on := 10, ground := Ground.phase }, { on := 11, ground := Ground.phase }, { on := 12, ground := Ground.textOnly Departure.lateStores }, { on := 13, ground := Ground.phase }], guard := none }) rfl (fun K hK => ?_) AllReadyH.nil)
                    obtain ⟨z0, z1⟩ := get2 HZ.out
                    have fz0 := HZ.out.frozen 0
                    have fz1 := HZ.out.frozen 1
                    have FIN : Hid _ := got_fin (C := C) hC hYw HO.out HZ.out HZB.out HRR.out HOW.out (fun x hx => by have := HXX.out x hx; omega) (fun x _ h => h.2.2.2) (HOB.out)
                    go_simp
                    refine hK.out _ _ (by obtain ⟨_, _, _, _, _, _, ho, _⟩ := FIN.out; exact ho.box) (fun hB => ?_)
                    clear hK K hB z0 z1 fz0 fz1
                    try simp only [Act.put, List.setIfInBounds_toArray, List.set_cons_zero, List.set_cons_succ]
                    refine wpAnyH_take (i := 15) (oi := { dst := some 9, op := Op.assign (Operand.tmp 44), type := 4, pos := _, after := #[{ on := 12, ground := Ground.data }, { on := 14, ground := Ground.chain }, { on := 0, ground := Ground.phase }, { on := 1, ground := Ground.phase }, { on := 2, ground := Ground.phase }, { on := 3, ground := Ground.phase }, { on := 4, ground := Ground.phase }, { on := 5, ground := Ground.phase }, { on := 6, ground := Ground.phase }, { on := 7, ground := Ground.phase }, { on := 8, ground := Ground.phase }, { on := 9, ground := Ground.phase }, { on := 10, ground := Ground.phase }, { on := 11, ground := Ground.phase }, { on := 12, ground := Ground.phase }, { on := 13, ground := Ground.phase }, { on := 14, ground := Ground.phase }], guard := none }) (v := (.bool r3)) rfl (by kernel_rfl) (by kernel_rfl) (by kernel_rfl) (fun _ _ _ h => h) (Or.inl ⟨by rfl, fun w' hS => by (try dsimp only at hS); go_simp⟩) (by obtain ⟨_, _, _, _, _, _, ho, _⟩ := FIN.out; exact ho.box) ?_
                    simp only [Act.put, List.setIfInBounds_toArray, List.set_cons_zero, List.set_cons_succ]
                    refine wpAnyH_done (by kernel_rfl) ?_ _
                    refine NoPanic.normal ?_
                    go_wp2_with fail
                    go_meet
                    exact FIN.out
                  · go_simp
                    have HZ : Hid (Row (wp2.alloc (.cells #[.slice none 0 0, .slice none 0 0] 25)) wp2.heap.size 2 (fun i => if i = 0 then .slice none 0 0 else .slice none 0 0)) := box2 wp2 _ _ 25
                    have hzl := HO.out.zl
                    have HZB : Hid (wp2.heap.size ≠ zs ∧ w.heap.size < wp2.heap.size) := ⟨by omega, by omega⟩
                    have HOB : Hid (BookOwn (fun x => w.heap.size < x ∧ x < (wp2.alloc (.cells #[.slice none 0 0, .slice none 0 0] 25)).heap.size ∧ x ≠ zs ∧ x ≠ wp2.heap.size) (wp2.alloc (.cells #[.slice none 0 0, .slice none 0 0] 25)) b4 ⟨16, c4, 16, l4⟩) := (HO.out.own.blw ((Blw.refl _).alloc _)).mono (fun x hx => ⟨hx.1, by simp; omega, hx.2.2, by omega⟩)
                    replace HO : Hid (OwA Y w (wp2.alloc (.cells #[.slice none 0 0, .slice none 0 0] 25)) C (kk + 2 + 2 + 2 + 2 + 2) zs b4 c4 l4) := HO.out.blw ((Blw.refl _).alloc _)
                    refine hK.out _ _ HO.out.box (fun hB => ?_)
                    clear hK K hB hzl
                    try simp only [Act.put, List.setIfInBounds_toArray, List.set_cons_zero, List.set_cons_succ]
                    have HSA : Hid ((wp2.alloc (.cells #[.slice none 0 0, .slice none 0 0] 25)).heap.size = wp2.heap.size + 1) := by show _ = _; simp
                    generalize wp2.alloc (.cells #[.slice none 0 0, .slice none 0 0] 25) = wA at *
                    refine wpAnyH_ready (rs := [9]) (by kernel_rfl) (by simp) ?_
                    refine (AllReadyH.cons (o := { dst := some 42, op := Op.call { callee := Callee.value (Operand.func 29), args := #[Operand.tmp 33, Operand.tmp 36, Operand.tmp 38, Operand.tmp 41], argTypes := #[25, 3, 3, 3] }, type := 33, pos := _, after := #[{ on := 0, ground := Ground.data }, { on := 3, ground := Ground.data }, { on := 5, ground := Ground.data }, { on := 8, ground := Ground.data }, { on := 7, ground := Ground.chain }], guard := none }) rfl (fun K hK => ?_) AllReadyH.nil)
                    go_simp
                    refine (specLend_any b4 ⟨16, c4, 16, l4⟩ (1 + (x0 : Int)) (x1 : Int) (1 + (x2 : Int)) _ _ HO.out.own.at).mono ?_
                    rintro e wk ⟨b3, R, r3, rfl, ho3, hs3, own3, hbk⟩
                    have hsz := hbk.size
                    have hzl := HO.out.zl
                    have HRR : Hid (r3 = true → R.n = 16 ∧ R.k = 16) := fun e => (by rcases ho3 with ⟨_, e2, _⟩ | ⟨_, _, e2⟩ <;> first | (subst e2; exact ⟨rfl, rfl⟩) | (rw [e] at e2; cases e2))
                    have HZL := HZ.out.lt
                    replace HZ : Hid (Row wk _ 2 (fun i => if i = 0 then .slice none 0 0 else .slice none 0 0)) := HZ.out.blw hbk
                    replace HOB : Hid (BookOwn _ wk b4 ⟨16, c4, 16, l4⟩) := (HOB.out.blw hbk).mono (fun x hx => (show _ ∧ _ ∧ _ ∧ _ from ⟨hx.1, Nat.lt_of_lt_of_le hx.2.1 hsz, hx.2.2⟩))
                    have hsa := HSA.out
                    have HXX : Hid (∀ x, _ → w.heap.size < x ∧ x < wk.heap.size ∧ x ≠ zs ∧ x ≠ _) := fun x (hx : wA.heap.size ≤ x ∧ x < wk.heap.size) => ⟨by omega, hx.2, by omega, fun (e : x = wp2.heap.size) => by omega⟩
                    have HOW : Hid (BookOwn _ wk b3 R) := own3
                    replace HO : Hid (OwA Y w wk C (kk + 2 + 2 + 2 + 2 + 2) zs b4 c4 l4) := HO.out.blw hbk
                    refine hK.out _ _ HO.out.box (fun hB => ?_)
                    clear hK K hB ho3 hs3 own3 hbk hsz hzl HZL hsa
                    try simp only [Act.put, List.setIfInBounds_toArray, List.set_cons_zero, List.set_cons_succ]
                    refine wpAnyH_take (i := 10) (oi := { dst := some 32, op := Op.move (Operand.tmp 42), type := 33, pos := _, after := #[{ on := 9, ground := Ground.data }], guard := none }) (v := (.tuple #[b3.val R, .bool r3])) rfl (by kernel_rfl) (by kernel_rfl) (by kernel_rfl) (fun _ _ _ h => h) (Or.inl ⟨by rfl, fun w' hS => by (try dsimp only at hS); go_simp⟩) (HO.out.box) ?_
                    simp only [Act.put, List.setIfInBounds_toArray, List.set_cons_zero, List.set_cons_succ]
                    refine wpAnyH_take (i := 11) (oi := { dst := some 43, op := Op.extract (Operand.tmp 32) 0, type := 25, pos := _, after := #[{ on := 10, ground := Ground.data }], guard := none }) (v := (.agg #[.slice b3.a1 R.n b3.c1, .slice b3.a2 R.k b3.c2])) rfl (by kernel_rfl) (by kernel_rfl) (by kernel_rfl) (fun _ _ _ h => h) (Or.inl ⟨by rfl, fun w' hS => by (try dsimp only at hS); go_simp⟩) (HO.out.box) ?_
                    simp only [Act.put, List.setIfInBounds_toArray, List.set_cons_zero, List.set_cons_succ]
                    refine wpAnyH_take (i := 12) (oi := { dst := some 44, op := Op.extract (Operand.tmp 32) 1, type := 4, pos := _, after := #[{ on := 10, ground := Ground.data }, { on := 14, ground := Ground.gcOnly Departure.lateStores }], guard := none }) (v := (.bool r3)) rfl (by kernel_rfl) (by kernel_rfl) (by kernel_rfl) (fun _ _ _ h => h) (Or.inl ⟨by rfl, fun w' hS => by (try dsimp only at hS); go_simp⟩) (HO.out.box) ?_
                    simp only [Act.put, List.setIfInBounds_toArray, List.set_cons_zero, List.set_cons_succ]
                    refine wpAnyH_ready (rs := [14]) (by kernel_rfl) (by simp) ?_
                    refine (AllReadyH.cons (o := { dst := none, op := Op.store 25 (Operand.tmp 8) (Operand.tmp 43), type := 0, pos := _, after := #[{ on := 13, ground := Ground.data }, { on := 11, ground := Ground.data }, { on := 9, ground := Ground.chain }, { on := 0, ground := Ground.phase }, { on := 1, ground := Ground.phase }, { on := 2, ground := Ground.phase }, { on := 3, ground := Ground.phase }, { on := 4, ground := Ground.phase }, { on := 5, ground := Ground.phase }, { on := 6, ground := Ground.phase }, { on := 7, ground := Ground.phase }, { on := 8, ground := Ground.phase }, { on := 9, ground := Ground.phase }, { on := 10, ground := Ground.phase }, { on := 11, ground := Ground.phase }, { on := 12, ground := Ground.textOnly Departure.lateStores }, { on := 13, ground := Ground.phase }], guard := none }) rfl (fun K hK => ?_) AllReadyH.nil)
                    obtain ⟨z0, z1⟩ := get2 HZ.out
                    have fz0 := HZ.out.frozen 0
                    have fz1 := HZ.out.frozen 1
                    have FIN : Hid _ := got_fin (C := C) hC hYw HO.out HZ.out HZB.out HRR.out HOW.out (fun x hx => by have := HXX.out x hx; omega) (fun x _ h => h.2.2.2) (HOB.out)
                    go_simp
                    refine hK.out _ _ (by obtain ⟨_, _, _, _, _, _, ho, _⟩ := FIN.out; exact ho.box) (fun hB => ?_)
                    clear hK K hB z0 z1 fz0 fz1
                    try simp only [Act.put, List.setIfInBounds_toArray, List.set_cons_zero, List.set_cons_succ]
                    refine wpAnyH_take (i := 15) (oi := { dst := some 9, op := Op.assign (Operand.tmp 44), type := 4, pos := _, after := #[{ on := 12, ground := Ground.data }, { on := 14, ground := Ground.chain }, { on := 0, ground := Ground.phase }, { on := 1, ground := Ground.phase }, { on := 2, ground := Ground.phase }, { on := 3, ground := Ground.phase }, { on := 4, ground := Ground.phase }, { on := 5, ground := Ground.phase }, { on := 6, ground := Ground.phase }, { on := 7, ground := Ground.phase }, { on := 8, ground := Ground.phase }, { on := 9, ground := Ground.phase }, { on := 10, ground := Ground.phase }, { on := 11, ground := Ground.phase }, { on := 12, ground := Ground.phase }, { on := 13, ground := Ground.phase }, { on := 14, ground := Ground.phase }], guard := none }) (v := (.bool r3)) rfl (by kernel_rfl) (by kernel_rfl) (by kernel_rfl) (fun _ _ _ h => h) (Or.inl ⟨by rfl, fun w' hS => by (try dsimp only at hS); go_simp⟩) (by obtain ⟨_, _, _, _, _, _, ho, _⟩ := FIN.out; exact ho.box) ?_
                    simp only [Act.put, List.setIfInBounds_toArray, List.set_cons_zero, List.set_cons_succ]
                    refine wpAnyH_done (by kernel_rfl) ?_ _
                    refine NoPanic.normal ?_
                    go_wp2_with fail
                    go_meet
                    exact FIN.out
                · go_simp
                  have HZ : Hid (Row (wp1.alloc (.cells #[.slice none 0 0, .slice none 0 0] 25)) wp1.heap.size 2 (fun i => if i = 0 then .slice none 0 0 else .slice none 0 0)) := box2 wp1 _ _ 25
                  have hzl := HO.out.zl
                  have HZB : Hid (wp1.heap.size ≠ zs ∧ w.heap.size < wp1.heap.size) := ⟨by omega, by omega⟩
                  have HOB : Hid (BookOwn (fun x => w.heap.size < x ∧ x < (wp1.alloc (.cells #[.slice none 0 0, .slice none 0 0] 25)).heap.size ∧ x ≠ zs ∧ x ≠ wp1.heap.size) (wp1.alloc (.cells #[.slice none 0 0, .slice none 0 0] 25)) b4 ⟨16, c4, 16, l4⟩) := (HO.out.own.blw ((Blw.refl _).alloc _)).mono (fun x hx => ⟨hx.1, by simp; omega, hx.2.2, by omega⟩)
                  replace HO : Hid (OwA Y w (wp1.alloc (.cells #[.slice none 0 0, .slice none 0 0] 25)) C (kk + 2 + 2 + 2 + 2) zs b4 c4 l4) := HO.out.blw ((Blw.refl _).alloc _)
                  refine hK.out _ _ HO.out.box (fun hB => ?_)
                  clear hK K hB hzl
                  try simp only [Act.put, List.setIfInBounds_toArray, List.set_cons_zero, List.set_cons_succ]
                  have HSA : Hid ((wp1.alloc (.cells #[.slice none 0 0, .slice none 0 0] 25)).heap.size = wp1.heap.size + 1) := by show _ = _; simp
                  generalize wp1.alloc (.cells #[.slice none 0 0, .slice none 0 0] 25) = wA at *
                  refine wpAnyH_ready (rs := [7]) (by kernel_rfl) (by simp) ?_
                  refine (AllReadyH.cons (o := { dst := some 40, op := Op.call { callee := Callee.value (Operand.func 54), args := #[Operand.tmp 39, Operand.const (Value.int IntKind.i64 4)], argTypes := #[63, 3] }, type := 3, pos := _, after := #[{ on := 6, ground := Ground.data }, { on := 5, ground := Ground.chain }], guard := none }) rfl (fun K hK => ?_) AllReadyH.nil)
                  go_simp
                  refine (pick_any Y C _ 4 _ (by omega) (by omega) HO.out.cur).mono ?_
                  rintro e wp2 ⟨x2, rfl, hx2, hc, hm⟩
                  replace HZ : Hid (Row wp2 _ 2 (fun i => if i = 0 then .slice none 0 0 else .slice none 0 0)) := HZ.out.mod hm (by have := HZB.out; omega)
                  replace HOB : Hid (BookOwn _ wp2 b4 ⟨16, c4, 16, l4⟩) := (HOB.out.mod hm (fun x hx e => by omega)).mono (fun x hx => (show _ ∧ _ ∧ _ ∧ _ from ⟨hx.1, Nat.lt_of_lt_of_le hx.2.1 hm.size, hx.2.2⟩))
                  replace HO : Hid (OwA Y w wp2 C (kk + 2 + 2 + 2 + 2 + 2) zs b4 c4 l4) := HO.out.go hC hc hm
                  refine hK.out _ _ HO.out.box (fun hB => ?_)
                  clear hK K hB hc hm
                  try simp only [Act.put, List.setIfInBounds_toArray, List.set_cons_zero, List.set_cons_succ]
                  have ea := wrap1 x2 (by omega)
                  refine wpAnyH_take (i := 8) (oi := { dst := some 41, op := Op.binOp BinOp.add 3 (Operand.const (Value.int IntKind.i64 1)) (Operand.tmp 40) 3, type := 3, pos := _, after := #[{ on := 7, ground := Ground.data }], guard := none }) (v := (.int .i64 (1 + (x2 : Int)))) rfl (by kernel_rfl) (by kernel_rfl) (by kernel_rfl) (fun _ _ _ h => h) (Or.inl ⟨by rfl, fun w' hS => by (try dsimp only at hS); go_simp⟩) (HO.out.box) ?_
                  simp only [Act.put, List.setIfInBounds_toArray, List.set_cons_zero, List.set_cons_succ]
                  clear ea
                  refine wpAnyH_ready (rs := [9]) (by kernel_rfl) (by simp) ?_
                  refine (AllReadyH.cons (o := { dst := some 42, op := Op.call { callee := Callee.value (Operand.func 29), args := #[Operand.tmp 33, Operand.tmp 36, Operand.tmp 38, Operand.tmp 41], argTypes := #[25, 3, 3, 3] }, type := 33, pos := _, after := #[{ on := 0, ground := Ground.data }, { on := 3, ground := Ground.data }, { on := 5, ground := Ground.data }, { on := 8, ground := Ground.data }, { on := 7, ground := Ground.chain }], guard := none }) rfl (fun K hK => ?_) AllReadyH.nil)
                  go_simp
                  refine (specLend_any b4 ⟨16, c4, 16, l4⟩ (1 + (x0 : Int)) (x1 : Int) (1 + (x2 : Int)) _ _ HO.out.own.at).mono ?_
                  rintro e wk ⟨b3, R, r3, rfl, ho3, hs3, own3, hbk⟩
                  have hsz := hbk.size
                  have hzl := HO.out.zl
                  have HRR : Hid (r3 = true → R.n = 16 ∧ R.k = 16) := fun e => (by rcases ho3 with ⟨_, e2, _⟩ | ⟨_, _, e2⟩ <;> first | (subst e2; exact ⟨rfl, rfl⟩) | (rw [e] at e2; cases e2))
                  have HZL := HZ.out.lt
                  replace HZ : Hid (Row wk _ 2 (fun i => if i = 0 then .slice none 0 0 else .slice none 0 0)) := HZ.out.blw hbk
                  replace HOB : Hid (BookOwn _ wk b4 ⟨16, c4, 16, l4⟩) := (HOB.out.blw hbk).mono (fun x hx => (show _ ∧ _ ∧ _ ∧ _ from ⟨hx.1, Nat.lt_of_lt_of_le hx.2.1 hsz, hx.2.2⟩))
                  have hsa := HSA.out
                  have HXX : Hid (∀ x, _ → w.heap.size < x ∧ x < wk.heap.size ∧ x ≠ zs ∧ x ≠ _) := fun x (hx : wp2.heap.size ≤ x ∧ x < wk.heap.size) => ⟨by omega, hx.2, by omega, fun (e : x = wp1.heap.size) => by omega⟩
                  have HOW : Hid (BookOwn _ wk b3 R) := own3
                  replace HO : Hid (OwA Y w wk C (kk + 2 + 2 + 2 + 2 + 2) zs b4 c4 l4) := HO.out.blw hbk
                  refine hK.out _ _ HO.out.box (fun hB => ?_)
                  clear hK K hB ho3 hs3 own3 hbk hsz hzl HZL hsa
                  try simp only [Act.put, List.setIfInBounds_toArray, List.set_cons_zero, List.set_cons_succ]
                  refine wpAnyH_take (i := 10) (oi := { dst := some 32, op := Op.move (Operand.tmp 42), type := 33, pos := _, after := #[{ on := 9, ground := Ground.data }], guard := none }) (v := (.tuple #[b3.val R, .bool r3])) rfl (by kernel_rfl) (by kernel_rfl) (by kernel_rfl) (fun _ _ _ h => h) (Or.inl ⟨by rfl, fun w' hS => by (try dsimp only at hS); go_simp⟩) (HO.out.box) ?_
                  simp only [Act.put, List.setIfInBounds_toArray, List.set_cons_zero, List.set_cons_succ]
                  refine wpAnyH_take (i := 11) (oi := { dst := some 43, op := Op.extract (Operand.tmp 32) 0, type := 25, pos := _, after := #[{ on := 10, ground := Ground.data }], guard := none }) (v := (.agg #[.slice b3.a1 R.n b3.c1, .slice b3.a2 R.k b3.c2])) rfl (by kernel_rfl) (by kernel_rfl) (by kernel_rfl) (fun _ _ _ h => h) (Or.inl ⟨by rfl, fun w' hS => by (try dsimp only at hS); go_simp⟩) (HO.out.box) ?_
                  simp only [Act.put, List.setIfInBounds_toArray, List.set_cons_zero, List.set_cons_succ]
                  refine wpAnyH_take (i := 12) (oi := { dst := some 44, op := Op.extract (Operand.tmp 32) 1, type := 4, pos := _, after := #[{ on := 10, ground := Ground.data }, { on := 14, ground := Ground.gcOnly Departure.lateStores }], guard := none }) (v := (.bool r3)) rfl (by kernel_rfl) (by kernel_rfl) (by kernel_rfl) (fun _ _ _ h => h) (Or.inl ⟨by rfl, fun w' hS => by (try dsimp only at hS); go_simp⟩) (HO.out.box) ?_
                  simp only [Act.put, List.setIfInBounds_toArray, List.set_cons_zero, List.set_cons_succ]
                  refine wpAnyH_ready (rs := [14]) (by kernel_rfl) (by simp) ?_
                  refine (AllReadyH.cons (o := { dst := none, op := Op.store 25 (Operand.tmp 8) (Operand.tmp 43), type := 0, pos := _, after := #[{ on := 13, ground := Ground.data }, { on := 11, ground := Ground.data }, { on := 9, ground := Ground.chain }, { on := 0, ground := Ground.phase }, { on := 1, ground := Ground.phase }, { on := 2, ground := Ground.phase }, { on := 3, ground := Ground.phase }, { on := 4, ground := Ground.phase }, { on := 5, ground := Ground.phase }, { on := 6, ground := Ground.phase }, { on := 7, ground := Ground.phase }, { on := 8, ground := Ground.phase }, { on := 9, ground := Ground.phase }, { on := 10, ground := Ground.phase }, { on := 11, ground := Ground.phase }, { on := 12, ground := Ground.textOnly Departure.lateStores }, { on := 13, ground := Ground.phase }], guard := none }) rfl (fun K hK => ?_) AllReadyH.nil)
                  obtain ⟨z0, z1⟩ := get2 HZ.out
                  have fz0 := HZ.out.frozen 0
                  have fz1 := HZ.out.frozen 1
                  have FIN : Hid _ := got_fin (C := C) hC hYw HO.out HZ.out HZB.out HRR.out HOW.out (fun x hx => by have := HXX.out x hx; omega) (fun x _ h => h.2.2.2) (HOB.out)
                  go_simp
                  refine hK.out _ _ (by obtain ⟨_, _, _, _, _, _, ho, _⟩ := FIN.out; exact ho.box) (fun hB => ?_)
                  clear hK K hB z0 z1 fz0 fz1
                  try simp only [Act.put, List.setIfInBounds_toArray, List.set_cons_zero, List.set_cons_succ]
                  refine wpAnyH_take (i := 15) (oi := { dst := some 9, op := Op.assign (Operand.tmp 44), type := 4, pos := _, after := #[{ on := 12, ground := Ground.data }, { on := 14, ground := Ground.chain }, { on := 0, ground := Ground.phase }, { on := 1, ground := Ground.phase }, { on := 2, ground := Ground.phase }, { on := 3, ground := Ground.phase }, { on := 4, ground := Ground.phase }, { on := 5, ground := Ground.phase }, { on := 6, ground := Ground.phase }, { on := 7, ground := Ground.phase }, { on := 8, ground := Ground.phase }, { on := 9, ground := Ground.phase }, { on := 10, ground := Ground.phase }, { on := 11, ground := Ground.phase }, { on := 12, ground := Ground.phase }, { on := 13, ground := Ground.phase }, { on := 14, ground := Ground.phase }], guard := none }) (v := (.bool r3)) rfl (by kernel_rfl) (by kernel_rfl) (by kernel_rfl) (fun _ _ _ h => h) (Or.inl ⟨by rfl, fun w' hS => by (try dsimp only at hS); go_simp⟩) (by obtain ⟨_, _, _, _, _, _, ho, _⟩ := FIN.out; exact ho.box) ?_
                  simp only [Act.put, List.setIfInBounds_toArray, List.set_cons_zero, List.set_cons_succ]
                  refine wpAnyH_done (by kernel_rfl) ?_ _
                  refine NoPanic.normal ?_
                  go_wp2_with fail
                  go_meet
                  exact FIN.out
              · go_simp
                have HZ : Hid (Row (wp0.alloc (.cells #[.slice none 0 0, .slice none 0 0] 25)) wp0.heap.size 2 (fun i => if i = 0 then .slice none 0 0 else .slice none 0 0)) := box2 wp0 _ _ 25
                have hzl := HO.out.zl
                have HZB : Hid (wp0.heap.size ≠ zs ∧ w.heap.size < wp0.heap.size) := ⟨by omega, by omega⟩
                have HOB : Hid (BookOwn (fun x => w.heap.size < x ∧ x < (wp0.alloc (.cells #[.slice none 0 0, .slice none 0 0] 25)).heap.size ∧ x ≠ zs ∧ x ≠ wp0.heap.size) (wp0.alloc (.cells #[.slice none 0 0, .slice none 0 0] 25)) b4 ⟨16, c4, 16, l4⟩) := (HO.out.own.blw ((Blw.refl _).alloc _)).mono (fun x hx => ⟨hx.1, by simp; omega, hx.2.2, by omega⟩)
                replace HO : Hid (OwA Y w (wp0.alloc (.cells #[.slice none 0 0, .slice none 0 0] 25)) C (kk + 2 + 2 + 2) zs b4 c4 l4) := HO.out.blw ((Blw.refl _).alloc _)
                refine hK.out _ _ HO.out.box (fun hB => ?_)
                clear hK K hB hzl
                try simp only [Act.put, List.setIfInBounds_toArray, List.set_cons_zero, List.set_cons_succ]
                have HSA : Hid ((wp0.alloc (.cells #[.slice none 0 0, .slice none 0 0] 25)).heap.size = wp0.heap.size + 1) := by show _ = _; simp
                generalize wp0.alloc (.cells #[.slice none 0 0, .slice none 0 0] 25) = wA at *
                refine wpAnyH_ready (rs := [5]) (by kernel_rfl) (by simp) ?_
                refine (AllReadyH.cons (o := { dst := some 38, op := Op.call { callee := Callee.value (Operand.func 54), args := #[Operand.tmp 37, Operand.const (Value.int IntKind.i64 8)], argTypes := #[63, 3] }, type := 3, pos := _, after := #[{ on := 4, ground := Ground.data }, { on := 2, ground := Ground.chain }], guard := none }) rfl (fun K hK => ?_) AllReadyH.nil)
                go_simp
                refine (pick_any Y C _ 8 _ (by omega) (by omega) HO.out.cur).mono ?_
                rintro e wp1 ⟨x1, rfl, hx1, hc, hm⟩
                replace HZ : Hid (Row wp1 _ 2 (fun i => if i = 0 then .slice none 0 0 else .slice none 0 0)) := HZ.out.mod hm (by have := HZB.out; omega)
                replace HOB : Hid (BookOwn _ wp1 b4 ⟨16, c4, 16, l4⟩) := (HOB.out.mod hm (fun x hx e => by omega)).mono (fun x hx => (show _ ∧ _ ∧ _ ∧ _ from ⟨hx.1, Nat.lt_of_lt_of_le hx.2.1 hm.size, hx.2.2⟩))
                replace HO : Hid (OwA Y w wp1 C (kk + 2 + 2 + 2 + 2) zs b4 c4 l4) := HO.out.go hC hc hm
                refine hK.out _ _ HO.out.box (fun hB => ?_)
                clear hK K hB hc hm
                try simp only [Act.put, List.setIfInBounds_toArray, List.set_cons_zero, List.set_cons_succ]
                refine wpAnyH_ready (rs := [7]) (by kernel_rfl) (by simp) ?_
                refine (AllReadyH.cons (o := { dst := some 40, op := Op.call { callee := Callee.value (Operand.func 54), args := #[Operand.tmp 39, Operand.const (Value.int IntKind.i64 4)], argTypes := #[63, 3] }, type := 3, pos := _, after := #[{ on := 6, ground := Ground.data }, { on := 5, ground := Ground.chain }], guard := none }) rfl (fun K hK => ?_) AllReadyH.nil)
                go_simp
                refine (pick_any Y C _ 4 _ (by omega) (by omega) HO.out.cur).mono ?_
                rintro e wp2 ⟨x2, rfl, hx2, hc, hm⟩
                replace HZ : Hid (Row wp2 _ 2 (fun i => if i = 0 then .slice none 0 0 else .slice none 0 0)) := HZ.out.mod hm (by have := HZB.out; omega)
                replace HOB : Hid (BookOwn _ wp2 b4 ⟨16, c4, 16, l4⟩) := (HOB.out.mod hm (fun x hx e => by omega)).mono (fun x hx => (show _ ∧ _ ∧ _ ∧ _ from ⟨hx.1, Nat.lt_of_lt_of_le hx.2.1 hm.size, hx.2.2⟩))
                replace HO : Hid (OwA Y w wp2 C (kk + 2 + 2 + 2 + 2 + 2) zs b4 c4 l4) := HO.out.go hC hc hm
                refine hK.out _ _ HO.out.box (fun hB => ?_)
                clear hK K hB hc hm
                try simp only [Act.put, List.setIfInBounds_toArray, List.set_cons_zero, List.set_cons_succ]
                have ea := wrap1 x2 (by omega)
                refine wpAnyH_take (i := 8) (oi := { dst := some 41, op := Op.binOp BinOp.add 3 (Operand.const (Value.int IntKind.i64 1)) (Operand.tmp 40) 3, type := 3, pos := _, after := #[{ on := 7, ground := Ground.data }], guard := none }) (v := (.int .i64 (1 + (x2 : Int)))) rfl (by kernel_rfl) (by kernel_rfl) (by kernel_rfl) (fun _ _ _ h => h) (Or.inl ⟨by rfl, fun w' hS => by (try dsimp only at hS); go_simp⟩) (HO.out.box) ?_
                simp only [Act.put, List.setIfInBounds_toArray, List.set_cons_zero, List.set_cons_succ]
                clear ea
                refine wpAnyH_ready (rs := [9]) (by kernel_rfl) (by simp) ?_
                refine (AllReadyH.cons (o := { dst := some 42, op := Op.call { callee := Callee.value (Operand.func 29), args := #[Operand.tmp 33, Operand.tmp 36, Operand.tmp 38, Operand.tmp 41], argTypes := #[25, 3, 3, 3] }, type := 33, pos := _, after := #[{ on := 0, ground := Ground.data }, { on := 3, ground := Ground.data }, { on := 5, ground := Ground.data }, { on := 8, ground := Ground.data }, { on := 7, ground := Ground.chain }], guard := none }) rfl (fun K hK => ?_) AllReadyH.nil)
                go_simp
                refine (specLend_any b4 ⟨16, c4, 16, l4⟩ (1 + (x0 : Int)) (x1 : Int) (1 + (x2 : Int)) _ _ HO.out.own.at).mono ?_
                rintro e wk ⟨b3, R, r3, rfl, ho3, hs3, own3, hbk⟩
                have hsz := hbk.size
                have hzl := HO.out.zl
                have HRR : Hid (r3 = true → R.n = 16 ∧ R.k = 16) := fun e => (by rcases ho3 with ⟨_, e2, _⟩ | ⟨_, _, e2⟩ <;> first | (subst e2; exact ⟨rfl, rfl⟩) | (rw [e] at e2; cases e2))
                have HZL := HZ.out.lt
                replace HZ : Hid (Row wk _ 2 (fun i => if i = 0 then .slice none 0 0 else .slice none 0 0)) := HZ.out.blw hbk
                replace HOB : Hid (BookOwn _ wk b4 ⟨16, c4, 16, l4⟩) := (HOB.out.blw hbk).mono (fun x hx => (show _ ∧ _ ∧ _ ∧ _ from ⟨hx.1, Nat.lt_of_lt_of_le hx.2.1 hsz, hx.2.2⟩))
                have hsa := HSA.out
                have HXX : Hid (∀ x, _ → w.heap.size < x ∧ x < wk.heap.size ∧ x ≠ zs ∧ x ≠ _) := fun x (hx : wp2.heap.size ≤ x ∧ x < wk.heap.size) => ⟨by omega, hx.2, by omega, fun (e : x = wp0.heap.size) => by omega⟩
                have HOW : Hid (BookOwn _ wk b3 R) := own3
                replace HO : Hid (OwA Y w wk C (kk + 2 + 2 + 2 + 2 + 2) zs b4 c4 l4) := HO.out.blw hbk
                refine hK.out _ _ HO.out.box (fun hB => ?_)
                clear hK K hB ho3 hs3 own3 hbk hsz hzl HZL hsa
                try simp only [Act.put, List.setIfInBounds_toArray, List.set_cons_zero, List.set_cons_succ]
                refine wpAnyH_take (i := 10) (oi := { dst := some 32, op := Op.move (Operand.tmp 42), type := 33, pos := _, after := #[{ on := 9, ground := Ground.data }], guard := none }) (v := (.tuple #[b3.val R, .bool r3])) rfl (by kernel_rfl) (by kernel_rfl) (by kernel_rfl) (fun _ _ _ h => h) (Or.inl ⟨by rfl, fun w' hS => by (try dsimp only at hS); go_simp⟩) (HO.out.box) ?_
                simp only [Act.put, List.setIfInBounds_toArray, List.set_cons_zero, List.set_cons_succ]
                refine wpAnyH_take (i := 11) (oi := { dst := some 43, op := Op.extract (Operand.tmp 32) 0, type := 25, pos := _, after := #[{ on := 10, ground := Ground.data }], guard := none }) (v := (.agg #[.slice b3.a1 R.n b3.c1, .slice b3.a2 R.k b3.c2])) rfl (by kernel_rfl) (by kernel_rfl) (by kernel_rfl) (fun _ _ _ h => h) (Or.inl ⟨by rfl, fun w' hS => by (try dsimp only at hS); go_simp⟩) (HO.out.box) ?_
                simp only [Act.put, List.setIfInBounds_toArray, List.set_cons_zero, List.set_cons_succ]
                refine wpAnyH_take (i := 12) (oi := { dst := some 44, op := Op.extract (Operand.tmp 32) 1, type := 4, pos := _, after := #[{ on := 10, ground := Ground.data }, { on := 14, ground := Ground.gcOnly Departure.lateStores }], guard := none }) (v := (.bool r3)) rfl (by kernel_rfl) (by kernel_rfl) (by kernel_rfl) (fun _ _ _ h => h) (Or.inl ⟨by rfl, fun w' hS => by (try dsimp only at hS); go_simp⟩) (HO.out.box) ?_
                simp only [Act.put, List.setIfInBounds_toArray, List.set_cons_zero, List.set_cons_succ]
                refine wpAnyH_ready (rs := [14]) (by kernel_rfl) (by simp) ?_
                refine (AllReadyH.cons (o := { dst := none, op := Op.store 25 (Operand.tmp 8) (Operand.tmp 43), type := 0, pos := _, after := #[{ on := 13, ground := Ground.data }, { on := 11, ground := Ground.data }, { on := 9, ground := Ground.chain }, { on := 0, ground := Ground.phase }, { on := 1, ground := Ground.phase }, { on := 2, ground := Ground.phase }, { on := 3, ground := Ground.phase }, { on := 4, ground := Ground.phase }, { on := 5, ground := Ground.phase }, { on := 6, ground := Ground.phase }, { on := 7, ground := Ground.phase }, { on := 8, ground := Ground.phase }, { on := 9, ground := Ground.phase }, { on := 10, ground := Ground.phase }, { on := 11, ground := Ground.phase }, { on := 12, ground := Ground.textOnly Departure.lateStores }, { on := 13, ground := Ground.phase }], guard := none }) rfl (fun K hK => ?_) AllReadyH.nil)
                obtain ⟨z0, z1⟩ := get2 HZ.out
                have fz0 := HZ.out.frozen 0
                have fz1 := HZ.out.frozen 1
                have FIN : Hid _ := got_fin (C := C) hC hYw HO.out HZ.out HZB.out HRR.out HOW.out (fun x hx => by have := HXX.out x hx; omega) (fun x _ h => h.2.2.2) (HOB.out)
                go_simp
                refine hK.out _ _ (by obtain ⟨_, _, _, _, _, _, ho, _⟩ := FIN.out; exact ho.box) (fun hB => ?_)
                clear hK K hB z0 z1 fz0 fz1
                try simp only [Act.put, List.setIfInBounds_toArray, List.set_cons_zero, List.set_cons_succ]
                refine wpAnyH_take (i := 15) (oi := { dst := some 9, op := Op.assign (Operand.tmp 44), type := 4, pos := _, after := #[{ on := 12, ground := Ground.data }, { on := 14, ground := Ground.chain }, { on := 0, ground := Ground.phase }, { on := 1, ground := Ground.phase }, { on := 2, ground := Ground.phase }, { on := 3, ground := Ground.phase }, { on := 4, ground := Ground.phase }, { on := 5, ground := Ground.phase }, { on := 6, ground := Ground.phase }, { on := 7, ground := Ground.phase }, { on := 8, ground := Ground.phase }, { on := 9, ground := Ground.phase }, { on := 10, ground := Ground.phase }, { on := 11, ground := Ground.phase }, { on := 12, ground := Ground.phase }, { on := 13, ground := Ground.phase }, { on := 14, ground := Ground.phase }], guard := none }) (v := (.bool r3)) rfl (by kernel_rfl) (by kernel_rfl) (by kernel_rfl) (fun _ _ _ h => h) (Or.inl ⟨by rfl, fun w' hS => by (try dsimp only at hS); go_simp⟩) (by obtain ⟨_, _, _, _, _, _, ho, _⟩ := FIN.out; exact ho.box) ?_
                simp only [Act.put, List.setIfInBounds_toArray, List.set_cons_zero, List.set_cons_succ]
                refine wpAnyH_done (by kernel_rfl) ?_ _
                refine NoPanic.normal ?_
                go_wp2_with fail
                go_meet
                exact FIN.out
            · go_simp
              have HZ : Hid (Row (wd.alloc (.cells #[.slice none 0 0, .slice none 0 0] 25)) wd.heap.size 2 (fun i => if i = 0 then .slice none 0 0 else .slice none 0 0)) := box2 wd _ _ 25
              have hzl := HO.out.zl
              have HZB : Hid (wd.heap.size ≠ zs ∧ w.heap.size < wd.heap.size) := ⟨by omega, by omega⟩
              have HOB : Hid (BookOwn (fun x => w.heap.size < x ∧ x < (wd.alloc (.cells #[.slice none 0 0, .slice none 0 0] 25)).heap.size ∧ x ≠ zs ∧ x ≠ wd.heap.size) (wd.alloc (.cells #[.slice none 0 0, .slice none 0 0] 25)) b4 ⟨16, c4, 16, l4⟩) := (HO.out.own.blw ((Blw.refl _).alloc _)).mono (fun x hx => ⟨hx.1, by simp; omega, hx.2.2, by omega⟩)
              replace HO : Hid (OwA Y w (wd.alloc (.cells #[.slice none 0 0, .slice none 0 0] 25)) C (kk + 2 + 2) zs b4 c4 l4) := HO.out.blw ((Blw.refl _).alloc _)
              refine hK.out _ _ HO.out.box (fun hB => ?_)
              clear hK K hB hzl
              try simp only [Act.put, List.setIfInBounds_toArray, List.set_cons_zero, List.set_cons_succ]
              have HSA : Hid ((wd.alloc (.cells #[.slice none 0 0, .slice none 0 0] 25)).heap.size = wd.heap.size + 1) := by show _ = _; simp
              generalize wd.alloc (.cells #[.slice none 0 0, .slice none 0 0] 25) = wA at *
              refine wpAnyH_ready (rs := [2]) (by kernel_rfl) (by simp) ?_
              refine (AllReadyH.cons (o := { dst := some 35, op := Op.call { callee := Callee.value (Operand.func 54), args := #[Operand.tmp 34, Operand.const (Value.int IntKind.i64 3)], argTypes := #[63, 3] }, type := 3, pos := _, after := #[{ on := 1, ground := Ground.data }], guard := none }) rfl (fun K hK => ?_) AllReadyH.nil)
              go_simp
              refine (pick_any Y C _ 3 _ (by omega) (by omega) HO.out.cur).mono ?_
              rintro e wp0 ⟨x0, rfl, hx0, hc, hm⟩
              replace HZ : Hid (Row wp0 _ 2 (fun i => if i = 0 then .slice none 0 0 else .slice none 0 0)) := HZ.out.mod hm (by have := HZB.out; omega)
              replace HOB : Hid (BookOwn _ wp0 b4 ⟨16, c4, 16, l4⟩) := (HOB.out.mod hm (fun x hx e => by omega)).mono (fun x hx => (show _ ∧ _ ∧ _ ∧ _ from ⟨hx.1, Nat.lt_of_lt_of_le hx.2.1 hm.size, hx.2.2⟩))
              replace HO : Hid (OwA Y w wp0 C (kk + 2 + 2 + 2) zs b4 c4 l4) := HO.out.go hC hc hm
              refine hK.out _ _ HO.out.box (fun hB => ?_)
              clear hK K hB hc hm
              try simp only [Act.put, List.setIfInBounds_toArray, List.set_cons_zero, List.set_cons_succ]
              have ea := wrap1 x0 (by omega)
              refine wpAnyH_take (i := 3) (oi := { dst := some 36, op := Op.binOp BinOp.add 3 (Operand.const (Value.int IntKind.i64 1)) (Operand.tmp 35) 3, type := 3, pos := _, after := #[{ on := 2, ground := Ground.data }], guard := none }) (v := (.int .i64 (1 + (x0 : Int)))) rfl (by kernel_rfl) (by kernel_rfl) (by kernel_rfl) (fun _ _ _ h => h) (Or.inl ⟨by rfl, fun w' hS => by (try dsimp only at hS); go_simp⟩) (HO.out.box) ?_
              simp only [Act.put, List.setIfInBounds_toArray, List.set_cons_zero, List.set_cons_succ]
              clear ea
              refine wpAnyH_ready (rs := [5]) (by kernel_rfl) (by simp) ?_
              refine (AllReadyH.cons (o := { dst := some 38, op := Op.call { callee := Callee.value (Operand.func 54), args := #[Operand.tmp 37, Operand.const (Value.int IntKind.i64 8)], argTypes := #[63, 3] }, type := 3, pos := _, after := #[{ on := 4, ground := Ground.data }, { on := 2, ground := Ground.chain }], guard := none }) rfl (fun K hK => ?_) AllReadyH.nil)
              go_simp
              refine (pick_any Y C _ 8 _ (by omega) (by omega) HO.out.cur).mono ?_
              rintro e wp1 ⟨x1, rfl, hx1, hc, hm⟩
              replace HZ : Hid (Row wp1 _ 2 (fun i => if i = 0 then .slice none 0 0 else .slice none 0 0)) := HZ.out.mod hm (by have := HZB.out; omega)
              replace HOB : Hid (BookOwn _ wp1 b4 ⟨16, c4, 16, l4⟩) := (HOB.out.mod hm (fun x hx e => by omega)).mono (fun x hx => (show _ ∧ _ ∧ _ ∧ _ from ⟨hx.1, Nat.lt_of_lt_of_le hx.2.1 hm.size, hx.2.2⟩))
              replace HO : Hid (OwA Y w wp1 C (kk + 2 + 2 + 2 + 2) zs b4 c4 l4) := HO.out.go hC hc hm
              refine hK.out _ _ HO.out.box (fun hB => ?_)
              clear hK K hB hc hm
              try simp only [Act.put, List.setIfInBounds_toArray, List.set_cons_zero, List.set_cons_succ]
              refine wpAnyH_ready (rs := [7]) (by kernel_rfl) (by simp) ?_
              refine (AllReadyH.cons (o := { dst := some 40, op := Op.call { callee := Callee.value (Operand.func 54), args := #[Operand.tmp 39, Operand.const (Value.int IntKind.i64 4)], argTypes := #[63, 3] }, type := 3, pos := _, after := #[{ on := 6, ground := Ground.data }, { on := 5, ground := Ground.chain }], guard := none }) rfl (fun K hK => ?_) AllReadyH.nil)
              go_simp
              refine (pick_any Y C _ 4 _ (by omega) (by omega) HO.out.cur).mono ?_
              rintro e wp2 ⟨x2, rfl, hx2, hc, hm⟩
              replace HZ : Hid (Row wp2 _ 2 (fun i => if i = 0 then .slice none 0 0 else .slice none 0 0)) := HZ.out.mod hm (by have := HZB.out; omega)
              replace HOB : Hid (BookOwn _ wp2 b4 ⟨16, c4, 16, l4⟩) := (HOB.out.mod hm (fun x hx e => by omega)).mono (fun x hx => (show _ ∧ _ ∧ _ ∧ _ from ⟨hx.1, Nat.lt_of_lt_of_le hx.2.1 hm.size, hx.2.2⟩))
              replace HO : Hid (OwA Y w wp2 C (kk + 2 + 2 + 2 + 2 + 2) zs b4 c4 l4) := HO.out.go hC hc hm
              refine hK.out _ _ HO.out.box (fun hB => ?_)
              clear hK K hB hc hm
              try simp only [Act.put, List.setIfInBounds_toArray, List.set_cons_zero, List.set_cons_succ]
              have ea := wrap1 x2 (by omega)
              refine wpAnyH_take (i := 8) (oi := { dst := some 41, op := Op.binOp BinOp.add 3 (Operand.const (Value.int IntKind.i64 1)) (Operand.tmp 40) 3, type := 3, pos := _, after := #[{ on := 7, ground := Ground.data }], guard := none }) (v := (.int .i64 (1 + (x2 : Int)))) rfl (by kernel_rfl) (by kernel_rfl) (by kernel_rfl) (fun _ _ _ h => h) (Or.inl ⟨by rfl, fun w' hS => by (try dsimp only at hS); go_simp⟩) (HO.out.box) ?_
              simp only [Act.put, List.setIfInBounds_toArray, List.set_cons_zero, List.set_cons_succ]
              clear ea
              refine wpAnyH_ready (rs := [9]) (by kernel_rfl) (by simp) ?_
              refine (AllReadyH.cons (o := { dst := some 42, op := Op.call { callee := Callee.value (Operand.func 29), args := #[Operand.tmp 33, Operand.tmp 36, Operand.tmp 38, Operand.tmp 41], argTypes := #[25, 3, 3, 3] }, type := 33, pos := _, after := #[{ on := 0, ground := Ground.data }, { on := 3, ground := Ground.data }, { on := 5, ground := Ground.data }, { on := 8, ground := Ground.data }, { on := 7, ground := Ground.chain }], guard := none }) rfl (fun K hK => ?_) AllReadyH.nil)
              go_simp
              refine (specLend_any b4 ⟨16, c4, 16, l4⟩ (1 + (x0 : Int)) (x1 : Int) (1 + (x2 : Int)) _ _ HO.out.own.at).mono ?_
              rintro e wk ⟨b3, R, r3, rfl, ho3, hs3, own3, hbk⟩
              have hsz := hbk.size
              have hzl := HO.out.zl
              have HRR : Hid (r3 = true → R.n = 16 ∧ R.k = 16) := fun e => (by rcases ho3 with ⟨_, e2, _⟩ | ⟨_, _, e2⟩ <;> first | (subst e2; exact ⟨rfl, rfl⟩) | (rw [e] at e2; cases e2))
              have HZL := HZ.out.lt
              replace HZ : Hid (Row wk _ 2 (fun i => if i = 0 then .slice none 0 0 else .slice none 0 0)) := HZ.out.blw hbk
              replace HOB : Hid (BookOwn _ wk b4 ⟨16, c4, 16, l4⟩) := (HOB.out.blw hbk).mono (fun x hx => (show _ ∧ _ ∧ _ ∧ _ from ⟨hx.1, Nat.lt_of_lt_of_le hx.2.1 hsz, hx.2.2⟩))
              have hsa := HSA.out
              have HXX : Hid (∀ x, _ → w.heap.size < x ∧ x < wk.heap.size ∧ x ≠ zs ∧ x ≠ _) := fun x (hx : wp2.heap.size ≤ x ∧ x < wk.heap.size) => ⟨by omega, hx.2, by omega, fun (e : x = wd.heap.size) => by omega⟩
              have HOW : Hid (BookOwn _ wk b3 R) := own3
              replace HO : Hid (OwA Y w wk C (kk + 2 + 2 + 2 + 2 + 2) zs b4 c4 l4) := HO.out.blw hbk
              refine hK.out _ _ HO.out.box (fun hB => ?_)
              clear hK K hB ho3 hs3 own3 hbk hsz hzl HZL hsa
              try simp only [Act.put, List.setIfInBounds_toArray, List.set_cons_zero, List.set_cons_succ]
              refine wpAnyH_take (i := 10) (oi := { dst := some 32, op := Op.move (Operand.tmp 42), type := 33, pos := _, after := #[{ on := 9, ground := Ground.data }], guard := none }) (v := (.tuple #[b3.val R, .bool r3])) rfl (by kernel_rfl) (by kernel_rfl) (by kernel_rfl) (fun _ _ _ h => h) (Or.inl ⟨by rfl, fun w' hS => by (try dsimp only at hS); go_simp⟩) (HO.out.box) ?_
              simp only [Act.put, List.setIfInBounds_toArray, List.set_cons_zero, List.set_cons_succ]
              refine wpAnyH_take (i := 11) (oi := { dst := some 43, op := Op.extract (Operand.tmp 32) 0, type := 25, pos := _, after := #[{ on := 10, ground := Ground.data }], guard := none }) (v := (.agg #[.slice b3.a1 R.n b3.c1, .slice b3.a2 R.k b3.c2])) rfl (by kernel_rfl) (by kernel_rfl) (by kernel_rfl) (fun _ _ _ h => h) (Or.inl ⟨by rfl, fun w' hS => by (try dsimp only at hS); go_simp⟩) (HO.out.box) ?_
              simp only [Act.put, List.setIfInBounds_toArray, List.set_cons_zero, List.set_cons_succ]
              refine wpAnyH_take (i := 12) (oi := { dst := some 44, op := Op.extract (Operand.tmp 32) 1, type := 4, pos := _, after := #[{ on := 10, ground := Ground.data }, { on := 14, ground := Ground.gcOnly Departure.lateStores }], guard := none }) (v := (.bool r3)) rfl (by kernel_rfl) (by kernel_rfl) (by kernel_rfl) (fun _ _ _ h => h) (Or.inl ⟨by rfl, fun w' hS => by (try dsimp only at hS); go_simp⟩) (HO.out.box) ?_
              simp only [Act.put, List.setIfInBounds_toArray, List.set_cons_zero, List.set_cons_succ]
              refine wpAnyH_ready (rs := [14]) (by kernel_rfl) (by simp) ?_
              refine (AllReadyH.cons (o := { dst := none, op := Op.store 25 (Operand.tmp 8) (Operand.tmp 43), type := 0, pos := _, after := #[{ on := 13, ground := Ground.data }, { on := 11, ground := Ground.data }, { on := 9, ground := Ground.chain }, { on := 0, ground := Ground.phase }, { on := 1, ground := Ground.phase }, { on := 2, ground := Ground.phase }, { on := 3, ground := Ground.phase }, { on := 4, ground := Ground.phase }, { on := 5, ground := Ground.phase }, { on := 6, ground := Ground.phase }, { on := 7, ground := Ground.phase }, { on := 8, ground := Ground.phase }, { on := 9, ground := Ground.phase }, { on := 10, ground := Ground.phase }, { on := 11, ground := Ground.phase }, { on := 12, ground := Ground.textOnly Departure.lateStores }, { on := 13, ground := Ground.phase }], guard := none }) rfl (fun K hK => ?_) AllReadyH.nil)
              obtain ⟨z0, z1⟩ := get2 HZ.out
              have fz0 := HZ.out.frozen 0
              have fz1 := HZ.out.frozen 1
              have FIN : Hid _ := got_fin (C := C) hC hYw HO.out HZ.out HZB.out HRR.out HOW.out (fun x hx => by have := HXX.out x hx; omega) (fun x _ h => h.2.2.2) (HOB.out)
              go_simp
              refine hK.out _ _ (by obtain ⟨_, _, _, _, _, _, ho, _⟩ := FIN.out; exact ho.box) (fun hB => ?_)
              clear hK K hB z0 z1 fz0 fz1
              try simp only [Act.put, List.setIfInBounds_toArray, List.set_cons_zero, List.set_cons_succ]
              refine wpAnyH_take (i := 15) (oi := { dst := some 9, op := Op.assign (Operand.tmp 44), type := 4, pos := _, after := #[{ on := 12, ground := Ground.data }, { on := 14, ground := Ground.chain }, { on := 0, ground := Ground.phase }, { on := 1, ground := Ground.phase }, { on := 2, ground := Ground.phase }, { on := 3, ground := Ground.phase }, { on := 4, ground := Ground.phase }, { on := 5, ground := Ground.phase }, { on := 6, ground := Ground.phase }, { on := 7, ground := Ground.phase }, { on := 8, ground := Ground.phase }, { on := 9, ground := Ground.phase }, { on := 10, ground := Ground.phase }, { on := 11, ground := Ground.phase }, { on := 12, ground := Ground.phase }, { on := 13, ground := Ground.phase }, { on := 14, ground := Ground.phase }], guard := none }) (v := (.bool r3)) rfl (by kernel_rfl) (by kernel_rfl) (by kernel_rfl) (fun _ _ _ h => h) (Or.inl ⟨by rfl, fun w' hS => by (try dsimp only at hS); go_simp⟩) (by obtain ⟨_, _, _, _, _, _, ho, _⟩ := FIN.out; exact ho.box) ?_
              simp only [Act.put, List.setIfInBounds_toArray, List.set_cons_zero, List.set_cons_succ]
              refine wpAnyH_done (by kernel_rfl) ?_ _
              refine NoPanic.normal ?_
              go_wp2_with fail
              go_meet
              exact FIN.out
          case rest =>
            clear HO P0 P1
            obtain ⟨zb, b3, R, r, rfl, rfl, ho, hzb, hne, hr, own⟩ := hcut
            have HO : Hid (OwA Y w wc C (kk + 2 + 2 + 2 + 2 + 2) zs b4 c4 l4) := ho
            have HZ : Hid (Row wc zb 2 (bx2 b3 R.n R.k)) := hzb
            have HR : Hid (r = true → R.n = 16 ∧ R.k = 16) := hr
            have HOO : Hid (BookOwn (fun x => w.heap.size < x ∧ x < wc.heap.size ∧ x ≠ zs) wc b3 R) := own
            clear ho hzb hr own
            skip
            go_upto_if 45 with fail
            go_cut [] from 15 to 60 (fun wx => Ow Y w wx C (kk + 2 + 2 + 2 + 2 + 2) zs)
            case first =>
              cases r
              · go_wp2_with fail
                go_meet
                exact got_no HO.out
              · obtain ⟨z0, z1⟩ := get2 HZ.out
                obtain ⟨t0, t1⟩ := get2 HO.out.box
                have f0 := HO.out.box.frozen 0
                have f1 := HO.out.box.frozen 1
                have FIN : Hid _ := got_yes hC hYw HO.out (HR.out rfl) HOO.out
                clear HZ HO HR HOO
                go_wp2_with fail
                go_meet
                exact FIN.out
            case rest =>
              have HOW0 : Hid (Ow Y w wc C (kk + 2 + 2 + 2 + 2 + 2) zs) := hcut
              clear hcut HO HZ HR HOO hne
              obtain ⟨b4, c4, l4, ho4⟩ := HOW0.out
              have HO : Hid (OwA Y w wc C (kk + 2 + 2 + 2 + 2 + 2) zs b4 c4 l4) := ho4
              clear ho4 HOW0
              have P0 : ∀ w', Row w' zs 2 (bx2 b4 16 16) → w'.cell? ⟨zs, 0, none⟩ = some (.slice b4.a1 16 b4.c1) := fun w' hh => (get2 hh).1
              have P1 : ∀ w', Row w' zs 2 (bx2 b4 16 16) → w'.cell? ⟨zs, 1, none⟩ = some (.slice b4.a2 16 b4.c2) := fun w' hh => (get2 hh).2
              go_upto_region 11 with fail
              go_cut [10, 11] from 15 to 60 (fun p q wx => Got Y w C (kk + 2 + 2 + 2 + 2 + 2 + 2 + 2 + 2) zs b4 c4 l4 p q wx)
              case first =>
                refine wp_region_noPanic ?_
                refine wp_region_held_drew (S := fun w' => Row w' zs 2 (bx2 b4 16 16)) (by kernel_rfl) (HO.out.box.blw (Blw.refl _).drew) (fun hB => ?_)
                replace HO : Hid (OwA Y w wc.drew C (kk + 2 + 2 + 2 + 2 + 2) zs b4 c4 l4) := HO.out.blw (Blw.refl _).drew
                clear hB
                generalize wc.drew = wd at *
                refine wpAnyH_take (i := 0) (oi := { dst := some 48, op := Op.load 25 (Operand.tmp 3), type := 25, pos := _, after := #[], guard := none }) (v := (.agg #[.slice b4.a1 16 b4.c1, .slice b4.a2 16 b4.c2])) rfl (by kernel_rfl) (by kernel_rfl) (by kernel_rfl) (fun _ _ _ h => h) (Or.inl ⟨by rfl, fun w' hS => by (try dsimp only at hS); go_simp⟩) (HO.out.box) ?_
                simp only [Act.put, List.setIfInBounds_toArray, List.set_cons_zero, List.set_cons_succ]
                refine wpAnyH_take (i := 1) (oi := { dst := some 49, op := Op.move (Operand.tmp 0), type := 63, pos := _, after := #[], guard := none }) (v := (.pointer (some ⟨C, 0, none⟩))) rfl (by kernel_rfl) (by kernel_rfl) (by kernel_rfl) (fun _ _ _ h => h) (Or.inl ⟨by rfl, fun w' hS => by (try dsimp only at hS); go_simp⟩) (HO.out.box) ?_
                simp only [Act.put, List.setIfInBounds_toArray, List.set_cons_zero, List.set_cons_succ]
                refine wpAnyH_take (i := 4) (oi := { dst := some 52, op := Op.move (Operand.tmp 0), type := 63, pos := _, after := #[], guard := none }) (v := (.pointer (some ⟨C, 0, none⟩))) rfl (by kernel_rfl) (by kernel_rfl) (by kernel_rfl) (fun _ _ _ h => h) (Or.inl ⟨by rfl, fun w' hS => by (try dsimp only at hS); go_simp⟩) (HO.out.box) ?_
                simp only [Act.put, List.setIfInBounds_toArray, List.set_cons_zero, List.set_cons_succ]
                refine wpAnyH_take (i := 6) (oi := { dst := some 54, op := Op.move (Operand.tmp 0), type := 63, pos := _, after := #[], guard := none }) (v := (.pointer (some ⟨C, 0, none⟩))) rfl (by kernel_rfl) (by kernel_rfl) (by kernel_rfl) (fun _ _ _ h => h) (Or.inl ⟨by rfl, fun w' hS => by (try dsimp only at hS); go_simp⟩) (HO.out.box) ?_
                simp only [Act.put, List.setIfInBounds_toArray, List.set_cons_zero, List.set_cons_succ]
                refine wpAnyH_ready (rs := [2, 12]) (by kernel_rfl) (by simp) ?_
                refine (AllReadyH.cons (o := { dst := some 50, op := Op.call { callee := Callee.value (Operand.func 54), args := #[Operand.tmp 49, Operand.const (Value.int IntKind.i64 3)], argTypes := #[63, 3] }, type := 3, pos := _, after := #[{ on := 1, ground := Ground.data }], guard := none }) rfl (fun K hK => ?_) (AllReadyH.cons (o := { dst := some 10, op := Op.alloc 25, type := 0, pos := _, after := #[], guard := none }) rfl (fun K hK => ?_) AllReadyH.nil))
                · go_simp
                  refine (pick_any Y C _ 3 _ (by omega) (by omega) HO.out.cur).mono ?_
                  rintro e wp0 ⟨x0, rfl, hx0, hc, hm⟩
                  replace HO : Hid (OwA Y w wp0 C (kk + 2 + 2 + 2 + 2 + 2 + 2) zs b4 c4 l4) := HO.out.go hC hc hm
                  refine hK.out _ _ HO.out.box (fun hB => ?_)
                  clear hK K hB hc hm
                  try simp only [Act.put, List.setIfInBounds_toArray, List.set_cons_zero, List.set_cons_succ]
                  have ea := wrap1 x0 (by omega)
                  refine wpAnyH_take (i := 3) (oi := { dst := some 51, op := Op.binOp BinOp.add 3 (Operand.const (Value.int IntKind.i64 1)) (Operand.tmp 50) 3, type := 3, pos := _, after := #[{ on := 2, ground := Ground.data }], guard := none }) (v := (.int .i64 (1 + (x0 : Int)))) rfl (by kernel_rfl) (by kernel_rfl) (by kernel_rfl) (fun _ _ _ h => h) (Or.inl ⟨by rfl, fun w' hS => by (try dsimp only at hS); go_simp⟩) (HO.out.box) ?_
                  simp only [Act.put, List.setIfInBounds_toArray, List.set_cons_zero, List.set_cons_succ]
                  clear ea
                  refine wpAnyH_ready (rs := [5, 12]) (by kernel_rfl) (by simp) ?_
                  refine (AllReadyH.cons (o := { dst := some 53, op := Op.call { callee := Callee.value (Operand.func 54), args := #[Operand.tmp 52, Operand.const (Value.int IntKind.i64 8)], argTypes := #[63, 3] }, type := 3, pos := _, after := #[{ on := 4, ground := Ground.data }, { on := 2, ground := Ground.chain }], guard := none }) rfl (fun K hK => ?_) (AllReadyH.cons (o := { dst := some 10, op := Op.alloc 25, type := 0, pos := _, after := #[], guard := none }) rfl (fun K hK => ?_) AllReadyH.nil))
                  · go_simp
                    refine (pick_any Y C _ 8 _ (by omega) (by omega) HO.out.cur).mono ?_
                    rintro e wp1 ⟨x1, rfl, hx1, hc, hm⟩
                    replace HO : Hid (OwA Y w wp1 C (kk + 2 + 2 + 2 + 2 + 2 + 2 + 2) zs b4 c4 l4) := HO.out.go hC hc hm
                    refine hK.out _ _ HO.out.box (fun hB => ?_)
                    clear hK K hB hc hm
                    try simp only [Act.put, List.setIfInBounds_toArray, List.set_cons_zero, List.set_cons_succ]
                    refine wpAnyH_ready (rs := [7, 12]) (by kernel_rfl) (by simp) ?_
                    refine (AllReadyH.cons (o := { dst := some 55, op := Op.call { callee := Callee.value (Operand.func 54), args := #[Operand.tmp 54, Operand.const (Value.int IntKind.i64 2)], argTypes := #[63, 3] }, type := 3, pos := _, after := #[{ on := 6, ground := Ground.data }, { on := 5, ground := Ground.chain }], guard := none }) rfl (fun K hK => ?_) (AllReadyH.cons (o := { dst := some 10, op := Op.alloc 25, type := 0, pos := _, after := #[], guard := none }) rfl (fun K hK => ?_) AllReadyH.nil))
                    · go_simp
                      refine (pick_any Y C _ 2 _ (by omega) (by omega) HO.out.cur).mono ?_
                      rintro e wp2 ⟨x2, rfl, hx2, hc, hm⟩
                      replace HO : Hid (OwA Y w wp2 C (kk + 2 + 2 + 2 + 2 + 2 + 2 + 2 + 2) zs b4 c4 l4) := HO.out.go hC hc hm
                      refine hK.out _ _ HO.out.box (fun hB => ?_)
                      clear hK K hB hc hm
                      try simp only [Act.put, List.setIfInBounds_toArray, List.set_cons_zero, List.set_cons_succ]
                      refine wpAnyH_ready (rs := [8, 12]) (by kernel_rfl) (by simp) ?_
                      refine (AllReadyH.cons (o := { dst := some 56, op := Op.call { callee := Callee.value (Operand.func 26), args := #[Operand.tmp 48, Operand.tmp 51, Operand.tmp 53, Operand.tmp 55], argTypes := #[25, 3, 3, 3] }, type := 33, pos := _, after := #[{ on := 0, ground := Ground.data }, { on := 3, ground := Ground.data }, { on := 5, ground := Ground.data }, { on := 7, ground := Ground.data }, { on := 7, ground := Ground.chain }], guard := none }) rfl (fun K hK => ?_) (AllReadyH.cons (o := { dst := some 10, op := Op.alloc 25, type := 0, pos := _, after := #[], guard := none }) rfl (fun K hK => ?_) AllReadyH.nil))
                      · go_simp
                        refine (specFree_any b4 ⟨16, c4, 16, l4⟩ (1 + (x0 : Int)) (x1 : Int) (x2 : Int) _ _ HO.out.own.at (fun x hx => hx.2.1)).mono ?_
                        rintro e wk ⟨b3, R, r3, rfl, ho3, hs3, own3, hbk⟩
                        have hsz := hbk.size
                        have hzl := HO.out.zl
                        have HRR : Hid (r3 = true → R.n = 16 ∧ R.k = 16) := fun e => (by rcases ho3 with ⟨_, e2, _⟩ | ⟨_, _, e2⟩ <;> first | (subst e2; exact ⟨rfl, rfl⟩) | (rw [e] at e2; cases e2))
                        have HOW : Hid (BookOwn _ wk b3 R) := own3
                        replace HO : Hid (OwA Y w wk C (kk + 2 + 2 + 2 + 2 + 2 + 2 + 2 + 2) zs b4 c4 l4) := HO.out.blw hbk
                        have HXN : Hid (∀ x, _ → w.heap.size < x ∧ x < wk.heap.size ∧ x ≠ zs) := fun x (hx : wp2.heap.size ≤ x ∧ x < wk.heap.size) => ⟨by omega, hx.2, by omega⟩
                        refine hK.out _ _ HO.out.box (fun hB => ?_)
                        clear hK K hB ho3 hs3 own3 hbk hsz hzl
                        try simp only [Act.put, List.setIfInBounds_toArray, List.set_cons_zero, List.set_cons_succ]
                        refine wpAnyH_take (i := 9) (oi := { dst := some 47, op := Op.move (Operand.tmp 56), type := 33, pos := _, after := #[{ on := 8, ground := Ground.data }], guard := none }) (v := (.tuple #[b3.val R, .bool r3])) rfl (by kernel_rfl) (by kernel_rfl) (by kernel_rfl) (fun _ _ _ h => h) (Or.inl ⟨by rfl, fun w' hS => by (try dsimp only at hS); go_simp⟩) (HO.out.box) ?_
                        simp only [Act.put, List.setIfInBounds_toArray, List.set_cons_zero, List.set_cons_succ]
                        refine wpAnyH_take (i := 10) (oi := { dst := some 57, op := Op.extract (Operand.tmp 47) 0, type := 25, pos := _, after := #[{ on := 9, ground := Ground.data }], guard := none }) (v := (.agg #[.slice b3.a1 R.n b3.c1, .slice b3.a2 R.k b3.c2])) rfl (by kernel_rfl) (by kernel_rfl) (by kernel_rfl) (fun _ _ _ h => h) (Or.inl ⟨by rfl, fun w' hS => by (try dsimp only at hS); go_simp⟩) (HO.out.box) ?_
                        simp only [Act.put, List.setIfInBounds_toArray, List.set_cons_zero, List.set_cons_succ]
                        refine wpAnyH_take (i := 11) (oi := { dst := some 58, op := Op.extract (Operand.tmp 47) 1, type := 4, pos := _, after := #[{ on := 9, ground := Ground.data }, { on := 13, ground := Ground.gcOnly Departure.lateStores }], guard := none }) (v := (.bool r3)) rfl (by kernel_rfl) (by kernel_rfl) (by kernel_rfl) (fun _ _ _ h => h) (Or.inl ⟨by rfl, fun w' hS => by (try dsimp only at hS); go_simp⟩) (HO.out.box) ?_
                        simp only [Act.put, List.setIfInBounds_toArray, List.set_cons_zero, List.set_cons_succ]
                        refine wpAnyH_ready (rs := [12]) (by kernel_rfl) (by simp) ?_
                        refine (AllReadyH.cons (o := { dst := some 10, op := Op.alloc 25, type := 0, pos := _, after := #[], guard := none }) rfl (fun K hK => ?_) AllReadyH.nil)
                        go_simp
                        have HZ : Hid (Row (wk.alloc (.cells #[.slice none 0 0, .slice none 0 0] 25)) wk.heap.size 2 (fun i => if i = 0 then .slice none 0 0 else .slice none 0 0)) := box2 wk _ _ 25
                        have hzl := HO.out.zl
                        have HZB : Hid (wk.heap.size ≠ zs ∧ w.heap.size < wk.heap.size) := ⟨by omega, by omega⟩
                        have HOB : Hid (BookOwn (fun x => w.heap.size < x ∧ x < (wk.alloc (.cells #[.slice none 0 0, .slice none 0 0] 25)).heap.size ∧ x ≠ zs ∧ x ≠ wk.heap.size) (wk.alloc (.cells #[.slice none 0 0, .slice none 0 0] 25)) b4 ⟨16, c4, 16, l4⟩) := (HO.out.own.blw ((Blw.refl _).alloc _)).mono (fun x hx => ⟨hx.1, by simp; omega, hx.2.2, by omega⟩)
                        replace HOW : Hid (BookOwn _ (wk.alloc (.cells #[.slice none 0 0, .slice none 0 0] 25)) b3 R) := HOW.out.blw ((Blw.refl _).alloc _)
                        have HXX : Hid (∀ x, _ → w.heap.size < x ∧ x < (wk.alloc (.cells #[.slice none 0 0, .slice none 0 0] 25)).heap.size ∧ x ≠ zs ∧ x ≠ wk.heap.size) := fun x hx => by have := HXN.out x hx; exact ⟨this.1, by simp; omega, this.2.2, by omega⟩
                        replace HO : Hid (OwA Y w (wk.alloc (.cells #[.slice none 0 0, .slice none 0 0] 25)) C (kk + 2 + 2 + 2 + 2 + 2 + 2 + 2 + 2) zs b4 c4 l4) := HO.out.blw ((Blw.refl _).alloc _)
                        refine hK.out _ _ HO.out.box (fun hB => ?_)
                        clear hK K hB hzl
                        try simp only [Act.put, List.setIfInBounds_toArray, List.set_cons_zero, List.set_cons_succ]
                        have HSA : Hid ((wk.alloc (.cells #[.slice none 0 0, .slice none 0 0] 25)).heap.size = wk.heap.size + 1) := by show _ = _; simp
                        generalize wk.alloc (.cells #[.slice none 0 0, .slice none 0 0] 25) = wA at *
                        refine wpAnyH_ready (rs := [13]) (by kernel_rfl) (by simp) ?_
                        refine (AllReadyH.cons (o := { dst := none, op := Op.store 25 (Operand.tmp 10) (Operand.tmp 57), type := 0, pos := _, after := #[{ on := 12, ground := Ground.data }, { on := 10, ground := Ground.data }, { on := 8, ground := Ground.chain }, { on := 0, ground := Ground.phase }, { on := 1, ground := Ground.phase }, { on := 2, ground := Ground.phase }, { on := 3, ground := Ground.phase }, { on := 4, ground := Ground.phase }, { on := 5, ground := Ground.phase }, { on := 6, ground := Ground.phase }, { on := 7, ground := Ground.phase }, { on := 8, ground := Ground.phase }, { on := 9, ground := Ground.phase }, { on := 10, ground := Ground.phase }, { on := 11, ground := Ground.textOnly Departure.lateStores }, { on := 12, ground := Ground.phase }], guard := none }) rfl (fun K hK => ?_) AllReadyH.nil)
                        obtain ⟨z0, z1⟩ := get2 HZ.out
                        have fz0 := HZ.out.frozen 0
                        have fz1 := HZ.out.frozen 1
                        have FIN : Hid _ := got_fin (C := C) hC hYw HO.out HZ.out HZB.out HRR.out HOW.out (fun x hx => by have := HXX.out x hx; omega) (fun x _ h => h.2.2.2) (HOB.out)
                        go_simp
                        refine hK.out _ _ (by obtain ⟨_, _, _, _, _, _, ho, _⟩ := FIN.out; exact ho.box) (fun hB => ?_)
                        clear hK K hB z0 z1 fz0 fz1
                        try simp only [Act.put, List.setIfInBounds_toArray, List.set_cons_zero, List.set_cons_succ]
                        refine wpAnyH_take (i := 14) (oi := { dst := some 11, op := Op.assign (Operand.tmp 58), type := 4, pos := _, after := #[{ on := 11, ground := Ground.data }, { on := 13, ground := Ground.chain }, { on := 0, ground := Ground.phase }, { on := 1, ground := Ground.phase }, { on := 2, ground := Ground.phase }, { on := 3, ground := Ground.phase }, { on := 4, ground := Ground.phase }, { on := 5, ground := Ground.phase }, { on := 6, ground := Ground.phase }, { on := 7, ground := Ground.phase }, { on := 8, ground := Ground.phase }, { on := 9, ground := Ground.phase }, { on := 10, ground := Ground.phase }, { on := 11, ground := Ground.phase }, { on := 12, ground := Ground.phase }, { on := 13, ground := Ground.phase }], guard := none }) (v := (.bool r3)) rfl (by kernel_rfl) (by kernel_rfl) (by kernel_rfl) (fun _ _ _ h => h) (Or.inl ⟨by rfl, fun w' hS => by (try dsimp only at hS); go_simp⟩) (by obtain ⟨_, _, _, _, _, _, ho, _⟩ := FIN.out; exact ho.box) ?_
                        simp only [Act.put, List.setIfInBounds_toArray, List.set_cons_zero, List.set_cons_succ]
                        refine wpAnyH_done (by kernel_rfl) ?_ _
                        refine NoPanic.normal ?_
                        go_wp2_with fail
                        go_meet
                        exact FIN.out
                      · go_simp
                        have HZ : Hid (Row (wp2.alloc (.cells #[.slice none 0 0, .slice none 0 0] 25)) wp2.heap.size 2 (fun i => if i = 0 then .slice none 0 0 else .slice none 0 0)) := box2 wp2 _ _ 25
                        have hzl := HO.out.zl
                        have HZB : Hid (wp2.heap.size ≠ zs ∧ w.heap.size < wp2.heap.size) := ⟨by omega, by omega⟩
                        have HOB : Hid (BookOwn (fun x => w.heap.size < x ∧ x < (wp2.alloc (.cells #[.slice none 0 0, .slice none 0 0] 25)).heap.size ∧ x ≠ zs ∧ x ≠ wp2.heap.size) (wp2.alloc (.cells #[.slice none 0 0, .slice none 0 0] 25)) b4 ⟨16, c4, 16, l4⟩) := (HO.out.own.blw ((Blw.refl _).alloc _)).mono (fun x hx => ⟨hx.1, by simp; omega, hx.2.2, by omega⟩)
                        replace HO : Hid (OwA Y w (wp2.alloc (.cells #[.slice none 0 0, .slice none 0 0] 25)) C (kk + 2 + 2 + 2 + 2 + 2 + 2 + 2 + 2) zs b4 c4 l4) := HO.out.blw ((Blw.refl _).alloc _)
                        refine hK.out _ _ HO.out.box (fun hB => ?_)
                        clear hK K hB hzl
                        try simp only [Act.put, List.setIfInBounds_toArray, List.set_cons_zero, List.set_cons_succ]
                        have HSA : Hid ((wp2.alloc (.cells #[.slice none 0 0, .slice none 0 0] 25)).heap.size = wp2.heap.size + 1) := by show _ = _; simp
                        generalize wp2.alloc (.cells #[.slice none 0 0, .slice none 0 0] 25) = wA at *
                        refine wpAnyH_ready (rs := [8]) (by kernel_rfl) (by simp) ?_
                        refine (AllReadyH.cons (o := { dst := some 56, op := Op.call { callee := Callee.value (Operand.func 26), args := #[Operand.tmp 48, Operand.tmp 51, Operand.tmp 53, Operand.tmp 55], argTypes := #[25, 3, 3, 3] }, type := 33, pos := _, after := #[{ on := 0, ground := Ground.data }, { on := 3, ground := Ground.data }, { on := 5, ground := Ground.data }, { on := 7, ground := Ground.data }, { on := 7, ground := Ground.chain }], guard := none }) rfl (fun K hK => ?_) AllReadyH.nil)
                        go_simp
                        refine (specFree_any b4 ⟨16, c4, 16, l4⟩ (1 + (x0 : Int)) (x1 : Int) (x2 : Int) _ _ HO.out.own.at (fun x hx => hx.2.1)).mono ?_
                        rintro e wk ⟨b3, R, r3, rfl, ho3, hs3, own3, hbk⟩
                        have hsz := hbk.size
                        have hzl := HO.out.zl
                        have HRR : Hid (r3 = true → R.n = 16 ∧ R.k = 16) := fun e => (by rcases ho3 with ⟨_, e2, _⟩ | ⟨_, _, e2⟩ <;> first | (subst e2; exact ⟨rfl, rfl⟩) | (rw [e] at e2; cases e2))
                        have HZL := HZ.out.lt
                        replace HZ : Hid (Row wk _ 2 (fun i => if i = 0 then .slice none 0 0 else .slice none 0 0)) := HZ.out.blw hbk
                        replace HOB : Hid (BookOwn _ wk b4 ⟨16, c4, 16, l4⟩) := (HOB.out.blw hbk).mono (fun x hx => (show _ ∧ _ ∧ _ ∧ _ from ⟨hx.1, Nat.lt_of_lt_of_le hx.2.1 hsz, hx.2.2⟩))
                        have hsa := HSA.out
                        have HXX : Hid (∀ x, _ → w.heap.size < x ∧ x < wk.heap.size ∧ x ≠ zs ∧ x ≠ _) := fun x (hx : wA.heap.size ≤ x ∧ x < wk.heap.size) => ⟨by omega, hx.2, by omega, fun (e : x = wp2.heap.size) => by omega⟩
                        have HOW : Hid (BookOwn _ wk b3 R) := own3
                        replace HO : Hid (OwA Y w wk C (kk + 2 + 2 + 2 + 2 + 2 + 2 + 2 + 2) zs b4 c4 l4) := HO.out.blw hbk
                        refine hK.out _ _ HO.out.box (fun hB => ?_)
                        clear hK K hB ho3 hs3 own3 hbk hsz hzl HZL hsa
                        try simp only [Act.put, List.setIfInBounds_toArray, List.set_cons_zero, List.set_cons_succ]
                        refine wpAnyH_take (i := 9) (oi := { dst := some 47, op := Op.move (Operand.tmp 56), type := 33, pos := _, after := #[{ on := 8, ground := Ground.data }], guard := none }) (v := (.tuple #[b3.val R, .bool r3])) rfl (by kernel_rfl) (by kernel_rfl) (by kernel_rfl) (fun _ _ _ h => h) (Or.inl ⟨by rfl, fun w' hS => by (try dsimp only at hS); go_simp⟩) (HO.out.box) ?_
                        simp only [Act.put, List.setIfInBounds_toArray, List.set_cons_zero, List.set_cons_succ]
                        refine wpAnyH_take (i := 10) (oi := { dst := some 57, op := Op.extract (Operand.tmp 47) 0, type := 25, pos := _, after := #[{ on := 9, ground := Ground.data }], guard := none }) (v := (.agg #[.slice b3.a1 R.n b3.c1, .slice b3.a2 R.k b3.c2])) rfl (by kernel_rfl) (by kernel_rfl) (by kernel_rfl) (fun _ _ _ h => h) (Or.inl ⟨by rfl, fun w' hS => by (try dsimp only at hS); go_simp⟩) (HO.out.box) ?_
                        simp only [Act.put, List.setIfInBounds_toArray, List.set_cons_zero, List.set_cons_succ]
                        refine wpAnyH_take (i := 11) (oi := { dst := some 58, op := Op.extract (Operand.tmp 47) 1, type := 4, pos := _, after := #[{ on := 9, ground := Ground.data }, { on := 13, ground := Ground.gcOnly Departure.lateStores }], guard := none }) (v := (.bool r3)) rfl (by kernel_rfl) (by kernel_rfl) (by kernel_rfl) (fun _ _ _ h => h) (Or.inl ⟨by rfl, fun w' hS => by (try dsimp only at hS); go_simp⟩) (HO.out.box) ?_
                        simp only [Act.put, List.setIfInBounds_toArray, List.set_cons_zero, List.set_cons_succ]
                        refine wpAnyH_ready (rs := [13]) (by kernel_rfl) (by simp) ?_
                        refine (AllReadyH.cons (o := { dst := none, op := Op.store 25 (Operand.tmp 10) (Operand.tmp 57), type := 0, pos := _, after := #[{ on := 12, ground := Ground.data }, { on := 10, ground := Ground.data }, { on := 8, ground := Ground.chain }, { on := 0, ground := Ground.phase }, { on := 1, ground := Ground.phase }, { on := 2, ground := Ground.phase }, { on := 3, ground := Ground.phase }, { on := 4, ground := Ground.phase }, { on := 5, ground := Ground.phase }, { on := 6, ground := Ground.phase }, { on := 7, ground := Ground.phase }, { on := 8, ground := Ground.phase }, { on := 9, ground := Ground.phase }, { on := 10, ground := Ground.phase }, { on := 11, ground := Ground.textOnly Departure.lateStores }, { on := 12, ground := Ground.phase }], guard := none }) rfl (fun K hK => ?_) AllReadyH.nil)
                        obtain ⟨z0, z1⟩ := get2 HZ.out
                        have fz0 := HZ.out.frozen 0
                        have fz1 := HZ.out.frozen 1
                        have FIN : Hid _ := got_fin (C := C) hC hYw HO.out HZ.out HZB.out HRR.out HOW.out (fun x hx => by have := HXX.out x hx; omega) (fun x _ h => h.2.2.2) (HOB.out)
                        go_simp
                        refine hK.out _ _ (by obtain ⟨_, _, _, _, _, _, ho, _⟩ := FIN.out; exact ho.box) (fun hB => ?_)
                        clear hK K hB z0 z1 fz0 fz1
                        try simp only [Act.put, List.setIfInBounds_toArray, List.set_cons_zero, List.set_cons_succ]
                        refine wpAnyH_take (i := 14) (oi := { dst := some 11, op := Op.assign (Operand.tmp 58), type := 4, pos := _, after := #[{ on := 11, ground := Ground.data }, { on := 13, ground := Ground.chain }, { on := 0, ground := Ground.phase }, { on := 1, ground := Ground.phase }, { on := 2, ground := Ground.phase }, { on := 3, ground := Ground.phase }, { on := 4, ground := Ground.phase }, { on := 5, ground := Ground.phase }, { on := 6, ground := Ground.phase }, { on := 7, ground := Ground.phase }, { on := 8, ground := Ground.phase }, { on := 9, ground := Ground.phase }, { on := 10, ground := Ground.phase }, { on := 11, ground := Ground.phase }, { on := 12, ground := Ground.phase }, { on := 13, ground := Ground.phase }], guard := none }) (v := (.bool r3)) rfl (by kernel_rfl) (by kernel_rfl) (by kernel_rfl) (fun _ _ _ h => h) (Or.inl ⟨by rfl, fun w' hS => by (try dsimp only at hS); go_simp⟩) (by obtain ⟨_, _, _, _, _, _, ho, _⟩ := FIN.out; exact ho.box) ?_
                        simp only [Act.put, List.setIfInBounds_toArray, List.set_cons_zero, List.set_cons_succ]
                        refine wpAnyH_done (by kernel_rfl) ?_ _
                        refine NoPanic.normal ?_
                        go_wp2_with fail
                        go_meet
                        exact FIN.out
                    · go_simp
                      have HZ : Hid (Row (wp1.alloc (.cells #[.slice none 0 0, .slice none 0 0] 25)) wp1.heap.size 2 (fun i => if i = 0 then .slice none 0 0 else .slice none 0 0)) := box2 wp1 _ _ 25
                      have hzl := HO.out.zl
                      have HZB : Hid (wp1.heap.size ≠ zs ∧ w.heap.size < wp1.heap.size) := ⟨by omega, by omega⟩
                      have HOB : Hid (BookOwn (fun x => w.heap.size < x ∧ x < (wp1.alloc (.cells #[.slice none 0 0, .slice none 0 0] 25)).heap.size ∧ x ≠ zs ∧ x ≠ wp1.heap.size) (wp1.alloc (.cells #[.slice none 0 0, .slice none 0 0] 25)) b4 ⟨16, c4, 16, l4⟩) := (HO.out.own.blw ((Blw.refl _).alloc _)).mono (fun x hx => ⟨hx.1, by simp; omega, hx.2.2, by omega⟩)
                      replace HO : Hid (OwA Y w (wp1.alloc (.cells #[.slice none 0 0, .slice none 0 0] 25)) C (kk + 2 + 2 + 2 + 2 + 2 + 2 + 2) zs b4 c4 l4) := HO.out.blw ((Blw.refl _).alloc _)
                      refine hK.out _ _ HO.out.box (fun hB => ?_)
                      clear hK K hB hzl
                      try simp only [Act.put, List.setIfInBounds_toArray, List.set_cons_zero, List.set_cons_succ]
                      have HSA : Hid ((wp1.alloc (.cells #[.slice none 0 0, .slice none 0 0] 25)).heap.size = wp1.heap.size + 1) := by show _ = _; simp
                      generalize wp1.alloc (.cells #[.slice none 0 0, .slice none 0 0] 25) = wA at *
                      refine wpAnyH_ready (rs := [7]) (by kernel_rfl) (by simp) ?_
                      refine (AllReadyH.cons (o := { dst := some 55, op := Op.call { callee := Callee.value (Operand.func 54), args := #[Operand.tmp 54, Operand.const (Value.int IntKind.i64 2)], argTypes := #[63, 3] }, type := 3, pos := _, after := #[{ on := 6, ground := Ground.data }, { on := 5, ground := Ground.chain }], guard := none }) rfl (fun K hK => ?_) AllReadyH.nil)
                      go_simp
                      refine (pick_any Y C _ 2 _ (by omega) (by omega) HO.out.cur).mono ?_
                      rintro e wp2 ⟨x2, rfl, hx2, hc, hm⟩
                      replace HZ : Hid (Row wp2 _ 2 (fun i => if i = 0 then .slice none 0 0 else .slice none 0 0)) := HZ.out.mod hm (by have := HZB.out; omega)
                      replace HOB : Hid (BookOwn _ wp2 b4 ⟨16, c4, 16, l4⟩) := (HOB.out.mod hm (fun x hx e => by omega)).mono (fun x hx => (show _ ∧ _ ∧ _ ∧ _ from ⟨hx.1, Nat.lt_of_lt_of_le hx.2.1 hm.size, hx.2.2⟩))
                      replace HO : Hid (OwA Y w wp2 C (kk + 2 + 2 + 2 + 2 + 2 + 2 + 2 + 2) zs b4 c4 l4) := HO.out.go hC hc hm
                      refine hK.out _ _ HO.out.box (fun hB => ?_)
                      clear hK K hB hc hm
                      try simp only [Act.put, List.setIfInBounds_toArray, List.set_cons_zero, List.set_cons_succ]
                      refine wpAnyH_ready (rs := [8]) (by kernel_rfl) (by simp) ?_
                      refine (AllReadyH.cons (o := { dst := some 56, op := Op.call { callee := Callee.value (Operand.func 26), args := #[Operand.tmp 48, Operand.tmp 51, Operand.tmp 53, Operand.tmp 55], argTypes := #[25, 3, 3, 3] }, type := 33, pos := _, after := #[{ on := 0, ground := Ground.data }, { on := 3, ground := Ground.data }, { on := 5, ground := Ground.data }, { on := 7, ground := Ground.data }, { on := 7, ground := Ground.chain }], guard := none }) rfl (fun K hK => ?_) AllReadyH.nil)
                      go_simp
                      refine (specFree_any b4 ⟨16, c4, 16, l4⟩ (1 + (x0 : Int)) (x1 : Int) (x2 : Int) _ _ HO.out.own.at (fun x hx => hx.2.1)).mono ?_
                      rintro e wk ⟨b3, R, r3, rfl, ho3, hs3, own3, hbk⟩
                      have hsz := hbk.size
                      have hzl := HO.out.zl
                      have HRR : Hid (r3 = true → R.n = 16 ∧ R.k = 16) := fun e => (by rcases ho3 with ⟨_, e2, _⟩ | ⟨_, _, e2⟩ <;> first | (subst e2; exact ⟨rfl, rfl⟩) | (rw [e] at e2; cases e2))
                      have HZL := HZ.out.lt
                      replace HZ : Hid (Row wk _ 2 (fun i => if i = 0 then .slice none 0 0 else .slice none 0 0)) := HZ.out.blw hbk
                      replace HOB : Hid (BookOwn _ wk b4 ⟨16, c4, 16, l4⟩) := (HOB.out.blw hbk).mono (fun x hx => (show _ ∧ _ ∧ _ ∧ _ from ⟨hx.1, Nat.lt_of_lt_of_le hx.2.1 hsz, hx.2.2⟩))
                      have hsa := HSA.out
                      have HXX : Hid (∀ x, _ → w.heap.size < x ∧ x < wk.heap.size ∧ x ≠ zs ∧ x ≠ _) := fun x (hx : wp2.heap.size ≤ x ∧ x < wk.heap.size) => ⟨by omega, hx.2, by omega, fun (e : x = wp1.heap.size) => by omega⟩
                      have HOW : Hid (BookOwn _ wk b3 R) := own3
                      replace HO : Hid (OwA Y w wk C (kk + 2 + 2 + 2 + 2 + 2 + 2 + 2 + 2) zs b4 c4 l4) := HO.out.blw hbk
                      refine hK.out _ _ HO.out.box (fun hB => ?_)
                      clear hK K hB ho3 hs3 own3 hbk hsz hzl HZL hsa
                      try simp only [Act.put, List.setIfInBounds_toArray, List.set_cons_zero, List.set_cons_succ]
                      refine wpAnyH_take (i := 9) (oi := { dst := some 47, op := Op.move (Operand.tmp 56), type := 33, pos := _, after := #[{ on := 8, ground := Ground.data }], guard := none }) (v := (.tuple #[b3.val R, .bool r3])) rfl (by kernel_rfl) (by kernel_rfl) (by kernel_rfl) (fun _ _ _ h => h) (Or.inl ⟨by rfl, fun w' hS => by (try dsimp only at hS); go_simp⟩) (HO.out.box) ?_
                      simp only [Act.put, List.setIfInBounds_toArray, List.set_cons_zero, List.set_cons_succ]
                      refine wpAnyH_take (i := 10) (oi := { dst := some 57, op := Op.extract (Operand.tmp 47) 0, type := 25, pos := _, after := #[{ on := 9, ground := Ground.data }], guard := none }) (v := (.agg #[.slice b3.a1 R.n b3.c1, .slice b3.a2 R.k b3.c2])) rfl (by kernel_rfl) (by kernel_rfl) (by kernel_rfl) (fun _ _ _ h => h) (Or.inl ⟨by rfl, fun w' hS => by (try dsimp only at hS); go_simp⟩) (HO.out.box) ?_
                      simp only [Act.put, List.setIfInBounds_toArray, List.set_cons_zero, List.set_cons_succ]
                      refine wpAnyH_take (i := 11) (oi := { dst := some 58, op := Op.extract (Operand.tmp 47) 1, type := 4, pos := _, after := #[{ on := 9, ground := Ground.data }, { on := 13, ground := Ground.gcOnly Departure.lateStores }], guard := none }) (v := (.bool r3)) rfl (by kernel_rfl) (by kernel_rfl) (by kernel_rfl) (fun _ _ _ h => h) (Or.inl ⟨by rfl, fun w' hS => by (try dsimp only at hS); go_simp⟩) (HO.out.box) ?_
                      simp only [Act.put, List.setIfInBounds_toArray, List.set_cons_zero, List.set_cons_succ]
                      refine wpAnyH_ready (rs := [13]) (by kernel_rfl) (by simp) ?_
                      refine (AllReadyH.cons (o := { dst := none, op := Op.store 25 (Operand.tmp 10) (Operand.tmp 57), type := 0, pos := _, after := #[{ on := 12, ground := Ground.data }, { on := 10, ground := Ground.data }, { on := 8, ground := Ground.chain }, { on := 0, ground := Ground.phase }, { on := 1, ground := Ground.phase }, { on := 2, ground := Ground.phase }, { on := 3, ground := Ground.phase }, { on := 4, ground := Ground.phase }, { on := 5, ground := Ground.phase }, { on := 6, ground := Ground.phase }, { on := 7, ground := Ground.phase }, { on := 8, ground := Ground.phase }, { on := 9, ground := Ground.phase }, { on := 10, ground := Ground.phase }, { on := 11, ground := Ground.textOnly Departure.lateStores }, { on := 12, ground := Ground.phase }], guard := none }) rfl (fun K hK => ?_) AllReadyH.nil)
                      obtain ⟨z0, z1⟩ := get2 HZ.out
                      have fz0 := HZ.out.frozen 0
                      have fz1 := HZ.out.frozen 1
                      have FIN : Hid _ := got_fin (C := C) hC hYw HO.out HZ.out HZB.out HRR.out HOW.out (fun x hx => by have := HXX.out x hx; omega) (fun x _ h => h.2.2.2) (HOB.out)
                      go_simp
                      refine hK.out _ _ (by obtain ⟨_, _, _, _, _, _, ho, _⟩ := FIN.out; exact ho.box) (fun hB => ?_)
                      clear hK K hB z0 z1 fz0 fz1
                      try simp only [Act.put, List.setIfInBounds_toArray, List.set_cons_zero, List.set_cons_succ]
                      refine wpAnyH_take (i := 14) (oi := { dst := some 11, op := Op.assign (Operand.tmp 58), type := 4, pos := _, after := #[{ on := 11, ground := Ground.data }, { on := 13, ground := Ground.chain }, { on := 0, ground := Ground.phase }, { on := 1, ground := Ground.phase }, { on := 2, ground := Ground.phase }, { on := 3, ground := Ground.phase }, { on := 4, ground := Ground.phase }, { on := 5, ground := Ground.phase }, { on := 6, ground := Ground.phase }, { on := 7, ground := Ground.phase }, { on := 8, ground := Ground.phase }, { on := 9, ground := Ground.phase }, { on := 10, ground := Ground.phase }, { on := 11, ground := Ground.phase }, { on := 12, ground := Ground.phase }, { on := 13, ground := Ground.phase }], guard := none }) (v := (.bool r3)) rfl (by kernel_rfl) (by kernel_rfl) (by kernel_rfl) (fun _ _ _ h => h) (Or.inl ⟨by rfl, fun w' hS => by (try dsimp only at hS); go_simp⟩) (by obtain ⟨_, _, _, _, _, _, ho, _⟩ := FIN.out; exact ho.box) ?_
                      simp only [Act.put, List.setIfInBounds_toArray, List.set_cons_zero, List.set_cons_succ]
                      refine wpAnyH_done (by kernel_rfl) ?_ _
                      refine NoPanic.normal ?_
                      go_wp2_with fail
                      go_meet
                      exact FIN.out
                  · go_simp
                    have HZ : Hid (Row (wp0.alloc (.cells #[.slice none 0 0, .slice none 0 0] 25)) wp0.heap.size 2 (fun i => if i = 0 then .slice none 0 0 else .slice none 0 0)) := box2 wp0 _ _ 25
                    have hzl := HO.out.zl
                    have HZB : Hid (wp0.heap.size ≠ zs ∧ w.heap.size < wp0.heap.size) := ⟨by omega, by omega⟩
                    have HOB : Hid (BookOwn (fun x => w.heap.size < x ∧ x < (wp0.alloc (.cells #[.slice none 0 0, .slice none 0 0] 25)).heap.size ∧ x ≠ zs ∧ x ≠ wp0.heap.size) (wp0.alloc (.cells #[.slice none 0 0, .slice none 0 0] 25)) b4 ⟨16, c4, 16, l4⟩) := (HO.out.own.blw ((Blw.refl _).alloc _)).mono (fun x hx => ⟨hx.1, by simp; omega, hx.2.2, by omega⟩)
                    replace HO : Hid (OwA Y w (wp0.alloc (.cells #[.slice none 0 0, .slice none 0 0] 25)) C (kk + 2 + 2 + 2 + 2 + 2 + 2) zs b4 c4 l4) := HO.out.blw ((Blw.refl _).alloc _)
                    refine hK.out _ _ HO.out.box (fun hB => ?_)
                    clear hK K hB hzl
                    try simp only [Act.put, List.setIfInBounds_toArray, List.set_cons_zero, List.set_cons_succ]
                    have HSA : Hid ((wp0.alloc (.cells #[.slice none 0 0, .slice none 0 0] 25)).heap.size = wp0.heap.size + 1) := by show _ = _; simp
                    generalize wp0.alloc (.cells #[.slice none 0 0, .slice none 0 0] 25) = wA at *
                    refine wpAnyH_ready (rs := [5]) (by kernel_rfl) (by simp) ?_
                    refine (AllReadyH.cons (o := { dst := some 53, op := Op.call { callee := Callee.value (Operand.func 54), args := #[Operand.tmp 52, Operand.const (Value.int IntKind.i64 8)], argTypes := #[63, 3] }, type := 3, pos := _, after := #[{ on := 4, ground := Ground.data }, { on := 2, ground := Ground.chain }], guard := none }) rfl (fun K hK => ?_) AllReadyH.nil)
                    go_simp
                    refine (pick_any Y C _ 8 _ (by omega) (by omega) HO.out.cur).mono ?_
                    rintro e wp1 ⟨x1, rfl, hx1, hc, hm⟩
                    replace HZ : Hid (Row wp1 _ 2 (fun i => if i = 0 then .slice none 0 0 else .slice none 0 0)) := HZ.out.mod hm (by have := HZB.out; omega)
                    replace HOB : Hid (BookOwn _ wp1 b4 ⟨16, c4, 16, l4⟩) := (HOB.out.mod hm (fun x hx e => by omega)).mono (fun x hx => (show _ ∧ _ ∧ _ ∧ _ from ⟨hx.1, Nat.lt_of_lt_of_le hx.2.1 hm.size, hx.2.2⟩))
                    replace HO : Hid (OwA Y w wp1 C (kk + 2 + 2 + 2 + 2 + 2 + 2 + 2) zs b4 c4 l4) := HO.out.go hC hc hm
                    refine hK.out _ _ HO.out.box (fun hB => ?_)
                    clear hK K hB hc hm
                    try simp only [Act.put, List.setIfInBounds_toArray, List.set_cons_zero, List.set_cons_succ]
                    refine wpAnyH_ready (rs := [7]) (by kernel_rfl) (by simp) ?_
                    refine (AllReadyH.cons (o := { dst := some 55, op := Op.call { callee := Callee.value (Operand.func 54), args := #[Operand.tmp 54, Operand.const (Value.int IntKind.i64 2)], argTypes := #[63, 3] }, type := 3, pos := _, after := #[{ on := 6, ground := Ground.data }, { on := 5, ground := Ground.chain }], guard := none }) rfl (fun K hK => ?_) AllReadyH.nil)
                    go_simp
                    refine (pick_any Y C _ 2 _ (by omega) (by omega) HO.out.cur).mono ?_
                    rintro e wp2 ⟨x2, rfl, hx2, hc, hm⟩
                    replace HZ : Hid (Row wp2 _ 2 (fun i => if i = 0 then .slice none 0 0 else .slice none 0 0)) := HZ.out.mod hm (by have := HZB.out; omega)
                    replace HOB : Hid (BookOwn _ wp2 b4 ⟨16, c4, 16, l4⟩) := (HOB.out.mod hm (fun x hx e => by omega)).mono (fun x hx => (show _ ∧ _ ∧ _ ∧ _ from ⟨hx.1, Nat.lt_of_lt_of_le hx.2.1 hm.size, hx.2.2⟩))
                    replace HO : Hid (OwA Y w wp2 C (kk + 2 + 2 + 2 + 2 + 2 + 2 + 2 + 2) zs b4 c4 l4) := HO.out.go hC hc hm
                    refine hK.out _ _ HO.out.box (fun hB => ?_)
                    clear hK K hB hc hm
                    try simp only [Act.put, List.setIfInBounds_toArray, List.set_cons_zero, List.set_cons_succ]
                    refine wpAnyH_ready (rs := [8]) (by kernel_rfl) (by simp) ?_
                    refine (AllReadyH.cons (o := { dst := some 56, op := Op.call { callee := Callee.value (Operand.func 26), args := #[Operand.tmp 48, Operand.tmp 51, Operand.tmp 53, Operand.tmp 55], argTypes := #[25, 3, 3, 3] }, type := 33, pos := _, after := #[{ on := 0, ground := Ground.data }, { on := 3, ground := Ground.data }, { on := 5, ground := Ground.data }, { on := 7, ground := Ground.data }, { on := 7, ground := Ground.chain }], guard := none }) rfl (fun K hK => ?_) AllReadyH.nil)
                    go_simp
                    refine (specFree_any b4 ⟨16, c4, 16, l4⟩ (1 + (x0 : Int)) (x1 : Int) (x2 : Int) _ _ HO.out.own.at (fun x hx => hx.2.1)).mono ?_
                    rintro e wk ⟨b3, R, r3, rfl, ho3, hs3, own3, hbk⟩
                    have hsz := hbk.size
                    have hzl := HO.out.zl
                    have HRR : Hid (r3 = true → R.n = 16 ∧ R.k = 16) := fun e => (by rcases ho3 with ⟨_, e2, _⟩ | ⟨_, _, e2⟩ <;> first | (subst e2; exact ⟨rfl, rfl⟩) | (rw [e] at e2; cases e2))
                    have HZL := HZ.out.lt
                    replace HZ : Hid (Row wk _ 2 (fun i => if i = 0 then .slice none 0 0 else .slice none 0 0)) := HZ.out.blw hbk
                    replace HOB : Hid (BookOwn _ wk b4 ⟨16, c4, 16, l4⟩) := (HOB.out.blw hbk).mono (fun x hx => (show _ ∧ _ ∧ _ ∧ _ from ⟨hx.1, Nat.lt_of_lt_of_le hx.2.1 hsz, hx.2.2⟩))
                    have hsa := HSA.out
                    have HXX : Hid (∀ x, _ → w.heap.size < x ∧ x < wk.heap.size ∧ x ≠ zs ∧ x ≠ _) := fun x (hx : wp2.heap.size ≤ x ∧ x < wk.heap.size) => ⟨by omega, hx.2, by omega, fun (e : x = wp0.heap.size) => by omega⟩
                    have HOW : Hid (BookOwn _ wk b3 R) := own3
                    replace HO : Hid (OwA Y w wk C (kk + 2 + 2 + 2 + 2 + 2 + 2 + 2 + 2) zs b4 c4 l4) := HO.out.blw hbk
                    refine hK.out _ _ HO.out.box (fun hB => ?_)
                    clear hK K hB ho3 hs3 own3 hbk hsz hzl HZL hsa
                    try simp only [Act.put, List.setIfInBounds_toArray, List.set_cons_zero, List.set_cons_succ]
                    refine wpAnyH_take (i := 9) (oi := { dst := some 47, op := Op.move (Operand.tmp 56), type := 33, pos := _, after := #[{ on := 8, ground := Ground.data }], guard := none }) (v := (.tuple #[b3.val R, .bool r3])) rfl (by kernel_rfl) (by kernel_rfl) (by kernel_rfl) (fun _ _ _ h => h) (Or.inl ⟨by rfl, fun w' hS => by (try dsimp only at hS); go_simp⟩) (HO.out.box) ?_
                    simp only [Act.put, List.setIfInBounds_toArray, List.set_cons_zero, List.set_cons_succ]
                    refine wpAnyH_take (i := 10) (oi := { dst := some 57, op := Op.extract (Operand.tmp 47) 0, type := 25, pos := _, after := #[{ on := 9, ground := Ground.data }], guard := none }) (v := (.agg #[.slice b3.a1 R.n b3.c1, .slice b3.a2 R.k b3.c2])) rfl (by kernel_rfl) (by kernel_rfl) (by kernel_rfl) (fun _ _ _ h => h) (Or.inl ⟨by rfl, fun w' hS => by (try dsimp only at hS); go_simp⟩) (HO.out.box) ?_
                    simp only [Act.put, List.setIfInBounds_toArray, List.set_cons_zero, List.set_cons_succ]
                    refine wpAnyH_take (i := 11) (oi := { dst := some 58, op := Op.extract (Operand.tmp 47) 1, type := 4, pos := _, after := #[{ on := 9, ground := Ground.data }, { on := 13, ground := Ground.gcOnly Departure.lateStores }], guard := none }) (v := (.bool r3)) rfl (by kernel_rfl) (by kernel_rfl) (by kernel_rfl) (fun _ _ _ h => h) (Or.inl ⟨by rfl, fun w' hS => by (try dsimp only at hS); go_simp⟩) (HO.out.box) ?_
                    simp only [Act.put, List.setIfInBounds_toArray, List.set_cons_zero, List.set_cons_succ]
                    refine wpAnyH_ready (rs := [13]) (by kernel_rfl) (by simp) ?_
                    refine (AllReadyH.cons (o := { dst := none, op := Op.store 25 (Operand.tmp 10) (Operand.tmp 57), type := 0, pos := _, after := #[{ on := 12, ground := Ground.data }, { on := 10, ground := Ground.data }, { on := 8, ground := Ground.chain }, { on := 0, ground := Ground.phase }, { on := 1, ground := Ground.phase }, { on := 2, ground := Ground.phase }, { on := 3, ground := Ground.phase }, { on := 4, ground := Ground.phase }, { on := 5, ground := Ground.phase }, { on := 6, ground := Ground.phase }, { on := 7, ground := Ground.phase }, { on := 8, ground := Ground.phase }, { on := 9, ground := Ground.phase }, { on := 10, ground := Ground.phase }, { on := 11, ground := Ground.textOnly Departure.lateStores }, { on := 12, ground := Ground.phase }], guard := none }) rfl (fun K hK => ?_) AllReadyH.nil)
                    obtain ⟨z0, z1⟩ := get2 HZ.out
                    have fz0 := HZ.out.frozen 0
                    have fz1 := HZ.out.frozen 1
                    have FIN : Hid _ := got_fin (C := C) hC hYw HO.out HZ.out HZB.out HRR.out HOW.out (fun x hx => by have := HXX.out x hx; omega) (fun x _ h => h.2.2.2) (HOB.out)
                    go_simp
                    refine hK.out _ _ (by obtain ⟨_, _, _, _, _, _, ho, _⟩ := FIN.out; exact ho.box) (fun hB => ?_)
                    clear hK K hB z0 z1 fz0 fz1
                    try simp only [Act.put, List.setIfInBounds_toArray, List.set_cons_zero, List.set_cons_succ]
                    refine wpAnyH_take (i := 14) (oi := { dst := some 11, op := Op.assign (Operand.tmp 58), type := 4, pos := _, after := #[{ on := 11, ground := Ground.data }, { on := 13, ground := Ground.chain }, { on := 0, ground := Ground.phase }, { on := 1, ground := Ground.phase }, { on := 2, ground := Ground.phase }, { on := 3, ground := Ground.phase }, { on := 4, ground := Ground.phase }, { on := 5, ground := Ground.phase }, { on := 6, ground := Ground.phase }, { on := 7, ground := Ground.phase }, { on := 8, ground := Ground.phase }, { on := 9, ground := Ground.phase }, { on := 10, ground := Ground.phase }, { on := 11, ground := Ground.phase }, { on := 12, ground := Ground.phase }, { on := 13, ground := Ground.phase }], guard := none }) (v := (.bool r3)) rfl (by kernel_rfl) (by kernel_rfl) (by kernel_rfl) (fun _ _ _ h => h) (Or.inl ⟨by rfl, fun w' hS => by (try dsimp only at hS); go_simp⟩) (by obtain ⟨_, _, _, _, _, _, ho, _⟩ := FIN.out; exact ho.box) ?_
                    simp only [Act.put, List.setIfInBounds_toArray, List.set_cons_zero, List.set_cons_succ]
                    refine wpAnyH_done (by kernel_rfl) ?_ _
                    refine NoPanic.normal ?_
                    go_wp2_with fail
                    go_meet
                    exact FIN.out
                · go_simp
                  have HZ : Hid (Row (wd.alloc (.cells #[.slice none 0 0, .slice none 0 0] 25)) wd.heap.size 2 (fun i => if i = 0 then .slice none 0 0 else .slice none 0 0)) := box2 wd _ _ 25
                  have hzl := HO.out.zl
                  have HZB : Hid (wd.heap.size ≠ zs ∧ w.heap.size < wd.heap.size) := ⟨by omega, by omega⟩
                  have HOB : Hid (BookOwn (fun x => w.heap.size < x ∧ x < (wd.alloc (.cells #[.slice none 0 0, .slice none 0 0] 25)).heap.size ∧ x ≠ zs ∧ x ≠ wd.heap.size) (wd.alloc (.cells #[.slice none 0 0, .slice none 0 0] 25)) b4 ⟨16, c4, 16, l4⟩) := (HO.out.own.blw ((Blw.refl _).alloc _)).mono (fun x hx => ⟨hx.1, by simp; omega, hx.2.2, by omega⟩)
                  replace HO : Hid (OwA Y w (wd.alloc (.cells #[.slice none 0 0, .slice none 0 0] 25)) C (kk + 2 + 2 + 2 + 2 + 2) zs b4 c4 l4) := HO.out.blw ((Blw.refl _).alloc _)
                  refine hK.out _ _ HO.out.box (fun hB => ?_)
                  clear hK K hB hzl
                  try simp only [Act.put, List.setIfInBounds_toArray, List.set_cons_zero, List.set_cons_succ]
                  have HSA : Hid ((wd.alloc (.cells #[.slice none 0 0, .slice none 0 0] 25)).heap.size = wd.heap.size + 1) := by show _ = _; simp
                  generalize wd.alloc (.cells #[.slice none 0 0, .slice none 0 0] 25) = wA at *
                  refine wpAnyH_ready (rs := [2]) (by kernel_rfl) (by simp) ?_
                  refine (AllReadyH.cons (o := { dst := some 50, op := Op.call { callee := Callee.value (Operand.func 54), args := #[Operand.tmp 49, Operand.const (Value.int IntKind.i64 3)], argTypes := #[63, 3] }, type := 3, pos := _, after := #[{ on := 1, ground := Ground.data }], guard := none }) rfl (fun K hK => ?_) AllReadyH.nil)
                  go_simp
                  refine (pick_any Y C _ 3 _ (by omega) (by omega) HO.out.cur).mono ?_
                  rintro e wp0 ⟨x0, rfl, hx0, hc, hm⟩
                  replace HZ : Hid (Row wp0 _ 2 (fun i => if i = 0 then .slice none 0 0 else .slice none 0 0)) := HZ.out.mod hm (by have := HZB.out; omega)
                  replace HOB : Hid (BookOwn _ wp0 b4 ⟨16, c4, 16, l4⟩) := (HOB.out.mod hm (fun x hx e => by omega)).mono (fun x hx => (show _ ∧ _ ∧ _ ∧ _ from ⟨hx.1, Nat.lt_of_lt_of_le hx.2.1 hm.size, hx.2.2⟩))
                  replace HO : Hid (OwA Y w wp0 C (kk + 2 + 2 + 2 + 2 + 2 + 2) zs b4 c4 l4) := HO.out.go hC hc hm
                  refine hK.out _ _ HO.out.box (fun hB => ?_)
                  clear hK K hB hc hm
                  try simp only [Act.put, List.setIfInBounds_toArray, List.set_cons_zero, List.set_cons_succ]
                  have ea := wrap1 x0 (by omega)
                  refine wpAnyH_take (i := 3) (oi := { dst := some 51, op := Op.binOp BinOp.add 3 (Operand.const (Value.int IntKind.i64 1)) (Operand.tmp 50) 3, type := 3, pos := _, after := #[{ on := 2, ground := Ground.data }], guard := none }) (v := (.int .i64 (1 + (x0 : Int)))) rfl (by kernel_rfl) (by kernel_rfl) (by kernel_rfl) (fun _ _ _ h => h) (Or.inl ⟨by rfl, fun w' hS => by (try dsimp only at hS); go_simp⟩) (HO.out.box) ?_
                  simp only [Act.put, List.setIfInBounds_toArray, List.set_cons_zero, List.set_cons_succ]
                  clear ea
                  refine wpAnyH_ready (rs := [5]) (by kernel_rfl) (by simp) ?_
                  refine (AllReadyH.cons (o := { dst := some 53, op := Op.call { callee := Callee.value (Operand.func 54), args := #[Operand.tmp 52, Operand.const (Value.int IntKind.i64 8)], argTypes := #[63, 3] }, type := 3, pos := _, after := #[{ on := 4, ground := Ground.data }, { on := 2, ground := Ground.chain }], guard := none }) rfl (fun K hK => ?_) AllReadyH.nil)
                  go_simp
                  refine (pick_any Y C _ 8 _ (by omega) (by omega) HO.out.cur).mono ?_
                  rintro e wp1 ⟨x1, rfl, hx1, hc, hm⟩
                  replace HZ : Hid (Row wp1 _ 2 (fun i => if i = 0 then .slice none 0 0 else .slice none 0 0)) := HZ.out.mod hm (by have := HZB.out; omega)
                  replace HOB : Hid (BookOwn _ wp1 b4 ⟨16, c4, 16, l4⟩) := (HOB.out.mod hm (fun x hx e => by omega)).mono (fun x hx => (show _ ∧ _ ∧ _ ∧ _ from ⟨hx.1, Nat.lt_of_lt_of_le hx.2.1 hm.size, hx.2.2⟩))
                  replace HO : Hid (OwA Y w wp1 C (kk + 2 + 2 + 2 + 2 + 2 + 2 + 2) zs b4 c4 l4) := HO.out.go hC hc hm
                  refine hK.out _ _ HO.out.box (fun hB => ?_)
                  clear hK K hB hc hm
                  try simp only [Act.put, List.setIfInBounds_toArray, List.set_cons_zero, List.set_cons_succ]
                  refine wpAnyH_ready (rs := [7]) (by kernel_rfl) (by simp) ?_
                  refine (AllReadyH.cons (o := { dst := some 55, op := Op.call { callee := Callee.value (Operand.func 54), args := #[Operand.tmp 54, Operand.const (Value.int IntKind.i64 2)], argTypes := #[63, 3] }, type := 3, pos := _, after := #[{ on := 6, ground := Ground.data }, { on := 5, ground := Ground.chain }], guard := none }) rfl (fun K hK => ?_) AllReadyH.nil)
                  go_simp
                  refine (pick_any Y C _ 2 _ (by omega) (by omega) HO.out.cur).mono ?_
                  rintro e wp2 ⟨x2, rfl, hx2, hc, hm⟩
                  replace HZ : Hid (Row wp2 _ 2 (fun i => if i = 0 then .slice none 0 0 else .slice none 0 0)) := HZ.out.mod hm (by have := HZB.out; omega)
                  replace HOB : Hid (BookOwn _ wp2 b4 ⟨16, c4, 16, l4⟩) := (HOB.out.mod hm (fun x hx e => by omega)).mono (fun x hx => (show _ ∧ _ ∧ _ ∧ _ from ⟨hx.1, Nat.lt_of_lt_of_le hx.2.1 hm.size, hx.2.2⟩))
                  replace HO : Hid (OwA Y w wp2 C (kk + 2 + 2 + 2 + 2 + 2 + 2 + 2 + 2) zs b4 c4 l4) := HO.out.go hC hc hm
                  refine hK.out _ _ HO.out.box (fun hB => ?_)
                  clear hK K hB hc hm
                  try simp only [Act.put, List.setIfInBounds_toArray, List.set_cons_zero, List.set_cons_succ]
                  refine wpAnyH_ready (rs := [8]) (by kernel_rfl) (by simp) ?_
                  refine (AllReadyH.cons (o := { dst := some 56, op := Op.call { callee := Callee.value (Operand.func 26), args := #[Operand.tmp 48, Operand.tmp 51, Operand.tmp 53, Operand.tmp 55], argTypes := #[25, 3, 3, 3] }, type := 33, pos := _, after := #[{ on := 0, ground := Ground.data }, { on := 3, ground := Ground.data }, { on := 5, ground := Ground.data }, { on := 7, ground := Ground.data }, { on := 7, ground := Ground.chain }], guard := none }) rfl (fun K hK => ?_) AllReadyH.nil)
                  go_simp
                  refine (specFree_any b4 ⟨16, c4, 16, l4⟩ (1 + (x0 : Int)) (x1 : Int) (x2 : Int) _ _ HO.out.own.at (fun x hx => hx.2.1)).mono ?_
                  rintro e wk ⟨b3, R, r3, rfl, ho3, hs3, own3, hbk⟩
                  have hsz := hbk.size
                  have hzl := HO.out.zl
                  have HRR : Hid (r3 = true → R.n = 16 ∧ R.k = 16) := fun e => (by rcases ho3 with ⟨_, e2, _⟩ | ⟨_, _, e2⟩ <;> first | (subst e2; exact ⟨rfl, rfl⟩) | (rw [e] at e2; cases e2))
                  have HZL := HZ.out.lt
                  replace HZ : Hid (Row wk _ 2 (fun i => if i = 0 then .slice none 0 0 else .slice none 0 0)) := HZ.out.blw hbk
                  replace HOB : Hid (BookOwn _ wk b4 ⟨16, c4, 16, l4⟩) := (HOB.out.blw hbk).mono (fun x hx => (show _ ∧ _ ∧ _ ∧ _ from ⟨hx.1, Nat.lt_of_lt_of_le hx.2.1 hsz, hx.2.2⟩))
                  have hsa := HSA.out
                  have HXX : Hid (∀ x, _ → w.heap.size < x ∧ x < wk.heap.size ∧ x ≠ zs ∧ x ≠ _) := fun x (hx : wp2.heap.size ≤ x ∧ x < wk.heap.size) => ⟨by omega, hx.2, by omega, fun (e : x = wd.heap.size) => by omega⟩
                  have HOW : Hid (BookOwn _ wk b3 R) := own3
                  replace HO : Hid (OwA Y w wk C (kk + 2 + 2 + 2 + 2 + 2 + 2 + 2 + 2) zs b4 c4 l4) := HO.out.blw hbk
                  refine hK.out _ _ HO.out.box (fun hB => ?_)
                  clear hK K hB ho3 hs3 own3 hbk hsz hzl HZL hsa
                  try simp only [Act.put, List.setIfInBounds_toArray, List.set_cons_zero, List.set_cons_succ]
                  refine wpAnyH_take (i := 9) (oi := { dst := some 47, op := Op.move (Operand.tmp 56), type := 33, pos := _, after := #[{ on := 8, ground := Ground.data }], guard := none }) (v := (.tuple #[b3.val R, .bool r3])) rfl (by kernel_rfl) (by kernel_rfl) (by kernel_rfl) (fun _ _ _ h => h) (Or.inl ⟨by rfl, fun w' hS => by (try dsimp only at hS); go_simp⟩) (HO.out.box) ?_
                  simp only [Act.put, List.setIfInBounds_toArray, List.set_cons_zero, List.set_cons_succ]
                  refine wpAnyH_take (i := 10) (oi := { dst := some 57, op := Op.extract (Operand.tmp 47) 0, type := 25, pos := _, after := #[{ on := 9, ground := Ground.data }], guard := none }) (v := (.agg #[.slice b3.a1 R.n b3.c1, .slice b3.a2 R.k b3.c2])) rfl (by kernel_rfl) (by kernel_rfl) (by kernel_rfl) (fun _ _ _ h => h) (Or.inl ⟨by rfl, fun w' hS => by (try dsimp only at hS); go_simp⟩) (HO.out.box) ?_
                  simp only [Act.put, List.setIfInBounds_toArray, List.set_cons_zero, List.set_cons_succ]
                  refine wpAnyH_take (i := 11) (oi := { dst := some 58, op := Op.extract (Operand.tmp 47) 1, type := 4, pos := _, after := #[{ on := 9, ground := Ground.data }, { on := 13, ground := Ground.gcOnly Departure.lateStores }], guard := none }) (v := (.bool r3)) rfl (by kernel_rfl) (by kernel_rfl) (by kernel_rfl) (fun _ _ _ h => h) (Or.inl ⟨by rfl, fun w' hS => by (try dsimp only at hS); go_simp⟩) (HO.out.box) ?_
                  simp only [Act.put, List.setIfInBounds_toArray, List.set_cons_zero, List.set_cons_succ]
                  refine wpAnyH_ready (rs := [13]) (by kernel_rfl) (by simp) ?_
                  refine (AllReadyH.cons (o := { dst := none, op := Op.store 25 (Operand.tmp 10) (Operand.tmp 57), type := 0, pos := _, after := #[{ on := 12, ground := Ground.data }, { on := 10, ground := Ground.data }, { on := 8, ground := Ground.chain }, { on := 0, ground := Ground.phase }, { on := 1, ground := Ground.phase }, { on := 2, ground := Ground.phase }, { on := 3, ground := Ground.phase }, { on := 4, ground := Ground.phase }, { on := 5, ground := Ground.phase }, { on := 6, ground := Ground.phase }, { on := 7, ground := Ground.phase }, { on := 8, ground := Ground.phase }, { on := 9, ground := Ground.phase }, { on := 10, ground := Ground.phase }, { on := 11, ground := Ground.textOnly Departure.lateStores }, { on := 12, ground := Ground.phase }], guard := none }) rfl (fun K hK => ?_) AllReadyH.nil)
                  obtain ⟨z0, z1⟩ := get2 HZ.out
                  have fz0 := HZ.out.frozen 0
                  have fz1 := HZ.out.frozen 1
                  have FIN : Hid _ := got_fin (C := C) hC hYw HO.out HZ.out HZB.out HRR.out HOW.out (fun x hx => by have := HXX.out x hx; omega) (fun x _ h => h.2.2.2) (HOB.out)
                  go_simp
                  refine hK.out _ _ (by obtain ⟨_, _, _, _, _, _, ho, _⟩ := FIN.out; exact ho.box) (fun hB => ?_)
                  clear hK K hB z0 z1 fz0 fz1
                  try simp only [Act.put, List.setIfInBounds_toArray, List.set_cons_zero, List.set_cons_succ]
                  refine wpAnyH_take (i := 14) (oi := { dst := some 11, op := Op.assign (Operand.tmp 58), type := 4, pos := _, after := #[{ on := 11, ground := Ground.data }, { on := 13, ground := Ground.chain }, { on := 0, ground := Ground.phase }, { on := 1, ground := Ground.phase }, { on := 2, ground := Ground.phase }, { on := 3, ground := Ground.phase }, { on := 4, ground := Ground.phase }, { on := 5, ground := Ground.phase }, { on := 6, ground := Ground.phase }, { on := 7, ground := Ground.phase }, { on := 8, ground := Ground.phase }, { on := 9, ground := Ground.phase }, { on := 10, ground := Ground.phase }, { on := 11, ground := Ground.phase }, { on := 12, ground := Ground.phase }, { on := 13, ground := Ground.phase }], guard := none }) (v := (.bool r3)) rfl (by kernel_rfl) (by kernel_rfl) (by kernel_rfl) (fun _ _ _ h => h) (Or.inl ⟨by rfl, fun w' hS => by (try dsimp only at hS); go_simp⟩) (by obtain ⟨_, _, _, _, _, _, ho, _⟩ := FIN.out; exact ho.box) ?_
                  simp only [Act.put, List.setIfInBounds_toArray, List.set_cons_zero, List.set_cons_succ]
                  refine wpAnyH_done (by kernel_rfl) ?_ _
                  refine NoPanic.normal ?_
                  go_wp2_with fail
                  go_meet
                  exact FIN.out
              case rest =>
                clear HO P0 P1
                obtain ⟨zb, b3, R, r, rfl, rfl, ho, hzb, hne, hr, own⟩ := hcut
                have HO : Hid (OwA Y w wc C (kk + 2 + 2 + 2 + 2 + 2 + 2 + 2 + 2) zs b4 c4 l4) := ho
                have HZ : Hid (Row wc zb 2 (bx2 b3 R.n R.k)) := hzb
                have HR : Hid (r = true → R.n = 16 ∧ R.k = 16) := hr
                have HOO : Hid (BookOwn (fun x => w.heap.size < x ∧ x < wc.heap.size ∧ x ≠ zs) wc b3 R) := own
                clear ho hzb hr own
                cases r
                · have FIN : Hid (Ow Y w wc C (kk + 2 + 2 + 2 + 2 + 2 + 2 + 2 + 2) zs) := got_no HO.out
                  obtain ⟨b9, c9, l9, ho9⟩ := FIN.out
                  have HFN : Hid (Ow Y w _ C (k + 2 + 16 * (7 - (i - 1))) zs) := ⟨b9, c9, l9, ho9.le (by have := HKK.out; omega)⟩
                  clear ho9 FIN HZ HO HR HOO
                  go_wp2
                  go_roundw
                  case rel => exact ⟨i - 1, by omega, by congr 1; omega, HFN.out⟩
                  case measure => simp [intOf]; omega
                · obtain ⟨z0, z1⟩ := get2 HZ.out
                  obtain ⟨t0, t1⟩ := get2 HO.out.box
                  have f0 := HO.out.box.frozen 0
                  have f1 := HO.out.box.frozen 1
                  have FIN : Hid _ := got_yes hC hYw HO.out (HR.out rfl) HOO.out
                  obtain ⟨b9, c9, l9, ho9⟩ := FIN.out
                  have HFN : Hid (Ow Y w _ C (k + 2 + 16 * (7 - (i - 1))) zs) := ⟨b9, c9, l9, ho9.le (by have := HKK.out; omega)⟩
                  clear ho9 FIN HZ HO HR HOO
                  go_wp2
                  go_roundw
                  case rel => exact ⟨i - 1, by omega, by congr 1; omega, HFN.out⟩
                  case measure => simp [intOf]; omega
    · obtain rfl : i = 0 := by omega
      obtain ⟨b4, c4, l4, ho4⟩ := HOW0.out
      go_wp2_with fail
      refine (pick_any Y C (k + 2 + 16 * (7 - 0)) 30 _ (by omega) (by omega) ho4.cur).mono ?_
      rintro e w5 ⟨x, rfl, hx30, hc5, hm5⟩
      have HO : Hid (OwA Y w w5 C (k + 2 + 16 * (7 - 0) + 2) zs b4 c4 l4) := ho4.go hC hc5 hm5
      clear HOW0 ho4 hc5 hm5
      obtain ⟨a1, a2, q1, q2⟩ := b4
      by_cases x0 : x = 0
      · subst x0
        obtain ⟨y, ea, hy, hcell, hfr, hnew⟩ := book_owned HO.out.own 0
        dsimp only at ea
        subst ea
        have P0 : ∀ w', Row w' zs 2 (bx2 ⟨some ⟨y, 0, none⟩, a2, q1, q2⟩ 16 16) → w'.cell? ⟨zs, 0, none⟩ = some (.slice (some ⟨y, 0, none⟩) 16 q1) := fun w' hh => (get2 hh).1
        have P1 : ∀ w', Row w' zs 2 (bx2 ⟨some ⟨y, 0, none⟩, a2, q1, q2⟩ 16 16) → w'.cell? ⟨zs, 1, none⟩ = some (.slice a2 16 q2) := fun w' hh => (get2 hh).2
        clear hcell hfr hnew
        go_upto_region 16 with fail
        refine wp_region_noPanic ?_
        refine wp_region_held_drew (S := fun w' => Row w' zs 2 (bx2 ⟨some ⟨y, 0, none⟩, a2, q1, q2⟩ 16 16)) (by kernel_rfl) (HO.out.box.blw (Blw.refl _).drew) (fun hB => ?_)
        replace HO : Hid (OwA Y w w5.drew C (k + 2 + 16 * (7 - 0) + 2) zs ⟨some ⟨y, 0, none⟩, a2, q1, q2⟩ c4 l4) := HO.out.blw (Blw.refl _).drew
        clear hB
        generalize w5.drew = wd at *
        refine wpAnyH_take (i := 0) (oi := { dst := some 65, op := Op.fieldAddr 25 (Operand.tmp 3) 0, type := 0, pos := _, after := #[], guard := none }) (v := (.pointer (some ⟨zs, 0, none⟩))) rfl (by kernel_rfl) (by kernel_rfl) (by kernel_rfl) (fun _ _ _ h => h) (Or.inl ⟨by rfl, fun w' hS => by (try dsimp only at hS); go_simp⟩) HO.out.box ?_
        simp only [Act.put, List.setIfInBounds_toArray, List.set_cons_zero, List.set_cons_succ]
        refine wpAnyH_take (i := 1) (oi := { dst := some 66, op := Op.load 23 (Operand.tmp 65), type := 23, pos := _, after := #[{ on := 0, ground := Ground.data }], guard := none }) (v := (.slice (some ⟨y, 0, none⟩) 16 q1)) rfl (by kernel_rfl) (by kernel_rfl) (by kernel_rfl) (fun _ _ _ h => h) (Or.inl ⟨by rfl, fun w' hS => by (try dsimp only at hS); go_simp⟩) HO.out.box ?_
        simp only [Act.put, List.setIfInBounds_toArray, List.set_cons_zero, List.set_cons_succ]
        refine wpAnyH_take (i := 2) (oi := { dst := some 67, op := Op.move (Operand.tmp 0), type := 63, pos := _, after := #[], guard := none }) (v := (.pointer (some ⟨C, 0, none⟩))) rfl (by kernel_rfl) (by kernel_rfl) (by kernel_rfl) (fun _ _ _ h => h) (Or.inl ⟨by rfl, fun w' hS => by (try dsimp only at hS); go_simp⟩) HO.out.box ?_
        simp only [Act.put, List.setIfInBounds_toArray, List.set_cons_zero, List.set_cons_succ]
        refine wpAnyH_ready (rs := [3]) (by kernel_rfl) (by simp) ?_
        refine AllReadyH.cons (o := { dst := some 68, op := Op.buildSlice 23 3 #[(0, Operand.const (Value.int IntKind.i64 (-1))), (1, Operand.const (Value.int IntKind.i64 6)), (2, Operand.const (Value.int IntKind.i64 7))], type := 23, pos := _, after := #[], guard := none }) rfl (fun K hK => ?_) AllReadyH.nil
        have HI3 : Hid (IntsAt (fun b => b = wd.heap.size) (wd.alloc (.cells #[.int .i64 (-1), .int .i64 6, .int .i64 7] 3)) (some ⟨wd.heap.size, 0, none⟩) 3 (fun i => if i = 0 then -1 else if i = 1 then 6 else 7)) := by
          have r3 := box3 wd (.int .i64 (-1)) (.int .i64 6) (.int .i64 7) 3
          refine ⟨by omega, fun i hi => ⟨wd.heap.size, 0, rfl, rfl, ?_⟩⟩
          rw [Nat.zero_add, r3.cell hi]
          match i, hi with
          | 0, _ => rfl
          | 1, _ => rfl
          | 2, _ => rfl
        have HCW : Hid (C < wd.heap.size) := by have := HO.out.mod.size; show _ < _; omega
        replace HO : Hid (OwA Y w (wd.alloc (.cells #[.int .i64 (-1), .int .i64 6, .int .i64 7] 3)) C (k + 2 + 16 * (7 - 0) + 2) zs ⟨some ⟨y, 0, none⟩, a2, q1, q2⟩ c4 l4) := HO.out.blw ((Blw.refl _).alloc _)
        go_simp
        refine hK.out _ _ HO.out.box (fun hB => ?_)
        clear hK K hB
        try simp only [Act.put, List.setIfInBounds_toArray, List.set_cons_zero, List.set_cons_succ]
        generalize (wd.alloc (.cells #[.int .i64 (-1), .int .i64 6, .int .i64 7] 3)) = wA at *
        refine wpAnyH_ready (rs := [4]) (by kernel_rfl) (by simp) ?_
        refine AllReadyH.cons (o := { dst := some 69, op := Op.call { callee := Callee.value (Operand.func 83), args := #[Operand.tmp 67, Operand.tmp 68], argTypes := #[63, 23] }, type := 3, pos := _, after := #[{ on := 2, ground := Ground.data }, { on := 3, ground := Ground.data }], guard := none }) rfl (fun K hK => ?_) AllReadyH.nil
        go_simp
        refine (among_any Y _ C (k + 2 + 16 * (7 - 0) + 2) _ 3 3 _ _ (by omega) (by omega) HI3.out (fun b hb => by have := HCW.out; omega) HO.out.cur).mono ?_
        rintro e w6 ⟨xa, rfl, hc6, hm6⟩
        replace HO : Hid (OwA Y w w6 C (k + 2 + 16 * (7 - 0) + 2 + 2) zs ⟨some ⟨y, 0, none⟩, a2, q1, q2⟩ c4 l4) := HO.out.go hC hc6 hm6
        refine hK.out _ _ HO.out.box (fun hB => ?_)
        clear hK K hB hc6 hm6 HI3 HCW
        try simp only [Act.put, List.setIfInBounds_toArray, List.set_cons_zero, List.set_cons_succ]
        refine wpAnyH_take (i := 5) (oi := { dst := some 70, op := Op.indexAddr 23 (Operand.tmp 66) (Operand.const (Value.int IntKind.i64 0)), type := 0, pos := _, after := #[{ on := 1, ground := Ground.data }, { on := 0, ground := Ground.phase }, { on := 1, ground := Ground.phase }, { on := 2, ground := Ground.phase }, { on := 3, ground := Ground.phase }, { on := 4, ground := Ground.phase }], guard := none }) (v := (.pointer (some ⟨y, 0, none⟩))) rfl (by kernel_rfl) (by kernel_rfl) (by kernel_rfl) (fun _ _ _ h => h) (Or.inl ⟨by rfl, fun w' hS => by (try dsimp only at hS); go_simp⟩) HO.out.box ?_
        simp only [Act.put, List.setIfInBounds_toArray, List.set_cons_zero, List.set_cons_succ]
        refine wpAnyH_ready (rs := [6]) (by kernel_rfl) (by simp) ?_
        refine AllReadyH.cons (o := { dst := none, op := Op.store 3 (Operand.tmp 70) (Operand.tmp 69), type := 0, pos := _, after := #[{ on := 5, ground := Ground.data }, { on := 4, ground := Ground.data }, { on := 4, ground := Ground.chain }, { on := 0, ground := Ground.phase }, { on := 1, ground := Ground.phase }, { on := 2, ground := Ground.phase }, { on := 3, ground := Ground.phase }, { on := 4, ground := Ground.phase }], guard := none }) rfl (fun K hK => ?_) AllReadyH.nil
        obtain ⟨y', ea, hy2, hcell, hfr, hnew⟩ := book_owned HO.out.own xa
        cases ea
        replace HO : Hid (OwA Y w (w6.setCell ⟨y, 0, none⟩ (.int .i64 xa)) C (k + 2 + 16 * (7 - 0) + 2 + 2) zs ⟨some ⟨y, 0, none⟩, a2, q1, q2⟩ (upd c4 0 xa) l4) := HO.out.put hC hYw hy2 hnew
        clear hnew hy2 hy
        go_simp
        refine hK.out _ _ HO.out.box (fun hB => ?_)
        clear hK K hB hcell hfr P0 P1
        try simp only [Act.put, List.setIfInBounds_toArray, List.set_cons_zero, List.set_cons_succ]
        refine wpAnyH_done (by kernel_rfl) ?_ _
        refine NoPanic.normal ?_
        generalize w6.setCell ⟨y, 0, none⟩ (.int .i64 xa) = w7 at *
        obtain ⟨g0, g1⟩ := get2 HO.out.box
        obtain ⟨t0, t1⟩ := get2 HO.out.out
        have f0 := HO.out.out.frozen 0
        have f1 := HO.out.out.frozen 1
        have FIN : Hid _ := ow_fin (K := k + 400) hC hYw HO.out (by omega)
        clear HO
        go_wp2
        exact bodyPost_ret (v := .agg #[.slice (some ⟨y, 0, none⟩) 16 q1, .slice a2 16 q2]) (by simp [results, Try.results53, go_sem, t0, t1, BV.val]) rfl ⟨⟨some ⟨y, 0, none⟩, a2, q1, q2⟩, _, _, rfl, FIN.out⟩
      · have d0 : ((x : Int) == 0) = false := by simp; omega
        by_cases x1 : x = 1
        · subst x1
          obtain ⟨y, ea, hy, hcell, hfr, hnew⟩ := book_lent HO.out.own 15 1 (fun x hx => hx.2.1)
          dsimp only at ea
          subst ea
          have hcl := hcell (by omega)
          obtain ⟨q0, q1'⟩ := get2 HO.out.box
          have HN : Hid (OwA Y w (w5.setCell ⟨y, 15, none⟩ (.int .i64 1)) C (k + 2 + 16 * (7 - 0) + 2) zs ⟨a1, some ⟨y, 0, none⟩, q1, q2⟩ c4 (upd l4 15 1)) := HO.out.put hC hYw hy hnew
          clear hcell hnew HO hy
          go_upto_region 19 with fail
          clear q0 q1' hcl hfr
          have HO := HN
          clear HN
          generalize w5.setCell ⟨y, 15, none⟩ (.int .i64 1) = w7 at *
          obtain ⟨g0, g1⟩ := get2 HO.out.box
          obtain ⟨t0, t1⟩ := get2 HO.out.out
          have f0 := HO.out.out.frozen 0
          have f1 := HO.out.out.frozen 1
          have FIN : Hid _ := ow_fin (K := k + 400) hC hYw HO.out (by omega)
          clear HO
          go_wp2
          exact bodyPost_ret (v := .agg #[.slice a1 16 q1, .slice (some ⟨y, 0, none⟩) 16 q2]) (by simp [results, Try.results53, go_sem, t0, t1, BV.val]) rfl ⟨⟨a1, some ⟨y, 0, none⟩, q1, q2⟩, _, _, rfl, FIN.out⟩
        · have d1 : ((x : Int) == 1) = false := by simp; omega
          obtain ⟨g0, g1⟩ := get2 HO.out.box
          obtain ⟨t0, t1⟩ := get2 HO.out.out
          have f0 := HO.out.out.frozen 0
          have f1 := HO.out.out.frozen 1
          have FIN : Hid _ := ow_fin (K := k + 400) hC hYw HO.out (by omega)
          clear HO
          go_wp2
          exact bodyPost_ret (v := .agg #[.slice a1 16 q1, .slice a2 16 q2]) (by simp [results, Try.results53, go_sem, t0, t1, BV.val]) rfl ⟨⟨a1, a2, q1, q2⟩, _, _, rfl, FIN.out⟩
end Go.Proofs.Ytfmmpddknanhbaa
