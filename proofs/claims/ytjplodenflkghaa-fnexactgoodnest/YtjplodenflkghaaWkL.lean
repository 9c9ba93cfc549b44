/- Walkers: what they read as, what is owned; compared, marked, held. -/
import Derived.Test.YtjplodenflkghaaShort
import Derived.Test.YtjplodenflkghaaTabL
import Derived.Test.YtjplodenflkghaaLawB
namespace Go.Proofs.Ytjplodenflkghaa
open Go.RowKit
set_option linter.unusedSimpArgs false
set_option linter.unusedVariables false
theorem box4 (w : World) (a b c d : Value) (t : TypeId) : Row (w.alloc (.cells #[a, b, c, d] t)) w.heap.size 4 (fun i => if i = 0 then a else if i = 1 then b else if i = 2 then c else d) :=
  ⟨_, t, heap_alloc_new _ _, by simp, fun i hi => by
    match i, hi with
    | 0, _ => rfl
    | 1, _ => rfl
    | 2, _ => rfl
    | 3, _ => rfl⟩
theorem get4 {w : World} {B : Nat} {a b c d : Value} (r : Row w B 4 (fun i => if i = 0 then a else if i = 1 then b else if i = 2 then c else d)) : w.cell? ⟨B, 0, none⟩ = some a ∧ w.cell? ⟨B, 1, none⟩ = some b ∧ w.cell? ⟨B, 2, none⟩ = some c ∧ w.cell? ⟨B, 3, none⟩ = some d :=
  ⟨r.cell (i := 0) (by omega), r.cell (i := 1) (by omega), r.cell (i := 2) (by omega), r.cell (i := 3) (by omega)⟩
/-- What a walker holds: its table, its short ways, its hits. -/
structure KD where
  B : BD
  n : Nat
  F : Nat → Nat → Int
  h : Int
abbrev KD.zero : KD := ⟨BD.zero, 0, fun _ _ => 0, 0⟩
structure KV where
  b : BV
  a : Option Addr
  q : Nat
abbrev KV.zero : KV := ⟨BV.zero, none, 0⟩
abbrev KV.cells (v : KV) (D : KD) : Array Value := #[.slice v.b.a1 D.B.n v.b.c1, .slice v.b.a2 D.B.D.n v.b.c2, .slice v.a D.n v.q, .int .i64 D.h]
abbrev KV.val (v : KV) (D : KD) : Value := .agg (v.cells D)
abbrev kb (v : KV) (D : KD) : Nat → Value := fun i => if i = 0 then .slice v.b.a1 D.B.n v.b.c1 else if i = 1 then .slice v.b.a2 D.B.D.n v.b.c2 else if i = 2 then .slice v.a D.n v.q else .int .i64 D.h
structure WkAt (Y : Nat → Prop) (w : World) (v : KV) (D : KD) : Prop where
  t : BookAt Y w v.b D.B
  k : KAt 3 Y w v.a D.n D.F
structure WkOwn (X : Nat → Prop) (w : World) (v : KV) (D : KD) : Prop where
  ex : ∃ X1 X2 : Nat → Prop, (∀ b, X1 b → X b ∧ ¬ X2 b) ∧ (∀ b, X2 b → X b) ∧ BookOwn X1 w v.b D.B ∧ KOwn 3 X2 w v.a D.n D.F
theorem WkAt.blw {Y : Nat → Prop} {w w' : World} {v : KV} {D : KD} (h : WkAt Y w v D) (hb : Blw w w') : WkAt Y w' v D := ⟨h.t.blw hb, h.k.blw hb⟩
theorem WkAt.mod {X Y : Nat → Prop} {w w' : World} {v : KV} {D : KD} (h : WkAt Y w v D) (hb : Mod X w w') (hxy : ∀ k, Y k → ¬ X k) : WkAt Y w' v D := ⟨h.t.mod hb hxy, h.k.mod hb hxy⟩
theorem WkAt.mono {X Y : Nat → Prop} {w : World} {v : KV} {D : KD} (h : WkAt X w v D) (hxy : ∀ b, X b → Y b) : WkAt Y w v D := ⟨h.t.mono hxy, h.k.mono hxy⟩
theorem WkOwn.at {X : Nat → Prop} {w : World} {v : KV} {D : KD} (h : WkOwn X w v D) : WkAt X w v D := by
  obtain ⟨X1, X2, d1, d2, ht, hk⟩ := h.ex
  exact ⟨ht.at.mono (fun b hb => (d1 b hb).1), hk.at.mono d2⟩
theorem WkOwn.mod {X Z : Nat → Prop} {w w' : World} {v : KV} {D : KD} (h : WkOwn X w v D) (hb : Mod Z w w') (hxz : ∀ b, X b → ¬ Z b) : WkOwn X w' v D := by
  obtain ⟨X1, X2, d1, d2, ht, hk⟩ := h.ex
  exact ⟨X1, X2, d1, d2, ht.mod hb (fun b hx => hxz b (d1 b hx).1), hk.mod hb (fun b hx => hxz b (d2 b hx))⟩
theorem WkOwn.blw {X : Nat → Prop} {w w' : World} {v : KV} {D : KD} (h : WkOwn X w v D) (hb : Blw w w') : WkOwn X w' v D := h.mod (hb.mod (fun _ => False)) (fun _ _ => id)
theorem WkOwn.mono {X Y : Nat → Prop} {w : World} {v : KV} {D : KD} (h : WkOwn X w v D) (hxy : ∀ b, X b → Y b) : WkOwn Y w v D := by
  obtain ⟨X1, X2, d1, d2, ht, hk⟩ := h.ex
  exact ⟨X1, X2, fun b hb => ⟨hxy b (d1 b hb).1, (d1 b hb).2⟩, fun b hb => hxy b (d2 b hb), ht, hk⟩
theorem WkOwn.zero (X : Nat → Prop) (w : World) : WkOwn X w KV.zero KD.zero := ⟨fun _ => False, fun _ => False, fun _ h => h.elim, fun _ h => h.elim, BookOwn.zero _ _, KOwn.nil _ _ _ _ _⟩
def KD.marked (D : KD) (k : Int) : KD := ⟨D.B.marked k, D.n, mkK 3 (k + D.B.total), D.h⟩
def KD.total (D : KD) : Nat := D.B.total + 3 * D.n
def KD.small (D : KD) : Prop := D.B.n + (D.B.D.n + D.B.D.tot) ≤ 1048576 ∧ D.n ≤ 1048576
set_option maxHeartbeats 1600000 in
theorem eqWalker_same (v u : KV) (D : KD) {X Y : Nat → Prop} (w : World) (h1 : WkAt X w v D) (h2 : WkAt Y w u D) :
    Calls Try.prog 61 #[v.val D, u.val D] w fun e w' => e = .returned (.bool true) ∧ Blw w w' := by
  have hb0 : Blw w ((w.alloc (.cells #[.slice v.b.a1 D.B.n v.b.c1, .slice v.b.a2 D.B.D.n v.b.c2, .slice v.a D.n v.q, .int .i64 D.h] 32)).alloc (.cells #[.slice u.b.a1 D.B.n u.b.c1, .slice u.b.a2 D.B.D.n u.b.c2, .slice u.a D.n u.q, .int .i64 D.h] 32)) := ((Blw.refl _).alloc _).alloc _
  have H1 : Hid (WkAt X ((w.alloc (.cells #[.slice v.b.a1 D.B.n v.b.c1, .slice v.b.a2 D.B.D.n v.b.c2, .slice v.a D.n v.q, .int .i64 D.h] 32)).alloc (.cells #[.slice u.b.a1 D.B.n u.b.c1, .slice u.b.a2 D.B.D.n u.b.c2, .slice u.a D.n u.q, .int .i64 D.h] 32)) v D) := h1.blw hb0
  have H2 : Hid (WkAt Y ((w.alloc (.cells #[.slice v.b.a1 D.B.n v.b.c1, .slice v.b.a2 D.B.D.n v.b.c2, .slice v.a D.n v.q, .int .i64 D.h] 32)).alloc (.cells #[.slice u.b.a1 D.B.n u.b.c1, .slice u.b.a2 D.B.D.n u.b.c2, .slice u.a D.n u.q, .int .i64 D.h] 32)) u D) := h2.blw hb0
  have R1 : Hid (Row ((w.alloc (.cells #[.slice v.b.a1 D.B.n v.b.c1, .slice v.b.a2 D.B.D.n v.b.c2, .slice v.a D.n v.q, .int .i64 D.h] 32)).alloc (.cells #[.slice u.b.a1 D.B.n u.b.c1, .slice u.b.a2 D.B.D.n u.b.c2, .slice u.a D.n u.q, .int .i64 D.h] 32)) w.heap.size 4 (kb v D)) := (box4 w _ _ _ _ 32).blw ((Blw.refl _).alloc _)
  have r2 := box4 (w.alloc (.cells #[.slice v.b.a1 D.B.n v.b.c1, .slice v.b.a2 D.B.D.n v.b.c2, .slice v.a D.n v.q, .int .i64 D.h] 32)) (.slice u.b.a1 D.B.n u.b.c1) (.slice u.b.a2 D.B.D.n u.b.c2) (.slice u.a D.n u.q) (.int .i64 D.h) 32
  rw [World.size_alloc] at r2
  have R2 : Hid (Row ((w.alloc (.cells #[.slice v.b.a1 D.B.n v.b.c1, .slice v.b.a2 D.B.D.n v.b.c2, .slice v.a D.n v.q, .int .i64 D.h] 32)).alloc (.cells #[.slice u.b.a1 D.B.n u.b.c1, .slice u.b.a2 D.B.D.n u.b.c2, .slice u.a D.n u.q, .int .i64 D.h] 32)) (w.heap.size + 1) 4 (kb u D)) := r2
  have HB : Hid (Blw w ((w.alloc (.cells #[.slice v.b.a1 D.B.n v.b.c1, .slice v.b.a2 D.B.D.n v.b.c2, .slice v.a D.n v.q, .int .i64 D.h] 32)).alloc (.cells #[.slice u.b.a1 D.B.n u.b.c1, .slice u.b.a2 D.B.D.n u.b.c2, .slice u.a D.n u.q, .int .i64 D.h] 32))) := hb0
  clear h1 h2 r2 hb0
  go_enter Try.func61, Try.ntmps61
  obtain ⟨p0, p1, p2, p3⟩ := get4 R1.out
  obtain ⟨q0, q1, q2, q3⟩ := get4 R2.out
  go_wp2_with fail
  clear p0 p1 p2 p3 q0 q1 q2 q3
  refine (eqBook_same v.b u.b D.B _ H1.out.t H2.out.t).mono ?_
  rintro e w1 ⟨rfl, hb1⟩
  replace H1 : Hid (WkAt X w1 v D) := H1.out.blw hb1
  replace H2 : Hid (WkAt Y w1 u D) := H2.out.blw hb1
  replace R1 : Hid (Row w1 w.heap.size 4 (kb v D)) := R1.out.blw hb1
  replace R2 : Hid (Row w1 (w.heap.size + 1) 4 (kb u D)) := R2.out.blw hb1
  replace HB : Hid (Blw w w1) := HB.out.trans hb1
  clear hb1
  obtain ⟨p0, p1, p2, p3⟩ := get4 R1.out
  obtain ⟨q0, q1, q2, q3⟩ := get4 R2.out
  go_wp2_with fail
  clear p0 p1 p2 p3 q0 q1 q2 q3
  refine (eqSh_same v.a u.a v.q u.q D.n D.F _ H1.out.k H2.out.k).mono ?_
  rintro e w2 ⟨rfl, hb1⟩
  replace R1 : Hid (Row w2 w.heap.size 4 (kb v D)) := R1.out.blw hb1
  replace R2 : Hid (Row w2 (w.heap.size + 1) 4 (kb u D)) := R2.out.blw hb1
  replace HB : Hid (Blw w w2) := HB.out.trans hb1
  have hh : (D.h != D.h) = false := by simp
  clear hb1 H1 H2
  obtain ⟨p0, p1, p2, p3⟩ := get4 R1.out
  obtain ⟨q0, q1, q2, q3⟩ := get4 R2.out
  clear R1 R2
  go_wp2
  go_ret
  exact ⟨rfl, HB.out⟩
set_option maxHeartbeats 1600000 in
theorem markWalker_any (v : KV) (D : KD) (X : Nat → Prop) (w : World) (hS : D.small) (hX : ∀ b, X b → b < w.heap.size) (h : WkOwn X w v D) :
    Calls Try.prog 65 #[v.val D, .int .i64 1] w fun e w' => e = .returned (.int .i64 (1 + D.total)) ∧ WkOwn X w' v (D.marked 1) ∧ Mod X w w' := by
  obtain ⟨X1, X2, d1, d2, ht, hk⟩ := h.ex
  have hA : Blw w (w.alloc (.cells #[.slice v.b.a1 D.B.n v.b.c1, .slice v.b.a2 D.B.D.n v.b.c2, .slice v.a D.n v.q, .int .i64 D.h] 32)) := (Blw.refl _).alloc _
  have HT : Hid (BookOwn X1 (w.alloc (.cells #[.slice v.b.a1 D.B.n v.b.c1, .slice v.b.a2 D.B.D.n v.b.c2, .slice v.a D.n v.q, .int .i64 D.h] 32)) v.b D.B) := ht.blw hA
  have HK : Hid (KOwn 3 X2 (w.alloc (.cells #[.slice v.b.a1 D.B.n v.b.c1, .slice v.b.a2 D.B.D.n v.b.c2, .slice v.a D.n v.q, .int .i64 D.h] 32)) v.a D.n D.F) := hk.blw hA
  have R1 : Hid (Row (w.alloc (.cells #[.slice v.b.a1 D.B.n v.b.c1, .slice v.b.a2 D.B.D.n v.b.c2, .slice v.a D.n v.q, .int .i64 D.h] 32)) w.heap.size 4 (kb v D)) := box4 w _ _ _ _ 32
  have HM : Hid (Mod X w (w.alloc (.cells #[.slice v.b.a1 D.B.n v.b.c1, .slice v.b.a2 D.B.D.n v.b.c2, .slice v.a D.n v.q, .int .i64 D.h] 32))) := hA.mod _
  have hl : D.B.total ≤ 2097152 := by have := hS.1; unfold BD.total; omega
  have hn := hS.2
  clear h ht hk hA
  go_enter Try.func65, Try.ntmps65
  obtain ⟨p0, p1, p2, p3⟩ := get4 R1.out
  go_wp2_with fail
  clear p0 p1 p2 p3
  refine (markBook_any v.b D.B X1 _ hS.1 (fun b hb => by have := hX b (d1 b hb).1; simp; omega) HT.out).mono ?_
  rintro e w1 ⟨rfl, ht1, hm1⟩
  have R2 := R1.out.mod hm1 (fun hh => by have := hX _ (d1 _ hh).1; omega)
  have HK1 : Hid (KOwn 3 X2 w1 v.a D.n D.F) := HK.out.mod hm1 (fun x hx hh => (d1 x hh).2 hx)
  have HT1 : Hid (BookOwn X1 w1 v.b (D.B.marked 1)) := ht1
  replace HM : Hid (Mod X w w1) := HM.out.trans (hm1.mono (fun x hx => (d1 x hx).1))
  clear ht1 hm1 HT HK R1
  obtain ⟨p0, p1, p2, p3⟩ := get4 R2
  clear R2
  go_wp2_with fail
  clear p0 p1 p2 p3
  refine (markSh_any v.a v.q D.n D.F X2 (1 + D.B.total) _ (by omega) (by omega) HK1.out).mono ?_
  rintro e w2 ⟨rfl, hk2, hm2⟩
  have HT2 : Hid (BookOwn X1 w2 v.b (D.B.marked 1)) := HT1.out.mod hm2 (fun x hx hh => (d1 x hx).2 hh)
  replace HM : Hid (Mod X w w2) := HM.out.trans (hm2.mono d2)
  have HK2 : Hid (KOwn 3 X2 w2 v.a D.n (mkK 3 (1 + D.B.total))) := hk2
  clear hk2 hm2 HT1 HK1
  go_wp2
  go_ret
  exact ⟨ret_int (by unfold KD.total; omega), ⟨X1, X2, d1, d2, HT2.out, HK2.out⟩, HM.out⟩
set_option maxHeartbeats 1600000 in
theorem heldWalker_any (v : KV) (D : KD) (X : Nat → Prop) (w : World) (hS : D.small) (h : WkOwn X w v (D.marked 1)) :
    Calls Try.prog 67 #[v.val D, .int .i64 1] w fun e w' => e = .returned (.int .i64 (1 + D.total)) ∧ Blw w w' := by
  obtain ⟨X1, X2, d1, d2, ht, hk⟩ := h.ex
  have hA : Blw w (w.alloc (.cells #[.slice v.b.a1 D.B.n v.b.c1, .slice v.b.a2 D.B.D.n v.b.c2, .slice v.a D.n v.q, .int .i64 D.h] 32)) := (Blw.refl _).alloc _
  have HT : Hid (BookOwn X1 (w.alloc (.cells #[.slice v.b.a1 D.B.n v.b.c1, .slice v.b.a2 D.B.D.n v.b.c2, .slice v.a D.n v.q, .int .i64 D.h] 32)) v.b (D.B.marked 1)) := ht.blw hA
  have HK : Hid (KOwn 3 X2 (w.alloc (.cells #[.slice v.b.a1 D.B.n v.b.c1, .slice v.b.a2 D.B.D.n v.b.c2, .slice v.a D.n v.q, .int .i64 D.h] 32)) v.a D.n (mkK 3 (1 + D.B.total))) := hk.blw hA
  have R1 : Hid (Row (w.alloc (.cells #[.slice v.b.a1 D.B.n v.b.c1, .slice v.b.a2 D.B.D.n v.b.c2, .slice v.a D.n v.q, .int .i64 D.h] 32)) w.heap.size 4 (kb v D)) := box4 w _ _ _ _ 32
  have HB : Hid (Blw w (w.alloc (.cells #[.slice v.b.a1 D.B.n v.b.c1, .slice v.b.a2 D.B.D.n v.b.c2, .slice v.a D.n v.q, .int .i64 D.h] 32))) := hA
  have hl : D.B.total ≤ 2097152 := by have := hS.1; unfold BD.total; omega
  have hn := hS.2
  clear h ht hk hA
  go_enter Try.func67, Try.ntmps67
  obtain ⟨p0, p1, p2, p3⟩ := get4 R1.out
  go_wp2_with fail
  clear p0 p1 p2 p3
  refine (heldBook_any v.b D.B X1 _ hS.1 HT.out).mono ?_
  rintro e w1 ⟨rfl, hb1⟩
  have R2 := R1.out.blw hb1
  replace HK : Hid (KOwn 3 X2 w1 v.a D.n (mkK 3 (1 + D.B.total))) := HK.out.blw hb1
  replace HB : Hid (Blw w w1) := HB.out.trans hb1
  clear hb1 HT R1
  obtain ⟨p0, p1, p2, p3⟩ := get4 R2
  have k1 : ¬ (1 + (D.B.total : Int) < 0) := by omega
  clear R2
  go_wp2_with fail
  clear p0 p1 p2 p3
  refine (heldSh_any v.a v.q D.n X2 (1 + D.B.total) _ (by omega) (by omega) HK.out).mono ?_
  rintro e w2 ⟨rfl, hb2⟩
  replace HB : Hid (Blw w w2) := HB.out.trans hb2
  have k2 : ¬ (1 + (D.B.total : Int) + 3 * (D.n : Int) < 0) := by omega
  clear hb2 HK k1
  go_wp2
  go_ret
  exact ⟨ret_int (by unfold KD.total; omega), HB.out⟩
end Go.Proofs.Ytjplodenflkghaa
