/- What stands in the laws on functions of a memory and more that answer a memory and a bool, where a box may be made ahead of what it holds. -/
import Derived.Test.YtnbcjdoohmjghaaCommitS
namespace Go.Proofs.Ytnbcjdoohmjghaa
open Go.RowKit
set_option linter.unusedSimpArgs false
/-- The boxes of a law's memory and slot. -/
theorem boxes2 (w : World) (m : MV) (M : MD) (e a b : Int) :
    Blw w ((w.alloc (.cells #[.slice m.a1 M.n1 m.c1, .slice m.a2 M.n2 m.c2, .slice m.a3 M.n3 m.c3] 77)).alloc (.cells #[.int .i64 e, .int .i64 a, .int .i64 b] 72)) ∧
    Box ((w.alloc (.cells #[.slice m.a1 M.n1 m.c1, .slice m.a2 M.n2 m.c2, .slice m.a3 M.n3 m.c3] 77)).alloc (.cells #[.int .i64 e, .int .i64 a, .int .i64 b] 72)) w.heap.size m M ∧
    Row ((w.alloc (.cells #[.slice m.a1 M.n1 m.c1, .slice m.a2 M.n2 m.c2, .slice m.a3 M.n3 m.c3] 77)).alloc (.cells #[.int .i64 e, .int .i64 a, .int .i64 b] 72)) (w.heap.size + 1) 3 (fun i => if i = 0 then Value.int .i64 e else if i = 1 then .int .i64 a else .int .i64 b) := by
  refine ⟨((Blw.refl _).alloc _).alloc _, (box3 w _ _ _ 77).blw ((Blw.refl _).alloc _), ?_⟩
  have := box3 (w.alloc (.cells #[.slice m.a1 M.n1 m.c1, .slice m.a2 M.n2 m.c2, .slice m.a3 M.n3 m.c3] 77)) (.int .i64 e) (.int .i64 a) (.int .i64 b) 72
  rw [World.size_alloc] at this
  exact this
theorem box_put {w : World} {R : Nat} {f : Nat → Value} (r : Row w R 3 f) (a b c : Value) : Row (((w.setCell ⟨R, 0, none⟩ a).setCell ⟨R, 1, none⟩ b).setCell ⟨R, 2, none⟩ c) R 3 (fun i => if i = 0 then a else if i = 1 then b else c) :=
  (((r.set 0 a).set 1 b).set 2 c).congr (fun i hi => by
    match i, hi with
    | 0, _ => rfl
    | 1, _ => rfl
    | 2, _ => rfl)
/-- A memory in its own box at z, all of it newer than w1. -/
structure Boxed (w1 W : World) (z : Nat) (m : MV) (M : MD) : Prop where
  blw : Blw w1 W
  lo : w1.heap.size ≤ z
  box : Box W z m M
  own : MemOwn (fun b => w1.heap.size ≤ b ∧ b < W.heap.size ∧ b ≠ z) W m M
theorem Boxed.late {w1 w4 : World} {X : Nat → Prop} {m : MV} {M : MD} (hb : Blw w1 w4) (own : MemOwn X w4 m M) (hX : ∀ b, X b → w1.heap.size ≤ b ∧ b < w4.heap.size) : Boxed w1 (w4.alloc (.cells #[.slice m.a1 M.n1 m.c1, .slice m.a2 M.n2 m.c2, .slice m.a3 M.n3 m.c3] 26)) w4.heap.size m M :=
  ⟨hb.alloc _, hb.size, box3 w4 _ _ _ 26, (own.blw ((Blw.refl _).alloc _)).mono (fun b h => by have := hX b h; exact ⟨this.1, by rw [World.size_alloc]; omega, by omega⟩)⟩
theorem Boxed.early {w1 w4 : World} {z : Nat} {X : Nat → Prop} {m : MV} {M : MD} {f : Nat → Value} (hb : Blw w1 w4) (r : Row w4 z 3 f) (hz : w1.heap.size ≤ z) (own : MemOwn X w4 m M) (hX : ∀ b, X b → w1.heap.size ≤ b ∧ b < w4.heap.size ∧ b ≠ z) : Boxed w1 (((w4.setCell ⟨z, 0, none⟩ (.slice m.a1 M.n1 m.c1)).setCell ⟨z, 1, none⟩ (.slice m.a2 M.n2 m.c2)).setCell ⟨z, 2, none⟩ (.slice m.a3 M.n3 m.c3)) z m M :=
  ⟨Mod.blw hb (mod_set3 w4 z _ _ _) (fun i hi => by omega), hz, box_put r _ _ _, (own.mod (mod_set3 w4 z _ _ _) (fun b h => (hX b h).2.2)).mono (fun b h => by have := hX b h; have s := (mod_set3 w4 z (.slice m.a1 M.n1 m.c1) (.slice m.a2 M.n2 m.c2) (.slice m.a3 M.n3 m.c3)).size; exact ⟨this.1, by omega, this.2.2⟩)⟩
/-- The argument (its box at w's size, the slot's behind it), the model's answer (its box at z3, all below s3), the argument's copy (below s4), the program's answer (below s5). -/
structure LawG (w W : World) (m m3 m4 m5 : MV) (M M3 M4 M5 : MD) (e a b : Int) (z3 s3 z4 s4 z5 s5 : Nat) : Prop where
  hB : Blw w W
  h : MemAt (fun b => b < w.heap.size) W m M
  A : Box W w.heap.size m M
  sl : Row W (w.heap.size + 1) 3 (fun i => if i = 0 then Value.int .i64 e else if i = 1 then .int .i64 a else .int .i64 b)
  at3 : MemAt (fun b => b < s3) W m3 M3
  b8 : Box W z3 m3 M3
  own4 : MemOwn (fun b => s3 ≤ b ∧ b < s4 ∧ b ≠ z4) W m4 M4
  b10 : Box W z4 m4 M
  own5 : MemOwn (fun b => s4 ≤ b ∧ b < s5 ∧ b ≠ z5) W m5 M5
  b11 : Box W z5 m5 M3
  o1 : w.heap.size + 1 < z3
  o3 : z3 < s3
  o4 : s3 ≤ z4 ∧ z4 < s4
  o5 : s4 ≤ z5 ∧ z5 < s5
  o : s5 ≤ W.heap.size
theorem LawG.blw {w W W' : World} {m m3 m4 m5 : MV} {M M3 M4 M5 : MD} {e a b : Int} {z3 s3 z4 s4 z5 s5 : Nat} (S : LawG w W m m3 m4 m5 M M3 M4 M5 e a b z3 s3 z4 s4 z5 s5) (hb : Blw W W') : LawG w W' m m3 m4 m5 M M3 M4 M5 e a b z3 s3 z4 s4 z5 s5 :=
  ⟨S.hB.trans hb, S.h.blw hb, S.A.blw hb, S.sl.blw hb, S.at3.blw hb, S.b8.blw hb, S.own4.blw hb, S.b10.blw hb, S.own5.blw hb, S.b11.blw hb, S.o1, S.o3, S.o4, S.o5, Nat.le_trans S.o hb.size⟩
theorem LawG.mark4 {w W W' : World} {m m3 m4 m5 : MV} {M M3 M4 M4' M5 : MD} {e a b : Int} {z3 s3 z4 s4 z5 s5 : Nat} (S : LawG w W m m3 m4 m5 M M3 M4 M5 e a b z3 s3 z4 s4 z5 s5) (hm : Mod (fun b => s3 ≤ b ∧ b < s4 ∧ b ≠ z4) W W') (own : MemOwn (fun b => s3 ≤ b ∧ b < s4 ∧ b ≠ z4) W' m4 M4') : LawG w W' m m3 m4 m5 M M3 M4' M5 e a b z3 s3 z4 s4 z5 s5 := by
  have o1 := S.o1
  have o3 := S.o3
  have o4 := S.o4
  have o5 := S.o5
  exact ⟨Mod.blw S.hB hm (fun i hi => by omega), S.h.mod hm (fun b hb hh => by omega), S.A.mod hm (fun hh => by omega), S.sl.mod hm (fun hh => by omega), S.at3.mod hm (fun b hb hh => by omega), S.b8.mod hm (fun hh => by omega), own, S.b10.mod hm (fun hh => by omega), S.own5.mod hm (fun b hb hh => by omega), S.b11.mod hm (fun hh => by omega), o1, o3, o4, o5, Nat.le_trans S.o hm.size⟩
theorem LawG.mark5 {w W W' : World} {m m3 m4 m5 : MV} {M M3 M4 M5 M5' : MD} {e a b : Int} {z3 s3 z4 s4 z5 s5 : Nat} (S : LawG w W m m3 m4 m5 M M3 M4 M5 e a b z3 s3 z4 s4 z5 s5) (hm : Mod (fun b => s4 ≤ b ∧ b < s5 ∧ b ≠ z5) W W') (own : MemOwn (fun b => s4 ≤ b ∧ b < s5 ∧ b ≠ z5) W' m5 M5') : LawG w W' m m3 m4 m5 M M3 M4 M5' e a b z3 s3 z4 s4 z5 s5 := by
  have o1 := S.o1
  have o3 := S.o3
  have o4 := S.o4
  have o5 := S.o5
  exact ⟨Mod.blw S.hB hm (fun i hi => by omega), S.h.mod hm (fun b hb hh => by omega), S.A.mod hm (fun hh => by omega), S.sl.mod hm (fun hh => by omega), S.at3.mod hm (fun b hb hh => by omega), S.b8.mod hm (fun hh => by omega), S.own4.mod hm (fun b hb hh => by omega), S.b10.mod hm (fun hh => by omega), own, S.b11.mod hm (fun hh => by omega), o1, o3, o4, o5, Nat.le_trans S.o hm.size⟩
theorem LawG.start {w w1 W3 w4 W5 : World} {m m3 m4 m5 : MV} {M M3 : MD} {e a b : Int} {z3 z5 : Nat} (hB : Blw w w1) (h : MemAt (fun b => b < w.heap.size) w1 m M) (A : Box w1 w.heap.size m M) (sl : Row w1 (w.heap.size + 1) 3 (fun i => if i = 0 then Value.int .i64 e else if i = 1 then .int .i64 a else .int .i64 b))
    (b3 : Boxed w1 W3 z3 m3 M3) (hb4 : Blw W3 w4) (own4 : MemOwn (fun b => W3.heap.size ≤ b ∧ b < w4.heap.size) w4 m4 M) (b5 : Boxed (w4.alloc (.cells #[.slice m4.a1 M.n1 m4.c1, .slice m4.a2 M.n2 m4.c2, .slice m4.a3 M.n3 m4.c3] 26)) W5 z5 m5 M3) :
    LawG w W5 m m3 m4 m5 M M3 M M3 e a b z3 W3.heap.size w4.heap.size (w4.heap.size + 1) z5 W5.heap.size := by
  have a4 : Blw w4 (w4.alloc (.cells #[.slice m4.a1 M.n1 m4.c1, .slice m4.a2 M.n2 m4.c2, .slice m4.a3 M.n3 m4.c3] 26)) := (Blw.refl _).alloc _
  have c5 := a4.trans b5.blw
  have c3 := hb4.trans c5
  have c1 := b3.blw.trans c3
  have s4 := hb4.size
  have l3 := b3.box.lt
  have l5 := b5.box.lt
  have k5 := b5.lo
  have k3 := b3.lo
  have sl' := sl.lt
  have b5o := b5.own
  rw [World.size_alloc] at k5
  simp only [World.size_alloc] at b5o
  exact ⟨hB.trans c1, h.blw c1, A.blw c1, sl.blw c1, (b3.own.mono (fun b hb => hb.2.1)).at.blw c3, b3.box.blw c3, (own4.blw c5).mono (fun b hb => ⟨hb.1, by omega, by omega⟩), (box3 w4 _ _ _ 26).blw b5.blw, b5o, b5.box, by omega, l3, ⟨by omega, by omega⟩, ⟨k5, l5⟩, Nat.le_refl _⟩
end Go.Proofs.Ytnbcjdoohmjghaa
