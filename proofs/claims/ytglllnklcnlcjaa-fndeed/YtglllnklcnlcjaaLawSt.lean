/- What stands in the laws on functions that answer a memory and a bool. -/
import Derived.Test.YtglllnklcnlcjaaXStore
import Derived.Deep.CutRange
namespace Go.Proofs.Ytglllnklcnlcjaa
open Go.RowKit
abbrev Box (W : World) (z : Nat) (m : MV) (M : MD) : Prop := Row W z 3 (fun i => if i = 0 then .slice m.a1 M.n1 m.c1 else if i = 1 then .slice m.a2 M.n2 m.c2 else .slice m.a3 M.n3 m.c3)
/-- The argument, the model's answer (at z3), the argument's copy (at z4), the program's answer (at z5). -/
structure LawSt (w W : World) (m m3 m4 m5 : MV) (M M3 M4 M5 : MD) (z3 z4 z5 : Nat) : Prop where
  hB : Blw w W
  h : MemAt (fun b => b < w.heap.size) W m M
  A : Box W w.heap.size m M
  at3 : MemAt (fun b => b < z3) W m3 M3
  b8 : Box W z3 m3 M3
  own4 : MemOwn (fun b => z3 < b ∧ b < z4) W m4 M4
  b10 : Box W z4 m4 M
  own5 : MemOwn (fun b => z4 < b ∧ b < z5) W m5 M5
  b11 : Box W z5 m5 M3
  o1 : w.heap.size < z3
  o2 : z3 < z4
  o3 : z4 < z5
  o4 : z5 < W.heap.size
theorem LawSt.blw {w W W' : World} {m m3 m4 m5 : MV} {M M3 M4 M5 : MD} {z3 z4 z5 : Nat} (S : LawSt w W m m3 m4 m5 M M3 M4 M5 z3 z4 z5) (hb : Blw W W') : LawSt w W' m m3 m4 m5 M M3 M4 M5 z3 z4 z5 :=
  ⟨S.hB.trans hb, S.h.blw hb, S.A.blw hb, S.at3.blw hb, S.b8.blw hb, S.own4.blw hb, S.b10.blw hb, S.own5.blw hb, S.b11.blw hb, S.o1, S.o2, S.o3, Nat.lt_of_lt_of_le S.o4 hb.size⟩
theorem LawSt.mark4 {w W W' : World} {m m3 m4 m5 : MV} {M M3 M4 M4' M5 : MD} {z3 z4 z5 : Nat} (S : LawSt w W m m3 m4 m5 M M3 M4 M5 z3 z4 z5) (hm : Mod (fun b => z3 < b ∧ b < z4) W W') (own : MemOwn (fun b => z3 < b ∧ b < z4) W' m4 M4') : LawSt w W' m m3 m4 m5 M M3 M4' M5 z3 z4 z5 := by
  have o1 := S.o1
  have o2 := S.o2
  have o3 := S.o3
  exact ⟨Mod.blw S.hB hm (fun i hi => by omega), S.h.mod hm (fun b hb hh => by omega), S.A.mod hm (fun hh => by omega), S.at3.mod hm (fun b hb hh => by omega), S.b8.mod hm (fun hh => by omega), own, S.b10.mod hm (fun hh => by omega), S.own5.mod hm (fun b hb hh => by omega), S.b11.mod hm (fun hh => by omega), o1, o2, o3, Nat.lt_of_lt_of_le S.o4 hm.size⟩
theorem LawSt.mark5 {w W W' : World} {m m3 m4 m5 : MV} {M M3 M4 M5 M5' : MD} {z3 z4 z5 : Nat} (S : LawSt w W m m3 m4 m5 M M3 M4 M5 z3 z4 z5) (hm : Mod (fun b => z4 < b ∧ b < z5) W W') (own : MemOwn (fun b => z4 < b ∧ b < z5) W' m5 M5') : LawSt w W' m m3 m4 m5 M M3 M4 M5' z3 z4 z5 := by
  have o1 := S.o1
  have o2 := S.o2
  have o3 := S.o3
  exact ⟨Mod.blw S.hB hm (fun i hi => by omega), S.h.mod hm (fun b hb hh => by omega), S.A.mod hm (fun hh => by omega), S.at3.mod hm (fun b hb hh => by omega), S.b8.mod hm (fun hh => by omega), S.own4.mod hm (fun b hb hh => by omega), S.b10.mod hm (fun hh => by omega), own, S.b11.mod hm (fun hh => by omega), o1, o2, o3, Nat.lt_of_lt_of_le S.o4 hm.size⟩
theorem LawSt.start {w w3 w4 w5 : World} {m m3 m4 m5 : MV} {M M3 : MD} {Y3 : Nat → Prop} (hB : Blw w w3) (h : MemAt (fun b => b < w.heap.size) w3 m M) (A : Box w3 w.heap.size m M) (own3 : MemOwn Y3 w3 m3 M3) (hY : ∀ b, Y3 b → b < w3.heap.size)
    (hb4 : Blw (w3.alloc (.cells #[.slice m3.a1 M3.n1 m3.c1, .slice m3.a2 M3.n2 m3.c2, .slice m3.a3 M3.n3 m3.c3] 26)) w4)
    (own4 : MemOwn (fun b => (w3.alloc (.cells #[.slice m3.a1 M3.n1 m3.c1, .slice m3.a2 M3.n2 m3.c2, .slice m3.a3 M3.n3 m3.c3] 26)).heap.size ≤ b ∧ b < w4.heap.size) w4 m4 M)
    (hb5 : Blw (w4.alloc (.cells #[.slice m4.a1 M.n1 m4.c1, .slice m4.a2 M.n2 m4.c2, .slice m4.a3 M.n3 m4.c3] 26)) w5)
    (own5 : MemOwn (fun b => (w4.alloc (.cells #[.slice m4.a1 M.n1 m4.c1, .slice m4.a2 M.n2 m4.c2, .slice m4.a3 M.n3 m4.c3] 26)).heap.size ≤ b ∧ b < w5.heap.size) w5 m5 M3) :
    LawSt w (w5.alloc (.cells #[.slice m5.a1 M3.n1 m5.c1, .slice m5.a2 M3.n2 m5.c2, .slice m5.a3 M3.n3 m5.c3] 26)) m m3 m4 m5 M M3 M M3 w3.heap.size w4.heap.size w5.heap.size := by
  have a3 : Blw w3 (w3.alloc (.cells #[.slice m3.a1 M3.n1 m3.c1, .slice m3.a2 M3.n2 m3.c2, .slice m3.a3 M3.n3 m3.c3] 26)) := (Blw.refl _).alloc _
  have a4 : Blw w4 (w4.alloc (.cells #[.slice m4.a1 M.n1 m4.c1, .slice m4.a2 M.n2 m4.c2, .slice m4.a3 M.n3 m4.c3] 26)) := (Blw.refl _).alloc _
  have a5 : Blw w5 (w5.alloc (.cells #[.slice m5.a1 M3.n1 m5.c1, .slice m5.a2 M3.n2 m5.c2, .slice m5.a3 M3.n3 m5.c3] 26)) := (Blw.refl _).alloc _
  have c4 := hb4
  have c5 := (a4.trans hb5).trans a5
  have c45 := hb4.trans c5
  have c3 := a3.trans c45
  have s4 := hb4.size
  have s5 := hb5.size
  have sA := A.lt
  rw [World.size_alloc] at s4 s5
  refine ⟨hB.trans c3, h.blw c3, A.blw c3, (own3.mono hY).at.blw c3, (box3 w3 _ _ _ 26).blw c45, (own4.blw c5).mono (fun b hb => ⟨by have := hb.1; rw [World.size_alloc] at this; omega, hb.2⟩), (box3 w4 _ _ _ 26).blw (hb5.trans a5), (own5.blw a5).mono (fun b hb => ⟨by have := hb.1; rw [World.size_alloc] at this; omega, hb.2⟩), box3 w5 _ _ _ 26, sA, by omega, by omega, by rw [World.size_alloc]; omega⟩
theorem box_of {W : World} {z : Nat} {m : MV} {M : MD} (b : Box W z m M) : (W.cell? ⟨z, 0, none⟩ = some (.slice m.a1 M.n1 m.c1) ∧ W.cell? ⟨z, 1, none⟩ = some (.slice m.a2 M.n2 m.c2) ∧ W.cell? ⟨z, 2, none⟩ = some (.slice m.a3 M.n3 m.c3)) ∧
    ∀ o, ((W.alloc o).cell? ⟨z, 0, none⟩ = some (.slice m.a1 M.n1 m.c1) ∧ (W.alloc o).cell? ⟨z, 1, none⟩ = some (.slice m.a2 M.n2 m.c2) ∧ (W.alloc o).cell? ⟨z, 2, none⟩ = some (.slice m.a3 M.n3 m.c3)) :=
  ⟨get3 b, fun o => get3 (b.blw ((Blw.refl _).alloc o))⟩
end Go.Proofs.Ytglllnklcnlcjaa
