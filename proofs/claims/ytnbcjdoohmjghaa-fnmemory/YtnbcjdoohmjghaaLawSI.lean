/- What stands in the laws on functions of a memory and a list of numbers that answer a memory and a bool. -/
import Derived.Test.YtnbcjdoohmjghaaLawSt
namespace Go.Proofs.Ytnbcjdoohmjghaa
open Go.RowKit
theorem ints_row {w : World} {b n : Nat} {f : Nat → Int} (r : Row w b n (fun t => .int .i64 (f t))) (hn : n ≤ 1048576) : IntsAt (fun x => x = b) w (some ⟨b, 0, none⟩) n f :=
  ⟨by omega, fun i hi => ⟨b, 0, rfl, rfl, by rw [Nat.zero_add]; exact r.cell hi⟩⟩
theorem own_row {w : World} {b n : Nat} {f : Nat → Int} (r : Row w b n (fun t => .int .i64 (f t))) (hn : n ≤ 1048576) : IntsOwn (fun x => x = b) w (some ⟨b, 0, none⟩) n f :=
  ⟨by omega, fun _ => ⟨b, rfl, rfl, r⟩⟩
structure LawSI (w W : World) (m m3 m4 m5 : MV) (M M3 M4 M5 : MD) (z3 z4 z5 : Nat) (ao : Option Addr) (n : Nat) (f : Nat → Int) (zi : Nat) : Prop where
  s : LawSt w W m m3 m4 m5 M M3 M4 M5 z3 z4 z5
  own5 : MemOwn (fun b => zi < b ∧ b < z5) W m5 M5
  hI : IntsAt (fun b => b < w.heap.size) W ao n f
  i4 : Row W zi n (fun t => .int .i64 (f t))
  o : z4 < zi
  o' : zi < z5
theorem LawSI.blw {w W W' : World} {m m3 m4 m5 : MV} {M M3 M4 M5 : MD} {z3 z4 z5 : Nat} {ao : Option Addr} {n zi : Nat} {f : Nat → Int} (S : LawSI w W m m3 m4 m5 M M3 M4 M5 z3 z4 z5 ao n f zi) (hb : Blw W W') : LawSI w W' m m3 m4 m5 M M3 M4 M5 z3 z4 z5 ao n f zi :=
  ⟨S.s.blw hb, S.own5.blw hb, S.hI.blw hb, S.i4.blw hb, S.o, S.o'⟩
theorem LawSI.mark4 {w W W' : World} {m m3 m4 m5 : MV} {M M3 M4 M4' M5 : MD} {z3 z4 z5 : Nat} {ao : Option Addr} {n zi : Nat} {f : Nat → Int} (S : LawSI w W m m3 m4 m5 M M3 M4 M5 z3 z4 z5 ao n f zi) (hm : Mod (fun b => z3 < b ∧ b < z4) W W') (own : MemOwn (fun b => z3 < b ∧ b < z4) W' m4 M4') : LawSI w W' m m3 m4 m5 M M3 M4' M5 z3 z4 z5 ao n f zi := by
  have o1 := S.s.o1
  have o2 := S.s.o2
  have o := S.o
  have o' := S.o'
  exact ⟨S.s.mark4 hm own, S.own5.mod hm (fun b hb hh => by omega), S.hI.mod hm (fun b hb hh => by omega), S.i4.mod hm (fun hh => by omega), o, o'⟩
/-- The copy of the numbers is marked: it is not read again. -/
theorem LawSI.markI {w W W' : World} {m m3 m4 m5 : MV} {M M3 M4 M5 : MD} {z3 z4 z5 : Nat} {ao : Option Addr} {n zi : Nat} {f : Nat → Int} (S : LawSI w W m m3 m4 m5 M M3 M4 M5 z3 z4 z5 ao n f zi) {X : Nat → Prop} (hX : ∀ b, X b → b = zi) (hm : Mod X W W') : LawSt w W' m m3 m4 m5 M M3 M4 M5 z3 z4 z5 ∧ MemOwn (fun b => zi < b ∧ b < z5) W' m5 M5 ∧ IntsAt (fun b => b < w.heap.size) W' ao n f := by
  have o1 := S.s.o1
  have o2 := S.s.o2
  have o := S.o
  have o' := S.o'
  have own5 := S.own5.mod hm (fun b hb hh => by have := hX b hh; omega)
  exact ⟨⟨Mod.blw S.s.hB hm (fun i hi => by have := hX i hi; omega), S.s.h.mod hm (fun b hb hh => by have := hX b hh; omega), S.s.A.mod hm (fun hh => by have := hX _ hh; omega), S.s.at3.mod hm (fun b hb hh => by have := hX b hh; omega), S.s.b8.mod hm (fun hh => by have := hX _ hh; omega), S.s.own4.mod hm (fun b hb hh => by have := hX b hh; omega), S.s.b10.mod hm (fun hh => by have := hX _ hh; omega), own5.mono (fun b hb => ⟨by omega, hb.2⟩), S.s.b11.mod hm (fun hh => by have := hX _ hh; omega), o1, o2, S.s.o3, Nat.lt_of_lt_of_le S.s.o4 hm.size⟩, own5, S.hI.mod hm (fun b hb hh => by have := hX b hh; omega)⟩
theorem LawSI.start {w w3 w4 wi w5 : World} {m m3 m4 m5 : MV} {M M3 : MD} {Y3 : Nat → Prop} {ao : Option Addr} {n : Nat} {f : Nat → Int} (hB : Blw w w3) (h : MemAt (fun b => b < w.heap.size) w3 m M) (hI : IntsAt (fun b => b < w.heap.size) w3 ao n f) (A : Box w3 w.heap.size m M) (own3 : MemOwn Y3 w3 m3 M3) (hY : ∀ b, Y3 b → b < w3.heap.size)
    (hb4 : Blw (w3.alloc (.cells #[.slice m3.a1 M3.n1 m3.c1, .slice m3.a2 M3.n2 m3.c2, .slice m3.a3 M3.n3 m3.c3] 26)) w4)
    (own4 : MemOwn (fun b => (w3.alloc (.cells #[.slice m3.a1 M3.n1 m3.c1, .slice m3.a2 M3.n2 m3.c2, .slice m3.a3 M3.n3 m3.c3] 26)).heap.size ≤ b ∧ b < w4.heap.size) w4 m4 M)
    (hbi : Blw (w4.alloc (.cells #[.slice m4.a1 M.n1 m4.c1, .slice m4.a2 M.n2 m4.c2, .slice m4.a3 M.n3 m4.c3] 26)) wi)
    (i4 : Row wi (w4.heap.size + 1) n (fun t => .int .i64 (f t)))
    (hb5 : Blw wi w5)
    (own5 : MemOwn (fun b => wi.heap.size ≤ b ∧ b < w5.heap.size) w5 m5 M3) :
    LawSI w (w5.alloc (.cells #[.slice m5.a1 M3.n1 m5.c1, .slice m5.a2 M3.n2 m5.c2, .slice m5.a3 M3.n3 m5.c3] 26)) m m3 m4 m5 M M3 M M3 w3.heap.size w4.heap.size w5.heap.size ao n f (w4.heap.size + 1) := by
  have a3 : Blw w3 (w3.alloc (.cells #[.slice m3.a1 M3.n1 m3.c1, .slice m3.a2 M3.n2 m3.c2, .slice m3.a3 M3.n3 m3.c3] 26)) := (Blw.refl _).alloc _
  have a4 : Blw w4 (w4.alloc (.cells #[.slice m4.a1 M.n1 m4.c1, .slice m4.a2 M.n2 m4.c2, .slice m4.a3 M.n3 m4.c3] 26)) := (Blw.refl _).alloc _
  have a5 : Blw w5 (w5.alloc (.cells #[.slice m5.a1 M3.n1 m5.c1, .slice m5.a2 M3.n2 m5.c2, .slice m5.a3 M3.n3 m5.c3] 26)) := (Blw.refl _).alloc _
  have li := i4.lt
  have s5 := hb5.size
  have si := hbi.size
  refine ⟨LawSt.start hB h A own3 hY hb4 own4 (hbi.trans hb5) (own5.mono (fun b hb => ⟨by omega, hb.2⟩)), (own5.blw a5).mono (fun b hb => ⟨by omega, hb.2⟩), hI.blw ((((a3.trans hb4).trans a4).trans (hbi.trans hb5)).trans a5), i4.blw (hb5.trans a5), by omega, by omega⟩
end Go.Proofs.Ytnbcjdoohmjghaa
