/- What is drawn for the laws on stores. -/
import Derived.Test.YtnbcjdoohmjghaaDrawM
namespace Go.Proofs.Ytnbcjdoohmjghaa
open Go.RowKit
set_option linter.unusedSimpArgs false
set_option linter.unusedVariables false
abbrev drawW (w : World) (ao : Option Addr) (n c : Nat) : World := (w.alloc (.cells #[.slice none 0 0, .slice none 0 0, .slice none 0 0] 26)).alloc (.cells #[.slice ao n c, .int .i64 0, .int .u64 0] 91)
theorem draw_start (w : World) (ao : Option Addr) (n c : Nat) (f : Nat → Int) (h : BytesAt (fun b => b < w.heap.size) w ao n f) :
    Blw w (drawW w ao n c) ∧ Cur (fun b => b < w.heap.size) (drawW w ao n c) (w.heap.size + 1) 0 ∧ Row (drawW w ao n c) w.heap.size 3 (fun _ => .slice none 0 0) ∧ (drawW w ao n c).heap.size = w.heap.size + 2 := by
  have hb : Blw w (drawW w ao n c) := ((Blw.refl _).alloc _).alloc _
  refine ⟨hb, ⟨ao, n, c, 0, f, 0, ?_, h.blw hb, Nat.le_refl _, fun b hb => by omega⟩, (row_box w 26).blw ((Blw.refl _).alloc _), by simp⟩
  have := box3 (w.alloc (.cells #[.slice none 0 0, .slice none 0 0, .slice none 0 0] 26)) (.slice ao n c) (.int .i64 0) (.int .u64 0) 91
  rw [World.size_alloc] at this
  exact this
/-- What is drawn stands behind the draw: R the result's box, C the cursor. -/
structure Ds (w W : World) (k : Nat) (m : MV) (s c : Nat → Nat → Int) (d : Nat → Bool) : Prop where
  cur : Cur (fun b => b < w.heap.size) W (w.heap.size + 1) k
  res : Row W w.heap.size 3 (fun _ => .slice none 0 0)
  own : MemOwn (fun b => w.heap.size + 2 ≤ b ∧ b < W.heap.size) W m (MD.full s c d)
  blw : Blw w W
theorem Ds.start {w w1 : World} {ao : Option Addr} {n c0 : Nat} {f : Nat → Int} {m : MV} {s c : Nat → Nat → Int} {d : Nat → Bool} {k : Nat} (h : BytesAt (fun b => b < w.heap.size) w ao n f) (own : MemOwn (fun b => (drawW w ao n c0).heap.size ≤ b ∧ b < w1.heap.size) w1 m (MD.full s c d)) (cur : Cur (fun b => b < w.heap.size) w1 (w.heap.size + 1) k) (hm : Mod (fun b => b = w.heap.size + 1) (drawW w ao n c0) w1) : Ds w w1 k m s c d := by
  obtain ⟨h1, _, h3, h4⟩ := draw_start w ao n c0 f h
  exact ⟨cur, h3.mod hm (by omega), own.mono (fun b hb => ⟨by have := hb.1; omega, hb.2⟩), Mod.blw h1 hm (fun i hi => by omega)⟩
theorem Ds.go {w W W' : World} {k k' : Nat} {m : MV} {s c : Nat → Nat → Int} {d : Nat → Bool} (D : Ds w W k m s c d) (hm : Mod (fun b => b = w.heap.size + 1) W W') (cur : Cur (fun b => b < w.heap.size) W' (w.heap.size + 1) k') : Ds w W' k' m s c d :=
  ⟨cur, D.res.mod hm (by omega), (D.own.mod hm (fun b hb => by have := hb.1; omega)).mono (fun b hb => ⟨hb.1, by have := hb.2; have := hm.size; omega⟩), Mod.blw D.blw hm (fun i hi => by omega)⟩
theorem Ds.more {w W W' : World} {k : Nat} {m : MV} {s c : Nat → Nat → Int} {d : Nat → Bool} (D : Ds w W k m s c d) (hb : Blw W W') : Ds w W' k m s c d :=
  D.go (hb.mod _) (D.cur.blw hb)
/-- It is handed back. -/
theorem Ds.done {w W : World} {k : Nat} {m : MV} {s c : Nat → Nat → Int} {d : Nat → Bool} (D : Ds w W k m s c d) :
    MemOwn (fun b => w.heap.size ≤ b ∧ b < (((W.setCell ⟨w.heap.size, 0, none⟩ (.slice m.a1 12 m.c1)).setCell ⟨w.heap.size, 1, none⟩ (.slice m.a2 12 m.c2)).setCell ⟨w.heap.size, 2, none⟩ (.slice m.a3 12 m.c3)).heap.size) (((W.setCell ⟨w.heap.size, 0, none⟩ (.slice m.a1 12 m.c1)).setCell ⟨w.heap.size, 1, none⟩ (.slice m.a2 12 m.c2)).setCell ⟨w.heap.size, 2, none⟩ (.slice m.a3 12 m.c3)) m (MD.full s c d) ∧
    Blw w (((W.setCell ⟨w.heap.size, 0, none⟩ (.slice m.a1 12 m.c1)).setCell ⟨w.heap.size, 1, none⟩ (.slice m.a2 12 m.c2)).setCell ⟨w.heap.size, 2, none⟩ (.slice m.a3 12 m.c3)) := by
  have hs := mod_set3 W w.heap.size (.slice m.a1 12 m.c1) (.slice m.a2 12 m.c2) (.slice m.a3 12 m.c3)
  have hsz := hs.size
  exact ⟨(D.own.mod hs (fun b hb => by have := hb.1; omega)).mono (fun b hb => ⟨by have := hb.1; omega, by have := hb.2; omega⟩), Mod.blw D.blw hs (fun i hi => by omega)⟩
set_option maxHeartbeats 1600000 in
theorem drawLoad_any (ao : Option Addr) (n cc : Nat) (f : Nat → Int) (w : World) (h : BytesAt (fun b => b < w.heap.size) w ao n f) :
    Calls Try.prog 40 #[.slice ao n cc] w fun e w' => ∃ m s c d x, e = .returned (.tuple #[m.val (MD.full s c d), .int .i64 x]) ∧ MemOwn (fun b => w.heap.size ≤ b ∧ b < w'.heap.size) w' m (MD.full s c d) ∧ Blw w w' := by
  obtain ⟨hb0, c0, rR, sz⟩ := draw_start w ao n cc f h
  have HH : Hid (BytesAt (fun b => b < w.heap.size) w ao n f) := h
  clear h
  go_enter Try.func40, Try.ntmps40
  go_wp2_with fail
  refine (memory_any _ (w.heap.size + 1) 0 _ (by omega) (fun b hb => by omega) c0).mono ?_
  rintro e w1 ⟨m, s, c, d, rfl, own, c1, m1⟩
  have D : Ds w w1 100 m s c d := Ds.start HH.out own c1 m1
  clear own c1 m1 hb0 c0 rR sz HH
  go_wp2_with fail
  refine (place_any _ (w.heap.size + 1) 100 _ (by omega) D.cur).mono ?_
  rintro e w2 ⟨x, rfl, c2, m2⟩
  replace D := D.go m2 c2
  clear c2 m2
  obtain ⟨⟨x0, x1, x2⟩, f0, f1, f2⟩ := res6 D.res
  have Z : Hid _ := D.done
  clear D
  simp only [MV.val, MD.full]
  go_wp2
  exact bodyPost_ret (v := .tuple #[m.val (MD.full s c d), .int .i64 x]) (by simp [results, Try.results40, go_sem, x0, x1, x2, MD.full]) rfl ⟨m, s, c, d, x, rfl, Z.out⟩
set_option maxHeartbeats 1600000 in
theorem drawLoadAll_any (ao : Option Addr) (n cc : Nat) (f : Nat → Int) (w : World) (h : BytesAt (fun b => b < w.heap.size) w ao n f) :
    Calls Try.prog 37 #[.slice ao n cc] w fun e w' => ∃ m s c d x y, e = .returned (.tuple #[m.val (MD.full s c d), .int .i64 x, .int .i64 y]) ∧ MemOwn (fun b => w.heap.size ≤ b ∧ b < w'.heap.size) w' m (MD.full s c d) ∧ Blw w w' := by
  obtain ⟨hb0, c0, rR, sz⟩ := draw_start w ao n cc f h
  have HH : Hid (BytesAt (fun b => b < w.heap.size) w ao n f) := h
  clear h
  go_enter Try.func37, Try.ntmps37
  go_wp2_with fail
  refine (memory_any _ (w.heap.size + 1) 0 _ (by omega) (fun b hb => by omega) c0).mono ?_
  rintro e w1 ⟨m, s, c, d, rfl, own, c1, m1⟩
  have D : Ds w w1 100 m s c d := Ds.start HH.out own c1 m1
  clear own c1 m1 hb0 c0 rR sz HH
  go_wp2_with fail
  refine (place_any _ (w.heap.size + 1) 100 _ (by omega) D.cur).mono ?_
  rintro e w2 ⟨x, rfl, c2, m2⟩
  replace D := D.go m2 c2
  clear c2 m2
  go_wp2_with fail
  refine (pick_any _ (w.heap.size + 1) 104 11 _ (by omega) (by omega) D.cur).mono ?_
  rintro e w3 ⟨y, rfl, hy, c3, m3⟩
  replace D := D.go m3 c3
  clear c3 m3
  obtain ⟨⟨x0, x1, x2⟩, f0, f1, f2⟩ := res6 D.res
  have Z : Hid _ := D.done
  clear D
  simp only [MV.val, MD.full]
  go_wp2
  exact bodyPost_ret (v := .tuple #[m.val (MD.full s c d), .int .i64 x, .int .i64 ((y : Int) - 1)]) (by simp [results, Try.results37, go_sem, x0, x1, x2, MD.full]) rfl ⟨m, s, c, d, x, _, rfl, Z.out⟩
set_option maxHeartbeats 1600000 in
theorem drawStore_any (ao : Option Addr) (n cc : Nat) (f : Nat → Int) (w : World) (h : BytesAt (fun b => b < w.heap.size) w ao n f) :
    Calls Try.prog 30 #[.slice ao n cc] w fun e w' => ∃ m s c d x y, e = .returned (.tuple #[m.val (MD.full s c d), .int .i64 x, .int .i64 y]) ∧ MemOwn (fun b => w.heap.size ≤ b ∧ b < w'.heap.size) w' m (MD.full s c d) ∧ Blw w w' := by
  obtain ⟨hb0, c0, rR, sz⟩ := draw_start w ao n cc f h
  have HH : Hid (BytesAt (fun b => b < w.heap.size) w ao n f) := h
  clear h
  go_enter Try.func30, Try.ntmps30
  go_wp2_with fail
  refine (memory_any _ (w.heap.size + 1) 0 _ (by omega) (fun b hb => by omega) c0).mono ?_
  rintro e w1 ⟨m, s, c, d, rfl, own, c1, m1⟩
  have D : Ds w w1 100 m s c d := Ds.start HH.out own c1 m1
  clear own c1 m1 hb0 c0 rR sz HH
  go_wp2_with fail
  refine (place_any _ (w.heap.size + 1) 100 _ (by omega) D.cur).mono ?_
  rintro e w2 ⟨x, rfl, c2, m2⟩
  replace D := D.go m2 c2
  clear c2 m2
  go_wp2_with fail
  have hlt := D.cur.lt
  have hA : Blw w2 (w2.alloc (.cells #[.int .i64 (-1), .int .i64 0, .int .i64 7, .int .i64 65535, .int .i64 65536] 3)) := (Blw.refl _).alloc _
  refine (among_any _ _ (w.heap.size + 1) 104 _ 5 5 _ _ (by omega) (by omega) (ints_lit w2 [-1, 0, 7, 65535, 65536] 3 (by simp)) (fun b hb => by omega) (D.cur.blw hA)).mono ?_
  rintro e w3 ⟨y, rfl, c3, m3⟩
  replace D := (D.more hA).go m3 c3
  clear c3 m3 hA hlt
  obtain ⟨⟨x0, x1, x2⟩, f0, f1, f2⟩ := res6 D.res
  have Z : Hid _ := D.done
  clear D
  simp only [MV.val, MD.full]
  go_wp2
  exact bodyPost_ret (v := .tuple #[m.val (MD.full s c d), .int .i64 x, .int .i64 y]) (by simp [results, Try.results30, go_sem, x0, x1, x2, MD.full]) rfl ⟨m, s, c, d, x, y, rfl, Z.out⟩
end Go.Proofs.Ytnbcjdoohmjghaa
