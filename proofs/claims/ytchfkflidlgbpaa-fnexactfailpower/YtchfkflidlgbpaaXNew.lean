/- 'impl.NewMemory', and the law on it. -/
import Derived.Test.YtchfkflidlgbpaaNew
import Derived.Test.YtchfkflidlgbpaaSpecNew
import Derived.Test.YtchfkflidlgbpaaEq
namespace Go.Proofs.Ytchfkflidlgbpaa
open Go.RowKit
theorem zero79 : Try.zeroCells79 = ((List.range 108).map (hcell zeros zeros (fun _ => false))).toArray := by kernel_rfl
theorem row79 (w : World) : Row (w.alloc (.cells Try.zeroCells79 79)) w.heap.size 108 (hcell zeros zeros (fun _ => false)) :=
  ⟨_, 79, heap_alloc_new _ _, by rw [zero79]; simp, fun i hi => by rw [zero79]; simp [hi]⟩
set_option maxHeartbeats 1600000 in
theorem implNew_any (w : World) : Calls Try.prog 28 #[] w fun e w' => ∃ m : MV, e = .returned (m.val (MD.full zeros zeros (fun _ => false))) ∧ MemOwn (fun b => w.heap.size ≤ b ∧ b < w'.heap.size) w' m (MD.full zeros zeros (fun _ => false)) ∧ Blw w w' := by
  go_enter Try.func28, Try.ntmps28
  go_wp2_with fail
  have hb : Blw w ((w.alloc (.cells #[.slice none 0 0, .slice none 0 0, .slice none 0 0] 26)).alloc (.cells Try.zeroCells79 79)) := ((Blw.refl _).alloc _).alloc _
  have r := row79 (w.alloc (.cells #[.slice none 0 0, .slice none 0 0, .slice none 0 0] 26))
  have rX : Row ((w.alloc (.cells #[.slice none 0 0, .slice none 0 0, .slice none 0 0] 26)).alloc (.cells Try.zeroCells79 79)) w.heap.size 3 (fun _ => .slice none 0 0) := (row_box w 26).blw ((Blw.refl _).alloc _)
  have hz : w.heap.size < ((w.alloc (.cells #[.slice none 0 0, .slice none 0 0, .slice none 0 0] 26)).alloc (.cells Try.zeroCells79 79)).heap.size := by simp; omega
  rw [World.size_alloc] at r
  refine (giveOut_any _ _ _ _ _ r).mono ?_
  rintro e w1 ⟨m, rfl, own, hb1⟩
  obtain ⟨a1, a2, a3, d1, d2, d3⟩ := m
  have rX' := rX.blw hb1
  have x0 : w1.cell? ⟨w.heap.size, 0, none⟩ = some (.slice none 0 0) := rX'.cell (by omega)
  have x1 : w1.cell? ⟨w.heap.size, 1, none⟩ = some (.slice none 0 0) := rX'.cell (by omega)
  have x2 : w1.cell? ⟨w.heap.size, 2, none⟩ = some (.slice none 0 0) := rX'.cell (by omega)
  have f0 := rX'.frozen 0
  have f1 := rX'.frozen 1
  have f2 := rX'.frozen 2
  simp only [MV.val, MD.full] at *
  go_wp2
  have hm3 : Mod (fun x => x = w.heap.size) w1 (((w1.setCell ⟨w.heap.size, 0, none⟩ (.slice a1 12 d1)).setCell ⟨w.heap.size, 1, none⟩ (.slice a2 12 d2)).setCell ⟨w.heap.size, 2, none⟩ (.slice a3 12 d3)) :=
    ((Mod.setCell (X := fun x => x = w.heap.size) w1 (p := ⟨w.heap.size, 0, none⟩) rfl _).trans (Mod.setCell (X := fun x => x = w.heap.size) _ (p := ⟨w.heap.size, 1, none⟩) rfl _)).trans (Mod.setCell (X := fun x => x = w.heap.size) _ (p := ⟨w.heap.size, 2, none⟩) rfl _)
  refine bodyPost_ret (v := .agg #[.slice a1 12 d1, .slice a2 12 d2, .slice a3 12 d3]) (by simp [results, Try.results28, go_sem, x0, x1, x2]) rfl ⟨⟨a1, a2, a3, d1, d2, d3⟩, rfl, (own.mod hm3 (fun b hb => by have := hb.1; omega)).mono (fun b hb => ⟨by omega, by simpa using hb.2⟩), Mod.blw (hb.trans hb1) hm3 (fun i hi => by omega)⟩

/-- The cells of a memory's own block. -/
theorem row_mem (w : World) (a b c : Value) (t : TypeId) : Row (w.alloc (.cells #[a, b, c] t)) w.heap.size 3 (fun i => if i = 0 then a else if i = 1 then b else c) := row3 (heap_alloc_new _ _)

abbrev M0 : MD := MD.full zeros zeros (fun _ => false)
theorem total0 : M0.total = 108 := by kernel_rfl

/-- The three cells of a box, in every world that only has more. -/
theorem box_cells {w : World} {B : Nat} {a b c : Value} (r : Row w B 3 (fun i => if i = 0 then a else if i = 1 then b else c)) :
    (w.cell? ⟨B, 0, none⟩ = some a ∧ w.cell? ⟨B, 1, none⟩ = some b ∧ w.cell? ⟨B, 2, none⟩ = some c) ∧
    ∀ o, (w.alloc o).cell? ⟨B, 0, none⟩ = some a ∧ (w.alloc o).cell? ⟨B, 1, none⟩ = some b ∧ (w.alloc o).cell? ⟨B, 2, none⟩ = some c :=
  ⟨⟨r.cell (i := 0) (by omega), r.cell (i := 1) (by omega), r.cell (i := 2) (by omega)⟩, fun o =>
    ⟨(r.blw ((Blw.refl w).alloc o)).cell (i := 0) (by omega), (r.blw ((Blw.refl w).alloc o)).cell (i := 1) (by omega), (r.blw ((Blw.refl w).alloc o)).cell (i := 2) (by omega)⟩⟩

set_option maxHeartbeats 3200000 in
theorem lawNew_any (w : World) : Calls Try.prog 5 #[] w fun e w' => e = .returned (.bool true) ∧ Blw w w' := by
  go_enter Try.func5, Try.ntmps5
  go_wp2_with fail
  refine (specNew_any _).mono ?_
  rintro e w1 ⟨m0, rfl, at0, hb1⟩
  simp only [MV.val, MD.full']
  have zW := hb1.size
  have at1 : MemAt (fun b => b < w1.heap.size) w1 m0 M0 := ⟨at0.s.mono (fun b hb => hb.2), at0.c.mono (fun b hb => hb.2), at0.d.mono (fun b hb => hb.2)⟩
  clear at0
  go_wp2_with fail
  have hA : Blw w1 (w1.alloc (.cells #[.slice m0.a1 12 m0.c1, .slice m0.a2 12 m0.c2, .slice m0.a3 12 m0.c3] 26)) := (Blw.refl _).alloc _
  have rA := row_mem w1 (.slice m0.a1 12 m0.c1) (.slice m0.a2 12 m0.c2) (.slice m0.a3 12 m0.c3) 26
  have zA : w1.heap.size < (w1.alloc (.cells #[.slice m0.a1 12 m0.c1, .slice m0.a2 12 m0.c2, .slice m0.a3 12 m0.c3] 26)).heap.size := by simp
  refine (implNew_any _).mono ?_
  rintro e w2 ⟨m, rfl, own, hb2⟩
  simp only [MV.val, MD.full]
  replace at1 := at1.blw (hA.trans hb2)
  replace rA := rA.blw hb2
  have z2 : w1.heap.size < w2.heap.size := by have := hb2.size; omega
  replace own : MemOwn (fun b => w1.heap.size < b ∧ b < w2.heap.size) w2 m M0 := own.mono (fun b hb => ⟨by have := hb.1; omega, hb.2⟩)
  have hB := (hb1.trans hA).trans hb2
  clear hA hb2 hb1 zA
  have pA := (box_cells rA).2
  go_wp2_with fail
  -- the program's memory is boxed at block w2.heap.size
  clear pA
  have hA : Blw w2 (w2.alloc (.cells #[.slice m.a1 12 m.c1, .slice m.a2 12 m.c2, .slice m.a3 12 m.c3] 26)) := (Blw.refl _).alloc _
  have rG := row_mem w2 (.slice m.a1 12 m.c1) (.slice m.a2 12 m.c2) (.slice m.a3 12 m.c3) 26
  have z3 : w2.heap.size < (w2.alloc (.cells #[.slice m.a1 12 m.c1, .slice m.a2 12 m.c2, .slice m.a3 12 m.c3] 26)).heap.size := by simp
  refine (eqMemory_same m m0 M0 _ (own.at.blw hA) (at1.blw hA)).mono ?_
  rintro e w3 ⟨rfl, hb3⟩
  replace rG := rG.blw hb3
  replace rA := rA.blw (hA.trans hb3)
  replace own := own.blw (hA.trans hb3)
  replace at1 := at1.blw (hA.trans hb3)
  have z4 := hb3.size
  replace hB := hB.trans (hA.trans hb3)
  clear hA hb3
  obtain ⟨q0, q1, q2⟩ := (box_cells rG).1
  go_wp2_with fail
  clear q0 q1 q2
  have e109 : (1 + (M0.total : Int)) = 109 := by rw [total0]; rfl
  refine (markMemory_any m M0 _ 1 _ (by omega) (by omega) own (fun b hb => by have := hb.2; omega)).mono ?_
  rintro e w4 ⟨rfl, own4, hm4⟩
  rw [e109]
  clear own
  replace rG := rG.mod hm4 (fun hh => by have := hh.2; omega)
  replace rA := rA.mod hm4 (fun hh => by have := hh.1; omega)
  replace at1 := at1.mod hm4 (fun b hb hh => by have := hh.1; omega)
  have z5 := hm4.size
  replace hB : Blw w w4 := Mod.blw hB hm4 (fun i hi => by have := hi.1; have := zW; omega)
  clear hm4
  obtain ⟨q0, q1, q2⟩ := (box_cells rG).1
  go_wp2_with fail
  clear q0 q1 q2
  refine (heldMemory_any m M0 _ 1 _ (by omega) (by omega) own4.at).mono ?_
  rintro e w5 ⟨rfl, hb5⟩
  rw [e109]
  replace rG := rG.blw hb5
  replace rA := rA.blw hb5
  replace at1 := at1.blw hb5
  replace own4 := own4.blw hb5
  have z6 := hb5.size
  replace hB := hB.trans hb5
  clear hb5
  go_wp2_with fail
  refine (implNew_any _).mono ?_
  rintro e w6 ⟨n, rfl, own6, hb6⟩
  simp only [MV.val, MD.full]
  replace rG := rG.blw hb6
  replace rA := rA.blw hb6
  replace at1 := at1.blw hb6
  replace own4 := own4.blw hb6
  have z7 := hb6.size
  replace hB := hB.trans hb6
  clear hb6
  have pA := (box_cells rA).2
  go_wp2_with fail
  clear pA
  have hA : Blw w6 (w6.alloc (.cells #[.slice n.a1 12 n.c1, .slice n.a2 12 n.c2, .slice n.a3 12 n.c3] 26)) := (Blw.refl _).alloc _
  refine (eqMemory_same n m0 M0 _ (own6.at.blw hA) (at1.blw hA)).mono ?_
  rintro e w7 ⟨rfl, hb7⟩
  replace rG := rG.blw (hA.trans hb7)
  replace own4 := own4.blw (hA.trans hb7)
  replace hB := hB.trans (hA.trans hb7)
  clear hA hb7 own6 at1
  obtain ⟨q0, q1, q2⟩ := (box_cells rG).1
  go_wp2_with fail
  clear q0 q1 q2
  refine (heldMemory_any m M0 _ 1 _ (by omega) (by omega) own4.at).mono ?_
  rintro e w8 ⟨rfl, hb8⟩
  rw [e109]
  replace hB := hB.trans hb8
  clear rA rG own4 hb8
  go_wp2
  go_ret
  exact ⟨rfl, hB⟩
end Go.Proofs.Ytchfkflidlgbpaa
