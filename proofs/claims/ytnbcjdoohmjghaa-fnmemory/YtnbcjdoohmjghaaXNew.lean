/- 'impl.NewMemory', and the law on it. -/
import Derived.Test.YtnbcjdoohmjghaaNew
import Derived.Test.YtnbcjdoohmjghaaSpecNew
import Derived.Test.YtnbcjdoohmjghaaEq
namespace Go.Proofs.Ytnbcjdoohmjghaa
open Go.RowKit
theorem zero79 : Try.zeroCells98 = ((List.range 108).map (hcell zeros zeros (fun _ => false))).toArray := by kernel_rfl
theorem row79 (w : World) : Row (w.alloc (.cells Try.zeroCells98 98)) w.heap.size 108 (hcell zeros zeros (fun _ => false)) :=
  ⟨_, 98, heap_alloc_new _ _, by rw [zero79]; simp, fun i hi => by rw [zero79]; simp [hi]⟩
set_option maxHeartbeats 1600000 in
theorem implNew_any (w : World) : Calls Try.prog 28 #[] w fun e w' => ∃ m : MV, e = .returned (m.val (MD.full zeros zeros (fun _ => false))) ∧ MemOwn (fun b => w.heap.size ≤ b ∧ b < w'.heap.size) w' m (MD.full zeros zeros (fun _ => false)) ∧ Blw w w' := by
  go_enter Try.func28, Try.ntmps28
  go_wp2_with fail
  have hb : Blw w ((w.alloc (.cells #[.slice none 0 0, .slice none 0 0, .slice none 0 0] 26)).alloc (.cells Try.zeroCells98 98)) := ((Blw.refl _).alloc _).alloc _
  have r := row79 (w.alloc (.cells #[.slice none 0 0, .slice none 0 0, .slice none 0 0] 26))
  have rX : Row ((w.alloc (.cells #[.slice none 0 0, .slice none 0 0, .slice none 0 0] 26)).alloc (.cells Try.zeroCells98 98)) w.heap.size 3 (fun _ => .slice none 0 0) := (row_box w 26).blw ((Blw.refl _).alloc _)
  have hz : w.heap.size < ((w.alloc (.cells #[.slice none 0 0, .slice none 0 0, .slice none 0 0] 26)).alloc (.cells Try.zeroCells98 98)).heap.size := by simp; omega
  rw [World.size_alloc] at r
  refine (giveOut_any _ _ _ _ _ r).mono ?_
  rintro e w1 ⟨m, rfl, own, hb1⟩
  obtain ⟨a1, a2, a3, d1, d2, d3⟩ := m
  have rX' := rX.blw hb1
  have x0 : w1.cell? ⟨w.heap.size, 0, none⟩ = some (.slice none 0 0) := rX'.cell (by omega)
  have x1 : w1.cell? ⟨w.heap.size, 1, none⟩ = some (.slice none 0 0) := rX'.cell (by omega)
  have x2 : w1.cell? ⟨w.heap.size, 2, none⟩ = some (.slice none 0 0) := rX'.cell (by omega)
  have f0 := rX'.frozen 0
  have f1 := rX'.frozen 1
  have f2 := rX'.frozen 2
  simp only [MV.val, MD.full] at *
  go_wp2
  have hm3 : Mod (fun x => x = w.heap.size) w1 (((w1.setCell ⟨w.heap.size, 0, none⟩ (.slice a1 12 d1)).setCell ⟨w.heap.size, 1, none⟩ (.slice a2 12 d2)).setCell ⟨w.heap.size, 2, none⟩ (.slice a3 12 d3)) :=
    ((Mod.setCell (X := fun x => x = w.heap.size) w1 (p := ⟨w.heap.size, 0, none⟩) rfl _).trans (Mod.setCell (X := fun x => x = w.heap.size) _ (p := ⟨w.heap.size, 1, none⟩) rfl _)).trans (Mod.setCell (X := fun x => x = w.heap.size) _ (p := ⟨w.heap.size, 2, none⟩) rfl _)
  refine bodyPost_ret (v := .agg #[.slice a1 12 d1, .slice a2 12 d2, .slice a3 12 d3]) (by simp [results, Try.results28, go_sem, x0, x1, x2]) rfl ⟨⟨a1, a2, a3, d1, d2, d3⟩, rfl, (own.mod hm3 (fun b hb => by have := hb.1; omega)).mono (fun b hb => ⟨by omega, by simpa using hb.2⟩), Mod.blw (hb.trans hb1) hm3 (fun i hi => by omega)⟩

/-- The cells of a memory's own block. -/
theorem row_mem (w : World) (a b c : Value) (t : TypeId) : Row (w.alloc (.cells #[a, b, c] t)) w.heap.size 3 (fun i => if i = 0 then a else if i = 1 then b else c) := row3 (heap_alloc_new _ _)

abbrev M0 : MD := MD.full zeros zeros (fun _ => false)
theorem total0 : M0.total = 108 := by kernel_rfl

/-- The three cells of a box, in every world that only has more. -/
theorem box_cells {w : World} {B : Nat} {a b c : Value} (r : Row w B 3 (fun i => if i = 0 then a else if i = 1 then b else c)) :
    (w.cell? ⟨B, 0, none⟩ = some a ∧ w.cell? ⟨B, 1, none⟩ = some b ∧ w.cell? ⟨B, 2, none⟩ = some c) ∧
    ∀ o, (w.alloc o).cell? ⟨B, 0, none⟩ = some a ∧ (w.alloc o).cell? ⟨B, 1, none⟩ = some b ∧ (w.alloc o).cell? ⟨B, 2, none⟩ = some c :=
  ⟨⟨r.cell (i := 0) (by omega), r.cell (i := 1) (by omega), r.cell (i := 2) (by omega)⟩, fun o =>
    ⟨(r.blw ((Blw.refl w).alloc o)).cell (i := 0) (by omega), (r.blw ((Blw.refl w).alloc o)).cell (i := 1) (by omega), (r.blw ((Blw.refl w).alloc o)).cell (i := 2) (by omega)⟩⟩

end Go.Proofs.Ytnbcjdoohmjghaa
