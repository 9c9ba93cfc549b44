/- 'impl.NewMemory', and the law on it. -/
import Derived.Test.YtglllnklcnlcjaaNew
import Derived.Test.YtglllnklcnlcjaaSpecNew
import Derived.Test.YtglllnklcnlcjaaEq
namespace Go.Proofs.Ytglllnklcnlcjaa
open Go.RowKit
theorem zero79 : Try.zeroCells91 = ((List.range 108).map (hcell zeros zeros (fun _ => false))).toArray := by kernel_rfl
theorem row79 (w : World) : Row (w.alloc (.cells Try.zeroCells91 91)) w.heap.size 108 (hcell zeros zeros (fun _ => false)) :=
  ⟨_, 91, heap_alloc_new _ _, by rw [zero79]; simp, fun i hi => by rw [zero79]; simp [hi]⟩
/-- The cells of a memory's own block. -/
theorem row_mem (w : World) (a b c : Value) (t : TypeId) : Row (w.alloc (.cells #[a, b, c] t)) w.heap.size 3 (fun i => if i = 0 then a else if i = 1 then b else c) := row3 (heap_alloc_new _ _)

abbrev M0 : MD := MD.full zeros zeros (fun _ => false)
theorem total0 : M0.total = 108 := by kernel_rfl

/-- The three cells of a box, in every world that only has more. -/
theorem box_cells {w : World} {B : Nat} {a b c : Value} (r : Row w B 3 (fun i => if i = 0 then a else if i = 1 then b else c)) :
    (w.cell? ⟨B, 0, none⟩ = some a ∧ w.cell? ⟨B, 1, none⟩ = some b ∧ w.cell? ⟨B, 2, none⟩ = some c) ∧
    ∀ o, (w.alloc o).cell? ⟨B, 0, none⟩ = some a ∧ (w.alloc o).cell? ⟨B, 1, none⟩ = some b ∧ (w.alloc o).cell? ⟨B, 2, none⟩ = some c :=
  ⟨⟨r.cell (i := 0) (by omega), r.cell (i := 1) (by omega), r.cell (i := 2) (by omega)⟩, fun o =>
    ⟨(r.blw ((Blw.refl w).alloc o)).cell (i := 0) (by omega), (r.blw ((Blw.refl w).alloc o)).cell (i := 1) (by omega), (r.blw ((Blw.refl w).alloc o)).cell (i := 2) (by omega)⟩⟩

end Go.Proofs.Ytglllnklcnlcjaa
