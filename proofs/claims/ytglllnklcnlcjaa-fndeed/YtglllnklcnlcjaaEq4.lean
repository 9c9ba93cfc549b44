/- Arrays of four words held against each other. -/
import Derived.Test.YtglllnklcnlcjaaHold
namespace Go.Proofs.Ytglllnklcnlcjaa
open Go.RowKit
theorem part3 (w : World) (f : Nat → Int) (i : Nat) (hi : i < 4) : (part 3 (four f) i).run Try.prog w = .ok (.int .i64 (f i)) w := by
  match i, hi with
  | 0, _ => exact (show (part 3 (four f) 0).run Try.prog w = .ok (.int .i64 (f 0)) w by kernel_rfl)
  | 1, _ => exact (show (part 3 (four f) 1).run Try.prog w = .ok (.int .i64 (f 1)) w by kernel_rfl)
  | 2, _ => exact (show (part 3 (four f) 2).run Try.prog w = .ok (.int .i64 (f 2)) w by kernel_rfl)
  | 3, _ => exact (show (part 3 (four f) 3).run Try.prog w = .ok (.int .i64 (f 3)) w by kernel_rfl)
theorem size3 (w : World) : (sizeOf 3).run Try.prog w = .ok 1 w := by kernel_rfl
theorem eqArr (d : Nat) (f g : Nat → Int) (w : World) (H : ∀ a b w, (Op.equalIn d 3 (.int .i64 a) (.int .i64 b)).run Try.prog w = .ok (a == b) w) :
    (Op.equalIn (d + 1) 87 (.agg (four f)) (.agg (four g))).run Try.prog w = .ok ((f 0 == g 0) && ((f 1 == g 1) && ((f 2 == g 2) && (f 3 == g 3)))) w := by
  have p0 := fun w => part3 w f 0 (by omega)
  have p1 := fun w => part3 w f 1 (by omega)
  have p2 := fun w => part3 w f 2 (by omega)
  have p3 := fun w => part3 w f 3 (by omega)
  have q0 := fun w => part3 w g 0 (by omega)
  have q1 := fun w => part3 w g 1 (by omega)
  have q2 := fun w => part3 w g 2 (by omega)
  have q3 := fun w => part3 w g 3 (by omega)
  generalize four f = xs at *
  generalize four g = ys at *
  simp only [Op.equalIn, Sem.run_bind, run_underlying Try.underlying87, Result.andThen_ok, size3]
  by_cases h0 : f 0 = g 0 <;> by_cases h1 : f 1 = g 1 <;> by_cases h2 : f 2 = g 2 <;> by_cases h3 : f 3 = g 3 <;>
    simp [Sem.run_bind, p0, p1, p2, p3, q0, q1, q2, q3, H, h0, h1, h2, h3, List.range']
theorem neq75 (f g : Nat → Int) (w : World) : (binOp .neq 87 (.agg (four f)) (.agg (four g))).run Try.prog w = .ok (.bool (!((f 0 == g 0) && ((f 1 == g 1) && ((f 2 == g 2) && (f 3 == g 3)))))) w := by
  rw [run_neq_struct, eqArr 9999 f g w (fun a b w => run_equalIn_int w 9998 3 .i64 .i64 a b Try.underlying3)]
  rfl
theorem neq75_same (f g : Nat → Int) (h : ∀ j, j < 4 → f j = g j) (w : World) : (binOp .neq 87 (.agg (four f)) (.agg (four g))).run Try.prog w = .ok (.bool false) w := by
  rw [neq75, h 0 (by omega), h 1 (by omega), h 2 (by omega), h 3 (by omega)]
  simp
theorem neq75_other (f g : Nat → Int) (h : ¬ ∀ j, j < 4 → f j = g j) (w : World) : (binOp .neq 87 (.agg (four f)) (.agg (four g))).run Try.prog w = .ok (.bool true) w := by
  rw [neq75]
  have : ((f 0 == g 0) && ((f 1 == g 1) && ((f 2 == g 2) && (f 3 == g 3)))) = false := by
    rw [Bool.eq_false_iff]
    intro hh
    simp at hh
    refine h fun j hj => ?_
    match j, hj with
    | 0, _ => exact hh.1
    | 1, _ => exact hh.2.1
    | 2, _ => exact hh.2.2.1
    | 3, _ => exact hh.2.2.2
  rw [this]
  rfl
end Go.Proofs.Ytglllnklcnlcjaa
