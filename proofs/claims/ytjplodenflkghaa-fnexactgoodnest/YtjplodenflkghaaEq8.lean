/- Arrays of leaves held against the empty one. -/
import Derived.Test.YtjplodenflkghaaStand
namespace Go.Proofs.Ytjplodenflkghaa
open Go.RowKit
set_option linter.unusedSimpArgs false
set_option linter.unusedVariables false
theorem part73 (w : World) (f g : Nat → Int) (i : Nat) (hi : i < 4) : (part 144 (eight f g) (i * 2)).run Try.prog w = .ok (.agg #[.int .i64 (f i), .int .i64 (g i)]) w := by
  match i, hi with
  | 0, _ => exact (show (part 144 (eight f g) 0).run Try.prog w = .ok (.agg #[.int .i64 (f 0), .int .i64 (g 0)]) w by kernel_rfl)
  | 1, _ => exact (show (part 144 (eight f g) 2).run Try.prog w = .ok (.agg #[.int .i64 (f 1), .int .i64 (g 1)]) w by kernel_rfl)
  | 2, _ => exact (show (part 144 (eight f g) 4).run Try.prog w = .ok (.agg #[.int .i64 (f 2), .int .i64 (g 2)]) w by kernel_rfl)
  | 3, _ => exact (show (part 144 (eight f g) 6).run Try.prog w = .ok (.agg #[.int .i64 (f 3), .int .i64 (g 3)]) w by kernel_rfl)
theorem size73 (w : World) : (sizeOf 144).run Try.prog w = .ok 2 w := by kernel_rfl
theorem pairEq (d : Nat) (a b a' b' : Int) (w : World) : (Op.equalIn (d + 2) 144 (.agg #[.int .i64 a, .int .i64 b]) (.agg #[.int .i64 a', .int .i64 b'])).run Try.prog w = .ok ((a == a') && (b == b')) w := by
  have u : Try.prog.underlying 144 = some (.struct (Try.prog.fieldsOf 144)) := by kernel_rfl
  have hp : Try.prog.stoodInHeld 144 = false := by kernel_rfl
  have hf : (Try.prog.fieldsOf 144).map (fun f => (f.name, f.type, f.offset)) = #[("Page", 3, 0), ("May", 3, 1)] := by kernel_rfl
  have p0 : ∀ w, (part 3 #[Value.int .i64 a, .int .i64 b] 0).run Try.prog w = .ok (.int .i64 a) w := fun w => by kernel_rfl
  have p1 : ∀ w, (part 3 #[Value.int .i64 a, .int .i64 b] 1).run Try.prog w = .ok (.int .i64 b) w := fun w => by kernel_rfl
  have q0 : ∀ w, (part 3 #[Value.int .i64 a', .int .i64 b'] 0).run Try.prog w = .ok (.int .i64 a') w := fun w => by kernel_rfl
  have q1 : ∀ w, (part 3 #[Value.int .i64 a', .int .i64 b'] 1).run Try.prog w = .ok (.int .i64 b') w := fun w => by kernel_rfl
  have H : ∀ x y w, (Op.equalIn (d + 1) 3 (.int .i64 x) (.int .i64 y)).run Try.prog w = .ok (x == y) w := fun x y w => run_equalIn_int w d 3 .i64 .i64 x y Try.underlying3
  by_cases h0 : a = a' <;> by_cases h1 : b = b' <;> simp [go_sem, h0, h1]
set_option maxHeartbeats 3200000 in
theorem eqArr8 (d : Nat) (f g f' g' : Nat → Int) (w : World) (H : ∀ a b a' b' w, (Op.equalIn d 144 (.agg #[.int .i64 a, .int .i64 b]) (.agg #[.int .i64 a', .int .i64 b'])).run Try.prog w = .ok ((a == a') && (b == b')) w) :
    (Op.equalIn (d + 1) 186 (.agg (eight f g)) (.agg (eight f' g'))).run Try.prog w = .ok (((f 0 == f' 0) && (g 0 == g' 0)) && (((f 1 == f' 1) && (g 1 == g' 1)) && (((f 2 == f' 2) && (g 2 == g' 2)) && ((f 3 == f' 3) && (g 3 == g' 3))))) w := by
  have p0 : ∀ w, (part 144 (eight f g) 0).run Try.prog w = .ok (.agg #[.int .i64 (f 0), .int .i64 (g 0)]) w := fun w => part73 w f g 0 (by omega)
  have q0 : ∀ w, (part 144 (eight f' g') 0).run Try.prog w = .ok (.agg #[.int .i64 (f' 0), .int .i64 (g' 0)]) w := fun w => part73 w f' g' 0 (by omega)
  have p1 : ∀ w, (part 144 (eight f g) 2).run Try.prog w = .ok (.agg #[.int .i64 (f 1), .int .i64 (g 1)]) w := fun w => part73 w f g 1 (by omega)
  have q1 : ∀ w, (part 144 (eight f' g') 2).run Try.prog w = .ok (.agg #[.int .i64 (f' 1), .int .i64 (g' 1)]) w := fun w => part73 w f' g' 1 (by omega)
  have p2 : ∀ w, (part 144 (eight f g) 4).run Try.prog w = .ok (.agg #[.int .i64 (f 2), .int .i64 (g 2)]) w := fun w => part73 w f g 2 (by omega)
  have q2 : ∀ w, (part 144 (eight f' g') 4).run Try.prog w = .ok (.agg #[.int .i64 (f' 2), .int .i64 (g' 2)]) w := fun w => part73 w f' g' 2 (by omega)
  have p3 : ∀ w, (part 144 (eight f g) 6).run Try.prog w = .ok (.agg #[.int .i64 (f 3), .int .i64 (g 3)]) w := fun w => part73 w f g 3 (by omega)
  have q3 : ∀ w, (part 144 (eight f' g') 6).run Try.prog w = .ok (.agg #[.int .i64 (f' 3), .int .i64 (g' 3)]) w := fun w => part73 w f' g' 3 (by omega)
  generalize eight f g = xs at *
  generalize eight f' g' = ys at *
  simp only [Op.equalIn, Sem.run_bind, run_underlying Try.underlying186, Result.andThen_ok, size73]
  generalize h0 : ((f 0 == f' 0) && (g 0 == g' 0)) = b0 at *
  generalize h1 : ((f 1 == f' 1) && (g 1 == g' 1)) = b1 at *
  generalize h2 : ((f 2 == f' 2) && (g 2 == g' 2)) = b2 at *
  generalize h3 : ((f 3 == f' 3) && (g 3 == g' 3)) = b3 at *
  have e0 := fun w => H (f 0) (g 0) (f' 0) (g' 0) w
  have e1 := fun w => H (f 1) (g 1) (f' 1) (g' 1) w
  have e2 := fun w => H (f 2) (g 2) (f' 2) (g' 2) w
  have e3 := fun w => H (f 3) (g 3) (f' 3) (g' 3) w
  rw [h0] at e0
  rw [h1] at e1
  rw [h2] at e2
  rw [h3] at e3
  clear H h0 h1 h2 h3
  cases b0 <;> cases b1 <;> cases b2 <;> cases b3 <;> simp [Sem.run_bind, p0, p1, p2, p3, q0, q1, q2, q3, e0, e1, e2, e3, List.range']
theorem neq8_same (f g : Nat → Int) (h : isZero8 f g) (w : World) : (binOp .neq 186 (.agg (eight f g)) (.agg (eight zf zf))).run Try.prog w = .ok (.bool false) w := by
  rw [run_neq_struct, eqArr8 9999 f g zf zf w (fun a b a' b' w => pairEq 9997 a b a' b' w), (h 0 (by omega)).1, (h 0 (by omega)).2, (h 1 (by omega)).1, (h 1 (by omega)).2, (h 2 (by omega)).1, (h 2 (by omega)).2, (h 3 (by omega)).1, (h 3 (by omega)).2]
  rfl
theorem neq8_other (f g : Nat → Int) (h : ¬ isZero8 f g) (w : World) : (binOp .neq 186 (.agg (eight f g)) (.agg (eight zf zf))).run Try.prog w = .ok (.bool true) w := by
  rw [run_neq_struct, eqArr8 9999 f g zf zf w (fun a b a' b' w => pairEq 9997 a b a' b' w)]
  have : (((f 0 == zf 0) && (g 0 == zf 0)) && (((f 1 == zf 1) && (g 1 == zf 1)) && (((f 2 == zf 2) && (g 2 == zf 2)) && ((f 3 == zf 3) && (g 3 == zf 3))))) = false := by
    rw [Bool.eq_false_iff]
    intro hh
    simp at hh
    refine h fun j hj => ?_
    match j, hj with
    | 0, _ => exact hh.1
    | 1, _ => exact hh.2.1
    | 2, _ => exact hh.2.2.1
    | 3, _ => exact hh.2.2.2
  rw [this]
  rfl
end Go.Proofs.Ytjplodenflkghaa
