/- A list of leaves given out. -/
import Derived.Test.YtjplodenflkghaaClone
namespace Go.Proofs.Ytjplodenflkghaa
open Go.RowKit
set_option linter.unusedSimpArgs false
set_option linter.unusedVariables false
theorem row_eight (w : World) (f g : Nat → Int) (t : TypeId) : Row (w.alloc (.cells (eight f g) t)) w.heap.size (4 * 2) (uc f g) :=
  ⟨_, t, heap_alloc_new _ _, by simp, fun i hi => by
    match i, hi with
    | 0, _ => rfl
    | 1, _ => rfl
    | 2, _ => rfl
    | 3, _ => rfl
    | 4, _ => rfl
    | 5, _ => rfl
    | 6, _ => rfl
    | 7, _ => rfl⟩
set_option maxRecDepth 10000 in
set_option maxHeartbeats 1600000 in
theorem giveLeaves_any (f g : Nat → Int) (w : World) :
    Calls Try.prog 171 #[.agg (eight f g)] w fun e w' => ∃ ao cap, e = .returned (.slice ao 4 cap) ∧ UndosOwn (fun x => w.heap.size ≤ x ∧ x < w'.heap.size) w' ao 4 f g ∧ Blw w w' := by
  have hb0 : Blw w (w.alloc (.cells (eight f g) 186)) := (Blw.refl _).alloc _
  have hU : UndosAt (fun x => x = w.heap.size) (w.alloc (.cells (eight f g) 186)) (some ⟨w.heap.size, 0, none⟩) 4 f g := ⟨by omega, fun i hi => by
    obtain ⟨q0, q1⟩ := undo_get (row_eight w f g 186) hi
    exact ⟨_, 0, rfl, rfl, by rw [Nat.zero_add]; exact q0, by rw [Nat.zero_add]; exact q1⟩⟩
  have HU : Hid (UndosAt (fun x => x = w.heap.size) (w.alloc (.cells (eight f g) 186)) (some ⟨w.heap.size, 0, none⟩) 4 f g) := hU
  clear hU
  go_enter Try.func171, Try.ntmps171
  go_wp2_with fail
  refine (cloneU_any w.heap.size 0 4 4 f g _ _ (by omega) HU.out).mono ?_
  rintro e w1 ⟨ao, cap, rfl, own, hb1⟩
  have FIN : Hid (∃ ao' cap', Ending.returned (Value.slice ao 4 cap) = .returned (.slice ao' 4 cap') ∧ UndosOwn (fun x => w.heap.size ≤ x ∧ x < w1.heap.size) w1 ao' 4 f g ∧ Blw w w1) := ⟨ao, cap, rfl, own.mono (fun x hx => ⟨Nat.le_trans hb0.size hx.1, hx.2⟩), hb0.trans hb1⟩
  clear own hb1 HU
  go_wp2
  exact bodyPost_ret (v := .slice ao 4 cap) (by simp [results, Try.results171, go_sem]) rfl FIN.out
end Go.Proofs.Ytjplodenflkghaa
