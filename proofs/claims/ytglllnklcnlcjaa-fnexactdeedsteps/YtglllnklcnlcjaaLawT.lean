/- How great answers are. -/
import Derived.Test.YtglllnklcnlcjaaLawM
import Derived.Test.YtglllnklcnlcjaaDeedS
import Derived.Test.YtglllnklcnlcjaaXGood
namespace Go.Proofs.Ytglllnklcnlcjaa
open Go.RowKit
theorem rdOut_total {M R : MD} {b : Bool} (h : rdOut M R b) : R.total ≤ 108 := by
  rcases h with ⟨_, rfl, _⟩ | ⟨_, rfl, _⟩
  · exact Nat.le_of_eq (total_full _ _ _)
  · rw [total_zero]; omega
theorem ddOut_total {M : MD} {n : Nat} {f g : Nat → Int} {R : MD} {b : Bool} (h : ddOut M n f g R b) : R.total ≤ 108 := by
  rcases h with ⟨_, rfl, _⟩ | ⟨_, rfl, _⟩
  · exact Nat.le_of_eq (total_full _ _ _)
  · rw [total_zero]; omega
theorem fdOut_total {M : MD} {n : Nat} {f g : Nat → Int} {k : Int} {ns : Nat} {fs : Nat → Int} {R : MD} {b : Bool} (h : fdOut M n f g k ns fs R b) : R.total ≤ 108 := by
  rcases h with ⟨_, _, _, _, _, h⟩ | ⟨_, rfl, _⟩
  · exact rdOut_total h
  · rw [total_zero]; omega
end Go.Proofs.Ytglllnklcnlcjaa
