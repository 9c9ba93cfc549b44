/- 'spec.StoreAll' and 'impl.StoreAll'. -/
import Derived.Test.YtglllnklcnlcjaaWhole
namespace Go.Proofs.Ytglllnklcnlcjaa
open Go.RowKit
set_option linter.unusedSimpArgs false
/-- The first k words stored from a on. -/
def saC (c : Nat → Nat → Int) (a : Nat) (f : Nat → Int) : Nat → Nat → Nat → Int
  | 0 => c
  | k + 1 => stC (saC c a f k) (a + k) (f k)
def saD (d : Nat → Bool) (a : Nat) : Nat → Nat → Bool
  | 0 => d
  | k + 1 => stD (saD d a k) (a + k)
def stretch (at_ n : Int) : Prop := (0 ≤ at_ ∧ at_ ≤ 47) ∧ (0 ≤ n ∧ n ≤ 8) ∧ at_ + n ≤ 48
/-- What StoreAll answers. -/
def saOut (M : MD) (at_ : Int) (n : Nat) (f : Nat → Int) (M' : MD) (b : Bool) : Prop :=
  (M.Good ∧ stretch at_ n ∧ (∀ i, i < n → 0 ≤ f i ∧ f i ≤ 65535) ∧ M' = MD.full M.v1 (saC M.v2 at_.toNat f n) (saD M.d at_.toNat n) ∧ b = true) ∨ (¬ (M.Good ∧ stretch at_ n ∧ ∀ i, i < n → 0 ≤ f i ∧ f i ≤ 65535) ∧ M' = MZ ∧ b = false)
theorem saOut_same {M M1 M2 : MD} {at_ : Int} {n : Nat} {f : Nat → Int} {b c : Bool} (h : saOut M at_ n f M1 b) (k : saOut M at_ n f M2 c) : M1 = M2 ∧ b = c := by
  rcases h with ⟨g, s, x, rfl, rfl⟩ | ⟨g, rfl, rfl⟩
  · rcases k with ⟨_, _, _, rfl, rfl⟩ | ⟨g', rfl, rfl⟩
    · exact ⟨rfl, rfl⟩
    · exact absurd ⟨g, s, x⟩ g'
  · rcases k with ⟨g', s, x, rfl, rfl⟩ | ⟨g', rfl, rfl⟩
    · exact absurd ⟨g', s, x⟩ g
    · exact ⟨rfl, rfl⟩
theorem saOut_total {M M1 : MD} {at_ : Int} {n : Nat} {f : Nat → Int} {b : Bool} (h : saOut M at_ n f M1 b) : M1.total ≤ 108 := by
  rcases h with ⟨g, s, x, rfl, rfl⟩ | ⟨g, rfl, rfl⟩
  · rw [total_full]; omega
  · rw [total_zero]; omega
end Go.Proofs.Ytglllnklcnlcjaa
