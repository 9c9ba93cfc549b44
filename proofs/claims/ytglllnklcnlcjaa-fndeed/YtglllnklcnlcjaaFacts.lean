/- What stays good, and what is loaded behind a store. -/
import Derived.Test.YtglllnklcnlcjaaLoadB
import Derived.Test.YtglllnklcnlcjaaStoreB
import Derived.Test.YtglllnklcnlcjaaFailP
namespace Go.Proofs.Ytglllnklcnlcjaa
open Go.RowKit
theorem good_full {s c : Nat → Nat → Int} {d : Nat → Bool} : (MD.full s c d).Good ↔ ∀ k, k < 12 → (∀ j, j < 4 → wordOK (s k j)) ∧ (∀ j, j < 4 → wordOK (c k j)) ∧ (d k = false → ∀ j, j < 4 → s k j = c k j) := by
  constructor
  · intro g k hk
    have o := g.ok k hk
    exact ⟨o.a.2, o.b.2, o.c⟩
  · intro h
    refine ⟨rfl, rfl, rfl, fun k hk => ?_⟩
    obtain ⟨h1, h2, h3⟩ := h k hk
    exact ⟨⟨rfl, h1⟩, ⟨rfl, h2⟩, h3⟩
theorem good_parts {M : MD} (g : M.Good) : ∀ k, k < 12 → (∀ j, j < 4 → wordOK (M.v1 k j)) ∧ (∀ j, j < 4 → wordOK (M.v2 k j)) ∧ (M.d k = false → ∀ j, j < 4 → M.v1 k j = M.v2 k j) := fun k hk =>
  let o := g.ok k hk
  ⟨o.a.2, o.b.2, o.c⟩
theorem good_st {s c : Nat → Nat → Int} {d : Nat → Bool} {n : Nat} {x : Int} (g : (MD.full s c d).Good) (hx : 0 ≤ x ∧ x ≤ 65535) : (MD.full s (stC c n x) (stD d n)).Good := by
  rw [good_full] at g ⊢
  intro k hk
  obtain ⟨h1, h2, h3⟩ := g k hk
  refine ⟨h1, fun j hj => ?_, fun hd j hj => ?_⟩
  · unfold stC
    split
    · exact hx
    · exact h2 j hj
  · unfold stD at hd
    split at hd
    · cases hd
    · unfold stC
      rw [if_neg (by omega)]
      exact h3 hd j hj
theorem good_same {M : MD} (g : M.Good) : (MD.full M.v1 M.v2 M.d).Good := good_full.2 (good_parts g)
theorem stOut_good {M M' : MD} {x y : Int} (h : stOut M x y M' true) : M.Good ∧ M'.Good ∧ ∃ n : Nat, x = n ∧ n < 48 ∧ M'.v2 = stC M.v2 n y := by
  rcases h with ⟨g, n, rfl, hn, hy, rfl, _⟩ | ⟨_, _, h⟩
  · exact ⟨g, good_st (good_same g) hy, n, rfl, hn, rfl⟩
  · cases h
theorem good_sa {s c : Nat → Nat → Int} {d : Nat → Bool} {a : Nat} {f : Nat → Int} (g : (MD.full s c d).Good) : ∀ n, (∀ i, i < n → 0 ≤ f i ∧ f i ≤ 65535) → (MD.full s (saC c a f n) (saD d a n)).Good := by
  intro n
  induction n with
  | zero => intro _; exact g
  | succ n ih => intro h; exact good_st (ih (fun i hi => h i (by omega))) (h n (by omega))
theorem saC_at {c : Nat → Nat → Int} {a : Nat} {f : Nat → Int} : ∀ n i, i < n → saC c a f n ((a + i) / 4) ((a + i) % 4) = f i := by
  intro n
  induction n with
  | zero => intro i hi; omega
  | succ n ih =>
    intro i hi
    show stC (saC c a f n) (a + n) (f n) _ _ = _
    unfold stC
    by_cases e : i = n
    · subst e
      rw [if_pos ⟨rfl, rfl⟩]
    · rw [if_neg (by omega)]
      exact ih i (by omega)
theorem saC_other {c : Nat → Nat → Int} {a : Nat} {f : Nat → Int} {i j : Nat} : ∀ n, (∀ t, t < n → ¬ (i = (a + t) / 4 ∧ j = (a + t) % 4)) → saC c a f n i j = c i j := by
  intro n
  induction n with
  | zero => intro _; rfl
  | succ n ih =>
    intro h
    show stC (saC c a f n) (a + n) (f n) _ _ = _
    unfold stC
    rw [if_neg (h n (by omega))]
    exact ih (fun t ht => h t (by omega))
theorem saOut_good {M M' : MD} {x : Int} {n : Nat} {f : Nat → Int} (h : saOut M x n f M' true) : M.Good ∧ M'.Good ∧ stretch x n ∧ M' = MD.full M.v1 (saC M.v2 x.toNat f n) (saD M.d x.toNat n) := by
  rcases h with ⟨g, hs, hf, rfl, _⟩ | ⟨_, _, h⟩
  · exact ⟨g, good_sa (good_same g) n hf, hs, rfl⟩
  · cases h
/-- What was stored at once is loaded at once. -/
theorem sa_la {M M' : MD} {x : Int} {n n' : Nat} {f f' : Nat → Int} {b : Bool} (h : saOut M x n f M' true) (k : laOut M' x n n' f' b) : b = true ∧ n' = n ∧ ∀ i, i < n → f' i = f i := by
  obtain ⟨g, g', hs, rfl⟩ := saOut_good h
  rcases k with ⟨_, _, en, ef, rfl⟩ | ⟨ng, _⟩
  · refine ⟨rfl, by omega, fun i hi => ?_⟩
    rw [ef]
    show saC M.v2 x.toNat f n ((x.toNat + i) / 4) ((x.toNat + i) % 4) = f i
    exact saC_at n i hi
  · exact absurd ⟨g', hs⟩ ng
/-- Behind a store every word is what it was, but one. -/
theorem st_ld {M M' : MD} {x y a b : Int} {k : Nat} {p q : Bool} (h : stOut M x y M' true) (hk : k < 48) (ha : ldOut M k a p) (hb : ldOut M' k b q) : p = true ∧ q = true ∧ ((k : Int) = x → b = y) ∧ (¬ (k : Int) = x → a = b) := by
  obtain ⟨g, g', n, rfl, hn, e⟩ := stOut_good h
  rcases ha with ⟨_, k1, e1, _, rfl, rfl⟩ | ⟨ng, _⟩
  · rcases hb with ⟨_, k2, e2, _, rfl, rfl⟩ | ⟨ng, _⟩
    · obtain rfl : k1 = k := by omega
      obtain rfl : k2 = k1 := by omega
      refine ⟨rfl, rfl, fun e3 => ?_, fun e3 => ?_⟩
      · obtain rfl : k2 = n := by omega
        rw [e]
        simp [stC]
      · rw [e]
        unfold stC
        rw [if_neg (by omega)]
    · exact absurd ⟨g', by omega, by omega⟩ ng
  · exact absurd ⟨g, by omega, by omega⟩ ng
end Go.Proofs.Ytglllnklcnlcjaa
