/- Free blocks, without any walk: the greatest ones, found page by page. -/
import Derived.Test.YtfmmpddknanhbaaGr
namespace Go.Proofs.Ytfmmpddknanhbaa
open Go.RowKit
set_option linter.unusedSimpArgs false
set_option linter.unusedVariables false
/-- A block of the order k that begins at a is nobody's and in no greater such one. -/
def maxB (c : Nat → Int) (k a : Nat) : Prop := grOK c a k ∧ (k = 4 ∨ ¬ fbP c (a / 2 ^ (k + 1) * 2 ^ (k + 1)) (2 ^ (k + 1)))
open Classical in
noncomputable def blkB (c : Nat → Int) (k : Nat) : Nat → Bool := fun a => decide (maxB c k a)
noncomputable def blocks (c : Nat → Int) (k : Nat) : List Nat := pk (blkB c k) 16
theorem blkB_yes {c : Nat → Int} {k a : Nat} (h : maxB c k a) : blkB c k a = true := by simp [blkB, h]
theorem blkB_no {c : Nat → Int} {k a : Nat} (h : ¬ maxB c k a) : blkB c k a = false := by simp [blkB, h]
theorem fbP_sub {c : Nat → Int} {p n q m : Nat} (h : fbP c p n) (h1 : p ≤ q) (h2 : q + m ≤ p + n) : fbP c q m := fun i hi => by
  have := h (q + i - p) (by omega)
  rw [show p + (q + i - p) = q + i by omega] at this
  exact this
theorem le4 {k : Nat} (h : k ≤ 4) : k = 0 ∨ k = 1 ∨ k = 2 ∨ k = 3 ∨ k = 4 := by omega
theorem pow5 : (2 : Nat) ^ 0 = 1 ∧ (2 : Nat) ^ 1 = 2 ∧ (2 : Nat) ^ 2 = 4 ∧ (2 : Nat) ^ 3 = 8 ∧ (2 : Nat) ^ 4 = 16 ∧ (2 : Nat) ^ 5 = 32 := ⟨rfl, rfl, rfl, rfl, rfl, rfl⟩
/-- Each free block lies in a greatest one. -/
theorem exMax {c : Nat → Int} {q : Nat} : ∀ (n j : Nat), j + n = 4 → fbP c (q / 2 ^ j * 2 ^ j) (2 ^ j) → ∃ j', j ≤ j' ∧ j' ≤ 4 ∧ maxB c j' (q / 2 ^ j' * 2 ^ j')
  | 0, j, h, hf => ⟨j, Nat.le_refl _, by omega, ⟨Nat.mul_mod_left _ _, hf⟩, Or.inl (by omega)⟩
  | n + 1, j, h, hf => by
    by_cases hp : fbP c (q / 2 ^ (j + 1) * 2 ^ (j + 1)) (2 ^ (j + 1))
    · obtain ⟨j', h1, h2, h3⟩ := exMax n (j + 1) (by omega) hp
      exact ⟨j', by omega, h2, h3⟩
    · refine ⟨j, Nat.le_refl _, by omega, ⟨Nat.mul_mod_left _ _, hf⟩, Or.inr ?_⟩
      have e : q / 2 ^ j * 2 ^ j / 2 ^ (j + 1) = q / 2 ^ (j + 1) := by
        rcases le4 (show j ≤ 4 by omega) with rfl | rfl | rfl | rfl | rfl <;> simp only [Nat.reduceAdd, Nat.reducePow] <;> omega
      rw [e]
      exact hp
/-- No greatest block that begins ahead of p goes beyond it. -/
def inv (c : Nat → Int) (p : Nat) : Prop := ∀ k a, k ≤ 4 → maxB c k a → a < p → a + 2 ^ k ≤ p
theorem none_at {c : Nat → Int} {p : Nat} (h : ∀ k', k' ≤ 4 → ¬ grOK c p k') (hi : inv c p) : inv c (p + 1) ∧ ∀ k, k ≤ 4 → ¬ maxB c k p := by
  have hn : ∀ k, k ≤ 4 → ¬ maxB c k p := fun k hk hm => h k hk hm.1
  refine ⟨fun k a hk hm ha => ?_, hn⟩
  by_cases e : a = p
  · subst e; exact absurd hm (hn k hk)
  · have := hi k a hk hm (by omega); omega
theorem gr_max {c : Nat → Int} {p k : Nat} (hk : k ≤ 4) (h : grOK c p k) (hg : ∀ k', k < k' → k' ≤ 4 → ¬ grOK c p k') (hi : inv c p) : maxB c k p := by
  refine ⟨h, Classical.byContradiction fun hn => ?_⟩
  have h4 : k ≠ 4 := fun e => hn (Or.inl e)
  have hf : fbP c (p / 2 ^ (k + 1) * 2 ^ (k + 1)) (2 ^ (k + 1)) := Classical.byContradiction fun e => hn (Or.inr e)
  obtain ⟨j', h1, h2, h3⟩ := exMax (c := c) (q := p) (4 - (k + 1)) (k + 1) (by omega) hf
  by_cases e : p / 2 ^ j' * 2 ^ j' = p
  · rw [e] at h3
    exact hg j' (by omega) h2 h3.1
  · have hle : p / 2 ^ j' * 2 ^ j' ≤ p := Nat.div_mul_le_self _ _
    have := hi j' _ h2 h3 (by omega)
    have hlt : p < p / 2 ^ j' * 2 ^ j' + 2 ^ j' := by
      have h5 := Nat.div_add_mod p (2 ^ j')
      have h6 := Nat.mod_lt p (show 2 ^ j' > 0 from Nat.two_pow_pos j')
      rw [Nat.mul_comm] at h5
      omega
    omega
theorem inside {c : Nat → Int} {p k : Nat} (hk : k ≤ 4) (h : grOK c p k) {t k' : Nat} (hk' : k' ≤ 4) (h1 : p < t) (h2 : t < p + 2 ^ k) : ¬ maxB c k' t := by
  intro hm
  have a1 := h.1
  have a2 := hm.1.1
  by_cases hlt : k' < k
  · rcases hm.2 with e | e
    · omega
    · refine e (fbP_sub h.2 ?_ ?_)
      · rcases le4 hk with rfl | rfl | rfl | rfl | rfl <;> rcases le4 hk' with rfl | rfl | rfl | rfl | rfl <;> simp only [Nat.reduceAdd, Nat.reducePow] at * <;> omega
      · rcases le4 hk with rfl | rfl | rfl | rfl | rfl <;> rcases le4 hk' with rfl | rfl | rfl | rfl | rfl <;> simp only [Nat.reduceAdd, Nat.reducePow] at * <;> omega
  · rcases le4 hk with rfl | rfl | rfl | rfl | rfl <;> rcases le4 hk' with rfl | rfl | rfl | rfl | rfl <;> simp only [Nat.reduceAdd, Nat.reducePow] at * <;> omega
theorem other {c : Nat → Int} {p k : Nat} (hk : k ≤ 4) (h : grOK c p k) (hg : ∀ k', k < k' → k' ≤ 4 → ¬ grOK c p k') {k' : Nat} (hk' : k' ≤ 4) (hne : k' ≠ k) : ¬ maxB c k' p := by
  intro hm
  by_cases hlt : k' < k
  · rcases hm.2 with e | e
    · omega
    · have a1 := h.1
      refine e (fbP_sub h.2 ?_ ?_)
      · rcases le4 hk with rfl | rfl | rfl | rfl | rfl <;> rcases le4 hk' with rfl | rfl | rfl | rfl | rfl <;> simp only [Nat.reduceAdd, Nat.reducePow] at * <;> omega
      · rcases le4 hk with rfl | rfl | rfl | rfl | rfl <;> rcases le4 hk' with rfl | rfl | rfl | rfl | rfl <;> simp only [Nat.reduceAdd, Nat.reducePow] at * <;> omega
  · exact hg k' (by omega) hk' hm.1
theorem inv_next {c : Nat → Int} {p k : Nat} (hk : k ≤ 4) (h : grOK c p k) (hg : ∀ k', k < k' → k' ≤ 4 → ¬ grOK c p k') (hi : inv c p) : inv c (p + 2 ^ k) := by
  intro k' a hk' hm ha
  by_cases h1 : a < p
  · exact Nat.le_trans (hi k' a hk' hm h1) (Nat.le_add_right _ _)
  · by_cases h2 : a = p
    · subst h2
      by_cases h3 : k' = k
      · subst h3; exact Nat.le_refl _
      · exact absurd hm (other hk h hg hk' h3)
    · exact absurd hm (inside hk h hk' (by omega) ha)
theorem pk_skip {p : Nat → Bool} {j : Nat} : ∀ n, (∀ t, j ≤ t → t < j + n → p t = false) → pk p (j + n) = pk p j
  | 0, _ => rfl
  | n + 1, h => by
    rw [← Nat.add_assoc, pk_no (h (j + n) (by omega) (by omega))]
    exact pk_skip n (fun t h1 h2 => h t h1 (by omega))
theorem blocks_none {c : Nat → Int} {p k : Nat} (hk : k ≤ 4) (h : ∀ k', k' ≤ 4 → ¬ grOK c p k') (hi : inv c p) : pk (blkB c k) (p + 1) = pk (blkB c k) p := pk_no (blkB_no ((none_at h hi).2 k hk))
theorem blocks_this {c : Nat → Int} {p k : Nat} (hk : k ≤ 4) (h : grOK c p k) (hg : ∀ k', k < k' → k' ≤ 4 → ¬ grOK c p k') (hi : inv c p) : pk (blkB c k) (p + 2 ^ k) = pk (blkB c k) p ++ [p] := by
  rw [← pk_yes (blkB_yes (gr_max hk h hg hi))]
  have e : p + 2 ^ k = p + 1 + (2 ^ k - 1) := by have := Nat.two_pow_pos k; omega
  rw [e]
  exact pk_skip _ (fun t h1 h2 => blkB_no (inside hk h hk (by omega) (by have := Nat.two_pow_pos k; omega)))
theorem blocks_other {c : Nat → Int} {p k k' : Nat} (hk : k ≤ 4) (h : grOK c p k) (hg : ∀ k', k < k' → k' ≤ 4 → ¬ grOK c p k') (hk' : k' ≤ 4) (hne : k' ≠ k) : pk (blkB c k') (p + 2 ^ k) = pk (blkB c k') p :=
  pk_skip _ (fun t h1 h2 => blkB_no (by
    by_cases e : t = p
    · subst e; exact other hk h hg hk' hne
    · exact inside hk h hk' (by omega) h2))
theorem inv_zero (c : Nat → Int) : inv c 0 := fun k a hk hm ha => absurd ha (Nat.not_lt_zero _)
theorem gr_fit {c : Nat → Int} {p k : Nat} (hk : k ≤ 4) (h : grOK c p k) (hp : p < 16) : p + 2 ^ k ≤ 16 := by
  have a1 := h.1
  rcases le4 hk with rfl | rfl | rfl | rfl | rfl <;> simp only [Nat.reduceAdd, Nat.reducePow] at * <;> omega
end Go.Proofs.Ytfmmpddknanhbaa
