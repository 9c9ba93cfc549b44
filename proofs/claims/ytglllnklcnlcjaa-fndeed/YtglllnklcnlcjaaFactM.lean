/- What a failure and a flush leave. -/
import Derived.Test.YtglllnklcnlcjaaFacts
namespace Go.Proofs.Ytglllnklcnlcjaa
open Go.RowKit
set_option linter.unusedVariables false
/-- Two memories of twelve lines read alike. -/
structure Alike (M M' : MD) : Prop where
  f : ∃ s c d, M = MD.full s c d
  f' : ∃ s c d, M' = MD.full s c d
  s : ∀ k, k < 12 → ∀ j, j < 4 → M.v1 k j = M'.v1 k j
  c : ∀ k, k < 12 → ∀ j, j < 4 → M.v2 k j = M'.v2 k j
  d : ∀ k, k < 12 → M.d k = M'.d k
theorem MemAt.alike {Y : Nat → Prop} {w : World} {m : MV} {M M' : MD} (h : MemAt Y w m M) (A : Alike M M') : MemAt Y w m M' := by
  obtain ⟨s, c, d, rfl⟩ := A.f
  obtain ⟨s', c', d', rfl⟩ := A.f'
  exact ⟨h.s.congr (fun _ _ => rfl) A.s, h.c.congr (fun _ _ => rfl) A.c, h.d.congr A.d⟩
theorem val_alike {m : MV} {M M' : MD} (A : Alike M M') : m.val M = m.val M' := by
  obtain ⟨s, c, d, rfl⟩ := A.f
  obtain ⟨s', c', d', rfl⟩ := A.f'
  rfl
theorem fw_true {M M' : MD} {n : Nat} {f : Nat → Int} (h : fwOut M n f M' true) : M.Good ∧ M'.Good ∧ (∃ s c d, M' = MD.full s c d) ∧ ∀ k, k < 12 → M'.d k = false ∧ (hasLine n f k → ∀ j, j < 4 → M'.v2 k j = M.v2 k j) ∧ (¬ hasLine n f k → ∀ j, j < 4 → M'.v2 k j = M.v1 k j) ∧ ∀ j, j < 4 → M'.v1 k j = M'.v2 k j := by
  rcases h with ⟨g, hr, rfl, _⟩ | ⟨_, _, h⟩
  · have P := good_parts g
    have e : ∀ k, k < 12 → ∀ j, fpS M.v1 M.v2 (hasLine n f) 12 k j = fpC M.v1 M.v2 (hasLine n f) 12 k j := fun k hk j => fp_same hk j
    have c1 : ∀ k, k < 12 → hasLine n f k → ∀ j, fpC M.v1 M.v2 (hasLine n f) 12 k j = M.v2 k j := fun k hk hh j => by simp [fpC, hk, hh]
    have c2 : ∀ k, k < 12 → ¬ hasLine n f k → ∀ j, fpC M.v1 M.v2 (hasLine n f) 12 k j = M.v1 k j := fun k hk hh j => by simp [fpC, hk, hh]
    have ok : ∀ k, k < 12 → ∀ j, j < 4 → wordOK (fpC M.v1 M.v2 (hasLine n f) 12 k j) := fun k hk j hj => by
      by_cases hh : hasLine n f k
      · rw [c1 k hk hh]; exact (P k hk).2.1 j hj
      · rw [c2 k hk hh]; exact (P k hk).1 j hj
    refine ⟨g, good_full.2 (fun k hk => ⟨fun j hj => by rw [e k hk]; exact ok k hk j hj, ok k hk, fun _ j _ => e k hk j⟩), ⟨_, _, _, rfl⟩, fun k hk => ⟨by simp [MD.full, faD, hk], fun hh j _ => c1 k hk hh j, fun hh j _ => c2 k hk hh j, fun j _ => e k hk j⟩⟩
  · cases h
theorem fa_good {M M' : MD} {b : Bool} (g : M.Good) (h : faOut M M' b) : b = true ∧ M'.Good ∧ (∃ s c d, M' = MD.full s c d) ∧ ∀ k, k < 12 → M'.d k = false ∧ (∀ j, j < 4 → M'.v1 k j = M.v2 k j) ∧ ∀ j, j < 4 → M'.v2 k j = M.v2 k j := by
  rcases h with ⟨_, rfl, rfl⟩ | ⟨ng, _⟩
  · have P := good_parts g
    have e : ∀ k, k < 12 → ∀ j, faS M.v1 M.v2 12 k j = M.v2 k j := fun k hk j => by simp [faS, hk]
    refine ⟨rfl, good_full.2 (fun k hk => ⟨fun j hj => by rw [e k hk]; exact (P k hk).2.1 j hj, (P k hk).2.1, fun _ j _ => e k hk j⟩), ⟨_, _, _, rfl⟩, fun k hk => ⟨by simp [MD.full, faD, hk], fun j _ => e k hk j, fun _ _ => rfl⟩⟩
  · exact absurd g ng
theorem rising_nil (f : Nat → Int) : rising 0 f := fun i hi => absurd hi (Nat.not_lt_zero _)
/-- A failure of a memory where nothing is dirty leaves it as it is. -/
theorem fw_clean {M M' : MD} {f : Nat → Int} {b : Bool} (g : M.Good) (hf : ∃ s c d, M = MD.full s c d) (hd : ∀ k, k < 12 → M.d k = false) (h : fwOut M 0 f M' b) : b = true ∧ Alike M M' := by
  have hb : b = true := by
    rcases h with ⟨_, _, _, rfl⟩ | ⟨ng, _⟩
    · rfl
    · exact absurd ⟨g, rising_nil f⟩ ng
  subst hb
  obtain ⟨_, _, hf', hk⟩ := fw_true h
  have P := good_parts g
  refine ⟨rfl, hf, hf', fun k hk' j hj => ?_, fun k hk' j hj => ?_, fun k hk' => by rw [(hk k hk').1, hd k hk']⟩
  · rw [(hk k hk').2.2.2 j hj, (hk k hk').2.2.1 (has_none f k) j hj]
  · rw [(hk k hk').2.2.1 (has_none f k) j hj, (P k hk').2.2 (hd k hk') j hj]
theorem good_zeros : (MD.full zeros zeros (fun _ => false)).Good :=
  good_full.2 (fun k hk => ⟨fun j hj => ⟨Int.le_refl 0, show (0 : Int) ≤ 65535 by decide⟩, fun j hj => ⟨Int.le_refl 0, show (0 : Int) ≤ 65535 by decide⟩, fun _ j _ => rfl⟩)
end Go.Proofs.Ytglllnklcnlcjaa
