/- What the laws on owners say, without any walk. -/
import Derived.Test.YtfmmpddknanhbaaFbS
import Derived.Test.YtfmmpddknanhbaaSpecL
namespace Go.Proofs.Ytfmmpddknanhbaa
open Go.RowKit
set_option linter.unusedSimpArgs false
set_option linter.unusedVariables false
theorem mem_line {L : List Nat} {x : Nat} (h : x ∈ L) : hasLine L.length (lf L) (x : Int) := by
  obtain ⟨t, ht, e⟩ := List.getElem_of_mem h
  exact ⟨t, ht, by simp [lf, List.getD_eq_getElem?_getD, ht, e]⟩
theorem pk_in {p : Nat → Bool} {j x : Nat} (h : x < j) (hp : p x = true) : x ∈ pk p j := by
  unfold pk; rw [List.mem_filter, List.mem_range]; exact ⟨h, hp⟩
theorem upd_upd {l : Nat → Int} {p : Nat} {t : Int} (h : l p = 0) : upd (upd l p t) p 0 = l := by
  funext i
  unfold upd
  by_cases e : i = p
  · subst e; rw [if_pos rfl]; exact h.symm
  · rw [if_neg e, if_neg e]
theorem lent_good {c l : Nat → Int} {o p t : Int} (h : lendOK ⟨16, c, 16, l⟩ o p t) : BD.Good (lentTo ⟨16, c, 16, l⟩ p t) := by
  obtain ⟨g, ho, hp, ht, hne, hc, hl⟩ := h
  refine ⟨rfl, rfl, fun i hi => ?_⟩
  show pageOK (c i) (upd l p.toNat t i)
  unfold upd
  by_cases e : i = p.toNat
  · subst e
    rw [if_pos rfl]
    have h1 : c p.toNat = o := hc
    rw [h1]
    unfold whoOK at *
    exact ⟨by omega, by omega, fun _ => ⟨by omega, by omega⟩⟩
  · rw [if_neg e]; exact g.ok i hi
theorem lent_fact {c l : Nat → Int} {o p t : Int} {R C : BD} {na nb : Nat} {fa fb : Nat → Int} {one two three g : Bool} (h : resO (lendOK ⟨16, c, 16, l⟩ o p t) (lentTo ⟨16, c, 16, l⟩ p t) R true) (ha : muOut R o na fa one) (hb : muOut R t nb fb two) (hc : resO (backOK R o p) (lentTo R p 0) C three) (hg : g = true ↔ R.Good) :
    g = true ∧ one = true ∧ hasLine na fa p ∧ two = true ∧ hasLine nb fb p ∧ three = true ∧ C = ⟨16, c, 16, l⟩ := by
  rcases h with ⟨ok, rfl, -⟩ | ⟨_, _, e⟩
  case inr => cases e
  have hG := lent_good ok
  obtain ⟨g0, ho, hp, ht, hne, hcc, hl⟩ := ok
  have hcc' : c p.toNat = o := hcc
  have hp' : 0 ≤ p ∧ p ≤ 15 := hp
  have hpn : ((p.toNat : Nat) : Int) = p := by omega
  have hpl : p.toNat < 16 := by omega
  have m1 : mayP c (upd l p.toNat t) o p.toNat = true := by simp [mayP, hcc']
  have m2 : mayP c (upd l p.toNat t) t p.toNat = true := by simp [mayP, upd]
  refine ⟨hg.2 hG, ?_⟩
  rcases ha with ⟨_, rfl, rfl, rfl⟩ | ⟨n, _⟩
  case inr => exact absurd ⟨hG, ho⟩ n
  rcases hb with ⟨_, rfl, rfl, rfl⟩ | ⟨n, _⟩
  case inr => exact absurd ⟨hG, ht⟩ n
  rcases hc with ⟨_, rfl, rfl⟩ | ⟨n, _⟩
  case inr => exact absurd ⟨hG, ho, hp, hcc, by show ¬ upd l p.toNat t p.toNat = 0; simp only [upd, if_pos]; unfold whoOK at ht; omega⟩ n
  refine ⟨rfl, ?_, rfl, ?_, rfl, ?_⟩
  · have := mem_line (pk_in (p := mayP c (upd l p.toNat t) o) hpl m1); rw [hpn] at this; exact this
  · have := mem_line (pk_in (p := mayP c (upd l p.toNat t) t) hpl m2); rw [hpn] at this; exact this
  · show BD.mk 16 c 16 (upd (upd l p.toNat t) p.toNat 0) = _
    rw [upd_upd hl]
theorem filter_le {α : Type} {p q : α → Bool} (h : ∀ x, p x = true → q x = true) : ∀ L : List α, (L.filter p).length ≤ (L.filter q).length
  | [] => Nat.le_refl _
  | x :: L => by
    have ih := filter_le h L
    by_cases hp : p x = true
    · rw [List.filter_cons_of_pos hp, List.filter_cons_of_pos (h x hp)]; simp; exact ih
    · rw [List.filter_cons_of_neg hp]
      by_cases hq : q x = true
      · rw [List.filter_cons_of_pos hq]; simp; omega
      · rw [List.filter_cons_of_neg hq]; exact ih
theorem drop_fact {U D : BD} {o n : Int} {m x : Nat} {fm fx : Nat → Int} {three seven g : Bool} (h : resN (muOK U o) (dropped U o) (had U o) D n true) (hm : muOut U o m fm three) (hx : muOut D o x fx seven) (hg : g = true ↔ D.Good) :
    g = true ∧ seven = true ∧ x = 0 ∧ n ≤ (m : Int) := by
  rcases h with ⟨ok, rfl, rfl, -⟩ | ⟨_, _, _, e⟩
  case inr => cases e
  obtain ⟨hU, ho⟩ := ok
  have ho' : 1 ≤ o ∧ o ≤ 6 := ho
  have hG : BD.Good (dropped U o) := ⟨rfl, rfl, fun i hi => by
    have := hU.ok i hi
    show pageOK (dropC U.c o i) (dropL U.c U.l o i)
    unfold dropC dropL
    unfold pageOK at *
    by_cases e : U.c i = o
    · rw [if_pos e, if_pos e]; omega
    · rw [if_neg e, if_neg e]
      by_cases e2 : U.l i = o
      · rw [if_pos e2]; omega
      · rw [if_neg e2]; exact this⟩
  refine ⟨hg.2 hG, ?_⟩
  rcases hx with ⟨_, rfl, rfl, rfl⟩ | ⟨n, _⟩
  case inr => exact absurd ⟨hG, ho⟩ n
  rcases hm with ⟨_, rfl, rfl, rfl⟩ | ⟨n, _⟩
  case inr => exact absurd ⟨hU, ho⟩ n
  refine ⟨rfl, ?_, ?_⟩
  · have : ∀ i, mayP (dropC U.c o) (dropL U.c U.l o) o i = false := fun i => by
      simp only [mayP, Bool.or_eq_false_iff, decide_eq_false_iff_not]
      unfold dropC dropL
      by_cases e : U.c i = o
      · rw [if_pos e, if_pos e]; omega
      · rw [if_neg e, if_neg e]
        refine ⟨e, ?_⟩
        by_cases e2 : U.l i = o
        · rw [if_pos e2]; omega
        · rw [if_neg e2]; exact e2
    show (pk (mayP (dropC U.c o) (dropL U.c U.l o) o) 16).length = 0
    unfold pk
    rw [List.length_eq_zero_iff, List.filter_eq_nil_iff]
    intro a _
    rw [this a]; simp
  · have := filter_le (p := ownP U.c o) (q := mayP U.c U.l o) (fun i hi => by simp only [ownP] at hi; simp [mayP, hi]) (List.range 16)
    show (((pk (ownP U.c o) 16).length : Nat) : Int) ≤ ((pk (mayP U.c U.l o) 16).length : Nat)
    unfold pk
    omega
theorem none_good : BD.Good BD.none16 := ⟨rfl, rfl, fun i hi => ⟨by show (0 : Int) ≤ 0 ∧ (0 : Int) ≤ 6; omega, by show (0 : Int) ≤ 0 ∧ (0 : Int) ≤ 6; omega, fun h => absurd h (by show ¬ (0 : Int) < 0; omega)⟩⟩
/-! ### Blocks that are taken -/
theorem ff_inv {L : Nat → List Nat} {x : Nat} : ∀ (n k0 : Nat), ff L n k0 = some x → ∃ k t, k0 ≤ k ∧ k ≤ k0 + n ∧ L k = x :: t
  | 0, k0, h => by
    simp only [ff] at h
    rcases e : L k0 with _ | ⟨y, t⟩
    · rw [e] at h; cases h
    · rw [e] at h; cases h; exact ⟨k0, t, by omega, by omega, e⟩
  | n + 1, k0, h => by
    simp only [ff] at h
    rcases e : L k0 with _ | ⟨y, t⟩
    · rw [e] at h
      obtain ⟨k, t, h1, h2, h3⟩ := ff_inv n (k0 + 1) h
      exact ⟨k, t, by omega, by omega, h3⟩
    · rw [e] at h; cases h; exact ⟨k0, t, by omega, by omega, e⟩
theorem fill_fill {c : Nat → Int} {x S : Nat} {o : Int} (h : ∀ i, i < S → c (x + i) = 0) : fillF (fillF c x S o) x S 0 = c := by
  funext t
  unfold fillF
  by_cases e : x ≤ t ∧ t < x + S
  · rw [if_pos e]
    have := h (t - x) (by omega)
    rw [show x + (t - x) = t by omega] at this
    exact this.symm
  · rw [if_neg e, if_neg e]
structure Took (c l : Nat → Int) (o k at_ : Int) (R : BD) (x S : Nat) : Prop where
  hat : at_ = (x : Int)
  hS : S = bsz k
  ord : ordOK k
  x16 : x < 16
  fit : x + S ≤ 16
  mod : x % S = 0
  hR : R = ⟨16, fillF c x S o, 16, l⟩
  free : ∀ i, i < S → c (x + i) = 0 ∧ l (x + i) = 0
  who : whoOK o
  good : BD.Good ⟨16, c, 16, l⟩
theorem took {c l : Nat → Int} {o k at_ : Int} {R : BD} (h : resN (takeOK ⟨16, c, 16, l⟩ o k) (taken ⟨16, c, 16, l⟩ o k) (takeAt ⟨16, c, 16, l⟩ k) R at_ true) : ∃ x S, Took c l o k at_ R x S := by
  rcases h with ⟨⟨g, ho, hk, x, hx⟩, rfl, rfl, -⟩ | ⟨_, _, _, e⟩
  case inr => cases e
  have hk' : 0 ≤ k ∧ k ≤ 4 := hk
  obtain ⟨k1, t, h1, h2, h3⟩ := ff_inv _ _ hx
  obtain ⟨a1, a2, a3, a4⟩ := take_fact g (k0 := k.toNat) h1 (by omega) h3
  refine ⟨x, bsz k, ⟨?_, rfl, hk, a1, a3, a2, ?_, a4, ho, g⟩⟩
  · show (((takeF ⟨16, c, 16, l⟩ k).getD 0 : Nat) : Int) = x
    rw [hx]; rfl
  · show BD.mk 16 (fillF c ((takeF ⟨16, c, 16, l⟩ k).getD 0) (bsz k) o) 16 l = _
    rw [hx]; rfl
theorem Took.rgood {c l : Nat → Int} {o k at_ : Int} {R : BD} {x S : Nat} (h : Took c l o k at_ R x S) : R.Good := by
  have hr := h.hR
  subst hr
  refine ⟨rfl, rfl, fun i hi => ?_⟩
  show pageOK (fillF c x S o i) (l i)
  unfold fillF
  by_cases e : x ≤ i ∧ i < x + S
  · rw [if_pos e]
    have := (h.free (i - x) (by omega)).2
    rw [show x + (i - x) = i by omega] at this
    rw [this]
    have ho := h.who
    unfold whoOK at ho
    exact ⟨by omega, by omega, fun hh => by omega⟩
  · rw [if_neg e]; exact h.good.ok i hi
theorem Took.back {c l : Nat → Int} {o k at_ : Int} {R F : BD} {x S : Nat} {one : Bool} (h : Took c l o k at_ R x S) (hf : resO (freeOK R o at_ k) (freed R at_ k) F one) : one = true ∧ F = ⟨16, c, 16, l⟩ := by
  have hg := h.rgood
  have hr := h.hR
  have ha := h.hat
  have hS := h.hS
  subst hr ha hS
  have hx := h.x16
  rcases hf with ⟨_, rfl, rfl⟩ | ⟨n, _⟩
  · refine ⟨rfl, ?_⟩
    show BD.mk 16 (fillF (fillF c x (bsz k) o) ((x : Int)).toNat (bsz k) 0) 16 l = _
    rw [Int.toNat_natCast, fill_fill (fun i hi => (h.free i hi).1)]
  · refine absurd ⟨hg, h.who, ⟨h.ord, ⟨by omega, by omega⟩, by rw [Int.toNat_natCast]; exact h.mod⟩, fun i hi => ?_⟩ n
    rw [Int.toNat_natCast]
    refine ⟨?_, (h.free i hi).2⟩
    show fillF c x (bsz k) o (x + i) = o
    unfold fillF
    rw [if_pos (by omega)]
theorem Took.inside {c l : Nat → Int} {o k at_ : Int} {R : BD} {x S j : Nat} (h : Took c l o k at_ R x S) (h1 : x ≤ j) (h2 : j < x + S) : c j = 0 ∧ R.c j = o := by
  have hr := h.hR
  subst hr
  have := (h.free (j - x) (by omega)).1
  rw [show x + (j - x) = j by omega] at this
  refine ⟨this, ?_⟩
  show fillF c x S o j = o
  unfold fillF
  rw [if_pos ⟨h1, h2⟩]
theorem Took.outside {c l : Nat → Int} {o k at_ : Int} {R : BD} {x S j : Nat} (h : Took c l o k at_ R x S) (h1 : ¬ (x ≤ j ∧ j < x + S)) : R.c j = c j := by
  have hr := h.hR
  subst hr
  show fillF c x S o j = c j
  unfold fillF
  rw [if_neg h1]
/-! ### Free blocks are all that is nobody's, once -/
def zeroP (c : Nat → Int) : Nat → Bool := fun i => decide (c i = 0)
noncomputable def sumB (c : Nat → Int) (p : Nat) : Nat := (pk (blkB c 0) p).length * 1 + (pk (blkB c 1) p).length * 2 + (pk (blkB c 2) p).length * 4 + (pk (blkB c 3) p).length * 8 + (pk (blkB c 4) p).length * 16
theorem pk_all {q : Nat → Bool} {p : Nat} : ∀ n, (∀ t, p ≤ t → t < p + n → q t = true) → (pk q (p + n)).length = (pk q p).length + n
  | 0, _ => rfl
  | n + 1, h => by
    rw [← Nat.add_assoc, pk_yes (h (p + n) (by omega) (by omega)), List.length_append, pk_all n (fun t h1 h2 => h t h1 (by omega))]
    simp; omega
theorem sum_step {c : Nat → Int} {p k : Nat} (hk : k ≤ 4) (h : grOK c p k) (hg : ∀ k', k < k' → k' ≤ 4 → ¬ grOK c p k') (hi : inv c p) : sumB c (p + 2 ^ k) = sumB c p + 2 ^ k := by
  have ht := congrArg List.length (blocks_this hk h hg hi)
  rw [List.length_append, List.length_singleton] at ht
  have ho : ∀ k', k' ≤ 4 → k' ≠ k → (pk (blkB c k') (p + 2 ^ k)).length = (pk (blkB c k') p).length := fun k' h1 h2 => congrArg List.length (blocks_other hk h hg h1 h2)
  unfold sumB
  rcases le4 hk with rfl | rfl | rfl | rfl | rfl
  · have o1 := ho 1 (by omega) (by omega); have o2 := ho 2 (by omega) (by omega); have o3 := ho 3 (by omega) (by omega); have o4 := ho 4 (by omega) (by omega)
    simp only [Nat.reducePow] at *; omega
  · have o1 := ho 0 (by omega) (by omega); have o2 := ho 2 (by omega) (by omega); have o3 := ho 3 (by omega) (by omega); have o4 := ho 4 (by omega) (by omega)
    simp only [Nat.reducePow] at *; omega
  · have o1 := ho 0 (by omega) (by omega); have o2 := ho 1 (by omega) (by omega); have o3 := ho 3 (by omega) (by omega); have o4 := ho 4 (by omega) (by omega)
    simp only [Nat.reducePow] at *; omega
  · have o1 := ho 0 (by omega) (by omega); have o2 := ho 1 (by omega) (by omega); have o3 := ho 2 (by omega) (by omega); have o4 := ho 4 (by omega) (by omega)
    simp only [Nat.reducePow] at *; omega
  · have o1 := ho 0 (by omega) (by omega); have o2 := ho 1 (by omega) (by omega); have o3 := ho 2 (by omega) (by omega); have o4 := ho 3 (by omega) (by omega)
    simp only [Nat.reducePow] at *; omega
theorem sum_none {c : Nat → Int} {p : Nat} (h : ∀ k', k' ≤ 4 → ¬ grOK c p k') (hi : inv c p) : sumB c (p + 1) = sumB c p := by
  have ho : ∀ k', k' ≤ 4 → (pk (blkB c k') (p + 1)).length = (pk (blkB c k') p).length := fun k' h1 => congrArg List.length (blocks_none h1 h hi)
  unfold sumB
  rw [ho 0 (by omega), ho 1 (by omega), ho 2 (by omega), ho 3 (by omega), ho 4 (by omega)]
theorem greatest_ex {c : Nat → Int} {p : Nat} (h : grOK c p 0) : ∃ k, k ≤ 4 ∧ grOK c p k ∧ ∀ k', k < k' → k' ≤ 4 → ¬ grOK c p k' := by
  by_cases h4 : grOK c p 4
  · exact ⟨4, by omega, h4, fun k' a b => by omega⟩
  by_cases h3 : grOK c p 3
  · exact ⟨3, by omega, h3, fun k' a b => by obtain rfl : k' = 4 := by omega
                                             exact h4⟩
  by_cases h2 : grOK c p 2
  · exact ⟨2, by omega, h2, fun k' a b => by rcases (by omega : k' = 3 ∨ k' = 4) with rfl | rfl <;> assumption⟩
  by_cases h1 : grOK c p 1
  · exact ⟨1, by omega, h1, fun k' a b => by rcases (by omega : k' = 2 ∨ k' = 3 ∨ k' = 4) with rfl | rfl | rfl <;> assumption⟩
  · exact ⟨0, by omega, h, fun k' a b => by rcases (by omega : k' = 1 ∨ k' = 2 ∨ k' = 3 ∨ k' = 4) with rfl | rfl | rfl | rfl <;> assumption⟩
theorem sum_all {c : Nat → Int} : ∀ (n p : Nat), p + n ≤ 16 → 16 ≤ p + n → inv c p → sumB c p = (pk (zeroP c) p).length → sumB c 16 = (pk (zeroP c) 16).length
  | 0, p, h1, h2, _, h4 => by
    obtain rfl : p = 16 := by omega
    exact h4
  | n + 1, p, h1, h2, hi, h4 => by
    have hp : p < 16 := by omega
    by_cases hz : c p = 0
    · have hg0 : grOK c p 0 := ⟨by simp [Nat.mod_one], fun i hi => by obtain rfl : i = 0 := by simpa using hi
                                                                      exact hz⟩
      obtain ⟨k, hk, hg, hn⟩ := greatest_ex hg0
      have hf := gr_fit hk hg hp
      have hpos := Nat.two_pow_pos k
      refine sum_all (16 - (p + 2 ^ k)) (p + 2 ^ k) (by omega) (by omega) (inv_next hk hg hn hi) ?_
      rw [sum_step hk hg hn hi, pk_all (q := zeroP c) (2 ^ k) (fun t a b => ?_), h4]
      have := hg.2 (t - p) (by omega)
      rw [show p + (t - p) = t by omega] at this
      simp [zeroP, this]
    · have hno : ∀ k', k' ≤ 4 → ¬ grOK c p k' := fun k' _ hg => hz (hg.2 0 (Nat.two_pow_pos k'))
      refine sum_all n (p + 1) (by omega) (by omega) (none_at hno hi).1 ?_
      rw [sum_none hno hi, pk_no (by simp [zeroP, hz]), h4]
  termination_by n => n
  decreasing_by all_goals (have := Nat.two_pow_pos 0; omega)
theorem sum_fact (c : Nat → Int) : sumB c 16 = (pk (zeroP c) 16).length := sum_all 16 0 (by omega) (by omega) (inv_zero c) rfl
end Go.Proofs.Ytfmmpddknanhbaa
