/- The steps of a deed one by one. -/
import Derived.Test.YtglllnklcnlcjaaDeed
import Derived.Test.YtglllnklcnlcjaaGoodP
namespace Go.Proofs.Ytglllnklcnlcjaa
open Go.RowKit
set_option linter.unusedSimpArgs false
set_option linter.unusedVariables false
/-- The places of pairs. -/
def pl (f : Nat → Int) : Nat → Nat := fun k => (f k).toNat
def vs (M : MD) (f : Nat → Int) : Nat → Int := fun k => (HS.of M).w (pl f k)
/-- What the memory holds behind i steps. -/
def DS (M : MD) (n : Nat) (f g : Nat → Int) (i : Nat) : HS := runs (deedSp n (pl f) g (vs M f)) (HS.of M) i
theorem pl_place {n : Nat} {f g : Nat → Int} (h : goodP n f g) {k : Nat} (hk : k < n) : (8 ≤ pl f k ∧ pl f k < 24) ∧ f k = (pl f k : Nat) := by
  have := (h.2 k hk).1
  unfold placeOK at this
  unfold pl
  omega
theorem goodP_up {n : Nat} {f g : Nat → Int} (h : goodP n f g) : ∀ i j, i < j → j < n → f i < f j := by
  intro i j hij hj
  induction j with
  | zero => omega
  | succ j ih =>
    have h1 := (h.2 (j + 1) hj).2.2 (by omega)
    simp only [Nat.add_sub_cancel] at h1
    by_cases e : i = j
    · subst e; exact h1
    · have := ih (by omega) (by omega); omega
theorem goodP_places {n : Nat} {f g : Nat → Int} (h : goodP n f g) : Places n (pl f) := by
  refine ⟨h.1.2, fun i hi => (pl_place h hi).1, fun i j hi hj hij => ?_⟩
  have a := (pl_place h hi).2
  have b := (pl_place h hj).2
  rcases Nat.lt_or_gt_of_ne hij with e | e
  · have := goodP_up h i j e hj; omega
  · have := goodP_up h j i e hi; omega
section
variable {M : MD} {n : Nat} {f g : Nat → Int}
theorem DS_zero : DS M n f g 0 = HS.of M := rfl
theorem DS_succ {i : Nat} {sp : Sp} (h : deedSp n (pl f) g (vs M f) i = sp) : DS M n f g (i + 1) = sp.run (DS M n f g i) := by subst h; rfl
theorem DS_a (hP : goodP n f g) {k : Nat} (hk : k < n) : ((DS M n f g (2 * k)).st (28 + 4 * k) (f k)).st (28 + 4 * k + 1) (((DS M n f g (2 * k)).st (28 + 4 * k) (f k)).w (pl f k)) = DS M n f g (2 * k + 1) := by
  have e : deedSp n (pl f) g (vs M f) (2 * k) = .st2 (28 + 4 * k) (pl f k) (vs M f k) := by
    have h1 : 2 * k % 2 = 0 := by omega
    have h2 : 2 * k / 2 = k := by omega
    unfold deedSp entrySp
    rw [if_pos (by omega), if_pos h1, h2]
  rw [DS_succ e]
  obtain ⟨h1, h2⟩ := pl_place hP hk
  have h3 : ((DS M n f g (2 * k)).st (28 + 4 * k) (f k)).w (pl f k) = vs M f k := by
    rw [w_st, if_neg (by omega)]
    exact (inv_early (n := n) (p := pl f) (x := g) (v := vs M f) (H := HS.of M) (q := pl f k) h1.2 (2 * k) (by omega)).1
  rw [h3]
  show ((DS M n f g (2 * k)).st (28 + 4 * k) (f k)).st (28 + 4 * k + 1) (vs M f k) = ((DS M n f g (2 * k)).st (28 + 4 * k) (pl f k)).st (28 + 4 * k + 1) (vs M f k)
  rw [← h2]
theorem DS_b {k : Nat} (hk : k < n) : (DS M n f g (2 * k + 1)).fl ((28 + 4 * k) / 4) = DS M n f g (2 * k + 1 + 1) := by
  have e : deedSp n (pl f) g (vs M f) (2 * k + 1) = .fl (28 + 4 * k) := by
    have h1 : ¬ (2 * k + 1) % 2 = 0 := by omega
    have h2 : (2 * k + 1) / 2 = k := by omega
    unfold deedSp entrySp
    rw [if_pos (by omega), if_neg h1, h2]
  rw [DS_succ e]; rfl
theorem DS_c : (DS M n f g (2 * n)).st 24 n = DS M n f g (2 * n + 1) := by
  have e : deedSp n (pl f) g (vs M f) (2 * n) = .st 24 n := by unfold deedSp; rw [if_neg (by omega), if_pos rfl]
  rw [DS_succ e]; rfl
theorem DS_d : (DS M n f g (2 * n + 1)).fl (24 / 4) = DS M n f g (2 * n + 1 + 1) := by
  have e : deedSp n (pl f) g (vs M f) (2 * n + 1) = .fl 24 := by unfold deedSp; rw [if_neg (by omega), if_neg (by omega), if_pos rfl]
  rw [DS_succ e]; rfl
theorem settle_of {j : Nat} : deedSp n (pl f) g (vs M f) (2 * n + 2 + j) = settle n (pl f) g j := by
  unfold deedSp
  rw [if_neg (by omega), if_neg (by omega), if_neg (by omega), show 2 * n + 2 + j - (2 * n + 2) = j by omega]
theorem DS_e {k : Nat} (hk : k < n) : (DS M n f g (2 * n + 2 + k)).st (pl f k) (g k) = DS M n f g (2 * n + 2 + k + 1) := by
  have e : deedSp n (pl f) g (vs M f) (2 * n + 2 + k) = .st (pl f k) (g k) := by rw [settle_of]; unfold settle; rw [if_pos hk]
  rw [DS_succ e]; rfl
theorem DS_f {k : Nat} (hk : k < n) : (DS M n f g (3 * n + 2 + k)).fl (pl f k / 4) = DS M n f g (3 * n + 2 + k + 1) := by
  have e : deedSp n (pl f) g (vs M f) (3 * n + 2 + k) = .fl (pl f k) := by
    rw [show 3 * n + 2 + k = 2 * n + 2 + (n + k) by omega, settle_of]; unfold settle; rw [if_neg (by omega), if_pos (by omega), show n + k - n = k by omega]
  rw [DS_succ e]; rfl
theorem DS_g : (DS M n f g (4 * n + 2)).st 24 0 = DS M n f g (4 * n + 2 + 1) := by
  have e : deedSp n (pl f) g (vs M f) (4 * n + 2) = .st 24 0 := by
    rw [show 4 * n + 2 = 2 * n + 2 + (2 * n) by omega, settle_of]; unfold settle; rw [if_neg (by omega), if_neg (by omega), if_pos rfl]
  rw [DS_succ e]; rfl
theorem DS_h : (DS M n f g (4 * n + 2 + 1)).fl (24 / 4) = DS M n f g (4 * n + 2 + 1 + 1) := by
  have e : deedSp n (pl f) g (vs M f) (4 * n + 2 + 1) = .fl 24 := by
    rw [show 4 * n + 2 + 1 = 2 * n + 2 + (2 * n + 1) by omega, settle_of]; unfold settle; rw [if_neg (by omega), if_neg (by omega), if_neg (by omega)]
  rw [DS_succ e]; rfl
theorem DS_good (gd : M.Good) (hP : goodP n f g) {i : Nat} (hi : i ≤ 4 * n + 4) : (DS M n f g i).md.Good :=
  good_runs (good_of gd) i (fun j hj => deed_ok hP.1.2 (fun k hk => (pl_place hP hk).1) (fun k hk => (hP.2 k hk).2.1) (fun k hk => word_ok (good_of gd) (by have := (pl_place hP hk).1; omega)) (by omega))
end
/-- A good memory, its contents written out. -/
theorem mem_full {Y : Nat → Prop} {w : World} {m : MV} {M : MD} (g : M.Good) (h : MemAt Y w m M) : MemAt Y w m (HS.of M).md := by
  obtain ⟨n1, n2, n3, l1, l2, v1, v2, d⟩ := M
  obtain ⟨e1, e2, e3, ok⟩ := g
  dsimp only at e1 e2 e3 ok
  subst e1 e2 e3
  exact ⟨h.s.congr (fun i hi => (ok i hi).a.1) (fun _ _ _ _ => rfl), h.c.congr (fun i hi => (ok i hi).b.1) (fun _ _ _ _ => rfl), h.d⟩
theorem val_full {m : MV} {M : MD} (g : M.Good) : m.val M = m.val (HS.of M).md := by
  obtain ⟨n1, n2, n3, l1, l2, v1, v2, d⟩ := M
  obtain ⟨e1, e2, e3, ok⟩ := g
  dsimp only at e1 e2 e3
  subst e1 e2 e3
  rfl
/-- What DeedSteps answers. -/
def dsOut (M : MD) (n : Nat) (f g : Nat → Int) (N : Nat) (R : Nat → MD) (b : Bool) : Prop :=
  ((M.Good ∧ (HS.of M).w 24 = 0 ∧ goodP n f g) ∧ N = 4 * n + 5 ∧ (∀ i, i < N → R i = (DS M n f g i).md) ∧ b = true) ∨ (¬ (M.Good ∧ (HS.of M).w 24 = 0 ∧ goodP n f g) ∧ N = 0 ∧ b = false)
theorem dsOut_same {M : MD} {n : Nat} {f g : Nat → Int} {N N' : Nat} {R R' : Nat → MD} {b c : Bool} (h : dsOut M n f g N R b) (k : dsOut M n f g N' R' c) : (N = N' ∧ ∀ i, i < N → R i = R' i) ∧ b = c := by
  rcases h with ⟨g, rfl, hf, rfl⟩ | ⟨g, rfl, rfl⟩
  · rcases k with ⟨_, rfl, hf', rfl⟩ | ⟨g', _, _⟩
    · exact ⟨⟨rfl, fun i hi => by rw [hf i hi, hf' i hi]⟩, rfl⟩
    · exact absurd g g'
  · rcases k with ⟨g', _⟩ | ⟨_, rfl, rfl⟩
    · exact absurd g' g
    · exact ⟨⟨rfl, fun i hi => absurd hi (Nat.not_lt_zero _)⟩, rfl⟩
/-- What DoDeed answers. -/
def ddOut (M : MD) (n : Nat) (f g : Nat → Int) (R : MD) (b : Bool) : Prop :=
  ((M.Good ∧ (HS.of M).w 24 = 0 ∧ goodP n f g) ∧ R = (DS M n f g (4 * n + 4)).md ∧ b = true) ∨ (¬ (M.Good ∧ (HS.of M).w 24 = 0 ∧ goodP n f g) ∧ R = MZ ∧ b = false)
theorem ddOut_same {M : MD} {n : Nat} {f g : Nat → Int} {R R' : MD} {b c : Bool} (h : ddOut M n f g R b) (k : ddOut M n f g R' c) : R = R' ∧ b = c := by
  rcases h with ⟨g, rfl, rfl⟩ | ⟨g, rfl, rfl⟩
  · rcases k with ⟨_, rfl, rfl⟩ | ⟨g', _, _⟩
    · exact ⟨rfl, rfl⟩
    · exact absurd g g'
  · rcases k with ⟨g', _⟩ | ⟨_, rfl, rfl⟩
    · exact absurd g' g
    · exact ⟨rfl, rfl⟩
/-- What RecoverDeed answers. -/
def rdOut (M : MD) (R : MD) (b : Bool) : Prop :=
  ((M.Good ∧ (HS.of M).log) ∧ R = (HS.of M).back.md ∧ b = true) ∨ (¬ (M.Good ∧ (HS.of M).log) ∧ R = MZ ∧ b = false)
theorem rdOut_same {M R R' : MD} {b c : Bool} (h : rdOut M R b) (k : rdOut M R' c) : R = R' ∧ b = c := by
  rcases h with ⟨g, rfl, rfl⟩ | ⟨g, rfl, rfl⟩
  · rcases k with ⟨_, rfl, rfl⟩ | ⟨g', _, _⟩
    · exact ⟨rfl, rfl⟩
    · exact absurd g g'
  · rcases k with ⟨g', _⟩ | ⟨_, rfl, rfl⟩
    · exact absurd g' g
    · exact ⟨rfl, rfl⟩
/-- The memory behind a failure at step i with lines kept, as FailPower leaves it. -/
noncomputable def fdM (M : MD) (n : Nat) (f g : Nat → Int) (i : Nat) (ns : Nat) (fs : Nat → Int) : MD :=
  MD.full (fpS (DS M n f g i).s (DS M n f g i).c (hasLine ns fs) 12) (fpC (DS M n f g i).s (DS M n f g i).c (hasLine ns fs) 12) (faD (DS M n f g i).d 12)
/-- What FailDeed answers. -/
def fdOut (M : MD) (n : Nat) (f g : Nat → Int) (k : Int) (ns : Nat) (fs : Nat → Int) (R : MD) (b : Bool) : Prop :=
  ((M.Good ∧ (HS.of M).w 24 = 0 ∧ goodP n f g) ∧ rising ns fs ∧ ∃ i : Nat, k = i ∧ i < 4 * n + 5 ∧ rdOut (fdM M n f g i ns fs) R b) ∨ (¬ ((M.Good ∧ (HS.of M).w 24 = 0 ∧ goodP n f g) ∧ rising ns fs ∧ 0 ≤ k ∧ k < 4 * n + 5) ∧ R = MZ ∧ b = false)
theorem fdOut_same {M : MD} {n : Nat} {f g : Nat → Int} {k : Int} {ns : Nat} {fs : Nat → Int} {R R' : MD} {b c : Bool} (h : fdOut M n f g k ns fs R b) (l : fdOut M n f g k ns fs R' c) : R = R' ∧ b = c := by
  rcases h with ⟨g1, g2, i, rfl, hi, h⟩ | ⟨g, rfl, rfl⟩
  · rcases l with ⟨_, _, j, ej, hj, h'⟩ | ⟨g', _, _⟩
    · obtain rfl : i = j := by omega
      exact rdOut_same h h'
    · exact absurd ⟨g1, g2, by omega, by omega⟩ g'
  · rcases l with ⟨g1, g2, i, rfl, hi, h⟩ | ⟨_, rfl, rfl⟩
    · exact absurd ⟨g1, g2, by omega, by omega⟩ g
    · exact ⟨rfl, rfl⟩
end Go.Proofs.Ytglllnklcnlcjaa
