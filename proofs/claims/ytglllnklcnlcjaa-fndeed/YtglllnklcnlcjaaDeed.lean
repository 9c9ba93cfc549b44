/- The steps of a deed, as changes of what a memory holds; what a failure and its undoing leave. -/
import Derived.Test.YtglllnklcnlcjaaFactM
namespace Go.Proofs.Ytglllnklcnlcjaa
open Go.RowKit
set_option linter.unusedSimpArgs false
set_option linter.unusedVariables false
/-- What a memory of twelve lines holds. -/
structure HS where
  s : Nat → Nat → Int
  c : Nat → Nat → Int
  d : Nat → Bool
abbrev HS.md (H : HS) : MD := MD.full H.s H.c H.d
def HS.of (M : MD) : HS := ⟨M.v1, M.v2, M.d⟩
def HS.w (H : HS) (q : Nat) : Int := H.c (q / 4) (q % 4)
def HS.u (H : HS) (q : Nat) : Int := H.s (q / 4) (q % 4)
def HS.st (H : HS) (n : Nat) (x : Int) : HS := ⟨H.s, stC H.c n x, stD H.d n⟩
def HS.fl (H : HS) (i : Nat) : HS := ⟨flS H.s H.c i, H.c, flD H.d i⟩
theorem w_st (H : HS) (n : Nat) (x : Int) (q : Nat) : (H.st n x).w q = if q = n then x else H.w q := by
  show stC H.c n x (q / 4) (q % 4) = _
  unfold stC
  by_cases e : q = n
  · subst e; simp
  · rw [if_neg (by omega), if_neg e]; rfl
theorem u_st (H : HS) (n : Nat) (x : Int) (q : Nat) : (H.st n x).u q = H.u q := rfl
theorem w_fl (H : HS) (i : Nat) (q : Nat) : (H.fl i).w q = H.w q := rfl
theorem u_fl (H : HS) (i : Nat) (q : Nat) : (H.fl i).u q = if q / 4 = i then H.w q else H.u q := rfl
/-- One step: a word, two words next to each other, or a line. -/
inductive Sp where
  | st (n : Nat) (x : Int)
  | st2 (n : Nat) (x y : Int)
  | fl (n : Nat)
def Sp.run : Sp → HS → HS
  | .st n x, H => H.st n x
  | .st2 n x y, H => (H.st n x).st (n + 1) y
  | .fl n, H => H.fl (n / 4)
/-- Steps that stay within a memory and its words. -/
def Sp.ok : Sp → Prop
  | .st n x => n < 48 ∧ 0 ≤ x ∧ x ≤ 65535
  | .st2 n x y => n + 1 < 48 ∧ (0 ≤ x ∧ x ≤ 65535) ∧ (0 ≤ y ∧ y ≤ 65535)
  | .fl n => n < 48
def runs (sp : Nat → Sp) (H : HS) : Nat → HS
  | 0 => H
  | k + 1 => (sp k).run (runs sp H k)
theorem runs_add (sp : Nat → Sp) (H : HS) (a : Nat) : ∀ b, runs sp H (a + b) = runs (fun i => sp (a + i)) (runs sp H a) b
  | 0 => rfl
  | b + 1 => by
    show (sp (a + b)).run (runs sp H (a + b)) = (sp (a + b)).run _
    rw [runs_add sp H a b]
theorem runs_congr {sp sp' : Nat → Sp} {H : HS} : ∀ k, (∀ i, i < k → sp i = sp' i) → runs sp H k = runs sp' H k
  | 0, _ => rfl
  | k + 1, h => by
    show (sp k).run _ = (sp' k).run _
    rw [h k (by omega), runs_congr k (fun i hi => h i (by omega))]
theorem good_fl {H : HS} {i : Nat} (g : H.md.Good) : (H.fl i).md.Good := by
  unfold HS.md at *
  rw [good_full] at g ⊢
  intro k hk
  obtain ⟨h1, h2, h3⟩ := g k hk
  refine ⟨fun j hj => ?_, h2, fun hd j hj => ?_⟩
  · show wordOK (flS H.s H.c i k j)
    unfold flS
    split
    · exact h2 j hj
    · exact h1 j hj
  · show flS H.s H.c i k j = H.c k j
    unfold flS
    split
    · rfl
    · rename_i e
      have hd' : flD H.d i k = false := hd
      unfold flD at hd'
      rw [if_neg e] at hd'
      exact h3 hd' j hj
theorem good_run {sp : Sp} {H : HS} (g : H.md.Good) (h : sp.ok) : (sp.run H).md.Good := by
  cases sp with
  | st n x => exact good_st g h.2
  | st2 n x y => exact good_st (good_st g h.2.1) h.2.2
  | fl n => exact good_fl g
theorem good_runs {sp : Nat → Sp} {H : HS} (g : H.md.Good) : ∀ k, (∀ i, i < k → (sp i).ok) → (runs sp H k).md.Good
  | 0, _ => g
  | k + 1, h => good_run (good_runs g k (fun i hi => h i (by omega))) (h k (by omega))
theorem good_of {M : MD} (g : M.Good) : (HS.of M).md.Good := good_same g
theorem word_ok {H : HS} (g : H.md.Good) {q : Nat} (hq : q < 48) : 0 ≤ H.w q ∧ H.w q ≤ 65535 := (good_full.1 g (q / 4) (by omega)).2.1 (q % 4) (by omega)
/-- The words of the pairs made sure ahead of an empty log. -/
def settle (n : Nat) (p : Nat → Nat) (x : Nat → Int) : Nat → Sp := fun j =>
  if j < n then .st (p j) (x j) else if j < 2 * n then .fl (p (j - n)) else if j = 2 * n then .st 24 0 else .fl 24
def entrySp (p : Nat → Nat) (v : Nat → Int) : Nat → Sp := fun i => if i % 2 = 0 then .st2 (28 + 4 * (i / 2)) (p (i / 2)) (v (i / 2)) else .fl (28 + 4 * (i / 2))
def deedSp (n : Nat) (p : Nat → Nat) (x v : Nat → Int) : Nat → Sp := fun i =>
  if i < 2 * n then entrySp p v i else if i = 2 * n then .st 24 n else if i = 2 * n + 1 then .fl 24 else settle n p x (i - (2 * n + 2))
theorem settle_cases {n : Nat} {p : Nat → Nat} {x : Nat → Int} {i : Nat} (hi : i < 2 * n + 2) :
    (∃ j, j < n ∧ i = j ∧ settle n p x i = .st (p j) (x j)) ∨ (∃ j, j < n ∧ i = n + j ∧ settle n p x i = .fl (p j)) ∨ (i = 2 * n ∧ settle n p x i = .st 24 0) ∨ (i = 2 * n + 1 ∧ settle n p x i = .fl 24) := by
  unfold settle
  by_cases h1 : i < n
  · exact Or.inl ⟨i, h1, rfl, by rw [if_pos h1]⟩
  · by_cases h2 : i < 2 * n
    · exact Or.inr (Or.inl ⟨i - n, by omega, by omega, by rw [if_neg h1, if_pos h2]⟩)
    · by_cases h3 : i = 2 * n
      · exact Or.inr (Or.inr (Or.inl ⟨h3, by rw [if_neg h1, if_neg h2, if_pos h3]⟩))
      · exact Or.inr (Or.inr (Or.inr ⟨by omega, by rw [if_neg h1, if_neg h2, if_neg h3]⟩))
theorem deed_cases {n : Nat} {p : Nat → Nat} {x v : Nat → Int} {i : Nat} (hi : i < 4 * n + 4) :
    (∃ k, k < n ∧ i = 2 * k ∧ deedSp n p x v i = .st2 (28 + 4 * k) (p k) (v k)) ∨ (∃ k, k < n ∧ i = 2 * k + 1 ∧ deedSp n p x v i = .fl (28 + 4 * k)) ∨ (i = 2 * n ∧ deedSp n p x v i = .st 24 n) ∨ (i = 2 * n + 1 ∧ deedSp n p x v i = .fl 24) ∨
    (∃ j, j < n ∧ i = 2 * n + 2 + j ∧ deedSp n p x v i = .st (p j) (x j)) ∨ (∃ j, j < n ∧ i = 3 * n + 2 + j ∧ deedSp n p x v i = .fl (p j)) ∨ (i = 4 * n + 2 ∧ deedSp n p x v i = .st 24 0) ∨ (i = 4 * n + 3 ∧ deedSp n p x v i = .fl 24) := by
  by_cases h1 : i < 2 * n
  · have e : deedSp n p x v i = entrySp p v i := by unfold deedSp; rw [if_pos h1]
    rw [e]
    unfold entrySp
    by_cases h2 : i % 2 = 0
    · exact Or.inl ⟨i / 2, by omega, by omega, by rw [if_pos h2]⟩
    · exact Or.inr (Or.inl ⟨i / 2, by omega, by omega, by rw [if_neg h2]⟩)
  · by_cases h2 : i = 2 * n
    · exact Or.inr (Or.inr (Or.inl ⟨h2, by unfold deedSp; rw [if_neg h1, if_pos h2]⟩))
    · by_cases h3 : i = 2 * n + 1
      · exact Or.inr (Or.inr (Or.inr (Or.inl ⟨h3, by unfold deedSp; rw [if_neg h1, if_neg h2, if_pos h3]⟩)))
      · have e : deedSp n p x v i = settle n p x (i - (2 * n + 2)) := by unfold deedSp; rw [if_neg h1, if_neg h2, if_neg h3]
        rw [e]
        rcases settle_cases (n := n) (p := p) (x := x) (i := i - (2 * n + 2)) (by omega) with ⟨j, hj, e1, e2⟩ | ⟨j, hj, e1, e2⟩ | ⟨e1, e2⟩ | ⟨e1, e2⟩
        · exact Or.inr (Or.inr (Or.inr (Or.inr (Or.inl ⟨j, hj, by omega, e2⟩))))
        · exact Or.inr (Or.inr (Or.inr (Or.inr (Or.inr (Or.inl ⟨j, hj, by omega, e2⟩)))))
        · exact Or.inr (Or.inr (Or.inr (Or.inr (Or.inr (Or.inr (Or.inl ⟨by omega, e2⟩))))))
        · exact Or.inr (Or.inr (Or.inr (Or.inr (Or.inr (Or.inr (Or.inr ⟨by omega, e2⟩))))))
/-- Places of data, at most three, rising. -/
structure Places (n : Nat) (p : Nat → Nat) : Prop where
  n3 : n ≤ 3
  r : ∀ i, i < n → 8 ≤ p i ∧ p i < 24
  d : ∀ i j, i < n → j < n → i ≠ j → p i ≠ p j
theorem deed_ok {n : Nat} {p : Nat → Nat} {x v : Nat → Int} (h3 : n ≤ 3) (hp : ∀ i, i < n → 8 ≤ p i ∧ p i < 24) (hx : ∀ i, i < n → 0 ≤ x i ∧ x i ≤ 65535) (hv : ∀ i, i < n → 0 ≤ v i ∧ v i ≤ 65535) {i : Nat} (hi : i < 4 * n + 4) : (deedSp n p x v i).ok := by
  rcases deed_cases (n := n) (p := p) (x := x) (v := v) hi with ⟨k, hk, -, e⟩ | ⟨k, hk, -, e⟩ | ⟨-, e⟩ | ⟨-, e⟩ | ⟨j, hj, -, e⟩ | ⟨j, hj, -, e⟩ | ⟨-, e⟩ | ⟨-, e⟩ <;> rw [e]
  · have := hp k hk; exact ⟨by omega, ⟨by omega, by omega⟩, hv k hk⟩
  · show _ < _; omega
  · exact ⟨by omega, by omega, by omega⟩
  · show _ < _; omega
  · have := hp j hj; exact ⟨by omega, hx j hj⟩
  · have := hp j hj; show _ < _; omega
  · exact ⟨by omega, by omega, by omega⟩
  · show _ < _; omega
theorem settle_ok {n : Nat} {p : Nat → Nat} {x : Nat → Int} (hp : ∀ i, i < n → 8 ≤ p i ∧ p i < 24) (hx : ∀ i, i < n → 0 ≤ x i ∧ x i ≤ 65535) {i : Nat} (hi : i < 2 * n + 2) : (settle n p x i).ok := by
  rcases settle_cases (n := n) (p := p) (x := x) hi with ⟨j, hj, -, e⟩ | ⟨j, hj, -, e⟩ | ⟨-, e⟩ | ⟨-, e⟩ <;> rw [e]
  · have := hp j hj; exact ⟨by omega, hx j hj⟩
  · have := hp j hj; show _ < _; omega
  · exact ⟨by omega, by omega, by omega⟩
  · show _ < _; omega
/-! What the steps leave. -/
section
variable {n : Nat} {p : Nat → Nat} {x v : Nat → Int} {H : HS}
theorem step_st {m : Nat} {y : Int} {i q : Nat} {sp : Nat → Sp} (e : sp i = .st m y) : (runs sp H (i + 1)).w q = (if q = m then y else (runs sp H i).w q) ∧ (runs sp H (i + 1)).u q = (runs sp H i).u q := by
  show ((sp i).run _).w q = _ ∧ ((sp i).run _).u q = _
  rw [e]
  exact ⟨w_st _ _ _ _, rfl⟩
theorem step_st2 {m : Nat} {y z : Int} {i q : Nat} {sp : Nat → Sp} (e : sp i = .st2 m y z) : (runs sp H (i + 1)).w q = (if q = m + 1 then z else if q = m then y else (runs sp H i).w q) ∧ (runs sp H (i + 1)).u q = (runs sp H i).u q := by
  show ((sp i).run _).w q = _ ∧ ((sp i).run _).u q = _
  rw [e]
  refine ⟨?_, rfl⟩
  show ((HS.st _ _ _).st _ _).w q = _
  rw [w_st, w_st]
theorem step_fl {m : Nat} {i q : Nat} {sp : Nat → Sp} (e : sp i = .fl m) : (runs sp H (i + 1)).w q = (runs sp H i).w q ∧ (runs sp H (i + 1)).u q = (if q / 4 = m / 4 then (runs sp H i).w q else (runs sp H i).u q) := by
  show ((sp i).run _).w q = _ ∧ ((sp i).run _).u q = _
  rw [e]
  exact ⟨rfl, rfl⟩
/-- Data that no pair names stay. -/
theorem inv_other (P : Places n p) {q : Nat} (hq : 8 ≤ q ∧ q < 24) (hn : ∀ k, k < n → q ≠ p k) (hu : H.u q = H.w q) : ∀ i, i ≤ 4 * n + 4 → (runs (deedSp n p x v) H i).w q = H.w q ∧ (runs (deedSp n p x v) H i).u q = H.w q := by
  intro i
  induction i with
  | zero => intro _; exact ⟨rfl, hu⟩
  | succ i ih =>
    intro hi
    obtain ⟨a, b⟩ := ih (by omega)
    rcases deed_cases (n := n) (p := p) (x := x) (v := v) (i := i) (by omega) with ⟨k, hk, -, e⟩ | ⟨k, hk, -, e⟩ | ⟨-, e⟩ | ⟨-, e⟩ | ⟨j, hj, -, e⟩ | ⟨j, hj, -, e⟩ | ⟨-, e⟩ | ⟨-, e⟩
    · obtain ⟨e1, e2⟩ := step_st2 (H := H) (q := q) e
      rw [e1, e2, if_neg (by omega), if_neg (by omega)]; exact ⟨a, b⟩
    · obtain ⟨e1, e2⟩ := step_fl (H := H) (q := q) e
      rw [e1, e2]; exact ⟨a, by split <;> assumption⟩
    · obtain ⟨e1, e2⟩ := step_st (H := H) (q := q) e
      rw [e1, e2, if_neg (by omega)]; exact ⟨a, b⟩
    · obtain ⟨e1, e2⟩ := step_fl (H := H) (q := q) e
      rw [e1, e2]; exact ⟨a, by split <;> assumption⟩
    · obtain ⟨e1, e2⟩ := step_st (H := H) (q := q) e
      rw [e1, e2, if_neg (hn j hj)]; exact ⟨a, b⟩
    · obtain ⟨e1, e2⟩ := step_fl (H := H) (q := q) e
      rw [e1, e2]; exact ⟨a, by split <;> assumption⟩
    · obtain ⟨e1, e2⟩ := step_st (H := H) (q := q) e
      rw [e1, e2, if_neg (by omega)]; exact ⟨a, b⟩
    · obtain ⟨e1, e2⟩ := step_fl (H := H) (q := q) e
      rw [e1, e2]; exact ⟨a, by split <;> assumption⟩
/-- Ahead of the first store of data all data stand. -/
theorem inv_early {q : Nat} (hq : q < 24) : ∀ i, i ≤ 2 * n + 2 → (runs (deedSp n p x v) H i).w q = H.w q ∧ (runs (deedSp n p x v) H i).u q = H.u q := by
  intro i
  induction i with
  | zero => intro _; exact ⟨rfl, rfl⟩
  | succ i ih =>
    intro hi
    obtain ⟨a, b⟩ := ih (by omega)
    rcases deed_cases (n := n) (p := p) (x := x) (v := v) (i := i) (by omega) with ⟨k, hk, -, e⟩ | ⟨k, hk, -, e⟩ | ⟨-, e⟩ | ⟨-, e⟩ | ⟨j, hj, h, e⟩ | ⟨j, hj, h, e⟩ | ⟨h, e⟩ | ⟨h, e⟩
    · obtain ⟨e1, e2⟩ := step_st2 (H := H) (q := q) e
      rw [e1, e2, if_neg (by omega), if_neg (by omega)]; exact ⟨a, b⟩
    · obtain ⟨e1, e2⟩ := step_fl (H := H) (q := q) e
      rw [e1, e2, if_neg (by omega)]; exact ⟨a, b⟩
    · obtain ⟨e1, e2⟩ := step_st (H := H) (q := q) e
      rw [e1, e2, if_neg (by omega)]; exact ⟨a, b⟩
    · obtain ⟨e1, e2⟩ := step_fl (H := H) (q := q) e
      rw [e1, e2, if_neg (by omega)]; exact ⟨a, b⟩
    all_goals omega
/-- The count. -/
theorem inv_count (P : Places n p) (h0 : H.w 24 = 0) (hu : H.u 24 = 0) : ∀ i, i ≤ 4 * n + 4 → (runs (deedSp n p x v) H i).w 24 = (if i ≤ 2 * n then 0 else if i ≤ 4 * n + 2 then (n : Int) else 0) ∧ (runs (deedSp n p x v) H i).u 24 = (if i ≤ 2 * n + 1 then 0 else if i ≤ 4 * n + 3 then (n : Int) else 0) := by
  intro i
  induction i with
  | zero => intro _; exact ⟨by rw [if_pos (by omega)]; exact h0, by rw [if_pos (by omega)]; exact hu⟩
  | succ i ih =>
    intro hi
    obtain ⟨a, b⟩ := ih (by omega)
    rcases deed_cases (n := n) (p := p) (x := x) (v := v) (i := i) (by omega) with ⟨k, hk, h, e⟩ | ⟨k, hk, h, e⟩ | ⟨h, e⟩ | ⟨h, e⟩ | ⟨j, hj, h, e⟩ | ⟨j, hj, h, e⟩ | ⟨h, e⟩ | ⟨h, e⟩
    · obtain ⟨e1, e2⟩ := step_st2 (H := H) (q := 24) e
      rw [if_neg (by omega), if_neg (by omega)] at e1
      rw [e1, e2, a, b]
      constructor <;> (repeat' split) <;> first | rfl | omega
    · obtain ⟨e1, e2⟩ := step_fl (H := H) (q := 24) e
      rw [if_neg (by omega)] at e2
      rw [e1, e2, a, b]
      constructor <;> (repeat' split) <;> first | rfl | omega
    · obtain ⟨e1, e2⟩ := step_st (H := H) (q := 24) e
      rw [if_pos rfl] at e1
      rw [e1, e2, b]
      constructor <;> (repeat' split) <;> first | rfl | omega
    · obtain ⟨e1, e2⟩ := step_fl (H := H) (q := 24) e
      rw [if_pos rfl] at e2
      rw [e1, e2, a]
      constructor <;> (repeat' split) <;> first | rfl | omega
    · have := P.r j hj
      obtain ⟨e1, e2⟩ := step_st (H := H) (q := 24) e
      rw [if_neg (by omega)] at e1
      rw [e1, e2, a, b]
      constructor <;> (repeat' split) <;> first | rfl | omega
    · have := P.r j hj
      obtain ⟨e1, e2⟩ := step_fl (H := H) (q := 24) e
      rw [if_neg (by omega)] at e2
      rw [e1, e2, a, b]
      constructor <;> (repeat' split) <;> first | rfl | omega
    · obtain ⟨e1, e2⟩ := step_st (H := H) (q := 24) e
      rw [if_pos rfl] at e1
      rw [e1, e2, b]
      constructor <;> (repeat' split) <;> first | rfl | omega
    · obtain ⟨e1, e2⟩ := step_fl (H := H) (q := 24) e
      rw [if_pos rfl] at e2
      rw [e1, e2, a]
      constructor <;> (repeat' split) <;> first | rfl | omega
/-- The entries. -/
theorem inv_entry (P : Places n p) {k : Nat} (hk : k < n) : ∀ i, i ≤ 4 * n + 4 → (2 * k + 1 ≤ i → (runs (deedSp n p x v) H i).w (28 + 4 * k) = p k ∧ (runs (deedSp n p x v) H i).w (29 + 4 * k) = v k) ∧ (2 * k + 2 ≤ i → (runs (deedSp n p x v) H i).u (28 + 4 * k) = p k ∧ (runs (deedSp n p x v) H i).u (29 + 4 * k) = v k) := by
  intro i
  induction i with
  | zero => intro _; exact ⟨fun h => by omega, fun h => by omega⟩
  | succ i ih =>
    intro hi
    obtain ⟨a, b⟩ := ih (by omega)
    have n3 := P.n3
    rcases deed_cases (n := n) (p := p) (x := x) (v := v) (i := i) (by omega) with ⟨k', hk', h, e⟩ | ⟨k', hk', h, e⟩ | ⟨h, e⟩ | ⟨h, e⟩ | ⟨j, hj, h, e⟩ | ⟨j, hj, h, e⟩ | ⟨h, e⟩ | ⟨h, e⟩
    · obtain ⟨e1, e2⟩ := step_st2 (H := H) (q := 28 + 4 * k) e
      obtain ⟨e3, e4⟩ := step_st2 (H := H) (q := 29 + 4 * k) e
      rw [e1, e2, e3, e4]
      by_cases ek : k' = k
      · subst ek
        rw [if_neg (by omega), if_pos (by omega), if_pos (by omega)]
        exact ⟨fun _ => ⟨rfl, rfl⟩, fun h => by omega⟩
      · rw [if_neg (by omega), if_neg (by omega), if_neg (by omega), if_neg (by omega)]
        exact ⟨fun h => a (by omega), fun h => b (by omega)⟩
    · obtain ⟨e1, e2⟩ := step_fl (H := H) (q := 28 + 4 * k) e
      obtain ⟨e3, e4⟩ := step_fl (H := H) (q := 29 + 4 * k) e
      rw [e1, e2, e3, e4]
      by_cases ek : k' = k
      · subst ek
        rw [if_pos (by omega), if_pos (by omega)]
        exact ⟨fun _ => a (by omega), fun h => a (by omega)⟩
      · rw [if_neg (by omega), if_neg (by omega)]
        exact ⟨fun h => a (by omega), fun h => b (by omega)⟩
    · obtain ⟨e1, e2⟩ := step_st (H := H) (q := 28 + 4 * k) e
      obtain ⟨e3, e4⟩ := step_st (H := H) (q := 29 + 4 * k) e
      rw [e1, e2, e3, e4, if_neg (by omega), if_neg (by omega)]
      exact ⟨fun h => a (by omega), fun h => b (by omega)⟩
    · obtain ⟨e1, e2⟩ := step_fl (H := H) (q := 28 + 4 * k) e
      obtain ⟨e3, e4⟩ := step_fl (H := H) (q := 29 + 4 * k) e
      rw [e1, e2, e3, e4, if_neg (by omega), if_neg (by omega)]
      exact ⟨fun h => a (by omega), fun h => b (by omega)⟩
    · have := P.r j hj
      obtain ⟨e1, e2⟩ := step_st (H := H) (q := 28 + 4 * k) e
      obtain ⟨e3, e4⟩ := step_st (H := H) (q := 29 + 4 * k) e
      rw [e1, e2, e3, e4, if_neg (by omega), if_neg (by omega)]
      exact ⟨fun h => a (by omega), fun h => b (by omega)⟩
    · have := P.r j hj
      obtain ⟨e1, e2⟩ := step_fl (H := H) (q := 28 + 4 * k) e
      obtain ⟨e3, e4⟩ := step_fl (H := H) (q := 29 + 4 * k) e
      rw [e1, e2, e3, e4, if_neg (by omega), if_neg (by omega)]
      exact ⟨fun h => a (by omega), fun h => b (by omega)⟩
    · obtain ⟨e1, e2⟩ := step_st (H := H) (q := 28 + 4 * k) e
      obtain ⟨e3, e4⟩ := step_st (H := H) (q := 29 + 4 * k) e
      rw [e1, e2, e3, e4, if_neg (by omega), if_neg (by omega)]
      exact ⟨fun h => a (by omega), fun h => b (by omega)⟩
    · obtain ⟨e1, e2⟩ := step_fl (H := H) (q := 28 + 4 * k) e
      obtain ⟨e3, e4⟩ := step_fl (H := H) (q := 29 + 4 * k) e
      rw [e1, e2, e3, e4, if_neg (by omega), if_neg (by omega)]
      exact ⟨fun h => a (by omega), fun h => b (by omega)⟩
/-- The data of the pairs. -/
theorem inv_data (P : Places n p) {k : Nat} (hk : k < n) : ∀ i, i ≤ 4 * n + 4 → (2 * n + 3 + k ≤ i → (runs (deedSp n p x v) H i).w (p k) = x k) ∧ (3 * n + 3 + k ≤ i → (runs (deedSp n p x v) H i).u (p k) = x k) := by
  intro i
  induction i with
  | zero => intro _; exact ⟨fun h => by omega, fun h => by omega⟩
  | succ i ih =>
    intro hi
    obtain ⟨a, b⟩ := ih (by omega)
    have n3 := P.n3
    have pk := P.r k hk
    rcases deed_cases (n := n) (p := p) (x := x) (v := v) (i := i) (by omega) with ⟨k', hk', h, e⟩ | ⟨k', hk', h, e⟩ | ⟨h, e⟩ | ⟨h, e⟩ | ⟨j, hj, h, e⟩ | ⟨j, hj, h, e⟩ | ⟨h, e⟩ | ⟨h, e⟩
    · exact ⟨fun h => by omega, fun h => by omega⟩
    · exact ⟨fun h => by omega, fun h => by omega⟩
    · exact ⟨fun h => by omega, fun h => by omega⟩
    · exact ⟨fun h => by omega, fun h => by omega⟩
    · obtain ⟨e1, e2⟩ := step_st (H := H) (q := p k) e
      rw [e1, e2]
      refine ⟨fun h => ?_, fun h => by omega⟩
      by_cases ek : j = k
      · subst ek; rw [if_pos rfl]
      · rw [if_neg (P.d k j hk hj (fun e => ek e.symm))]; exact a (by omega)
    · obtain ⟨e1, e2⟩ := step_fl (H := H) (q := p k) e
      rw [e1, e2]
      refine ⟨fun h => a (by omega), fun h => ?_⟩
      by_cases ek : j = k
      · subst ek; rw [if_pos rfl]; exact a (by omega)
      · split
        · exact a (by omega)
        · exact b (by omega)
    · obtain ⟨e1, e2⟩ := step_st (H := H) (q := p k) e
      rw [e1, e2, if_neg (by omega)]
      exact ⟨fun h => a (by omega), fun h => b (by omega)⟩
    · obtain ⟨e1, e2⟩ := step_fl (H := H) (q := p k) e
      rw [e1, e2, if_neg (by omega)]
      exact ⟨fun h => a (by omega), fun h => b (by omega)⟩
end
/-! The undoing. -/
/-- How many entries count, as a number. -/
def HS.many (H : HS) : Nat := (H.w 24).toNat
def HS.ep (H : HS) : Nat → Nat := fun k => (H.w (28 + 4 * k)).toNat
def HS.ex (H : HS) : Nat → Int := fun k => H.w (29 + 4 * k)
/-- All that was written is back. -/
def HS.back (H : HS) : HS := runs (settle H.many H.ep H.ex) H (2 * H.many + 2)
/-- The log is one. -/
def HS.log (H : HS) : Prop := H.w 24 ≤ 3 ∧ ∀ k : Nat, (k : Int) < H.w 24 → 8 ≤ H.w (28 + 4 * k) ∧ H.w (28 + 4 * k) ≤ 23
section
variable {n : Nat} {p : Nat → Nat} {x : Nat → Int} {H : HS}
theorem settle_w {q : Nat} (hq : 8 ≤ q ∧ q < 24) : ∀ i, i ≤ 2 * n + 2 → ((∀ k, k < n → k < i → q ≠ p k) → (runs (settle n p x) H i).w q = H.w q) ∧ ∀ y, (∀ k, k < n → q = p k → x k = y) → (∃ k, k < n ∧ k < i ∧ q = p k) → (runs (settle n p x) H i).w q = y := by
  intro i
  induction i with
  | zero => intro _; exact ⟨fun _ => rfl, fun y _ ⟨k, _, h, _⟩ => by omega⟩
  | succ i ih =>
    intro hi
    obtain ⟨a, b⟩ := ih (by omega)
    rcases settle_cases (n := n) (p := p) (x := x) (i := i) (by omega) with ⟨j, hj, h, e⟩ | ⟨j, hj, h, e⟩ | ⟨h, e⟩ | ⟨h, e⟩
    · obtain ⟨e1, -⟩ := step_st (H := H) (q := q) e
      rw [e1]
      by_cases eq : q = p j
      · rw [if_pos eq]
        exact ⟨fun hh => absurd eq (hh j hj (by omega)), fun y hy _ => hy j hj eq⟩
      · rw [if_neg eq]
        refine ⟨fun hh => a (fun k hk hki => hh k hk (by omega)), fun y hy ⟨k, hk, hki, ek⟩ => b y hy ⟨k, hk, ?_, ek⟩⟩
        rcases Nat.lt_or_ge k i with h1 | h1
        · exact h1
        · obtain rfl : k = j := by omega
          exact absurd ek eq
    · obtain ⟨e1, -⟩ := step_fl (H := H) (q := q) e
      rw [e1]
      exact ⟨fun hh => a (fun k hk hki => hh k hk (by omega)), fun y hy ⟨k, hk, hki, ek⟩ => b y hy ⟨k, hk, by omega, ek⟩⟩
    · obtain ⟨e1, -⟩ := step_st (H := H) (q := q) e
      rw [e1, if_neg (by omega)]
      exact ⟨fun hh => a (fun k hk hki => hh k hk (by omega)), fun y hy ⟨k, hk, hki, ek⟩ => b y hy ⟨k, hk, by omega, ek⟩⟩
    · obtain ⟨e1, -⟩ := step_fl (H := H) (q := q) e
      rw [e1]
      exact ⟨fun hh => a (fun k hk hki => hh k hk (by omega)), fun y hy ⟨k, hk, hki, ek⟩ => b y hy ⟨k, hk, by omega, ek⟩⟩
theorem settle_count : (runs (settle n p x) H (2 * n + 2)).w 24 = 0 ∧ (runs (settle n p x) H (2 * n + 2)).u 24 = 0 := by
  have e1 : settle n p x (2 * n) = .st 24 0 := by unfold settle; rw [if_neg (by omega), if_neg (by omega), if_pos rfl]
  have e2 : settle n p x (2 * n + 1) = .fl 24 := by unfold settle; rw [if_neg (by omega), if_neg (by omega), if_neg (by omega)]
  obtain ⟨a, -⟩ := step_st (H := H) (q := 24) e1
  obtain ⟨b, c⟩ := step_fl (H := H) (q := 24) e2
  rw [b, c, if_pos rfl, a, if_pos rfl]
  exact ⟨rfl, rfl⟩
end
theorem back_count (H : HS) : H.back.w 24 = 0 ∧ H.back.u 24 = 0 := settle_count
theorem log_places {H : HS} (h : H.log) : ∀ i, i < H.many → 8 ≤ H.ep i ∧ H.ep i < 24 := fun i hi => by
  have := h.2 i (by unfold HS.many at hi; omega)
  unfold HS.ep
  omega
theorem back_good {H : HS} (g : H.md.Good) (h : H.log) : H.back.md.Good := by
  have h3 : H.many ≤ 3 := by have := h.1; unfold HS.many; omega
  exact good_runs g _ (fun i hi => settle_ok (log_places h) (fun k hk => word_ok g (by omega)) hi)
/-- With an empty log nothing of the data is turned. -/
theorem back_none {H : HS} (h : H.w 24 = 0) {q : Nat} (hq : 8 ≤ q ∧ q < 24) : H.back.w q = H.w q := by
  have e : H.many = 0 := by unfold HS.many; rw [h]; rfl
  exact (settle_w (n := H.many) (p := H.ep) (x := H.ex) (H := H) hq _ (Nat.le_refl _)).1 (fun k hk => by omega)
/-- What a failure leaves: each line is the cache's or the sure one. -/
structure Failed (R F : HS) : Prop where
  l : ∀ k, k < 12 → (∀ j, j < 4 → F.c k j = R.c k j) ∨ (∀ j, j < 4 → F.c k j = R.s k j)
theorem Failed.w {R F : HS} (h : Failed R F) {q : Nat} (hq : q < 48) : F.w q = R.w q ∨ F.w q = R.u q :=
  (h.l (q / 4) (by omega)).elim (fun hh => Or.inl (hh _ (by omega))) (fun hh => Or.inr (hh _ (by omega)))
theorem Failed.two {R F : HS} (h : Failed R F) {q : Nat} (hq : q < 48) {y : Int} (h1 : R.w q = y) (h2 : R.u q = y) : F.w q = y := by
  rcases h.w hq with e | e
  · rw [e, h1]
  · rw [e, h2]
/-- THE DEED: wherever it fails, whatever is kept, it is done as a whole or not at all. -/
theorem deed_whole {n : Nat} {p : Nat → Nat} {x : Nat → Int} {H F : HS} (P : Places n p) (hn : 0 < n) (h0 : H.w 24 = 0) (hu : ∀ q, q < 48 → H.u q = H.w q) {i : Nat} (hi : i ≤ 4 * n + 4)
    (hF : Failed (runs (deedSp n p x (fun k => H.w (p k))) H i) F) :
    (∀ q, 8 ≤ q ∧ q < 24 → F.back.w q = H.w q) ∨ (∀ q, 8 ≤ q ∧ q < 24 → F.back.w q = (runs (deedSp n p x (fun k => H.w (p k))) H (4 * n + 4)).w q) := by
  have n3 := P.n3
  obtain ⟨c1, c2⟩ := inv_count (x := x) (v := fun k => H.w (p k)) (H := H) P h0 (by rw [hu 24 (by omega), h0]) i hi
  by_cases early : i ≤ 2 * n + 1
  · -- no data are turned yet; the count is 0 or all
    left
    intro q hq
    have hd : ∀ q, 8 ≤ q ∧ q < 24 → F.w q = H.w q := fun q hq => by
      obtain ⟨a, b⟩ := inv_early (n := n) (p := p) (x := x) (v := fun k => H.w (p k)) (H := H) (q := q) hq.2 i (by omega)
      exact hF.two (by omega) a (b.trans (hu q (by omega)))
    have hc : F.w 24 = 0 ∨ (i = 2 * n + 1 ∧ F.w 24 = n) := by
      rcases hF.w (q := 24) (by omega) with e | e
      · rw [e, c1]
        by_cases h2 : i ≤ 2 * n
        · rw [if_pos h2]; exact Or.inl rfl
        · rw [if_neg h2, if_pos (by omega)]; exact Or.inr ⟨by omega, rfl⟩
      · rw [e, c2, if_pos early]; exact Or.inl rfl
    rcases hc with hc | ⟨ei, hc⟩
    · rw [back_none hc hq, hd q hq]
    · have em : F.many = n := by unfold HS.many; rw [hc]; rfl
      have he : ∀ k, k < n → F.ep k = p k ∧ F.ex k = H.w (p k) := fun k hk => by
        obtain ⟨a, b⟩ := inv_entry (x := x) (v := fun k => H.w (p k)) (H := H) P hk i hi
        obtain ⟨a1, a2⟩ := a (by omega)
        obtain ⟨b1, b2⟩ := b (by omega)
        have f1 := hF.two (q := 28 + 4 * k) (by omega) a1 b1
        have f2 := hF.two (q := 29 + 4 * k) (by omega) a2 b2
        exact ⟨by unfold HS.ep; rw [f1]; rfl, f2⟩
      obtain ⟨s1, s2⟩ := settle_w (n := F.many) (p := F.ep) (x := F.ex) (H := F) hq _ (Nat.le_refl _)
      by_cases hin : ∃ k, k < n ∧ q = p k
      · obtain ⟨k, hk, e⟩ := hin
        exact s2 (H.w q) (fun k' hk' e' => by rw [(he k' (by omega)).2, e', (he k' (by omega)).1]) ⟨k, by omega, by omega, by rw [(he k hk).1]; exact e⟩
      · have := s1 (fun k hk _ e => hin ⟨k, by omega, by rw [← (he k (by omega)).1]; exact e⟩)
        exact this.trans (hd q hq)
  · have hc : F.w 24 = n ∨ (4 * n + 3 ≤ i ∧ F.w 24 = 0) := by
      rcases hF.w (q := 24) (by omega) with e | e
      · rw [e, c1, if_neg (by omega)]
        by_cases h2 : i ≤ 4 * n + 2
        · rw [if_pos h2]; exact Or.inl rfl
        · rw [if_neg h2]; exact Or.inr ⟨by omega, rfl⟩
      · rw [e, c2, if_neg early]
        by_cases h2 : i ≤ 4 * n + 3
        · rw [if_pos h2]; exact Or.inl rfl
        · rw [if_neg h2]; exact Or.inr ⟨by omega, rfl⟩
    rcases hc with hc | ⟨hi2, hc⟩
    · left
      intro q hq
      have em : F.many = n := by unfold HS.many; rw [hc]; rfl
      have he : ∀ k, k < n → F.ep k = p k ∧ F.ex k = H.w (p k) := fun k hk => by
        obtain ⟨a, b⟩ := inv_entry (x := x) (v := fun k => H.w (p k)) (H := H) P hk i hi
        obtain ⟨a1, a2⟩ := a (by omega)
        obtain ⟨b1, b2⟩ := b (by omega)
        have f1 := hF.two (q := 28 + 4 * k) (by omega) a1 b1
        have f2 := hF.two (q := 29 + 4 * k) (by omega) a2 b2
        exact ⟨by unfold HS.ep; rw [f1]; rfl, f2⟩
      obtain ⟨s1, s2⟩ := settle_w (n := F.many) (p := F.ep) (x := F.ex) (H := F) hq _ (Nat.le_refl _)
      by_cases hin : ∃ k, k < n ∧ q = p k
      · obtain ⟨k, hk, e⟩ := hin
        exact s2 (H.w q) (fun k' hk' e' => by rw [(he k' (by omega)).2, e', (he k' (by omega)).1]) ⟨k, by omega, by omega, by rw [(he k hk).1]; exact e⟩
      · have h1 := s1 (fun k hk _ e => hin ⟨k, by omega, by rw [← (he k (by omega)).1]; exact e⟩)
        obtain ⟨a, b⟩ := inv_other (x := x) (v := fun k => H.w (p k)) (H := H) P hq (fun k hk e => hin ⟨k, hk, e⟩) (hu q (by omega)) i hi
        exact h1.trans (hF.two (by omega) a b)
    · right
      intro q hq
      rw [back_none hc hq]
      by_cases hin : ∃ k, k < n ∧ q = p k
      · obtain ⟨k, hk, rfl⟩ := hin
        obtain ⟨a, b⟩ := inv_data (x := x) (v := fun k => H.w (p k)) (H := H) P hk i hi
        rw [hF.two (by omega) (a (by omega)) (b (by omega)), (inv_data (x := x) (v := fun k => H.w (p k)) (H := H) P hk (4 * n + 4) (Nat.le_refl _)).1 (by omega)]
      · obtain ⟨a, b⟩ := inv_other (x := x) (v := fun k => H.w (p k)) (H := H) P hq (fun k hk e => hin ⟨k, hk, e⟩) (hu q (by omega)) i hi
        rw [hF.two (by omega) a b, (inv_other (x := x) (v := fun k => H.w (p k)) (H := H) P hq (fun k hk e => hin ⟨k, hk, e⟩) (hu q (by omega)) _ (Nat.le_refl _)).1]
end Go.Proofs.Ytglllnklcnlcjaa
