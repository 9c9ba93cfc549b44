/- Flat tables of two: what stands at each place, without any walk. -/
import Derived.Test.YtjplodenflkghaaFactL
namespace Go.Proofs.Ytjplodenflkghaa
open Go.RowKit
set_option linter.unusedSimpArgs false
set_option linter.unusedVariables false

/-- With four lists there is always one to come into. -/
theorem goes4 {c : Nat → Int} {t : Nat} (ht : t < 4) (hr : -1 ≤ c t ∧ c t ≤ 3) : ∃ q, goes c 4 t q := by
  by_cases h0 : 0 ≤ c t
  · exact ⟨(c t).toNat, Or.inl (by omega)⟩
  have hc : c t = -1 := by omega
  have fin : ∃ q, isIdle c 4 q := by
    by_cases a0 : hasLine 4 c (0 : Int)
    case neg => exact ⟨0, by omega, a0, fun k hk => absurd hk (Nat.not_lt_zero _)⟩
    by_cases a1 : hasLine 4 c (1 : Int)
    case neg => exact ⟨1, by omega, a1, fun k hk => by
      have e : k = 0 := by omega
      subst e
      exact a0⟩
    by_cases a2 : hasLine 4 c (2 : Int)
    case neg => exact ⟨2, by omega, a2, fun k hk => by
      rcases (show k = 0 ∨ k = 1 by omega) with rfl | rfl
      · exact a0
      · exact a1⟩
    by_cases a3 : hasLine 4 c (3 : Int)
    case neg => exact ⟨3, by omega, a3, fun k hk => by
      rcases (show k = 0 ∨ k = 1 ∨ k = 2 by omega) with rfl | rfl | rfl
      · exact a0
      · exact a1
      · exact a2⟩
    exfalso
    obtain ⟨i0, l0, e0⟩ := a0
    obtain ⟨i1, l1, e1⟩ := a1
    obtain ⟨i2, l2, e2⟩ := a2
    obtain ⟨i3, l3, e3⟩ := a3
    have n01 : i0 ≠ i1 := fun e => by rw [e, e1] at e0; omega
    have n02 : i0 ≠ i2 := fun e => by rw [e, e2] at e0; omega
    have n03 : i0 ≠ i3 := fun e => by rw [e, e3] at e0; omega
    have n12 : i1 ≠ i2 := fun e => by rw [e, e2] at e1; omega
    have n13 : i1 ≠ i3 := fun e => by rw [e, e3] at e1; omega
    have n23 : i2 ≠ i3 := fun e => by rw [e, e3] at e2; omega
    have m0 : i0 ≠ t := fun e => by rw [e, hc] at e0; omega
    have m1 : i1 ≠ t := fun e => by rw [e, hc] at e1; omega
    have m2 : i2 ≠ t := fun e => by rw [e, hc] at e2; omega
    have m3 : i3 ≠ t := fun e => by rw [e, hc] at e3; omega
    omega
  obtain ⟨q, hq⟩ := fin
  exact ⟨q, Or.inr ⟨hc, hq⟩⟩
/-- What both may, bit by bit. -/
theorem and_ok {x y : Int} (hx : 0 ≤ x ∧ x ≤ 3) (hy : 0 ≤ y ∧ y ≤ 3) : bits .and .i64 x y = bits .and .i64 y x ∧ (0 ≤ bits .and .i64 x y ∧ bits .and .i64 x y ≤ 3) := by
  rcases (show x = 0 ∨ x = 1 ∨ x = 2 ∨ x = 3 by omega) with rfl | rfl | rfl | rfl <;> rcases (show y = 0 ∨ y = 1 ∨ y = 2 ∨ y = 3 by omega) with rfl | rfl | rfl | rfl <;> decide
theorem and_has {x y k : Int} (hx : 0 ≤ x ∧ x ≤ 3) (hy : 0 ≤ y ∧ y ≤ 3) (hk : 1 ≤ k ∧ k ≤ 3) : hasMay (bits .and .i64 x y) k ↔ hasMay x k ∧ hasMay y k := by
  unfold hasMay
  rcases (show x = 0 ∨ x = 1 ∨ x = 2 ∨ x = 3 by omega) with rfl | rfl | rfl | rfl <;> rcases (show y = 0 ∨ y = 1 ∨ y = 2 ∨ y = 3 by omega) with rfl | rfl | rfl | rfl <;> rcases (show k = 1 ∨ k = 2 ∨ k = 3 by omega) with rfl | rfl | rfl <;> decide
theorem and_some {x y : Int} (hx : 0 ≤ x ∧ x ≤ 3) (hy : 0 ≤ y ∧ y ≤ 3) : ¬ bits .and .i64 x y = 0 ↔ (hasMay x 1 ∧ hasMay y 1) ∨ (hasMay x 2 ∧ hasMay y 2) := by
  unfold hasMay
  rcases (show x = 0 ∨ x = 1 ∨ x = 2 ∨ x = 3 by omega) with rfl | rfl | rfl | rfl <;> rcases (show y = 0 ∨ y = 1 ∨ y = 2 ∨ y = 3 by omega) with rfl | rfl | rfl | rfl <;> decide
theorem has_zero {k : Int} (hk : 1 ≤ k ∧ k ≤ 3) : ¬ hasMay 0 k := by
  unfold hasMay
  rcases (show k = 1 ∨ k = 2 ∨ k = 3 by omega) with rfl | rfl | rfl <;> decide
/-- A nest: a table of the guest and one of the host, each with four lists. -/
structure NGood (G H : BD) : Prop where
  g : G.Good
  h : H.Good
  ng : G.D.n = 4
  nh : H.D.n = 4
abbrev gP (G : BD) (a : Nat) : Int := lfP G.c G.D.p a
abbrev gM (G : BD) (a : Nat) : Int := lfP G.c G.D.m a
def fX (G H : BD) (a : Nat) : Int := gP H (gP G a).toNat
def fY (G H : BD) (a : Nat) : Int := bits .and .i64 (gM H (gP G a).toNat) (gM G a)
theorem leafs {B : BD} (g : B.Good) {a : Nat} (ha : a < 16) : (0 ≤ gP B a ∧ gP B a ≤ 15) ∧ (0 ≤ gM B a ∧ gM B a ≤ 3) ∧ (0 < gM B a ∨ gP B a = 0) := lf_ok g ha
theorem fY_ok {G H : BD} (h : NGood G H) {a : Nat} (ha : a < 16) : 0 ≤ fY G H a ∧ fY G H a ≤ 3 := by
  have h1 := leafs h.g ha
  have h2 := leafs h.h (a := (gP G a).toNat) (by omega)
  exact (and_ok h2.2.1 h1.2.1).2
theorem fX_ok {G H : BD} (h : NGood G H) {a : Nat} (ha : a < 16) : 0 ≤ fX G H a ∧ fX G H a ≤ 15 := by
  have h1 := leafs h.g ha
  exact (leafs h.h (a := (gP G a).toNat) (by omega)).1
/-- The flat table behind the first j places. -/
inductive Fl (G H : BD) : Nat → BD → Prop
  | zero : Fl G H 0 (newB 4)
  | skip {j : Nat} {B : BD} : Fl G H j B → fY G H j = 0 → Fl G H (j + 1) B
  | put {j : Nat} {B : BD} {q : Nat} : Fl G H j B → ¬ fY G H j = 0 → goes B.c B.D.n (j / 4) q → Fl G H (j + 1) (chB B j q (fX G H j) (fY G H j))
theorem Fl.same {G H : BD} : ∀ {j : Nat} {B B' : BD}, Fl G H j B → Fl G H j B' → B = B'
  | 0, _, _, .zero, .zero => rfl
  | j + 1, _, _, .skip h _, .skip h' _ => Fl.same h h'
  | j + 1, _, _, .skip _ e, .put _ n _ => absurd e n
  | j + 1, _, _, .put _ n _, .skip _ e => absurd e n
  | j + 1, _, _, .put h _ g, .put h' _ g' => by
    have e := Fl.same h h'
    subst e
    rw [goes_uniq g g']
theorem newB_good : (newB 4).Good := by
  refine ⟨rfl, by decide, fun i hi => ⟨rfl, fun j hj => by show leafOK 0 0; unfold leafOK; omega⟩, fun i hi => by show (-1 : Int) ≤ -1 ∧ (-1 : Int) ≤ ((4 : Nat) : Int) - 1; omega, fun i j hi hj h0 => by replace h0 : (0 : Int) ≤ -1 := h0; omega, fun k hk _ j hj => by show ¬ (0 : Int) < 0; omega⟩
theorem newB_leaf (a : Nat) : gP (newB 4) a = 0 ∧ gM (newB 4) a = 0 := ⟨lfP_no (by show ¬ (0 : Int) ≤ -1; omega), lfP_no (by show ¬ (0 : Int) ≤ -1; omega)⟩
/-- What stands in a flat table. -/
structure FlOK (G H : BD) (j : Nat) (B : BD) : Prop where
  good : B.Good
  n : B.D.n = 4
  leaf : ∀ a, a < 16 → gM B a = (if a < j then fY G H a else 0) ∧ gP B a = (if a < j then (if fY G H a = 0 then 0 else fX G H a) else 0)
theorem Fl.ok {G H : BD} (N : NGood G H) : ∀ {j : Nat} {B : BD}, Fl G H j B → j ≤ 16 → FlOK G H j B
  | 0, _, .zero, _ => ⟨newB_good, rfl, fun a ha => by rw [if_neg (Nat.not_lt_zero _), if_neg (Nat.not_lt_zero _)]; exact ⟨(newB_leaf a).2, (newB_leaf a).1⟩⟩
  | j + 1, B, .skip h e, hj => by
    have o := Fl.ok N h (by omega)
    refine ⟨o.good, o.n, fun a ha => ?_⟩
    obtain ⟨h1, h2⟩ := o.leaf a ha
    rw [h1, h2]
    by_cases ea : a = j
    · subst ea
      rw [if_neg (Nat.lt_irrefl _), if_pos (Nat.lt_succ_self _), if_neg (Nat.lt_irrefl _), if_pos (Nat.lt_succ_self _), if_pos e]
      exact ⟨e.symm, rfl⟩
    · have e2 : (a < j + 1) = (a < j) := by simp; omega
      simp only [e2]
      exact ⟨trivial, trivial⟩
  | j + 1, _, .put (B := B) (q := q) h e hq, hj => by
    have o := Fl.ok N h (by omega)
    have hy := fY_ok N (a := j) (by omega)
    have hx := fX_ok N (a := j) (by omega)
    have lo : leafOK (fX G H j) (fY G H j) := ⟨hx, hy, Or.inl (by omega)⟩
    refine ⟨ch_good o.good (by omega) hq lo, o.n, fun a ha => ?_⟩
    obtain ⟨c1, c2⟩ := ch_leaf (gp := fX G H j) (y := fY G H j) o.good (x := j) (q := q) (a := a) (by omega) ha hq
    obtain ⟨h1, h2⟩ := o.leaf a ha
    show lfP _ _ a = _ ∧ lfP _ _ a = _
    rw [c1, c2]
    by_cases ea : a = j
    · subst ea
      simp only [if_true, Nat.lt_succ_self, if_neg e]
      exact ⟨trivial, trivial⟩
    · have e2 : (a < j + 1) = (a < j) := by simp; omega
      simp only [if_neg ea, e2]
      exact ⟨h1, h2⟩
theorem Fl.can {G H : BD} (N : NGood G H) {j : Nat} {B : BD} (h : Fl G H j B) (hj : j < 16) : ∃ q, goes B.c B.D.n (j / 4) q := by
  have o := h.ok N (by omega)
  have ht := o.good.top (j / 4) (by rw [o.good.n]; omega)
  rw [o.n] at ht ⊢
  exact goes4 (by omega) (by omega)
theorem Fl.free {G H : BD} (N : NGood G H) {j : Nat} {B : BD} (h : Fl G H j B) (hj : j < 16) : gM B j = 0 ∧ gP B j = 0 := by
  have o := (h.ok N (by omega)).leaf j hj
  rw [if_neg (Nat.lt_irrefl _), if_neg (Nat.lt_irrefl _)] at o
  exact o
theorem Fl.ex {G H : BD} (N : NGood G H) : ∀ j, j ≤ 16 → ∃ B, Fl G H j B
  | 0, _ => ⟨_, .zero⟩
  | j + 1, hj => by
    obtain ⟨B, h⟩ := Fl.ex N j (by omega)
    by_cases e : fY G H j = 0
    · exact ⟨B, .skip h e⟩
    · obtain ⟨q, hq⟩ := h.can N (by omega)
      exact ⟨_, .put h e hq⟩
/-- A walk through both: the page and the code. -/
def nwOut (G H : BD) (a : Nat) (k x c : Int) : Prop :=
  (¬ hasMay (gM G a) k ∧ x = 0 ∧ c = 1) ∨ (hasMay (gM G a) k ∧ ¬ hasMay (gM H (gP G a).toNat) k ∧ x = 0 ∧ c = 2) ∨ (hasMay (gM G a) k ∧ hasMay (gM H (gP G a).toNat) k ∧ x = fX G H a ∧ c = 0)
theorem nwOut_same {G H : BD} {a : Nat} {k x c x' c' : Int} (h : nwOut G H a k x c) (h' : nwOut G H a k x' c') : x = x' ∧ c = c' := by
  rcases h with ⟨p, rfl, rfl⟩ | ⟨p, q, rfl, rfl⟩ | ⟨p, q, rfl, rfl⟩ <;> rcases h' with ⟨p', rfl, rfl⟩ | ⟨p', q', rfl, rfl⟩ | ⟨p', q', rfl, rfl⟩ <;> first | exact ⟨rfl, rfl⟩ | exact absurd p' p | exact absurd p p' | exact absurd q' q | exact absurd q q'
open Classical in
noncomputable def rdP (G H : BD) : Nat → Bool := fun x => decide (∃ a, a < 16 ∧ ¬ fY G H a = 0 ∧ fX G H a = (x : Int))
theorem reach_iff {G H : BD} (N : NGood G H) {a : Nat} (ha : a < 16) : ¬ fY G H a = 0 ↔ (hasMay (gM G a) 1 ∧ hasMay (gM H (gP G a).toNat) 1) ∨ (hasMay (gM G a) 2 ∧ hasMay (gM H (gP G a).toNat) 2) := by
  have h1 := leafs N.g ha
  have h2 := leafs N.h (a := (gP G a).toNat) (by omega)
  have := and_some h2.2.1 h1.2.1
  unfold fY
  rw [this]
  constructor
  · rintro (⟨p, q⟩ | ⟨p, q⟩)
    · exact Or.inl ⟨q, p⟩
    · exact Or.inr ⟨q, p⟩
  · rintro (⟨p, q⟩ | ⟨p, q⟩)
    · exact Or.inl ⟨q, p⟩
    · exact Or.inr ⟨q, p⟩
end Go.Proofs.Ytjplodenflkghaa
