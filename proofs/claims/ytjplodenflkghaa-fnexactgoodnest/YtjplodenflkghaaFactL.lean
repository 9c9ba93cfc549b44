/- Tables that are changed: what stands at each place. -/
import Derived.Test.YtjplodenflkghaaChgU
import Derived.Test.YtjplodenflkghaaSpecUn
import Derived.Test.YtjplodenflkghaaMapped
import Derived.Test.YtjplodenflkghaaMappedJ
namespace Go.Proofs.Ytjplodenflkghaa
open Go.RowKit
set_option linter.unusedSimpArgs false
set_option linter.unusedVariables false
theorem div_mod_ne {a x : Nat} (h : a ≠ x) (e : a / 4 = x / 4) : a % 4 ≠ x % 4 := by omega
theorem lt_q {B : BD} (g : B.Good) {t q : Nat} (ht : t < 4) (h : goes B.c B.D.n t q) : q < B.D.n := by
  rcases h with h | ⟨_, h⟩
  · have := g.top t (by rw [g.n]; exact ht); rw [h] at this; omega
  · exact h.1
/-- No other top has the list that a leaf comes into. -/
theorem other_top {B : BD} (g : B.Good) {t q i : Nat} (ht : t < 4) (hi : i < 4) (hne : i ≠ t) (h : goes B.c B.D.n t q) : ¬ B.c i = (q : Int) := by
  intro e
  rcases h with h | ⟨_, h⟩
  · rcases Nat.lt_or_gt_of_ne hne with h1 | h1
    · exact g.dis t i (by rw [g.n]; exact ht) h1 (by omega) (by rw [e, h])
    · exact g.dis i t (by rw [g.n]; exact hi) h1 (by omega) (by rw [e, h])
  · exact h.2.1 ⟨i, hi, e⟩
theorem idle_zero {B : BD} (g : B.Good) {t q j : Nat} (hj : j < 4) (hc : B.c t = -1) (h : isIdle B.c B.D.n q) : B.D.p q j = 0 ∧ B.D.m q j = 0 := by
  have h1 := g.idle q h.1 (fun i hi e => h.2.1 ⟨i, by rw [g.n] at hi; exact hi, e⟩) j hj
  have h2 := (g.leaf q h.1).2 j hj
  unfold leafOK at h2
  omega
theorem ch_good {B : BD} (g : B.Good) {x q : Nat} {gp y : Int} (hx : x < 16) (h : goes B.c B.D.n (x / 4) q) (hl : leafOK gp y) : (chB B x q gp y).Good := by
  have hq := lt_q g (by omega) h
  have hn := g.n
  have hgn : ∀ i, i < 4 → i < B.n := fun i hi => by rw [hn]; exact hi
  refine ⟨rfl, g.k, fun i hi => ⟨rfl, fun j hj => ?_⟩, fun i hi => ?_, fun i j hi hj h0 e => ?_, fun k hk hno j hj => ?_⟩
  · show leafOK (upd2 B.D.p q (x % 4) gp i j) (upd2 B.D.m q (x % 4) y i j)
    unfold upd2
    by_cases e : i = q ∧ j = x % 4
    · rw [if_pos e, if_pos e]; exact hl
    · rw [if_neg e, if_neg e]; exact (g.leaf i hi).2 j hj
  · show -1 ≤ topsOf B.c (x / 4) q _ _ i ∧ topsOf B.c (x / 4) q _ _ i ≤ (B.D.n : Int) - 1
    have hi4 : i < 4 := hi
    have ht := g.top i (hgn i hi4)
    by_cases hz : isZero8 (upd2 B.D.p q (x % 4) gp q) (upd2 B.D.m q (x % 4) y q)
    · rw [topsOf_yes hz]; unfold upd; split
      · have := g.k; omega
      · exact ht
    · rw [topsOf_no hz]; unfold upd; split
      · omega
      · exact ht
  · have hi4 : i < 4 := hi
    replace h0 : 0 ≤ topsOf B.c (x / 4) q (upd2 B.D.p q (x % 4) gp q) (upd2 B.D.m q (x % 4) y q) i := h0
    replace e : topsOf B.c (x / 4) q (upd2 B.D.p q (x % 4) gp q) (upd2 B.D.m q (x % 4) y q) j = topsOf B.c (x / 4) q (upd2 B.D.p q (x % 4) gp q) (upd2 B.D.m q (x % 4) y q) i := e
    by_cases hz : isZero8 (upd2 B.D.p q (x % 4) gp q) (upd2 B.D.m q (x % 4) y q)
    · rw [topsOf_yes hz] at h0 e
      unfold upd at h0 e
      by_cases e1 : i = x / 4
      · rw [if_pos e1] at h0; omega
      · rw [if_neg e1] at h0 e
        by_cases e2 : j = x / 4
        · rw [if_pos e2] at e; omega
        · rw [if_neg e2] at e; exact g.dis i j (hgn i hi4) hj h0 e
    · rw [topsOf_no hz] at h0 e
      unfold upd at h0 e
      by_cases e1 : i = x / 4
      · have e2 : ¬ j = x / 4 := by omega
        rw [if_pos e1, if_neg e2] at e
        exact other_top g (by omega) (by omega) e2 h e
      · rw [if_neg e1] at h0 e
        by_cases e2 : j = x / 4
        · rw [if_pos e2] at e; exact other_top g (by omega) hi4 e1 h e.symm
        · rw [if_neg e2] at e; exact g.dis i j (hgn i hi4) hj h0 e
  · have hno2 : ∀ i, i < 4 → ¬ topsOf B.c (x / 4) q (upd2 B.D.p q (x % 4) gp q) (upd2 B.D.m q (x % 4) y q) i = (k : Int) := fun i hi => hno i hi
    show ¬ 0 < upd2 B.D.m q (x % 4) y k j
    have hx4 : x / 4 < 4 := by omega
    by_cases hz : isZero8 (upd2 B.D.p q (x % 4) gp q) (upd2 B.D.m q (x % 4) y q)
    · by_cases e : k = q
      · subst e; rw [(hz j hj).2]; omega
      · have h1 : ¬ (k = q ∧ j = x % 4) := fun h => e h.1
        unfold upd2
        rw [if_neg h1]
        refine g.idle k hk (fun i hi ei => ?_) j hj
        have hi4 : i < 4 := by rw [hn] at hi; exact hi
        by_cases e1 : i = x / 4
        · subst e1
          rcases h with h | ⟨h, _⟩
          · omega
          · omega
        · have := hno2 i hi4
          rw [topsOf_yes hz] at this
          unfold upd at this
          rw [if_neg e1] at this
          exact this ei
    · by_cases e : k = q
      · subst e
        have := hno2 (x / 4) hx4
        rw [topsOf_no hz, upd_at] at this
        exact absurd rfl this
      · have h1 : ¬ (k = q ∧ j = x % 4) := fun h => e h.1
        unfold upd2
        rw [if_neg h1]
        refine g.idle k hk (fun i hi ei => ?_) j hj
        have hi4 : i < 4 := by rw [hn] at hi; exact hi
        by_cases e1 : i = x / 4
        · subst e1
          rcases h with h | ⟨h, _⟩
          · omega
          · omega
        · have := hno2 i hi4
          rw [topsOf_no hz] at this
          unfold upd at this
          rw [if_neg e1] at this
          exact this ei
/-- The leaf at each place behind a change. -/
theorem ch_leaf {B : BD} (g : B.Good) {x q a : Nat} {gp y : Int} (hx : x < 16) (ha : a < 16) (h : goes B.c B.D.n (x / 4) q) :
    lfP (chB B x q gp y).c (chB B x q gp y).D.p a = (if a = x then gp else lfP B.c B.D.p a) ∧ lfP (chB B x q gp y).c (chB B x q gp y).D.m a = (if a = x then y else lfP B.c B.D.m a) := by
  show lfP (topsOf B.c (x / 4) q (upd2 B.D.p q (x % 4) gp q) (upd2 B.D.m q (x % 4) y q)) (upd2 B.D.p q (x % 4) gp) a = _ ∧ lfP (topsOf B.c (x / 4) q (upd2 B.D.p q (x % 4) gp q) (upd2 B.D.m q (x % 4) y q)) (upd2 B.D.m q (x % 4) y) a = _
  by_cases et : a / 4 = x / 4
  · by_cases hz : isZero8 (upd2 B.D.p q (x % 4) gp q) (upd2 B.D.m q (x % 4) y q)
    · rw [topsOf_yes hz]
      have hc : ¬ 0 ≤ upd B.c (x / 4) (-1) (a / 4) := by rw [et, upd_at]; omega
      rw [lfP_no hc, lfP_no hc]
      by_cases ea : a = x
      · subst ea
        rw [if_pos rfl, if_pos rfl]
        have := hz (a % 4) (by omega)
        rw [upd2_at, upd2_at] at this
        exact ⟨this.1.symm, this.2.symm⟩
      · rw [if_neg ea, if_neg ea]
        have hm := div_mod_ne ea et
        have hz' := hz (a % 4) (by omega)
        have hu : ∀ (f : Nat → Nat → Int) (v : Int), upd2 f q (x % 4) v q (a % 4) = f q (a % 4) := fun f v => by unfold upd2; rw [if_neg (fun h => hm h.2)]
        rw [hu, hu] at hz'
        rcases h with h | ⟨h, _⟩
        · have h' : B.c (a / 4) = (q : Int) := by rw [et]; exact h
          rw [lfP_yes h', lfP_yes h', hz'.1, hz'.2]
          exact ⟨rfl, rfl⟩
        · have h' : ¬ 0 ≤ B.c (a / 4) := by rw [et, h]; omega
          rw [lfP_no h', lfP_no h']
          exact ⟨rfl, rfl⟩
    · rw [topsOf_no hz]
      have hc : upd B.c (x / 4) q (a / 4) = (q : Int) := by rw [et, upd_at]
      rw [lfP_yes hc, lfP_yes hc]
      by_cases ea : a = x
      · subst ea
        rw [if_pos rfl, if_pos rfl, upd2_at, upd2_at]
        exact ⟨rfl, rfl⟩
      · rw [if_neg ea, if_neg ea]
        have hm := div_mod_ne ea et
        have hu : ∀ (f : Nat → Nat → Int) (v : Int), upd2 f q (x % 4) v q (a % 4) = f q (a % 4) := fun f v => by unfold upd2; rw [if_neg (fun h => hm h.2)]
        rw [hu, hu]
        rcases h with h | ⟨h, hid⟩
        · have h' : B.c (a / 4) = (q : Int) := by rw [et]; exact h
          rw [lfP_yes h', lfP_yes h']
          exact ⟨rfl, rfl⟩
        · have h' : ¬ 0 ≤ B.c (a / 4) := by rw [et, h]; omega
          rw [lfP_no h', lfP_no h']
          have := idle_zero g (j := a % 4) (by omega) h hid
          exact this
  · have ea : ¬ a = x := fun e => et (by rw [e])
    rw [if_neg ea, if_neg ea]
    have hc : topsOf B.c (x / 4) q (upd2 B.D.p q (x % 4) gp q) (upd2 B.D.m q (x % 4) y q) (a / 4) = B.c (a / 4) := by
      by_cases hz : isZero8 (upd2 B.D.p q (x % 4) gp q) (upd2 B.D.m q (x % 4) y q)
      · rw [topsOf_yes hz]; unfold upd; rw [if_neg et]
      · rw [topsOf_no hz]; unfold upd; rw [if_neg et]
    by_cases h0 : 0 ≤ B.c (a / 4)
    · obtain ⟨s, hs⟩ : ∃ s : Nat, B.c (a / 4) = s := ⟨(B.c (a / 4)).toNat, by omega⟩
      have hne : ¬ s = q := fun e => other_top g (by omega) (by omega) et h (by rw [hs, e])
      rw [lfP_yes (hc.trans hs), lfP_yes (hc.trans hs), lfP_yes hs, lfP_yes hs]
      unfold upd2
      rw [if_neg (fun h => hne h.1), if_neg (fun h => hne h.1)]
      exact ⟨rfl, rfl⟩
    · have h1 : ¬ 0 ≤ topsOf B.c (x / 4) q (upd2 B.D.p q (x % 4) gp q) (upd2 B.D.m q (x % 4) y q) (a / 4) := by rw [hc]; exact h0
      rw [lfP_no h1, lfP_no h1, lfP_no h0, lfP_no h0]
      exact ⟨rfl, rfl⟩
theorem lf_ok {B : BD} (g : B.Good) {a : Nat} (ha : a < 16) : leafOK (lfP B.c B.D.p a) (lfP B.c B.D.m a) := by
  have ht := g.top (a / 4) (by rw [g.n]; omega)
  by_cases h0 : 0 ≤ B.c (a / 4)
  · obtain ⟨s, hs⟩ : ∃ s : Nat, B.c (a / 4) = s := ⟨(B.c (a / 4)).toNat, by omega⟩
    rw [lfP_yes hs, lfP_yes hs]
    exact (g.leaf s (by omega)).2 (a % 4) (by omega)
  · rw [lfP_no h0, lfP_no h0]; unfold leafOK; omega
/-- Two good tables that have the same at a place tell the same there. -/
theorem wt_eq {B B' : BD} (g : B.Good) (g' : B'.Good) {a k x y x' y' : Int} {r r' : Bool} (hp : lfP B.c B.D.p a.toNat = lfP B'.c B'.D.p a.toNat) (hm : lfP B.c B.D.m a.toNat = lfP B'.c B'.D.m a.toNat) (h : wtOut B a k x y r) (h' : wtOut B' a k x' y' r') : x = x' ∧ y = y' ∧ r = r' := by
  have e : wtOut B a k x' y' r' := by
    rcases h' with ⟨n, h1, h2, h3⟩ | ⟨n, h1, h2⟩
    · exact Or.inl ⟨fun q => n ⟨g', q.2⟩, h1, h2, h3⟩
    · rw [← hp, ← hm] at h2; rw [← hm] at h1
      exact Or.inr ⟨⟨g, n.2⟩, h1, h2⟩
  exact wtOut_same h e
/-- What a walk of two tables tells alike. -/
def Like (B B' : BD) (nt : Int) : Prop := B.Good ∧ B'.Good ∧ ∀ a : Nat, a < 16 → ¬ (a : Int) = nt → lfP B.c B.D.p a = lfP B'.c B'.D.p a ∧ lfP B.c B.D.m a = lfP B'.c B'.D.m a
theorem Like.walk {B B' : BD} {nt : Int} (h : Like B B' nt) {a : Nat} (ha : a < 16) (hn : ¬ (a : Int) = nt) {k x y x' y' : Int} {r r' : Bool} (h1 : wtOut B a k x y r) (h2 : wtOut B' a k x' y' r') : x = x' ∧ y = y' ∧ r = r' := by
  have := h.2.2 a ha hn
  exact wt_eq h.1 h.2.1 (by rw [Int.toNat_natCast]; exact this.1) (by rw [Int.toNat_natCast]; exact this.2) h1 h2
theorem like_ch {B : BD} (g : B.Good) {x q : Nat} {gp y : Int} (hx : x < 16) (h : goes B.c B.D.n (x / 4) q) (hl : leafOK gp y) : Like B (chB B x q gp y) (x : Int) := by
  refine ⟨g, ch_good g hx h hl, fun a ha hn => ?_⟩
  obtain ⟨h1, h2⟩ := ch_leaf (gp := gp) (y := y) g hx ha h
  have : ¬ a = x := fun e => hn (by rw [e])
  rw [if_neg this] at h1 h2
  exact ⟨h1.symm, h2.symm⟩
/-! ### The lists of places -/
theorem pk_one {P P' : Nat → Bool} {x : Nat} (hP : P x = true) (hP' : P' x = false) (he : ∀ a, a ≠ x → P a = P' a) : ∀ n, (x < n → (pk P n).length = (pk P' n).length + 1) ∧ (n ≤ x → pk P n = pk P' n)
  | 0 => ⟨fun h => absurd h (Nat.not_lt_zero _), fun _ => rfl⟩
  | n + 1 => by
    obtain ⟨h1, h2⟩ := pk_one hP hP' he n
    by_cases e : n = x
    · subst e
      refine ⟨fun _ => ?_, fun h => absurd h (by omega)⟩
      rw [pk_yes hP, pk_no hP', h2 (Nat.le_refl _)]
      simp
    · have hs := he n e
      refine ⟨fun h => ?_, fun h => ?_⟩
      · have h3 := h1 (by omega)
        cases hb : P n
        · rw [pk_no hb, pk_no (hs ▸ hb)]; exact h3
        · rw [pk_yes hb, pk_yes (hs ▸ hb)]; simp; omega
      · have h3 := h2 (by omega)
        cases hb : P n
        · rw [pk_no hb, pk_no (hs ▸ hb)]; exact h3
        · rw [pk_yes hb, pk_yes (hs ▸ hb), h3]
theorem getD_at {l : List Nat} {t : Nat} (h : t < l.length) : l.getD t 0 = l[t] := by simp [List.getD, List.getElem?_eq_getElem h]
theorem has_pk {P : Nat → Bool} {n x : Nat} (hx : x < n) : hasLine (pk P n).length (lf (pk P n)) (x : Int) ↔ P x = true := by
  constructor
  · rintro ⟨t, ht, e⟩
    have h1 : (pk P n).getD t 0 = x := by unfold lf at e; omega
    have h2 : x ∈ pk P n := by
      rw [← h1, getD_at ht]
      exact List.getElem_mem ht
    unfold pk at h2
    exact (List.mem_filter.1 h2).2
  · intro h
    have h2 : x ∈ pk P n := List.mem_filter.2 ⟨List.mem_range.2 hx, h⟩
    obtain ⟨t, ht, e⟩ := List.getElem_of_mem h2
    refine ⟨t, ht, ?_⟩
    unfold lf
    rw [getD_at ht, e]
theorem pk_four {P : Nat → Bool} (n : Nat) : (pk P (n + 4)).length ≤ (pk P n).length + 4 ∧ ((∀ a, n ≤ a → a < n + 4 → P a = false) → (pk P (n + 4)).length = (pk P n).length) := by
  have step : ∀ k, (pk P (k + 1)).length ≤ (pk P k).length + 1 := fun k => by
    cases h : P k
    · rw [pk_no h]; omega
    · rw [pk_yes h]; simp
  refine ⟨by have h0 := step n; have h1 : (pk P (n + 2)).length ≤ (pk P (n + 1)).length + 1 := step (n + 1); have h2 : (pk P (n + 3)).length ≤ (pk P (n + 2)).length + 1 := step (n + 2); have h3 : (pk P (n + 4)).length ≤ (pk P (n + 3)).length + 1 := step (n + 3); omega, fun h => ?_⟩
  show (pk P (n + 3 + 1)).length = _
  rw [pk_no (h (n + 3) (by omega) (by omega))]
  show (pk P (n + 2 + 1)).length = _
  rw [pk_no (h (n + 2) (by omega) (by omega))]
  show (pk P (n + 1 + 1)).length = _
  rw [pk_no (h (n + 1) (by omega) (by omega)), pk_no (h n (by omega) (by omega))]
end Go.Proofs.Ytjplodenflkghaa
