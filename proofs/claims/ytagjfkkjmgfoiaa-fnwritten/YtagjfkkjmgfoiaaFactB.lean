/- What was written comes back: facts without a walk. -/
import Derived.Test.YtagjfkkjmgfoiaaAllS
import Derived.Test.YtagjfkkjmgfoiaaImplR
import Derived.Test.YtagjfkkjmgfoiaaUndoB
namespace Go.Proofs.Ytagjfkkjmgfoiaa
open Go.RowKit
set_option linter.unusedSimpArgs false
set_option linter.unusedVariables false
theorem Good.keys {S : BD} (hg : S.Good) {f : Int} (hf : cellOK f) : ((f.toNat : Nat) : Int) = f ∧ f.toNat < 8 := by
  have := hf.1; have := hf.2; exact ⟨by omega, by omega⟩
/-- A write keeps goodness. -/
theorem write_good {S R : BD} {k x : Int} (hg : S.Good) (hk : cellOK k) (hx : wordOK x) (hn : R.n = 8) (hc : R.c = upd S.c k.toNat x) (hl : logged S.k S.lc S.lw k (S.c k.toNat) R.k R.lc R.lw) : R.Good := by
  obtain ⟨e, h8⟩ := Good.keys hg hk
  refine ⟨hn, fun i hi => ?_, ?_, ?_⟩
  · rw [hc]; unfold upd; by_cases h : i = k.toNat
    · simp [h, hx]
    · simp [h]; exact hg.c i hi
  · rcases hl with ⟨-, e1, e2, e3⟩ | ⟨-, e1, e2, e3⟩
    · intro i hi; rw [e2, e3]; exact hg.l i (by omega)
    · intro i hi; rw [e2, e3]; unfold snoc; by_cases h : i = S.k
      · simp [h]; exact ⟨hk, hg.c _ h8⟩
      · simp [h]; exact hg.l i (by omega)
  · rcases hl with ⟨-, e1, e2, e3⟩ | ⟨hm, e1, e2, e3⟩
    · rw [e1, e2]; exact hg.d
    · rw [e1, e2]
      intro i j hi hj he
      unfold snoc at he
      by_cases h : i = S.k <;> by_cases h' : j = S.k
      · omega
      · simp [h, h'] at he; exact absurd he.symm (hm j (by omega))
      · simp [h, h'] at he; exact absurd he (hm i (by omega))
      · simp [h, h'] at he; exact hg.d i j (by omega) (by omega) he
/-- A write keeps what was before. -/
theorem write_before {S R : BD} {k x : Int} (hg : S.Good) (hk : cellOK k) (hc : R.c = upd S.c k.toNat x) (hl : logged S.k S.lc S.lw k (S.c k.toNat) R.k R.lc R.lw) : before R.k R.lc R.lw R.c = before S.k S.lc S.lw S.c := by
  obtain ⟨e, h8⟩ := Good.keys hg hk
  funext i
  rcases hl with ⟨⟨t, ht, et⟩, e1, e2, e3⟩ | ⟨hm, e1, e2, e3⟩
  · rw [e1, e2, e3, hc]
    by_cases h : ∃ t, t < S.k ∧ S.lc t = i
    · obtain ⟨t', ht', et'⟩ := h
      rw [before_hit hg.d ht' et', before_hit hg.d ht' et']
    · have h' : ∀ t, t < S.k → S.lc t ≠ i := fun t ht e => h ⟨t, ht, e⟩
      rw [before_miss h', before_miss h']
      unfold upd
      have : i ≠ k.toNat := fun h => h' t ht (by omega)
      simp [this]
  · rw [e1, e2, e3, hc]
    have hs : ∀ n, n ≤ S.k → ∀ (c : Nat → Int), before n (snoc S.k S.lc k) (snoc S.k S.lw (S.c k.toNat)) c = before n S.lc S.lw c := by
      intro n
      induction n with
      | zero => intro _ c; rfl
      | succ n ih =>
        intro hn c
        funext j
        unfold before
        rw [ih (by omega)]
        have : n ≠ S.k := by omega
        simp [snoc, this]
    show (if (i : Int) = snoc S.k S.lc k S.k then snoc S.k S.lw (S.c k.toNat) S.k else before S.k (snoc S.k S.lc k) (snoc S.k S.lw (S.c k.toNat)) (upd S.c k.toNat x) i) = _
    rw [hs _ (Nat.le_refl _)]
    simp only [snoc, if_true]
    by_cases h : (i : Int) = k
    · have hi : i = k.toNat := by omega
      rw [if_pos h, before_miss (fun t ht et => hm t ht (by omega)), hi]
    · rw [if_neg h]
      by_cases g : ∃ t, t < S.k ∧ S.lc t = i
      · obtain ⟨t', ht', et'⟩ := g
        rw [before_hit hg.d ht' et', before_hit hg.d ht' et']
      · have h' : ∀ t, t < S.k → S.lc t ≠ i := fun t ht e => g ⟨t, ht, e⟩
        rw [before_miss h', before_miss h']
        unfold upd
        have : i ≠ k.toNat := fun e => h (by omega)
        simp [this]
theorem WA_keep {B : BD} {f g : Nat → Int} (hg : B.Good) : ∀ (j : Nat), (∀ i, i < j → cellOK (f i) ∧ wordOK (g i)) → ∀ {R : BD}, WA B f g j R → R.Good ∧ before R.k R.lc R.lw R.c = before B.k B.lc B.lw B.c
  | 0, _, R, h => by cases h; exact ⟨hg, rfl⟩
  | j + 1, hok, R, ⟨S, h1, h2, h3, h4⟩ => by
    obtain ⟨hS, hb⟩ := WA_keep hg j (fun i hi => hok i (by omega)) h1
    obtain ⟨hc, hw⟩ := hok j (by omega)
    exact ⟨write_good hS hc hw h2 h3 h4, (write_before hS hc h3 h4).trans hb⟩
theorem ee_good {B : BD} (hg : B.Good) : (eeA B).Good := ⟨rfl, hg.c, fun i hi => absurd hi (Nat.not_lt_zero _), fun i j hi => absurd hi (Nat.not_lt_zero _)⟩
/-- All that FnRolled asks where the writes are allowed. -/
theorem rolled_fact {B R E X Q : BD} {m : Nat} {f g : Nat → Int} {one two three four five : Bool} {na nb : Nat} {a b : Nat → Int} {good : Bool}
    (h1 : waOut B m f g R true) (h2 : gOut B (eeA B) E one) (h3 : waOut E m f g X two) (h4 : gOut X (rbA X) Q three) (h5 : iOut B (bP B) na a four) (h6 : iOut R (bP R) nb b five) (h7 : good = true ↔ R.Good) :
    good = true ∧ one = true ∧ two = true ∧ three = true ∧ four = true ∧ five = true ∧ Q = E ∧ na = nb ∧ ∀ i, i < na → a i = b i := by
  rcases h1 with ⟨⟨g1, g2, g3⟩, -, w1⟩ | ⟨-, e, -⟩
  · obtain ⟨rg, rb⟩ := WA_keep g1 m g3 w1
    rcases h2 with ⟨-, e2, rfl⟩ | ⟨n, -⟩
    · rcases h3 with ⟨-, e3, w3⟩ | ⟨n, -⟩
      · obtain ⟨xg, xb⟩ := WA_keep (ee_good g1) m g3 w3
        rcases h4 with ⟨-, e4, rfl⟩ | ⟨n, -⟩
        · rcases h5 with ⟨-, e5, ha, hav⟩ | ⟨n, -⟩
          · rcases h6 with ⟨-, e6, hb, hbv⟩ | ⟨n, -⟩
            · refine ⟨h7.2 rg, e2, e3, e4, e5, e6, ?_, by omega, fun i hi => ?_⟩
              · show (⟨8, _, 0, zf, zf⟩ : BD) = _
                rw [xb]; rfl
              · rw [hav i (by omega), hbv i (by omega), rb]
            · exact absurd rg n
          · exact absurd g1 n
        · exact absurd xg n
      · exact absurd ⟨ee_good g1, g2, g3⟩ n
    · exact absurd g1 n
  · cases e
end Go.Proofs.Ytagjfkkjmgfoiaa
