/- Merged by program, in this order: FactL, LawGood, LawX, SameE, FactM. -/
import Derived.Test.YtcfdagmcnaepgaaJoin7
/- Tables that are changed: what stands at each place. -/
namespace Go.Proofs.Ytcfdagmcnaepgaa
open Go.RowKit
set_option linter.unusedSimpArgs false
set_option linter.unusedVariables false
theorem div_mod_ne {a x : Nat} (h : a ≠ x) (e : a / 4 = x / 4) : a % 4 ≠ x % 4 := by omega
theorem lt_q {B : BD} (g : B.Good) {t q : Nat} (ht : t < 4) (h : goes B.c B.D.n t q) : q < B.D.n := by
  rcases h with h | ⟨_, h⟩
  · have := g.top t (by rw [g.n]; exact ht); rw [h] at this; omega
  · exact h.1
/-- No other top has the list that a leaf comes into. -/
theorem other_top {B : BD} (g : B.Good) {t q i : Nat} (ht : t < 4) (hi : i < 4) (hne : i ≠ t) (h : goes B.c B.D.n t q) : ¬ B.c i = (q : Int) := by
  intro e
  rcases h with h | ⟨_, h⟩
  · rcases Nat.lt_or_gt_of_ne hne with h1 | h1
    · exact g.dis t i (by rw [g.n]; exact ht) h1 (by omega) (by rw [e, h])
    · exact g.dis i t (by rw [g.n]; exact hi) h1 (by omega) (by rw [e, h])
  · exact h.2.1 ⟨i, hi, e⟩
theorem idle_zero {B : BD} (g : B.Good) {t q j : Nat} (hj : j < 4) (hc : B.c t = -1) (h : isIdle B.c B.D.n q) : B.D.p q j = 0 ∧ B.D.m q j = 0 := by
  have h1 := g.idle q h.1 (fun i hi e => h.2.1 ⟨i, by rw [g.n] at hi; exact hi, e⟩) j hj
  have h2 := (g.leaf q h.1).2 j hj
  unfold leafOK at h2
  omega
theorem ch_good {B : BD} (g : B.Good) {x q : Nat} {gp y : Int} (hx : x < 16) (h : goes B.c B.D.n (x / 4) q) (hl : leafOK gp y) : (chB B x q gp y).Good := by
  have hq := lt_q g (by omega) h
  have hn := g.n
  have hgn : ∀ i, i < 4 → i < B.n := fun i hi => by rw [hn]; exact hi
  refine ⟨rfl, g.k, fun i hi => ⟨rfl, fun j hj => ?_⟩, fun i hi => ?_, fun i j hi hj h0 e => ?_, fun k hk hno j hj => ?_⟩
  · show leafOK (upd2 B.D.p q (x % 4) gp i j) (upd2 B.D.m q (x % 4) y i j)
    unfold upd2
    by_cases e : i = q ∧ j = x % 4
    · rw [if_pos e, if_pos e]; exact hl
    · rw [if_neg e, if_neg e]; exact (g.leaf i hi).2 j hj
  · show -1 ≤ topsOf B.c (x / 4) q _ _ i ∧ topsOf B.c (x / 4) q _ _ i ≤ (B.D.n : Int) - 1
    have hi4 : i < 4 := hi
    have ht := g.top i (hgn i hi4)
    by_cases hz : isZero8 (upd2 B.D.p q (x % 4) gp q) (upd2 B.D.m q (x % 4) y q)
    · rw [topsOf_yes hz]; unfold upd; split
      · have := g.k; omega
      · exact ht
    · rw [topsOf_no hz]; unfold upd; split
      · omega
      · exact ht
  · have hi4 : i < 4 := hi
    replace h0 : 0 ≤ topsOf B.c (x / 4) q (upd2 B.D.p q (x % 4) gp q) (upd2 B.D.m q (x % 4) y q) i := h0
    replace e : topsOf B.c (x / 4) q (upd2 B.D.p q (x % 4) gp q) (upd2 B.D.m q (x % 4) y q) j = topsOf B.c (x / 4) q (upd2 B.D.p q (x % 4) gp q) (upd2 B.D.m q (x % 4) y q) i := e
    by_cases hz : isZero8 (upd2 B.D.p q (x % 4) gp q) (upd2 B.D.m q (x % 4) y q)
    · rw [topsOf_yes hz] at h0 e
      unfold upd at h0 e
      by_cases e1 : i = x / 4
      · rw [if_pos e1] at h0; omega
      · rw [if_neg e1] at h0 e
        by_cases e2 : j = x / 4
        · rw [if_pos e2] at e; omega
        · rw [if_neg e2] at e; exact g.dis i j (hgn i hi4) hj h0 e
    · rw [topsOf_no hz] at h0 e
      unfold upd at h0 e
      by_cases e1 : i = x / 4
      · have e2 : ¬ j = x / 4 := by omega
        rw [if_pos e1, if_neg e2] at e
        exact other_top g (by omega) (by omega) e2 h e
      · rw [if_neg e1] at h0 e
        by_cases e2 : j = x / 4
        · rw [if_pos e2] at e; exact other_top g (by omega) hi4 e1 h e.symm
        · rw [if_neg e2] at e; exact g.dis i j (hgn i hi4) hj h0 e
  · have hno2 : ∀ i, i < 4 → ¬ topsOf B.c (x / 4) q (upd2 B.D.p q (x % 4) gp q) (upd2 B.D.m q (x % 4) y q) i = (k : Int) := fun i hi => hno i hi
    show ¬ 0 < upd2 B.D.m q (x % 4) y k j
    have hx4 : x / 4 < 4 := by omega
    by_cases hz : isZero8 (upd2 B.D.p q (x % 4) gp q) (upd2 B.D.m q (x % 4) y q)
    · by_cases e : k = q
      · subst e; rw [(hz j hj).2]; omega
      · have h1 : ¬ (k = q ∧ j = x % 4) := fun h => e h.1
        unfold upd2
        rw [if_neg h1]
        refine g.idle k hk (fun i hi ei => ?_) j hj
        have hi4 : i < 4 := by rw [hn] at hi; exact hi
        by_cases e1 : i = x / 4
        · subst e1
          rcases h with h | ⟨h, _⟩
          · omega
          · omega
        · have := hno2 i hi4
          rw [topsOf_yes hz] at this
          unfold upd at this
          rw [if_neg e1] at this
          exact this ei
    · by_cases e : k = q
      · subst e
        have := hno2 (x / 4) hx4
        rw [topsOf_no hz, upd_at] at this
        exact absurd rfl this
      · have h1 : ¬ (k = q ∧ j = x % 4) := fun h => e h.1
        unfold upd2
        rw [if_neg h1]
        refine g.idle k hk (fun i hi ei => ?_) j hj
        have hi4 : i < 4 := by rw [hn] at hi; exact hi
        by_cases e1 : i = x / 4
        · subst e1
          rcases h with h | ⟨h, _⟩
          · omega
          · omega
        · have := hno2 i hi4
          rw [topsOf_no hz] at this
          unfold upd at this
          rw [if_neg e1] at this
          exact this ei
/-- The leaf at each place behind a change. -/
theorem ch_leaf {B : BD} (g : B.Good) {x q a : Nat} {gp y : Int} (hx : x < 16) (ha : a < 16) (h : goes B.c B.D.n (x / 4) q) :
    lfP (chB B x q gp y).c (chB B x q gp y).D.p a = (if a = x then gp else lfP B.c B.D.p a) ∧ lfP (chB B x q gp y).c (chB B x q gp y).D.m a = (if a = x then y else lfP B.c B.D.m a) := by
  show lfP (topsOf B.c (x / 4) q (upd2 B.D.p q (x % 4) gp q) (upd2 B.D.m q (x % 4) y q)) (upd2 B.D.p q (x % 4) gp) a = _ ∧ lfP (topsOf B.c (x / 4) q (upd2 B.D.p q (x % 4) gp q) (upd2 B.D.m q (x % 4) y q)) (upd2 B.D.m q (x % 4) y) a = _
  by_cases et : a / 4 = x / 4
  · by_cases hz : isZero8 (upd2 B.D.p q (x % 4) gp q) (upd2 B.D.m q (x % 4) y q)
    · rw [topsOf_yes hz]
      have hc : ¬ 0 ≤ upd B.c (x / 4) (-1) (a / 4) := by rw [et, upd_at]; omega
      rw [lfP_no hc, lfP_no hc]
      by_cases ea : a = x
      · subst ea
        rw [if_pos rfl, if_pos rfl]
        have := hz (a % 4) (by omega)
        rw [upd2_at, upd2_at] at this
        exact ⟨this.1.symm, this.2.symm⟩
      · rw [if_neg ea, if_neg ea]
        have hm := div_mod_ne ea et
        have hz' := hz (a % 4) (by omega)
        have hu : ∀ (f : Nat → Nat → Int) (v : Int), upd2 f q (x % 4) v q (a % 4) = f q (a % 4) := fun f v => by unfold upd2; rw [if_neg (fun h => hm h.2)]
        rw [hu, hu] at hz'
        rcases h with h | ⟨h, _⟩
        · have h' : B.c (a / 4) = (q : Int) := by rw [et]; exact h
          rw [lfP_yes h', lfP_yes h', hz'.1, hz'.2]
          exact ⟨rfl, rfl⟩
        · have h' : ¬ 0 ≤ B.c (a / 4) := by rw [et, h]; omega
          rw [lfP_no h', lfP_no h']
          exact ⟨rfl, rfl⟩
    · rw [topsOf_no hz]
      have hc : upd B.c (x / 4) q (a / 4) = (q : Int) := by rw [et, upd_at]
      rw [lfP_yes hc, lfP_yes hc]
      by_cases ea : a = x
      · subst ea
        rw [if_pos rfl, if_pos rfl, upd2_at, upd2_at]
        exact ⟨rfl, rfl⟩
      · rw [if_neg ea, if_neg ea]
        have hm := div_mod_ne ea et
        have hu : ∀ (f : Nat → Nat → Int) (v : Int), upd2 f q (x % 4) v q (a % 4) = f q (a % 4) := fun f v => by unfold upd2; rw [if_neg (fun h => hm h.2)]
        rw [hu, hu]
        rcases h with h | ⟨h, hid⟩
        · have h' : B.c (a / 4) = (q : Int) := by rw [et]; exact h
          rw [lfP_yes h', lfP_yes h']
          exact ⟨rfl, rfl⟩
        · have h' : ¬ 0 ≤ B.c (a / 4) := by rw [et, h]; omega
          rw [lfP_no h', lfP_no h']
          have := idle_zero g (j := a % 4) (by omega) h hid
          exact this
  · have ea : ¬ a = x := fun e => et (by rw [e])
    rw [if_neg ea, if_neg ea]
    have hc : topsOf B.c (x / 4) q (upd2 B.D.p q (x % 4) gp q) (upd2 B.D.m q (x % 4) y q) (a / 4) = B.c (a / 4) := by
      by_cases hz : isZero8 (upd2 B.D.p q (x % 4) gp q) (upd2 B.D.m q (x % 4) y q)
      · rw [topsOf_yes hz]; unfold upd; rw [if_neg et]
      · rw [topsOf_no hz]; unfold upd; rw [if_neg et]
    by_cases h0 : 0 ≤ B.c (a / 4)
    · obtain ⟨s, hs⟩ : ∃ s : Nat, B.c (a / 4) = s := ⟨(B.c (a / 4)).toNat, by omega⟩
      have hne : ¬ s = q := fun e => other_top g (by omega) (by omega) et h (by rw [hs, e])
      rw [lfP_yes (hc.trans hs), lfP_yes (hc.trans hs), lfP_yes hs, lfP_yes hs]
      unfold upd2
      rw [if_neg (fun h => hne h.1), if_neg (fun h => hne h.1)]
      exact ⟨rfl, rfl⟩
    · have h1 : ¬ 0 ≤ topsOf B.c (x / 4) q (upd2 B.D.p q (x % 4) gp q) (upd2 B.D.m q (x % 4) y q) (a / 4) := by rw [hc]; exact h0
      rw [lfP_no h1, lfP_no h1, lfP_no h0, lfP_no h0]
      exact ⟨rfl, rfl⟩
theorem lf_ok {B : BD} (g : B.Good) {a : Nat} (ha : a < 16) : leafOK (lfP B.c B.D.p a) (lfP B.c B.D.m a) := by
  have ht := g.top (a / 4) (by rw [g.n]; omega)
  by_cases h0 : 0 ≤ B.c (a / 4)
  · obtain ⟨s, hs⟩ : ∃ s : Nat, B.c (a / 4) = s := ⟨(B.c (a / 4)).toNat, by omega⟩
    rw [lfP_yes hs, lfP_yes hs]
    exact (g.leaf s (by omega)).2 (a % 4) (by omega)
  · rw [lfP_no h0, lfP_no h0]; unfold leafOK; omega
/-- Two good tables that have the same at a place tell the same there. -/
theorem wt_eq {B B' : BD} (g : B.Good) (g' : B'.Good) {a k x y x' y' : Int} {r r' : Bool} (hp : lfP B.c B.D.p a.toNat = lfP B'.c B'.D.p a.toNat) (hm : lfP B.c B.D.m a.toNat = lfP B'.c B'.D.m a.toNat) (h : wtOut B a k x y r) (h' : wtOut B' a k x' y' r') : x = x' ∧ y = y' ∧ r = r' := by
  have e : wtOut B a k x' y' r' := by
    rcases h' with ⟨n, h1, h2, h3⟩ | ⟨n, h1, h2⟩
    · exact Or.inl ⟨fun q => n ⟨g', q.2⟩, h1, h2, h3⟩
    · rw [← hp, ← hm] at h2; rw [← hm] at h1
      exact Or.inr ⟨⟨g, n.2⟩, h1, h2⟩
  exact wtOut_same h e
/-- What a walk of two tables tells alike. -/
def Like (B B' : BD) (nt : Int) : Prop := B.Good ∧ B'.Good ∧ ∀ a : Nat, a < 16 → ¬ (a : Int) = nt → lfP B.c B.D.p a = lfP B'.c B'.D.p a ∧ lfP B.c B.D.m a = lfP B'.c B'.D.m a
theorem Like.walk {B B' : BD} {nt : Int} (h : Like B B' nt) {a : Nat} (ha : a < 16) (hn : ¬ (a : Int) = nt) {k x y x' y' : Int} {r r' : Bool} (h1 : wtOut B a k x y r) (h2 : wtOut B' a k x' y' r') : x = x' ∧ y = y' ∧ r = r' := by
  have := h.2.2 a ha hn
  exact wt_eq h.1 h.2.1 (by rw [Int.toNat_natCast]; exact this.1) (by rw [Int.toNat_natCast]; exact this.2) h1 h2
theorem like_ch {B : BD} (g : B.Good) {x q : Nat} {gp y : Int} (hx : x < 16) (h : goes B.c B.D.n (x / 4) q) (hl : leafOK gp y) : Like B (chB B x q gp y) (x : Int) := by
  refine ⟨g, ch_good g hx h hl, fun a ha hn => ?_⟩
  obtain ⟨h1, h2⟩ := ch_leaf (gp := gp) (y := y) g hx ha h
  have : ¬ a = x := fun e => hn (by rw [e])
  rw [if_neg this] at h1 h2
  exact ⟨h1.symm, h2.symm⟩
/-! ### The lists of places -/
theorem pk_one {P P' : Nat → Bool} {x : Nat} (hP : P x = true) (hP' : P' x = false) (he : ∀ a, a ≠ x → P a = P' a) : ∀ n, (x < n → (pk P n).length = (pk P' n).length + 1) ∧ (n ≤ x → pk P n = pk P' n)
  | 0 => ⟨fun h => absurd h (Nat.not_lt_zero _), fun _ => rfl⟩
  | n + 1 => by
    obtain ⟨h1, h2⟩ := pk_one hP hP' he n
    by_cases e : n = x
    · subst e
      refine ⟨fun _ => ?_, fun h => absurd h (by omega)⟩
      rw [pk_yes hP, pk_no hP', h2 (Nat.le_refl _)]
      simp
    · have hs := he n e
      refine ⟨fun h => ?_, fun h => ?_⟩
      · have h3 := h1 (by omega)
        cases hb : P n
        · rw [pk_no hb, pk_no (hs ▸ hb)]; exact h3
        · rw [pk_yes hb, pk_yes (hs ▸ hb)]; simp; omega
      · have h3 := h2 (by omega)
        cases hb : P n
        · rw [pk_no hb, pk_no (hs ▸ hb)]; exact h3
        · rw [pk_yes hb, pk_yes (hs ▸ hb), h3]
theorem getD_at {l : List Nat} {t : Nat} (h : t < l.length) : l.getD t 0 = l[t] := by simp [List.getD, List.getElem?_eq_getElem h]
theorem has_pk {P : Nat → Bool} {n x : Nat} (hx : x < n) : hasLine (pk P n).length (lf (pk P n)) (x : Int) ↔ P x = true := by
  constructor
  · rintro ⟨t, ht, e⟩
    have h1 : (pk P n).getD t 0 = x := by unfold lf at e; omega
    have h2 : x ∈ pk P n := by
      rw [← h1, getD_at ht]
      exact List.getElem_mem ht
    unfold pk at h2
    exact (List.mem_filter.1 h2).2
  · intro h
    have h2 : x ∈ pk P n := List.mem_filter.2 ⟨List.mem_range.2 hx, h⟩
    obtain ⟨t, ht, e⟩ := List.getElem_of_mem h2
    refine ⟨t, ht, ?_⟩
    unfold lf
    rw [getD_at ht, e]
theorem pk_four {P : Nat → Bool} (n : Nat) : (pk P (n + 4)).length ≤ (pk P n).length + 4 ∧ ((∀ a, n ≤ a → a < n + 4 → P a = false) → (pk P (n + 4)).length = (pk P n).length) := by
  have step : ∀ k, (pk P (k + 1)).length ≤ (pk P k).length + 1 := fun k => by
    cases h : P k
    · rw [pk_no h]; omega
    · rw [pk_yes h]; simp
  refine ⟨by have h0 := step n; have h1 : (pk P (n + 2)).length ≤ (pk P (n + 1)).length + 1 := step (n + 1); have h2 : (pk P (n + 3)).length ≤ (pk P (n + 2)).length + 1 := step (n + 2); have h3 : (pk P (n + 4)).length ≤ (pk P (n + 3)).length + 1 := step (n + 3); omega, fun h => ?_⟩
  show (pk P (n + 3 + 1)).length = _
  rw [pk_no (h (n + 3) (by omega) (by omega))]
  show (pk P (n + 2 + 1)).length = _
  rw [pk_no (h (n + 2) (by omega) (by omega))]
  show (pk P (n + 1 + 1)).length = _
  rw [pk_no (h (n + 1) (by omega) (by omega)), pk_no (h n (by omega) (by omega))]
theorem mapped_le (c : Nat → Int) (m : Nat → Nat → Int) : ∀ j, (pk (mpP c m) (4 * j)).length ≤ 4 * cu c j
  | 0 => Nat.le_refl _
  | j + 1 => by
    have ih := mapped_le c m j
    obtain ⟨h1, h2⟩ := pk_four (P := mpP c m) (4 * j)
    rw [Nat.mul_succ]
    by_cases h : 0 ≤ c j
    · rw [cu_yes h]; omega
    · rw [cu_no h, h2 (fun a h3 h4 => by
        have e : a / 4 = j := by omega
        unfold mpP
        rw [lfP_no (by rw [e]; exact h)]
        decide)]
      exact ih
end Go.Proofs.Ytcfdagmcnaepgaa
/- The law on GoodTable. -/
namespace Go.Proofs.Ytcfdagmcnaepgaa
open Go.RowKit
set_option linter.unusedSimpArgs false
set_option linter.unusedVariables false
set_option maxHeartbeats 800000 in
theorem implGood_any (b : BV) (B : BD) (Y : Nat → Prop) (w : World) (h : BookAt Y w b B) (hY : ∀ x, Y x → x < w.heap.size) :
    Calls Try.prog 12 #[b.val B] w fun e w' => ∃ r, e = .returned (.bool r) ∧ (r = true ↔ B.Good) ∧ Blw w w' := by
  have hb0 : Blw w (w.alloc (.cells #[.slice b.a1 B.n b.c1, .slice b.a2 B.D.n b.c2] 26)) := (Blw.refl _).alloc _
  have HB : Hid (BookAt Y (w.alloc (.cells #[.slice b.a1 B.n b.c1, .slice b.a2 B.D.n b.c2] 26)) b B) := h.blw hb0
  clear h
  go_enter Try.func12, Try.ntmps12
  go_wp2_with fail
  refine (hold_any b B Y _ HB.out (fun x hx => by have := hY x hx; simp; omega)).mono ?_
  rintro e w1 ⟨h1, hb1⟩
  replace hb1 := hb0.trans hb1
  clear hb0 HB
  rcases h1 with ⟨z, hg, rfl, -, -⟩ | ⟨hg, rfl⟩
  · have HG : Hid B.Good := hg
    clear hg
    go_wp2
    go_ret
    exact ⟨true, rfl, iff_t HG.out, hb1.alloc _⟩
  · have HG : Hid (¬ B.Good) := hg
    clear hg
    go_wp2
    go_ret
    exact ⟨false, rfl, iff_f HG.out, hb1.alloc _⟩
end Go.Proofs.Ytcfdagmcnaepgaa
/- What stands in a drawn law on tables. -/
namespace Go.Proofs.Ytcfdagmcnaepgaa
open Go.RowKit
set_option linter.unusedSimpArgs false
set_option linter.unusedVariables false
/-- A table and its box. -/
structure BX (W : World) (z : Nat) (b : BV) (B : BD) : Prop where
  at_ : BookAt (fun x => x < W.heap.size) W b B
  box : Row W z 2 (fun i => if i = 0 then .slice b.a1 B.n b.c1 else .slice b.a2 B.D.n b.c2)
theorem BX.blw {W W' : World} {z : Nat} {b : BV} {B : BD} (h : BX W z b B) (hb : Blw W W') : BX W' z b B :=
  ⟨(h.at_.blw hb).mono (fun x hx => Nat.lt_of_lt_of_le hx hb.size), h.box.blw hb⟩
theorem BX.all {W : World} {z : Nat} {b : BV} {B : BD} (h : BX W z b B) : (∀ w', Blw W w' → w'.cell? ⟨z, 0, none⟩ = some (.slice b.a1 B.n b.c1)) ∧ (∀ w', Blw W w' → w'.cell? ⟨z, 1, none⟩ = some (.slice b.a2 B.D.n b.c2)) :=
  ⟨fun w' hb => (get2 (h.box.blw hb)).1, fun w' hb => (get2 (h.box.blw hb)).2⟩
def LI (W : World) (a : Option Addr) (n : Nat) (f : Nat → Int) : Prop := IntsAt (fun x => x < W.heap.size) W a n f
theorem LI.blw {W W' : World} {a : Option Addr} {n : Nat} {f : Nat → Int} (h : LI W a n f) (hb : Blw W W') : LI W' a n f := (IntsAt.blw h hb).mono (fun x hx => Nat.lt_of_lt_of_le hx hb.size)
def BY (W : World) (a : Option Addr) (n : Nat) (f : Nat → Int) : Prop := BytesAt (fun b => b < W.heap.size) W a n f
theorem BY.blw {W W' : World} {a : Option Addr} {n : Nat} {f : Nat → Int} (h : BY W a n f) (hb : Blw W W') : BY W' a n f := bytes_more h hb
theorem same39 (a1 a2 : Option Addr) (c1 c2 n0 : Nat) (f g : Nat → Int) {Y Z : Nat → Prop} (w : World) (h1 : IntsAt Y w a1 n0 f) (h2 : IntsAt Z w a2 n0 g) (he : ∀ i, i < n0 → f i = g i) :
    Calls Try.prog 34 #[.slice a1 n0 c1, .slice a2 n0 c2] w fun e w' => e = .returned (.bool true) ∧ Blw w w' :=
  (sameInts_yes a1 a2 c1 c2 n0 f g w h1 h2 he).mono fun e w' ⟨he, n, hw⟩ => ⟨he, by subst hw; exact (Blw.refl _).drewN n⟩
theorem neq73 (x y : Int) (w : World) : (binOp .neq 78 (.agg #[.int .i64 x, .int .i64 y]) (.agg #[.int .i64 x, .int .i64 y])).run Try.prog w = .ok (.bool false) w := by
  rw [run_neq_struct, pairEq 9998 x y x y w]
  simp
set_option maxRecDepth 10000 in
set_option maxHeartbeats 3200000 in
theorem sameTable_same (b b' : BV) (B : BD) {Y Z : Nat → Prop} (w : World) (h1 : BookAt Y w b B) (h2 : BookAt Z w b' B) :
    Calls Try.prog 11 #[b.val B, b'.val B] w fun e w' => e = .returned (.bool true) ∧ Blw w w' := by
  have hb0 : Blw w ((w.alloc (.cells #[.slice b.a1 B.n b.c1, .slice b.a2 B.D.n b.c2] 26)).alloc (.cells #[.slice b'.a1 B.n b'.c1, .slice b'.a2 B.D.n b'.c2] 26)) := ((Blw.refl _).alloc _).alloc _
  have HA : Hid (BookAt Y ((w.alloc (.cells #[.slice b.a1 B.n b.c1, .slice b.a2 B.D.n b.c2] 26)).alloc (.cells #[.slice b'.a1 B.n b'.c1, .slice b'.a2 B.D.n b'.c2] 26)) b B) := h1.blw hb0
  have HB : Hid (BookAt Z ((w.alloc (.cells #[.slice b.a1 B.n b.c1, .slice b.a2 B.D.n b.c2] 26)).alloc (.cells #[.slice b'.a1 B.n b'.c1, .slice b'.a2 B.D.n b'.c2] 26)) b' B) := h2.blw hb0
  have R0 : Hid (Row ((w.alloc (.cells #[.slice b.a1 B.n b.c1, .slice b.a2 B.D.n b.c2] 26)).alloc (.cells #[.slice b'.a1 B.n b'.c1, .slice b'.a2 B.D.n b'.c2] 26)) w.heap.size 2 (fun i => if i = 0 then .slice b.a1 B.n b.c1 else .slice b.a2 B.D.n b.c2)) := (box2 w _ _ 26).blw ((Blw.refl _).alloc _)
  have r1 := box2 (w.alloc (.cells #[.slice b.a1 B.n b.c1, .slice b.a2 B.D.n b.c2] 26)) (.slice b'.a1 B.n b'.c1) (.slice b'.a2 B.D.n b'.c2) 26
  rw [World.size_alloc] at r1
  have R1 : Hid (Row ((w.alloc (.cells #[.slice b.a1 B.n b.c1, .slice b.a2 B.D.n b.c2] 26)).alloc (.cells #[.slice b'.a1 B.n b'.c1, .slice b'.a2 B.D.n b'.c2] 26)) (w.heap.size + 1) 2 (fun i => if i = 0 then .slice b'.a1 B.n b'.c1 else .slice b'.a2 B.D.n b'.c2)) := r1
  clear h1 h2 r1
  obtain ⟨n, c, ⟨kn, len, p, m⟩⟩ := B
  dsimp only at *
  go_enter Try.func11, Try.ntmps11
  obtain ⟨p0, p1⟩ := get2 R0.out
  obtain ⟨q0, q1⟩ := get2 R1.out
  go_wp2_with fail
  clear p0 p1 q0 q1
  refine (same39 b.a1 b'.a1 b.c1 b'.c1 n c c _ HA.out.c HB.out.c (fun _ _ => rfl)).mono ?_
  rintro e w1 ⟨rfl, hb1⟩
  replace HA : Hid (BookAt Y w1 b ⟨n, c, ⟨kn, len, p, m⟩⟩) := HA.out.blw hb1
  replace HB : Hid (BookAt Z w1 b' ⟨n, c, ⟨kn, len, p, m⟩⟩) := HB.out.blw hb1
  replace R0 : Hid (Row w1 w.heap.size 2 (fun i => if i = 0 then .slice b.a1 n b.c1 else .slice b.a2 kn b.c2)) := R0.out.blw hb1
  replace R1 : Hid (Row w1 (w.heap.size + 1) 2 (fun i => if i = 0 then .slice b'.a1 n b'.c1 else .slice b'.a2 kn b'.c2)) := R1.out.blw hb1
  have HW : Hid (Blw w w1) := hb0.trans hb1
  have hkn := HA.out.l.1
  dsimp only at hkn
  clear hb0 hb1
  obtain ⟨p0, p1⟩ := get2 R0.out
  obtain ⟨q0, q1⟩ := get2 R1.out
  have dk : ((kn : Int) != (kn : Int)) = false := by simp
  go_wp2_with fail
  clear p0 p1 q0 q1 dk
  go_loopw [25] (fun i wr => ∃ k : Nat, k ≤ kn ∧ i = .int .i64 k ∧ Blw w1 wr) (fun i _ => kn - (intOf i).toNat)
  case atStart => exact ⟨0, Nat.zero_le _, rfl, Blw.refl _⟩
  case round =>
    obtain ⟨k, hk, rfl, hb⟩ := hrel
    have HBW : Hid (Blw w1 wr) := hb
    clear hb
    by_cases hlt : k < kn
    · have hlt' : (k : Int) < (kn : Int) := by omega
      obtain ⟨x1, y1, e1, ce1, ea1, -, g1, k1⟩ := HA.out.l.2 k hlt
      obtain ⟨x2, y2, e2, ce2, ea2, -, g2, k2⟩ := HB.out.l.2 k hlt
      dsimp only at ea1 ea2 g1 g2 k1 k2
      have G1 : Hid (w1.cell? ⟨x1, y1 + k, none⟩ = some (.slice e1 (len k) ce1)) := g1
      have G2 : Hid (w1.cell? ⟨x2, y2 + k, none⟩ = some (.slice e2 (len k) ce2)) := g2
      have K1 : Hid (UndosAt Y w1 e1 (len k) (p k) (m k)) := k1
      have K2 : Hid (UndosAt Z w1 e2 (len k) (p k) (m k)) := k2
      have hlk := k1.1
      clear g1 g2 k1 k2
      generalize len k = lk at *
      have R0w := R0.out.blw HBW.out
      have R1w := R1.out.blw HBW.out
      rw [ea1] at R0w
      rw [ea2] at R1w
      obtain ⟨p0, p1⟩ := get2 R0w
      obtain ⟨q0, q1⟩ := get2 R1w
      have g1 := HBW.out.cell G1.out
      have g2 := HBW.out.cell G2.out
      have dl : ((lk : Int) != (lk : Int)) = false := by simp
      clear R0w R1w
      go_wp2_with fail
      go_quiet (fail)
      clear p0 p1 q0 q1 g1 g2
      replace HBW : Hid (Blw w1 (wr.drewN nq)) := HBW.out.drewN nq
      clear dl
      generalize wr.drewN nq = wq at *
      have R0w := R0.out.blw HBW.out
      have R1w := R1.out.blw HBW.out
      rw [ea1] at R0w
      rw [ea2] at R1w
      obtain ⟨p0, p1⟩ := get2 R0w
      obtain ⟨q0, q1⟩ := get2 R1w
      have g1 := HBW.out.cell G1.out
      have g2 := HBW.out.cell G2.out
      clear R0w R1w
      go_wp2_with fail
      clear p0 p1 q0 q1 g1 g2
      go_loopw [47] (fun i wr2 => ∃ t : Nat, t ≤ lk ∧ i = .int .i64 t ∧ Blw w1 wr2) (fun i _ => lk - (intOf i).toNat)
      case atStart => exact ⟨0, Nat.zero_le _, rfl, HBW.out⟩
      case round =>
        clear HBW
        obtain ⟨t, ht, rfl, hb⟩ := hrel
        have HBW : Hid (Blw w1 wr) := hb
        clear hb
        by_cases hlt2 : t < lk
        · have hlt2' : (t : Int) < (lk : Int) := by omega
          obtain ⟨u1, v1, eb1, -, l1, l2⟩ := K1.out.2 t hlt2
          obtain ⟨u2, v2, eb2, -, l3, l4⟩ := K2.out.2 t hlt2
          subst eb1 eb2
          replace l1 := HBW.out.cell l1
          replace l2 := HBW.out.cell l2
          replace l3 := HBW.out.cell l3
          replace l4 := HBW.out.cell l4
          have R0w := R0.out.blw HBW.out
          have R1w := R1.out.blw HBW.out
          rw [ea1] at R0w
          rw [ea2] at R1w
          obtain ⟨p0, p1⟩ := get2 R0w
          obtain ⟨q0, q1⟩ := get2 R1w
          have g1 := HBW.out.cell G1.out
          have g2 := HBW.out.cell G2.out
          have hne := neq73 (p k t) (m k t)
          clear R0w R1w
          generalize p k t = pv at *
          generalize m k t = mv at *
          go_wp2_with fail
          go_quiet (fail)
          clear p0 p1 q0 q1 g1 g2 l1 l2 l3 l4 hne
          replace HBW : Hid (Blw w1 (wr.drewN nq)) := HBW.out.drewN nq
          go_wp2
          go_roundw
          case rel => exact ⟨t + 1, by omega, by go_num, HBW.out⟩
          case measure => simp [intOf]; omega
        · obtain rfl : t = lk := by omega
          go_wp2
          go_roundw
          case rel => exact ⟨k + 1, by omega, by go_num, HBW.out⟩
          case measure => simp [intOf]; omega
    · obtain rfl : k = kn := by omega
      have FIN : Hid (Blw w wr) := HW.out.trans HBW.out
      clear HBW HA HB R0 R1
      go_wp2
      go_ret
      exact ⟨rfl, FIN.out⟩
end Go.Proofs.Ytcfdagmcnaepgaa
/- Tables that are alike but for a place. -/
namespace Go.Proofs.Ytcfdagmcnaepgaa
open Go.RowKit
set_option linter.unusedSimpArgs false
set_option linter.unusedVariables false
set_option maxRecDepth 10000 in
set_option maxHeartbeats 3200000 in
theorem sameElse_any (b b' : BV) (B B' : BD) (nt : Int) (w : World) (h1 : BookAt (fun x => x < w.heap.size) w b B) (h2 : BookAt (fun x => x < w.heap.size) w b' B') (hL : Like B B' nt) :
    Calls Try.prog 16 #[b.val B, b'.val B', .int .i64 nt] w fun e w' => e = .returned (.bool true) ∧ Blw w w' := by
  have hb0 : Blw w ((w.alloc (.cells #[.slice b.a1 B.n b.c1, .slice b.a2 B.D.n b.c2] 26)).alloc (.cells #[.slice b'.a1 B'.n b'.c1, .slice b'.a2 B'.D.n b'.c2] 26)) := ((Blw.refl _).alloc _).alloc _
  have HA : Hid (BX ((w.alloc (.cells #[.slice b.a1 B.n b.c1, .slice b.a2 B.D.n b.c2] 26)).alloc (.cells #[.slice b'.a1 B'.n b'.c1, .slice b'.a2 B'.D.n b'.c2] 26)) w.heap.size b B) := ⟨(h1.blw hb0).mono (fun x hx => Nat.lt_of_lt_of_le hx hb0.size), (box2 w _ _ 26).blw ((Blw.refl _).alloc _)⟩
  have r1 := box2 (w.alloc (.cells #[.slice b.a1 B.n b.c1, .slice b.a2 B.D.n b.c2] 26)) (.slice b'.a1 B'.n b'.c1) (.slice b'.a2 B'.D.n b'.c2) 26
  rw [World.size_alloc] at r1
  have HA2 : Hid (BX ((w.alloc (.cells #[.slice b.a1 B.n b.c1, .slice b.a2 B.D.n b.c2] 26)).alloc (.cells #[.slice b'.a1 B'.n b'.c1, .slice b'.a2 B'.D.n b'.c2] 26)) (w.heap.size + 1) b' B') := ⟨(h2.blw hb0).mono (fun x hx => Nat.lt_of_lt_of_le hx hb0.size), r1⟩
  have HB : Hid (Blw w ((w.alloc (.cells #[.slice b.a1 B.n b.c1, .slice b.a2 B.D.n b.c2] 26)).alloc (.cells #[.slice b'.a1 B'.n b'.c1, .slice b'.a2 B'.D.n b'.c2] 26))) := hb0
  have HL : Hid (Like B B' nt) := hL
  clear h1 h2 r1 hb0 hL
  go_enter Try.func16, Try.ntmps16
  go_wp2_with fail
  generalize ((w.alloc (.cells #[.slice b.a1 B.n b.c1, .slice b.a2 B.D.n b.c2] 26)).alloc (.cells #[.slice b'.a1 B'.n b'.c1, .slice b'.a2 B'.D.n b'.c2] 26)) = w0 at *
  go_loopw [7] (fun i wr => ∃ k : Nat, k ≤ 16 ∧ i = .int .i64 k ∧ Blw w0 wr) (fun i _ => 16 - (intOf i).toNat)
  case atStart => exact ⟨0, by omega, rfl, Blw.refl _⟩
  case round =>
    obtain ⟨k, hk, rfl, hb⟩ := hrel
    have HBW : Hid (Blw w0 wr) := hb
    clear hb
    by_cases hlt : k < 16
    · have hlt' : (k : Int) < 16 := by omega
      obtain ⟨p0, p1⟩ := get2 (HA.out.blw HBW.out).box
      go_wp2_with fail
      clear p0 p1
      refine (implWalk_any b B (k : Int) 1 _ _ (HA.out.blw HBW.out).at_ (fun x hx => hx)).mono ?_
      rintro e w2 ⟨x, y, r, rfl, ho, hb2⟩
      have HO : Hid (wtOut B (k : Int) 1 x y r) := ho
      replace HBW : Hid (Blw w0 w2) := HBW.out.trans hb2
      clear ho hb2
      obtain ⟨p0, p1⟩ := get2 (HA2.out.blw HBW.out).box
      go_wp2_with fail
      clear p0 p1
      refine (implWalk_any b' B' (k : Int) 1 _ _ (HA2.out.blw HBW.out).at_ (fun x hx => hx)).mono ?_
      rintro e w3 ⟨x', y', r', rfl, ho, hb2⟩
      have HO2 : Hid (wtOut B' (k : Int) 1 x' y' r') := ho
      replace HBW : Hid (Blw w0 w3) := HBW.out.trans hb2
      clear ho hb2
      by_cases hn : (k : Int) = nt
      · have dn : ((k : Int) != nt) = false := by simp [hn]
        clear HO HO2 hn
        go_wp2
        go_roundw
        case rel => exact ⟨k + 1, by omega, by go_num, HBW.out⟩
        case measure => simp [intOf]; omega
      · have dn : ((k : Int) != nt) = true := by simp [hn]
        obtain ⟨e1, e2, e3⟩ := HL.out.walk hlt hn HO.out HO2.out
        subst e1 e2 e3
        have d1 : (r != r) = false := by simp
        have d2 : (x != x) = false := by simp
        have d3 : (y != y) = false := by simp
        clear HO HO2 hn
        go_wp2
        go_roundw
        case rel => exact ⟨k + 1, by omega, by go_num, HBW.out⟩
        case measure => simp [intOf]; omega
    · obtain rfl : k = 16 := by omega
      have FIN : Hid (Blw w wr) := HB.out.trans HBW.out
      clear HBW HA HA2 HB HL
      go_wp2
      go_ret
      exact ⟨rfl, FIN.out⟩
end Go.Proofs.Ytcfdagmcnaepgaa
/- What MapPage, UnmapPage and ProtectPage leave. -/
namespace Go.Proofs.Ytcfdagmcnaepgaa
open Go.RowKit
set_option linter.unusedSimpArgs false
set_option linter.unusedVariables false
theorem pg_nat {a : Int} (h : pgOK a) : ∃ x : Nat, a = x ∧ x < 16 := ⟨a.toNat, by unfold pgOK at h; omega, by unfold pgOK at h; omega⟩
theorem new_ok {g y : Int} (hg : pgOK g) (hy : mayOK y) : leafOK g y := by unfold pgOK at hg; unfold mayOK at hy; unfold leafOK; omega
theorem zero_ok : leafOK 0 0 := by unfold leafOK; omega
theorem keep_ok {p m y : Int} (h : leafOK p m) (hm : ¬ m = 0) (hy : mayOK y) : leafOK p y := by unfold leafOK at *; unfold mayOK at hy; omega
theorem has_self {k : Int} (h : mayOK k) : hasMay k k := by
  unfold mayOK at h
  have : k = 1 ∨ k = 2 ∨ k = 3 := by omega
  rcases this with rfl | rfl | rfl <;> (unfold hasMay; decide)
theorem wt_at {R : BD} (g : R.Good) {x : Nat} (hx : x < 16) {k p v : Int} {one : Bool} (hk : mayOK k) (h : wtOut R (x : Int) k p v one) : v = lfP R.c R.D.m x ∧ ((hasMay v k ∧ one = true ∧ p = lfP R.c R.D.p x) ∨ (¬ hasMay v k ∧ one = false)) := by
  rcases h with ⟨n, -⟩ | ⟨-, h1, h2⟩
  · exact absurd ⟨g, by unfold pgOK; omega, hk⟩ n
  · rw [Int.toNat_natCast] at h1 h2
    rcases h2 with ⟨a, b, c⟩ | ⟨a, b, c⟩
    · exact ⟨h1, Or.inl ⟨by rw [h1]; exact a, c, b⟩⟩
    · exact ⟨h1, Or.inr ⟨by rw [h1]; exact a, c⟩⟩
theorem goes_top {R : BD} (g : R.Good) {x : Nat} (hx : x < 16) (h : ¬ lfP R.c R.D.m x = 0) : ∃ q : Nat, R.c (x / 4) = q ∧ goes R.c R.D.n (x / 4) q := by
  obtain ⟨q, hq, _⟩ := lf_top (kn := R.D.n) h (g.top (x / 4) (by rw [g.n]; omega))
  exact ⟨q, hq, Or.inl hq⟩
theorem mapped_fact {B R U : BD} {a g y : Int} {r : Bool} (h : chOut B a (fun _ oy => oy = 0 ∧ pgOK g ∧ mayOK y) (fun _ => g) y R true) (h2 : chOut R a (fun _ oy => ¬ oy = 0) (fun _ => 0) 0 U r) :
    R.Good ∧ Like B R a ∧ r = true ∧ Like B U (-1) ∧ ∀ (k : Nat) (p v : Int) (one : Bool), 1 ≤ k → k ≤ 3 → wtOut R a (k : Int) p v one → v = y ∧ ((hasMay y k ∧ one = true ∧ p = g) ∨ (¬ hasMay y k ∧ one = false)) := by
  rcases h with ⟨ok, ⟨q, hq, rfl⟩, -⟩ | ⟨-, -, e⟩
  case inr => cases e
  obtain ⟨hB, ha, ⟨h0, hg, hy⟩, -⟩ := ok
  obtain ⟨x, rfl, hx⟩ := pg_nat ha
  rw [Int.toNat_natCast] at *
  have hl := new_ok hg hy
  have hL := like_ch (gp := g) (y := y) hB hx hq hl
  have hR := ch_good hB hx hq hl
  have hlf := ch_leaf (gp := g) (y := y) hB hx hx hq
  rw [if_pos rfl, if_pos rfl] at hlf
  have hne : ¬ lfP (chB B x q g y).c (chB B x q g y).D.m x = 0 := by rw [hlf.2]; unfold mayOK at hy; omega
  refine ⟨hR, hL, ?_, ?_, fun k p v one k1 k3 hw => ?_⟩
  · rcases h2 with ⟨_, _, e⟩ | ⟨n, _, _⟩
    · exact e
    · obtain ⟨q', -, hq'⟩ := goes_top hR hx hne
      exact absurd ⟨hR, ha, by rw [Int.toNat_natCast]; exact hne, q', by rw [Int.toNat_natCast]; exact hq'⟩ n
  · rcases h2 with ⟨_, ⟨q', hq', rfl⟩, _⟩ | ⟨n, _, _⟩
    · rw [Int.toNat_natCast] at *
      refine ⟨hB, ch_good hR hx hq' zero_ok, fun b hb _ => ?_⟩
      obtain ⟨u1, u2⟩ := ch_leaf (gp := 0) (y := 0) hR hx hb hq'
      by_cases e : b = x
      · subst e
        rw [if_pos rfl] at u1 u2
        rw [u1, u2]
        have hok := lf_ok hB hb
        have h0' : lfP B.c B.D.m b = 0 := h0
        unfold leafOK at hok
        omega
      · rw [if_neg e] at u1 u2
        rw [u1, u2]
        exact hL.2.2 b hb (fun e2 => e (by omega))
    · obtain ⟨q', -, hq'⟩ := goes_top hR hx hne
      exact absurd ⟨hR, ha, by rw [Int.toNat_natCast]; exact hne, q', by rw [Int.toNat_natCast]; exact hq'⟩ n
  · obtain ⟨e1, e2⟩ := wt_at hR hx (by unfold mayOK; omega) hw
    rw [hlf.2] at e1
    rw [hlf.1] at e2
    subst e1
    exact ⟨rfl, e2⟩
theorem prot_fact {B R : BD} {a y p v : Int} {five : Bool} (h : chOut B a (fun _ oy => ¬ oy = 0 ∧ mayOK y) (fun o => o) y R true) (hw : wtOut R a y p v five) : five = true ∧ v = y ∧ Like B R a := by
  rcases h with ⟨ok, ⟨q, hq, rfl⟩, -⟩ | ⟨-, -, e⟩
  case inr => cases e
  obtain ⟨hB, ha, ⟨h0, hy⟩, -⟩ := ok
  obtain ⟨x, rfl, hx⟩ := pg_nat ha
  rw [Int.toNat_natCast] at *
  have hl := keep_ok (lf_ok hB hx) h0 hy
  have hR := ch_good hB hx hq hl
  have hlf := ch_leaf (gp := lfP B.c B.D.p x) (y := y) hB hx hx hq
  rw [if_pos rfl, if_pos rfl] at hlf
  obtain ⟨e1, e2⟩ := wt_at hR hx hy hw
  rw [hlf.2] at e1
  subst e1
  rcases e2 with ⟨_, e, _⟩ | ⟨n, _⟩
  · exact ⟨e, rfl, like_ch hB hx hq hl⟩
  · exact absurd (has_self hy) n
theorem unmap_fact {B U : BD} {a : Int} {n n' : Nat} {f f' : Nat → Int} {r r' : Bool} (h : chOut B a (fun _ oy => ¬ oy = 0) (fun _ => 0) 0 U true) (h1 : miOut B n f r) (h2 : miOut U n' f' r') :
    U.Good ∧ Like B U a ∧ r = true ∧ r' = true ∧ hasLine n f a ∧ ¬ hasLine n' f' a ∧ n' + 1 = n := by
  rcases h with ⟨ok, ⟨q, hq, rfl⟩, -⟩ | ⟨-, -, e⟩
  case inr => cases e
  obtain ⟨hB, ha, h0, -⟩ := ok
  obtain ⟨x, rfl, hx⟩ := pg_nat ha
  rw [Int.toNat_natCast] at *
  have hU := ch_good hB hx hq zero_ok
  rcases h1 with ⟨-, rfl, rfl, rfl⟩ | ⟨n, _⟩
  case inr => exact absurd hB n
  rcases h2 with ⟨-, rfl, rfl, rfl⟩ | ⟨n, _⟩
  case inr => exact absurd hU n
  have hok := lf_ok hB hx
  have hP : mpP B.c B.D.m x = true := by unfold mpP; simp; unfold leafOK at hok; have h0' : ¬ lfP B.c B.D.m x = 0 := h0; omega
  have hlf := ch_leaf (gp := 0) (y := 0) hB hx hx hq
  rw [if_pos rfl, if_pos rfl] at hlf
  have hP' : mpP (chB B x q 0 0).c (chB B x q 0 0).D.m x = false := by unfold mpP; rw [hlf.2]; decide
  have hne : ∀ b, b < 16 → b ≠ x → mpP B.c B.D.m b = mpP (chB B x q 0 0).c (chB B x q 0 0).D.m b := fun b hb e => by
    have := (ch_leaf (gp := 0) (y := 0) hB hx hb hq).2
    rw [if_neg e] at this
    unfold mpP; rw [this]
  refine ⟨hU, like_ch hB hx hq zero_ok, rfl, rfl, (has_pk hx).2 hP, fun e => ?_, ?_⟩
  · have := (has_pk hx).1 e; rw [hP'] at this; cases this
  · have e16 : pk (fun b => if b < 16 then mpP B.c B.D.m b else false) 16 = pk (mpP B.c B.D.m) 16 := by
      unfold pk
      exact List.filter_congr (fun b hb => by rw [if_pos (List.mem_range.1 hb)])
    have e16' : pk (fun b => if b < 16 then mpP (chB B x q 0 0).c (chB B x q 0 0).D.m b else false) 16 = pk (mpP (chB B x q 0 0).c (chB B x q 0 0).D.m) 16 := by
      unfold pk
      exact List.filter_congr (fun b hb => by rw [if_pos (List.mem_range.1 hb)])
    have := (pk_one (P := fun b => if b < 16 then mpP B.c B.D.m b else false) (P' := fun b => if b < 16 then mpP (chB B x q 0 0).c (chB B x q 0 0).D.m b else false) (x := x) (by simp only [if_pos hx]; exact hP) (by simp only [if_pos hx]; exact hP') (fun b e => by
      by_cases hb : b < 16
      · simp only [if_pos hb]; exact hne b hb e
      · simp only [if_neg hb]) 16).1 hx
    rw [e16, e16'] at this
    exact this.symm
theorem used_fact {B : BD} {n : Int} {r : Bool} {k : Nat} {f : Nat → Int} {s : Bool} (h : usOut B n r) (hr : r = true) (h2 : miOut B k f s) : s = true ∧ (k : Int) ≤ n * 4 ∧ 0 ≤ n ∧ n ≤ 4 := by
  rcases h with ⟨g, rfl, -⟩ | ⟨-, -, e⟩
  case inr => rw [e] at hr; cases hr
  rcases h2 with ⟨-, rfl, -, rfl⟩ | ⟨n, _⟩
  · have := mapped_le B.c B.D.m 4
    have h4 := cu_le B.c 4
    refine ⟨rfl, ?_, by omega, by omega⟩
    have : (pk (mpP B.c B.D.m) 16).length ≤ 4 * cu B.c 4 := this
    omega
  · exact absurd g n
end Go.Proofs.Ytcfdagmcnaepgaa
