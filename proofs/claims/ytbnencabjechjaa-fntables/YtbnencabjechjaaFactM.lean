/- What MapPage, UnmapPage and ProtectPage leave. -/
import Derived.Test.YtbnencabjechjaaFactL
namespace Go.Proofs.Ytbnencabjechjaa
open Go.RowKit
set_option linter.unusedSimpArgs false
set_option linter.unusedVariables false
theorem pg_nat {a : Int} (h : pgOK a) : ∃ x : Nat, a = x ∧ x < 16 := ⟨a.toNat, by unfold pgOK at h; omega, by unfold pgOK at h; omega⟩
theorem new_ok {g y : Int} (hg : pgOK g) (hy : mayOK y) : leafOK g y := by unfold pgOK at hg; unfold mayOK at hy; unfold leafOK; omega
theorem zero_ok : leafOK 0 0 := by unfold leafOK; omega
theorem keep_ok {p m y : Int} (h : leafOK p m) (hm : ¬ m = 0) (hy : mayOK y) : leafOK p y := by unfold leafOK at *; unfold mayOK at hy; omega
theorem has_self {k : Int} (h : mayOK k) : hasMay k k := by
  unfold mayOK at h
  have : k = 1 ∨ k = 2 ∨ k = 3 := by omega
  rcases this with rfl | rfl | rfl <;> (unfold hasMay; decide)
theorem wt_at {R : BD} (g : R.Good) {x : Nat} (hx : x < 16) {k p v : Int} {one : Bool} (hk : mayOK k) (h : wtOut R (x : Int) k p v one) : v = lfP R.c R.D.m x ∧ ((hasMay v k ∧ one = true ∧ p = lfP R.c R.D.p x) ∨ (¬ hasMay v k ∧ one = false)) := by
  rcases h with ⟨n, -⟩ | ⟨-, h1, h2⟩
  · exact absurd ⟨g, by unfold pgOK; omega, hk⟩ n
  · rw [Int.toNat_natCast] at h1 h2
    rcases h2 with ⟨a, b, c⟩ | ⟨a, b, c⟩
    · exact ⟨h1, Or.inl ⟨by rw [h1]; exact a, c, b⟩⟩
    · exact ⟨h1, Or.inr ⟨by rw [h1]; exact a, c⟩⟩
theorem goes_top {R : BD} (g : R.Good) {x : Nat} (hx : x < 16) (h : ¬ lfP R.c R.D.m x = 0) : ∃ q : Nat, R.c (x / 4) = q ∧ goes R.c R.D.n (x / 4) q := by
  obtain ⟨q, hq, _⟩ := lf_top (kn := R.D.n) h (g.top (x / 4) (by rw [g.n]; omega))
  exact ⟨q, hq, Or.inl hq⟩
theorem mapped_fact {B R U : BD} {a g y : Int} {r : Bool} (h : chOut B a (fun _ oy => oy = 0 ∧ pgOK g ∧ mayOK y) (fun _ => g) y R true) (h2 : chOut R a (fun _ oy => ¬ oy = 0) (fun _ => 0) 0 U r) :
    R.Good ∧ Like B R a ∧ r = true ∧ Like B U (-1) ∧ ∀ (k : Nat) (p v : Int) (one : Bool), 1 ≤ k → k ≤ 3 → wtOut R a (k : Int) p v one → v = y ∧ ((hasMay y k ∧ one = true ∧ p = g) ∨ (¬ hasMay y k ∧ one = false)) := by
  rcases h with ⟨ok, ⟨q, hq, rfl⟩, -⟩ | ⟨-, -, e⟩
  case inr => cases e
  obtain ⟨hB, ha, ⟨h0, hg, hy⟩, -⟩ := ok
  obtain ⟨x, rfl, hx⟩ := pg_nat ha
  rw [Int.toNat_natCast] at *
  have hl := new_ok hg hy
  have hL := like_ch (gp := g) (y := y) hB hx hq hl
  have hR := ch_good hB hx hq hl
  have hlf := ch_leaf (gp := g) (y := y) hB hx hx hq
  rw [if_pos rfl, if_pos rfl] at hlf
  have hne : ¬ lfP (chB B x q g y).c (chB B x q g y).D.m x = 0 := by rw [hlf.2]; unfold mayOK at hy; omega
  refine ⟨hR, hL, ?_, ?_, fun k p v one k1 k3 hw => ?_⟩
  · rcases h2 with ⟨_, _, e⟩ | ⟨n, _, _⟩
    · exact e
    · obtain ⟨q', -, hq'⟩ := goes_top hR hx hne
      exact absurd ⟨hR, ha, by rw [Int.toNat_natCast]; exact hne, q', by rw [Int.toNat_natCast]; exact hq'⟩ n
  · rcases h2 with ⟨_, ⟨q', hq', rfl⟩, _⟩ | ⟨n, _, _⟩
    · rw [Int.toNat_natCast] at *
      refine ⟨hB, ch_good hR hx hq' zero_ok, fun b hb _ => ?_⟩
      obtain ⟨u1, u2⟩ := ch_leaf (gp := 0) (y := 0) hR hx hb hq'
      by_cases e : b = x
      · subst e
        rw [if_pos rfl] at u1 u2
        rw [u1, u2]
        have hok := lf_ok hB hb
        have h0' : lfP B.c B.D.m b = 0 := h0
        unfold leafOK at hok
        omega
      · rw [if_neg e] at u1 u2
        rw [u1, u2]
        exact hL.2.2 b hb (fun e2 => e (by omega))
    · obtain ⟨q', -, hq'⟩ := goes_top hR hx hne
      exact absurd ⟨hR, ha, by rw [Int.toNat_natCast]; exact hne, q', by rw [Int.toNat_natCast]; exact hq'⟩ n
  · obtain ⟨e1, e2⟩ := wt_at hR hx (by unfold mayOK; omega) hw
    rw [hlf.2] at e1
    rw [hlf.1] at e2
    subst e1
    exact ⟨rfl, e2⟩
theorem prot_fact {B R : BD} {a y p v : Int} {five : Bool} (h : chOut B a (fun _ oy => ¬ oy = 0 ∧ mayOK y) (fun o => o) y R true) (hw : wtOut R a y p v five) : five = true ∧ v = y ∧ Like B R a := by
  rcases h with ⟨ok, ⟨q, hq, rfl⟩, -⟩ | ⟨-, -, e⟩
  case inr => cases e
  obtain ⟨hB, ha, ⟨h0, hy⟩, -⟩ := ok
  obtain ⟨x, rfl, hx⟩ := pg_nat ha
  rw [Int.toNat_natCast] at *
  have hl := keep_ok (lf_ok hB hx) h0 hy
  have hR := ch_good hB hx hq hl
  have hlf := ch_leaf (gp := lfP B.c B.D.p x) (y := y) hB hx hx hq
  rw [if_pos rfl, if_pos rfl] at hlf
  obtain ⟨e1, e2⟩ := wt_at hR hx hy hw
  rw [hlf.2] at e1
  subst e1
  rcases e2 with ⟨_, e, _⟩ | ⟨n, _⟩
  · exact ⟨e, rfl, like_ch hB hx hq hl⟩
  · exact absurd (has_self hy) n
theorem unmap_fact {B U : BD} {a : Int} {n n' : Nat} {f f' : Nat → Int} {r r' : Bool} (h : chOut B a (fun _ oy => ¬ oy = 0) (fun _ => 0) 0 U true) (h1 : miOut B n f r) (h2 : miOut U n' f' r') :
    U.Good ∧ Like B U a ∧ r = true ∧ r' = true ∧ hasLine n f a ∧ ¬ hasLine n' f' a ∧ n' + 1 = n := by
  rcases h with ⟨ok, ⟨q, hq, rfl⟩, -⟩ | ⟨-, -, e⟩
  case inr => cases e
  obtain ⟨hB, ha, h0, -⟩ := ok
  obtain ⟨x, rfl, hx⟩ := pg_nat ha
  rw [Int.toNat_natCast] at *
  have hU := ch_good hB hx hq zero_ok
  rcases h1 with ⟨-, rfl, rfl, rfl⟩ | ⟨n, _⟩
  case inr => exact absurd hB n
  rcases h2 with ⟨-, rfl, rfl, rfl⟩ | ⟨n, _⟩
  case inr => exact absurd hU n
  have hok := lf_ok hB hx
  have hP : mpP B.c B.D.m x = true := by unfold mpP; simp; unfold leafOK at hok; have h0' : ¬ lfP B.c B.D.m x = 0 := h0; omega
  have hlf := ch_leaf (gp := 0) (y := 0) hB hx hx hq
  rw [if_pos rfl, if_pos rfl] at hlf
  have hP' : mpP (chB B x q 0 0).c (chB B x q 0 0).D.m x = false := by unfold mpP; rw [hlf.2]; decide
  have hne : ∀ b, b < 16 → b ≠ x → mpP B.c B.D.m b = mpP (chB B x q 0 0).c (chB B x q 0 0).D.m b := fun b hb e => by
    have := (ch_leaf (gp := 0) (y := 0) hB hx hb hq).2
    rw [if_neg e] at this
    unfold mpP; rw [this]
  refine ⟨hU, like_ch hB hx hq zero_ok, rfl, rfl, (has_pk hx).2 hP, fun e => ?_, ?_⟩
  · have := (has_pk hx).1 e; rw [hP'] at this; cases this
  · have e16 : pk (fun b => if b < 16 then mpP B.c B.D.m b else false) 16 = pk (mpP B.c B.D.m) 16 := by
      unfold pk
      exact List.filter_congr (fun b hb => by rw [if_pos (List.mem_range.1 hb)])
    have e16' : pk (fun b => if b < 16 then mpP (chB B x q 0 0).c (chB B x q 0 0).D.m b else false) 16 = pk (mpP (chB B x q 0 0).c (chB B x q 0 0).D.m) 16 := by
      unfold pk
      exact List.filter_congr (fun b hb => by rw [if_pos (List.mem_range.1 hb)])
    have := (pk_one (P := fun b => if b < 16 then mpP B.c B.D.m b else false) (P' := fun b => if b < 16 then mpP (chB B x q 0 0).c (chB B x q 0 0).D.m b else false) (x := x) (by simp only [if_pos hx]; exact hP) (by simp only [if_pos hx]; exact hP') (fun b e => by
      by_cases hb : b < 16
      · simp only [if_pos hb]; exact hne b hb e
      · simp only [if_neg hb]) 16).1 hx
    rw [e16, e16'] at this
    exact this.symm
theorem used_fact {B : BD} {n : Int} {r : Bool} {k : Nat} {f : Nat → Int} {s : Bool} (h : usOut B n r) (hr : r = true) (h2 : miOut B k f s) : s = true ∧ (k : Int) ≤ n * 4 ∧ 0 ≤ n ∧ n ≤ 4 := by
  rcases h with ⟨g, rfl, -⟩ | ⟨-, -, e⟩
  case inr => rw [e] at hr; cases hr
  rcases h2 with ⟨-, rfl, -, rfl⟩ | ⟨n, _⟩
  · have := mapped_le B.c B.D.m 4
    have h4 := cu_le B.c 4
    refine ⟨rfl, ?_, by omega, by omega⟩
    have : (pk (mpP B.c B.D.m) 16).length ≤ 4 * cu B.c 4 := this
    omega
  · exact absurd g n
end Go.Proofs.Ytbnencabjechjaa
