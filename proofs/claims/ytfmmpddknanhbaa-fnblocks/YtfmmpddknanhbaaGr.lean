/- The greatest block that begins at a page and is nobody's. -/
import Derived.Test.YtfmmpddknanhbaaFree
import Derived.WalkMore
import Derived.ScopeJumps
namespace Go.Proofs.Ytfmmpddknanhbaa
open Go.RowKit
set_option linter.unusedSimpArgs false
set_option linter.unusedVariables false
def fbP (c : Nat → Int) (p n : Nat) : Prop := ∀ i, i < n → c (p + i) = 0
def grOK (c : Nat → Int) (p k : Nat) : Prop := p % 2 ^ k = 0 ∧ fbP c p (2 ^ k)
theorem bsz_nat (k : Nat) : bsz (k : Int) = 2 ^ k := by simp [bsz]
theorem ord_nat {k : Nat} (h : k ≤ 4) : ordOK (k : Int) := ⟨by omega, by omega⟩
theorem all_free {B : BD} (g : B.Good) {p n : Nat} (h : p + n ≤ 16) : allP B.c B.l 0 0 p n ↔ fbP B.c p n := by
  constructor
  · exact fun a i hi => (a i hi).1
  · intro a i hi
    refine ⟨a i hi, ?_⟩
    have := g.ok (p + i) (by omega)
    have h0 := a i hi
    obtain ⟨_, h2, h3⟩ := this
    by_cases e : 0 < B.l (p + i)
    · exact absurd h0 (h3 e).1
    · omega
/-- What greatestFree answers. -/
def grOut (c : Nat → Int) (p : Nat) (e : Ending) : Prop :=
  (∃ k : Nat, k ≤ 4 ∧ grOK c p k ∧ (∀ k', k < k' → k' ≤ 4 → ¬ grOK c p k') ∧ e = .returned (.tuple #[.int .i64 k, .bool true])) ∨ ((∀ k', k' ≤ 4 → ¬ grOK c p k') ∧ e = .returned (.tuple #[.int .i64 0, .bool false]))
set_option maxRecDepth 100000 in
set_option maxHeartbeats 6400000 in
theorem greatest_any (z p : Nat) (B : BD) (w : World) (hp : p < 16) (g : B.Good) (h : Row w z (16 * 2) (uc B.c B.l)) :
    Calls Try.prog 86 #[.slice (some ⟨z, 0, none⟩) 16 16, .int .i64 p] w fun e w' => grOut B.c p e ∧ Blw w w' := by
  have H : Hid (Row w z (16 * 2) (uc B.c B.l)) := h
  have HG : Hid B.Good := g
  clear h g
  go_enter Try.func86, Try.ntmps86
  go_wp2_with fail
  refine wp_scope_jumps 0 (fun a' w' => Blw w w' ∧ ∃ (k : Nat) (u7 u8 u9 u10 u11 u12 u13 u14 u15 u16 u17 u18 u19 u20 u21 u22 : Value), a' = { tmps := #[.slice (some ⟨z, 0, none⟩) 16 16, .int .i64 p, undef, undef, .int .i64 0, .bool false, .int .i64 (k : Nat), u7, u8, u9, u10, u11, u12, u13, u14, u15, u16, u17, u18, u19, u20, u21, u22], defers := [] } ∧ k ≤ 4 ∧ ∀ k', k < k' → k' ≤ 4 → ¬ grOK B.c p k') (fun a' _ => (intOf (a'.tmps.getD 6 undef)).toNat) rfl ?_ ?_
  · have HB : Hid (Blw w w) := Blw.refl _
    have HKO : Hid (ordOK 4) := ⟨by omega, by omega⟩
    have BZ : Hid (bsz 4 = 2 ^ 4) := rfl
    go_wp2_with fail
    go_step3
    go_wp2_with fail
    refine (isBlock_any (p : Int) 4 _).mono ?_
    rintro e w ⟨r, rfl, hr, rfl⟩
    have HT : Hid (r = true ↔ blkOK (p : Int) 4) := hr
    clear hr
    cases r
    · have NB : Hid (¬ grOK B.c p 4) := fun q => by
        have := HT.out.2 ⟨HKO.out, ⟨by omega, by omega⟩, by rw [Int.toNat_natCast, BZ.out]; exact q.1⟩
        simp at this
      clear HT
      have NX : Hid (∀ k', 3 < k' → k' ≤ 4 → ¬ grOK B.c p k') := fun k' h1 h2 => (by have e : k' = 4 := (by omega); subst e; exact NB.out)
      go_wp2_with fail
      go_step3
      exact ⟨rfl, HB.out, 3, _, _, _, _, _, _, _, _, _, _, _, _, _, _, _, _, rfl, by omega, NX.out⟩
    have HMD : Hid (p % bsz 4 = 0) := (HT.out.1 (by first | rfl | trivial)).2.2
    clear HT
    go_wp2_with fail
    refine (blockOf_any z p 4 _ HKO.out hp HMD.out).mono ?_
    rintro e w ⟨rfl, rfl⟩
    have HFT : Hid (p + bsz 4 ≤ 16) := blk_fit HKO.out hp HMD.out
    go_wp2_with fail
    refine (allAre_any z p (bsz 4) (16 - p) B.c B.l 0 0 _ (H.out.blw HB.out) HFT.out).mono ?_
    rintro e w2 ⟨r, rfl, hr, hb2⟩
    have HT : Hid (r = true ↔ fbP B.c p (2 ^ 4)) := hr.trans (by rw [← BZ.out]; exact all_free HG.out HFT.out)
    clear hr
    replace HB : Hid (Blw w w2) := HB.out.trans hb2
    clear hb2
    cases r
    · have NB : Hid (¬ grOK B.c p 4) := fun q => by
        have := HT.out.2 q.2
        simp at this
      clear HT HMD HFT
      have NX : Hid (∀ k', 3 < k' → k' ≤ 4 → ¬ grOK B.c p k') := fun k' h1 h2 => (by have e : k' = 4 := (by omega); subst e; exact NB.out)
      go_wp2_with fail
      go_step3
      exact ⟨rfl, HB.out, 3, _, _, _, _, _, _, _, _, _, _, _, _, _, _, _, _, rfl, by omega, NX.out⟩
    have OK : Hid (grOK B.c p 4) := ⟨by rw [← BZ.out]; exact HMD.out, HT.out.1 (by first | rfl | trivial)⟩
    clear HT HMD HFT
    go_wp2_with fail
    simp only [Exit.jump]
    exact bodyPost_ret (v := .tuple #[.int .i64 4, .bool true]) (by simp [results, Try.results86, go_sem]) rfl ⟨Or.inl ⟨4, by omega, OK.out, fun k' h1 h2 => by omega, rfl⟩, HB.out⟩
  · rintro a' wr ⟨hb, k, u7, u8, u9, u10, u11, u12, u13, u14, u15, u16, u17, u18, u19, u20, u21, u22, rfl, hk4, hk⟩
    have HB : Hid (Blw w wr) := hb
    have HK : Hid (∀ k', k < k' → k' ≤ 4 → ¬ grOK B.c p k') := hk
    have HKO : Hid (ordOK (k : Int)) := ord_nat hk4
    have BZ : Hid (bsz (k : Int) = 2 ^ k) := bsz_nat k
    clear hb hk
    go_wp2_with fail
    refine (isBlock_any (p : Int) (k : Int) _).mono ?_
    rintro e wr ⟨r, rfl, hr, rfl⟩
    have HT : Hid (r = true ↔ blkOK (p : Int) (k : Int)) := hr
    clear hr
    cases r
    · have NB : Hid (¬ grOK B.c p k) := fun q => by
        have := HT.out.2 ⟨HKO.out, ⟨by omega, by omega⟩, by rw [Int.toNat_natCast, BZ.out]; exact q.1⟩
        simp at this
      clear HT
      cases k with
      | zero =>
        have FIN : Hid (∀ k', k' ≤ 4 → ¬ grOK B.c p k') := fun k' h2 => by
          by_cases e0 : k' = 0
          · subst e0; exact NB.out
          · exact HK.out k' (by omega) h2
        have d0 : (((0 : Nat) : Int) == 0) = true := rfl
        go_wp2_with fail
        simp only [Exit.jump]
        exact bodyPost_ret (v := .tuple #[.int .i64 0, .bool false]) (by simp [results, Try.results86, go_sem]) rfl ⟨Or.inr ⟨FIN.out, rfl⟩, HB.out⟩
      | succ m =>
        have NX : Hid (∀ k', m < k' → k' ≤ 4 → ¬ grOK B.c p k') := fun k' h1 h2 => by
          by_cases e0 : k' = m + 1
          · subst e0; exact NB.out
          · exact HK.out k' (by omega) h2
        have d0 : (((m + 1 : Nat) : Int) == 0) = false := by rw [beq_eq_false_iff_ne]; omega
        have e1 : IntKind.i64.wrap (((m + 1 : Nat) : Int) - 1) = (m : Int) := by rw [IntKind.wrap_i64] <;> omega
        go_wp2_with fail
        go_step3
        refine ⟨rfl, ⟨HB.out, m, _, _, _, _, _, _, _, _, _, _, _, _, _, _, _, _, rfl, by omega, NX.out⟩, ?_⟩
        simp [intOf]; try omega
    have HMD : Hid (p % bsz (k : Int) = 0) := (HT.out.1 (by first | rfl | trivial)).2.2
    clear HT
    go_wp2_with fail
    refine (blockOf_any z p (k : Int) _ HKO.out hp HMD.out).mono ?_
    rintro e wr ⟨rfl, rfl⟩
    have HFT : Hid (p + bsz (k : Int) ≤ 16) := blk_fit HKO.out hp HMD.out
    go_wp2_with fail
    refine (allAre_any z p (bsz (k : Int)) (16 - p) B.c B.l 0 0 _ (H.out.blw HB.out) HFT.out).mono ?_
    rintro e w2 ⟨r, rfl, hr, hb2⟩
    have HT : Hid (r = true ↔ fbP B.c p (2 ^ k)) := hr.trans (by rw [← BZ.out]; exact all_free HG.out HFT.out)
    clear hr
    replace HB : Hid (Blw w w2) := HB.out.trans hb2
    clear hb2
    cases r
    · have NB : Hid (¬ grOK B.c p k) := fun q => by
        have := HT.out.2 q.2
        simp at this
      clear HT HMD HFT
      cases k with
      | zero =>
        have FIN : Hid (∀ k', k' ≤ 4 → ¬ grOK B.c p k') := fun k' h2 => by
          by_cases e0 : k' = 0
          · subst e0; exact NB.out
          · exact HK.out k' (by omega) h2
        have d0 : (((0 : Nat) : Int) == 0) = true := rfl
        go_wp2_with fail
        simp only [Exit.jump]
        exact bodyPost_ret (v := .tuple #[.int .i64 0, .bool false]) (by simp [results, Try.results86, go_sem]) rfl ⟨Or.inr ⟨FIN.out, rfl⟩, HB.out⟩
      | succ m =>
        have NX : Hid (∀ k', m < k' → k' ≤ 4 → ¬ grOK B.c p k') := fun k' h1 h2 => by
          by_cases e0 : k' = m + 1
          · subst e0; exact NB.out
          · exact HK.out k' (by omega) h2
        have d0 : (((m + 1 : Nat) : Int) == 0) = false := by rw [beq_eq_false_iff_ne]; omega
        have e1 : IntKind.i64.wrap (((m + 1 : Nat) : Int) - 1) = (m : Int) := by rw [IntKind.wrap_i64] <;> omega
        go_wp2_with fail
        go_step3
        refine ⟨rfl, ⟨HB.out, m, _, _, _, _, _, _, _, _, _, _, _, _, _, _, _, _, rfl, by omega, NX.out⟩, ?_⟩
        simp [intOf]; try omega
    have OK : Hid (grOK B.c p k) := ⟨by rw [← BZ.out]; exact HMD.out, HT.out.1 (by first | rfl | trivial)⟩
    clear HT HMD HFT
    go_wp2_with fail
    simp only [Exit.jump]
    exact bodyPost_ret (v := .tuple #[.int .i64 (k : Int), .bool true]) (by simp [results, Try.results86, go_sem]) rfl ⟨Or.inl ⟨k, hk4, OK.out, HK.out, rfl⟩, HB.out⟩
end Go.Proofs.Ytfmmpddknanhbaa
