/- The smallest block that is great enough. -/
import Derived.Test.YtfmmpddknanhbaaFb
namespace Go.Proofs.Ytfmmpddknanhbaa
open Go.RowKit
set_option linter.unusedSimpArgs false
set_option linter.unusedVariables false
/-- What smallestOf answers. -/
def smOut (L : Nat → List Nat) (k0 : Nat) (e : Ending) : Prop :=
  (∃ (k : Nat) (x : Nat) (t : List Nat), k0 ≤ k ∧ k ≤ 4 ∧ L k = x :: t ∧ (∀ k', k0 ≤ k' → k' < k → L k' = []) ∧ e = .returned (.tuple #[.int .i64 x, .bool true])) ∨ ((∀ k', k0 ≤ k' → k' ≤ 4 → L k' = []) ∧ e = .returned (.tuple #[.int .i64 0, .bool false]))
theorem Bl.first {w wr : World} {zf : Nat} {v : Nat → Value} {L : Nat → List Nat} (h : Bl w wr zf v L) {k : Nat} (hk : k < 5) {x : Nat} {t : List Nat} (e : L k = x :: t) : ∃ g cap, v k = .slice (some ⟨g, 0, none⟩) (t.length + 1) cap ∧ wr.cell? ⟨g, 0, none⟩ = some (.int .i64 x) := by
  obtain ⟨ao, cap, ev, hr⟩ := Buf.form (h.buf k hk)
  rw [e] at ev hr
  obtain ⟨g, -, ea, r⟩ := hr (by simp)
  subst ea
  refine ⟨g, cap, ev, ?_⟩
  have := r.cell (i := 0) (by simp)
  simpa [ic, lf] using this
theorem Bl.none {w wr : World} {zf : Nat} {v : Nat → Value} {L : Nat → List Nat} (h : Bl w wr zf v L) {k : Nat} (hk : k < 5) (e : L k = []) : ∃ ao cap, v k = .slice ao 0 cap := by
  obtain ⟨ao, cap, ev⟩ := h.form hk
  rw [e] at ev
  exact ⟨ao, cap, ev⟩
set_option maxRecDepth 100000 in
set_option maxHeartbeats 6400000 in
theorem smallest_any (zf k0 : Nat) (v : Nat → Value) (L : Nat → List Nat) (w0 w : World) (hk0 : k0 ≤ 4) (h : Bl w0 w zf v L) :
    Calls Try.prog 58 #[.slice (some ⟨zf, 0, none⟩) 5 5, .int .i64 k0] w fun e w' => smOut L k0 e ∧ w' = w := by
  have H : Hid (Bl w0 w zf v L) := h
  clear h
  go_enter Try.func58, Try.ntmps58
  go_wp2_with fail
  refine wp_scope_jumps 0 (fun a' w' => w' = w ∧ ∃ (k : Nat) (u6 u7 u8 u9 u10 u11 u12 u13 u14 u15 u16 u17 u18 u19 u20 u21 : Value), a' = { tmps := #[.slice (some ⟨zf, 0, none⟩) 5 5, .int .i64 (k : Nat), undef, undef, .int .i64 0, .bool false, u6, u7, u8, u9, u10, u11, u12, u13, u14, u15, u16, u17, u18, u19, u20, u21], defers := [] } ∧ k0 ≤ k ∧ k ≤ 4 ∧ ∀ k', k0 ≤ k' → k' < k → L k' = []) (fun a' _ => 4 - (intOf (a'.tmps.getD 1 undef)).toNat) rfl ?_ ?_
  · have HK : Hid (∀ k', k0 ≤ k' → k' < k0 → L k' = []) := fun k' h1 h2 => by omega
    go_wp2_with fail
    go_step3
    have hk5 : k0 < 5 := by omega
    have hk5' : (k0 : Int) < 5 := by omega
    have hc := H.out.row.cell hk5
    cases hL : L k0 with
    | nil =>
      obtain ⟨ao, cap, ev⟩ := H.out.none hk5 hL
      rw [ev] at hc
      have NX : Hid (∀ k', k0 ≤ k' → k' < k0 + 1 → L k' = []) := fun k' h1 h2 => by
        by_cases e : k' = k0
        · subst e; exact hL
        · exact HK.out k' h1 (by omega)
      clear hL ev
      by_cases h4 : k0 = 4
      · have d4 : ((k0 : Int) == 4) = true := by rw [h4]; rfl
        have FIN : Hid (∀ k', k0 ≤ k' → k' ≤ 4 → L k' = []) := fun k' h1 h2 => NX.out k' h1 (by omega)
        clear h4
        go_wp2_with fail
        simp only [Exit.jump]
        exact bodyPost_ret (v := .tuple #[.int .i64 0, .bool false]) (by simp [results, Try.results58, go_sem]) rfl ⟨Or.inr ⟨FIN.out, rfl⟩, rfl⟩
      have d4 : ((k0 : Int) == 4) = false := by rw [beq_eq_false_iff_ne]; omega
      have e1 : IntKind.i64.wrap ((k0 : Int) + 1) = ((k0 + 1 : Nat) : Int) := by rw [IntKind.wrap_i64] <;> omega
      go_wp2_with fail
      go_step3
      exact ⟨rfl, rfl, k0 + 1, _, _, _, _, _, _, _, _, _, _, _, _, _, _, _, _, by first | rfl | (congr), by omega, by omega, NX.out⟩
    | cons x t =>
      obtain ⟨g, cap, ev, gx⟩ := H.out.first hk5 hL
      rw [ev] at hc
      have ht : (0 : Int) < ((t.length + 1 : Nat) : Int) := by omega
      have FIN : Hid (smOut L k0 (.returned (.tuple #[.int .i64 x, .bool true]))) := Or.inl ⟨k0, x, t, by omega, by omega, hL, HK.out, rfl⟩
      clear hL ev
      generalize t.length + 1 = n at *
      have d5 : decide ((n : Int) > 0) = true := by simpa using ht
      go_wp2_with fail
      simp only [Exit.jump]
      exact bodyPost_ret (v := .tuple #[.int .i64 x, .bool true]) (by simp [results, Try.results58, go_sem]) rfl ⟨FIN.out, rfl⟩
  · rintro a' w' ⟨rfl, k, u6, u7, u8, u9, u10, u11, u12, u13, u14, u15, u16, u17, u18, u19, u20, u21, rfl, hk1, hk4, hk⟩
    have HK : Hid (∀ k', k0 ≤ k' → k' < k → L k' = []) := hk
    clear hk
    have hk5 : k < 5 := by omega
    have hk5' : (k : Int) < 5 := by omega
    have hc := H.out.row.cell hk5
    cases hL : L k with
    | nil =>
      obtain ⟨ao, cap, ev⟩ := H.out.none hk5 hL
      rw [ev] at hc
      have NX : Hid (∀ k', k0 ≤ k' → k' < k + 1 → L k' = []) := fun k' h1 h2 => by
        by_cases e : k' = k
        · subst e; exact hL
        · exact HK.out k' h1 (by omega)
      clear hL ev
      by_cases h4 : k = 4
      · have d4 : ((k : Int) == 4) = true := by rw [h4]; rfl
        have FIN : Hid (∀ k', k0 ≤ k' → k' ≤ 4 → L k' = []) := fun k' h1 h2 => NX.out k' h1 (by omega)
        clear h4
        go_wp2_with fail
        simp only [Exit.jump]
        exact bodyPost_ret (v := .tuple #[.int .i64 0, .bool false]) (by simp [results, Try.results58, go_sem]) rfl ⟨Or.inr ⟨FIN.out, rfl⟩, rfl⟩
      have d4 : ((k : Int) == 4) = false := by rw [beq_eq_false_iff_ne]; omega
      have e1 : IntKind.i64.wrap ((k : Int) + 1) = ((k + 1 : Nat) : Int) := by rw [IntKind.wrap_i64] <;> omega
      go_wp2_with fail
      go_step3
      refine ⟨rfl, ⟨rfl, k + 1, _, _, _, _, _, _, _, _, _, _, _, _, _, _, _, _, by first | rfl | (congr), by omega, by omega, NX.out⟩, ?_⟩
      simp [intOf]; try omega
    | cons x t =>
      obtain ⟨g, cap, ev, gx⟩ := H.out.first hk5 hL
      rw [ev] at hc
      have ht : (0 : Int) < ((t.length + 1 : Nat) : Int) := by omega
      have FIN : Hid (smOut L k0 (.returned (.tuple #[.int .i64 x, .bool true]))) := Or.inl ⟨k, x, t, by omega, by omega, hL, HK.out, rfl⟩
      clear hL ev
      generalize t.length + 1 = n at *
      have d5 : decide ((n : Int) > 0) = true := by simpa using ht
      go_wp2_with fail
      simp only [Exit.jump]
      exact bodyPost_ret (v := .tuple #[.int .i64 x, .bool true]) (by simp [results, Try.results58, go_sem]) rfl ⟨FIN.out, rfl⟩
end Go.Proofs.Ytfmmpddknanhbaa
