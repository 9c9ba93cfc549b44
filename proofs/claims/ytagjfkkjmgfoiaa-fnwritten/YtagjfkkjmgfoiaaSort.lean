/- The library's sort at few numbers: it goes by insertion. -/
import Derived.Test.YtagjfkkjmgfoiaaSpecT
import Derived.CellFam
namespace Go.Proofs.Ytagjfkkjmgfoiaa
open Go.RowKit
set_option linter.unusedSimpArgs false
set_option linter.unusedVariables false
set_option maxHeartbeats 400000 in
theorem isNaN_any (x : Int) (w : World) : Calls Try.prog 101 #[.int .i64 x] w fun e w' => e = .returned (.bool false) ∧ w' = w := by
  have h : (x != x) = false := by simp
  go_enter Try.func101, Try.ntmps101
  go_wp2
  go_ret
  exact ⟨rfl, rfl⟩
set_option maxHeartbeats 400000 in
theorem less_any (x y : Int) (w : World) : Calls Try.prog 91 #[.int .i64 x, .int .i64 y] w fun e w' => e = .returned (.bool (decide (x < y))) ∧ w' = w := by
  go_enter Try.func91, Try.ntmps91
  go_wp2_with (go_at_call 101; refine (isNaN_any _ _).mono ?_; rintro e w' ⟨rfl, rfl⟩)
  go_ret
  exact ⟨rfl, rfl⟩
/-- The same numbers, each once, in another order. -/
structure Mixed (n : Nat) (g0 g : Nat → Int) : Prop where
  m : ∀ x, isIn n g x ↔ isIn n g0 x
  d : distinct n g
def sw (j t : Nat) : Nat := if t = j then j - 1 else if t = j - 1 then j else t
theorem sw_lt {j n t : Nat} (h0 : 0 < j) (hj : j < n) (ht : t < n) : sw j t < n := by
  unfold sw
  split
  · omega
  · split <;> omega
theorem sw_sw {j : Nat} (h0 : 0 < j) (t : Nat) : sw j (sw j t) = t := by
  unfold sw
  by_cases a : t = j
  · subst a
    have : ¬ t - 1 = t := by omega
    simp [this]
  · by_cases b : t = j - 1
    · subst b; simp [a]
    · simp [a, b]
def swp (g : Nat → Int) (j : Nat) : Nat → Int := fun t => g (sw j t)
theorem swp_at (g : Nat → Int) {j : Nat} (hj : 0 < j) (t : Nat) : swp g j t = g (if t = j then j - 1 else if t = j - 1 then j else t) := rfl
theorem Mixed.swap {n : Nat} {g0 g : Nat → Int} (h : Mixed n g0 g) {j : Nat} (h0 : 0 < j) (hj : j < n) : Mixed n g0 (swp g j) := by
  refine ⟨fun x => ?_, fun p q hp hq e => ?_⟩
  · rw [← h.m x]
    constructor
    · rintro ⟨i, hi, e⟩
      exact ⟨sw j i, sw_lt h0 hj hi, e⟩
    · rintro ⟨i, hi, e⟩
      exact ⟨sw j i, sw_lt h0 hj hi, by unfold swp; rw [sw_sw h0]; exact e⟩
  · have := h.d (sw j p) (sw j q) (sw_lt h0 hj hp) (sw_lt h0 hj hq) e
    rw [← sw_sw h0 p, ← sw_sw h0 q, this]
/-- What stands while element i goes down to its place; it is at j. -/
structure Sinking (n : Nat) (g0 g : Nat → Int) (i j : Nat) : Prop where
  x : Mixed n g0 g
  s : ∀ p q, p < q → q ≤ i → q ≠ j → g p ≤ g q
theorem Sinking.swap {n : Nat} {g0 g : Nat → Int} {i j : Nat} (h : Sinking n g0 g i j) (h0 : 0 < j) (hj : j ≤ i) (hi : i < n) (hl : g j < g (j - 1)) : Sinking n g0 (swp g j) i (j - 1) := by
  refine ⟨h.x.swap h0 (by omega), fun p q hpq hq hne => ?_⟩
  rw [swp_at g h0, swp_at g h0]
  have s := h.s
  by_cases a : q = j
  · subst a
    by_cases b : p = q - 1
    · subst b
      have : ¬ q - 1 = q := by omega
      simp [this]; omega
    · have c : ¬ p = q := by omega
      simp [b, c]
      exact s p (q - 1) (by omega) (by omega) (by omega)
  · have b : ¬ q = j - 1 := hne
    simp only [a, b, if_false]
    by_cases c : p = j
    · subst c
      simp
      have := s (p - 1) q (by omega) hq a
      exact this
    · by_cases d : p = j - 1
      · subst d
        have : ¬ j - 1 = j := by omega
        simp [this]
        have h1 := s (j - 1) q (by omega) hq a
        have h2 := s j q (by omega) hq a
        exact h2
      · simp [c, d]
        exact s p q hpq hq a
/-- What the inner loop's end leaves. -/
theorem Sinking.done {n : Nat} {g0 g : Nat → Int} {i j : Nat} (h : Sinking n g0 g i j) (hj : j ≤ i) (hs : j = 0 ∨ ¬ g j < g (j - 1)) : ∀ p q, p < q → q < i + 1 → g p ≤ g q := by
  intro p q hpq hq
  by_cases e : q = j
  · subst e
    rcases hs with h0 | h0
    · omega
    · by_cases e2 : p = q - 1
      · subst e2; omega
      · have := h.s p (q - 1) (by omega) (by omega) (by omega)
        omega
  · exact h.s p q hpq (by omega) e
theorem Row.swap {w : World} {b n : Nat} {g : Nat → Int} (r : Row w b n (ic g)) {j : Nat} (h0 : 0 < j) (hj : j < n) :
    Row ((w.setCell ⟨b, j, none⟩ (.int .i64 (g (j - 1)))).setCell ⟨b, j - 1, none⟩ (.int .i64 (g j))) b n (ic (swp g j)) := by
  refine ((r.set j _).set (j - 1) _).congr (fun t ht => ?_)
  simp only [ic, swp, sw]
  by_cases a : t = j
  · subst a
    have : ¬ t = t - 1 := by omega
    simp [this]
  · by_cases c : t = j - 1
    · subst c; simp [a]
    · simp [a, c]
set_option maxHeartbeats 3200000 in
theorem insertion_any (b n cap : Nat) (g0 : Nat → Int) (w : World) (hn : n ≤ 12) (hd : distinct n g0) (h : Row w b n (ic g0)) :
    Calls Try.prog 85 #[.slice (some ⟨b, 0, none⟩) n cap, .int .i64 0, .int .i64 n] w fun e w' => e = .returned (.tuple #[]) ∧ ∃ g, Mixed n g0 g ∧ (∀ p q, p < q → q < n → g p ≤ g q) ∧ Row w' b n (ic g) ∧ Mod (fun x => x = b) w w' := by
  have HH : Hid (Row w b n (ic g0)) := h
  have HD : Hid (distinct n g0) := hd
  clear h hd
  go_enter Try.func85, Try.ntmps85
  go_wp2
  go_loopw [6] (fun v wr => ∃ (i : Nat) (g : Nat → Int), v = .int .i64 i ∧ 1 ≤ i ∧ i ≤ n + 1 ∧ Mixed n g0 g ∧ (∀ p q, p < q → q < i → q < n → g p ≤ g q) ∧ Row wr b n (ic g) ∧ Mod (fun x => x = b) w wr) (fun v _ => n + 1 - (intOf v).toNat)
  case atStart => exact ⟨1, g0, rfl, Nat.le_refl _, by omega, ⟨fun _ => Iff.rfl, HD.out⟩, fun p q hp hq => by omega, HH.out, Mod.refl _ _⟩
  case round =>
    obtain ⟨i, g, rfl, hi1, hin, hm, hs, hr, hmod⟩ := hrel
    clear HH HD
    by_cases hlt : i < n
    · have hlt' : (i : Int) < n := by omega
      have H1 : Hid (Mixed n g0 g) := hm
      have H2 : Hid (∀ p q, p < q → q < i → q < n → g p ≤ g q) := hs
      have H3 : Hid (Row wr b n (ic g)) := hr
      have H4 : Hid (Mod (fun x => x = b) w wr) := hmod
      clear hm hs hr hmod
      go_wp2
      go_loopw [7] (fun v w2 => ∃ (j : Nat) (g2 : Nat → Int), v = .int .i64 j ∧ j ≤ i ∧ Sinking n g0 g2 i j ∧ Row w2 b n (ic g2) ∧ Mod (fun x => x = b) w w2) (fun v _ => (intOf v).toNat)
      case atStart => exact ⟨i, g, rfl, Nat.le_refl _, ⟨H1.out, fun p q hpq hq hne => H2.out p q hpq (by omega) (by omega)⟩, H3.out, H4.out⟩
      case round =>
        obtain ⟨j, g2, rfl, hji, hsk, hr2, hm2⟩ := hrel
        clear H1 H2 H3 H4
        have hjn : (j : Int) < n := by omega
        have c1 : wr.cell? ⟨b, j, none⟩ = some (.int .i64 (g2 j)) := hr2.cell (by omega)
        have c2 : wr.cell? ⟨b, j - 1, none⟩ = some (.int .i64 (g2 (j - 1))) := hr2.cell (by omega)
        have f1 := hr2.frozen j
        have f2 := hr2.frozen (j - 1)
        have HS : Hid (Sinking n g0 g2 i j) := hsk
        have HR : Hid (Row wr b n (ic g2)) := hr2
        have HM : Hid (Mod (fun x => x = b) w wr) := hm2
        clear hsk hr2 hm2
        go_wp2
        by_cases hja : 0 < j
        · go_quiet (first | (go_at_call 91; refine Calls.quiet_of_same (less_any _ _ _)))
          go_wp2
          · have hl : g2 j < g2 (j - 1) := by assumption
            have hne1 : ¬ j - 1 = j := by omega
            have hne2 : ¬ j = j - 1 := by omega
            have HN : Hid (Sinking n g0 (swp g2 j) i (j - 1)) := HS.out.swap hja hji hlt hl
            have HRW : Hid (Row (((wr.drewN (nq + 1)).setCell ⟨b, j, none⟩ (.int .i64 (g2 (j - 1)))).setCell ⟨b, j - 1, none⟩ (.int .i64 (g2 j))) b n (ic (swp g2 j))) := (HR.out.blw (drewN_blw wr (nq + 1))).swap hja (by omega)
            have HMW : Hid (Mod (fun x => x = b) w (((wr.drewN (nq + 1)).setCell ⟨b, j, none⟩ (.int .i64 (g2 (j - 1)))).setCell ⟨b, j - 1, none⟩ (.int .i64 (g2 j)))) := ((HM.out.trans ((drewN_blw wr (nq + 1)).mod _)).trans (Mod.setCell (X := fun x => x = b) _ (p := ⟨b, j, none⟩) rfl _)).trans (Mod.setCell (X := fun x => x = b) _ (p := ⟨b, j - 1, none⟩) rfl _)
            clear HS HR HM
            go_region
            all_goals go_wp2
            all_goals go_roundw
            case rel => exact ⟨j - 1, swp g2 j, by congr 1; omega, by omega, HN.out, HRW.out, HMW.out⟩
            case measure => simp [intOf]; omega
          · have hl : ¬ g2 j < g2 (j - 1) := by simpa using ‹_›
            have HD2 : Hid (∀ p q, p < q → q < i + 1 → g2 p ≤ g2 q) := HS.out.done hji (Or.inr hl)
            have HX : Hid (Mixed n g0 g2) := HS.out.x
            clear HS
            go_roundw
            case rel => exact ⟨i + 1, g2, by go_num, by omega, by omega, HX.out, fun p q h1 h2 h3 => HD2.out p q h1 h2, HR.out.blw (drewN_blw wr _), HM.out.trans ((drewN_blw wr _).mod _)⟩
            case measure => simp [intOf]; omega
        · have HD2 : Hid (∀ p q, p < q → q < i + 1 → g2 p ≤ g2 q) := HS.out.done hji (Or.inl (by omega))
          have HX : Hid (Mixed n g0 g2) := HS.out.x
          clear HS
          go_quiet (first | (go_at_call 91; refine Calls.quiet_of_same (less_any _ _ _)))
          go_wp2
          go_roundw
          case rel => exact ⟨i + 1, g2, by go_num, by omega, by omega, HX.out, fun p q h1 h2 h3 => HD2.out p q h1 h2, HR.out.blw (drewN_blw wr _), HM.out.trans ((drewN_blw wr _).mod _)⟩
          case measure => simp [intOf]; omega
    · go_wp2
      go_end0
      exact ⟨rfl, g, hm, fun p q h1 h2 => hs p q h1 (by omega) h2, hr, hmod⟩
end Go.Proofs.Ytagjfkkjmgfoiaa
