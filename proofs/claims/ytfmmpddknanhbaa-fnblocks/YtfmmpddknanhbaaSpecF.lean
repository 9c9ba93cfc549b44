/- The model's free blocks. -/
import Derived.Test.YtfmmpddknanhbaaTakeI
namespace Go.Proofs.Ytfmmpddknanhbaa
open Go.RowKit
set_option linter.unusedSimpArgs false
set_option linter.unusedVariables false
set_option maxRecDepth 10000 in
set_option maxHeartbeats 3200000 in
theorem l5Free_any (b : BV) (c l : Nat → Int) (a : Nat) (k : Int) (Y : Nat → Prop) (w : World) (g : BD.Good ⟨16, c, 16, l⟩) (hk : ordOK k) (ha : a + bsz k ≤ 16) (h : BookAt Y w b ⟨16, c, 16, l⟩) :
    Calls Try.prog 90 #[b.val ⟨16, c, 16, l⟩, .int .i64 a, .int .i64 k] w fun e w' => ∃ r, e = .returned (.bool r) ∧ (r = true ↔ fbP c a (bsz k)) ∧ Blw w w' := by
  obtain ⟨a1, a2, c1, c2⟩ := b
  simp only [BV.val] at *
  have hb0 : Blw w (w.alloc (.cells #[.slice a1 16 c1, .slice a2 16 c2] 25)) := (Blw.refl _).alloc _
  have r0 := box2 w (.slice a1 16 c1) (.slice a2 16 c2) 25
  have HC : Hid (IntsAt Y (w.alloc (.cells #[.slice a1 16 c1, .slice a2 16 c2] 25)) a1 16 c) := h.c.blw hb0
  have HG : Hid (BD.Good ⟨16, c, 16, l⟩) := g
  clear h g
  have hsh := shl_u hk
  have hwk : IntKind.u64.wrap k = k := by have := hk; unfold ordOK at this; rw [IntKind.wrap_u64] <;> omega
  have hS1 := (bsz_le hk).1
  obtain ⟨S, hS⟩ : ∃ S, S = bsz k := ⟨_, rfl⟩
  rw [← hS] at hsh hS1
  rw [← hS] at ha ⊢
  have e1 : IntKind.i64.wrap ((a : Int) + (S : Int)) = ((a + S : Nat) : Int) := by rw [IntKind.wrap_i64] <;> omega
  clear hS hk
  go_enter Try.func90, Try.ntmps90
  go_wp2_with fail
  revert hb0 r0 HC
  generalize w.alloc (.cells #[.slice a1 16 c1, .slice a2 16 c2] 25) = w0
  intro hb0 r0 HC
  have HR0 : Hid (Row w0 w.heap.size 2 (fun i => if i = 0 then .slice a1 16 c1 else .slice a2 16 c2)) := r0
  have HB : Hid (Blw w w0) := hb0
  clear hb0 r0
  go_loopw [7] (fun i wr => ∃ j : Nat, j ≤ S ∧ i = .int .i64 ((a + j : Nat) : Int) ∧ fbP c a j ∧ wr = w0) (fun i _ => a + S - (intOf i).toNat)
  case atStart => exact ⟨0, by omega, rfl, fun i hi => absurd hi (Nat.not_lt_zero _), rfl⟩
  case round =>
    obtain ⟨j, hj, rfl, hok, rfl⟩ := hrel
    have HO : Hid (fbP c a j) := hok
    clear hok
    by_cases hlt : j < S
    · have hlt' : ((a + j : Nat) : Int) < ((a + S : Nat) : Int) := by omega
      have hj16 : a + j < 16 := by omega
      have hj16' : ((a + j : Nat) : Int) < 16 := by omega
      obtain ⟨b1, o1, rfl, -, g1⟩ := HC.out.2 (a + j) hj16
      obtain ⟨p0, p1⟩ := get2 HR0.out
      have hpos := (HG.out.ok (a + j) hj16).1.1
      dsimp only at hpos
      by_cases h1 : c (a + j) = 0
      · have d1 : decide (c (a + j) > 0) = false := by simp; omega
        have HN : Hid (fbP c a (j + 1)) := fun i hi => by
          by_cases e : i = j
          · subst e; exact h1
          · exact HO.out i (by omega)
        clear h1 HO hpos
        generalize hq : a + j = q at *
        go_wp2
        go_roundw
        case rel => exact ⟨j + 1, by omega, by subst hq; go_num, HN.out, by first | rfl | trivial⟩
        case measure => simp [intOf]; omega
      · have d1 : decide (c (a + j) > 0) = true := by simp; omega
        have HN : Hid (¬ fbP c a S) := fun q => h1 (q j hlt)
        clear h1 HO hpos
        generalize hq : a + j = q at *
        go_wp2
        exact bodyPost_ret (v := .bool false) (by simp [results, Try.results90, go_sem]) rfl (by first | exact ⟨false, rfl, iff_f HN.out, HB.out⟩ | exact Or.inl ⟨rfl, HN.out, HB.out⟩)
    · obtain rfl : j = S := by omega
      have hlt' : ¬ ((a + j : Nat) : Int) < ((a + j : Nat) : Int) := by omega
      go_wp2
      exact bodyPost_ret (v := .bool true) (by simp [results, Try.results90, go_sem]) rfl (by first | exact ⟨true, rfl, iff_t HO.out, HB.out⟩ | exact Or.inr ⟨rfl, HO.out, HB.out⟩)
end Go.Proofs.Ytfmmpddknanhbaa
