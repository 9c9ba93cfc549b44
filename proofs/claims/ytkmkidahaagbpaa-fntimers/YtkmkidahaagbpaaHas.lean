/- Has a wheel the timer? as the model asks. -/
import Derived.Test.YtkmkidahaagbpaaSa
import Derived.Test.YtkmkidahaagbpaaSgw
namespace Go.Proofs.Ytkmkidahaagbpaa
open Go.RowKit
set_option linter.unusedSimpArgs false
set_option linter.unusedVariables false
set_option maxRecDepth 10000 in
set_option maxHeartbeats 1600000 in
theorem l11Has_any (v : WV) (now : Int) (N F : PD) (R : Rws) (Y : Nat → Prop) (id : Int) (w : World) (hN : N.n = 8) (hF : F.n = 8) (h : WRows Y w v ⟨now, N, F⟩ R) (hl : (allS 8 R).length ≤ 1048576) :
    Calls Try.prog 61 #[v.val ⟨now, N, F⟩, .int .i64 id] w (BRes (∃ x ∈ allR R, x.1 = id) w) := by
  obtain ⟨n1, p1, p2, p3⟩ := N
  obtain ⟨n2, q1, q2, q3⟩ := F
  dsimp only at hN hF
  subst hN hF
  have hb0 : Blw w (w.alloc (.cells #[.int .i64 now, .slice v.a1 8 v.c1, .slice v.a2 8 v.c2] 25)) := (Blw.refl _).alloc _
  have r0 := box3 w (.int .i64 now) (.slice v.a1 8 v.c1) (.slice v.a2 8 v.c2) 25
  obtain ⟨W0, hW0⟩ : ∃ W0, w.alloc (.cells #[.int .i64 now, .slice v.a1 8 v.c1, .slice v.a2 8 v.c2] 25) = W0 := ⟨_, rfl⟩
  rw [hW0] at hb0 r0
  have HALL : Hid (Calls Try.prog 58 #[.agg #[.int .i64 now, .slice v.a1 8 v.c1, .slice v.a2 8 v.c2]] W0 fun e w' => ∃ a c, e = .returned (.slice a (allS 8 R).length c) ∧ Hid (LB (fun b => W0.heap.size ≤ b ∧ b < w'.heap.size) w' a c (allS 8 R) ∧ Blw W0 w')) :=
    l11All_any v now ⟨8, p1, p2, p3⟩ ⟨8, q1, q2, q3⟩ R Y W0 rfl rfl (h.blw hb0) hl
  have HP : Hid (∀ x, x ∈ allS 8 R ↔ x ∈ allR R) := fun x => (allS_perm R).mem_iff
  have HB : Hid (Blw w W0) := hb0
  obtain ⟨L, hL⟩ : ∃ L, allS 8 R = L := ⟨_, rfl⟩
  rw [hL] at HALL HP hl
  have HLN : Hid (L.length ≤ 1048576) := hl
  clear hL h hb0 hl
  go_enter Try.func61, Try.ntmps61
  go_upto_region 1 with fail
  try simp only [hW0]
  obtain ⟨c0, c1, c2⟩ := get3 r0
  clear hW0 r0
  go_wp2_with (first | (go_at_call 58; refine HALL.out.mono ?_; rintro e w2 ⟨a, c, rfl, hE⟩) | fail)
  have HB2 : Hid (Blw w w2) := HB.out.trans hE.out.2
  have HU : Hid (UndosAt (fun b => b < w2.heap.size) w2 a L.length (lf L) (la L)) := (LB.at hE.out.1 (by have := HLN.out; omega)).mono (fun b hb => hb.2)
  have hLn := HLN.out
  clear hE c0 c1 c2 HALL
  go_loopw [10] (fun i w3 => ∃ j : Nat, j ≤ L.length ∧ i = .int .i64 j ∧ Hid (Blw w2 w3 ∧ ∀ k, k < j → (nth L k).1 ≠ id)) (fun i _ => L.length - (intOf i).toNat)
  case atStart => exact ⟨0, Nat.zero_le _, rfl, Blw.refl _, fun k hk => absurd hk (Nat.not_lt_zero _)⟩
  case round =>
    rename World => w3
    obtain ⟨j, hj, rfl, hE⟩ := hrel
    by_cases hjl : j < L.length
    · obtain ⟨bb, oo, rfl, -, g0, g1⟩ := (HU.out.blw hE.out.1).2 j hjl
      simp only [lf, la] at g0 g1
      have hba : Blw w3 (w3.alloc (.cells #[.int .i64 (nth L j).1, .int .i64 (nth L j).2] 39)) := (Blw.refl _).alloc _
      have HBA : Hid (Blw w2 (w3.alloc (.cells #[.int .i64 (nth L j).1, .int .i64 (nth L j).2] 39))) := hE.out.1.trans hba
      obtain ⟨q0, -⟩ := get2 (box2 w3 (.int .i64 (nth L j).1) (.int .i64 (nth L j).2) 39)
      clear hba
      go_upto_region 4 with fail
      clear g0 g1
      generalize w3.alloc (.cells #[.int .i64 (nth L j).1, .int .i64 (nth L j).2] 39) = W3 at *
      by_cases hx : (nth L j).1 = id
      · have HX : Hid (∃ x ∈ allR R, x.1 = id) := ⟨nth L j, (HP.out _).1 (nth_mem hjl), hx⟩
        go_wp2_with fail
        go_ret
        exact ⟨true, rfl, (⟨fun _ => HX.out, fun _ => rfl⟩ : true = true ↔ _), HB2.out.trans HBA.out⟩
      · have HN2 : Hid (∀ k, k < j + 1 → (nth L k).1 ≠ id) := fun k hk => by
          by_cases e : k = j
          · subst e; exact hx
          · exact hE.out.2 k (by omega)
        go_wp2_with fail
        go_roundw
        case rel => exact ⟨j + 1, by omega, by go_num, HBA.out, HN2.out⟩
        case measure => simp [intOf]; omega
    · obtain rfl : j = L.length := by omega
      have HX : Hid (¬ ∃ x ∈ allR R, x.1 = id) := by
        rintro ⟨x, hx, e⟩
        obtain ⟨i, hi, e2⟩ := List.getElem_of_mem ((HP.out x).2 hx)
        exact hE.out.2 i hi (by rw [nth_get hi, e2]; exact e)
      go_wp2_with fail
      go_ret
      exact bres_no HX.out (HB2.out.trans hE.out.1)
end Go.Proofs.Ytkmkidahaagbpaa
