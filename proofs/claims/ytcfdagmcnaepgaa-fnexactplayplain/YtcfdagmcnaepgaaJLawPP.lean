/- The law on PlayPlain. -/
import Derived.Test.YtcfdagmcnaepgaaJPlayJ
import Derived.Test.YtcfdagmcnaepgaaJoin4
namespace Go.Proofs.Ytcfdagmcnaepgaa
open Go.RowKit
set_option linter.unusedSimpArgs false
set_option linter.unusedVariables false
theorem KAt.st {K : Nat} {Y : Nat → Prop} {W : World} {ao : Option Addr} {n : Nat} {F : Nat → Nat → Int} (h : KAt K Y W ao n F) (hY : ∀ b, Y b → b < W.heap.size) : St Y (fun W => KAt K Y W ao n F) W :=
  ⟨hY, fun Z w' hm hx => h.mod hm hx⟩
theorem KOwn.st {K : Nat} {Y : Nat → Prop} {W : World} {ao : Option Addr} {n : Nat} {F : Nat → Nat → Int} (h : KOwn K Y W ao n F) (hY : ∀ b, Y b → b < W.heap.size) : St Y (fun W => KOwn K Y W ao n F) W :=
  ⟨hY, fun Z w' hm hx => h.mod hm hx⟩
theorem kown_row {lo : Nat} {W : World} {z n : Nat} {F : Nat → Nat → Int} (hn : n ≤ 1048576) (h : Row W z (n * 4) (kc 4 F)) (hz : lo ≤ z) : KOwn 4 (fun x => lo ≤ x ∧ x < W.heap.size) W (some ⟨z, 0, none⟩) n F :=
  ⟨by omega, fun _ => ⟨z, ⟨hz, h.lt⟩, rfl, h⟩⟩
set_option maxRecDepth 10000 in
set_option maxHeartbeats 6400000 in
theorem lawPPP (k : Int) (ao : Option Addr) (n c : Nat) (F : Nat → Nat → Int) (w : World) (h : KAt 4 (fun x => x < w.heap.size) w ao n F) : Calls Try.prog 7 #[.int .i64 k, .slice ao n c] w fun e w' => e = .returned (.bool true) ∧ Blw w w' := by
  have HA : Hid (St (fun x => x < w.heap.size) (fun W => KAt 4 (fun x => x < w.heap.size) W ao n F) w) := KAt.st h (fun x hx => hx)
  have hn := h.1
  clear h
  go_enter Try.func7, Try.ntmps7
  go_wp2_with fail
  refine (szWs_any ao c n 1048576 _ hn (by omega) (by omega)).mono ?_
  rintro e w1 ⟨r, rfl, hr, hb1⟩
  replace HA : Hid (St (fun x => x < w.heap.size) (fun W => KAt 4 (fun x => x < w.heap.size) W ao n F) w1) := HA.out.blw hb1
  rcases hr with rfl | ⟨q0, q1⟩
  · go_wp2
    go_ret
    exact ⟨rfl, hb1⟩
  have HS : Hid (n ≤ 1048576) := by show n ≤ _; omega
  clear q1
  go_wp2_with fail
  clear q0
  refine (toWs_any ao c n F _ _ HS.out HA.out.out).mono ?_
  rintro e w2 ⟨rfl, hr2, hb2⟩
  have own2 := kown_row HS.out hr2 (Nat.le_refl _)
  replace HA : Hid (St (fun x => x < w.heap.size) (fun W => KAt 4 (fun x => x < w.heap.size) W ao n F) w2) := HA.out.blw hb2
  replace hb2 := hb1.trans hb2
  clear hb1 hr2
  go_wp2_with fail
  refine (specPP_any k _ n n F _ HS.out (own2.at.mono (fun x hx => hx.2))).mono ?_
  rintro e w3 ⟨a3, m, c3, f, r3, rfl, ho3, hs3, own3, hb3⟩
  have HO3 : Hid (ppO k n F m f r3) := ho3
  have HP3 : Hid (St (fun x => x < w3.heap.size) (fun W => IntsAt (fun x => x < w3.heap.size) W a3 m f) w3) := IntsAt.st (own3.at.mono (fun x hx => hx.2)) (fun x hx => hx)
  replace HA : Hid (St (fun x => x < w.heap.size) (fun W => KAt 4 (fun x => x < w.heap.size) W ao n F) w3) := HA.out.blw hb3
  replace hb3 := hb2.trans hb3
  have HZ3 : Hid (w.heap.size ≤ w3.heap.size) := hb3.size
  clear hb2 own2 own3 ho3
  go_wp2_with fail
  refine (toWs_any ao c n F _ _ HS.out HA.out.out).mono ?_
  rintro e w4 ⟨rfl, hr4, hb4⟩
  have HP4 : Hid (St (fun x => w3.heap.size ≤ x ∧ x < w4.heap.size) (fun W => KOwn 4 (fun x => w3.heap.size ≤ x ∧ x < w4.heap.size) W (some ⟨w3.heap.size, 0, none⟩) n F) w4) := KOwn.st (kown_row HS.out hr4 (Nat.le_refl _)) (fun x hx => hx.2)
  replace HA : Hid (St (fun x => x < w.heap.size) (fun W => KAt 4 (fun x => x < w.heap.size) W ao n F) w4) := HA.out.blw hb4
  replace HP3 : Hid (St (fun x => x < w3.heap.size) (fun W => IntsAt (fun x => x < w3.heap.size) W a3 m f) w4) := HP3.out.blw hb4
  have HZ4 : Hid (w3.heap.size ≤ w4.heap.size) := hb4.size
  replace hb4 := hb3.trans hb4
  clear hb3 hr4
  go_wp2_with fail
  refine (implPP_any k _ n n F _ HS.out (HP4.out.out.at.mono (fun x hx => hx.2))).mono ?_
  rintro e w5 ⟨a5, m5, c5, f5, r5, rfl, ho5, hs5, own5, hb5⟩
  obtain ⟨er, em, ef⟩ := ppO_same ho5 HO3.out
  subst er em
  have z45 := hb5.size
  have HL : Hid (LawF w w5 w.heap.size w3.heap.size w4.heap.size w5.heap.size (fun W => KAt 4 (fun x => x < w.heap.size) W ao n F) (fun W => IntsAt (fun x => x < w3.heap.size) W a3 m5 f) (fun W => KOwn 4 (fun x => w3.heap.size ≤ x ∧ x < w4.heap.size) W (some ⟨w3.heap.size, 0, none⟩) n F) (fun W => IntsOwn (fun x => w4.heap.size ≤ x ∧ x < w5.heap.size) W a5 m5 f)) := by
    have h3 := HZ3.out
    have h4 := HZ4.out
    exact ⟨hb4.trans hb5, HA.out.blw hb5, HP3.out.blw hb5, HP4.out.blw hb5, IntsOwn.st (own5.congr ef) (fun x hx => hx.2), by omega⟩
  clear HA HP3 HP4 hb4 hb5 own5 z45 ho5 HZ3 ef
  have hne : (r5 != r5) = false := by simp
  go_wp2_with fail
  refine (eqIntS_same _ _ _ _ m5 f _ HL.out.p5.out.at HL.out.p3.out).mono ?_
  rintro e w6 ⟨rfl, dq, rfl⟩
  have hb6 := drewN_blw w5 dq
  replace HL : Hid (LawF w (w5.drewN dq) _ _ _ _ _ _ _ _) := HL.out.blw hb6
  revert HL
  have hz5 : ∃ z, z = w5.heap.size := ⟨_, rfl⟩
  obtain ⟨z5, hz5⟩ := hz5
  rw [← hz5]
  clear hz5 hb6
  generalize w5.drewN dq = w6
  intro HL
  generalize w3.heap.size = z3 at *
  generalize w4.heap.size = z4 at *
  generalize w1.heap.size = z1 at *
  clear w1 w2 w3 w4
  go_wp2_with fail
  refine (toWs_any ao c n F _ _ HS.out HL.out.p1.out).mono ?_
  rintro e w7 ⟨rfl, hr7, hb7⟩
  have own7 := kown_row (lo := 0) HS.out hr7 (Nat.zero_le _)
  replace HL : Hid (LawF w w7 _ _ _ _ _ _ _ _) := HL.out.blw hb7
  clear hb7 hr7
  generalize w6.heap.size = z6 at *
  go_wp2_with fail
  refine (eqWs_same _ _ _ _ n F _ HL.out.p4.out.at own7.at).mono ?_
  rintro e w8 ⟨rfl, hb8⟩
  replace HL : Hid (LawF w w8 _ _ _ _ _ _ _ _) := HL.out.blw hb8
  clear hb8 own7
  go_wp2_with fail
  refine (markWs_any _ _ n F _ 1 _ (by omega) (by have := HS.out; omega) HL.out.p4.out).mono ?_
  rintro e w9 ⟨rfl, own4, hm9⟩
  have h9 := hm9.size
  replace HL : Hid (LawF w w9 _ _ _ _ _ _ _ _) := HL.out.mark4 (P4' := fun W => KOwn 4 (fun x => z3 ≤ x ∧ x < z4) W (some ⟨z3, 0, none⟩) n (mkK 4 1)) hm9 (fun x hx => hx) (KOwn.st own4 (fun x hx => by have := HL.out.o; omega))
  clear own4 hm9 h9
  have k1 : ¬ (1 + 4 * (n : Int) < 0) := by omega
  go_wp2_with fail
  refine (eqIntS_same _ _ _ _ m5 f _ HL.out.p5.out.at HL.out.p3.out).mono ?_
  rintro e w10 ⟨rfl, dq9, rfl⟩
  replace HL : Hid (LawF w (w9.drewN dq9) _ _ _ _ _ _ _ _) := HL.out.blw (drewN_blw w9 dq9)
  revert HL
  generalize w9.drewN dq9 = w10
  intro HL
  clear k1
  go_wp2_with fail
  refine (markIntS_any _ _ m5 f _ 1 _ (by omega) (by omega) HL.out.p5.out).mono ?_
  rintro e w11 ⟨rfl, own5, hm10⟩
  have h10 := hm10.size
  replace HL : Hid (LawF w w11 _ _ _ _ _ _ _ _) := HL.out.mark5 (P5' := fun W => IntsOwn (fun x => z4 ≤ x ∧ x < z5) W a5 m5 (fun i => 1 + (i : Int))) hm10 (fun x hx => hx.1) (IntsOwn.st own5 (fun x hx => by have := HL.out.o; omega))
  clear own5 hm10 h10
  have k1 : ¬ (1 + (m5 : Int) < 0) := by omega
  have k2 : ((1 + (m5 : Int)) != (1 + (m5 : Int))) = false := by simp
  go_wp2_with fail
  refine (heldIntS_any _ _ m5 _ 1 _ (by omega) (by omega) HL.out.p5.out.at).mono ?_
  rintro e w12 ⟨rfl, hb11⟩
  replace HL : Hid (LawF w w12 _ _ _ _ _ _ _ _) := HL.out.blw hb11
  clear hb11
  go_wp2_with fail
  refine (toWs_any ao c n F _ _ HS.out HL.out.p1.out).mono ?_
  rintro e w13 ⟨rfl, hr7, hb7⟩
  have own7 := kown_row (lo := 0) HS.out hr7 (Nat.zero_le _)
  replace HL : Hid (LawF w w13 _ _ _ _ _ _ _ _) := HL.out.blw hb7
  clear hb7 hr7
  generalize w12.heap.size = z12 at *
  go_wp2_with fail
  refine (implPP_any k _ n n F _ HS.out (own7.at.mono (fun x hx => hx.2))).mono ?_
  rintro e w14 ⟨a8, n8, c8, f8, r8, rfl, ho8, hs8, own8, hb13⟩
  obtain ⟨er, em, ef⟩ := ppO_same ho8 HO3.out
  subst er em
  replace HL : Hid (LawF w w14 _ _ _ _ _ _ _ _) := HL.out.blw hb13
  have HO8 : Hid (IntsOwn _ w14 a8 n8 f) := own8.congr ef
  clear own7 hb13 ho8 own8 ef
  go_wp2_with fail
  refine (eqIntS_same _ _ _ _ n8 f _ HO8.out.at HL.out.p3.out).mono ?_
  rintro e w15 ⟨rfl, dq14, rfl⟩
  replace HL : Hid (LawF w (w14.drewN dq14) _ _ _ _ _ _ _ _) := HL.out.blw (drewN_blw w14 dq14)
  revert HL
  generalize w14.drewN dq14 = w15
  intro HL
  clear HO8
  go_wp2_with fail
  refine (heldIntS_any _ _ n8 _ 1 _ (by omega) (by omega) HL.out.p5.out.at).mono ?_
  rintro e w16 ⟨rfl, hb15⟩
  replace HL : Hid (LawF w w16 _ _ _ _ _ _ _ _) := HL.out.blw hb15
  clear hb15
  go_wp2
  go_ret
  exact ⟨rfl, HL.out.hB⟩
end Go.Proofs.Ytcfdagmcnaepgaa
