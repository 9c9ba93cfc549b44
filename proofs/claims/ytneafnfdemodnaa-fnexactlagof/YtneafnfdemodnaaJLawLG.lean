/- The law on LagOf. -/
import Derived.Test.YtneafnfdemodnaaJoin2
namespace Go.Proofs.Ytneafnfdemodnaa
open Go.RowKit
set_option linter.unusedSimpArgs false
set_option linter.unusedVariables false
set_option maxRecDepth 10000 in
set_option maxHeartbeats 6400000 in
theorem lawLG (ap : Option Addr) (np cp : Nat) (F : Nat → Nat → Int) (w : World) (hp : KAt 3 (fun x => x < w.heap.size) w ap np F) : Calls Try.prog 5 #[.slice ap np cp] w fun e w' => e = .returned (.bool true) ∧ Blw w w' := by
  have HB : Hid (Blw w w) := Blw.refl w
  have hnp := hp.1
  have HP : Hid (St (fun x => x < w.heap.size) (fun W => KAt 3 (fun x => x < w.heap.size) W ap np F) w) := KAt.st hp (fun x hx => hx)
  clear hp
  go_enter Try.func5, Try.ntmps5
  go_wp2_with fail
  refine (szCli_any ap cp np 1048576 _ hnp (by omega) (by omega)).mono ?_
  rintro e w1 ⟨r1, rfl, hr, hb⟩
  replace HP : Hid (St (fun x => x < w.heap.size) (fun W => KAt 3 (fun x => x < w.heap.size) W ap np F) w1) := HP.out.blw hb
  replace HB : Hid (Blw w w1) := HB.out.trans hb
  clear hb
  rcases hr with rfl | ⟨q0, q1⟩
  · go_wp2
    go_ret
    exact ⟨rfl, HB.out⟩
  have hr0 : ¬ r1 < 0 := by omega
  have hnp2 : np ≤ 1048576 := by omega
  go_wp2_with fail
  refine (toCli_any ap cp np F _ _ hnp2 HP.out.out).mono ?_
  rintro e w2 ⟨rfl, row, hb⟩
  clear hr0
  have hlt := row.lt
  have h2P : KAt 3 (fun x => x < w2.heap.size) w2 (some ⟨w1.heap.size, 0, none⟩) np F := (show KOwn 3 (fun x => x < w2.heap.size) w2 (some ⟨w1.heap.size, 0, none⟩) np F from ⟨by omega, fun _ => ⟨_, hlt, rfl, row⟩⟩).at
  replace HP : Hid (St (fun x => x < w.heap.size) (fun W => KAt 3 (fun x => x < w.heap.size) W ap np F) w2) := HP.out.blw hb
  replace HB : Hid (Blw w w2) := HB.out.trans hb
  have H2P : Hid (St (fun x => x < w2.heap.size) (fun W => KAt 3 (fun x => x < w2.heap.size) W (some ⟨w1.heap.size, 0, none⟩) np F) w2) := KAt.st h2P (fun x hx => hx)
  clear hb row hlt h2P
  go_wp2_with fail
  refine (specLag_any (some ⟨w1.heap.size, 0, none⟩) np np F _ _ H2P.out.out).mono ?_
  rintro e w3 ⟨u3, m3, q3, g3, b3, rfl, ho, own, hb⟩
  clear H2P
  have HO3 : Hid (lgOut np F m3 g3 b3) := ho
  have HS3 : Hid _ := lgOut_small ho
  replace HP : Hid (St (fun x => x < w.heap.size) (fun W => KAt 3 (fun x => x < w.heap.size) W ap np F) w3) := HP.out.blw hb
  replace HB : Hid (Blw w w3) := HB.out.trans hb
  have H3I : Hid (St (fun x => x < w3.heap.size) (fun W => IntsAt (fun x => x < w3.heap.size) W u3 m3 g3) w3) := IntsAt.st9 (own.at.mono (fun x hx => hx.2)) (fun x hx => hx)
  clear hb ho own
  have HN0 : Hid (w.heap.size ≤ w3.heap.size) := HB.out.size
  go_wp2_with fail
  refine (toCli_any ap cp np F _ _ hnp2 HP.out.out).mono ?_
  rintro e w4 ⟨rfl, row, hb⟩
  have hlt := row.lt
  have HN1 : Hid (w3.heap.size ≤ w3.heap.size ∧ w3.heap.size < w4.heap.size) := ⟨by have hbo := HB.out.size; have o0 := HN0.out; omega, hlt⟩
  have h4P : KOwn 3 (fun x => w3.heap.size ≤ x ∧ x < w4.heap.size) w4 (some ⟨w3.heap.size, 0, none⟩) np F := ⟨by omega, fun _ => ⟨_, HN1.out, rfl, row⟩⟩
  replace HP : Hid (St (fun x => x < w.heap.size) (fun W => KAt 3 (fun x => x < w.heap.size) W ap np F) w4) := HP.out.blw hb
  replace H3I : Hid (St (fun x => x < w3.heap.size) (fun W => IntsAt (fun x => x < w3.heap.size) W u3 m3 g3) w4) := H3I.out.blw hb
  replace HB : Hid (Blw w w4) := HB.out.trans hb
  have H4P : Hid (St (fun x => w3.heap.size ≤ x ∧ x < w4.heap.size) (fun W => KOwn 3 (fun x => w3.heap.size ≤ x ∧ x < w4.heap.size) W (some ⟨w3.heap.size, 0, none⟩) np F) w4) := KOwn.st h4P (fun x hx => hx.2)
  clear hb row hlt h4P
  go_wp2_with fail
  refine (implLag_any (some ⟨w3.heap.size, 0, none⟩) np np F _ _ (H4P.out.out.at)).mono ?_
  rintro e w5 ⟨u5, m5, q5, g5, b5, rfl, ho, own, hb⟩
  obtain ⟨em, eg, eb⟩ := lgOut_same ho HO3.out
  subst em eg eb
  have hz := hb.size
  have HN2 : Hid (w4.heap.size ≤ w4.heap.size ∧ w4.heap.size ≤ w5.heap.size) := by have hbo := HB.out.size; have o0 := HN0.out; have o1 := HN1.out; exact ⟨by omega, by omega⟩
  replace HP : Hid (St (fun x => x < w.heap.size) (fun W => KAt 3 (fun x => x < w.heap.size) W ap np F) w5) := HP.out.blw hb
  replace H3I : Hid (St (fun x => x < w3.heap.size) (fun W => IntsAt (fun x => x < w3.heap.size) W u3 m5 g5) w5) := H3I.out.blw hb
  replace H4P : Hid (St (fun x => w3.heap.size ≤ x ∧ x < w4.heap.size) (fun W => KOwn 3 (fun x => w3.heap.size ≤ x ∧ x < w4.heap.size) W (some ⟨w3.heap.size, 0, none⟩) np F) w5) := H4P.out.blw hb
  replace HB : Hid (Blw w w5) := HB.out.trans hb
  have H5I : Hid (St (fun x => w4.heap.size ≤ x ∧ x < w5.heap.size) (fun W => IntsOwn (fun x => w4.heap.size ≤ x ∧ x < w5.heap.size) W u5 m5 g5) w5) := IntsOwn.st9 own (fun x hx => by have o0 := HN0.out; have o1 := HN1.out; have o2 := HN2.out; omega)
  clear hb ho hz own
  have hne : (b5 != b5) = false := by simp
  go_wp2_with fail
  refine (eqIntS_blw _ _ _ _ m5 g5 _ H5I.out.out.at H3I.out.out).mono ?_
  rintro e w6 ⟨rfl, hb⟩
  replace HP : Hid (St (fun x => x < w.heap.size) (fun W => KAt 3 (fun x => x < w.heap.size) W ap np F) w6) := HP.out.blw hb
  replace H3I : Hid (St (fun x => x < w3.heap.size) (fun W => IntsAt (fun x => x < w3.heap.size) W u3 m5 g5) w6) := H3I.out.blw hb
  replace H4P : Hid (St (fun x => w3.heap.size ≤ x ∧ x < w4.heap.size) (fun W => KOwn 3 (fun x => w3.heap.size ≤ x ∧ x < w4.heap.size) W (some ⟨w3.heap.size, 0, none⟩) np F) w6) := H4P.out.blw hb
  replace H5I : Hid (St (fun x => w4.heap.size ≤ x ∧ x < w5.heap.size) (fun W => IntsOwn (fun x => w4.heap.size ≤ x ∧ x < w5.heap.size) W u5 m5 g5) w6) := H5I.out.blw hb
  replace HB : Hid (Blw w w6) := HB.out.trans hb
  clear hb
  go_wp2_with fail
  refine (toCli_any ap cp np F _ _ hnp2 HP.out.out).mono ?_
  rintro e w7 ⟨rfl, row, hb⟩
  have hlt := row.lt
  have C6 : Hid (KAt 3 (fun x => x < w7.heap.size) w7 (some ⟨w6.heap.size, 0, none⟩) np F) := (show KOwn 3 (fun x => x < w7.heap.size) w7 (some ⟨w6.heap.size, 0, none⟩) np F from ⟨by omega, fun _ => ⟨_, hlt, rfl, row⟩⟩).at
  replace HP : Hid (St (fun x => x < w.heap.size) (fun W => KAt 3 (fun x => x < w.heap.size) W ap np F) w7) := HP.out.blw hb
  replace H3I : Hid (St (fun x => x < w3.heap.size) (fun W => IntsAt (fun x => x < w3.heap.size) W u3 m5 g5) w7) := H3I.out.blw hb
  replace H4P : Hid (St (fun x => w3.heap.size ≤ x ∧ x < w4.heap.size) (fun W => KOwn 3 (fun x => w3.heap.size ≤ x ∧ x < w4.heap.size) W (some ⟨w3.heap.size, 0, none⟩) np F) w7) := H4P.out.blw hb
  replace H5I : Hid (St (fun x => w4.heap.size ≤ x ∧ x < w5.heap.size) (fun W => IntsOwn (fun x => w4.heap.size ≤ x ∧ x < w5.heap.size) W u5 m5 g5) w7) := H5I.out.blw hb
  replace HB : Hid (Blw w w7) := HB.out.trans hb
  clear hb row hlt
  go_wp2_with fail
  refine (eqCli_same _ _ _ _ np F _ (H4P.out.out.at) C6.out).mono ?_
  rintro e w8 ⟨rfl, hb⟩
  replace HP : Hid (St (fun x => x < w.heap.size) (fun W => KAt 3 (fun x => x < w.heap.size) W ap np F) w8) := HP.out.blw hb
  replace H3I : Hid (St (fun x => x < w3.heap.size) (fun W => IntsAt (fun x => x < w3.heap.size) W u3 m5 g5) w8) := H3I.out.blw hb
  replace H4P : Hid (St (fun x => w3.heap.size ≤ x ∧ x < w4.heap.size) (fun W => KOwn 3 (fun x => w3.heap.size ≤ x ∧ x < w4.heap.size) W (some ⟨w3.heap.size, 0, none⟩) np F) w8) := H4P.out.blw hb
  replace H5I : Hid (St (fun x => w4.heap.size ≤ x ∧ x < w5.heap.size) (fun W => IntsOwn (fun x => w4.heap.size ≤ x ∧ x < w5.heap.size) W u5 m5 g5) w8) := H5I.out.blw hb
  replace HB : Hid (Blw w w8) := HB.out.trans hb
  clear hb C6
  go_wp2_with fail
  refine (markCli_any _ np np F _ (1) _ (by omega) (by omega) H4P.out.out).mono ?_
  rintro e w9 ⟨rfl, own, hm⟩
  have s4 := hm.size
  replace HP : Hid (St (fun x => x < w.heap.size) (fun W => KAt 3 (fun x => x < w.heap.size) W ap np F) w9) := HP.out.mod hm (fun x hx hz => by have o0 := HN0.out; have o1 := HN1.out; have o2 := HN2.out; have hz' : w3.heap.size ≤ x ∧ x < w4.heap.size := hz; have hx' : x < w.heap.size := hx; omega)
  replace H3I : Hid (St (fun x => x < w3.heap.size) (fun W => IntsAt (fun x => x < w3.heap.size) W u3 m5 g5) w9) := H3I.out.mod hm (fun x hx hz => by have o0 := HN0.out; have o1 := HN1.out; have o2 := HN2.out; have hz' : w3.heap.size ≤ x ∧ x < w4.heap.size := hz; have hx' : x < w3.heap.size := hx; omega)
  replace H5I : Hid (St (fun x => w4.heap.size ≤ x ∧ x < w5.heap.size) (fun W => IntsOwn (fun x => w4.heap.size ≤ x ∧ x < w5.heap.size) W u5 m5 g5) w9) := H5I.out.mod hm (fun x hx hz => by have o0 := HN0.out; have o1 := HN1.out; have o2 := HN2.out; have hz' : w3.heap.size ≤ x ∧ x < w4.heap.size := hz; have hx' : w4.heap.size ≤ x ∧ x < w5.heap.size := hx; omega)
  replace HB : Hid (Blw w w9) := Mod.blw HB.out hm (fun x hz => by have o0 := HN0.out; have o1 := HN1.out; have o2 := HN2.out; have hz' : w3.heap.size ≤ x ∧ x < w4.heap.size := hz; omega)
  replace H4P : Hid (St (fun x => w3.heap.size ≤ x ∧ x < w4.heap.size) (fun W => KOwn 3 (fun x => w3.heap.size ≤ x ∧ x < w4.heap.size) W (some ⟨w3.heap.size, 0, none⟩) np (mkK 3 (1))) w9) := KOwn.st own (fun x hx => Nat.lt_of_lt_of_le (H4P.out.1 x hx) s4)
  clear own hm s4
  have k1 : ¬ (1 + 3 * (np : Int) < 0) := by omega
  go_wp2_with fail
  refine (eqIntS_blw _ _ _ _ m5 g5 _ H5I.out.out.at H3I.out.out).mono ?_
  rintro e w10 ⟨rfl, hb⟩
  replace HP : Hid (St (fun x => x < w.heap.size) (fun W => KAt 3 (fun x => x < w.heap.size) W ap np F) w10) := HP.out.blw hb
  replace H3I : Hid (St (fun x => x < w3.heap.size) (fun W => IntsAt (fun x => x < w3.heap.size) W u3 m5 g5) w10) := H3I.out.blw hb
  replace H4P : Hid (St (fun x => w3.heap.size ≤ x ∧ x < w4.heap.size) (fun W => KOwn 3 (fun x => w3.heap.size ≤ x ∧ x < w4.heap.size) W (some ⟨w3.heap.size, 0, none⟩) np (mkK 3 (1))) w10) := H4P.out.blw hb
  replace H5I : Hid (St (fun x => w4.heap.size ≤ x ∧ x < w5.heap.size) (fun W => IntsOwn (fun x => w4.heap.size ≤ x ∧ x < w5.heap.size) W u5 m5 g5) w10) := H5I.out.blw hb
  replace HB : Hid (Blw w w10) := HB.out.trans hb
  clear hb
  clear k1
  have hsm := HS3.out
  go_wp2_with fail
  refine (markIntS_any u5 q5 m5 g5 _ (1) _ (by omega) (by omega) H5I.out.out).mono ?_
  rintro e w11 ⟨rfl, own, hm⟩
  have s4 := hm.size
  replace HP : Hid (St (fun x => x < w.heap.size) (fun W => KAt 3 (fun x => x < w.heap.size) W ap np F) w11) := HP.out.mod hm (fun x hx hz => by have o0 := HN0.out; have o1 := HN1.out; have o2 := HN2.out; have hz' : w4.heap.size ≤ x ∧ x < w5.heap.size := hz.1; have hx' : x < w.heap.size := hx; omega)
  replace H3I : Hid (St (fun x => x < w3.heap.size) (fun W => IntsAt (fun x => x < w3.heap.size) W u3 m5 g5) w11) := H3I.out.mod hm (fun x hx hz => by have o0 := HN0.out; have o1 := HN1.out; have o2 := HN2.out; have hz' : w4.heap.size ≤ x ∧ x < w5.heap.size := hz.1; have hx' : x < w3.heap.size := hx; omega)
  replace H4P : Hid (St (fun x => w3.heap.size ≤ x ∧ x < w4.heap.size) (fun W => KOwn 3 (fun x => w3.heap.size ≤ x ∧ x < w4.heap.size) W (some ⟨w3.heap.size, 0, none⟩) np (mkK 3 (1))) w11) := H4P.out.mod hm (fun x hx hz => by have o0 := HN0.out; have o1 := HN1.out; have o2 := HN2.out; have hz' : w4.heap.size ≤ x ∧ x < w5.heap.size := hz.1; have hx' : w3.heap.size ≤ x ∧ x < w4.heap.size := hx; omega)
  replace HB : Hid (Blw w w11) := Mod.blw HB.out hm (fun x hz => by have o0 := HN0.out; have o1 := HN1.out; have o2 := HN2.out; have hz' : w4.heap.size ≤ x ∧ x < w5.heap.size := hz.1; omega)
  replace H5I : Hid (St (fun x => w4.heap.size ≤ x ∧ x < w5.heap.size) (fun W => IntsOwn (fun x => w4.heap.size ≤ x ∧ x < w5.heap.size) W u5 m5 (fun i => 1 + (i : Int))) w11) := IntsOwn.st9 own (fun x hx => Nat.lt_of_lt_of_le (H5I.out.1 x hx) s4)
  clear own hm s4
  have k1 : ¬ (1 + (m5 : Int) < 0) := by omega
  have k9 : ((1 + (m5 : Int)) != (1 + (m5 : Int))) = false := by simp
  go_wp2_with fail
  refine (heldIntS_any u5 q5 m5 _ (1) _ (by omega) (by omega) H5I.out.out.at).mono ?_
  rintro e w12 ⟨rfl, hb⟩
  replace HP : Hid (St (fun x => x < w.heap.size) (fun W => KAt 3 (fun x => x < w.heap.size) W ap np F) w12) := HP.out.blw hb
  replace H3I : Hid (St (fun x => x < w3.heap.size) (fun W => IntsAt (fun x => x < w3.heap.size) W u3 m5 g5) w12) := H3I.out.blw hb
  replace H4P : Hid (St (fun x => w3.heap.size ≤ x ∧ x < w4.heap.size) (fun W => KOwn 3 (fun x => w3.heap.size ≤ x ∧ x < w4.heap.size) W (some ⟨w3.heap.size, 0, none⟩) np (mkK 3 (1))) w12) := H4P.out.blw hb
  replace H5I : Hid (St (fun x => w4.heap.size ≤ x ∧ x < w5.heap.size) (fun W => IntsOwn (fun x => w4.heap.size ≤ x ∧ x < w5.heap.size) W u5 m5 (fun i => 1 + (i : Int))) w12) := H5I.out.blw hb
  replace HB : Hid (Blw w w12) := HB.out.trans hb
  clear hb
  go_wp2_with fail
  refine (toCli_any ap cp np F _ _ hnp2 HP.out.out).mono ?_
  rintro e w13 ⟨rfl, row, hb⟩
  have hlt := row.lt
  have h7P : KAt 3 (fun x => x < w13.heap.size) w13 (some ⟨w12.heap.size, 0, none⟩) np F := (show KOwn 3 (fun x => x < w13.heap.size) w13 (some ⟨w12.heap.size, 0, none⟩) np F from ⟨by omega, fun _ => ⟨_, hlt, rfl, row⟩⟩).at
  replace HP : Hid (St (fun x => x < w.heap.size) (fun W => KAt 3 (fun x => x < w.heap.size) W ap np F) w13) := HP.out.blw hb
  replace H3I : Hid (St (fun x => x < w3.heap.size) (fun W => IntsAt (fun x => x < w3.heap.size) W u3 m5 g5) w13) := H3I.out.blw hb
  replace H4P : Hid (St (fun x => w3.heap.size ≤ x ∧ x < w4.heap.size) (fun W => KOwn 3 (fun x => w3.heap.size ≤ x ∧ x < w4.heap.size) W (some ⟨w3.heap.size, 0, none⟩) np (mkK 3 (1))) w13) := H4P.out.blw hb
  replace H5I : Hid (St (fun x => w4.heap.size ≤ x ∧ x < w5.heap.size) (fun W => IntsOwn (fun x => w4.heap.size ≤ x ∧ x < w5.heap.size) W u5 m5 (fun i => 1 + (i : Int))) w13) := H5I.out.blw hb
  replace HB : Hid (Blw w w13) := HB.out.trans hb
  have H7P : Hid (St (fun x => x < w13.heap.size) (fun W => KAt 3 (fun x => x < w13.heap.size) W (some ⟨w12.heap.size, 0, none⟩) np F) w13) := KAt.st h7P (fun x hx => hx)
  clear hb row hlt h7P
  go_wp2_with fail
  refine (implLag_any (some ⟨w12.heap.size, 0, none⟩) np np F _ _ H7P.out.out).mono ?_
  rintro e w14 ⟨u8, m8, q8, g8, b8, rfl, ho, own, hb⟩
  clear H7P
  obtain ⟨em, eg, eb⟩ := lgOut_same ho HO3.out
  subst em eg eb
  replace HP : Hid (St (fun x => x < w.heap.size) (fun W => KAt 3 (fun x => x < w.heap.size) W ap np F) w14) := HP.out.blw hb
  replace H3I : Hid (St (fun x => x < w3.heap.size) (fun W => IntsAt (fun x => x < w3.heap.size) W u3 m8 g8) w14) := H3I.out.blw hb
  replace H4P : Hid (St (fun x => w3.heap.size ≤ x ∧ x < w4.heap.size) (fun W => KOwn 3 (fun x => w3.heap.size ≤ x ∧ x < w4.heap.size) W (some ⟨w3.heap.size, 0, none⟩) np (mkK 3 (1))) w14) := H4P.out.blw hb
  replace H5I : Hid (St (fun x => w4.heap.size ≤ x ∧ x < w5.heap.size) (fun W => IntsOwn (fun x => w4.heap.size ≤ x ∧ x < w5.heap.size) W u5 m8 (fun i => 1 + (i : Int))) w14) := H5I.out.blw hb
  replace HB : Hid (Blw w w14) := HB.out.trans hb
  have D8 : Hid (IntsAt (fun x => x < w14.heap.size) w14 u8 m8 g8) := own.at.mono (fun x hx => hx.2)
  clear hb ho own
  go_wp2_with fail
  refine (eqIntS_blw _ _ _ _ m8 g8 _ D8.out H3I.out.out).mono ?_
  rintro e w15 ⟨rfl, hb⟩
  replace HP : Hid (St (fun x => x < w.heap.size) (fun W => KAt 3 (fun x => x < w.heap.size) W ap np F) w15) := HP.out.blw hb
  replace H3I : Hid (St (fun x => x < w3.heap.size) (fun W => IntsAt (fun x => x < w3.heap.size) W u3 m8 g8) w15) := H3I.out.blw hb
  replace H4P : Hid (St (fun x => w3.heap.size ≤ x ∧ x < w4.heap.size) (fun W => KOwn 3 (fun x => w3.heap.size ≤ x ∧ x < w4.heap.size) W (some ⟨w3.heap.size, 0, none⟩) np (mkK 3 (1))) w15) := H4P.out.blw hb
  replace H5I : Hid (St (fun x => w4.heap.size ≤ x ∧ x < w5.heap.size) (fun W => IntsOwn (fun x => w4.heap.size ≤ x ∧ x < w5.heap.size) W u5 m8 (fun i => 1 + (i : Int))) w15) := H5I.out.blw hb
  replace HB : Hid (Blw w w15) := HB.out.trans hb
  clear hb D8
  go_wp2_with fail
  refine (heldIntS_any u5 q5 m8 _ (1) _ (by omega) (by omega) H5I.out.out.at).mono ?_
  rintro e w16 ⟨rfl, hb⟩
  replace HP : Hid (St (fun x => x < w.heap.size) (fun W => KAt 3 (fun x => x < w.heap.size) W ap np F) w16) := HP.out.blw hb
  replace H3I : Hid (St (fun x => x < w3.heap.size) (fun W => IntsAt (fun x => x < w3.heap.size) W u3 m8 g8) w16) := H3I.out.blw hb
  replace H4P : Hid (St (fun x => w3.heap.size ≤ x ∧ x < w4.heap.size) (fun W => KOwn 3 (fun x => w3.heap.size ≤ x ∧ x < w4.heap.size) W (some ⟨w3.heap.size, 0, none⟩) np (mkK 3 (1))) w16) := H4P.out.blw hb
  replace H5I : Hid (St (fun x => w4.heap.size ≤ x ∧ x < w5.heap.size) (fun W => IntsOwn (fun x => w4.heap.size ≤ x ∧ x < w5.heap.size) W u5 m8 (fun i => 1 + (i : Int))) w16) := H5I.out.blw hb
  replace HB : Hid (Blw w w16) := HB.out.trans hb
  clear hb
  go_wp2
  go_ret
  exact ⟨rfl, HB.out⟩
end Go.Proofs.Ytneafnfdemodnaa
