/- The law on GiveTurns. -/
import Derived.Test.YtneafnfdemodnaaDoorJoin2
namespace Go.Proofs.YtneafnfdemodnaaDoor
open Go.RowKit
set_option linter.unusedSimpArgs false
set_option linter.unusedVariables false
set_option maxRecDepth 10000 in
set_option maxHeartbeats 6400000 in
theorem lawGS (ap : Option Addr) (np cp : Nat) (F : Nat → Nat → Int) (k : Int) (w : World) (hp : KAt 3 (fun x => x < w.heap.size) w ap np F) (hT : Tb w) : Calls Tryd.prog 7 #[.slice ap np cp, .int .i64 k] w fun e w' => e = .returned (.bool true) ∧ Blw w w' := by
  have HB : Hid (Blw w w) := Blw.refl w
  have HT : Hid (Tb w) := hT
  clear hT
  have hnp := hp.1
  have HP : Hid (St (fun x => x < w.heap.size) (fun W => KAt 3 (fun x => x < w.heap.size) W ap np F) w) := KAt.st hp (fun x hx => hx)
  clear hp
  go_enter Tryd.func7, Tryd.ntmps7
  go_wp2_with fail
  refine (szCli_any ap cp np 1048576 _ hnp (by omega) (by omega)).mono ?_
  rintro e w1 ⟨r1, rfl, hr, hb⟩
  replace HP : Hid (St (fun x => x < w.heap.size) (fun W => KAt 3 (fun x => x < w.heap.size) W ap np F) w1) := HP.out.blw hb
  replace HB : Hid (Blw w w1) := HB.out.trans hb
  clear hb
  rcases hr with rfl | ⟨q0, q1⟩
  · go_wp2
    go_ret
    exact ⟨rfl, HB.out⟩
  have hr0 : ¬ r1 < 0 := by omega
  have hnp2 : np ≤ 1048576 := by omega
  go_wp2_with fail
  refine (toCli_any ap cp np F _ _ hnp2 HP.out.out).mono ?_
  rintro e w2 ⟨rfl, row, hb⟩
  clear hr0
  have hlt := row.lt
  have h2P : KAt 3 (fun x => x < w2.heap.size) w2 (some ⟨w1.heap.size, 0, none⟩) np F := (show KOwn 3 (fun x => x < w2.heap.size) w2 (some ⟨w1.heap.size, 0, none⟩) np F from ⟨by omega, fun _ => ⟨_, hlt, rfl, row⟩⟩).at
  replace HP : Hid (St (fun x => x < w.heap.size) (fun W => KAt 3 (fun x => x < w.heap.size) W ap np F) w2) := HP.out.blw hb
  replace HB : Hid (Blw w w2) := HB.out.trans hb
  have H2P : Hid (St (fun x => x < w2.heap.size) (fun W => KAt 3 (fun x => x < w2.heap.size) W (some ⟨w1.heap.size, 0, none⟩) np F) w2) := KAt.st h2P (fun x hx => hx)
  clear hb row hlt h2P
  go_wp2_with fail
  refine (specTurns_any (some ⟨w1.heap.size, 0, none⟩) np np F k _ _ H2P.out.out).mono ?_
  rintro e w3 ⟨a3, n3, c3, F3, u3, m3, q3, g3, b3, rfl, ho, own, hb⟩
  clear H2P
  have HO3 : Hid (gtsOut np F k n3 F3 m3 g3 b3) := ho
  have HS3 : Hid _ := gtsOut_small ho
  replace HP : Hid (St (fun x => x < w.heap.size) (fun W => KAt 3 (fun x => x < w.heap.size) W ap np F) w3) := HP.out.blw hb
  replace HB : Hid (Blw w w3) := HB.out.trans hb
  obtain ⟨M3, hM3, K3, I3⟩ := own
  have H3L : Hid (St (fun x => x < w3.heap.size) (fun W => KAt 3 (fun x => x < w3.heap.size) W a3 n3 F3) w3) := KAt.st (K3.at.mono (fun x hx => Nat.lt_of_lt_of_le hx.2 hM3.2)) (fun x hx => hx)
  have H3I : Hid (St (fun x => x < w3.heap.size) (fun W => IntsAt (fun x => x < w3.heap.size) W u3 m3 g3) w3) := IntsAt.st9 (I3.at.mono (fun x hx => hx.2)) (fun x hx => hx)
  clear hb ho K3 I3 hM3
  have HN0 : Hid (w.heap.size ≤ w3.heap.size) := HB.out.size
  go_wp2_with fail
  refine (toCli_any ap cp np F _ _ hnp2 HP.out.out).mono ?_
  rintro e w4 ⟨rfl, row, hb⟩
  have hlt := row.lt
  have HN1 : Hid (w3.heap.size ≤ w3.heap.size ∧ w3.heap.size < w4.heap.size) := ⟨by have hbo := HB.out.size; have o0 := HN0.out; omega, hlt⟩
  have h4P : KOwn 3 (fun x => w3.heap.size ≤ x ∧ x < w4.heap.size) w4 (some ⟨w3.heap.size, 0, none⟩) np F := ⟨by omega, fun _ => ⟨_, HN1.out, rfl, row⟩⟩
  replace HP : Hid (St (fun x => x < w.heap.size) (fun W => KAt 3 (fun x => x < w.heap.size) W ap np F) w4) := HP.out.blw hb
  replace H3L : Hid (St (fun x => x < w3.heap.size) (fun W => KAt 3 (fun x => x < w3.heap.size) W a3 n3 F3) w4) := H3L.out.blw hb
  replace H3I : Hid (St (fun x => x < w3.heap.size) (fun W => IntsAt (fun x => x < w3.heap.size) W u3 m3 g3) w4) := H3I.out.blw hb
  replace HB : Hid (Blw w w4) := HB.out.trans hb
  have H4P : Hid (St (fun x => w3.heap.size ≤ x ∧ x < w4.heap.size) (fun W => KOwn 3 (fun x => w3.heap.size ≤ x ∧ x < w4.heap.size) W (some ⟨w3.heap.size, 0, none⟩) np F) w4) := KOwn.st h4P (fun x hx => hx.2)
  clear hb row hlt h4P
  go_wp2_with fail
  refine (implTurns_any (some ⟨w3.heap.size, 0, none⟩) np np F k _ _ (HT.out.blw HB.out) (H4P.out.out.at)).mono ?_
  rintro e w5 ⟨a5, n5, c5, F5, u5, m5, q5, g5, b5, rfl, ho, own, hb⟩
  obtain ⟨en, eF, em, eg, eb⟩ := gtsOut_same ho HO3.out
  subst en eF em eg eb
  have hz := hb.size
  have HN2 : Hid (w4.heap.size ≤ w4.heap.size ∧ w4.heap.size ≤ w5.heap.size) := by have hbo := HB.out.size; have o0 := HN0.out; have o1 := HN1.out; exact ⟨by omega, by omega⟩
  replace HP : Hid (St (fun x => x < w.heap.size) (fun W => KAt 3 (fun x => x < w.heap.size) W ap np F) w5) := HP.out.blw hb
  replace H3L : Hid (St (fun x => x < w3.heap.size) (fun W => KAt 3 (fun x => x < w3.heap.size) W a3 n5 F5) w5) := H3L.out.blw hb
  replace H3I : Hid (St (fun x => x < w3.heap.size) (fun W => IntsAt (fun x => x < w3.heap.size) W u3 m5 g5) w5) := H3I.out.blw hb
  replace H4P : Hid (St (fun x => w3.heap.size ≤ x ∧ x < w4.heap.size) (fun W => KOwn 3 (fun x => w3.heap.size ≤ x ∧ x < w4.heap.size) W (some ⟨w3.heap.size, 0, none⟩) np F) w5) := H4P.out.blw hb
  replace HB : Hid (Blw w w5) := HB.out.trans hb
  obtain ⟨M5, hM5, K5, I5⟩ := own
  have HM5 : Hid (w4.heap.size ≤ M5 ∧ M5 ≤ w5.heap.size) := hM5
  have H5L : Hid (St (fun x => w4.heap.size ≤ x ∧ x < M5) (fun W => KOwn 3 (fun x => w4.heap.size ≤ x ∧ x < M5) W a5 n5 F5) w5) := KOwn.st K5 (fun x hx => by have o0 := HN0.out; have o1 := HN1.out; have o2 := HN2.out; have o3 := HM5.out; omega)
  have H5I : Hid (St (fun x => M5 ≤ x ∧ x < w5.heap.size) (fun W => IntsOwn (fun x => M5 ≤ x ∧ x < w5.heap.size) W u5 m5 g5) w5) := IntsOwn.st9 I5 (fun x hx => by have o0 := HN0.out; have o1 := HN1.out; have o2 := HN2.out; have o3 := HM5.out; omega)
  clear hb ho hz K5 I5 hM5
  have hne : (b5 != b5) = false := by simp
  go_wp2_with fail
  refine (eqCli_same _ _ _ _ n5 F5 _ H5L.out.out.at H3L.out.out).mono ?_
  rintro e w6 ⟨rfl, hb⟩
  replace HP : Hid (St (fun x => x < w.heap.size) (fun W => KAt 3 (fun x => x < w.heap.size) W ap np F) w6) := HP.out.blw hb
  replace H3L : Hid (St (fun x => x < w3.heap.size) (fun W => KAt 3 (fun x => x < w3.heap.size) W a3 n5 F5) w6) := H3L.out.blw hb
  replace H3I : Hid (St (fun x => x < w3.heap.size) (fun W => IntsAt (fun x => x < w3.heap.size) W u3 m5 g5) w6) := H3I.out.blw hb
  replace H4P : Hid (St (fun x => w3.heap.size ≤ x ∧ x < w4.heap.size) (fun W => KOwn 3 (fun x => w3.heap.size ≤ x ∧ x < w4.heap.size) W (some ⟨w3.heap.size, 0, none⟩) np F) w6) := H4P.out.blw hb
  replace H5L : Hid (St (fun x => w4.heap.size ≤ x ∧ x < M5) (fun W => KOwn 3 (fun x => w4.heap.size ≤ x ∧ x < M5) W a5 n5 F5) w6) := H5L.out.blw hb
  replace H5I : Hid (St (fun x => M5 ≤ x ∧ x < w5.heap.size) (fun W => IntsOwn (fun x => M5 ≤ x ∧ x < w5.heap.size) W u5 m5 g5) w6) := H5I.out.blw hb
  replace HB : Hid (Blw w w6) := HB.out.trans hb
  clear hb
  go_wp2_with fail
  refine (eqIntS_blw _ _ _ _ m5 g5 _ H5I.out.out.at H3I.out.out).mono ?_
  rintro e w7 ⟨rfl, hb⟩
  replace HP : Hid (St (fun x => x < w.heap.size) (fun W => KAt 3 (fun x => x < w.heap.size) W ap np F) w7) := HP.out.blw hb
  replace H3L : Hid (St (fun x => x < w3.heap.size) (fun W => KAt 3 (fun x => x < w3.heap.size) W a3 n5 F5) w7) := H3L.out.blw hb
  replace H3I : Hid (St (fun x => x < w3.heap.size) (fun W => IntsAt (fun x => x < w3.heap.size) W u3 m5 g5) w7) := H3I.out.blw hb
  replace H4P : Hid (St (fun x => w3.heap.size ≤ x ∧ x < w4.heap.size) (fun W => KOwn 3 (fun x => w3.heap.size ≤ x ∧ x < w4.heap.size) W (some ⟨w3.heap.size, 0, none⟩) np F) w7) := H4P.out.blw hb
  replace H5L : Hid (St (fun x => w4.heap.size ≤ x ∧ x < M5) (fun W => KOwn 3 (fun x => w4.heap.size ≤ x ∧ x < M5) W a5 n5 F5) w7) := H5L.out.blw hb
  replace H5I : Hid (St (fun x => M5 ≤ x ∧ x < w5.heap.size) (fun W => IntsOwn (fun x => M5 ≤ x ∧ x < w5.heap.size) W u5 m5 g5) w7) := H5I.out.blw hb
  replace HB : Hid (Blw w w7) := HB.out.trans hb
  clear hb
  go_wp2_with fail
  refine (toCli_any ap cp np F _ _ hnp2 HP.out.out).mono ?_
  rintro e w8 ⟨rfl, row, hb⟩
  have hlt := row.lt
  have C6 : Hid (KAt 3 (fun x => x < w8.heap.size) w8 (some ⟨w7.heap.size, 0, none⟩) np F) := (show KOwn 3 (fun x => x < w8.heap.size) w8 (some ⟨w7.heap.size, 0, none⟩) np F from ⟨by omega, fun _ => ⟨_, hlt, rfl, row⟩⟩).at
  replace HP : Hid (St (fun x => x < w.heap.size) (fun W => KAt 3 (fun x => x < w.heap.size) W ap np F) w8) := HP.out.blw hb
  replace H3L : Hid (St (fun x => x < w3.heap.size) (fun W => KAt 3 (fun x => x < w3.heap.size) W a3 n5 F5) w8) := H3L.out.blw hb
  replace H3I : Hid (St (fun x => x < w3.heap.size) (fun W => IntsAt (fun x => x < w3.heap.size) W u3 m5 g5) w8) := H3I.out.blw hb
  replace H4P : Hid (St (fun x => w3.heap.size ≤ x ∧ x < w4.heap.size) (fun W => KOwn 3 (fun x => w3.heap.size ≤ x ∧ x < w4.heap.size) W (some ⟨w3.heap.size, 0, none⟩) np F) w8) := H4P.out.blw hb
  replace H5L : Hid (St (fun x => w4.heap.size ≤ x ∧ x < M5) (fun W => KOwn 3 (fun x => w4.heap.size ≤ x ∧ x < M5) W a5 n5 F5) w8) := H5L.out.blw hb
  replace H5I : Hid (St (fun x => M5 ≤ x ∧ x < w5.heap.size) (fun W => IntsOwn (fun x => M5 ≤ x ∧ x < w5.heap.size) W u5 m5 g5) w8) := H5I.out.blw hb
  replace HB : Hid (Blw w w8) := HB.out.trans hb
  clear hb row hlt
  go_wp2_with fail
  refine (eqCli_same _ _ _ _ np F _ (H4P.out.out.at) C6.out).mono ?_
  rintro e w9 ⟨rfl, hb⟩
  replace HP : Hid (St (fun x => x < w.heap.size) (fun W => KAt 3 (fun x => x < w.heap.size) W ap np F) w9) := HP.out.blw hb
  replace H3L : Hid (St (fun x => x < w3.heap.size) (fun W => KAt 3 (fun x => x < w3.heap.size) W a3 n5 F5) w9) := H3L.out.blw hb
  replace H3I : Hid (St (fun x => x < w3.heap.size) (fun W => IntsAt (fun x => x < w3.heap.size) W u3 m5 g5) w9) := H3I.out.blw hb
  replace H4P : Hid (St (fun x => w3.heap.size ≤ x ∧ x < w4.heap.size) (fun W => KOwn 3 (fun x => w3.heap.size ≤ x ∧ x < w4.heap.size) W (some ⟨w3.heap.size, 0, none⟩) np F) w9) := H4P.out.blw hb
  replace H5L : Hid (St (fun x => w4.heap.size ≤ x ∧ x < M5) (fun W => KOwn 3 (fun x => w4.heap.size ≤ x ∧ x < M5) W a5 n5 F5) w9) := H5L.out.blw hb
  replace H5I : Hid (St (fun x => M5 ≤ x ∧ x < w5.heap.size) (fun W => IntsOwn (fun x => M5 ≤ x ∧ x < w5.heap.size) W u5 m5 g5) w9) := H5I.out.blw hb
  replace HB : Hid (Blw w w9) := HB.out.trans hb
  clear hb C6
  go_wp2_with fail
  refine (markCli_any _ np np F _ (1) _ (by omega) (by omega) H4P.out.out).mono ?_
  rintro e w10 ⟨rfl, own, hm⟩
  have s4 := hm.size
  replace HP : Hid (St (fun x => x < w.heap.size) (fun W => KAt 3 (fun x => x < w.heap.size) W ap np F) w10) := HP.out.mod hm (fun x hx hz => by have o0 := HN0.out; have o1 := HN1.out; have o2 := HN2.out; have o3 := HM5.out; have hz' : w3.heap.size ≤ x ∧ x < w4.heap.size := hz; have hx' : x < w.heap.size := hx; omega)
  replace H3L : Hid (St (fun x => x < w3.heap.size) (fun W => KAt 3 (fun x => x < w3.heap.size) W a3 n5 F5) w10) := H3L.out.mod hm (fun x hx hz => by have o0 := HN0.out; have o1 := HN1.out; have o2 := HN2.out; have o3 := HM5.out; have hz' : w3.heap.size ≤ x ∧ x < w4.heap.size := hz; have hx' : x < w3.heap.size := hx; omega)
  replace H3I : Hid (St (fun x => x < w3.heap.size) (fun W => IntsAt (fun x => x < w3.heap.size) W u3 m5 g5) w10) := H3I.out.mod hm (fun x hx hz => by have o0 := HN0.out; have o1 := HN1.out; have o2 := HN2.out; have o3 := HM5.out; have hz' : w3.heap.size ≤ x ∧ x < w4.heap.size := hz; have hx' : x < w3.heap.size := hx; omega)
  replace H5L : Hid (St (fun x => w4.heap.size ≤ x ∧ x < M5) (fun W => KOwn 3 (fun x => w4.heap.size ≤ x ∧ x < M5) W a5 n5 F5) w10) := H5L.out.mod hm (fun x hx hz => by have o0 := HN0.out; have o1 := HN1.out; have o2 := HN2.out; have o3 := HM5.out; have hz' : w3.heap.size ≤ x ∧ x < w4.heap.size := hz; have hx' : w4.heap.size ≤ x ∧ x < M5 := hx; omega)
  replace H5I : Hid (St (fun x => M5 ≤ x ∧ x < w5.heap.size) (fun W => IntsOwn (fun x => M5 ≤ x ∧ x < w5.heap.size) W u5 m5 g5) w10) := H5I.out.mod hm (fun x hx hz => by have o0 := HN0.out; have o1 := HN1.out; have o2 := HN2.out; have o3 := HM5.out; have hz' : w3.heap.size ≤ x ∧ x < w4.heap.size := hz; have hx' : M5 ≤ x ∧ x < w5.heap.size := hx; omega)
  replace HB : Hid (Blw w w10) := Mod.blw HB.out hm (fun x hz => by have o0 := HN0.out; have o1 := HN1.out; have o2 := HN2.out; have o3 := HM5.out; have hz' : w3.heap.size ≤ x ∧ x < w4.heap.size := hz; omega)
  replace H4P : Hid (St (fun x => w3.heap.size ≤ x ∧ x < w4.heap.size) (fun W => KOwn 3 (fun x => w3.heap.size ≤ x ∧ x < w4.heap.size) W (some ⟨w3.heap.size, 0, none⟩) np (mkK 3 (1))) w10) := KOwn.st own (fun x hx => Nat.lt_of_lt_of_le (H4P.out.1 x hx) s4)
  clear own hm s4
  have k1 : ¬ (1 + 3 * (np : Int) < 0) := by omega
  go_wp2_with fail
  refine (eqCli_same _ _ _ _ n5 F5 _ H5L.out.out.at H3L.out.out).mono ?_
  rintro e w11 ⟨rfl, hb⟩
  replace HP : Hid (St (fun x => x < w.heap.size) (fun W => KAt 3 (fun x => x < w.heap.size) W ap np F) w11) := HP.out.blw hb
  replace H3L : Hid (St (fun x => x < w3.heap.size) (fun W => KAt 3 (fun x => x < w3.heap.size) W a3 n5 F5) w11) := H3L.out.blw hb
  replace H3I : Hid (St (fun x => x < w3.heap.size) (fun W => IntsAt (fun x => x < w3.heap.size) W u3 m5 g5) w11) := H3I.out.blw hb
  replace H4P : Hid (St (fun x => w3.heap.size ≤ x ∧ x < w4.heap.size) (fun W => KOwn 3 (fun x => w3.heap.size ≤ x ∧ x < w4.heap.size) W (some ⟨w3.heap.size, 0, none⟩) np (mkK 3 (1))) w11) := H4P.out.blw hb
  replace H5L : Hid (St (fun x => w4.heap.size ≤ x ∧ x < M5) (fun W => KOwn 3 (fun x => w4.heap.size ≤ x ∧ x < M5) W a5 n5 F5) w11) := H5L.out.blw hb
  replace H5I : Hid (St (fun x => M5 ≤ x ∧ x < w5.heap.size) (fun W => IntsOwn (fun x => M5 ≤ x ∧ x < w5.heap.size) W u5 m5 g5) w11) := H5I.out.blw hb
  replace HB : Hid (Blw w w11) := HB.out.trans hb
  clear hb
  go_wp2_with fail
  refine (eqIntS_blw _ _ _ _ m5 g5 _ H5I.out.out.at H3I.out.out).mono ?_
  rintro e w12 ⟨rfl, hb⟩
  replace HP : Hid (St (fun x => x < w.heap.size) (fun W => KAt 3 (fun x => x < w.heap.size) W ap np F) w12) := HP.out.blw hb
  replace H3L : Hid (St (fun x => x < w3.heap.size) (fun W => KAt 3 (fun x => x < w3.heap.size) W a3 n5 F5) w12) := H3L.out.blw hb
  replace H3I : Hid (St (fun x => x < w3.heap.size) (fun W => IntsAt (fun x => x < w3.heap.size) W u3 m5 g5) w12) := H3I.out.blw hb
  replace H4P : Hid (St (fun x => w3.heap.size ≤ x ∧ x < w4.heap.size) (fun W => KOwn 3 (fun x => w3.heap.size ≤ x ∧ x < w4.heap.size) W (some ⟨w3.heap.size, 0, none⟩) np (mkK 3 (1))) w12) := H4P.out.blw hb
  replace H5L : Hid (St (fun x => w4.heap.size ≤ x ∧ x < M5) (fun W => KOwn 3 (fun x => w4.heap.size ≤ x ∧ x < M5) W a5 n5 F5) w12) := H5L.out.blw hb
  replace H5I : Hid (St (fun x => M5 ≤ x ∧ x < w5.heap.size) (fun W => IntsOwn (fun x => M5 ≤ x ∧ x < w5.heap.size) W u5 m5 g5) w12) := H5I.out.blw hb
  replace HB : Hid (Blw w w12) := HB.out.trans hb
  clear hb
  clear k1
  have hsm := HS3.out
  go_wp2_with fail
  refine (markCli_any a5 c5 n5 F5 _ (1) _ (by omega) (by omega) H5L.out.out).mono ?_
  rintro e w13 ⟨rfl, own, hm⟩
  have s4 := hm.size
  replace HP : Hid (St (fun x => x < w.heap.size) (fun W => KAt 3 (fun x => x < w.heap.size) W ap np F) w13) := HP.out.mod hm (fun x hx hz => by have o0 := HN0.out; have o1 := HN1.out; have o2 := HN2.out; have o3 := HM5.out; have hz' : w4.heap.size ≤ x ∧ x < M5 := hz; have hx' : x < w.heap.size := hx; omega)
  replace H3L : Hid (St (fun x => x < w3.heap.size) (fun W => KAt 3 (fun x => x < w3.heap.size) W a3 n5 F5) w13) := H3L.out.mod hm (fun x hx hz => by have o0 := HN0.out; have o1 := HN1.out; have o2 := HN2.out; have o3 := HM5.out; have hz' : w4.heap.size ≤ x ∧ x < M5 := hz; have hx' : x < w3.heap.size := hx; omega)
  replace H3I : Hid (St (fun x => x < w3.heap.size) (fun W => IntsAt (fun x => x < w3.heap.size) W u3 m5 g5) w13) := H3I.out.mod hm (fun x hx hz => by have o0 := HN0.out; have o1 := HN1.out; have o2 := HN2.out; have o3 := HM5.out; have hz' : w4.heap.size ≤ x ∧ x < M5 := hz; have hx' : x < w3.heap.size := hx; omega)
  replace H4P : Hid (St (fun x => w3.heap.size ≤ x ∧ x < w4.heap.size) (fun W => KOwn 3 (fun x => w3.heap.size ≤ x ∧ x < w4.heap.size) W (some ⟨w3.heap.size, 0, none⟩) np (mkK 3 (1))) w13) := H4P.out.mod hm (fun x hx hz => by have o0 := HN0.out; have o1 := HN1.out; have o2 := HN2.out; have o3 := HM5.out; have hz' : w4.heap.size ≤ x ∧ x < M5 := hz; have hx' : w3.heap.size ≤ x ∧ x < w4.heap.size := hx; omega)
  replace H5I : Hid (St (fun x => M5 ≤ x ∧ x < w5.heap.size) (fun W => IntsOwn (fun x => M5 ≤ x ∧ x < w5.heap.size) W u5 m5 g5) w13) := H5I.out.mod hm (fun x hx hz => by have o0 := HN0.out; have o1 := HN1.out; have o2 := HN2.out; have o3 := HM5.out; have hz' : w4.heap.size ≤ x ∧ x < M5 := hz; have hx' : M5 ≤ x ∧ x < w5.heap.size := hx; omega)
  replace HB : Hid (Blw w w13) := Mod.blw HB.out hm (fun x hz => by have o0 := HN0.out; have o1 := HN1.out; have o2 := HN2.out; have o3 := HM5.out; have hz' : w4.heap.size ≤ x ∧ x < M5 := hz; omega)
  replace H5L : Hid (St (fun x => w4.heap.size ≤ x ∧ x < M5) (fun W => KOwn 3 (fun x => w4.heap.size ≤ x ∧ x < M5) W a5 n5 (mkK 3 (1))) w13) := KOwn.st own (fun x hx => Nat.lt_of_lt_of_le (H5L.out.1 x hx) s4)
  clear own hm s4
  go_wp2_with fail
  refine (markIntS_any u5 q5 m5 g5 _ (1 + 3 * (n5 : Int)) _ (by omega) (by omega) H5I.out.out).mono ?_
  rintro e w14 ⟨rfl, own, hm⟩
  have s4 := hm.size
  replace HP : Hid (St (fun x => x < w.heap.size) (fun W => KAt 3 (fun x => x < w.heap.size) W ap np F) w14) := HP.out.mod hm (fun x hx hz => by have o0 := HN0.out; have o1 := HN1.out; have o2 := HN2.out; have o3 := HM5.out; have hz' : M5 ≤ x ∧ x < w5.heap.size := hz.1; have hx' : x < w.heap.size := hx; omega)
  replace H3L : Hid (St (fun x => x < w3.heap.size) (fun W => KAt 3 (fun x => x < w3.heap.size) W a3 n5 F5) w14) := H3L.out.mod hm (fun x hx hz => by have o0 := HN0.out; have o1 := HN1.out; have o2 := HN2.out; have o3 := HM5.out; have hz' : M5 ≤ x ∧ x < w5.heap.size := hz.1; have hx' : x < w3.heap.size := hx; omega)
  replace H3I : Hid (St (fun x => x < w3.heap.size) (fun W => IntsAt (fun x => x < w3.heap.size) W u3 m5 g5) w14) := H3I.out.mod hm (fun x hx hz => by have o0 := HN0.out; have o1 := HN1.out; have o2 := HN2.out; have o3 := HM5.out; have hz' : M5 ≤ x ∧ x < w5.heap.size := hz.1; have hx' : x < w3.heap.size := hx; omega)
  replace H4P : Hid (St (fun x => w3.heap.size ≤ x ∧ x < w4.heap.size) (fun W => KOwn 3 (fun x => w3.heap.size ≤ x ∧ x < w4.heap.size) W (some ⟨w3.heap.size, 0, none⟩) np (mkK 3 (1))) w14) := H4P.out.mod hm (fun x hx hz => by have o0 := HN0.out; have o1 := HN1.out; have o2 := HN2.out; have o3 := HM5.out; have hz' : M5 ≤ x ∧ x < w5.heap.size := hz.1; have hx' : w3.heap.size ≤ x ∧ x < w4.heap.size := hx; omega)
  replace H5L : Hid (St (fun x => w4.heap.size ≤ x ∧ x < M5) (fun W => KOwn 3 (fun x => w4.heap.size ≤ x ∧ x < M5) W a5 n5 (mkK 3 (1))) w14) := H5L.out.mod hm (fun x hx hz => by have o0 := HN0.out; have o1 := HN1.out; have o2 := HN2.out; have o3 := HM5.out; have hz' : M5 ≤ x ∧ x < w5.heap.size := hz.1; have hx' : w4.heap.size ≤ x ∧ x < M5 := hx; omega)
  replace HB : Hid (Blw w w14) := Mod.blw HB.out hm (fun x hz => by have o0 := HN0.out; have o1 := HN1.out; have o2 := HN2.out; have o3 := HM5.out; have hz' : M5 ≤ x ∧ x < w5.heap.size := hz.1; omega)
  replace H5I : Hid (St (fun x => M5 ≤ x ∧ x < w5.heap.size) (fun W => IntsOwn (fun x => M5 ≤ x ∧ x < w5.heap.size) W u5 m5 (fun i => 1 + 3 * (n5 : Int) + (i : Int))) w14) := IntsOwn.st9 own (fun x hx => Nat.lt_of_lt_of_le (H5I.out.1 x hx) s4)
  clear own hm s4
  have k1 : ¬ (1 + 3 * (n5 : Int) < 0) := by omega
  have k2 : ¬ (1 + 3 * (n5 : Int) + (m5 : Int) < 0) := by omega
  have k9 : ((1 + 3 * (n5 : Int) + (m5 : Int)) != (1 + 3 * (n5 : Int) + (m5 : Int))) = false := by simp
  go_wp2_with fail
  refine (heldCli_any a5 c5 n5 _ (1) _ (by omega) (by omega) H5L.out.out).mono ?_
  rintro e w15 ⟨rfl, hb⟩
  replace HP : Hid (St (fun x => x < w.heap.size) (fun W => KAt 3 (fun x => x < w.heap.size) W ap np F) w15) := HP.out.blw hb
  replace H3L : Hid (St (fun x => x < w3.heap.size) (fun W => KAt 3 (fun x => x < w3.heap.size) W a3 n5 F5) w15) := H3L.out.blw hb
  replace H3I : Hid (St (fun x => x < w3.heap.size) (fun W => IntsAt (fun x => x < w3.heap.size) W u3 m5 g5) w15) := H3I.out.blw hb
  replace H4P : Hid (St (fun x => w3.heap.size ≤ x ∧ x < w4.heap.size) (fun W => KOwn 3 (fun x => w3.heap.size ≤ x ∧ x < w4.heap.size) W (some ⟨w3.heap.size, 0, none⟩) np (mkK 3 (1))) w15) := H4P.out.blw hb
  replace H5L : Hid (St (fun x => w4.heap.size ≤ x ∧ x < M5) (fun W => KOwn 3 (fun x => w4.heap.size ≤ x ∧ x < M5) W a5 n5 (mkK 3 (1))) w15) := H5L.out.blw hb
  replace H5I : Hid (St (fun x => M5 ≤ x ∧ x < w5.heap.size) (fun W => IntsOwn (fun x => M5 ≤ x ∧ x < w5.heap.size) W u5 m5 (fun i => 1 + 3 * (n5 : Int) + (i : Int))) w15) := H5I.out.blw hb
  replace HB : Hid (Blw w w15) := HB.out.trans hb
  clear hb
  go_wp2_with fail
  refine (heldIntS_any u5 q5 m5 _ (1 + 3 * (n5 : Int)) _ (by omega) (by omega) H5I.out.out.at).mono ?_
  rintro e w16 ⟨rfl, hb⟩
  replace HP : Hid (St (fun x => x < w.heap.size) (fun W => KAt 3 (fun x => x < w.heap.size) W ap np F) w16) := HP.out.blw hb
  replace H3L : Hid (St (fun x => x < w3.heap.size) (fun W => KAt 3 (fun x => x < w3.heap.size) W a3 n5 F5) w16) := H3L.out.blw hb
  replace H3I : Hid (St (fun x => x < w3.heap.size) (fun W => IntsAt (fun x => x < w3.heap.size) W u3 m5 g5) w16) := H3I.out.blw hb
  replace H4P : Hid (St (fun x => w3.heap.size ≤ x ∧ x < w4.heap.size) (fun W => KOwn 3 (fun x => w3.heap.size ≤ x ∧ x < w4.heap.size) W (some ⟨w3.heap.size, 0, none⟩) np (mkK 3 (1))) w16) := H4P.out.blw hb
  replace H5L : Hid (St (fun x => w4.heap.size ≤ x ∧ x < M5) (fun W => KOwn 3 (fun x => w4.heap.size ≤ x ∧ x < M5) W a5 n5 (mkK 3 (1))) w16) := H5L.out.blw hb
  replace H5I : Hid (St (fun x => M5 ≤ x ∧ x < w5.heap.size) (fun W => IntsOwn (fun x => M5 ≤ x ∧ x < w5.heap.size) W u5 m5 (fun i => 1 + 3 * (n5 : Int) + (i : Int))) w16) := H5I.out.blw hb
  replace HB : Hid (Blw w w16) := HB.out.trans hb
  clear hb
  go_wp2_with fail
  refine (toCli_any ap cp np F _ _ hnp2 HP.out.out).mono ?_
  rintro e w17 ⟨rfl, row, hb⟩
  have hlt := row.lt
  have h7P : KAt 3 (fun x => x < w17.heap.size) w17 (some ⟨w16.heap.size, 0, none⟩) np F := (show KOwn 3 (fun x => x < w17.heap.size) w17 (some ⟨w16.heap.size, 0, none⟩) np F from ⟨by omega, fun _ => ⟨_, hlt, rfl, row⟩⟩).at
  replace HP : Hid (St (fun x => x < w.heap.size) (fun W => KAt 3 (fun x => x < w.heap.size) W ap np F) w17) := HP.out.blw hb
  replace H3L : Hid (St (fun x => x < w3.heap.size) (fun W => KAt 3 (fun x => x < w3.heap.size) W a3 n5 F5) w17) := H3L.out.blw hb
  replace H3I : Hid (St (fun x => x < w3.heap.size) (fun W => IntsAt (fun x => x < w3.heap.size) W u3 m5 g5) w17) := H3I.out.blw hb
  replace H4P : Hid (St (fun x => w3.heap.size ≤ x ∧ x < w4.heap.size) (fun W => KOwn 3 (fun x => w3.heap.size ≤ x ∧ x < w4.heap.size) W (some ⟨w3.heap.size, 0, none⟩) np (mkK 3 (1))) w17) := H4P.out.blw hb
  replace H5L : Hid (St (fun x => w4.heap.size ≤ x ∧ x < M5) (fun W => KOwn 3 (fun x => w4.heap.size ≤ x ∧ x < M5) W a5 n5 (mkK 3 (1))) w17) := H5L.out.blw hb
  replace H5I : Hid (St (fun x => M5 ≤ x ∧ x < w5.heap.size) (fun W => IntsOwn (fun x => M5 ≤ x ∧ x < w5.heap.size) W u5 m5 (fun i => 1 + 3 * (n5 : Int) + (i : Int))) w17) := H5I.out.blw hb
  replace HB : Hid (Blw w w17) := HB.out.trans hb
  have H7P : Hid (St (fun x => x < w17.heap.size) (fun W => KAt 3 (fun x => x < w17.heap.size) W (some ⟨w16.heap.size, 0, none⟩) np F) w17) := KAt.st h7P (fun x hx => hx)
  clear hb row hlt h7P
  go_wp2_with fail
  refine (implTurns_any (some ⟨w16.heap.size, 0, none⟩) np np F k _ _ (HT.out.blw HB.out) H7P.out.out).mono ?_
  rintro e w18 ⟨a8, n8, c8, F8, u8, m8, q8, g8, b8, rfl, ho, own, hb⟩
  clear H7P
  obtain ⟨en, eF, em, eg, eb⟩ := gtsOut_same ho HO3.out
  subst en eF em eg eb
  replace HP : Hid (St (fun x => x < w.heap.size) (fun W => KAt 3 (fun x => x < w.heap.size) W ap np F) w18) := HP.out.blw hb
  replace H3L : Hid (St (fun x => x < w3.heap.size) (fun W => KAt 3 (fun x => x < w3.heap.size) W a3 n8 F8) w18) := H3L.out.blw hb
  replace H3I : Hid (St (fun x => x < w3.heap.size) (fun W => IntsAt (fun x => x < w3.heap.size) W u3 m8 g8) w18) := H3I.out.blw hb
  replace H4P : Hid (St (fun x => w3.heap.size ≤ x ∧ x < w4.heap.size) (fun W => KOwn 3 (fun x => w3.heap.size ≤ x ∧ x < w4.heap.size) W (some ⟨w3.heap.size, 0, none⟩) np (mkK 3 (1))) w18) := H4P.out.blw hb
  replace H5L : Hid (St (fun x => w4.heap.size ≤ x ∧ x < M5) (fun W => KOwn 3 (fun x => w4.heap.size ≤ x ∧ x < M5) W a5 n8 (mkK 3 (1))) w18) := H5L.out.blw hb
  replace H5I : Hid (St (fun x => M5 ≤ x ∧ x < w5.heap.size) (fun W => IntsOwn (fun x => M5 ≤ x ∧ x < w5.heap.size) W u5 m8 (fun i => 1 + 3 * (n8 : Int) + (i : Int))) w18) := H5I.out.blw hb
  replace HB : Hid (Blw w w18) := HB.out.trans hb
  obtain ⟨M8, hM8, K8, I8⟩ := own
  have C8 : Hid (KAt 3 (fun x => x < w18.heap.size) w18 a8 n8 F8) := K8.at.mono (fun x hx => Nat.lt_of_lt_of_le hx.2 hM8.2)
  have D8 : Hid (IntsAt (fun x => x < w18.heap.size) w18 u8 m8 g8) := I8.at.mono (fun x hx => hx.2)
  clear hb ho K8 I8 hM8
  go_wp2_with fail
  refine (eqCli_same _ _ _ _ n8 F8 _ C8.out H3L.out.out).mono ?_
  rintro e w19 ⟨rfl, hb⟩
  replace HP : Hid (St (fun x => x < w.heap.size) (fun W => KAt 3 (fun x => x < w.heap.size) W ap np F) w19) := HP.out.blw hb
  replace H3L : Hid (St (fun x => x < w3.heap.size) (fun W => KAt 3 (fun x => x < w3.heap.size) W a3 n8 F8) w19) := H3L.out.blw hb
  replace H3I : Hid (St (fun x => x < w3.heap.size) (fun W => IntsAt (fun x => x < w3.heap.size) W u3 m8 g8) w19) := H3I.out.blw hb
  replace H4P : Hid (St (fun x => w3.heap.size ≤ x ∧ x < w4.heap.size) (fun W => KOwn 3 (fun x => w3.heap.size ≤ x ∧ x < w4.heap.size) W (some ⟨w3.heap.size, 0, none⟩) np (mkK 3 (1))) w19) := H4P.out.blw hb
  replace H5L : Hid (St (fun x => w4.heap.size ≤ x ∧ x < M5) (fun W => KOwn 3 (fun x => w4.heap.size ≤ x ∧ x < M5) W a5 n8 (mkK 3 (1))) w19) := H5L.out.blw hb
  replace H5I : Hid (St (fun x => M5 ≤ x ∧ x < w5.heap.size) (fun W => IntsOwn (fun x => M5 ≤ x ∧ x < w5.heap.size) W u5 m8 (fun i => 1 + 3 * (n8 : Int) + (i : Int))) w19) := H5I.out.blw hb
  replace HB : Hid (Blw w w19) := HB.out.trans hb
  replace D8 := D8.out.blw hb
  clear C8
  have D9 : Hid (IntsAt _ w19 u8 m8 g8) := D8
  clear D8
  clear hb
  go_wp2_with fail
  refine (eqIntS_blw _ _ _ _ m8 g8 _ D9.out H3I.out.out).mono ?_
  rintro e w20 ⟨rfl, hb⟩
  replace HP : Hid (St (fun x => x < w.heap.size) (fun W => KAt 3 (fun x => x < w.heap.size) W ap np F) w20) := HP.out.blw hb
  replace H3L : Hid (St (fun x => x < w3.heap.size) (fun W => KAt 3 (fun x => x < w3.heap.size) W a3 n8 F8) w20) := H3L.out.blw hb
  replace H3I : Hid (St (fun x => x < w3.heap.size) (fun W => IntsAt (fun x => x < w3.heap.size) W u3 m8 g8) w20) := H3I.out.blw hb
  replace H4P : Hid (St (fun x => w3.heap.size ≤ x ∧ x < w4.heap.size) (fun W => KOwn 3 (fun x => w3.heap.size ≤ x ∧ x < w4.heap.size) W (some ⟨w3.heap.size, 0, none⟩) np (mkK 3 (1))) w20) := H4P.out.blw hb
  replace H5L : Hid (St (fun x => w4.heap.size ≤ x ∧ x < M5) (fun W => KOwn 3 (fun x => w4.heap.size ≤ x ∧ x < M5) W a5 n8 (mkK 3 (1))) w20) := H5L.out.blw hb
  replace H5I : Hid (St (fun x => M5 ≤ x ∧ x < w5.heap.size) (fun W => IntsOwn (fun x => M5 ≤ x ∧ x < w5.heap.size) W u5 m8 (fun i => 1 + 3 * (n8 : Int) + (i : Int))) w20) := H5I.out.blw hb
  replace HB : Hid (Blw w w20) := HB.out.trans hb
  clear hb D9
  go_wp2_with fail
  refine (heldCli_any a5 c5 n8 _ (1) _ (by omega) (by omega) H5L.out.out).mono ?_
  rintro e w21 ⟨rfl, hb⟩
  replace HP : Hid (St (fun x => x < w.heap.size) (fun W => KAt 3 (fun x => x < w.heap.size) W ap np F) w21) := HP.out.blw hb
  replace H3L : Hid (St (fun x => x < w3.heap.size) (fun W => KAt 3 (fun x => x < w3.heap.size) W a3 n8 F8) w21) := H3L.out.blw hb
  replace H3I : Hid (St (fun x => x < w3.heap.size) (fun W => IntsAt (fun x => x < w3.heap.size) W u3 m8 g8) w21) := H3I.out.blw hb
  replace H4P : Hid (St (fun x => w3.heap.size ≤ x ∧ x < w4.heap.size) (fun W => KOwn 3 (fun x => w3.heap.size ≤ x ∧ x < w4.heap.size) W (some ⟨w3.heap.size, 0, none⟩) np (mkK 3 (1))) w21) := H4P.out.blw hb
  replace H5L : Hid (St (fun x => w4.heap.size ≤ x ∧ x < M5) (fun W => KOwn 3 (fun x => w4.heap.size ≤ x ∧ x < M5) W a5 n8 (mkK 3 (1))) w21) := H5L.out.blw hb
  replace H5I : Hid (St (fun x => M5 ≤ x ∧ x < w5.heap.size) (fun W => IntsOwn (fun x => M5 ≤ x ∧ x < w5.heap.size) W u5 m8 (fun i => 1 + 3 * (n8 : Int) + (i : Int))) w21) := H5I.out.blw hb
  replace HB : Hid (Blw w w21) := HB.out.trans hb
  clear hb
  go_wp2_with fail
  refine (heldIntS_any u5 q5 m8 _ (1 + 3 * (n8 : Int)) _ (by omega) (by omega) H5I.out.out.at).mono ?_
  rintro e w22 ⟨rfl, hb⟩
  replace HP : Hid (St (fun x => x < w.heap.size) (fun W => KAt 3 (fun x => x < w.heap.size) W ap np F) w22) := HP.out.blw hb
  replace H3L : Hid (St (fun x => x < w3.heap.size) (fun W => KAt 3 (fun x => x < w3.heap.size) W a3 n8 F8) w22) := H3L.out.blw hb
  replace H3I : Hid (St (fun x => x < w3.heap.size) (fun W => IntsAt (fun x => x < w3.heap.size) W u3 m8 g8) w22) := H3I.out.blw hb
  replace H4P : Hid (St (fun x => w3.heap.size ≤ x ∧ x < w4.heap.size) (fun W => KOwn 3 (fun x => w3.heap.size ≤ x ∧ x < w4.heap.size) W (some ⟨w3.heap.size, 0, none⟩) np (mkK 3 (1))) w22) := H4P.out.blw hb
  replace H5L : Hid (St (fun x => w4.heap.size ≤ x ∧ x < M5) (fun W => KOwn 3 (fun x => w4.heap.size ≤ x ∧ x < M5) W a5 n8 (mkK 3 (1))) w22) := H5L.out.blw hb
  replace H5I : Hid (St (fun x => M5 ≤ x ∧ x < w5.heap.size) (fun W => IntsOwn (fun x => M5 ≤ x ∧ x < w5.heap.size) W u5 m8 (fun i => 1 + 3 * (n8 : Int) + (i : Int))) w22) := H5I.out.blw hb
  replace HB : Hid (Blw w w22) := HB.out.trans hb
  clear hb
  go_wp2
  go_ret
  exact ⟨rfl, HB.out⟩
end Go.Proofs.YtneafnfdemodnaaDoor
