/- The law on NewClients. -/
import Derived.Test.YtneafnfdemodnaaDoorJoin2
namespace Go.Proofs.YtneafnfdemodnaaDoor
open Go.RowKit
set_option linter.unusedSimpArgs false
set_option linter.unusedVariables false
set_option maxRecDepth 10000 in
set_option maxHeartbeats 6400000 in
theorem lawNC (ac : Option Addr) (nc cc : Nat) (fc : Nat → Int) (w : World) (hc : IntsAt (fun x => x < w.heap.size) w ac nc fc) (hT : Tb w) : Calls Tryd.prog 5 #[.slice ac nc cc] w fun e w' => e = .returned (.bool true) ∧ Blw w w' := by
  have HB : Hid (Blw w w) := Blw.refl w
  have HT : Hid (Tb w) := hT
  clear hT
  have hnc := hc.1
  have HC : Hid (St (fun x => x < w.heap.size) (fun W => IntsAt (fun x => x < w.heap.size) W ac nc fc) w) := IntsAt.st9 hc (fun x hx => hx)
  clear hc
  go_enter Tryd.func5, Tryd.ntmps5
  by_cases hbig : (1048576 : Int) < nc
  · have d1 : decide ((nc : Int) > 1048576) = true := by simp; omega
    go_wp2
    go_ret
    exact ⟨rfl, HB.out⟩
  have d1 : decide ((nc : Int) > 1048576) = false := by simp only [decide_eq_false_iff_not]; omega
  have hnc2 : nc ≤ 1048576 := by omega
  clear hbig
  go_wp2_with fail
  refine (toIntS_any ac cc nc fc _ _ hnc2 HC.out.out).mono ?_
  rintro e w1 ⟨rfl, row, hb⟩
  clear d1
  have hlt := row.lt
  have h2C : IntsAt (fun x => x < w1.heap.size) w1 (some ⟨w.heap.size, 0, none⟩) nc fc := (show IntsOwn (fun x => x < w1.heap.size) w1 (some ⟨w.heap.size, 0, none⟩) nc fc from ⟨by omega, fun _ => ⟨_, hlt, rfl, row⟩⟩).at
  replace HC : Hid (St (fun x => x < w.heap.size) (fun W => IntsAt (fun x => x < w.heap.size) W ac nc fc) w1) := HC.out.blw hb
  replace HB : Hid (Blw w w1) := HB.out.trans hb
  have H2C : Hid (St (fun x => x < w1.heap.size) (fun W => IntsAt (fun x => x < w1.heap.size) W (some ⟨w.heap.size, 0, none⟩) nc fc) w1) := IntsAt.st9 h2C (fun x hx => hx)
  clear hb row hlt h2C
  go_wp2_with fail
  refine (specNew_any (some ⟨w.heap.size, 0, none⟩) nc nc fc _ _ hnc2 H2C.out.out).mono ?_
  rintro e w2 ⟨a3, n3, c3, F3, b3, rfl, ho, own, hb⟩
  clear H2C
  have HO3 : Hid (nwOut nc fc n3 F3 b3) := ho
  have HS3 : Hid _ := nwOut_small ho
  replace HC : Hid (St (fun x => x < w.heap.size) (fun W => IntsAt (fun x => x < w.heap.size) W ac nc fc) w2) := HC.out.blw hb
  replace HB : Hid (Blw w w2) := HB.out.trans hb
  have H3L : Hid (St (fun x => x < w2.heap.size) (fun W => KAt 3 (fun x => x < w2.heap.size) W a3 n3 F3) w2) := KAt.st (own.at.mono (fun x hx => hx.2)) (fun x hx => hx)
  clear hb ho own
  have HN0 : Hid (w.heap.size ≤ w2.heap.size) := HB.out.size
  go_wp2_with fail
  refine (toIntS_any ac cc nc fc _ _ hnc2 HC.out.out).mono ?_
  rintro e w3 ⟨rfl, row, hb⟩
  have hlt := row.lt
  have HN1 : Hid (w2.heap.size ≤ w2.heap.size ∧ w2.heap.size < w3.heap.size) := ⟨by have hbo := HB.out.size; have o0 := HN0.out; omega, hlt⟩
  have h4C : IntsOwn (fun x => w2.heap.size ≤ x ∧ x < w3.heap.size) w3 (some ⟨w2.heap.size, 0, none⟩) nc fc := ⟨by omega, fun _ => ⟨_, HN1.out, rfl, row⟩⟩
  replace HC : Hid (St (fun x => x < w.heap.size) (fun W => IntsAt (fun x => x < w.heap.size) W ac nc fc) w3) := HC.out.blw hb
  replace H3L : Hid (St (fun x => x < w2.heap.size) (fun W => KAt 3 (fun x => x < w2.heap.size) W a3 n3 F3) w3) := H3L.out.blw hb
  replace HB : Hid (Blw w w3) := HB.out.trans hb
  have H4C : Hid (St (fun x => w2.heap.size ≤ x ∧ x < w3.heap.size) (fun W => IntsOwn (fun x => w2.heap.size ≤ x ∧ x < w3.heap.size) W (some ⟨w2.heap.size, 0, none⟩) nc fc) w3) := IntsOwn.st9 h4C (fun x hx => hx.2)
  clear hb row hlt h4C
  go_wp2_with fail
  refine (implNew_any (some ⟨w2.heap.size, 0, none⟩) nc nc fc _ _ hnc2 (HT.out.blw HB.out) (H4C.out.out.at)).mono ?_
  rintro e w4 ⟨a5, n5, c5, F5, b5, rfl, ho, own, hb⟩
  obtain ⟨en, eF, eb⟩ := nwOut_same ho HO3.out
  subst en eF eb
  have hz := hb.size
  have HN2 : Hid (w3.heap.size ≤ w3.heap.size ∧ w3.heap.size ≤ w4.heap.size) := by have hbo := HB.out.size; have o0 := HN0.out; have o1 := HN1.out; exact ⟨by omega, by omega⟩
  replace HC : Hid (St (fun x => x < w.heap.size) (fun W => IntsAt (fun x => x < w.heap.size) W ac nc fc) w4) := HC.out.blw hb
  replace H3L : Hid (St (fun x => x < w2.heap.size) (fun W => KAt 3 (fun x => x < w2.heap.size) W a3 n5 F5) w4) := H3L.out.blw hb
  replace H4C : Hid (St (fun x => w2.heap.size ≤ x ∧ x < w3.heap.size) (fun W => IntsOwn (fun x => w2.heap.size ≤ x ∧ x < w3.heap.size) W (some ⟨w2.heap.size, 0, none⟩) nc fc) w4) := H4C.out.blw hb
  replace HB : Hid (Blw w w4) := HB.out.trans hb
  have H5L : Hid (St (fun x => w3.heap.size ≤ x ∧ x < w4.heap.size) (fun W => KOwn 3 (fun x => w3.heap.size ≤ x ∧ x < w4.heap.size) W a5 n5 F5) w4) := KOwn.st own (fun x hx => by have o0 := HN0.out; have o1 := HN1.out; have o2 := HN2.out; omega)
  clear hb ho hz own
  have hne : (b5 != b5) = false := by simp
  go_wp2_with fail
  refine (eqCli_same _ _ _ _ n5 F5 _ H5L.out.out.at H3L.out.out).mono ?_
  rintro e w5 ⟨rfl, hb⟩
  replace HC : Hid (St (fun x => x < w.heap.size) (fun W => IntsAt (fun x => x < w.heap.size) W ac nc fc) w5) := HC.out.blw hb
  replace H3L : Hid (St (fun x => x < w2.heap.size) (fun W => KAt 3 (fun x => x < w2.heap.size) W a3 n5 F5) w5) := H3L.out.blw hb
  replace H4C : Hid (St (fun x => w2.heap.size ≤ x ∧ x < w3.heap.size) (fun W => IntsOwn (fun x => w2.heap.size ≤ x ∧ x < w3.heap.size) W (some ⟨w2.heap.size, 0, none⟩) nc fc) w5) := H4C.out.blw hb
  replace H5L : Hid (St (fun x => w3.heap.size ≤ x ∧ x < w4.heap.size) (fun W => KOwn 3 (fun x => w3.heap.size ≤ x ∧ x < w4.heap.size) W a5 n5 F5) w5) := H5L.out.blw hb
  replace HB : Hid (Blw w w5) := HB.out.trans hb
  clear hb
  go_wp2_with fail
  refine (toIntS_any ac cc nc fc _ _ hnc2 HC.out.out).mono ?_
  rintro e w6 ⟨rfl, row, hb⟩
  have hlt := row.lt
  have C6 : Hid (IntsAt (fun x => x < w6.heap.size) w6 (some ⟨w5.heap.size, 0, none⟩) nc fc) := (show IntsOwn (fun x => x < w6.heap.size) w6 (some ⟨w5.heap.size, 0, none⟩) nc fc from ⟨by omega, fun _ => ⟨_, hlt, rfl, row⟩⟩).at
  replace HC : Hid (St (fun x => x < w.heap.size) (fun W => IntsAt (fun x => x < w.heap.size) W ac nc fc) w6) := HC.out.blw hb
  replace H3L : Hid (St (fun x => x < w2.heap.size) (fun W => KAt 3 (fun x => x < w2.heap.size) W a3 n5 F5) w6) := H3L.out.blw hb
  replace H4C : Hid (St (fun x => w2.heap.size ≤ x ∧ x < w3.heap.size) (fun W => IntsOwn (fun x => w2.heap.size ≤ x ∧ x < w3.heap.size) W (some ⟨w2.heap.size, 0, none⟩) nc fc) w6) := H4C.out.blw hb
  replace H5L : Hid (St (fun x => w3.heap.size ≤ x ∧ x < w4.heap.size) (fun W => KOwn 3 (fun x => w3.heap.size ≤ x ∧ x < w4.heap.size) W a5 n5 F5) w6) := H5L.out.blw hb
  replace HB : Hid (Blw w w6) := HB.out.trans hb
  clear hb row hlt
  go_wp2_with fail
  refine (eqIntS_blw _ _ _ _ nc fc _ (H4C.out.out.at) C6.out).mono ?_
  rintro e w7 ⟨rfl, hb⟩
  replace HC : Hid (St (fun x => x < w.heap.size) (fun W => IntsAt (fun x => x < w.heap.size) W ac nc fc) w7) := HC.out.blw hb
  replace H3L : Hid (St (fun x => x < w2.heap.size) (fun W => KAt 3 (fun x => x < w2.heap.size) W a3 n5 F5) w7) := H3L.out.blw hb
  replace H4C : Hid (St (fun x => w2.heap.size ≤ x ∧ x < w3.heap.size) (fun W => IntsOwn (fun x => w2.heap.size ≤ x ∧ x < w3.heap.size) W (some ⟨w2.heap.size, 0, none⟩) nc fc) w7) := H4C.out.blw hb
  replace H5L : Hid (St (fun x => w3.heap.size ≤ x ∧ x < w4.heap.size) (fun W => KOwn 3 (fun x => w3.heap.size ≤ x ∧ x < w4.heap.size) W a5 n5 F5) w7) := H5L.out.blw hb
  replace HB : Hid (Blw w w7) := HB.out.trans hb
  clear hb C6
  go_wp2_with fail
  refine (markIntS_any _ nc nc fc _ (1) _ (by omega) (by omega) H4C.out.out).mono ?_
  rintro e w8 ⟨rfl, own, hm⟩
  have s4 := hm.size
  replace HC : Hid (St (fun x => x < w.heap.size) (fun W => IntsAt (fun x => x < w.heap.size) W ac nc fc) w8) := HC.out.mod hm (fun x hx hz => by have o0 := HN0.out; have o1 := HN1.out; have o2 := HN2.out; have hz' : w2.heap.size ≤ x ∧ x < w3.heap.size := hz.1; have hx' : x < w.heap.size := hx; omega)
  replace H3L : Hid (St (fun x => x < w2.heap.size) (fun W => KAt 3 (fun x => x < w2.heap.size) W a3 n5 F5) w8) := H3L.out.mod hm (fun x hx hz => by have o0 := HN0.out; have o1 := HN1.out; have o2 := HN2.out; have hz' : w2.heap.size ≤ x ∧ x < w3.heap.size := hz.1; have hx' : x < w2.heap.size := hx; omega)
  replace H5L : Hid (St (fun x => w3.heap.size ≤ x ∧ x < w4.heap.size) (fun W => KOwn 3 (fun x => w3.heap.size ≤ x ∧ x < w4.heap.size) W a5 n5 F5) w8) := H5L.out.mod hm (fun x hx hz => by have o0 := HN0.out; have o1 := HN1.out; have o2 := HN2.out; have hz' : w2.heap.size ≤ x ∧ x < w3.heap.size := hz.1; have hx' : w3.heap.size ≤ x ∧ x < w4.heap.size := hx; omega)
  replace HB : Hid (Blw w w8) := Mod.blw HB.out hm (fun x hz => by have o0 := HN0.out; have o1 := HN1.out; have o2 := HN2.out; have hz' : w2.heap.size ≤ x ∧ x < w3.heap.size := hz.1; omega)
  replace H4C : Hid (St (fun x => w2.heap.size ≤ x ∧ x < w3.heap.size) (fun W => IntsOwn (fun x => w2.heap.size ≤ x ∧ x < w3.heap.size) W (some ⟨w2.heap.size, 0, none⟩) nc (fun i => 1 + (i : Int))) w8) := IntsOwn.st9 own (fun x hx => Nat.lt_of_lt_of_le (H4C.out.1 x hx) s4)
  clear own hm s4
  have k1 : ¬ (1 + (nc : Int) < 0) := by omega
  go_wp2_with fail
  refine (eqCli_same _ _ _ _ n5 F5 _ H5L.out.out.at H3L.out.out).mono ?_
  rintro e w9 ⟨rfl, hb⟩
  replace HC : Hid (St (fun x => x < w.heap.size) (fun W => IntsAt (fun x => x < w.heap.size) W ac nc fc) w9) := HC.out.blw hb
  replace H3L : Hid (St (fun x => x < w2.heap.size) (fun W => KAt 3 (fun x => x < w2.heap.size) W a3 n5 F5) w9) := H3L.out.blw hb
  replace H4C : Hid (St (fun x => w2.heap.size ≤ x ∧ x < w3.heap.size) (fun W => IntsOwn (fun x => w2.heap.size ≤ x ∧ x < w3.heap.size) W (some ⟨w2.heap.size, 0, none⟩) nc (fun i => 1 + (i : Int))) w9) := H4C.out.blw hb
  replace H5L : Hid (St (fun x => w3.heap.size ≤ x ∧ x < w4.heap.size) (fun W => KOwn 3 (fun x => w3.heap.size ≤ x ∧ x < w4.heap.size) W a5 n5 F5) w9) := H5L.out.blw hb
  replace HB : Hid (Blw w w9) := HB.out.trans hb
  clear hb
  clear k1
  have hsm := HS3.out
  go_wp2_with fail
  refine (markCli_any a5 c5 n5 F5 _ (1) _ (by omega) (by omega) H5L.out.out).mono ?_
  rintro e w10 ⟨rfl, own, hm⟩
  have s4 := hm.size
  replace HC : Hid (St (fun x => x < w.heap.size) (fun W => IntsAt (fun x => x < w.heap.size) W ac nc fc) w10) := HC.out.mod hm (fun x hx hz => by have o0 := HN0.out; have o1 := HN1.out; have o2 := HN2.out; have hz' : w3.heap.size ≤ x ∧ x < w4.heap.size := hz; have hx' : x < w.heap.size := hx; omega)
  replace H3L : Hid (St (fun x => x < w2.heap.size) (fun W => KAt 3 (fun x => x < w2.heap.size) W a3 n5 F5) w10) := H3L.out.mod hm (fun x hx hz => by have o0 := HN0.out; have o1 := HN1.out; have o2 := HN2.out; have hz' : w3.heap.size ≤ x ∧ x < w4.heap.size := hz; have hx' : x < w2.heap.size := hx; omega)
  replace H4C : Hid (St (fun x => w2.heap.size ≤ x ∧ x < w3.heap.size) (fun W => IntsOwn (fun x => w2.heap.size ≤ x ∧ x < w3.heap.size) W (some ⟨w2.heap.size, 0, none⟩) nc (fun i => 1 + (i : Int))) w10) := H4C.out.mod hm (fun x hx hz => by have o0 := HN0.out; have o1 := HN1.out; have o2 := HN2.out; have hz' : w3.heap.size ≤ x ∧ x < w4.heap.size := hz; have hx' : w2.heap.size ≤ x ∧ x < w3.heap.size := hx; omega)
  replace HB : Hid (Blw w w10) := Mod.blw HB.out hm (fun x hz => by have o0 := HN0.out; have o1 := HN1.out; have o2 := HN2.out; have hz' : w3.heap.size ≤ x ∧ x < w4.heap.size := hz; omega)
  replace H5L : Hid (St (fun x => w3.heap.size ≤ x ∧ x < w4.heap.size) (fun W => KOwn 3 (fun x => w3.heap.size ≤ x ∧ x < w4.heap.size) W a5 n5 (mkK 3 (1))) w10) := KOwn.st own (fun x hx => Nat.lt_of_lt_of_le (H5L.out.1 x hx) s4)
  clear own hm s4
  have k1 : ¬ (1 + 3 * (n5 : Int) < 0) := by omega
  have k9 : ((1 + 3 * (n5 : Int)) != (1 + 3 * (n5 : Int))) = false := by simp
  go_wp2_with fail
  refine (heldCli_any a5 c5 n5 _ (1) _ (by omega) (by omega) H5L.out.out).mono ?_
  rintro e w11 ⟨rfl, hb⟩
  replace HC : Hid (St (fun x => x < w.heap.size) (fun W => IntsAt (fun x => x < w.heap.size) W ac nc fc) w11) := HC.out.blw hb
  replace H3L : Hid (St (fun x => x < w2.heap.size) (fun W => KAt 3 (fun x => x < w2.heap.size) W a3 n5 F5) w11) := H3L.out.blw hb
  replace H4C : Hid (St (fun x => w2.heap.size ≤ x ∧ x < w3.heap.size) (fun W => IntsOwn (fun x => w2.heap.size ≤ x ∧ x < w3.heap.size) W (some ⟨w2.heap.size, 0, none⟩) nc (fun i => 1 + (i : Int))) w11) := H4C.out.blw hb
  replace H5L : Hid (St (fun x => w3.heap.size ≤ x ∧ x < w4.heap.size) (fun W => KOwn 3 (fun x => w3.heap.size ≤ x ∧ x < w4.heap.size) W a5 n5 (mkK 3 (1))) w11) := H5L.out.blw hb
  replace HB : Hid (Blw w w11) := HB.out.trans hb
  clear hb
  go_wp2_with fail
  refine (toIntS_any ac cc nc fc _ _ hnc2 HC.out.out).mono ?_
  rintro e w12 ⟨rfl, row, hb⟩
  have hlt := row.lt
  have h7C : IntsAt (fun x => x < w12.heap.size) w12 (some ⟨w11.heap.size, 0, none⟩) nc fc := (show IntsOwn (fun x => x < w12.heap.size) w12 (some ⟨w11.heap.size, 0, none⟩) nc fc from ⟨by omega, fun _ => ⟨_, hlt, rfl, row⟩⟩).at
  replace HC : Hid (St (fun x => x < w.heap.size) (fun W => IntsAt (fun x => x < w.heap.size) W ac nc fc) w12) := HC.out.blw hb
  replace H3L : Hid (St (fun x => x < w2.heap.size) (fun W => KAt 3 (fun x => x < w2.heap.size) W a3 n5 F5) w12) := H3L.out.blw hb
  replace H4C : Hid (St (fun x => w2.heap.size ≤ x ∧ x < w3.heap.size) (fun W => IntsOwn (fun x => w2.heap.size ≤ x ∧ x < w3.heap.size) W (some ⟨w2.heap.size, 0, none⟩) nc (fun i => 1 + (i : Int))) w12) := H4C.out.blw hb
  replace H5L : Hid (St (fun x => w3.heap.size ≤ x ∧ x < w4.heap.size) (fun W => KOwn 3 (fun x => w3.heap.size ≤ x ∧ x < w4.heap.size) W a5 n5 (mkK 3 (1))) w12) := H5L.out.blw hb
  replace HB : Hid (Blw w w12) := HB.out.trans hb
  have H7C : Hid (St (fun x => x < w12.heap.size) (fun W => IntsAt (fun x => x < w12.heap.size) W (some ⟨w11.heap.size, 0, none⟩) nc fc) w12) := IntsAt.st9 h7C (fun x hx => hx)
  clear hb row hlt h7C
  go_wp2_with fail
  refine (implNew_any (some ⟨w11.heap.size, 0, none⟩) nc nc fc _ _ hnc2 (HT.out.blw HB.out) H7C.out.out).mono ?_
  rintro e w13 ⟨a8, n8, c8, F8, b8, rfl, ho, own, hb⟩
  clear H7C
  obtain ⟨en, eF, eb⟩ := nwOut_same ho HO3.out
  subst en eF eb
  replace HC : Hid (St (fun x => x < w.heap.size) (fun W => IntsAt (fun x => x < w.heap.size) W ac nc fc) w13) := HC.out.blw hb
  replace H3L : Hid (St (fun x => x < w2.heap.size) (fun W => KAt 3 (fun x => x < w2.heap.size) W a3 n8 F8) w13) := H3L.out.blw hb
  replace H4C : Hid (St (fun x => w2.heap.size ≤ x ∧ x < w3.heap.size) (fun W => IntsOwn (fun x => w2.heap.size ≤ x ∧ x < w3.heap.size) W (some ⟨w2.heap.size, 0, none⟩) nc (fun i => 1 + (i : Int))) w13) := H4C.out.blw hb
  replace H5L : Hid (St (fun x => w3.heap.size ≤ x ∧ x < w4.heap.size) (fun W => KOwn 3 (fun x => w3.heap.size ≤ x ∧ x < w4.heap.size) W a5 n8 (mkK 3 (1))) w13) := H5L.out.blw hb
  replace HB : Hid (Blw w w13) := HB.out.trans hb
  have C8 : Hid (KAt 3 (fun x => x < w13.heap.size) w13 a8 n8 F8) := own.at.mono (fun x hx => hx.2)
  clear hb ho own
  go_wp2_with fail
  refine (eqCli_same _ _ _ _ n8 F8 _ C8.out H3L.out.out).mono ?_
  rintro e w14 ⟨rfl, hb⟩
  replace HC : Hid (St (fun x => x < w.heap.size) (fun W => IntsAt (fun x => x < w.heap.size) W ac nc fc) w14) := HC.out.blw hb
  replace H3L : Hid (St (fun x => x < w2.heap.size) (fun W => KAt 3 (fun x => x < w2.heap.size) W a3 n8 F8) w14) := H3L.out.blw hb
  replace H4C : Hid (St (fun x => w2.heap.size ≤ x ∧ x < w3.heap.size) (fun W => IntsOwn (fun x => w2.heap.size ≤ x ∧ x < w3.heap.size) W (some ⟨w2.heap.size, 0, none⟩) nc (fun i => 1 + (i : Int))) w14) := H4C.out.blw hb
  replace H5L : Hid (St (fun x => w3.heap.size ≤ x ∧ x < w4.heap.size) (fun W => KOwn 3 (fun x => w3.heap.size ≤ x ∧ x < w4.heap.size) W a5 n8 (mkK 3 (1))) w14) := H5L.out.blw hb
  replace HB : Hid (Blw w w14) := HB.out.trans hb
  clear C8
  clear hb
  go_wp2_with fail
  refine (heldCli_any a5 c5 n8 _ (1) _ (by omega) (by omega) H5L.out.out).mono ?_
  rintro e w15 ⟨rfl, hb⟩
  replace HC : Hid (St (fun x => x < w.heap.size) (fun W => IntsAt (fun x => x < w.heap.size) W ac nc fc) w15) := HC.out.blw hb
  replace H3L : Hid (St (fun x => x < w2.heap.size) (fun W => KAt 3 (fun x => x < w2.heap.size) W a3 n8 F8) w15) := H3L.out.blw hb
  replace H4C : Hid (St (fun x => w2.heap.size ≤ x ∧ x < w3.heap.size) (fun W => IntsOwn (fun x => w2.heap.size ≤ x ∧ x < w3.heap.size) W (some ⟨w2.heap.size, 0, none⟩) nc (fun i => 1 + (i : Int))) w15) := H4C.out.blw hb
  replace H5L : Hid (St (fun x => w3.heap.size ≤ x ∧ x < w4.heap.size) (fun W => KOwn 3 (fun x => w3.heap.size ≤ x ∧ x < w4.heap.size) W a5 n8 (mkK 3 (1))) w15) := H5L.out.blw hb
  replace HB : Hid (Blw w w15) := HB.out.trans hb
  clear hb
  go_wp2
  go_ret
  exact ⟨rfl, HB.out⟩
end Go.Proofs.YtneafnfdemodnaaDoor
