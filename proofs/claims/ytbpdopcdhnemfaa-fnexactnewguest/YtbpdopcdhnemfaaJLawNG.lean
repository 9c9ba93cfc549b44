/- The law on NewGuest. -/
import Derived.Test.YtbpdopcdhnemfaaJoin12
namespace Go.Proofs.Ytbpdopcdhnemfaa
open Go.RowKit
set_option linter.unusedSimpArgs false
set_option linter.unusedVariables false
set_option maxRecDepth 10000 in
set_option maxHeartbeats 6400000 in
theorem lawNG (ac : Option Addr) (nc cc : Nat) (fc : Nat → Int) (w : World) (hc : IntsAt (fun x => x < w.heap.size) w ac nc fc) : Calls Try.prog 10 #[.slice ac nc cc] w fun e w' => e = .returned (.bool true) ∧ Blw w w' := by
  have HB : Hid (Blw w w) := (Blw.refl _)
  have hnc := hc.1
  have HC : Hid (St (fun x => x < w.heap.size) (fun W => IntsAt (fun x => x < w.heap.size) W ac nc fc) w) := IntsAt.st9 (hc.blw HB.out) (fun x hx => Nat.lt_of_lt_of_le hx HB.out.size)
  clear hc
  go_enter Try.func10, Try.ntmps10
  by_cases hbig : (1048576 : Int) < nc
  · have d1 : decide ((nc : Int) > 1048576) = true := by simp; omega
    go_wp2
    go_ret
    exact ⟨rfl, HB.out⟩
  have d1 : decide ((nc : Int) > 1048576) = false := by simp only [decide_eq_false_iff_not]; omega
  have hnc2 : nc ≤ 1048576 := by omega
  clear hbig
  have HD : Hid True := trivial
  go_wp2_with fail
  refine (toIntS_any ac cc nc fc _ _ hnc2 HC.out.out).mono ?_
  rintro e w1 ⟨rfl, row, hb⟩
  try clear d1
  have hlt := row.lt
  have hz := hb.size
  have h2C : IntsAt (fun x => x < w1.heap.size) w1 (some ⟨w.heap.size, 0, none⟩) nc fc := (row_ints row (by omega) (X := fun x => x < w1.heap.size) hlt).at
  replace HC : Hid (St (fun x => x < w.heap.size) (fun W => IntsAt (fun x => x < w.heap.size) W ac nc fc) w1) := HC.out.blw hb
  replace HB : Hid (Blw w w1) := HB.out.trans hb
  have H2C : Hid (St (fun x => x < w1.heap.size) (fun W => IntsAt (fun x => x < w1.heap.size) W (some ⟨w.heap.size, 0, none⟩) nc fc) w1) := IntsAt.st9 h2C (fun x hx => hx)
  clear hb row hz hlt h2C
  go_wp2_with fail
  refine (specNew_any (some ⟨w.heap.size, 0, none⟩) nc nc fc _ _ hnc2 H2C.out.out).mono ?_
  rintro e w2 ⟨v3, R3, b3, rfl, ho, hs, own, hb⟩
  clear H2C
  have hz := hb.size
  have HN0 : Hid (w.heap.size ≤ w2.heap.size) := by have h1 := HB.out.size; show _ ≤ _; omega
  have HO3 : Hid (ngOut nc fc R3 b3) := ho
  have HSR : Hid (R3.small) := hs
  have hA : Blw w2 (w2.alloc (.cells #[.int .i64 R3.at_, .int .i64 R3.acc, .slice v3.a1 R3.nc v3.c1, .slice v3.a2 R3.nt v3.c2, .bool R3.d] 61)) := (Blw.refl _).alloc _
  have h3 : ArgG w2.heap.size w2.heap.size v3 R3 (w2.alloc (.cells #[.int .i64 R3.at_, .int .i64 R3.acc, .slice v3.a1 R3.nc v3.c1, .slice v3.a2 R3.nt v3.c2, .bool R3.d] 61)) := ⟨(own.at.mono (fun x hx => hx.2)).blw hA, row5 w2 _ _ _ _ _ 61⟩
  replace HC : Hid (St (fun x => x < w.heap.size) (fun W => IntsAt (fun x => x < w.heap.size) W ac nc fc) (w2.alloc (.cells #[.int .i64 R3.at_, .int .i64 R3.acc, .slice v3.a1 R3.nc v3.c1, .slice v3.a2 R3.nt v3.c2, .bool R3.d] 61))) := HC.out.blw (hb.trans hA)
  replace HB : Hid (Blw w (w2.alloc (.cells #[.int .i64 R3.at_, .int .i64 R3.acc, .slice v3.a1 R3.nc v3.c1, .slice v3.a2 R3.nt v3.c2, .bool R3.d] 61))) := HB.out.trans (hb.trans hA)
  have H3 : Hid (St (fun x => x < w2.heap.size + 1) (ArgG w2.heap.size w2.heap.size v3 R3) (w2.alloc (.cells #[.int .i64 R3.at_, .int .i64 R3.acc, .slice v3.a1 R3.nc v3.c1, .slice v3.a2 R3.nt v3.c2, .bool R3.d] 61))) := ArgG.st h3 (by omega) (by omega) (by simp only [World.size_alloc]; omega)
  clear hb hA own hz ho hs h3
  go_wp2_with fail
  have HN1 : Hid (w2.heap.size + 1 ≤ (w2.alloc (.cells #[.int .i64 R3.at_, .int .i64 R3.acc, .slice v3.a1 R3.nc v3.c1, .slice v3.a2 R3.nt v3.c2, .bool R3.d] 61)).heap.size) := by show _ ≤ _; simp only [World.size_alloc]; have o0 := HN0.out; omega
  generalize w2.alloc (.cells #[.int .i64 R3.at_, .int .i64 R3.acc, .slice v3.a1 R3.nc v3.c1, .slice v3.a2 R3.nt v3.c2, .bool R3.d] 61) = w3 at *
  refine (toIntS_any ac cc nc fc _ _ hnc2 HC.out.out).mono ?_
  rintro e w4 ⟨rfl, row, hb⟩
  try clear d1
  have hlt := row.lt
  have hz := hb.size
  have HN2 : Hid (w2.heap.size + 1 ≤ w3.heap.size ∧ w3.heap.size < w4.heap.size) := ⟨by have o0 := HN0.out; have o1 := HN1.out; omega, hlt⟩
  have h4C : IntsOwn (fun x => w2.heap.size + 1 ≤ x ∧ x < w4.heap.size) w4 (some ⟨w3.heap.size, 0, none⟩) nc fc := row_ints row (by omega) HN2.out
  replace HC : Hid (St (fun x => x < w.heap.size) (fun W => IntsAt (fun x => x < w.heap.size) W ac nc fc) w4) := HC.out.blw hb
  replace H3 : Hid (St (fun x => x < w2.heap.size + 1) (ArgG w2.heap.size w2.heap.size v3 R3) w4) := H3.out.blw hb
  replace HB : Hid (Blw w w4) := HB.out.trans hb
  have H4C : Hid (St (fun x => w2.heap.size + 1 ≤ x ∧ x < w4.heap.size) (fun W => IntsOwn (fun x => w2.heap.size + 1 ≤ x ∧ x < w4.heap.size) W (some ⟨w3.heap.size, 0, none⟩) nc fc) w4) := IntsOwn.st9 h4C (fun x hx => hx.2)
  clear hb row hz hlt h4C
  go_wp2_with fail
  refine (implNew_any (some ⟨w3.heap.size, 0, none⟩) nc nc fc _ _ (H4C.out.out.at) (fun x hx => by first | exact H4C.out.1 x hx | exact hx)).mono ?_
  rintro e w5 ⟨v5, R5, b5, rfl, ho, hs, own, hb⟩
  have hz := hb.size
  obtain ⟨eR, eb⟩ := ngOut_same ho HO3.out
  subst eR eb
  have HN3 : Hid (w4.heap.size ≤ w4.heap.size ∧ w4.heap.size ≤ w5.heap.size) := by have o0 := HN0.out; have o1 := HN1.out; have o2 := HN2.out; have hh := hz; exact ⟨by omega, by omega⟩
  have hA : Blw w5 (w5.alloc (.cells #[.int .i64 R5.at_, .int .i64 R5.acc, .slice v5.a1 R5.nc v5.c1, .slice v5.a2 R5.nt v5.c2, .bool R5.d] 61)) := (Blw.refl _).alloc _
  have h5 : BBG (fun x => w4.heap.size ≤ x ∧ x < w5.heap.size + 1) w5.heap.size v5 R5 R5 (w5.alloc (.cells #[.int .i64 R5.at_, .int .i64 R5.acc, .slice v5.a1 R5.nc v5.c1, .slice v5.a2 R5.nt v5.c2, .bool R5.d] 61)) := ⟨(own.blw hA).mono (fun x hx => by have ho := HN3.out; exact ⟨⟨by omega, by omega⟩, by omega⟩), row5 w5 _ _ _ _ _ 61⟩
  replace HC : Hid (St (fun x => x < w.heap.size) (fun W => IntsAt (fun x => x < w.heap.size) W ac nc fc) (w5.alloc (.cells #[.int .i64 R5.at_, .int .i64 R5.acc, .slice v5.a1 R5.nc v5.c1, .slice v5.a2 R5.nt v5.c2, .bool R5.d] 61))) := HC.out.blw (hb.trans hA)
  replace H3 : Hid (St (fun x => x < w2.heap.size + 1) (ArgG w2.heap.size w2.heap.size v3 R5) (w5.alloc (.cells #[.int .i64 R5.at_, .int .i64 R5.acc, .slice v5.a1 R5.nc v5.c1, .slice v5.a2 R5.nt v5.c2, .bool R5.d] 61))) := H3.out.blw (hb.trans hA)
  replace H4C : Hid (St (fun x => w2.heap.size + 1 ≤ x ∧ x < w4.heap.size) (fun W => IntsOwn (fun x => w2.heap.size + 1 ≤ x ∧ x < w4.heap.size) W (some ⟨w3.heap.size, 0, none⟩) nc fc) (w5.alloc (.cells #[.int .i64 R5.at_, .int .i64 R5.acc, .slice v5.a1 R5.nc v5.c1, .slice v5.a2 R5.nt v5.c2, .bool R5.d] 61))) := H4C.out.blw (hb.trans hA)
  replace HB : Hid (Blw w (w5.alloc (.cells #[.int .i64 R5.at_, .int .i64 R5.acc, .slice v5.a1 R5.nc v5.c1, .slice v5.a2 R5.nt v5.c2, .bool R5.d] 61))) := HB.out.trans (hb.trans hA)
  have H5 : Hid (St (fun x => w4.heap.size ≤ x ∧ x < w5.heap.size + 1) (BBG (fun x => w4.heap.size ≤ x ∧ x < w5.heap.size + 1) w5.heap.size v5 R5 R5) (w5.alloc (.cells #[.int .i64 R5.at_, .int .i64 R5.acc, .slice v5.a1 R5.nc v5.c1, .slice v5.a2 R5.nt v5.c2, .bool R5.d] 61))) := BBG.st h5 (by have ho := HN3.out; exact ⟨by omega, by omega⟩) (fun x hx => by simp only [World.size_alloc]; omega)
  clear hb hA own hz ho hs h5
  have hne : (b5 != b5) = false := by simp
  obtain ⟨p00, p01, p02, p03, p04⟩ := get5 H5.out.out.box
  obtain ⟨p10, p11, p12, p13, p14⟩ := get5 H3.out.out.box
  go_wp2_with fail
  clear p00 p01 p02 p03 p04 p10 p11 p12 p13 p14
  have HN4 : Hid (w5.heap.size + 1 ≤ (w5.alloc (.cells #[.int .i64 R5.at_, .int .i64 R5.acc, .slice v5.a1 R5.nc v5.c1, .slice v5.a2 R5.nt v5.c2, .bool R5.d] 61)).heap.size) := by show _ ≤ _; simp only [World.size_alloc]; have o0 := HN0.out; have o1 := HN1.out; have o2 := HN2.out; have o3 := HN3.out; omega
  generalize w5.alloc (.cells #[.int .i64 R5.at_, .int .i64 R5.acc, .slice v5.a1 R5.nc v5.c1, .slice v5.a2 R5.nt v5.c2, .bool R5.d] 61) = w6 at *
  refine (eqGuest_same v5 v3 R5 _ H5.out.out.own.at H3.out.out.at_).mono ?_
  rintro e w7 ⟨rfl, hb⟩
  replace HC : Hid (St (fun x => x < w.heap.size) (fun W => IntsAt (fun x => x < w.heap.size) W ac nc fc) w7) := HC.out.blw hb
  replace H3 : Hid (St (fun x => x < w2.heap.size + 1) (ArgG w2.heap.size w2.heap.size v3 R5) w7) := H3.out.blw hb
  replace H4C : Hid (St (fun x => w2.heap.size + 1 ≤ x ∧ x < w4.heap.size) (fun W => IntsOwn (fun x => w2.heap.size + 1 ≤ x ∧ x < w4.heap.size) W (some ⟨w3.heap.size, 0, none⟩) nc fc) w7) := H4C.out.blw hb
  replace H5 : Hid (St (fun x => w4.heap.size ≤ x ∧ x < w5.heap.size + 1) (BBG (fun x => w4.heap.size ≤ x ∧ x < w5.heap.size + 1) w5.heap.size v5 R5 R5) w7) := H5.out.blw hb
  replace HB : Hid (Blw w w7) := HB.out.trans hb
  clear hb
  go_wp2_with fail
  refine (toIntS_any ac cc nc fc _ _ hnc2 HC.out.out).mono ?_
  rintro e w8 ⟨rfl, row, hb⟩
  have hlt := row.lt
  have C6 : Hid (IntsAt (fun x => x < w8.heap.size) w8 (some ⟨w7.heap.size, 0, none⟩) nc fc) := (row_ints row (by omega) (X := fun x => x < w8.heap.size) hlt).at
  replace HC : Hid (St (fun x => x < w.heap.size) (fun W => IntsAt (fun x => x < w.heap.size) W ac nc fc) w8) := HC.out.blw hb
  replace H3 : Hid (St (fun x => x < w2.heap.size + 1) (ArgG w2.heap.size w2.heap.size v3 R5) w8) := H3.out.blw hb
  replace H4C : Hid (St (fun x => w2.heap.size + 1 ≤ x ∧ x < w4.heap.size) (fun W => IntsOwn (fun x => w2.heap.size + 1 ≤ x ∧ x < w4.heap.size) W (some ⟨w3.heap.size, 0, none⟩) nc fc) w8) := H4C.out.blw hb
  replace H5 : Hid (St (fun x => w4.heap.size ≤ x ∧ x < w5.heap.size + 1) (BBG (fun x => w4.heap.size ≤ x ∧ x < w5.heap.size + 1) w5.heap.size v5 R5 R5) w8) := H5.out.blw hb
  replace HB : Hid (Blw w w8) := HB.out.trans hb
  clear hb row hlt
  go_wp2_with fail
  refine (eqIntS_blw _ _ _ _ nc fc _ (H4C.out.out.at) C6.out).mono ?_
  rintro e w9 ⟨rfl, hb⟩
  replace HC : Hid (St (fun x => x < w.heap.size) (fun W => IntsAt (fun x => x < w.heap.size) W ac nc fc) w9) := HC.out.blw hb
  replace H3 : Hid (St (fun x => x < w2.heap.size + 1) (ArgG w2.heap.size w2.heap.size v3 R5) w9) := H3.out.blw hb
  replace H4C : Hid (St (fun x => w2.heap.size + 1 ≤ x ∧ x < w4.heap.size) (fun W => IntsOwn (fun x => w2.heap.size + 1 ≤ x ∧ x < w4.heap.size) W (some ⟨w3.heap.size, 0, none⟩) nc fc) w9) := H4C.out.blw hb
  replace H5 : Hid (St (fun x => w4.heap.size ≤ x ∧ x < w5.heap.size + 1) (BBG (fun x => w4.heap.size ≤ x ∧ x < w5.heap.size + 1) w5.heap.size v5 R5 R5) w9) := H5.out.blw hb
  replace HB : Hid (Blw w w9) := HB.out.trans hb
  clear hb C6
  go_wp2_with fail
  refine (markIntS_any _ nc nc fc _ (1) _ (by omega) (by omega) H4C.out.out).mono ?_
  rintro e w10 ⟨rfl, own, hm⟩
  have s4 := hm.size
  replace HC : Hid (St (fun x => x < w.heap.size) (fun W => IntsAt (fun x => x < w.heap.size) W ac nc fc) w10) := HC.out.mod hm (fun x hx hz => by have o0 := HN0.out; have o1 := HN1.out; have o2 := HN2.out; have o3 := HN3.out; have o4 := HN4.out; have hz' : w2.heap.size + 1 ≤ x ∧ x < w4.heap.size := hz.1; have hx' : x < w.heap.size := hx; omega)
  replace H3 : Hid (St (fun x => x < w2.heap.size + 1) (ArgG w2.heap.size w2.heap.size v3 R5) w10) := H3.out.mod hm (fun x hx hz => by have o0 := HN0.out; have o1 := HN1.out; have o2 := HN2.out; have o3 := HN3.out; have o4 := HN4.out; have hz' : w2.heap.size + 1 ≤ x ∧ x < w4.heap.size := hz.1; have hx' : x < w2.heap.size + 1 := hx; omega)
  replace H5 : Hid (St (fun x => w4.heap.size ≤ x ∧ x < w5.heap.size + 1) (BBG (fun x => w4.heap.size ≤ x ∧ x < w5.heap.size + 1) w5.heap.size v5 R5 R5) w10) := H5.out.mod hm (fun x hx hz => by have o0 := HN0.out; have o1 := HN1.out; have o2 := HN2.out; have o3 := HN3.out; have o4 := HN4.out; have hz' : w2.heap.size + 1 ≤ x ∧ x < w4.heap.size := hz.1; have hx' : w4.heap.size ≤ x ∧ x < w5.heap.size + 1 := hx; omega)
  replace HB : Hid (Blw w w10) := Mod.blw HB.out hm (fun x hz => by have o0 := HN0.out; have o1 := HN1.out; have o2 := HN2.out; have o3 := HN3.out; have o4 := HN4.out; have hz' : w2.heap.size + 1 ≤ x ∧ x < w4.heap.size := hz.1; omega)
  replace H4C : Hid (St (fun x => w2.heap.size + 1 ≤ x ∧ x < w4.heap.size) (fun W => IntsOwn (fun x => w2.heap.size + 1 ≤ x ∧ x < w4.heap.size) W (some ⟨w3.heap.size, 0, none⟩) nc (fun i => 1 + (i : Int))) w10) := IntsOwn.st9 own (fun x hx => Nat.lt_of_lt_of_le (H4C.out.1 x hx) s4)
  clear own hm s4
  have k1 : ¬ (1 + (nc : Int) < 0) := by omega
  obtain ⟨p00, p01, p02, p03, p04⟩ := get5 H5.out.out.box
  obtain ⟨p10, p11, p12, p13, p14⟩ := get5 H3.out.out.box
  go_wp2_with fail
  clear p00 p01 p02 p03 p04 p10 p11 p12 p13 p14
  refine (eqGuest_same v5 v3 R5 _ H5.out.out.own.at H3.out.out.at_).mono ?_
  rintro e w11 ⟨rfl, hb⟩
  replace HC : Hid (St (fun x => x < w.heap.size) (fun W => IntsAt (fun x => x < w.heap.size) W ac nc fc) w11) := HC.out.blw hb
  replace H3 : Hid (St (fun x => x < w2.heap.size + 1) (ArgG w2.heap.size w2.heap.size v3 R5) w11) := H3.out.blw hb
  replace H4C : Hid (St (fun x => w2.heap.size + 1 ≤ x ∧ x < w4.heap.size) (fun W => IntsOwn (fun x => w2.heap.size + 1 ≤ x ∧ x < w4.heap.size) W (some ⟨w3.heap.size, 0, none⟩) nc (fun i => 1 + (i : Int))) w11) := H4C.out.blw hb
  replace H5 : Hid (St (fun x => w4.heap.size ≤ x ∧ x < w5.heap.size + 1) (BBG (fun x => w4.heap.size ≤ x ∧ x < w5.heap.size + 1) w5.heap.size v5 R5 R5) w11) := H5.out.blw hb
  replace HB : Hid (Blw w w11) := HB.out.trans hb
  clear hb
  clear k1
  have htR : R5.total ≤ 1048576 := HSR.out
  obtain ⟨p00, p01, p02, p03, p04⟩ := get5 H5.out.out.box
  go_wp2_with fail
  clear p00 p01 p02 p03 p04
  refine (markGuest_any v5 R5 _ 1 _ HSR.out (by omega) (by omega) (fun x hx => H5.out.1 x hx.1) H5.out.out.own).mono ?_
  rintro e w12 ⟨rfl, own, hm⟩
  have bx5 := H5.out.out.box.mod hm (fun hh => hh.2 rfl)
  have s4 := hm.size
  replace HC : Hid (St (fun x => x < w.heap.size) (fun W => IntsAt (fun x => x < w.heap.size) W ac nc fc) w12) := HC.out.mod hm (fun x hx hz => by have o0 := HN0.out; have o1 := HN1.out; have o2 := HN2.out; have o3 := HN3.out; have o4 := HN4.out; have hz' : w4.heap.size ≤ x ∧ x < w5.heap.size + 1 := hz.1; have hx' : x < w.heap.size := hx; omega)
  replace H3 : Hid (St (fun x => x < w2.heap.size + 1) (ArgG w2.heap.size w2.heap.size v3 R5) w12) := H3.out.mod hm (fun x hx hz => by have o0 := HN0.out; have o1 := HN1.out; have o2 := HN2.out; have o3 := HN3.out; have o4 := HN4.out; have hz' : w4.heap.size ≤ x ∧ x < w5.heap.size + 1 := hz.1; have hx' : x < w2.heap.size + 1 := hx; omega)
  replace H4C : Hid (St (fun x => w2.heap.size + 1 ≤ x ∧ x < w4.heap.size) (fun W => IntsOwn (fun x => w2.heap.size + 1 ≤ x ∧ x < w4.heap.size) W (some ⟨w3.heap.size, 0, none⟩) nc (fun i => 1 + (i : Int))) w12) := H4C.out.mod hm (fun x hx hz => by have o0 := HN0.out; have o1 := HN1.out; have o2 := HN2.out; have o3 := HN3.out; have o4 := HN4.out; have hz' : w4.heap.size ≤ x ∧ x < w5.heap.size + 1 := hz.1; have hx' : w2.heap.size + 1 ≤ x ∧ x < w4.heap.size := hx; omega)
  replace HB : Hid (Blw w w12) := Mod.blw HB.out hm (fun x hz => by have o0 := HN0.out; have o1 := HN1.out; have o2 := HN2.out; have o3 := HN3.out; have o4 := HN4.out; have hz' : w4.heap.size ≤ x ∧ x < w5.heap.size + 1 := hz.1; omega)
  replace H5 : Hid (St (fun x => w4.heap.size ≤ x ∧ x < w5.heap.size + 1) (BBG (fun x => w4.heap.size ≤ x ∧ x < w5.heap.size + 1) w5.heap.size v5 R5 (R5.marked 1)) w12) := BBG.st ⟨own, bx5⟩ (by have o0 := HN0.out; have o1 := HN1.out; have o2 := HN2.out; have o3 := HN3.out; have o4 := HN4.out; exact (by omega : w4.heap.size ≤ w5.heap.size ∧ w5.heap.size < w5.heap.size + 1)) (fun x hx => Nat.lt_of_lt_of_le (H5.out.1 x hx) s4)
  clear own hm bx5 s4
  have k1 : ¬ (1 + (R5.total : Int) < 0) := by omega
  have k2 : ((1 + (R5.total : Int)) != (1 + (R5.total : Int))) = false := by simp
  obtain ⟨p00, p01, p02, p03, p04⟩ := get5 H5.out.out.box
  go_wp2_with fail
  clear p00 p01 p02 p03 p04
  refine (heldGuest_any v5 R5 _ 1 _ HSR.out (by omega) (by omega) H5.out.out.own).mono ?_
  rintro e w13 ⟨rfl, hb⟩
  replace HC : Hid (St (fun x => x < w.heap.size) (fun W => IntsAt (fun x => x < w.heap.size) W ac nc fc) w13) := HC.out.blw hb
  replace H3 : Hid (St (fun x => x < w2.heap.size + 1) (ArgG w2.heap.size w2.heap.size v3 R5) w13) := H3.out.blw hb
  replace H4C : Hid (St (fun x => w2.heap.size + 1 ≤ x ∧ x < w4.heap.size) (fun W => IntsOwn (fun x => w2.heap.size + 1 ≤ x ∧ x < w4.heap.size) W (some ⟨w3.heap.size, 0, none⟩) nc (fun i => 1 + (i : Int))) w13) := H4C.out.blw hb
  replace H5 : Hid (St (fun x => w4.heap.size ≤ x ∧ x < w5.heap.size + 1) (BBG (fun x => w4.heap.size ≤ x ∧ x < w5.heap.size + 1) w5.heap.size v5 R5 (R5.marked 1)) w13) := H5.out.blw hb
  replace HB : Hid (Blw w w13) := HB.out.trans hb
  clear hb
  go_wp2_with fail
  refine (toIntS_any ac cc nc fc _ _ hnc2 HC.out.out).mono ?_
  rintro e w14 ⟨rfl, row, hb⟩
  try clear d1
  have hlt := row.lt
  have hz := hb.size
  have h7C : IntsAt (fun x => x < w14.heap.size) w14 (some ⟨w13.heap.size, 0, none⟩) nc fc := (row_ints row (by omega) (X := fun x => x < w14.heap.size) hlt).at
  replace HC : Hid (St (fun x => x < w.heap.size) (fun W => IntsAt (fun x => x < w.heap.size) W ac nc fc) w14) := HC.out.blw hb
  replace H3 : Hid (St (fun x => x < w2.heap.size + 1) (ArgG w2.heap.size w2.heap.size v3 R5) w14) := H3.out.blw hb
  replace H4C : Hid (St (fun x => w2.heap.size + 1 ≤ x ∧ x < w4.heap.size) (fun W => IntsOwn (fun x => w2.heap.size + 1 ≤ x ∧ x < w4.heap.size) W (some ⟨w3.heap.size, 0, none⟩) nc (fun i => 1 + (i : Int))) w14) := H4C.out.blw hb
  replace H5 : Hid (St (fun x => w4.heap.size ≤ x ∧ x < w5.heap.size + 1) (BBG (fun x => w4.heap.size ≤ x ∧ x < w5.heap.size + 1) w5.heap.size v5 R5 (R5.marked 1)) w14) := H5.out.blw hb
  replace HB : Hid (Blw w w14) := HB.out.trans hb
  have H7C : Hid (St (fun x => x < w14.heap.size) (fun W => IntsAt (fun x => x < w14.heap.size) W (some ⟨w13.heap.size, 0, none⟩) nc fc) w14) := IntsAt.st9 h7C (fun x hx => hx)
  clear hb row hz hlt h7C
  go_wp2_with fail
  refine (implNew_any (some ⟨w13.heap.size, 0, none⟩) nc nc fc _ _ H7C.out.out (fun x hx => by first | exact H4C.out.1 x hx | exact hx)).mono ?_
  rintro e w15 ⟨v8, R8, b8, rfl, ho, hs, own, hb⟩
  clear H7C
  obtain ⟨eR, eb⟩ := ngOut_same ho HO3.out
  subst eR eb
  have hA : Blw w15 (w15.alloc (.cells #[.int .i64 R8.at_, .int .i64 R8.acc, .slice v8.a1 R8.nc v8.c1, .slice v8.a2 R8.nt v8.c2, .bool R8.d] 61)) := (Blw.refl _).alloc _
  have h8 : ArgG w15.heap.size w15.heap.size v8 R8 (w15.alloc (.cells #[.int .i64 R8.at_, .int .i64 R8.acc, .slice v8.a1 R8.nc v8.c1, .slice v8.a2 R8.nt v8.c2, .bool R8.d] 61)) := ⟨(own.at.mono (fun x hx => hx.2)).blw hA, row5 w15 _ _ _ _ _ 61⟩
  replace HC : Hid (St (fun x => x < w.heap.size) (fun W => IntsAt (fun x => x < w.heap.size) W ac nc fc) (w15.alloc (.cells #[.int .i64 R8.at_, .int .i64 R8.acc, .slice v8.a1 R8.nc v8.c1, .slice v8.a2 R8.nt v8.c2, .bool R8.d] 61))) := HC.out.blw (hb.trans hA)
  replace H3 : Hid (St (fun x => x < w2.heap.size + 1) (ArgG w2.heap.size w2.heap.size v3 R8) (w15.alloc (.cells #[.int .i64 R8.at_, .int .i64 R8.acc, .slice v8.a1 R8.nc v8.c1, .slice v8.a2 R8.nt v8.c2, .bool R8.d] 61))) := H3.out.blw (hb.trans hA)
  replace H4C : Hid (St (fun x => w2.heap.size + 1 ≤ x ∧ x < w4.heap.size) (fun W => IntsOwn (fun x => w2.heap.size + 1 ≤ x ∧ x < w4.heap.size) W (some ⟨w3.heap.size, 0, none⟩) nc (fun i => 1 + (i : Int))) (w15.alloc (.cells #[.int .i64 R8.at_, .int .i64 R8.acc, .slice v8.a1 R8.nc v8.c1, .slice v8.a2 R8.nt v8.c2, .bool R8.d] 61))) := H4C.out.blw (hb.trans hA)
  replace H5 : Hid (St (fun x => w4.heap.size ≤ x ∧ x < w5.heap.size + 1) (BBG (fun x => w4.heap.size ≤ x ∧ x < w5.heap.size + 1) w5.heap.size v5 R8 (R8.marked 1)) (w15.alloc (.cells #[.int .i64 R8.at_, .int .i64 R8.acc, .slice v8.a1 R8.nc v8.c1, .slice v8.a2 R8.nt v8.c2, .bool R8.d] 61))) := H5.out.blw (hb.trans hA)
  replace HB : Hid (Blw w (w15.alloc (.cells #[.int .i64 R8.at_, .int .i64 R8.acc, .slice v8.a1 R8.nc v8.c1, .slice v8.a2 R8.nt v8.c2, .bool R8.d] 61))) := HB.out.trans (hb.trans hA)
  have H8 : Hid (St (fun x => x < w15.heap.size + 1) (ArgG w15.heap.size w15.heap.size v8 R8) (w15.alloc (.cells #[.int .i64 R8.at_, .int .i64 R8.acc, .slice v8.a1 R8.nc v8.c1, .slice v8.a2 R8.nt v8.c2, .bool R8.d] 61))) := ArgG.st h8 (by omega) (by omega) (by simp only [World.size_alloc]; omega)
  clear hb hA own ho hs h8
  obtain ⟨p00, p01, p02, p03, p04⟩ := get5 H8.out.out.box
  obtain ⟨p10, p11, p12, p13, p14⟩ := get5 H3.out.out.box
  go_wp2_with fail
  clear p00 p01 p02 p03 p04 p10 p11 p12 p13 p14
  generalize w15.alloc (.cells #[.int .i64 R8.at_, .int .i64 R8.acc, .slice v8.a1 R8.nc v8.c1, .slice v8.a2 R8.nt v8.c2, .bool R8.d] 61) = w16 at *
  refine (eqGuest_same v8 v3 R8 _ H8.out.out.at_ H3.out.out.at_).mono ?_
  rintro e w17 ⟨rfl, hb⟩
  replace HC : Hid (St (fun x => x < w.heap.size) (fun W => IntsAt (fun x => x < w.heap.size) W ac nc fc) w17) := HC.out.blw hb
  replace H3 : Hid (St (fun x => x < w2.heap.size + 1) (ArgG w2.heap.size w2.heap.size v3 R8) w17) := H3.out.blw hb
  replace H4C : Hid (St (fun x => w2.heap.size + 1 ≤ x ∧ x < w4.heap.size) (fun W => IntsOwn (fun x => w2.heap.size + 1 ≤ x ∧ x < w4.heap.size) W (some ⟨w3.heap.size, 0, none⟩) nc (fun i => 1 + (i : Int))) w17) := H4C.out.blw hb
  replace H5 : Hid (St (fun x => w4.heap.size ≤ x ∧ x < w5.heap.size + 1) (BBG (fun x => w4.heap.size ≤ x ∧ x < w5.heap.size + 1) w5.heap.size v5 R8 (R8.marked 1)) w17) := H5.out.blw hb
  replace H8 : Hid (St (fun x => x < w15.heap.size + 1) (ArgG w15.heap.size w15.heap.size v8 R8) w17) := H8.out.blw hb
  replace HB : Hid (Blw w w17) := HB.out.trans hb
  clear hb H8
  obtain ⟨p00, p01, p02, p03, p04⟩ := get5 H5.out.out.box
  go_wp2_with fail
  clear p00 p01 p02 p03 p04
  refine (heldGuest_any v5 R8 _ 1 _ HSR.out (by omega) (by omega) H5.out.out.own).mono ?_
  rintro e w18 ⟨rfl, hb⟩
  replace HC : Hid (St (fun x => x < w.heap.size) (fun W => IntsAt (fun x => x < w.heap.size) W ac nc fc) w18) := HC.out.blw hb
  replace H3 : Hid (St (fun x => x < w2.heap.size + 1) (ArgG w2.heap.size w2.heap.size v3 R8) w18) := H3.out.blw hb
  replace H4C : Hid (St (fun x => w2.heap.size + 1 ≤ x ∧ x < w4.heap.size) (fun W => IntsOwn (fun x => w2.heap.size + 1 ≤ x ∧ x < w4.heap.size) W (some ⟨w3.heap.size, 0, none⟩) nc (fun i => 1 + (i : Int))) w18) := H4C.out.blw hb
  replace H5 : Hid (St (fun x => w4.heap.size ≤ x ∧ x < w5.heap.size + 1) (BBG (fun x => w4.heap.size ≤ x ∧ x < w5.heap.size + 1) w5.heap.size v5 R8 (R8.marked 1)) w18) := H5.out.blw hb
  replace HB : Hid (Blw w w18) := HB.out.trans hb
  clear hb
  go_wp2
  go_ret
  exact ⟨rfl, HB.out⟩
end Go.Proofs.Ytbpdopcdhnemfaa
