/- FnWalks: the walk. -/
import Derived.Test.YtbpdopcdhnemfaaJw11
namespace Go.Proofs.Ytbpdopcdhnemfaa
open Go.RowKit
set_option linter.unusedSimpArgs false
set_option linter.unusedVariables false
theorem si7 (a1 a2 : Option Addr) (c1 c2 n0 n1 : Nat) (f g : Nat → Int) {Y Z : Nat → Prop} (w : World) (h1 : IntsAt Y w a1 n0 f) (h2 : IntsAt Z w a2 n1 g) (hn : n0 = n1) (he : ∀ i, i < n0 → f i = g i) :
    Calls Try.prog 20 #[.slice a1 n0 c1, .slice a2 n1 c2] w fun e w' => e = .returned (.bool true) ∧ Blw w w' := by
  subst hn
  exact same20w a1 a2 c1 c2 n0 f g w h1 h2 he
/-- A box with a walker, and answers. -/
def WX (W : World) (z : Nat) (v : KV) (D : KD) (u : Option Addr) (m : Nat) (f : Nat → Int) : Prop := Row W z 4 (kb v D) ∧ WkAt (fun x => x < W.heap.size) W v D ∧ IntsAt (fun x => x < W.heap.size) W u m f
theorem WX.blw {W W' : World} {z : Nat} {v : KV} {D : KD} {u : Option Addr} {m : Nat} {f : Nat → Int} (h : WX W z v D u m f) (hb : Blw W W') : WX W' z v D u m f :=
  ⟨h.1.blw hb, (h.2.1.blw hb).mono (fun x hx => Nat.lt_of_lt_of_le hx hb.size), (h.2.2.blw hb).mono (fun x hx => Nat.lt_of_lt_of_le hx hb.size)⟩
set_option maxRecDepth 10000 in
set_option maxHeartbeats 6400000 in
theorem lawWalks (ao : Option Addr) (n cc : Nat) (f : Nat → Int) (w : World) (h : BytesAt (fun b => b < w.heap.size) w ao n f) :
    Calls Try.prog 3 #[.slice ao n cc] w fun e w' => e = .returned (.bool true) ∧ Blw w w' := by
  go_enter Try.func3, Try.ntmps3
  by_cases hbig : (1048576 : Int) < n
  · have d1 : decide ((n : Int) > 1048576) = true := by simp; omega
    go_wp2
    go_ret
    exact ⟨rfl, Blw.refl _⟩
  have d1 : decide ((n : Int) > 1048576) = false := by simp only [decide_eq_false_iff_not]; omega
  clear hbig
  go_wp2_with fail
  clear d1
  refine (drawPlayW_any ao n cc f w h).mono ?_
  rintro e w1 ⟨x, ap, np, cp, F, rfl, hnp, hko, hb1⟩
  have HL : Hid (KAt 4 (fun b => b < w1.heap.size) w1 ap np F) := hko.at.mono (fun b hb => hb.2)
  have HB : Hid (Blw w w1) := hb1
  clear hko hb1 h
  go_wp2_with fail
  refine (implPWR_any x ap np cp F w1 (by omega) HL.out).mono ?_
  rintro e w2 ⟨v5, D5, a5, m5, c5, f5, r5, rfl, ho5, hs5, ⟨X1, X2, hx1, hx2, hw5, hi5⟩, hb5, hrm, hcp⟩
  have HO : Hid (pwO x np F D5 m5 f5 r5) := ho5
  have HRM : Hid (Room v5.a D5.n v5.q ∧ v5.q ≤ 9223372036854775807) := ⟨hrm, hcp⟩
  have hA : Blw w2 (w2.alloc (.cells #[.slice v5.b.a1 D5.B.n v5.b.c1, .slice v5.b.a2 D5.B.D.n v5.b.c2, .slice v5.a D5.n v5.q, .int .i64 D5.h] 32)) := (Blw.refl _).alloc _
  have X5 : Hid (WX (w2.alloc (.cells #[.slice v5.b.a1 D5.B.n v5.b.c1, .slice v5.b.a2 D5.B.D.n v5.b.c2, .slice v5.a D5.n v5.q, .int .i64 D5.h] 32)) w2.heap.size v5 D5 a5 m5 f5) := ⟨box4 w2 _ _ _ _ 32, (hw5.at.blw hA).mono (fun x hx => by have := hx1 x hx; have := hA.size; omega), (hi5.at.blw hA).mono (fun x hx => by have := hx2 x hx; have := hA.size; omega)⟩
  replace HL : Hid (KAt 4 (fun b => b < (w2.alloc (.cells #[.slice v5.b.a1 D5.B.n v5.b.c1, .slice v5.b.a2 D5.B.D.n v5.b.c2, .slice v5.a D5.n v5.q, .int .i64 D5.h] 32)).heap.size) (w2.alloc (.cells #[.slice v5.b.a1 D5.B.n v5.b.c1, .slice v5.b.a2 D5.B.D.n v5.b.c2, .slice v5.a D5.n v5.q, .int .i64 D5.h] 32)) ap np F) := (HL.out.blw (hb5.trans hA)).mono (fun b hb => Nat.lt_of_lt_of_le hb (hb5.trans hA).size)
  replace HB : Hid (Blw w (w2.alloc (.cells #[.slice v5.b.a1 D5.B.n v5.b.c1, .slice v5.b.a2 D5.B.D.n v5.b.c2, .slice v5.a D5.n v5.q, .int .i64 D5.h] 32))) := HB.out.trans (hb5.trans hA)
  clear ho5 hs5 hx1 hx2 hw5 hi5 hb5 hA hrm hcp
  go_wp2_with fail
  generalize (w2.alloc (.cells #[.slice v5.b.a1 D5.B.n v5.b.c1, .slice v5.b.a2 D5.B.D.n v5.b.c2, .slice v5.a D5.n v5.q, .int .i64 D5.h] 32)) = W2 at *
  generalize w2.heap.size = z5 at *
  refine (specPW_any x ap np cp F W2 (by omega) HL.out).mono ?_
  rintro e w3 ⟨v8, D8, a8, m8, c8, f8, r8, rfl, ho8, hs8, hw8, hi8, hb8⟩
  obtain ⟨eD, em, er, ef⟩ := pwO_same HO.out ho8
  have hA : Blw w3 (w3.alloc (.cells #[.slice v8.b.a1 D8.B.n v8.b.c1, .slice v8.b.a2 D8.B.D.n v8.b.c2, .slice v8.a D8.n v8.q, .int .i64 D8.h] 32)) := (Blw.refl _).alloc _
  have X8 : Hid (WX (w3.alloc (.cells #[.slice v8.b.a1 D8.B.n v8.b.c1, .slice v8.b.a2 D8.B.D.n v8.b.c2, .slice v8.a D8.n v8.q, .int .i64 D8.h] 32)) w3.heap.size v8 D8 a8 m8 f8) := ⟨box4 w3 _ _ _ _ 32, (hw8.blw hA).mono (fun x hx => Nat.lt_of_lt_of_le hx hA.size), (hi8.blw hA).mono (fun x hx => Nat.lt_of_lt_of_le hx hA.size)⟩
  replace X5 : Hid (WX (w3.alloc (.cells #[.slice v8.b.a1 D8.B.n v8.b.c1, .slice v8.b.a2 D8.B.D.n v8.b.c2, .slice v8.a D8.n v8.q, .int .i64 D8.h] 32)) z5 v5 D5 a5 m5 f5) := X5.out.blw (hb8.trans hA)
  replace HL : Hid (KAt 4 (fun b => b < (w3.alloc (.cells #[.slice v8.b.a1 D8.B.n v8.b.c1, .slice v8.b.a2 D8.B.D.n v8.b.c2, .slice v8.a D8.n v8.q, .int .i64 D8.h] 32)).heap.size) (w3.alloc (.cells #[.slice v8.b.a1 D8.B.n v8.b.c1, .slice v8.b.a2 D8.B.D.n v8.b.c2, .slice v8.a D8.n v8.q, .int .i64 D8.h] 32)) ap np F) := (HL.out.blw (hb8.trans hA)).mono (fun b hb => Nat.lt_of_lt_of_le hb (hb8.trans hA).size)
  replace HB : Hid (Blw w (w3.alloc (.cells #[.slice v8.b.a1 D8.B.n v8.b.c1, .slice v8.b.a2 D8.B.D.n v8.b.c2, .slice v8.a D8.n v8.q, .int .i64 D8.h] 32))) := HB.out.trans (hb8.trans hA)
  have HE8 : Hid (m5 = m8 ∧ (∀ i, i < m5 → f5 i = f8 i)) := ⟨em, ef⟩
  have HD8 : Hid (D5 = D8 ∧ r5 = r8) := ⟨eD, er⟩
  clear ho8 hs8 hw8 hi8 hb8 hA eD em er ef
  go_wp2_with fail
  generalize (w3.alloc (.cells #[.slice v8.b.a1 D8.B.n v8.b.c1, .slice v8.b.a2 D8.B.D.n v8.b.c2, .slice v8.a D8.n v8.q, .int .i64 D8.h] 32)) = W3 at *
  generalize w3.heap.size = z8 at *
  refine (implPP_any x ap np cp F W3 (by omega) HL.out).mono ?_
  rintro e w4 ⟨a11, m11, c11, f11, r11, rfl, ho11, hs11, own11, hb11⟩
  obtain ⟨er, em, ef, hwg⟩ := pwO_ppO HO.out ho11
  have HE11 : Hid (m5 = m11 ∧ (∀ i, i < m5 → f5 i = f11 i)) := ⟨em, ef⟩
  have HO11 : Hid (ppO x np F m11 f11 r11) := ho11
  have HWG : Hid (r5 = true → WG D5) := hwg
  have HD11 : Hid (r5 = r11) := er
  have Y11 : Hid (IntsAt (fun b => b < w4.heap.size) w4 a11 m11 f11) := own11.at.mono (fun b hb => hb.2)
  replace X5 : Hid (WX w4 z5 v5 D5 a5 m5 f5) := X5.out.blw hb11
  replace X8 : Hid (WX w4 z8 v8 D8 a8 m8 f8) := X8.out.blw hb11
  replace HL : Hid (KAt 4 (fun b => b < w4.heap.size) w4 ap np F) := (HL.out.blw hb11).mono (fun b hb => Nat.lt_of_lt_of_le hb hb11.size)
  replace HB : Hid (Blw w w4) := HB.out.trans hb11
  clear ho11 hs11 own11 hb11 er em ef hwg HO
  go_wp2_with fail
  refine (specPP_any x ap np cp F w4 (by omega) HL.out).mono ?_
  rintro e w5 ⟨a13, m13, c13, f13, r13, rfl, ho13, hs13, own13, hb13⟩
  obtain ⟨er, em, ef⟩ := ppO_same HO11.out ho13
  have HE13 : Hid (m11 = m13 ∧ (∀ i, i < m11 → f11 i = f13 i)) := ⟨em, ef⟩
  have Y13 : Hid (IntsAt (fun b => b < w5.heap.size) w5 a13 m13 f13) := own13.at.mono (fun b hb => hb.2)
  replace Y11 : Hid (IntsAt (fun b => b < w5.heap.size) w5 a11 m11 f11) := (Y11.out.blw hb13).mono (fun b hb => Nat.lt_of_lt_of_le hb hb13.size)
  replace X5 : Hid (WX w5 z5 v5 D5 a5 m5 f5) := X5.out.blw hb13
  replace X8 : Hid (WX w5 z8 v8 D8 a8 m8 f8) := X8.out.blw hb13
  replace HB : Hid (Blw w w5) := HB.out.trans hb13
  obtain ⟨eD, er8⟩ := HD8.out
  have er11 := HD11.out
  subst eD er8 er11 er
  clear ho13 hs13 own13 hb13 em ef HD8 HD11 HO11 HL
  have hne : (r5 != r5) = false := by simp
  obtain ⟨p0, p1, p2, p3⟩ := get4 X5.out.1
  obtain ⟨q0, q1, q2, q3⟩ := get4 X8.out.1
  go_wp2_with fail
  clear p0 p1 p2 p3 q0 q1 q2 q3
  refine (si7 _ _ _ _ _ _ f5 f8 _ X5.out.2.2 X8.out.2.2 HE8.out.1 HE8.out.2).mono ?_
  rintro e w6 ⟨rfl, hb⟩
  replace X5 : Hid (WX w6 z5 v5 D5 a5 m5 f5) := X5.out.blw hb
  replace X8 : Hid (WX w6 z8 v8 D5 a8 m8 f8) := X8.out.blw hb
  have Y11h : Hid (IntsAt (fun b => b < w5.heap.size) w6 a11 m11 f11) := IntsAt.blw Y11.out hb
  have Y13h : Hid (IntsAt (fun b => b < w5.heap.size) w6 a13 m13 f13) := IntsAt.blw Y13.out hb
  replace HB : Hid (Blw w w6) := HB.out.trans hb
  clear hb HE8 Y11 Y13
  obtain ⟨p0, p1, p2, p3⟩ := get4 X5.out.1
  obtain ⟨q0, q1, q2, q3⟩ := get4 X8.out.1
  go_wp2_with fail
  clear p0 p1 p2 p3 q0 q1 q2 q3
  refine (sameWalker_same v5 v8 D5 _ X5.out.2.1 X8.out.2.1).mono ?_
  rintro e w7 ⟨rfl, hb⟩
  replace X5 : Hid (WX w7 z5 v5 D5 a5 m5 f5) := X5.out.blw hb
  have Y11 : Hid (IntsAt (fun b => b < w5.heap.size) w7 a11 m11 f11) := IntsAt.blw Y11h.out hb
  have Y13 : Hid (IntsAt (fun b => b < w5.heap.size) w7 a13 m13 f13) := IntsAt.blw Y13h.out hb
  replace HB : Hid (Blw w w7) := HB.out.trans hb
  clear hb X8 Y11h Y13h
  go_wp2_with fail
  refine (si7 _ _ _ _ _ _ f11 f13 _ Y11.out Y13.out HE13.out.1 HE13.out.2).mono ?_
  rintro e w8 ⟨rfl, hb⟩
  replace X5 : Hid (WX w8 z5 v5 D5 a5 m5 f5) := X5.out.blw hb
  have Y12 : Hid (IntsAt (fun b => b < w5.heap.size) w8 a11 m11 f11) := IntsAt.blw Y11.out hb
  replace HB : Hid (Blw w w8) := HB.out.trans hb
  clear hb Y11 Y13 HE13 hne
  cases r5
  · obtain ⟨p0, p1, p2, p3⟩ := get4 X5.out.1
    clear X5 Y12 HE11 HWG HRM
    go_wp2
    go_ret
    exact ⟨rfl, HB.out⟩
  have HGW : Hid (WG D5) := HWG.out rfl
  clear HWG
  obtain ⟨p0, p1, p2, p3⟩ := get4 X5.out.1
  go_wp2_with fail
  clear p0 p1 p2 p3
  refine (si7 _ _ _ _ _ _ f5 f11 _ X5.out.2.2 Y12.out HE11.out.1 HE11.out.2).mono ?_
  rintro e w9 ⟨rfl, hb⟩
  replace X5 : Hid (WX w9 z5 v5 D5 a5 m5 f5) := X5.out.blw hb
  replace HB : Hid (Blw w w9) := HB.out.trans hb
  clear hb Y12 HE11
  obtain ⟨p0, p1, p2, p3⟩ := get4 X5.out.1
  go_wp2_with fail
  clear p0 p1 p2 p3
  refine (goodW_any v5 D5 _ _ HGW.out (fun x hx => hx) HRM.out.1 HRM.out.2 X5.out.2.1).mono ?_
  rintro e w10 ⟨rfl, hb⟩
  replace HB : Hid (Blw w w10) := HB.out.trans hb
  clear hb X5 HGW HRM
  go_wp2
  go_ret
  exact ⟨rfl, HB.out⟩
end Go.Proofs.Ytbpdopcdhnemfaa
