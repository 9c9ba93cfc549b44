/- Law 3: behind a failure each line is what it was last or what was sure, for drawn memories. -/
import Derived.Test.YtnbcjdoohmjghaaDrawK
import Derived.Test.YtnbcjdoohmjghaaSame
import Derived.Test.YtnbcjdoohmjghaaFactM
namespace Go.Proofs.Ytnbcjdoohmjghaa
open Go.RowKit
set_option linter.unusedSimpArgs false
set_option linter.unusedVariables false
theorem ints_none (w : World) : IntsAt (fun _ => True) w none 0 (fun _ => 0) := ⟨Nat.zero_le _, fun i hi => absurd hi (Nat.not_lt_zero _)⟩
theorem sameInts_any (a1 a2 : Option Addr) (c1 c2 n0 : Nat) (f g : Nat → Int) {Y Z : Nat → Prop} (w : World) (h1 : IntsAt Y w a1 n0 f) (h2 : IntsAt Z w a2 n0 g) :
    Calls Try.prog 21 #[.slice a1 n0 c1, .slice a2 n0 c2] w fun e w' => ∃ b, e = .returned (.bool b) ∧ (b = true ↔ ∀ i, i < n0 → f i = g i) ∧ Blw w w' := by
  by_cases h : ∀ i, i < n0 → f i = g i
  · exact (sameInts_yes a1 a2 c1 c2 n0 f g w h1 h2 h).mono fun e w' ⟨he, n, hw⟩ => ⟨true, he, ⟨fun _ => h, fun _ => rfl⟩, by subst hw; exact (Blw.refl _).drewN n⟩
  · obtain ⟨i, hi, hne⟩ : ∃ i, i < n0 ∧ ¬ f i = g i := Classical.byContradiction fun hh => h fun i hi => Classical.byContradiction fun hx => hh ⟨i, hi, hx⟩
    exact (sameInts_no a1 a2 c1 c2 n0 f g w h1 h2 i hi hne).mono fun e w' ⟨he, n, hw⟩ => ⟨false, he, ⟨fun hh => absurd hh (by decide), fun hh => absurd hh h⟩, by subst hw; exact (Blw.refl _).drewN n⟩
/-- The words of one line, in every world that only has more. -/
theorem line_at {Y : Nat → Prop} {w : World} {ao : Option Addr} {v : Nat → Nat → Int} (h : LinesAt Y w ao 12 (fun _ => 4) v) {k : Nat} (hk : k < 12) : ∃ b o a c, ao = some ⟨b, o, none⟩ ∧ (∀ w', Blw w w' → w'.cell? ⟨b, o + k, none⟩ = some (.slice a 4 c)) ∧ ∀ w', Blw w w' → IntsAt Y w' a 4 (v k) := by
  obtain ⟨b, o, a, c, e, _, c1, i1⟩ := h.2 k hk
  exact ⟨b, o, a, c, e, fun w' hb => hb.cell c1, fun w' hb => i1.blw hb⟩
set_option maxRecDepth 10000 in
set_option maxHeartbeats 6400000 in
theorem lawMemoryP (ao1 : Option Addr) (n1 c1 : Nat) (f1 : Nat → Int) (ao2 : Option Addr) (n2 c2 : Nat) (f2 : Nat → Int) (w : World) (h1 : BytesAt (fun b => b < w.heap.size) w ao1 n1 f1) (h2 : BytesAt (fun b => b < w.heap.size) w ao2 n2 f2) :
    Calls Try.prog 3 #[.slice ao1 n1 c1, .slice ao2 n2 c2] w fun e w' => e = .returned (.bool true) ∧ Blw w w' := by
  have H1 : Hid (BytesAt (fun b => b < w.heap.size) w ao1 n1 f1) := h1
  have H2 : Hid (BytesAt (fun b => b < w.heap.size) w ao2 n2 f2) := h2
  clear h1 h2
  go_enter Try.func3, Try.ntmps3
  by_cases hd : wrap64 ((n1 : Int) + n2) > 1048576
  · have d1 : decide (wrap64 ((n1 : Int) + n2) > 1048576) = true := by simpa using hd
    clear hd
    go_wp2
    go_ret
    exact ⟨rfl, Blw.refl _⟩
  have d1 : decide (wrap64 ((n1 : Int) + n2) > 1048576) = false := by simpa using hd
  clear hd
  have HB : Hid (Blw w w) := Blw.refl w
  go_wp2_with fail
  clear d1
  refine (drawFail_any ao1 n1 c1 f1 _ H1.out).mono ?_
  rintro e w1 ⟨m, s, c, d, a6, n6, c6, g6, rfl, hn6, own, hI, hb⟩
  have I6 : Hid (IntsAt _ _ a6 n6 g6) := hI
  clear hI
  obtain ⟨MM, hMM⟩ : ∃ MM, MD.full s c d = MM := ⟨_, rfl⟩
  rw [hMM] at own ⊢
  have EFm : Hid (∃ s c d, MM = MD.full s c d) := ⟨s, c, d, hMM.symm⟩
  clear hMM
  have hA : Blw w1 (w1.alloc (.cells #[.slice m.a1 MM.n1 m.c1, .slice m.a2 MM.n2 m.c2, .slice m.a3 MM.n3 m.c3] 26)) := (Blw.refl _).alloc _
  replace hb := hb.trans hA
  replace HB : Hid (Blw _ _) := Blw.trans HB.out hb
  clear hb
  replace I6 : Hid (IntsAt _ _ _ _ _) := IntsAt.blw I6.out hA
  have B5 : Hid (Box _ w1.heap.size m MM) := box3 w1 _ _ _ 26
  have M5 : Hid (MemAt _ _ m MM) := own.at.blw hA
  clear own hA
  obtain ⟨p00, p01, p02⟩ := get3 B5.out
  go_wp2_with fail
  clear p00 p01 p02
  refine (implFail_any m MM _ _ _ a6 n6 c6 g6 M5.out I6.out).mono ?_
  rintro e w2 ⟨m7, M7, b8, rfl, ho, own, hb⟩
  have O7 : Hid (fwOut MM n6 g6 M7 b8) := ho
  clear ho
  have hA : Blw w2 (w2.alloc (.cells #[.slice m7.a1 M7.n1 m7.c1, .slice m7.a2 M7.n2 m7.c2, .slice m7.a3 M7.n3 m7.c3] 26)) := (Blw.refl _).alloc _
  replace hb := hb.trans hA
  replace HB : Hid (Blw _ _) := Blw.trans HB.out hb
  replace B5 : Hid (Box _ _ _ _) := Row.blw B5.out hb
  replace M5 : Hid (MemAt _ _ _ _) := MemAt.blw M5.out hb
  replace I6 : Hid (IntsAt _ _ _ _ _) := IntsAt.blw I6.out hb
  clear hb
  have B7 : Hid (Box _ w2.heap.size m7 M7) := box3 w2 _ _ _ 26
  have A7 : Hid (MemAt _ _ m7 M7) := own.at.blw hA
  clear own hA
  obtain ⟨p00, p01, p02⟩ := get3 B5.out
  go_wp2_with fail
  clear p00 p01 p02
  refine (specFail_any m MM _ _ _ a6 n6 c6 g6 M5.out I6.out).mono ?_
  rintro e w3 ⟨m9, M9, b10, rfl, ho, own, hb⟩
  have O9 : Hid (fwOut MM n6 g6 M9 b10) := ho
  clear ho
  have hA : Blw w3 (w3.alloc (.cells #[.slice m9.a1 M9.n1 m9.c1, .slice m9.a2 M9.n2 m9.c2, .slice m9.a3 M9.n3 m9.c3] 26)) := (Blw.refl _).alloc _
  replace hb := hb.trans hA
  replace HB : Hid (Blw _ _) := Blw.trans HB.out hb
  replace B5 : Hid (Box _ _ _ _) := Row.blw B5.out hb
  replace M5 : Hid (MemAt _ _ _ _) := MemAt.blw M5.out hb
  replace I6 : Hid (IntsAt _ _ _ _ _) := IntsAt.blw I6.out hb
  replace B7 : Hid (Box _ _ _ _) := Row.blw B7.out hb
  replace A7 : Hid (MemAt _ _ _ _) := MemAt.blw A7.out hb
  clear hb
  have B9 : Hid (Box _ w3.heap.size m9 M9) := box3 w3 _ _ _ 26
  have A9 : Hid (MemAt _ _ m9 M9) := own.at.blw hA
  clear own hA
  obtain ⟨eM, eb⟩ := fwOut_same O9.out O7.out
  subst eM eb
  have hne : (b10 != b10) = false := by simp
  go_upto_region 6 with fail
  obtain ⟨w4, hw4⟩ : ∃ w4, w3.alloc (.cells #[.slice m9.a1 M9.n1 m9.c1, .slice m9.a2 M9.n2 m9.c2, .slice m9.a3 M9.n3 m9.c3] 26) = w4 := ⟨_, rfl⟩
  rw [hw4] at HB B5 M5 B7 A7 B9 A9 I6 ⊢
  clear hw4
  go_cut [68] from 53 to 68 (fun c wx => c = .bool false ∧ Blw w4 wx)
  case first =>
    obtain ⟨X0, X1, X2⟩ := box3_all B5.out
    obtain ⟨Y0, Y1, Y2⟩ := box3_all B7.out
    obtain ⟨Z0, Z1, Z2⟩ := box3_all B9.out
    go_region_held3 (fun w' => Blw w4 w') ((first | exact (Blw.refl _).drew | assumption | exact Blw.trans (by assumption) (by assumption))) (first
      | (go_at_call 17; refine (sameMemory_same m7 m9 M9 _ (A7.out.blw (by assumption)) (A9.out.blw (by assumption))).mono ?_; rintro e wA ⟨rfl, hbA⟩)
      | (go_at_call 18; refine (goodI_any m MM _ _ (M5.out.blw (by assumption))).mono ?_; rintro e wB ⟨gi, rfl, hgi, hbB⟩)
      | (go_at_call 19; refine (goodS_any m MM _ _ (M5.out.blw (by assumption))).mono ?_; rintro e wC ⟨gs, rfl, hgs, hbC⟩; obtain rfl : gi = gs := (by have q := hgi.trans hgs.symm; cases gi <;> cases gs <;> simp_all); have hgne : (gi != gi) = false := (by simp)))
    all_goals go_wp2_with fail
    all_goals go_meet
    all_goals exact ⟨rfl, by assumption⟩
  case rest =>
    obtain ⟨rfl, hb⟩ := hcut
    replace HB : Hid (Blw _ _) := Blw.trans HB.out hb
    replace B5 : Hid (Box _ _ _ _) := Row.blw B5.out hb
    replace M5 : Hid (MemAt _ _ _ _) := MemAt.blw M5.out hb
    replace I6 : Hid (IntsAt _ _ _ _ _) := IntsAt.blw I6.out hb
    replace B7 : Hid (Box _ _ _ _) := Row.blw B7.out hb
    replace A7 : Hid (MemAt _ _ _ _) := MemAt.blw A7.out hb
    replace B9 : Hid (Box _ _ _ _) := Row.blw B9.out hb
    replace A9 : Hid (MemAt _ _ _ _) := MemAt.blw A9.out hb
    clear hb
    clear B9 A9
    go_upto_if 69 with fail
    go_cut [] from 5 to 151 (fun wx => Blw w wx)
    case first =>
      cases b10
      · go_wp2_with fail
        go_meet
        exact HB.out
      obtain ⟨G, G7, F7, L7⟩ := fw_true O7.out
      have HG : Hid (MM.Good) := G
      have HG7 : Hid (M9.Good) := G7
      have HL7 : Hid _ := L7
      have HF7 : Hid (∃ s c d, M9 = MD.full s c d) := F7
      clear G G7 F7 L7
      obtain ⟨p00, p01, p02⟩ := get3 B5.out
      go_wp2_with fail
      clear p00 p01 p02
      refine (implFlushAll_any m MM _ _ M5.out).mono ?_
      rintro e w5 ⟨m11, M11, b12, rfl, ho, own, hb⟩
      have O11 : Hid (faOut MM M11 b12) := ho
      clear ho
      have hA : Blw w5 (w5.alloc (.cells #[.slice m11.a1 M11.n1 m11.c1, .slice m11.a2 M11.n2 m11.c2, .slice m11.a3 M11.n3 m11.c3] 26)) := (Blw.refl _).alloc _
      replace hb := hb.trans hA
      replace HB : Hid (Blw _ _) := Blw.trans HB.out hb
      replace B5 : Hid (Box _ _ _ _) := Row.blw B5.out hb
      replace M5 : Hid (MemAt _ _ _ _) := MemAt.blw M5.out hb
      replace I6 : Hid (IntsAt _ _ _ _ _) := IntsAt.blw I6.out hb
      replace B7 : Hid (Box _ _ _ _) := Row.blw B7.out hb
      replace A7 : Hid (MemAt _ _ _ _) := MemAt.blw A7.out hb
      clear hb
      have B11 : Hid (Box _ w5.heap.size m11 M11) := box3 w5 _ _ _ 26
      have A11 : Hid (MemAt _ _ m11 M11) := own.at.blw hA
      clear own hA
      obtain ⟨eb, G11, F11, L11⟩ := fa_good HG.out O11.out
      subst eb
      have HG11 : Hid (M11.Good) := G11
      have HF11 : Hid (∃ s c d, M11 = MD.full s c d) := F11
      have HL11 : Hid _ := L11
      clear G11 F11 L11
      obtain ⟨p00, p01, p02⟩ := get3 B11.out
      go_wp2_with fail
      clear p00 p01 p02
      refine (implFail_any m11 M11 _ _ _ none 0 0 (fun _ => 0) A11.out (ints_none _)).mono ?_
      rintro e w6 ⟨m13, M13, b14, rfl, ho, own, hb⟩
      have O13 : Hid (fwOut M11 0 (fun _ => 0) M13 b14) := ho
      clear ho
      have hA : Blw w6 (w6.alloc (.cells #[.slice m13.a1 M13.n1 m13.c1, .slice m13.a2 M13.n2 m13.c2, .slice m13.a3 M13.n3 m13.c3] 26)) := (Blw.refl _).alloc _
      replace hb := hb.trans hA
      replace HB : Hid (Blw _ _) := Blw.trans HB.out hb
      replace B5 : Hid (Box _ _ _ _) := Row.blw B5.out hb
      replace M5 : Hid (MemAt _ _ _ _) := MemAt.blw M5.out hb
      replace I6 : Hid (IntsAt _ _ _ _ _) := IntsAt.blw I6.out hb
      replace B7 : Hid (Box _ _ _ _) := Row.blw B7.out hb
      replace A7 : Hid (MemAt _ _ _ _) := MemAt.blw A7.out hb
      replace B11 : Hid (Box _ _ _ _) := Row.blw B11.out hb
      replace A11 : Hid (MemAt _ _ _ _) := MemAt.blw A11.out hb
      clear hb
      have B13 : Hid (Box _ w6.heap.size m13 M13) := box3 w6 _ _ _ 26
      have A13 : Hid (MemAt _ _ m13 M13) := own.at.blw hA
      clear own hA
      obtain ⟨eb, AL⟩ := fw_clean HG11.out HF11.out (fun k hk => (HL11.out k hk).1) O13.out
      subst eb
      replace A11 : Hid (MemAt _ _ _ _) := A11.out.alike AL
      have EV : Hid _ := AL
      clear AL
      obtain ⟨p00, p01, p02⟩ := get3 B7.out
      go_wp2_with fail
      clear p00 p01 p02
      refine (goodI_any m7 M9 _ _ A7.out).mono ?_
      rintro e w7 ⟨g7, rfl, hg7, hb⟩
      obtain rfl : g7 = true := hg7.2 HG7.out
      clear hg7
      replace HB : Hid (Blw _ _) := Blw.trans HB.out hb
      replace B5 : Hid (Box _ _ _ _) := Row.blw B5.out hb
      replace M5 : Hid (MemAt _ _ _ _) := MemAt.blw M5.out hb
      replace I6 : Hid (IntsAt _ _ _ _ _) := IntsAt.blw I6.out hb
      replace B7 : Hid (Box _ _ _ _) := Row.blw B7.out hb
      replace A7 : Hid (MemAt _ _ _ _) := MemAt.blw A7.out hb
      replace B11 : Hid (Box _ _ _ _) := Row.blw B11.out hb
      replace A11 : Hid (MemAt _ _ _ _) := MemAt.blw A11.out hb
      replace B13 : Hid (Box _ _ _ _) := Row.blw B13.out hb
      replace A13 : Hid (MemAt _ _ _ _) := MemAt.blw A13.out hb
      clear hb
      obtain ⟨p00, p01, p02⟩ := get3 B11.out
      obtain ⟨p10, p11, p12⟩ := get3 B13.out
      go_wp2_with fail
      clear p00 p01 p02 p10 p11 p12
      have ev := val_alike (m := m11) EV.out
      simp only [MV.val] at ev
      rw [ev]
      clear ev
      refine (sameMemory_same m11 m13 M13 _ A11.out A13.out).mono ?_
      rintro e w8 ⟨rfl, hb⟩
      replace HB : Hid (Blw _ _) := Blw.trans HB.out hb
      replace B5 : Hid (Box _ _ _ _) := Row.blw B5.out hb
      replace M5 : Hid (MemAt _ _ _ _) := MemAt.blw M5.out hb
      replace I6 : Hid (IntsAt _ _ _ _ _) := IntsAt.blw I6.out hb
      replace B7 : Hid (Box _ _ _ _) := Row.blw B7.out hb
      replace A7 : Hid (MemAt _ _ _ _) := MemAt.blw A7.out hb
      replace B11 : Hid (Box _ _ _ _) := Row.blw B11.out hb
      replace A11 : Hid (MemAt _ _ _ _) := MemAt.blw A11.out hb
      replace B13 : Hid (Box _ _ _ _) := Row.blw B13.out hb
      replace A13 : Hid (MemAt _ _ _ _) := MemAt.blw A13.out hb
      clear hb
      clear B11 A11 B13 A13
      obtain ⟨s5, c5, d5, e5⟩ := EFm.out
      subst e5
      obtain ⟨s9, c9, d9, e9⟩ := HF7.out
      subst e9
      clear HF11 HG11 HL11 O11 O13 EV HF7 EFm HG7
      obtain ⟨p0, p1, p2⟩ := get3 B5.out
      simp only [MD.full] at p0 p1 p2
      go_wp2_with fail
      clear p0 p1 p2
      go_loopw [100] (fun i wr => ∃ k : Nat, k ≤ 12 ∧ i = .int .i64 k ∧ Blw w8 wr) (fun i _ => 12 - (intOf i).toNat)
      case atStart => exact ⟨0, by omega, rfl, Blw.refl _⟩
      case round =>
        obtain ⟨k, hk, rfl, hk4⟩ := hrel
        by_cases hlt : k < 12
        · have hlt' : (k : Int) < 12 := by omega
          have HK : Hid (Blw w8 wr) := hk4
          obtain ⟨q1, q2, q3, -⟩ := HL7.out k hlt
          have Q1 : Hid (d9 k = false) := q1
          have Q2 : Hid (hasLine n6 g6 k → ∀ j, j < 4 → c9 k j = c5 k j) := q2
          have Q3 : Hid (¬ hasLine n6 g6 k → ∀ j, j < 4 → c9 k j = s5 k j) := q3
          clear q1 q2 q3
          obtain ⟨X0, X1, X2⟩ := box3_all (B5.out.blw hk4)
          obtain ⟨Y0, Y1, Y2⟩ := box3_all (B7.out.blw hk4)
          obtain ⟨b2, o2, a2, e2, ea2, C2, i2⟩ := line_at (M5.out.blw hk4).c hlt
          obtain ⟨b1, o1, a1, e1, ea1, C1, i1⟩ := line_at (M5.out.blw hk4).s hlt
          obtain ⟨b7, o7, a7, e7, ea7, C7, i7⟩ := line_at (A7.out.blw hk4).c hlt
          obtain ⟨b3, o3, ea3, -, C3⟩ := (A7.out.blw hk4).d.2 k hlt
          have J2 : Hid _ := i2
          have J1 : Hid _ := i1
          have J7 : Hid _ := i7
          rw [ea2] at X1
          rw [ea1] at X0
          rw [ea7] at Y1
          rw [ea3] at Y2
          simp only [MD.full] at X0 X1 X2 Y0 Y1 Y2 C3
          rw [Q1.out] at C3
          clear i1 i2 i7 hk4 ea1 ea2 ea3 ea7
          go_upto_region 16 with fail
          go_cut [16] from 101 to 151 (fun c wx => ∃ b, c = .bool b ∧ (b = true ↔ ∀ j, j < 4 → c9 k j = c5 k j) ∧ Blw wr wx)
          case first =>
            go_region_held3 (fun w' => Blw wr w') ((first | exact (Blw.refl _).drew | assumption | exact Blw.trans (by assumption) (by assumption))) (first
              | (go_at_call 21; refine (sameInts_any _ _ _ _ 4 (c9 k) (c5 k) _ (J7.out _ (by assumption)) (J2.out _ (by assumption))).mono ?_; rintro e wA ⟨bA, rfl, hA, hbA⟩))
            all_goals go_wp2_with fail
            all_goals go_meet
            all_goals exact ⟨_, rfl, hA, by assumption⟩
          case rest =>
            obtain ⟨nb, rfl, hnb, hbx⟩ := hcut
            have NB : Hid (nb = true ↔ ∀ j, j < 4 → c9 k j = c5 k j) := hnb
            clear hnb
            replace X0 : ∀ w', Blw wc w' → _ := fun w' hh => X0 w' (hbx.trans hh)
            replace Y1 : ∀ w', Blw wc w' → _ := fun w' hh => Y1 w' (hbx.trans hh)
            replace C1 : ∀ w', Blw wc w' → _ := fun w' hh => C1 w' (hbx.trans hh)
            replace C7 : ∀ w', Blw wc w' → _ := fun w' hh => C7 w' (hbx.trans hh)
            have K7 : Hid _ := fun w' (hh : Blw wc w') => J7.out w' (hbx.trans hh)
            have K1 : Hid _ := fun w' (hh : Blw wc w') => J1.out w' (hbx.trans hh)
            replace Y2 := Y2 _ hbx
            replace C3 := hbx.cell C3
            replace HK : Hid (Blw w8 _) := Blw.trans HK.out hbx
            clear X1 X2 Y0 C2 J1 J2 J7 hbx
            go_upto_region 17 with fail
            go_cut [17] from 101 to 151 (fun c wx => ∃ b, c = .bool b ∧ (b = true ↔ ∀ j, j < 4 → c9 k j = s5 k j) ∧ Blw wc wx)
            case first =>
              go_region_held3 (fun w' => Blw wc w') ((first | exact (Blw.refl _).drew | assumption | exact Blw.trans (by assumption) (by assumption))) (first
                | (go_at_call 21; refine (sameInts_any _ _ _ _ 4 (c9 k) (s5 k) _ (K7.out _ (by assumption)) (K1.out _ (by assumption))).mono ?_; rintro e wA ⟨bA, rfl, hA, hbA⟩))
              all_goals go_wp2_with fail
              all_goals go_meet
              all_goals exact ⟨_, rfl, hA, by assumption⟩
            case rest =>
              obtain ⟨wb, rfl, hwb, hbx⟩ := hcut
              have WB : Hid (wb = true ↔ ∀ j, j < 4 → c9 k j = s5 k j) := hwb
              clear hwb
              replace Y2 := hbx.cell Y2
              replace C3 := hbx.cell C3
              replace HK : Hid (Blw w8 _) := Blw.trans HK.out hbx
              clear X0 Y1 C1 C7 K7 K1 hbx
              cases nb
              · have NH : Hid (¬ hasLine n6 g6 k) := fun g => absurd (NB.out.2 (Q2.out g)) (by decide)
                obtain rfl : wb = true := WB.out.2 (Q3.out NH.out)
                go_wp2_with fail
                refine (has_any a6 c6 n6 g6 _ _ k (I6.out.blw HK.out)).mono ?_
                rintro e wh ⟨hb_, rfl, hh, rfl⟩
                obtain rfl : hb_ = false := by
                  cases hb_
                  · rfl
                  · exact absurd (hh.1 rfl) NH.out
                clear hh
                go_wp2
                go_roundw
                case rel => exact ⟨k + 1, by omega, by go_num, HK.out⟩
                case measure => simp [intOf]; omega
              · skip
                go_wp2_with fail
                refine (has_any a6 c6 n6 g6 _ _ k (I6.out.blw HK.out)).mono ?_
                rintro e wh ⟨hb_, rfl, hh, rfl⟩
                clear hh
                cases hb_
                · skip
                  go_wp2
                  go_roundw
                  case rel => exact ⟨k + 1, by omega, by go_num, HK.out⟩
                  case measure => simp [intOf]; omega
                · skip
                  go_wp2
                  go_roundw
                  case rel => exact ⟨k + 1, by omega, by go_num, HK.out⟩
                  case measure => simp [intOf]; omega
        · obtain rfl : k = 12 := by omega
          go_wp2_with fail
          go_meet
          exact HB.out.trans hk4
    case rest =>
      have HC : Hid (Blw w wc) := hcut
      clear hcut HB B5 M5 B7 A7 O7 O9 H1 I6
      replace H2 : Hid (BytesAt _ _ _ _ _) := BytesAt.blw H2.out HC.out
      go_wp2_with fail
      refine (drawFlushAll_any ao2 n2 c2 f2 _ (BytesAt.mono' H2.out (fun b hb => Nat.lt_of_lt_of_le hb HC.out.size))).mono ?_
      rintro e w10 ⟨m18, s, c, d, rfl, own, hb⟩
      obtain ⟨M18, hMM⟩ : ∃ M18, MD.full s c d = M18 := ⟨_, rfl⟩
      rw [hMM] at own ⊢
      have EFm18 : Hid (∃ s c d, M18 = MD.full s c d) := ⟨s, c, d, hMM.symm⟩
      clear hMM
      have hA : Blw w10 (w10.alloc (.cells #[.slice m18.a1 M18.n1 m18.c1, .slice m18.a2 M18.n2 m18.c2, .slice m18.a3 M18.n3 m18.c3] 26)) := (Blw.refl _).alloc _
      replace hb := hb.trans hA
      replace HC : Hid (Blw _ _) := Blw.trans HC.out hb
      replace H2 : Hid (BytesAt _ _ _ _ _) := BytesAt.blw H2.out hb
      clear hb
      have B18 : Hid (Box _ w10.heap.size m18 M18) := box3 w10 _ _ _ 26
      have A18 : Hid (MemAt _ _ m18 M18) := own.at.blw hA
      clear own hA
      obtain ⟨p00, p01, p02⟩ := get3 B18.out
      go_wp2_with fail
      clear p00 p01 p02
      refine (implFlushAll_any m18 M18 _ _ A18.out).mono ?_
      rintro e w11 ⟨m19, M19, b20, rfl, ho, own, hb⟩
      have O19 : Hid (faOut M18 M19 b20) := ho
      clear ho
      have hA : Blw w11 (w11.alloc (.cells #[.slice m19.a1 M19.n1 m19.c1, .slice m19.a2 M19.n2 m19.c2, .slice m19.a3 M19.n3 m19.c3] 26)) := (Blw.refl _).alloc _
      replace hb := hb.trans hA
      replace HC : Hid (Blw _ _) := Blw.trans HC.out hb
      replace H2 : Hid (BytesAt _ _ _ _ _) := BytesAt.blw H2.out hb
      replace B18 : Hid (Box _ _ _ _) := Row.blw B18.out hb
      replace A18 : Hid (MemAt _ _ _ _) := MemAt.blw A18.out hb
      clear hb
      have B19 : Hid (Box _ w11.heap.size m19 M19) := box3 w11 _ _ _ 26
      have A19 : Hid (MemAt _ _ m19 M19) := own.at.blw hA
      clear own hA
      obtain ⟨p00, p01, p02⟩ := get3 B18.out
      go_wp2_with fail
      clear p00 p01 p02
      refine (specFlushAll_any m18 M18 _ _ A18.out).mono ?_
      rintro e w12 ⟨m21, M21, b22, rfl, ho, own, hb⟩
      have O21 : Hid (faOut M18 M21 b22) := ho
      clear ho
      have hA : Blw w12 (w12.alloc (.cells #[.slice m21.a1 M21.n1 m21.c1, .slice m21.a2 M21.n2 m21.c2, .slice m21.a3 M21.n3 m21.c3] 26)) := (Blw.refl _).alloc _
      replace hb := hb.trans hA
      replace HC : Hid (Blw _ _) := Blw.trans HC.out hb
      replace H2 : Hid (BytesAt _ _ _ _ _) := BytesAt.blw H2.out hb
      replace B18 : Hid (Box _ _ _ _) := Row.blw B18.out hb
      replace A18 : Hid (MemAt _ _ _ _) := MemAt.blw A18.out hb
      replace B19 : Hid (Box _ _ _ _) := Row.blw B19.out hb
      replace A19 : Hid (MemAt _ _ _ _) := MemAt.blw A19.out hb
      clear hb
      have B21 : Hid (Box _ w12.heap.size m21 M21) := box3 w12 _ _ _ 26
      have A21 : Hid (MemAt _ _ m21 M21) := own.at.blw hA
      clear own hA
      obtain ⟨eM, eb⟩ := faOut_same O21.out O19.out
      subst eM eb
      clear B18 A18
      go_wp2_with fail
      refine (drawFlushLine_any ao2 n2 c2 f2 _ (BytesAt.mono' H2.out (fun b hb => Nat.lt_of_lt_of_le hb HC.out.size))).mono ?_
      rintro e w13 ⟨m23, s, c, d, x24, rfl, own, hb⟩
      obtain ⟨M23, hMM⟩ : ∃ M23, MD.full s c d = M23 := ⟨_, rfl⟩
      rw [hMM] at own ⊢
      have EFm23 : Hid (∃ s c d, M23 = MD.full s c d) := ⟨s, c, d, hMM.symm⟩
      clear hMM
      have hA : Blw w13 (w13.alloc (.cells #[.slice m23.a1 M23.n1 m23.c1, .slice m23.a2 M23.n2 m23.c2, .slice m23.a3 M23.n3 m23.c3] 26)) := (Blw.refl _).alloc _
      replace hb := hb.trans hA
      replace HC : Hid (Blw _ _) := Blw.trans HC.out hb
      replace H2 : Hid (BytesAt _ _ _ _ _) := BytesAt.blw H2.out hb
      replace B19 : Hid (Box _ _ _ _) := Row.blw B19.out hb
      replace A19 : Hid (MemAt _ _ _ _) := MemAt.blw A19.out hb
      replace B21 : Hid (Box _ _ _ _) := Row.blw B21.out hb
      replace A21 : Hid (MemAt _ _ _ _) := MemAt.blw A21.out hb
      clear hb
      have B23 : Hid (Box _ w13.heap.size m23 M23) := box3 w13 _ _ _ 26
      have A23 : Hid (MemAt _ _ m23 M23) := own.at.blw hA
      clear own hA
      obtain ⟨p00, p01, p02⟩ := get3 B23.out
      go_wp2_with fail
      clear p00 p01 p02
      refine (implFlush_any m23 M23 _ _ x24 A23.out).mono ?_
      rintro e w14 ⟨m25, M25, b26, rfl, ho, own, hb⟩
      have O25 : Hid (flOut M23 x24 M25 b26) := ho
      clear ho
      have hA : Blw w14 (w14.alloc (.cells #[.slice m25.a1 M25.n1 m25.c1, .slice m25.a2 M25.n2 m25.c2, .slice m25.a3 M25.n3 m25.c3] 26)) := (Blw.refl _).alloc _
      replace hb := hb.trans hA
      replace HC : Hid (Blw _ _) := Blw.trans HC.out hb
      replace H2 : Hid (BytesAt _ _ _ _ _) := BytesAt.blw H2.out hb
      replace B19 : Hid (Box _ _ _ _) := Row.blw B19.out hb
      replace A19 : Hid (MemAt _ _ _ _) := MemAt.blw A19.out hb
      replace B21 : Hid (Box _ _ _ _) := Row.blw B21.out hb
      replace A21 : Hid (MemAt _ _ _ _) := MemAt.blw A21.out hb
      replace B23 : Hid (Box _ _ _ _) := Row.blw B23.out hb
      replace A23 : Hid (MemAt _ _ _ _) := MemAt.blw A23.out hb
      clear hb
      have B25 : Hid (Box _ w14.heap.size m25 M25) := box3 w14 _ _ _ 26
      have A25 : Hid (MemAt _ _ m25 M25) := own.at.blw hA
      clear own hA
      obtain ⟨p00, p01, p02⟩ := get3 B23.out
      go_wp2_with fail
      clear p00 p01 p02
      refine (specFlush_any m23 M23 _ _ x24 A23.out).mono ?_
      rintro e w15 ⟨m27, M27, b28, rfl, ho, own, hb⟩
      have O27 : Hid (flOut M23 x24 M27 b28) := ho
      clear ho
      have hA : Blw w15 (w15.alloc (.cells #[.slice m27.a1 M27.n1 m27.c1, .slice m27.a2 M27.n2 m27.c2, .slice m27.a3 M27.n3 m27.c3] 26)) := (Blw.refl _).alloc _
      replace hb := hb.trans hA
      replace HC : Hid (Blw _ _) := Blw.trans HC.out hb
      replace H2 : Hid (BytesAt _ _ _ _ _) := BytesAt.blw H2.out hb
      replace B19 : Hid (Box _ _ _ _) := Row.blw B19.out hb
      replace A19 : Hid (MemAt _ _ _ _) := MemAt.blw A19.out hb
      replace B21 : Hid (Box _ _ _ _) := Row.blw B21.out hb
      replace A21 : Hid (MemAt _ _ _ _) := MemAt.blw A21.out hb
      replace B23 : Hid (Box _ _ _ _) := Row.blw B23.out hb
      replace A23 : Hid (MemAt _ _ _ _) := MemAt.blw A23.out hb
      replace B25 : Hid (Box _ _ _ _) := Row.blw B25.out hb
      replace A25 : Hid (MemAt _ _ _ _) := MemAt.blw A25.out hb
      clear hb
      have B27 : Hid (Box _ w15.heap.size m27 M27) := box3 w15 _ _ _ 26
      have A27 : Hid (MemAt _ _ m27 M27) := own.at.blw hA
      clear own hA
      obtain ⟨eM, eb⟩ := flOut_same O27.out O25.out
      subst eM eb
      clear B23 A23
      go_wp2_with fail
      refine (implNew_any _).mono ?_
      rintro e w16 ⟨m29, rfl, own, hb⟩
      obtain ⟨M29, hMM⟩ : ∃ M29, MD.full zeros zeros (fun _ => false) = M29 := ⟨_, rfl⟩
      rw [hMM] at own ⊢
      have EN : Hid (MD.full zeros zeros (fun _ => false) = M29) := hMM
      have GN : Hid (M29.Good) := by rw [← hMM]; exact good_zeros
      clear hMM
      have hA : Blw w16 (w16.alloc (.cells #[.slice m29.a1 M29.n1 m29.c1, .slice m29.a2 M29.n2 m29.c2, .slice m29.a3 M29.n3 m29.c3] 26)) := (Blw.refl _).alloc _
      replace hb := hb.trans hA
      replace HC : Hid (Blw _ _) := Blw.trans HC.out hb
      replace H2 : Hid (BytesAt _ _ _ _ _) := BytesAt.blw H2.out hb
      replace B19 : Hid (Box _ _ _ _) := Row.blw B19.out hb
      replace A19 : Hid (MemAt _ _ _ _) := MemAt.blw A19.out hb
      replace B21 : Hid (Box _ _ _ _) := Row.blw B21.out hb
      replace A21 : Hid (MemAt _ _ _ _) := MemAt.blw A21.out hb
      replace B25 : Hid (Box _ _ _ _) := Row.blw B25.out hb
      replace A25 : Hid (MemAt _ _ _ _) := MemAt.blw A25.out hb
      replace B27 : Hid (Box _ _ _ _) := Row.blw B27.out hb
      replace A27 : Hid (MemAt _ _ _ _) := MemAt.blw A27.out hb
      clear hb
      have B29 : Hid (Box _ w16.heap.size m29 M29) := box3 w16 _ _ _ 26
      have A29 : Hid (MemAt _ _ m29 M29) := own.at.blw hA
      clear own hA
      go_upto_region 28 with fail
      obtain ⟨w17, hw17⟩ : ∃ w17, w16.alloc (.cells #[.slice m29.a1 M29.n1 m29.c1, .slice m29.a2 M29.n2 m29.c2, .slice m29.a3 M29.n3 m29.c3] 26) = w17 := ⟨_, rfl⟩
      rw [hw17] at HC B19 A19 B21 A21 B25 A25 B27 A27 B29 A29 ⊢
      clear hw17 H2
      obtain ⟨P0, P1, P2⟩ := box3_all B19.out
      obtain ⟨Q0, Q1, Q2⟩ := box3_all B21.out
      obtain ⟨R0, R1, R2⟩ := box3_all B25.out
      obtain ⟨S0, S1, S2⟩ := box3_all B27.out
      obtain ⟨T0, T1, T2⟩ := box3_all B29.out
      have e1 : (b22 == b22) = true := by simp
      have e2 : (b28 == b28) = true := by simp
      clear B19 B21 B25 B27 B29 O19 O21 O25 O27 EFm18 EFm23
      refine wp_region_noPanic ?_
      refine wp_region_held_drew (S := fun w' => Blw w17 w') (by kernel_rfl) ((Blw.refl _).drew) (fun hB1 => ?_)
      revert hB1
      generalize w17.drew = wd1
      intro hB1
      refine wpAnyH_take (i := 0) (oi := { dst := some 182, op := Op.move (Operand.tmp 20), type := 4, pos := _, after := #[], guard := none }) (v := .bool b22) rfl (by kernel_rfl) (by kernel_rfl) (by kernel_rfl) (fun _ _ _ h => h) (Or.inl ⟨by rfl, fun w' hS => by (try dsimp only at hS); go_simp⟩) hB1 ?_
      simp only [Act.put, List.setIfInBounds_toArray, List.set_cons_zero, List.set_cons_succ]
      refine wpAnyH_take (i := 1) (oi := { dst := some 183, op := Op.move (Operand.tmp 22), type := 4, pos := _, after := #[], guard := none }) (v := .bool b22) rfl (by kernel_rfl) (by kernel_rfl) (by kernel_rfl) (fun _ _ _ h => h) (Or.inl ⟨by rfl, fun w' hS => by (try dsimp only at hS); go_simp⟩) hB1 ?_
      simp only [Act.put, List.setIfInBounds_toArray, List.set_cons_zero, List.set_cons_succ]
      refine wpAnyH_take (i := 2) (oi := { dst := some 184, op := Op.binOp BinOp.eql 4 (Operand.tmp 182) (Operand.tmp 183) 4, type := 4, pos := _, after := #[{ on := 0, ground := Ground.data }, { on := 1, ground := Ground.data }], guard := none }) (v := .bool true) rfl (by kernel_rfl) (by kernel_rfl) (by kernel_rfl) (fun _ _ _ h => h) (Or.inl ⟨by rfl, fun w' hS => by (try dsimp only at hS); go_simp⟩) hB1 ?_
      simp only [Act.put, List.setIfInBounds_toArray, List.set_cons_zero, List.set_cons_succ]
      refine wpAnyH_take (i := 3) (oi := { dst := some 185, op := Op.move (Operand.tmp 184), type := 4, pos := _, after := #[{ on := 2, ground := Ground.data }], guard := none }) (v := .bool true) rfl (by kernel_rfl) (by kernel_rfl) (by kernel_rfl) (fun _ _ _ h => h) (Or.inl ⟨by rfl, fun w' hS => by (try dsimp only at hS); go_simp⟩) hB1 ?_
      simp only [Act.put, List.setIfInBounds_toArray, List.set_cons_zero, List.set_cons_succ]
      refine wpAnyH_take (i := 4) (oi := { dst := some 186, op := Op.load 26 (Operand.tmp 19), type := 26, pos := _, after := #[{ on := 3, ground := Ground.guard }], guard := some (3, true) }) (v := .agg #[.slice m19.a1 M21.n1 m19.c1, .slice m19.a2 M21.n2 m19.c2, .slice m19.a3 M21.n3 m19.c3]) rfl (by kernel_rfl) (by kernel_rfl) (by kernel_rfl) (fun _ _ _ h => h) (Or.inl ⟨by rfl, fun w' hS => by (try dsimp only at hS); go_simp⟩) hB1 ?_
      simp only [Act.put, List.setIfInBounds_toArray, List.set_cons_zero, List.set_cons_succ]
      refine wpAnyH_take (i := 5) (oi := { dst := some 187, op := Op.load 26 (Operand.tmp 21), type := 26, pos := _, after := #[{ on := 3, ground := Ground.guard }], guard := some (3, true) }) (v := .agg #[.slice m21.a1 M21.n1 m21.c1, .slice m21.a2 M21.n2 m21.c2, .slice m21.a3 M21.n3 m21.c3]) rfl (by kernel_rfl) (by kernel_rfl) (by kernel_rfl) (fun _ _ _ h => h) (Or.inl ⟨by rfl, fun w' hS => by (try dsimp only at hS); go_simp⟩) hB1 ?_
      simp only [Act.put, List.setIfInBounds_toArray, List.set_cons_zero, List.set_cons_succ]
      refine wpAnyH_ready (rs := [6]) (by kernel_rfl) (by simp) ?_
      refine AllReadyH.cons (o := { dst := some 188, op := Op.call { callee := Callee.value (Operand.func 17), args := #[Operand.tmp 186, Operand.tmp 187], argTypes := #[26, 26] }, type := 4, pos := _, after := #[{ on := 4, ground := Ground.data }, { on := 5, ground := Ground.data }, { on := 3, ground := Ground.chain }, { on := 3, ground := Ground.guard }], guard := some (3, true) }) rfl (fun K hK => ?_) AllReadyH.nil
      go_simp
      refine (sameMemory_same m19 m21 M21 _ (A19.out.blw hB1) (A21.out.blw hB1)).mono ?_
      rintro e wA ⟨rfl, hbA⟩
      clear P0 P1 P2 Q0 Q1 Q2 A19 A21 e1
      refine hK.out _ _ (hB1.trans hbA) (fun hB2 => ?_)
      clear hK K
      try simp only [Act.put, List.setIfInBounds_toArray, List.set_cons_zero, List.set_cons_succ]
      refine wpAnyH_take (i := 7) (oi := { dst := some 189, op := Op.pick (Operand.tmp 185) (Operand.tmp 188) (Operand.const (Value.bool false)), type := 4, pos := _, after := #[{ on := 3, ground := Ground.data }, { on := 6, ground := Ground.data }], guard := none }) (v := .bool true) rfl (by kernel_rfl) (by kernel_rfl) (by kernel_rfl) (fun _ _ _ h => h) (Or.inl ⟨by rfl, fun w' hS => by (try dsimp only at hS); go_simp⟩) hB2 ?_
      simp only [Act.put, List.setIfInBounds_toArray, List.set_cons_zero, List.set_cons_succ]
      refine wpAnyH_take (i := 8) (oi := { dst := some 190, op := Op.move (Operand.tmp 189), type := 4, pos := _, after := #[{ on := 7, ground := Ground.data }, { on := 6, ground := Ground.chain }], guard := none }) (v := .bool true) rfl (by kernel_rfl) (by kernel_rfl) (by kernel_rfl) (fun _ _ _ h => h) (Or.inl ⟨by rfl, fun w' hS => by (try dsimp only at hS); go_simp⟩) hB2 ?_
      simp only [Act.put, List.setIfInBounds_toArray, List.set_cons_zero, List.set_cons_succ]
      refine wpAnyH_take (i := 9) (oi := { dst := some 191, op := Op.move (Operand.tmp 26), type := 4, pos := _, after := #[{ on := 8, ground := Ground.guard }], guard := some (8, true) }) (v := .bool b28) rfl (by kernel_rfl) (by kernel_rfl) (by kernel_rfl) (fun _ _ _ h => h) (Or.inl ⟨by rfl, fun w' hS => by (try dsimp only at hS); go_simp⟩) hB2 ?_
      simp only [Act.put, List.setIfInBounds_toArray, List.set_cons_zero, List.set_cons_succ]
      refine wpAnyH_take (i := 10) (oi := { dst := some 192, op := Op.move (Operand.tmp 28), type := 4, pos := _, after := #[{ on := 8, ground := Ground.guard }], guard := some (8, true) }) (v := .bool b28) rfl (by kernel_rfl) (by kernel_rfl) (by kernel_rfl) (fun _ _ _ h => h) (Or.inl ⟨by rfl, fun w' hS => by (try dsimp only at hS); go_simp⟩) hB2 ?_
      simp only [Act.put, List.setIfInBounds_toArray, List.set_cons_zero, List.set_cons_succ]
      refine wpAnyH_take (i := 11) (oi := { dst := some 193, op := Op.binOp BinOp.eql 4 (Operand.tmp 191) (Operand.tmp 192) 4, type := 4, pos := _, after := #[{ on := 9, ground := Ground.data }, { on := 10, ground := Ground.data }, { on := 8, ground := Ground.guard }], guard := some (8, true) }) (v := .bool true) rfl (by kernel_rfl) (by kernel_rfl) (by kernel_rfl) (fun _ _ _ h => h) (Or.inl ⟨by rfl, fun w' hS => by (try dsimp only at hS); go_simp⟩) hB2 ?_
      simp only [Act.put, List.setIfInBounds_toArray, List.set_cons_zero, List.set_cons_succ]
      refine wpAnyH_take (i := 12) (oi := { dst := some 194, op := Op.pick (Operand.tmp 190) (Operand.tmp 193) (Operand.const (Value.bool false)), type := 4, pos := _, after := #[{ on := 8, ground := Ground.data }, { on := 11, ground := Ground.data }], guard := none }) (v := .bool true) rfl (by kernel_rfl) (by kernel_rfl) (by kernel_rfl) (fun _ _ _ h => h) (Or.inl ⟨by rfl, fun w' hS => by (try dsimp only at hS); go_simp⟩) hB2 ?_
      simp only [Act.put, List.setIfInBounds_toArray, List.set_cons_zero, List.set_cons_succ]
      refine wpAnyH_take (i := 13) (oi := { dst := some 195, op := Op.move (Operand.tmp 194), type := 4, pos := _, after := #[{ on := 12, ground := Ground.data }, { on := 8, ground := Ground.chain }], guard := none }) (v := .bool true) rfl (by kernel_rfl) (by kernel_rfl) (by kernel_rfl) (fun _ _ _ h => h) (Or.inl ⟨by rfl, fun w' hS => by (try dsimp only at hS); go_simp⟩) hB2 ?_
      simp only [Act.put, List.setIfInBounds_toArray, List.set_cons_zero, List.set_cons_succ]
      refine wpAnyH_take (i := 14) (oi := { dst := some 196, op := Op.load 26 (Operand.tmp 25), type := 26, pos := _, after := #[{ on := 13, ground := Ground.guard }], guard := some (13, true) }) (v := .agg #[.slice m25.a1 M27.n1 m25.c1, .slice m25.a2 M27.n2 m25.c2, .slice m25.a3 M27.n3 m25.c3]) rfl (by kernel_rfl) (by kernel_rfl) (by kernel_rfl) (fun _ _ _ h => h) (Or.inl ⟨by rfl, fun w' hS => by (try dsimp only at hS); go_simp⟩) hB2 ?_
      simp only [Act.put, List.setIfInBounds_toArray, List.set_cons_zero, List.set_cons_succ]
      refine wpAnyH_take (i := 15) (oi := { dst := some 197, op := Op.load 26 (Operand.tmp 27), type := 26, pos := _, after := #[{ on := 13, ground := Ground.guard }], guard := some (13, true) }) (v := .agg #[.slice m27.a1 M27.n1 m27.c1, .slice m27.a2 M27.n2 m27.c2, .slice m27.a3 M27.n3 m27.c3]) rfl (by kernel_rfl) (by kernel_rfl) (by kernel_rfl) (fun _ _ _ h => h) (Or.inl ⟨by rfl, fun w' hS => by (try dsimp only at hS); go_simp⟩) hB2 ?_
      simp only [Act.put, List.setIfInBounds_toArray, List.set_cons_zero, List.set_cons_succ]
      refine wpAnyH_ready (rs := [16]) (by kernel_rfl) (by simp) ?_
      refine AllReadyH.cons (o := { dst := some 198, op := Op.call { callee := Callee.value (Operand.func 17), args := #[Operand.tmp 196, Operand.tmp 197], argTypes := #[26, 26] }, type := 4, pos := _, after := #[{ on := 14, ground := Ground.data }, { on := 15, ground := Ground.data }, { on := 13, ground := Ground.chain }, { on := 13, ground := Ground.guard }], guard := some (13, true) }) rfl (fun K hK => ?_) AllReadyH.nil
      go_simp
      refine (sameMemory_same m25 m27 M27 _ (A25.out.blw hB2) (A27.out.blw hB2)).mono ?_
      rintro e wB ⟨rfl, hbB⟩
      clear R0 R1 R2 S0 S1 S2 A25 A27 e2
      refine hK.out _ _ (hB2.trans hbB) (fun hB3 => ?_)
      clear hK K
      try simp only [Act.put, List.setIfInBounds_toArray, List.set_cons_zero, List.set_cons_succ]
      refine wpAnyH_take (i := 17) (oi := { dst := some 199, op := Op.pick (Operand.tmp 195) (Operand.tmp 198) (Operand.const (Value.bool false)), type := 4, pos := _, after := #[{ on := 13, ground := Ground.data }, { on := 16, ground := Ground.data }], guard := none }) (v := .bool true) rfl (by kernel_rfl) (by kernel_rfl) (by kernel_rfl) (fun _ _ _ h => h) (Or.inl ⟨by rfl, fun w' hS => by (try dsimp only at hS); go_simp⟩) hB3 ?_
      simp only [Act.put, List.setIfInBounds_toArray, List.set_cons_zero, List.set_cons_succ]
      refine wpAnyH_take (i := 18) (oi := { dst := some 200, op := Op.move (Operand.tmp 199), type := 4, pos := _, after := #[{ on := 17, ground := Ground.data }, { on := 16, ground := Ground.chain }], guard := none }) (v := .bool true) rfl (by kernel_rfl) (by kernel_rfl) (by kernel_rfl) (fun _ _ _ h => h) (Or.inl ⟨by rfl, fun w' hS => by (try dsimp only at hS); go_simp⟩) hB3 ?_
      simp only [Act.put, List.setIfInBounds_toArray, List.set_cons_zero, List.set_cons_succ]
      refine wpAnyH_take (i := 19) (oi := { dst := some 201, op := Op.load 26 (Operand.tmp 29), type := 26, pos := _, after := #[{ on := 18, ground := Ground.guard }], guard := some (18, true) }) (v := .agg #[.slice m29.a1 M29.n1 m29.c1, .slice m29.a2 M29.n2 m29.c2, .slice m29.a3 M29.n3 m29.c3]) rfl (by kernel_rfl) (by kernel_rfl) (by kernel_rfl) (fun _ _ _ h => h) (Or.inl ⟨by rfl, fun w' hS => by (try dsimp only at hS); go_simp⟩) hB3 ?_
      simp only [Act.put, List.setIfInBounds_toArray, List.set_cons_zero, List.set_cons_succ]
      refine wpAnyH_ready (rs := [20]) (by kernel_rfl) (by simp) ?_
      refine AllReadyH.cons (o := { dst := some 202, op := Op.call { callee := Callee.value (Operand.func 18), args := #[Operand.tmp 201], argTypes := #[26] }, type := 4, pos := _, after := #[{ on := 19, ground := Ground.data }, { on := 18, ground := Ground.chain }, { on := 18, ground := Ground.guard }], guard := some (18, true) }) rfl (fun K hK => ?_) AllReadyH.nil
      go_simp
      refine (goodI_any m29 M29 _ _ (A29.out.blw hB3)).mono ?_
      rintro e wC ⟨gi, rfl, hgi, hbC⟩
      obtain rfl : gi = true := hgi.2 GN.out
      clear hgi
      refine hK.out _ _ (hB3.trans hbC) (fun hB4 => ?_)
      clear hK K
      try simp only [Act.put, List.setIfInBounds_toArray, List.set_cons_zero, List.set_cons_succ]
      refine wpAnyH_take (i := 21) (oi := { dst := some 203, op := Op.pick (Operand.tmp 200) (Operand.tmp 202) (Operand.const (Value.bool false)), type := 4, pos := _, after := #[{ on := 18, ground := Ground.data }, { on := 20, ground := Ground.data }], guard := none }) (v := .bool true) rfl (by kernel_rfl) (by kernel_rfl) (by kernel_rfl) (fun _ _ _ h => h) (Or.inl ⟨by rfl, fun w' hS => by (try dsimp only at hS); go_simp⟩) hB4 ?_
      simp only [Act.put, List.setIfInBounds_toArray, List.set_cons_zero, List.set_cons_succ]
      refine wpAnyH_take (i := 22) (oi := { dst := some 204, op := Op.move (Operand.tmp 203), type := 4, pos := _, after := #[{ on := 21, ground := Ground.data }, { on := 20, ground := Ground.chain }], guard := none }) (v := .bool true) rfl (by kernel_rfl) (by kernel_rfl) (by kernel_rfl) (fun _ _ _ h => h) (Or.inl ⟨by rfl, fun w' hS => by (try dsimp only at hS); go_simp⟩) hB4 ?_
      simp only [Act.put, List.setIfInBounds_toArray, List.set_cons_zero, List.set_cons_succ]
      refine wpAnyH_take (i := 23) (oi := { dst := some 205, op := Op.load 26 (Operand.tmp 29), type := 26, pos := _, after := #[{ on := 22, ground := Ground.guard }], guard := some (22, true) }) (v := .agg #[.slice m29.a1 M29.n1 m29.c1, .slice m29.a2 M29.n2 m29.c2, .slice m29.a3 M29.n3 m29.c3]) rfl (by kernel_rfl) (by kernel_rfl) (by kernel_rfl) (fun _ _ _ h => h) (Or.inl ⟨by rfl, fun w' hS => by (try dsimp only at hS); go_simp⟩) hB4 ?_
      simp only [Act.put, List.setIfInBounds_toArray, List.set_cons_zero, List.set_cons_succ]
      refine wpAnyH_ready (rs := [24]) (by kernel_rfl) (by simp) ?_
      refine AllReadyH.cons (o := { dst := some 206, op := Op.call { callee := Callee.value (Operand.func 29), args := #[], argTypes := #[] }, type := 26, pos := _, after := #[{ on := 22, ground := Ground.chain }, { on := 22, ground := Ground.guard }], guard := some (22, true) }) rfl (fun K hK => ?_) AllReadyH.nil
      go_simp
      refine (specNewO_any _).mono ?_
      rintro e wD ⟨mN, rfl, ownN, hbD⟩
      rw [EN.out] at ownN ⊢
      have HN : Hid (MemAt _ wD mN M29) := ownN.at
      clear ownN
      refine hK.out _ _ (hB4.trans hbD) (fun hB5 => ?_)
      clear hK K
      try simp only [Act.put, List.setIfInBounds_toArray, List.set_cons_zero, List.set_cons_succ]
      refine wpAnyH_ready (rs := [25]) (by kernel_rfl) (by simp) ?_
      refine AllReadyH.cons (o := { dst := some 207, op := Op.call { callee := Callee.value (Operand.func 17), args := #[Operand.tmp 205, Operand.tmp 206], argTypes := #[26, 26] }, type := 4, pos := _, after := #[{ on := 23, ground := Ground.data }, { on := 24, ground := Ground.data }, { on := 24, ground := Ground.chain }, { on := 22, ground := Ground.guard }], guard := some (22, true) }) rfl (fun K hK => ?_) AllReadyH.nil
      go_simp
      refine (sameMemory_same m29 mN M29 _ (A29.out.blw hB5) HN.out).mono ?_
      rintro e wE ⟨rfl, hbE⟩
      clear T0 T1 T2 A29 HN
      refine hK.out _ _ (hB5.trans hbE) (fun hB6 => ?_)
      clear hK K
      try simp only [Act.put, List.setIfInBounds_toArray, List.set_cons_zero, List.set_cons_succ]
      refine wpAnyH_take (i := 26) (oi := { dst := some 208, op := Op.pick (Operand.tmp 204) (Operand.tmp 207) (Operand.const (Value.bool false)), type := 4, pos := _, after := #[{ on := 22, ground := Ground.data }, { on := 25, ground := Ground.data }], guard := none }) (v := .bool true) rfl (by kernel_rfl) (by kernel_rfl) (by kernel_rfl) (fun _ _ _ h => h) (Or.inl ⟨by rfl, fun w' hS => by (try dsimp only at hS); go_simp⟩) hB6 ?_
      simp only [Act.put, List.setIfInBounds_toArray, List.set_cons_zero, List.set_cons_succ]
      refine wpAnyH_take (i := 27) (oi := { dst := some 4, op := Op.assign (Operand.tmp 208), type := 4, pos := _, after := #[{ on := 26, ground := Ground.data }, { on := 25, ground := Ground.chain }, { on := 0, ground := Ground.phase }, { on := 1, ground := Ground.phase }, { on := 2, ground := Ground.phase }, { on := 3, ground := Ground.phase }, { on := 4, ground := Ground.phase }, { on := 5, ground := Ground.phase }, { on := 6, ground := Ground.phase }, { on := 7, ground := Ground.phase }, { on := 8, ground := Ground.phase }, { on := 9, ground := Ground.phase }, { on := 10, ground := Ground.phase }, { on := 11, ground := Ground.phase }, { on := 12, ground := Ground.phase }, { on := 13, ground := Ground.phase }, { on := 14, ground := Ground.phase }, { on := 15, ground := Ground.phase }, { on := 16, ground := Ground.phase }, { on := 17, ground := Ground.phase }, { on := 18, ground := Ground.phase }, { on := 19, ground := Ground.phase }, { on := 20, ground := Ground.phase }, { on := 21, ground := Ground.phase }, { on := 22, ground := Ground.phase }, { on := 23, ground := Ground.phase }, { on := 24, ground := Ground.phase }, { on := 25, ground := Ground.phase }, { on := 26, ground := Ground.phase }], guard := none }) (v := .bool true) rfl (by kernel_rfl) (by kernel_rfl) (by kernel_rfl) (fun _ _ _ h => h) (Or.inl ⟨by rfl, fun w' hS => by (try dsimp only at hS); go_simp⟩) hB6 ?_
      simp only [Act.put, List.setIfInBounds_toArray, List.set_cons_zero, List.set_cons_succ]
      refine wpAnyH_done (by kernel_rfl) ?_ _
      refine NoPanic.normal ?_
      go_wp2
      go_ret
      exact ⟨rfl, HC.out.trans hB6⟩
end Go.Proofs.Ytnbcjdoohmjghaa
