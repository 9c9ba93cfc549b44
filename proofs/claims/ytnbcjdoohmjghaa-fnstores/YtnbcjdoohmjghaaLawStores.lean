/- Law 4: what is stored is loaded, for drawn memories. -/
import Derived.Test.YtnbcjdoohmjghaaDrawT
import Derived.Test.YtnbcjdoohmjghaaSame
import Derived.Test.YtnbcjdoohmjghaaFacts
namespace Go.Proofs.Ytnbcjdoohmjghaa
open Go.RowKit
set_option linter.unusedSimpArgs false
set_option linter.unusedVariables false
theorem BytesAt.mono {X Y : Nat → Prop} {w : World} {ao : Option Addr} {n : Nat} {f : Nat → Int} (h : BytesAt X w ao n f) (hxy : ∀ b, X b → Y b) : BytesAt Y w ao n f :=
  ⟨h.1, fun i hi => let ⟨b, o, h1, hX, h2⟩ := h.2 i hi; ⟨b, o, h1, hxy _ hX, h2⟩⟩
set_option maxRecDepth 10000 in
set_option maxHeartbeats 6400000 in
theorem lawStoresP (ao1 : Option Addr) (n1 c1 : Nat) (f1 : Nat → Int) (ao2 : Option Addr) (n2 c2 : Nat) (f2 : Nat → Int) (w : World) (h1 : BytesAt (fun b => b < w.heap.size) w ao1 n1 f1) (h2 : BytesAt (fun b => b < w.heap.size) w ao2 n2 f2) :
    Calls Try.prog 4 #[.slice ao1 n1 c1, .slice ao2 n2 c2] w fun e w' => e = .returned (.bool true) ∧ Blw w w' := by
  have H1 : Hid (BytesAt (fun b => b < w.heap.size) w ao1 n1 f1) := h1
  have H2 : Hid (BytesAt (fun b => b < w.heap.size) w ao2 n2 f2) := h2
  clear h1 h2
  go_enter Try.func4, Try.ntmps4
  by_cases hd : wrap64 ((n1 : Int) + n2) > 1048576
  · have d1 : decide (wrap64 ((n1 : Int) + n2) > 1048576) = true := by simpa using hd
    clear hd
    go_wp2
    go_ret
    exact ⟨rfl, Blw.refl _⟩
  have d1 : decide (wrap64 ((n1 : Int) + n2) > 1048576) = false := by simpa using hd
  clear hd
  have HB : Hid (Blw w w) := Blw.refl w
  go_wp2_with fail
  clear d1
  refine (drawStore_any ao1 n1 c1 f1 _ H1.out).mono ?_
  rintro e w1 ⟨m, s, c, d, x, y, rfl, own, hb⟩
  obtain ⟨MM, hMM⟩ : ∃ MM, MD.full s c d = MM := ⟨_, rfl⟩
  rw [hMM] at own ⊢
  clear hMM
  have hA : Blw w1 (w1.alloc (.cells #[.slice m.a1 MM.n1 m.c1, .slice m.a2 MM.n2 m.c2, .slice m.a3 MM.n3 m.c3] 26)) := (Blw.refl _).alloc _
  replace hb := hb.trans hA
  replace HB : Hid (Blw _ _) := Blw.trans HB.out hb
  clear hb
  have B5 : Hid (Box _ w1.heap.size m MM) := box3 w1 _ _ _ 26
  have M5 : Hid (MemAt _ _ m MM) := own.at.blw hA
  clear own hA
  obtain ⟨p00, p01, p02⟩ := get3 B5.out
  go_wp2_with fail
  clear p00 p01 p02
  refine (implStore_any m MM _ _ x y M5.out).mono ?_
  rintro e w2 ⟨m8, M8, bi, rfl, ho, own, hb⟩
  have O8 : Hid (stOut MM x y M8 bi) := ho
  clear ho
  have hA : Blw w2 (w2.alloc (.cells #[.slice m8.a1 M8.n1 m8.c1, .slice m8.a2 M8.n2 m8.c2, .slice m8.a3 M8.n3 m8.c3] 26)) := (Blw.refl _).alloc _
  replace hb := hb.trans hA
  replace HB : Hid (Blw _ _) := Blw.trans HB.out hb
  replace B5 : Hid (Box _ _ _ _) := Row.blw B5.out hb
  replace M5 : Hid (MemAt _ _ _ _) := MemAt.blw M5.out hb
  clear hb
  have B8 : Hid (Box _ w2.heap.size m8 M8) := box3 w2 _ _ _ 26
  have A8 : Hid (MemAt _ _ m8 M8) := own.at.blw hA
  clear own hA
  obtain ⟨p00, p01, p02⟩ := get3 B5.out
  go_wp2_with fail
  clear p00 p01 p02
  refine (specStore_any m MM _ _ x y M5.out).mono ?_
  rintro e w3 ⟨m10, M10, bs, rfl, ho, own, hb⟩
  have O10 : Hid (stOut MM x y M10 bs) := ho
  clear ho
  have hA : Blw w3 (w3.alloc (.cells #[.slice m10.a1 M10.n1 m10.c1, .slice m10.a2 M10.n2 m10.c2, .slice m10.a3 M10.n3 m10.c3] 26)) := (Blw.refl _).alloc _
  replace hb := hb.trans hA
  replace HB : Hid (Blw _ _) := Blw.trans HB.out hb
  replace B5 : Hid (Box _ _ _ _) := Row.blw B5.out hb
  replace M5 : Hid (MemAt _ _ _ _) := MemAt.blw M5.out hb
  replace B8 : Hid (Box _ _ _ _) := Row.blw B8.out hb
  replace A8 : Hid (MemAt _ _ _ _) := MemAt.blw A8.out hb
  clear hb
  have B10 : Hid (Box _ w3.heap.size m10 M10) := box3 w3 _ _ _ 26
  have A10 : Hid (MemAt _ _ m10 M10) := own.at.blw hA
  clear own hA
  obtain ⟨eM, eb⟩ := stOut_same O10.out O8.out
  subst eM eb
  have hne : (bs != bs) = false := by simp
  obtain ⟨p00, p01, p02⟩ := get3 B8.out
  obtain ⟨p10, p11, p12⟩ := get3 B10.out
  go_wp2_with fail
  clear p00 p01 p02 p10 p11 p12
  refine (sameMemory_same m8 m10 M10 _ A8.out A10.out).mono ?_
  rintro e w4 ⟨rfl, hb⟩
  replace HB : Hid (Blw _ _) := Blw.trans HB.out hb
  replace B5 : Hid (Box _ _ _ _) := Row.blw B5.out hb
  replace M5 : Hid (MemAt _ _ _ _) := MemAt.blw M5.out hb
  replace B8 : Hid (Box _ _ _ _) := Row.blw B8.out hb
  replace A8 : Hid (MemAt _ _ _ _) := MemAt.blw A8.out hb
  replace B10 : Hid (Box _ _ _ _) := Row.blw B10.out hb
  replace A10 : Hid (MemAt _ _ _ _) := MemAt.blw A10.out hb
  clear hb
  clear B10 A10
  go_upto_if 74 with fail
  go_cut [] from 5 to 116 (fun wx => Blw w wx)
  case first =>
    cases bs
    · go_wp2_with fail
      go_meet
      exact HB.out
    · go_wp2_with fail
      go_loopw [12] (fun i wr => ∃ k : Nat, k ≤ 48 ∧ i = .int .i64 k ∧ Blw w4 wr) (fun i _ => 48 - (intOf i).toNat)
      case atStart => exact ⟨0, by omega, rfl, Blw.refl _⟩
      case round =>
        obtain ⟨k, hk, rfl, hk4⟩ := hrel
        by_cases hlt : k < 48
        · have hlt' : (k : Int) < 48 := by omega
          have HK : Hid (Blw w4 wr) := hk4
          clear hk4
          obtain ⟨p0, p1, p2⟩ := get3 (B5.out.blw HK.out)
          go_wp2_with fail
          clear p0 p1 p2
          refine (implLoad_any m MM _ _ k (M5.out.blw HK.out)).mono ?_
          rintro e wa ⟨a, one, rfl, la, hb⟩
          replace HK : Hid (Blw _ _) := Blw.trans HK.out hb
          have LA : Hid (ldOut MM k a one) := la
          clear la hb
          obtain ⟨p0, p1, p2⟩ := get3 (B8.out.blw HK.out)
          go_wp2_with fail
          clear p0 p1 p2
          refine (implLoad_any m8 M10 _ _ k (A8.out.blw HK.out)).mono ?_
          rintro e wb ⟨b, two, rfl, lb, hb⟩
          replace HK : Hid (Blw _ _) := Blw.trans HK.out hb
          obtain ⟨rfl, rfl, q1, q2⟩ := st_ld O8.out hlt LA.out lb
          clear lb hb LA
          by_cases hx : (k : Int) = x
          · have e1 : ((k : Int) == x) = true := by simp [hx]
            have e2 : ((k : Int) != x) = false := by simp [hx]
            have e3 : (b != y) = false := by simp [q1 hx]
            clear hx q1 q2
            go_wp2
            go_roundw
            case rel => exact ⟨k + 1, by omega, by go_num, HK.out⟩
            case measure => simp [intOf]; omega
          · have e1 : ((k : Int) == x) = false := by simpa using hx
            have e2 : ((k : Int) != x) = true := by simpa using hx
            have e3 : (a != b) = false := by simp [q2 hx]
            clear hx q1 q2
            go_wp2
            go_roundw
            case rel => exact ⟨k + 1, by omega, by go_num, HK.out⟩
            case measure => simp [intOf]; omega
        · obtain rfl : k = 48 := by omega
          go_wp2_with fail
          go_meet
          exact HB.out.trans hk4
  case rest =>
    have HC : Hid (Blw w wc) := hcut
    clear hcut HB B5 M5 B8 A8 O8 O10 H1
    replace H2 : Hid (BytesAt _ _ _ _ _) := BytesAt.blw H2.out HC.out
    go_wp2_with fail
    refine (drawStoreAll_any ao2 n2 c2 f2 _ (BytesAt.mono H2.out (fun b hb => Nat.lt_of_lt_of_le hb HC.out.size))).mono ?_
    rintro e w5 ⟨m17, s, c, d, x18, a19, n19, c19, g19, rfl, hn9, own, hI, hb⟩
    have I19 : Hid (IntsAt _ _ a19 n19 g19) := hI
    clear hI
    obtain ⟨M17, hMM⟩ : ∃ M17, MD.full s c d = M17 := ⟨_, rfl⟩
    rw [hMM] at own ⊢
    clear hMM
    have hA : Blw w5 (w5.alloc (.cells #[.slice m17.a1 M17.n1 m17.c1, .slice m17.a2 M17.n2 m17.c2, .slice m17.a3 M17.n3 m17.c3] 26)) := (Blw.refl _).alloc _
    replace hb := hb.trans hA
    replace HC : Hid (Blw _ _) := Blw.trans HC.out hb
    replace H2 : Hid (BytesAt _ _ _ _ _) := BytesAt.blw H2.out hb
    clear hb
    replace I19 : Hid (IntsAt _ _ _ _ _) := IntsAt.blw I19.out hA
    have B17 : Hid (Box _ w5.heap.size m17 M17) := box3 w5 _ _ _ 26
    have A17 : Hid (MemAt _ _ m17 M17) := own.at.blw hA
    clear own hA
    obtain ⟨p00, p01, p02⟩ := get3 B17.out
    go_wp2_with fail
    clear p00 p01 p02
    refine (implStoreAll_any m17 M17 _ _ _ x18 a19 n19 c19 g19 A17.out I19.out).mono ?_
    rintro e w6 ⟨m20, M20, b21, rfl, ho, own, hb⟩
    have O20 : Hid (saOut M17 x18 n19 g19 M20 b21) := ho
    clear ho
    have hA : Blw w6 (w6.alloc (.cells #[.slice m20.a1 M20.n1 m20.c1, .slice m20.a2 M20.n2 m20.c2, .slice m20.a3 M20.n3 m20.c3] 26)) := (Blw.refl _).alloc _
    replace hb := hb.trans hA
    replace HC : Hid (Blw _ _) := Blw.trans HC.out hb
    replace H2 : Hid (BytesAt _ _ _ _ _) := BytesAt.blw H2.out hb
    replace B17 : Hid (Box _ _ _ _) := Row.blw B17.out hb
    replace A17 : Hid (MemAt _ _ _ _) := MemAt.blw A17.out hb
    replace I19 : Hid (IntsAt _ _ _ _ _) := IntsAt.blw I19.out hb
    clear hb
    have B20 : Hid (Box _ w6.heap.size m20 M20) := box3 w6 _ _ _ 26
    have A20 : Hid (MemAt _ _ m20 M20) := own.at.blw hA
    clear own hA
    obtain ⟨p00, p01, p02⟩ := get3 B17.out
    go_wp2_with fail
    clear p00 p01 p02
    refine (specStoreAll_any m17 M17 _ _ _ x18 a19 n19 c19 g19 A17.out I19.out).mono ?_
    rintro e w7 ⟨m22, M22, b23, rfl, ho, own, hb⟩
    have O22 : Hid (saOut M17 x18 n19 g19 M22 b23) := ho
    clear ho
    have hA : Blw w7 (w7.alloc (.cells #[.slice m22.a1 M22.n1 m22.c1, .slice m22.a2 M22.n2 m22.c2, .slice m22.a3 M22.n3 m22.c3] 26)) := (Blw.refl _).alloc _
    replace hb := hb.trans hA
    replace HC : Hid (Blw _ _) := Blw.trans HC.out hb
    replace H2 : Hid (BytesAt _ _ _ _ _) := BytesAt.blw H2.out hb
    replace B17 : Hid (Box _ _ _ _) := Row.blw B17.out hb
    replace A17 : Hid (MemAt _ _ _ _) := MemAt.blw A17.out hb
    replace I19 : Hid (IntsAt _ _ _ _ _) := IntsAt.blw I19.out hb
    replace B20 : Hid (Box _ _ _ _) := Row.blw B20.out hb
    replace A20 : Hid (MemAt _ _ _ _) := MemAt.blw A20.out hb
    clear hb
    have B22 : Hid (Box _ w7.heap.size m22 M22) := box3 w7 _ _ _ 26
    have A22 : Hid (MemAt _ _ m22 M22) := own.at.blw hA
    clear own hA
    obtain ⟨eM, eb⟩ := saOut_same O22.out O20.out
    subst eM eb
    clear B17 A17
    go_wp2_with fail
    refine (drawLoadAll_any ao2 n2 c2 f2 _ (BytesAt.mono H2.out (fun b hb => Nat.lt_of_lt_of_le hb HC.out.size))).mono ?_
    rintro e w8 ⟨m24, s, c, d, x25, y26, rfl, own, hb⟩
    obtain ⟨M24, hMM⟩ : ∃ M24, MD.full s c d = M24 := ⟨_, rfl⟩
    rw [hMM] at own ⊢
    clear hMM
    have hA : Blw w8 (w8.alloc (.cells #[.slice m24.a1 M24.n1 m24.c1, .slice m24.a2 M24.n2 m24.c2, .slice m24.a3 M24.n3 m24.c3] 26)) := (Blw.refl _).alloc _
    replace hb := hb.trans hA
    replace HC : Hid (Blw _ _) := Blw.trans HC.out hb
    replace H2 : Hid (BytesAt _ _ _ _ _) := BytesAt.blw H2.out hb
    replace I19 : Hid (IntsAt _ _ _ _ _) := IntsAt.blw I19.out hb
    replace B20 : Hid (Box _ _ _ _) := Row.blw B20.out hb
    replace A20 : Hid (MemAt _ _ _ _) := MemAt.blw A20.out hb
    replace B22 : Hid (Box _ _ _ _) := Row.blw B22.out hb
    replace A22 : Hid (MemAt _ _ _ _) := MemAt.blw A22.out hb
    clear hb
    have B24 : Hid (Box _ w8.heap.size m24 M24) := box3 w8 _ _ _ 26
    have A24 : Hid (MemAt _ _ m24 M24) := own.at.blw hA
    clear own hA
    have S8 : Hid (Blw w8 _) := (Blw.refl w8).alloc (.cells #[.slice m24.a1 M24.n1 m24.c1, .slice m24.a2 M24.n2 m24.c2, .slice m24.a3 M24.n3 m24.c3] 26)
    obtain ⟨p00, p01, p02⟩ := get3 B24.out
    go_wp2_with fail
    clear p00 p01 p02
    refine (implLoadAll_any m24 M24 _ _ x25 y26 A24.out).mono ?_
    rintro e w9 ⟨a27, n27, c27, f27, b28, rfl, ho, own, hb⟩
    have O27 : Hid (laOut M24 x25 y26 n27 f27 b28) := ho
    replace HC : Hid (Blw _ _) := Blw.trans HC.out hb
    replace H2 : Hid (BytesAt _ _ _ _ _) := BytesAt.blw H2.out hb
    replace I19 : Hid (IntsAt _ _ _ _ _) := IntsAt.blw I19.out hb
    replace B20 : Hid (Box _ _ _ _) := Row.blw B20.out hb
    replace A20 : Hid (MemAt _ _ _ _) := MemAt.blw A20.out hb
    replace B22 : Hid (Box _ _ _ _) := Row.blw B22.out hb
    replace A22 : Hid (MemAt _ _ _ _) := MemAt.blw A22.out hb
    replace B24 : Hid (Box _ _ _ _) := Row.blw B24.out hb
    replace A24 : Hid (MemAt _ _ _ _) := MemAt.blw A24.out hb
    replace S8 : Hid (Blw _ _) := Blw.trans S8.out hb
    clear hb
    have I27 : Hid (IntsAt _ _ a27 n27 f27) := own.at
    clear ho own
    obtain ⟨p00, p01, p02⟩ := get3 B24.out
    go_wp2_with fail
    clear p00 p01 p02
    refine (specLoadAll_any m24 M24 _ _ x25 y26 A24.out (fun b hb => Nat.lt_of_lt_of_le hb.2 S8.out.size)).mono ?_
    rintro e w10 ⟨a29, n29, c29, f29, b30, rfl, ho, own, hb⟩
    obtain ⟨en, ef, eb⟩ := laOut_same ho O27.out
    replace HC : Hid (Blw _ _) := Blw.trans HC.out hb
    replace H2 : Hid (BytesAt _ _ _ _ _) := BytesAt.blw H2.out hb
    replace I19 : Hid (IntsAt _ _ _ _ _) := IntsAt.blw I19.out hb
    replace B20 : Hid (Box _ _ _ _) := Row.blw B20.out hb
    replace A20 : Hid (MemAt _ _ _ _) := MemAt.blw A20.out hb
    replace B22 : Hid (Box _ _ _ _) := Row.blw B22.out hb
    replace A22 : Hid (MemAt _ _ _ _) := MemAt.blw A22.out hb
    replace B24 : Hid (Box _ _ _ _) := Row.blw B24.out hb
    replace A24 : Hid (MemAt _ _ _ _) := MemAt.blw A24.out hb
    replace S8 : Hid (Blw _ _) := Blw.trans S8.out hb
    replace I27 : Hid (IntsAt _ _ _ _ _) := IntsAt.blw I27.out hb
    clear hb
    subst en ef eb
    have I29 : Hid (IntsAt _ _ a29 n29 f29) := own.at
    clear ho own
    clear B24 A24 S8
    go_wp2_with fail
    refine (drawLoad_any ao2 n2 c2 f2 _ (BytesAt.mono H2.out (fun b hb => Nat.lt_of_lt_of_le hb HC.out.size))).mono ?_
    rintro e w11 ⟨m31, s, c, d, x32, rfl, own, hb⟩
    obtain ⟨M31, hMM⟩ : ∃ M31, MD.full s c d = M31 := ⟨_, rfl⟩
    rw [hMM] at own ⊢
    clear hMM
    have hA : Blw w11 (w11.alloc (.cells #[.slice m31.a1 M31.n1 m31.c1, .slice m31.a2 M31.n2 m31.c2, .slice m31.a3 M31.n3 m31.c3] 26)) := (Blw.refl _).alloc _
    replace hb := hb.trans hA
    replace HC : Hid (Blw _ _) := Blw.trans HC.out hb
    replace H2 : Hid (BytesAt _ _ _ _ _) := BytesAt.blw H2.out hb
    replace I19 : Hid (IntsAt _ _ _ _ _) := IntsAt.blw I19.out hb
    replace B20 : Hid (Box _ _ _ _) := Row.blw B20.out hb
    replace A20 : Hid (MemAt _ _ _ _) := MemAt.blw A20.out hb
    replace B22 : Hid (Box _ _ _ _) := Row.blw B22.out hb
    replace A22 : Hid (MemAt _ _ _ _) := MemAt.blw A22.out hb
    replace I27 : Hid (IntsAt _ _ _ _ _) := IntsAt.blw I27.out hb
    replace I29 : Hid (IntsAt _ _ _ _ _) := IntsAt.blw I29.out hb
    clear hb
    have B31 : Hid (Box _ w11.heap.size m31 M31) := box3 w11 _ _ _ 26
    have A31 : Hid (MemAt _ _ m31 M31) := own.at.blw hA
    clear own hA
    obtain ⟨p00, p01, p02⟩ := get3 B31.out
    go_wp2_with fail
    clear p00 p01 p02
    refine (implLoad_any m31 M31 _ _ x32 A31.out).mono ?_
    rintro e w12 ⟨y33, b34, rfl, ho, hb⟩
    have O33 : Hid (ldOut M31 x32 y33 b34) := ho
    replace HC : Hid (Blw _ _) := Blw.trans HC.out hb
    replace H2 : Hid (BytesAt _ _ _ _ _) := BytesAt.blw H2.out hb
    replace I19 : Hid (IntsAt _ _ _ _ _) := IntsAt.blw I19.out hb
    replace B20 : Hid (Box _ _ _ _) := Row.blw B20.out hb
    replace A20 : Hid (MemAt _ _ _ _) := MemAt.blw A20.out hb
    replace B22 : Hid (Box _ _ _ _) := Row.blw B22.out hb
    replace A22 : Hid (MemAt _ _ _ _) := MemAt.blw A22.out hb
    replace I27 : Hid (IntsAt _ _ _ _ _) := IntsAt.blw I27.out hb
    replace I29 : Hid (IntsAt _ _ _ _ _) := IntsAt.blw I29.out hb
    replace B31 : Hid (Box _ _ _ _) := Row.blw B31.out hb
    replace A31 : Hid (MemAt _ _ _ _) := MemAt.blw A31.out hb
    clear hb
    clear ho
    obtain ⟨p00, p01, p02⟩ := get3 B31.out
    go_wp2_with fail
    clear p00 p01 p02
    refine (specLoad_any m31 M31 _ _ x32 A31.out).mono ?_
    rintro e w13 ⟨y35, b36, rfl, ho, hb⟩
    obtain ⟨ey, eb⟩ := ldOut_same ho O33.out
    replace HC : Hid (Blw _ _) := Blw.trans HC.out hb
    replace H2 : Hid (BytesAt _ _ _ _ _) := BytesAt.blw H2.out hb
    replace I19 : Hid (IntsAt _ _ _ _ _) := IntsAt.blw I19.out hb
    replace B20 : Hid (Box _ _ _ _) := Row.blw B20.out hb
    replace A20 : Hid (MemAt _ _ _ _) := MemAt.blw A20.out hb
    replace B22 : Hid (Box _ _ _ _) := Row.blw B22.out hb
    replace A22 : Hid (MemAt _ _ _ _) := MemAt.blw A22.out hb
    replace I27 : Hid (IntsAt _ _ _ _ _) := IntsAt.blw I27.out hb
    replace I29 : Hid (IntsAt _ _ _ _ _) := IntsAt.blw I29.out hb
    replace B31 : Hid (Box _ _ _ _) := Row.blw B31.out hb
    replace A31 : Hid (MemAt _ _ _ _) := MemAt.blw A31.out hb
    clear hb
    subst ey eb
    clear ho
    clear B31 A31
    have e1 : (b23 != b23) = false := by simp
    have e2 : (b30 != b30) = false := by simp
    have e3 : (b36 != b36) = false := by simp
    have e4 : (y35 != y35) = false := by simp
    obtain ⟨p00, p01, p02⟩ := get3 B20.out
    obtain ⟨p10, p11, p12⟩ := get3 B22.out
    go_wp2_with fail
    clear p00 p01 p02 p10 p11 p12
    refine (sameMemory_same m20 m22 M22 _ A20.out A22.out).mono ?_
    rintro e w14 ⟨rfl, hb⟩
    replace HC : Hid (Blw _ _) := Blw.trans HC.out hb
    replace H2 : Hid (BytesAt _ _ _ _ _) := BytesAt.blw H2.out hb
    replace I19 : Hid (IntsAt _ _ _ _ _) := IntsAt.blw I19.out hb
    replace B20 : Hid (Box _ _ _ _) := Row.blw B20.out hb
    replace A20 : Hid (MemAt _ _ _ _) := MemAt.blw A20.out hb
    replace B22 : Hid (Box _ _ _ _) := Row.blw B22.out hb
    replace A22 : Hid (MemAt _ _ _ _) := MemAt.blw A22.out hb
    replace I27 : Hid (IntsAt _ _ _ _ _) := IntsAt.blw I27.out hb
    replace I29 : Hid (IntsAt _ _ _ _ _) := IntsAt.blw I29.out hb
    clear hb
    clear B22 A22
    go_wp2_with fail
    refine (sameInts_yes _ _ _ _ n29 f29 f29 _ I27.out I29.out (fun _ _ => rfl)).mono ?_
    rintro e w15 ⟨rfl, nq, eq15⟩
    have hb : Blw w14 w15 := by subst eq15; exact (Blw.refl _).drewN nq
    clear eq15
    replace HC : Hid (Blw _ _) := Blw.trans HC.out hb
    replace H2 : Hid (BytesAt _ _ _ _ _) := BytesAt.blw H2.out hb
    replace I19 : Hid (IntsAt _ _ _ _ _) := IntsAt.blw I19.out hb
    replace B20 : Hid (Box _ _ _ _) := Row.blw B20.out hb
    replace A20 : Hid (MemAt _ _ _ _) := MemAt.blw A20.out hb
    replace I27 : Hid (IntsAt _ _ _ _ _) := IntsAt.blw I27.out hb
    replace I29 : Hid (IntsAt _ _ _ _ _) := IntsAt.blw I29.out hb
    clear hb
    clear I27 I29
    cases b23
    · go_wp2
      go_ret
      exact ⟨rfl, HC.out⟩
    obtain ⟨p00, p01, p02⟩ := get3 B20.out
    go_wp2_with fail
    clear p00 p01 p02
    refine (implLoadAll_any m20 M22 _ _ x18 n19 A20.out).mono ?_
    rintro e w16 ⟨a37, n37, c37, f37, b38, rfl, ho, own, hb⟩
    obtain ⟨eb, en, ef⟩ := sa_la O20.out ho
    replace HC : Hid (Blw _ _) := Blw.trans HC.out hb
    replace H2 : Hid (BytesAt _ _ _ _ _) := BytesAt.blw H2.out hb
    replace I19 : Hid (IntsAt _ _ _ _ _) := IntsAt.blw I19.out hb
    replace B20 : Hid (Box _ _ _ _) := Row.blw B20.out hb
    replace A20 : Hid (MemAt _ _ _ _) := MemAt.blw A20.out hb
    clear hb
    subst eb en
    have EF : Hid (∀ i, i < n37 → f37 i = g19 i) := ef
    have I37 : Hid (IntsAt _ _ a37 n37 f37) := own.at
    clear ho own ef
    go_wp2_with fail
    refine (sameInts_yes _ _ _ _ n37 f37 g19 _ I37.out I19.out EF.out).mono ?_
    rintro e w17 ⟨rfl, nq, eq15⟩
    have hb : Blw w16 w17 := by subst eq15; exact (Blw.refl _).drewN nq
    clear eq15
    replace HC : Hid (Blw _ _) := Blw.trans HC.out hb
    clear hb I37 EF I19
    go_wp2
    go_ret
    exact ⟨rfl, HC.out⟩
end Go.Proofs.Ytnbcjdoohmjghaa
