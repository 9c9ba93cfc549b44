/- Law 6: a slot that is written is read from its line, for drawn slots. -/
import Derived.Test.YtnbcjdoohmjghaaJoin8
namespace Go.Proofs.Ytnbcjdoohmjghaa
open Go.RowKit
set_option linter.unusedSimpArgs false
set_option linter.unusedVariables false
theorem bytes_keep {w W : World} {ao : Option Addr} {n : Nat} {f : Nat → Int} (h : BytesAt (fun b => b < w.heap.size) W ao n f) (hb : Blw w W) : BytesAt (fun b => b < W.heap.size) W ao n f :=
  ⟨h.1, fun i hi => let ⟨b, o, h1, hX, h2⟩ := h.2 i hi; ⟨b, o, h1, Nat.lt_of_lt_of_le hX hb.size, h2⟩⟩
theorem rec_mem {c : Nat → Nat → Int} {q : Nat} (hq : q < 2) (h : recI (c q) q) : ∃ i, i < (rdL c 2).length ∧ lf (rdL c 2) i = (c q 0, c q 1, c q 2) := by
  have hm : (c q 0, c q 1, c q 2) ∈ rdL c 2 := by
    match q, hq with
    | 0, _ =>
      have h1 : (c 0 0, c 0 1, c 0 2) ∈ rdL c 1 := by rw [rdL_yes h]; simp
      by_cases h2 : recI (c 1) 1
      · rw [rdL_yes h2]; exact List.mem_append_left _ h1
      · rw [rdL_no h2]; exact h1
    | 1, _ => rw [rdL_yes h]; simp
  obtain ⟨i, hi, e⟩ := List.getElem_of_mem hm
  exact ⟨i, hi, by simp [lf, hi, e]⟩
set_option maxRecDepth 10000 in
set_option maxHeartbeats 6400000 in
theorem lawSlotLinesP (ao1 : Option Addr) (n1 c1 : Nat) (f1 : Nat → Int) (ao2 : Option Addr) (n2 c2 : Nat) (f2 : Nat → Int) (w : World) (h1 : BytesAt (fun b => b < w.heap.size) w ao1 n1 f1) (h2 : BytesAt (fun b => b < w.heap.size) w ao2 n2 f2) :
    Calls Try.prog 6 #[.slice ao1 n1 c1, .slice ao2 n2 c2] w fun e w' => e = .returned (.bool true) ∧ Blw w w' := by
  have H1 : Hid (BytesAt (fun b => b < w.heap.size) w ao1 n1 f1) := h1
  have H2 : Hid (BytesAt (fun b => b < w.heap.size) w ao2 n2 f2) := h2
  clear h1 h2
  go_enter Try.func6, Try.ntmps6
  by_cases hd : wrap64 ((n1 : Int) + n2) > 1048576
  · have d1 : decide (wrap64 ((n1 : Int) + n2) > 1048576) = true := by simpa using hd
    clear hd
    go_wp2
    go_ret
    exact ⟨rfl, Blw.refl _⟩
  have d1 : decide (wrap64 ((n1 : Int) + n2) > 1048576) = false := by simpa using hd
  clear hd
  have HB : Hid (Blw w w) := Blw.refl w
  go_wp2_with fail
  clear d1
  refine (drawWrite_any ao1 n1 c1 f1 _ H1.out).mono ?_
  rintro e w1 ⟨m, s, c, d, e6, a6, b6, rfl, own, hb⟩
  obtain ⟨MM, hMM⟩ : ∃ MM, MD.full s c d = MM := ⟨_, rfl⟩
  rw [hMM] at own ⊢
  clear hMM
  have hA : Blw w1 ((w1.alloc (.cells #[.slice m.a1 MM.n1 m.c1, .slice m.a2 MM.n2 m.c2, .slice m.a3 MM.n3 m.c3] 26)).alloc (.cells #[.int .i64 e6, .int .i64 a6, .int .i64 b6] 56)) := ((Blw.refl _).alloc _).alloc _
  replace hb := hb.trans hA
  replace HB : Hid (Blw _ _) := Blw.trans HB.out hb
  clear hb
  have B5 : Hid (Box _ w1.heap.size m MM) := (box3 w1 _ _ _ 26).blw ((Blw.refl _).alloc (.cells #[.int .i64 e6, .int .i64 a6, .int .i64 b6] 56))
  have B6 : Hid (sbx ((w1.alloc (.cells #[.slice m.a1 MM.n1 m.c1, .slice m.a2 MM.n2 m.c2, .slice m.a3 MM.n3 m.c3] 26)).alloc (.cells #[.int .i64 e6, .int .i64 a6, .int .i64 b6] 56)) (w1.heap.size + 1) e6 a6 b6) := by
    have := box3 (w1.alloc (.cells #[.slice m.a1 MM.n1 m.c1, .slice m.a2 MM.n2 m.c2, .slice m.a3 MM.n3 m.c3] 26)) (.int .i64 e6) (.int .i64 a6) (.int .i64 b6) 56
    rw [World.size_alloc] at this
    exact this
  have M5 : Hid (MemAt _ _ m MM) := own.at.blw hA
  clear own hA
  obtain ⟨p00, p01, p02⟩ := get3 B5.out
  obtain ⟨p10, p11, p12⟩ := get3 B6.out
  go_wp2_with fail
  clear p00 p01 p02 p10 p11 p12
  refine (implWrite_any m MM _ _ e6 a6 b6 M5.out).mono ?_
  rintro e w2 ⟨m7, M7, b8, rfl, ho, own, hb⟩
  have O7 : Hid (wsOut MM e6 a6 b6 M7 b8) := ho
  clear ho
  have hA : Blw w2 (w2.alloc (.cells #[.slice m7.a1 M7.n1 m7.c1, .slice m7.a2 M7.n2 m7.c2, .slice m7.a3 M7.n3 m7.c3] 26)) := (Blw.refl _).alloc _
  replace hb := hb.trans hA
  replace HB : Hid (Blw _ _) := Blw.trans HB.out hb
  replace B5 : Hid (Box _ _ _ _) := Row.blw B5.out hb
  replace B6 : Hid (Row _ _ _ _) := Row.blw B6.out hb
  replace M5 : Hid (MemAt _ _ _ _) := MemAt.blw M5.out hb
  clear hb
  have B7 : Hid (Box _ w2.heap.size m7 M7) := box3 w2 _ _ _ 26
  have A7 : Hid (MemAt _ _ m7 M7) := own.at.blw hA
  clear own hA
  clear B5 M5
  go_upto_if 58 with fail
  go_cut [] from 5 to 82 (fun wx => Blw w wx)
  case first =>
    cases b8
    · go_wp2_with fail
      go_meet
      exact HB.out
    have HS : Hid (slotOK e6 a6 b6) := by
      rcases O7.out with ⟨g, _⟩ | ⟨_, _, g⟩
      · exact g
      · cases g
    have HG : Hid (MM.Good) := by
      rcases O7.out with ⟨_, g⟩ | ⟨_, _, g⟩
      · exact (saOut_good g).1
      · cases g
    obtain ⟨-, G7, -, -, q, hq, hq2, hline, -, -⟩ := ws_good HG.out HS.out O7.out
    have HG7 : Hid (M7.Good) := G7
    have HR := rec_slotF HS.out hq hline
    obtain ⟨i9, hi9, ei9⟩ := rec_mem hq2 HR.1
    rw [HR.2.1, HR.2.2.1, HR.2.2.2] at ei9
    have HI9 : Hid (∃ i, i < (rdL M7.v2 2).length ∧ lf (rdL M7.v2 2) i = (e6, a6, b6)) := ⟨i9, hi9, ei9⟩
    clear G7 HR hline hi9 ei9 i9 hq hq2 q
    obtain ⟨p00, p01, p02⟩ := get3 B7.out
    go_wp2_with fail
    clear p00 p01 p02
    refine (implRead_any m7 M7 _ _ A7.out).mono ?_
    rintro e w3 ⟨a9, n9, c9, f9, b10, rfl, ho, own, hb⟩
    obtain ⟨en, ef, eb⟩ : n9 = (rdL M7.v2 2).length ∧ f9 = lf (rdL M7.v2 2) ∧ b10 = true := by
      rcases ho with ⟨_, h1, h2, h3⟩ | ⟨ng, _⟩
      · exact ⟨h1, h2, h3⟩
      · exact absurd HG7.out ng
    rw [← en, ← ef] at HI9
    clear ho en ef
    subst eb
    replace HB : Hid (Blw _ _) := Blw.trans HB.out hb
    replace B6 : Hid (Row _ _ _ _) := Row.blw B6.out hb
    replace B7 : Hid (Box _ _ _ _) := Row.blw B7.out hb
    replace A7 : Hid (MemAt _ _ _ _) := MemAt.blw A7.out hb
    clear hb
    have S9 : Hid (SlotsOwn _ _ a9 n9 f9) := own
    have hn2 := own.1
    clear own
    clear B7 A7
    go_wp2_with fail
    go_loopw [11, 66] (fun v i wr => ∃ (k : Nat) (bb : Bool), k ≤ n9 ∧ i = .int .i64 k ∧ v = .bool bb ∧ (bb = true ↔ ∃ i, i < k ∧ f9 i = (e6, a6, b6)) ∧ Blw w3 wr) (fun _ i _ => n9 - (intOf i).toNat)
    case atStart => exact ⟨0, false, Nat.zero_le _, rfl, rfl, ⟨fun h => absurd h (by decide), fun ⟨i, hi, _⟩ => absurd hi (Nat.not_lt_zero _)⟩, Blw.refl _⟩
    case round =>
      obtain ⟨k, bb, hk, rfl, rfl, hbb, hkb⟩ := hrel
      have HBB : Hid (bb = true ↔ ∃ i, i < k ∧ f9 i = (e6, a6, b6)) := hbb
      clear hbb
      by_cases hlt : k < n9
      · have hlt' : (k : Int) < n9 := by omega
        obtain ⟨b9, -, rfl, r9⟩ := (S9.out.blw hkb).2 (by omega)
        obtain ⟨p0, p1, p2⟩ := slot_get r9 hlt
        have Q6 := fun o => get3 ((B6.out.blw hkb).blw ((Blw.refl wr).alloc o))
        have HK : Hid (Blw w3 wr) := hkb
        clear r9 hkb
        have up : ∀ b2 : Bool, (b2 = true ↔ (bb = true ∨ f9 k = (e6, a6, b6))) → (b2 = true ↔ ∃ i, i < k + 1 ∧ f9 i = (e6, a6, b6)) := fun b2 h => by
          rw [h, HBB.out]
          constructor
          · rintro (⟨i, hi, e⟩ | e)
            · exact ⟨i, by omega, e⟩
            · exact ⟨k, by omega, e⟩
          · rintro ⟨i, hi, e⟩
            by_cases h : i = k
            · subst h; exact Or.inr e
            · exact Or.inl ⟨i, by omega, e⟩
        have UP : Hid _ := up
        clear up
        cases bb
        · by_cases h1 : (f9 k).1 = e6
          · by_cases h2 : (f9 k).2.1 = a6
            · by_cases h3 : (f9 k).2.2 = b6
              · skip
                go_wp2
                go_roundw
                case rel => exact ⟨k + 1, true, by omega, by go_num, by first | rfl | trivial, UP.out true ⟨fun _ => Or.inr (by rw [← h1, ← h2, ← h3]), fun _ => rfl⟩, HK.out.alloc _⟩
                case measure => simp [intOf]; omega
              · skip
                go_wp2
                go_roundw
                case rel => exact ⟨k + 1, false, by omega, by go_num, by first | rfl | trivial, UP.out false ⟨fun h => absurd h (by decide), fun h => by rcases h with h | h; exact absurd h (by decide); exact absurd (by rw [h]) h3⟩, HK.out.alloc _⟩
                case measure => simp [intOf]; omega
            · skip
              go_wp2
              go_roundw
              case rel => exact ⟨k + 1, false, by omega, by go_num, by first | rfl | trivial, UP.out false ⟨fun h => absurd h (by decide), fun h => by rcases h with h | h; exact absurd h (by decide); exact absurd (by rw [h]) h2⟩, HK.out.alloc _⟩
              case measure => simp [intOf]; omega
          · skip
            go_wp2
            go_roundw
            case rel => exact ⟨k + 1, false, by omega, by go_num, by first | rfl | trivial, UP.out false ⟨fun h => absurd h (by decide), fun h => by rcases h with h | h; exact absurd h (by decide); exact absurd (by rw [h]) h1⟩, HK.out.alloc _⟩
            case measure => simp [intOf]; omega
        · skip
          go_wp2
          go_roundw
          case rel => exact ⟨k + 1, true, by omega, by go_num, by first | rfl | trivial, UP.out true ⟨fun _ => Or.inl rfl, fun _ => rfl⟩, HK.out.alloc _⟩
          case measure => simp [intOf]; omega
      · obtain rfl : k = n9 := by omega
        obtain rfl : bb = true := HBB.out.2 HI9.out
        go_wp2_with fail
        go_meet
        exact HB.out.trans hkb
  case rest =>
    have HC : Hid (Blw w wc) := hcut
    clear hcut HB B6 B7 A7 O7 H1
    replace H2 : Hid (BytesAt _ _ _ _ _) := BytesAt.blw H2.out HC.out
    go_wp2_with fail
    refine (drawRead_any ao2 n2 c2 f2 _ (bytes_keep H2.out HC.out)).mono ?_
    rintro e w5 ⟨m14, s, c, d, rfl, own, hb⟩
    obtain ⟨M14, hMM⟩ : ∃ MM, MD.full s c d = MM := ⟨_, rfl⟩
    rw [hMM] at own ⊢
    clear hMM
    have hA : Blw w5 (w5.alloc (.cells #[.slice m14.a1 M14.n1 m14.c1, .slice m14.a2 M14.n2 m14.c2, .slice m14.a3 M14.n3 m14.c3] 26)) := (Blw.refl _).alloc _
    replace hb := hb.trans hA
    replace HC : Hid (Blw _ _) := Blw.trans HC.out hb
    replace H2 : Hid (BytesAt _ _ _ _ _) := BytesAt.blw H2.out hb
    clear hb
    have B14 : Hid (Box _ w5.heap.size m14 M14) := box3 w5 _ _ _ 26
    have A14 : Hid (MemAt _ _ m14 M14) := own.at.blw hA
    clear own hA
    obtain ⟨p00, p01, p02⟩ := get3 B14.out
    go_wp2_with fail
    clear p00 p01 p02
    refine (implRead_any m14 M14 _ _ A14.out).mono ?_
    rintro e w6 ⟨a15, n15, c15, f15, b16, rfl, ho, own, hb⟩
    have O15 : Hid (rsOut M14 n15 f15 b16) := ho
    replace HC : Hid (Blw _ _) := Blw.trans HC.out hb
    replace H2 : Hid (BytesAt _ _ _ _ _) := BytesAt.blw H2.out hb
    replace B14 : Hid (Box _ _ _ _) := Row.blw B14.out hb
    replace A14 : Hid (MemAt _ _ _ _) := MemAt.blw A14.out hb
    clear hb
    have S15 : Hid (SlotsOwn _ _ a15 n15 f15) := own
    clear ho own
    obtain ⟨p00, p01, p02⟩ := get3 B14.out
    go_wp2_with fail
    clear p00 p01 p02
    refine (specRead_any m14 M14 _ _ A14.out).mono ?_
    rintro e w7 ⟨a17, n17, c17, f17, b18, rfl, ho, own, hb⟩
    obtain ⟨en, ef, eb⟩ := rsOut_same ho O15.out
    replace HC : Hid (Blw _ _) := Blw.trans HC.out hb
    replace H2 : Hid (BytesAt _ _ _ _ _) := BytesAt.blw H2.out hb
    replace B14 : Hid (Box _ _ _ _) := Row.blw B14.out hb
    replace A14 : Hid (MemAt _ _ _ _) := MemAt.blw A14.out hb
    replace S15 : Hid (SlotsOwn _ _ _ _ _) := SlotsOwn.blw S15.out hb
    clear hb
    subst en ef eb
    have S17 : Hid (SlotsOwn _ _ a17 n17 f17) := own
    have hn2 := own.1
    clear ho own
    clear B14 A14
    have e1 : (b18 != b18) = false := by simp
    have e2 : ((n17 : Int) != (n17 : Int)) = false := by simp
    go_wp2_with fail
    clear e1 e2
    go_loopw [107] (fun i wr => ∃ k : Nat, k ≤ n17 ∧ i = .int .i64 k ∧ Blw w7 wr) (fun i _ => n17 - (intOf i).toNat)
    case atStart => exact ⟨0, Nat.zero_le _, rfl, Blw.refl _⟩
    case round =>
      obtain ⟨k, hk, rfl, hkb⟩ := hrel
      by_cases hlt : k < n17
      · have hlt' : (k : Int) < n17 := by omega
        obtain ⟨b1, -, rfl, r1⟩ := (S15.out.blw hkb).2 (by omega)
        obtain ⟨b2, -, rfl, r2⟩ := (S17.out.blw hkb).2 (by omega)
        obtain ⟨p0, p1, p2⟩ := slot_get r1 hlt
        obtain ⟨q0, q1, q2⟩ := slot_get r2 hlt
        have HK : Hid (Blw w7 wr) := hkb
        clear r1 r2 hkb
        go_wp2_with fail
        go_quiet (fail)
        go_wp2
        go_roundw
        case rel => exact ⟨k + 1, by omega, by go_num, HK.out.drewN _⟩
        case measure => simp [intOf]; omega
      · obtain rfl : k = n17 := by omega
        replace HC : Hid (Blw _ _) := Blw.trans HC.out hkb
        replace H2 : Hid (BytesAt _ _ _ _ _) := BytesAt.blw H2.out hkb
        replace S15 : Hid (SlotsOwn _ _ _ _ _) := SlotsOwn.blw S15.out hkb
        replace S17 : Hid (SlotsOwn _ _ _ _ _) := SlotsOwn.blw S17.out hkb
        clear hkb
        clear S15 S17
        go_wp2_with fail
        refine (drawNext_any ao2 n2 c2 f2 _ (bytes_keep H2.out HC.out)).mono ?_
        rintro e w8 ⟨e20, a20, b20, x21, y22, rfl, hb⟩
        have hA : Blw w8 (w8.alloc (.cells #[.int .i64 e20, .int .i64 a20, .int .i64 b20] 56)) := (Blw.refl _).alloc _
        replace hb := hb.trans hA
        replace HC : Hid (Blw _ _) := Blw.trans HC.out hb
        replace H2 : Hid (BytesAt _ _ _ _ _) := BytesAt.blw H2.out hb
        clear hb
        have B20 : Hid (sbx _ w8.heap.size e20 a20 b20) := box3 w8 _ _ _ 56
        clear hA
        obtain ⟨p00, p01, p02⟩ := get3 B20.out
        go_wp2_with fail
        clear p00 p01 p02
        refine (implNext_any e20 a20 b20 x21 y22 _).mono ?_
        rintro e w9 ⟨e23, a23, b23, ok24, rfl, ho, hb⟩
        have O23 : Hid (nxOut e20 a20 b20 x21 y22 e23 a23 b23 ok24) := ho
        clear ho
        have hA : Blw w9 (w9.alloc (.cells #[.int .i64 e23, .int .i64 a23, .int .i64 b23] 56)) := (Blw.refl _).alloc _
        replace hb := hb.trans hA
        replace HC : Hid (Blw _ _) := Blw.trans HC.out hb
        replace H2 : Hid (BytesAt _ _ _ _ _) := BytesAt.blw H2.out hb
        replace B20 : Hid (Row _ _ _ _) := Row.blw B20.out hb
        clear hb
        have B23 : Hid (sbx _ w9.heap.size e23 a23 b23) := box3 w9 _ _ _ 56
        clear hA
        obtain ⟨p00, p01, p02⟩ := get3 B20.out
        go_wp2_with fail
        clear p00 p01 p02
        refine (specNext_any e20 a20 b20 x21 y22 _).mono ?_
        rintro e w10 ⟨e25, a25, b25, ok26, rfl, ho, hb⟩
        obtain ⟨q1, q2, q3, q4⟩ := nxOut_same ho O23.out
        subst q1 q2 q3 q4
        clear ho
        have hA : Blw w10 (w10.alloc (.cells #[.int .i64 e25, .int .i64 a25, .int .i64 b25] 56)) := (Blw.refl _).alloc _
        replace hb := hb.trans hA
        replace HC : Hid (Blw _ _) := Blw.trans HC.out hb
        replace H2 : Hid (BytesAt _ _ _ _ _) := BytesAt.blw H2.out hb
        replace B20 : Hid (Row _ _ _ _) := Row.blw B20.out hb
        replace B23 : Hid (Row _ _ _ _) := Row.blw B23.out hb
        clear hb
        have B25 : Hid (sbx _ w10.heap.size e25 a25 b25) := box3 w10 _ _ _ 56
        clear hA
        go_wp2_with fail
        refine (drawSum_any ao2 n2 c2 f2 _ (bytes_keep H2.out HC.out)).mono ?_
        rintro e w11 ⟨e27, a27, b27, rfl, hb⟩
        have hA : Blw w11 (w11.alloc (.cells #[.int .i64 e27, .int .i64 a27, .int .i64 b27] 56)) := (Blw.refl _).alloc _
        replace hb := hb.trans hA
        replace HC : Hid (Blw _ _) := Blw.trans HC.out hb
        replace H2 : Hid (BytesAt _ _ _ _ _) := BytesAt.blw H2.out hb
        replace B20 : Hid (Row _ _ _ _) := Row.blw B20.out hb
        replace B23 : Hid (Row _ _ _ _) := Row.blw B23.out hb
        replace B25 : Hid (Row _ _ _ _) := Row.blw B25.out hb
        clear hb
        have B27 : Hid (sbx _ w11.heap.size e27 a27 b27) := box3 w11 _ _ _ 56
        clear hA
        obtain ⟨p00, p01, p02⟩ := get3 B27.out
        go_wp2_with fail
        clear p00 p01 p02
        refine (implSum_any e27 a27 b27 _).mono ?_
        rintro e w12 ⟨ho, hb⟩
        obtain ⟨x28, ok29, ex⟩ : ∃ x ok, e = .returned (.tuple #[.int .i64 x, .bool ok]) := by rcases ho with ⟨-, h⟩ | ⟨-, h⟩ <;> exact ⟨_, _, h⟩
        subst ex
        have O28 : Hid (ssOut e27 a27 b27 _) := ho
        clear ho
        replace HC : Hid (Blw _ _) := Blw.trans HC.out hb
        replace H2 : Hid (BytesAt _ _ _ _ _) := BytesAt.blw H2.out hb
        replace B20 : Hid (Row _ _ _ _) := Row.blw B20.out hb
        replace B23 : Hid (Row _ _ _ _) := Row.blw B23.out hb
        replace B25 : Hid (Row _ _ _ _) := Row.blw B25.out hb
        replace B27 : Hid (Row _ _ _ _) := Row.blw B27.out hb
        clear hb
        obtain ⟨p00, p01, p02⟩ := get3 B27.out
        go_wp2_with fail
        clear p00 p01 p02
        refine (specSum_any e27 a27 b27 _).mono ?_
        rintro e w13 ⟨ho, hb⟩
        have er := ssOut_same ho O28.out
        subst er
        clear ho
        replace HC : Hid (Blw _ _) := Blw.trans HC.out hb
        replace H2 : Hid (BytesAt _ _ _ _ _) := BytesAt.blw H2.out hb
        replace B20 : Hid (Row _ _ _ _) := Row.blw B20.out hb
        replace B23 : Hid (Row _ _ _ _) := Row.blw B23.out hb
        replace B25 : Hid (Row _ _ _ _) := Row.blw B25.out hb
        replace B27 : Hid (Row _ _ _ _) := Row.blw B27.out hb
        clear hb
        clear B27
        go_wp2_with fail
        refine (drawLine_any ao2 n2 c2 f2 _ (bytes_keep H2.out HC.out)).mono ?_
        rintro e w14 ⟨x32, rfl, hb⟩
        replace HC : Hid (Blw _ _) := Blw.trans HC.out hb
        replace H2 : Hid (BytesAt _ _ _ _ _) := BytesAt.blw H2.out hb
        replace B20 : Hid (Row _ _ _ _) := Row.blw B20.out hb
        replace B23 : Hid (Row _ _ _ _) := Row.blw B23.out hb
        replace B25 : Hid (Row _ _ _ _) := Row.blw B25.out hb
        clear hb
        obtain ⟨x33, ok34, hx33⟩ : ∃ x ok, slOut x32 = .tuple #[.int .i64 x, .bool ok] := by unfold slOut; split; exact ⟨_, _, rfl⟩; exact ⟨_, _, rfl⟩
        go_wp2_with fail
        refine (implLine_any x32 _).mono ?_
        rintro e w15 ⟨rfl, rfl⟩
        rw [hx33]
        go_wp2_with fail
        refine (specLine_any x32 _).mono ?_
        rintro e w15 ⟨rfl, rfl⟩
        rw [hx33]
        clear hx33
        have e1 : (ok26 != ok26) = false := by simp
        have e2 : (ok29 != ok29) = false := by simp
        have e3 : (x28 != x28) = false := by simp
        have e4 : (ok34 != ok34) = false := by simp
        have e5 : (x33 != x33) = false := by simp
        obtain ⟨p0, p1, p2⟩ := get3 B23.out
        obtain ⟨q0, q1, q2⟩ := get3 B25.out
        obtain ⟨r0, r1, r2⟩ := get3 B20.out
        cases ok26
        · go_wp2
          go_ret
          exact ⟨rfl, HC.out⟩
        obtain ⟨k1, k2, k3, -, -⟩ : slotOK e20 a20 b20 ∧ slotOK (e20 + 1) x21 y22 ∧ e25 = e20 + 1 ∧ True ∧ True := by
          rcases O23.out with ⟨g1, g2, g3, _⟩ | ⟨_, _, _, _, g⟩
          · exact ⟨g1, g2, g3, trivial, trivial⟩
          · cases g
        subst k3
        have K1 : Hid (1 ≤ e20 ∧ e20 ≤ 1000) := k1.1
        have K2 : Hid (1 ≤ e20 + 1 ∧ e20 + 1 ≤ 1000) := k2.1
        clear k1 k2
        go_wp2_with fail
        refine (implLine_any e20 _).mono ?_
        rintro e w15 ⟨rfl, rfl⟩
        rw [slOut, if_pos K1.out]
        go_wp2_with fail
        refine (implLine_any (e20 + 1) _).mono ?_
        rintro e w15 ⟨rfl, rfl⟩
        rw [slOut, if_pos K2.out]
        have e6 : (e20 % 2 != (e20 + 1) % 2) = true := by simp; omega
        go_wp2
        go_ret
        exact ⟨rfl, HC.out⟩
end Go.Proofs.Ytnbcjdoohmjghaa
