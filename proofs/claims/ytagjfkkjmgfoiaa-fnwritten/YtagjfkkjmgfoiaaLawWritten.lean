/- Law 4: a write changes one cell, and the log has just what was touched, for drawn books. -/
import Derived.Test.YtagjfkkjmgfoiaaDrawE
import Derived.Test.YtagjfkkjmgfoiaaSameU
import Derived.Test.YtagjfkkjmgfoiaaFactB
import Derived.Test.YtagjfkkjmgfoiaaLawX
import Derived.Test.YtagjfkkjmgfoiaaImplR
import Derived.Test.YtagjfkkjmgfoiaaSpecR
import Derived.Test.YtagjfkkjmgfoiaaSpecA
import Derived.Test.YtagjfkkjmgfoiaaImplW
namespace Go.Proofs.Ytagjfkkjmgfoiaa
open Go.RowKit
set_option linter.unusedSimpArgs false
set_option linter.unusedVariables false
theorem tOut_len {k n : Nat} {lc f : Nat → Int} (hd : distinct k lc) (h : tOut k lc n f) : n = k := by
  have h1 : ∃ t : Nat → Nat, ∀ i, i < n → t i < k ∧ lc (t i) = f i := by
    refine ⟨fun i => if hi : i < n then Classical.choose ((h.2 (f i)).1 ⟨i, hi, rfl⟩) else 0, fun i hi => ?_⟩
    simp only [hi, dif_pos]
    exact Classical.choose_spec ((h.2 (f i)).1 ⟨i, hi, rfl⟩)
  have h2 : ∃ s : Nat → Nat, ∀ j, j < k → s j < n ∧ f (s j) = lc j := by
    refine ⟨fun j => if hj : j < k then Classical.choose ((h.2 (lc j)).2 ⟨j, hj, rfl⟩) else 0, fun j hj => ?_⟩
    simp only [hj, dif_pos]
    exact Classical.choose_spec ((h.2 (lc j)).2 ⟨j, hj, rfl⟩)
  obtain ⟨t, ht⟩ := h1
  obtain ⟨s, hs⟩ := h2
  have a := pigeon k n (fun i => (t i : Int)) (fun i hi => ⟨by omega, by have := (ht i hi).1; omega⟩) (fun i j hi hj e => by
    have e' : t i = t j := by dsimp only at e; omega
    have e2 : f i = f j := by rw [← (ht i hi).2, ← (ht j hj).2, e']
    rcases Nat.lt_trichotomy i j with g | g | g
    · have := h.1 i j g hj; omega
    · exact g
    · have := h.1 j i g hi; omega)
  have b := pigeon n k (fun i => (s i : Int)) (fun i hi => ⟨by omega, by have := (hs i hi).1; omega⟩) (fun i j hi hj e => by
    have e' : s i = s j := by dsimp only at e; omega
    exact hd i j hi hj (by rw [← (hs i hi).2, ← (hs j hj).2, e']))
  omega
/-- All that FnWritten asks where the write is allowed. -/
theorem written_fact {B R : BD} {k x : Int} {na nb : Nat} {a b : Nat → Int} {one two : Bool} (h1 : wcOut B k x R true) (h2 : iOut B (tOut B.k B.lc) na a one) (h3 : iOut R (tOut R.k R.lc) nb b two) :
    one = true ∧ two = true ∧ hasLine nb b k ∧ nb = R.k ∧ na ≤ 8 ∧ (hasLine na a k → nb = na) ∧ (¬ hasLine na a k → nb = na + 1) ∧ R.n = 8 ∧ B.n = 8 ∧ (∀ i : Nat, i < 8 → (i : Int) = k → R.c i = x) ∧ (∀ i : Nat, i < 8 → ¬ (i : Int) = k → R.c i = B.c i) := by
  rcases h1 with ⟨⟨g, gk, gx⟩, -, hn, hc, hl⟩ | ⟨-, e, -⟩
  · have rg := write_good g gk gx hn hc hl
    obtain ⟨ek, h8⟩ := Good.keys g gk
    rcases h2 with ⟨-, e1, ta⟩ | ⟨n, -⟩
    · rcases h3 with ⟨-, e2, tb⟩ | ⟨n, -⟩
      · have la := tOut_len g.d ta
        have lb := tOut_len rg.d tb
        have hka : hasLine na a k ↔ ∃ t, t < B.k ∧ B.lc t = k := ta.2 k
        have hkb : hasLine nb b k ↔ ∃ t, t < R.k ∧ R.lc t = k := tb.2 k
        have k8 := g.k8
        refine ⟨e1, e2, hkb.2 ?_, lb, by omega, fun h => ?_, fun h => ?_, hn, g.n, fun i hi he => ?_, fun i hi he => ?_⟩
        · rcases hl with ⟨⟨t, ht, et⟩, q1, q2, q3⟩ | ⟨hm, q1, q2, q3⟩
          · exact ⟨t, by omega, by rw [q2]; exact et⟩
          · exact ⟨B.k, by omega, by rw [q2]; simp [snoc]⟩
        · rcases hl with ⟨-, q1, q2, q3⟩ | ⟨hm, q1, q2, q3⟩
          · omega
          · obtain ⟨t, ht, et⟩ := hka.1 h
            exact absurd et (hm t ht)
        · rcases hl with ⟨ht, q1, q2, q3⟩ | ⟨hm, q1, q2, q3⟩
          · exact absurd (hka.2 ht) h
          · omega
        · rw [hc]; have : i = k.toNat := by omega
          simp [upd, this]
        · rw [hc]; have : i ≠ k.toNat := by omega
          simp [upd, this]
      · exact absurd rg n
    · exact absurd g n
  · cases e
set_option maxRecDepth 10000 in
set_option maxHeartbeats 6400000 in
theorem lawWrittenP (ao1 : Option Addr) (n1 c1 : Nat) (f1 : Nat → Int) (ao2 : Option Addr) (n2 c2 : Nat) (f2 : Nat → Int) (w : World) (h1 : BytesAt (fun b => b < w.heap.size) w ao1 n1 f1) (h2 : BytesAt (fun b => b < w.heap.size) w ao2 n2 f2) :
    Calls Try.prog 4 #[.slice ao1 n1 c1, .slice ao2 n2 c2] w fun e w' => e = .returned (.bool true) ∧ Blw w w' := by
  have H1 : Hid (BY w ao1 n1 f1) := h1
  have H2 : Hid (BY w ao2 n2 f2) := h2
  clear h1 h2
  go_enter Try.func4, Try.ntmps4
  by_cases hd : wrap64 ((n1 : Int) + n2) > 1048576
  · have d1 : decide (wrap64 ((n1 : Int) + n2) > 1048576) = true := by simpa using hd
    clear hd
    go_wp2
    go_ret
    exact ⟨rfl, Blw.refl _⟩
  have d1 : decide (wrap64 ((n1 : Int) + n2) > 1048576) = false := by simpa using hd
  clear hd
  have HB : Hid (Blw w w) := Blw.refl w
  go_wp2_with fail
  clear d1
  refine (drawWrite_any ao1 n1 c1 f1 _ H1.out).mono ?_
  rintro e w1 ⟨b5, S5, k6, x7, rfl, h8, h9, hat, hb⟩
  have HS5 : Hid (S5.n + S5.k ≤ 1048576) := by show _ ≤ _; omega
  clear h8 h9
  have hA : Blw w1 (w1.alloc (.cells #[.slice b5.a1 S5.n b5.c1, .slice b5.a2 S5.k b5.c2] 26)) := (Blw.refl _).alloc _
  replace hb := hb.trans hA
  replace HB : Hid (Blw _ _) := Blw.trans HB.out hb
  clear hb
  have X5 : Hid (BX (w1.alloc (.cells #[.slice b5.a1 S5.n b5.c1, .slice b5.a2 S5.k b5.c2] 26)) w1.heap.size b5 S5) := ⟨(hat).blw hA |>.mono (fun x hx => by simp; omega), box2 w1 _ _ 26⟩
  clear hA
  clear hat H1
  obtain ⟨p00, p01⟩ := get2 X5.out.box
  go_wp2_with fail
  clear p00 p01
  refine (implWrite_any b5 S5 k6 x7 _ _ X5.out.at_ (fun x hx => hx)).mono ?_
  rintro e w2 ⟨b8, R8, r9, rfl, ho, hsz, own, hb⟩
  have O8 : Hid (wcOut S5 k6 x7 R8 r9) := ho
  clear ho hsz
  have hA : Blw w2 (w2.alloc (.cells #[.slice b8.a1 R8.n b8.c1, .slice b8.a2 R8.k b8.c2] 26)) := (Blw.refl _).alloc _
  replace hb := hb.trans hA
  replace HB : Hid (Blw _ _) := Blw.trans HB.out hb
  replace X5 : Hid (BX _ _ _ _) := BX.blw X5.out hb
  clear hb
  have X8 : Hid (BX (w2.alloc (.cells #[.slice b8.a1 R8.n b8.c1, .slice b8.a2 R8.k b8.c2] 26)) w2.heap.size b8 R8) := ⟨(own.at).blw hA |>.mono (fun x hx => by simp; omega), box2 w2 _ _ 26⟩
  clear hA
  clear own
  obtain ⟨p00, p01⟩ := get2 X5.out.box
  go_wp2_with fail
  clear p00 p01
  refine (specWrite_any b5 S5 k6 x7 _ _ HS5.out X5.out.at_ (fun x hx => hx)).mono ?_
  rintro e w3 ⟨b10, R10, r11, rfl, ho, hsz, own, hb⟩
  have O10 : Hid (wcOut S5 k6 x7 R10 r11) := ho
  clear ho hsz
  have hA : Blw w3 (w3.alloc (.cells #[.slice b10.a1 R10.n b10.c1, .slice b10.a2 R10.k b10.c2] 26)) := (Blw.refl _).alloc _
  replace hb := hb.trans hA
  replace HB : Hid (Blw _ _) := Blw.trans HB.out hb
  replace X5 : Hid (BX _ _ _ _) := BX.blw X5.out hb
  replace X8 : Hid (BX _ _ _ _) := BX.blw X8.out hb
  clear hb
  have X10 : Hid (BX (w3.alloc (.cells #[.slice b10.a1 R10.n b10.c1, .slice b10.a2 R10.k b10.c2] 26)) w3.heap.size b10 R10) := ⟨(own.at).blw hA |>.mono (fun x hx => by simp; omega), box2 w3 _ _ 26⟩
  clear hA
  clear own
  obtain ⟨eM, eb⟩ := wcOut_same O10.out O8.out
  subst eM eb
  clear O10
  have hne : (r11 != r11) = false := by simp
  obtain ⟨p00, p01⟩ := get2 X8.out.box
  obtain ⟨p10, p11⟩ := get2 X10.out.box
  go_wp2_with fail
  clear p00 p01 p10 p11
  refine (sameBook_same b8 b10 R10 _ X8.out.at_ X10.out.at_).mono ?_
  rintro e w4 ⟨rfl, hb⟩
  clear X10
  replace HB : Hid (Blw _ _) := Blw.trans HB.out hb
  replace X5 : Hid (BX _ _ _ _) := BX.blw X5.out hb
  replace X8 : Hid (BX _ _ _ _) := BX.blw X8.out hb
  clear hb
  clear hne
  go_upto_if 62 with fail
  go_cut [] from 5 to 155 (fun wx => Blw w wx)
  case first =>
    cases r11
    · go_wp2_with fail
      go_meet
      exact HB.out
    · skip
      obtain ⟨p00, p01⟩ := get2 X5.out.box
      go_wp2_with fail
      clear p00 p01
      refine (implTouch_any b5 S5 _ _ X5.out.at_ (fun x hx => hx)).mono ?_
      rintro e w5 ⟨a12, n12, c12, f12, one, rfl, ho, hsz, own, hb⟩
      have O12 : Hid (iOut S5 (tOut S5.k S5.lc) n12 f12 one) := ho
      have I12 : Hid (LI w5 a12 n12 f12) := own.at.mono (fun x hx => hx.2)
      clear ho hsz own
      replace HB : Hid (Blw _ _) := Blw.trans HB.out hb
      replace X5 : Hid (BX _ _ _ _) := BX.blw X5.out hb
      replace X8 : Hid (BX _ _ _ _) := BX.blw X8.out hb
      clear hb
      obtain ⟨p00, p01⟩ := get2 X8.out.box
      go_wp2_with fail
      clear p00 p01
      refine (implTouch_any b8 R10 _ _ X8.out.at_ (fun x hx => hx)).mono ?_
      rintro e w6 ⟨a14, n14, c14, f14, two, rfl, ho, hsz, own, hb⟩
      have O14 : Hid (iOut R10 (tOut R10.k R10.lc) n14 f14 two) := ho
      have I14 : Hid (LI w6 a14 n14 f14) := own.at.mono (fun x hx => hx.2)
      clear ho hsz own
      replace HB : Hid (Blw _ _) := Blw.trans HB.out hb
      replace X5 : Hid (BX _ _ _ _) := BX.blw X5.out hb
      replace X8 : Hid (BX _ _ _ _) := BX.blw X8.out hb
      replace I12 : Hid (LI _ _ _ _) := LI.blw I12.out hb
      clear hb
      obtain ⟨e1, e2, e3, e4, e5, e6, e7, e8, e9, e10, e11⟩ := written_fact O8.out O12.out O14.out
      clear O8 O12 O14
      subst e1 e2
      have T3 : Hid (hasLine n14 f14 k6) := e3
      have q4 : ((n14 : Int) != (R10.k : Int)) = false := by simp [e4]
      have T6 : Hid (hasLine n12 f12 k6 → n14 = n12) := e6
      have T7 : Hid (¬ hasLine n12 f12 k6 → n14 = n12 + 1) := e7
      have T8 : Hid (R10.n = 8) := e8
      have T9 : Hid (S5.n = 8) := e9
      have T10 : Hid (∀ i : Nat, i < 8 → (i : Int) = k6 → R10.c i = x7) := e10
      have T11 : Hid (∀ i : Nat, i < 8 → ¬ (i : Int) = k6 → R10.c i = S5.c i) := e11
      clear e3 e4 e6 e7 e8 e9 e10 e11
      go_wp2_with fail
      refine (has_any _ _ n14 f14 _ _ k6 I14.out).mono ?_
      rintro e w7 ⟨hk, rfl, hh, ew⟩
      obtain rfl : w7 = w6 := ew
      obtain rfl : hk = true := hh.2 T3.out
      clear hh T3
      obtain ⟨p00, p01⟩ := get2 X8.out.box
      go_wp2_with fail
      clear p00 p01
      refine (has_any _ _ n12 f12 _ _ k6 I12.out).mono ?_
      rintro e w8 ⟨ha, rfl, hh, ew⟩
      obtain rfl : w8 = w7 := ew
      cases ha
      · skip
        have nh : ¬ hasLine n12 f12 k6 := fun g => by have := hh.2 g; cases this
        have q7 : ((n14 : Int) != (n12 : Int) + 1) = false := by have := T7.out nh; simp; omega
        have HH : Hid (_ ↔ hasLine n12 f12 k6) := hh
        clear hh
        go_wp2_with fail
        refine (has_any _ _ n12 f12 _ _ k6 I12.out).mono ?_
        rintro e w9 ⟨hc, rfl, hh2, ew⟩
        obtain rfl : w9 = w8 := ew
        have ec : hc = false := by cases hc with | false => rfl | true => exact absurd (HH.out.2 (hh2.1 rfl)) (by decide)
        subst ec
        clear hh2 HH
        obtain ⟨p0, p1⟩ := get2 X8.out.box
        go_wp2_with fail
        clear p0 p1
        go_loopw [122] (fun i wr => ∃ j : Nat, j ≤ R10.n ∧ i = .int .i64 j ∧ Blw w9 wr) (fun i _ => R10.n - (intOf i).toNat)
        case atStart => exact ⟨0, by omega, rfl, Blw.refl _⟩
        case round =>
          obtain ⟨j, hj, rfl, hk4⟩ := hrel
          have HK : Hid (Blw w9 wr) := hk4
          clear hk4
          by_cases hlt : j < R10.n
          · have hlt' : (j : Int) < R10.n := by omega
            have hr8 : R10.n ≤ 8 := by have := T8.out; omega
            have hlt5 : (j : Int) < S5.n := by have := T8.out; have := T9.out; omega
            have y8 := X8.out.blw HK.out
            have y5 := X5.out.blw HK.out
            obtain ⟨p0, -⟩ := get2 y8.box
            obtain ⟨p1, -⟩ := get2 y5.box
            obtain ⟨g8, o8, ea8, -, pc8⟩ := y8.at_.c.2 j hlt
            obtain ⟨g5, o5, ea5, -, pc5⟩ := y5.at_.c.2 j (by omega)
            rw [ea8] at p0
            rw [ea5] at p1
            clear y8 y5 ea8 ea5
            by_cases hx : (j : Int) = k6
            · have e1 : ((j : Int) == k6) = true := by simp [hx]
              have e2 : ((j : Int) != k6) = false := by simp [hx]
              have e3 : (R10.c j != x7) = false := by simp [T10.out j (by have := T8.out; omega) hx]
              clear hx
              go_wp2
              go_quiet (fail)
              go_wp2
              go_roundw
              case rel => exact ⟨j + 1, by omega, by go_num, by first | exact HK.out | exact HK.out.drew | exact HK.out.drewN _⟩
              case measure => simp [intOf]; omega
            · have e1 : ((j : Int) == k6) = false := by simpa using hx
              have e2 : ((j : Int) != k6) = true := by simpa using hx
              have e3 : (R10.c j != S5.c j) = false := by simp [T11.out j (by have := T8.out; omega) hx]
              clear hx
              go_wp2
              go_quiet (fail)
              go_wp2
              go_roundw
              case rel => exact ⟨j + 1, by omega, by go_num, by first | exact HK.out | exact HK.out.drew | exact HK.out.drewN _⟩
              case measure => simp [intOf]; omega
          · have hlt' : ¬ (j : Int) < R10.n := by omega
            go_wp2_with fail
            go_meet
            exact HB.out.trans HK.out
      · skip
        have q6 : ((n14 : Int) != (n12 : Int)) = false := by have := T6.out (hh.1 rfl); simp; omega
        have HH : Hid (_ ↔ hasLine n12 f12 k6) := hh
        clear hh
        go_wp2_with fail
        refine (has_any _ _ n12 f12 _ _ k6 I12.out).mono ?_
        rintro e w9 ⟨hc, rfl, hh2, ew⟩
        obtain rfl : w9 = w8 := ew
        have ec : hc = true := by cases hc with | true => rfl | false => exact absurd (hh2.2 (HH.out.1 (by simp))) (by decide)
        subst ec
        clear hh2 HH
        obtain ⟨p0, p1⟩ := get2 X8.out.box
        go_wp2_with fail
        clear p0 p1
        go_loopw [122] (fun i wr => ∃ j : Nat, j ≤ R10.n ∧ i = .int .i64 j ∧ Blw w9 wr) (fun i _ => R10.n - (intOf i).toNat)
        case atStart => exact ⟨0, by omega, rfl, Blw.refl _⟩
        case round =>
          obtain ⟨j, hj, rfl, hk4⟩ := hrel
          have HK : Hid (Blw w9 wr) := hk4
          clear hk4
          by_cases hlt : j < R10.n
          · have hlt' : (j : Int) < R10.n := by omega
            have hr8 : R10.n ≤ 8 := by have := T8.out; omega
            have hlt5 : (j : Int) < S5.n := by have := T8.out; have := T9.out; omega
            have y8 := X8.out.blw HK.out
            have y5 := X5.out.blw HK.out
            obtain ⟨p0, -⟩ := get2 y8.box
            obtain ⟨p1, -⟩ := get2 y5.box
            obtain ⟨g8, o8, ea8, -, pc8⟩ := y8.at_.c.2 j hlt
            obtain ⟨g5, o5, ea5, -, pc5⟩ := y5.at_.c.2 j (by omega)
            rw [ea8] at p0
            rw [ea5] at p1
            clear y8 y5 ea8 ea5
            by_cases hx : (j : Int) = k6
            · have e1 : ((j : Int) == k6) = true := by simp [hx]
              have e2 : ((j : Int) != k6) = false := by simp [hx]
              have e3 : (R10.c j != x7) = false := by simp [T10.out j (by have := T8.out; omega) hx]
              clear hx
              go_wp2
              go_quiet (fail)
              go_wp2
              go_roundw
              case rel => exact ⟨j + 1, by omega, by go_num, by first | exact HK.out | exact HK.out.drew | exact HK.out.drewN _⟩
              case measure => simp [intOf]; omega
            · have e1 : ((j : Int) == k6) = false := by simpa using hx
              have e2 : ((j : Int) != k6) = true := by simpa using hx
              have e3 : (R10.c j != S5.c j) = false := by simp [T11.out j (by have := T8.out; omega) hx]
              clear hx
              go_wp2
              go_quiet (fail)
              go_wp2
              go_roundw
              case rel => exact ⟨j + 1, by omega, by go_num, by first | exact HK.out | exact HK.out.drew | exact HK.out.drewN _⟩
              case measure => simp [intOf]; omega
          · have hlt' : ¬ (j : Int) < R10.n := by omega
            go_wp2_with fail
            go_meet
            exact HB.out.trans HK.out
  case rest =>
    have HC : Hid (Blw w wc) := hcut
    clear hcut HB X5 X8 O8 HS5
    replace H2 : Hid (BY _ _ _ _) := BY.blw H2.out HC.out
    go_wp2_with fail
    refine (drawTouch_any ao2 n2 c2 f2 _ H2.out).mono ?_
    rintro e v1 ⟨b17, S17, rfl, h8, h9, hat, hb⟩
    have HSX17 : Hid (S17.n + S17.k ≤ 1048576) := by show _ ≤ _; omega
    clear h8 h9
    have hA : Blw v1 (v1.alloc (.cells #[.slice b17.a1 S17.n b17.c1, .slice b17.a2 S17.k b17.c2] 26)) := (Blw.refl _).alloc _
    replace hb := hb.trans hA
    replace HC : Hid (Blw _ _) := Blw.trans HC.out hb
    replace H2 : Hid (BY _ _ _ _) := BY.blw H2.out hb
    clear hb
    have X17 : Hid (BX (v1.alloc (.cells #[.slice b17.a1 S17.n b17.c1, .slice b17.a2 S17.k b17.c2] 26)) v1.heap.size b17 S17) := ⟨(hat).blw hA |>.mono (fun x hx => by simp; omega), box2 v1 _ _ 26⟩
    clear hA
    clear hat
    obtain ⟨p00, p01⟩ := get2 X17.out.box
    go_wp2_with fail
    clear p00 p01
    refine (implTouch_any b17 S17 _ _ X17.out.at_ (fun x hx => hx)).mono ?_
    rintro e v2 ⟨a18, n18, c18, f18, r19, rfl, ho, hsz, own, hb⟩
    have O18 : Hid (iOut S17 (tOut S17.k S17.lc) n18 f18 r19) := ho
    have I18 : Hid (LI v2 a18 n18 f18) := own.at.mono (fun x hx => hx.2)
    clear ho hsz own
    replace HC : Hid (Blw _ _) := Blw.trans HC.out hb
    replace H2 : Hid (BY _ _ _ _) := BY.blw H2.out hb
    replace X17 : Hid (BX _ _ _ _) := BX.blw X17.out hb
    clear hb
    obtain ⟨p00, p01⟩ := get2 X17.out.box
    go_wp2_with fail
    clear p00 p01
    refine (specTouch_any b17 S17 _ _ X17.out.at_ (fun x hx => hx)).mono ?_
    rintro e v3 ⟨a20, n20, c20, f20, r21, rfl, ho, hsz, own, hb⟩
    have O20 : Hid (iOut S17 (tOut S17.k S17.lc) n20 f20 r21) := ho
    have I20 : Hid (LI v3 a20 n20 f20) := own.at.mono (fun x hx => hx.2)
    clear ho hsz own
    replace HC : Hid (Blw _ _) := Blw.trans HC.out hb
    replace H2 : Hid (BY _ _ _ _) := BY.blw H2.out hb
    replace X17 : Hid (BX _ _ _ _) := BX.blw X17.out hb
    replace I18 : Hid (LI _ _ _ _) := LI.blw I18.out hb
    clear hb
    obtain ⟨⟨en, ef⟩, eb⟩ := iOut_same (tP_same S17.k S17.lc) O18.out O20.out
    subst en eb
    clear O18 O20 HSX17
    have EF : Hid (∀ i, i < n18 → f18 i = f20 i) := ef
    clear ef
    clear X17
    go_wp2_with fail
    refine (drawNew_any ao2 n2 c2 f2 _ H2.out).mono ?_
    rintro e v4 ⟨a22, cap22, f22, rfl, hI, hb⟩
    have I22 : Hid (LI v4 a22 8 f22) := hI
    clear hI
    replace HC : Hid (Blw _ _) := Blw.trans HC.out hb
    replace H2 : Hid (BY _ _ _ _) := BY.blw H2.out hb
    replace I18 : Hid (LI _ _ _ _) := LI.blw I18.out hb
    replace I20 : Hid (LI _ _ _ _) := LI.blw I20.out hb
    clear hb
    clear H2
    go_wp2_with fail
    refine (implNew_any a22 8 cap22 f22 _ _ I22.out (fun x hx => hx)).mono ?_
    rintro e v5 ⟨b23, R23, r24, rfl, ho, hsz, own, hb⟩
    have O23 : Hid (nbOut 8 f22 R23 r24) := ho
    clear ho hsz
    have hA : Blw v5 (v5.alloc (.cells #[.slice b23.a1 R23.n b23.c1, .slice b23.a2 R23.k b23.c2] 26)) := (Blw.refl _).alloc _
    replace hb := hb.trans hA
    replace HC : Hid (Blw _ _) := Blw.trans HC.out hb
    replace I18 : Hid (LI _ _ _ _) := LI.blw I18.out hb
    replace I20 : Hid (LI _ _ _ _) := LI.blw I20.out hb
    replace I22 : Hid (LI _ _ _ _) := LI.blw I22.out hb
    clear hb
    have X23 : Hid (BX (v5.alloc (.cells #[.slice b23.a1 R23.n b23.c1, .slice b23.a2 R23.k b23.c2] 26)) v5.heap.size b23 R23) := ⟨(own.at).blw hA |>.mono (fun x hx => by simp; omega), box2 v5 _ _ 26⟩
    clear hA
    clear own
    go_wp2_with fail
    refine (specNew_any a22 8 cap22 f22 _ _ (by omega) I22.out).mono ?_
    rintro e v6 ⟨b25, R25, r26, rfl, ho, hsz, own, hb⟩
    have O25 : Hid (nbOut 8 f22 R25 r26) := ho
    clear ho hsz
    have hA : Blw v6 (v6.alloc (.cells #[.slice b25.a1 R25.n b25.c1, .slice b25.a2 R25.k b25.c2] 26)) := (Blw.refl _).alloc _
    replace hb := hb.trans hA
    replace HC : Hid (Blw _ _) := Blw.trans HC.out hb
    replace I18 : Hid (LI _ _ _ _) := LI.blw I18.out hb
    replace I20 : Hid (LI _ _ _ _) := LI.blw I20.out hb
    replace I22 : Hid (LI _ _ _ _) := LI.blw I22.out hb
    replace X23 : Hid (BX _ _ _ _) := BX.blw X23.out hb
    clear hb
    have X25 : Hid (BX (v6.alloc (.cells #[.slice b25.a1 R25.n b25.c1, .slice b25.a2 R25.k b25.c2] 26)) v6.heap.size b25 R25) := ⟨(own.at).blw hA |>.mono (fun x hx => by simp; omega), box2 v6 _ _ 26⟩
    clear hA
    clear own
    obtain ⟨eM, eb⟩ := nbOut_same O25.out O23.out
    subst eM eb
    clear O23 O25
    clear I22
    have qr19 : (r19 == r19) = true := by simp
    have qr26 : (r26 == r26) = true := by simp
    go_wp2_with fail
    refine (same22 _ _ _ _ n18 f18 f20 _ I18.out I20.out EF.out).mono ?_
    rintro e v7 ⟨rfl, hb⟩
    replace HC : Hid (Blw _ _) := Blw.trans HC.out hb
    replace I18 : Hid (LI _ _ _ _) := LI.blw I18.out hb
    replace I20 : Hid (LI _ _ _ _) := LI.blw I20.out hb
    replace X23 : Hid (BX _ _ _ _) := BX.blw X23.out hb
    replace X25 : Hid (BX _ _ _ _) := BX.blw X25.out hb
    clear hb
    obtain ⟨p00, p01⟩ := get2 X23.out.box
    obtain ⟨p10, p11⟩ := get2 X25.out.box
    go_wp2_with fail
    clear p00 p01 p10 p11
    refine (sameBook_same b23 b25 R25 _ X23.out.at_ X25.out.at_).mono ?_
    rintro e v8 ⟨rfl, hb⟩
    replace HC : Hid (Blw _ _) := Blw.trans HC.out hb
    replace I18 : Hid (LI _ _ _ _) := LI.blw I18.out hb
    replace I20 : Hid (LI _ _ _ _) := LI.blw I20.out hb
    replace X23 : Hid (BX _ _ _ _) := BX.blw X23.out hb
    replace X25 : Hid (BX _ _ _ _) := BX.blw X25.out hb
    clear hb
    go_wp2
    go_ret
    exact ⟨rfl, HC.out⟩
end Go.Proofs.Ytagjfkkjmgfoiaa
