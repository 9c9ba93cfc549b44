/- FnNest: the walk. -/
import Derived.Test.YtjplodenflkghaaJoin11
namespace Go.Proofs.Ytjplodenflkghaa
open Go.RowKit
set_option linter.unusedSimpArgs false
set_option linter.unusedVariables false
/-- A nest and its box. -/
structure NX (W : World) (z : Nat) (v : NV) (D : ND) : Prop where
  at_ : NAt (fun x => x < W.heap.size) W v D
  box : Row W z 4 (nb v D)
theorem NX.blw {W W' : World} {z : Nat} {v : NV} {D : ND} (h : NX W z v D) (hb : Blw W W') : NX W' z v D :=
  ⟨(h.at_.blw hb).mono (fun x hx => Nat.lt_of_lt_of_le hx hb.size), h.box.blw hb⟩
set_option maxRecDepth 10000 in
set_option maxHeartbeats 1600000 in
theorem implGoodT_any (b : BV) (B : BD) (Y : Nat → Prop) (w : World) (h : BookAt Y w b B) (hY : ∀ x, Y x → x < w.heap.size) :
    Calls Try.prog 42 #[b.val B] w fun e w' => ∃ r, e = .returned (.bool r) ∧ (r = true ↔ B.Good) ∧ Blw w w' := by
  have hb0 : Blw w (w.alloc (.cells #[.slice b.a1 B.n b.c1, .slice b.a2 B.D.n b.c2] 29)) := (Blw.refl _).alloc _
  have HA : Hid (BookAt Y (w.alloc (.cells #[.slice b.a1 B.n b.c1, .slice b.a2 B.D.n b.c2] 29)) b B) := h.blw hb0
  have r1 := box2 w (.slice b.a1 B.n b.c1) (.slice b.a2 B.D.n b.c2) 29
  have HB : Hid (Blw w (w.alloc (.cells #[.slice b.a1 B.n b.c1, .slice b.a2 B.D.n b.c2] 29))) := hb0
  have HYY : Hid (∀ x, Y x → x < (w.alloc (.cells #[.slice b.a1 B.n b.c1, .slice b.a2 B.D.n b.c2] 29)).heap.size) := fun x hx => by have := hY x hx; simp; omega
  clear h hb0 hY
  go_enter Try.func42, Try.ntmps42
  obtain ⟨p0, p1⟩ := get2 r1
  clear r1
  go_wp2_with fail
  clear p0 p1
  generalize (w.alloc (.cells #[.slice b.a1 B.n b.c1, .slice b.a2 B.D.n b.c2] 29)) = w0 at *
  refine (hold_any b B Y _ HA.out HYY.out).mono ?_
  rintro e w1 ⟨h1, hb1⟩
  rcases h1 with ⟨z, hg, rfl, hrow, hlo⟩ | ⟨hg, rfl⟩
  case inr =>
    have FIN : Hid (Blw w (w1.alloc (.cells zero5 129))) := (HB.out.trans hb1).alloc _
    have HG : Hid (¬ B.Good) := hg
    clear hb1 hg HA HYY HB
    go_wp2
    exact bodyPost_ret (v := .bool false) (by simp [results, Try.results42, go_sem]) rfl ⟨_, rfl, iff_f HG.out, FIN.out⟩
  have FIN : Hid (Blw w (w1.alloc (.cells (held5 B.c z B.D.n) 129))) := (HB.out.trans hb1).alloc _
  have HG : Hid B.Good := hg
  clear hb1 hg HA HYY HB hrow hlo
  go_wp2
  exact bodyPost_ret (v := .bool true) (by simp [results, Try.results42, go_sem]) rfl ⟨_, rfl, iff_t HG.out, FIN.out⟩
/-- A walk in the flat table tells what the walk in both tells. -/
theorem nest_fact {D : ND} {F : BD} (g : D.Good) (hF : Fl D.G D.H 16 F) {a : Nat} {k p c q y : Int} {r : Bool} (ha : a < 16) (hk : mayOK k) (h : nwOut D.G D.H a k p c) (h' : wtOut F (a : Int) k q y r) : (r = true → c = 0 ∧ p = q) ∧ (r = false → ¬ c = 0) := by
  have o := hF.ok g (by omega)
  obtain ⟨e1, e2⟩ := o.leaf a ha
  rw [if_pos ha] at e1 e2
  have l1 := leafs g.g ha
  have l2 := leafs g.h (a := (gP D.G a).toNat) (by omega)
  have hh := and_has l2.2.1 l1.2.1 hk
  have hy : hasMay (gM F a) k ↔ hasMay (gM D.H (gP D.G a).toNat) k ∧ hasMay (gM D.G a) k := by rw [e1]; exact hh
  rcases h' with ⟨n, _⟩ | ⟨_, _, h'⟩
  · exact absurd ⟨o.good, ⟨by omega, by omega⟩, hk⟩ n
  · rw [Int.toNat_natCast] at h'
    rcases h' with ⟨hm, eq, er⟩ | ⟨hm, eq, er⟩
    · subst er
      refine ⟨fun _ => ?_, fun q => by cases q⟩
      have hb := hy.1 hm
      rcases h with ⟨n1, _, _⟩ | ⟨_, n1, _, _⟩ | ⟨_, _, ep, ec⟩
      · exact absurd hb.2 n1
      · exact absurd hb.1 n1
      · refine ⟨ec, ?_⟩
        rw [ep, eq]
        have hne : ¬ fY D.G D.H a = 0 := fun e0 => by
          have h0 : gM F a = 0 := e1.trans e0
          rw [show lfP F.c F.D.m a = 0 from h0] at hm
          exact has_zero hk hm
        show _ = gP F a
        rw [e2, if_neg hne]
    · subst er
      refine ⟨(fun q => by cases q), fun _ ec => ?_⟩
      rcases h with ⟨_, _, e0⟩ | ⟨_, _, _, e0⟩ | ⟨m1, m2, _, _⟩
      · omega
      · omega
      · exact hm (hy.2 ⟨m2, m1⟩)
set_option maxRecDepth 10000 in
set_option maxHeartbeats 12800000 in
theorem lawNestD (ao1 : Option Addr) (n1 c1 : Nat) (f1 : Nat → Int) (ao2 : Option Addr) (n2 c2 : Nat) (f2 : Nat → Int) (w : World) (h1 : BytesAt (fun b => b < w.heap.size) w ao1 n1 f1) (h2 : BytesAt (fun b => b < w.heap.size) w ao2 n2 f2) :
    Calls Try.prog 5 #[.slice ao1 n1 c1, .slice ao2 n2 c2] w fun e w' => e = .returned (.bool true) ∧ Blw w w' := by
  have H1 : Hid (BY w ao1 n1 f1) := h1
  have H2 : Hid (BY w ao2 n2 f2) := h2
  clear h1 h2
  go_enter Try.func5, Try.ntmps5
  by_cases hd : wrap64 ((n1 : Int) + n2) > 1048576
  · have d1 : decide (wrap64 ((n1 : Int) + n2) > 1048576) = true := by simpa using hd
    clear hd
    go_wp2
    go_ret
    exact ⟨rfl, Blw.refl _⟩
  have d1 : decide (wrap64 ((n1 : Int) + n2) > 1048576) = false := by simpa using hd
  clear hd
  have HB : Hid (Blw w w) := Blw.refl w
  go_wp2_with fail
  clear d1
  refine (drawFN_any ao1 n1 c1 f1 _ H1.out).mono ?_
  rintro e w1 ⟨v5, D5, rfl, hD, ⟨hat, hb⟩⟩
  have NX5 : Hid (NDr D5) := hD
  clear hD
  have hA : Blw w1 (w1.alloc (.cells #[.slice v5.g.a1 D5.G.n v5.g.c1, .slice v5.g.a2 D5.G.D.n v5.g.c2, .slice v5.h.a1 D5.H.n v5.h.c1, .slice v5.h.a2 D5.H.D.n v5.h.c2] 60)) := (Blw.refl _).alloc _
  replace hb := hb.trans hA
  replace HB : Hid (Blw _ _) := Blw.trans HB.out hb
  replace H1 : Hid (BY _ _ _ _) := BY.blw H1.out hb
  replace H2 : Hid (BY _ _ _ _) := BY.blw H2.out hb
  clear hb
  have X5 : Hid (NX (w1.alloc (.cells #[.slice v5.g.a1 D5.G.n v5.g.c1, .slice v5.g.a2 D5.G.D.n v5.g.c2, .slice v5.h.a1 D5.H.n v5.h.c1, .slice v5.h.a2 D5.H.D.n v5.h.c2] 60)) w1.heap.size v5 D5) := ⟨((hat).blw hA).mono (fun x hx => by simp; omega), box4 w1 _ _ _ _ 60⟩
  clear hA
  clear hat
  clear H1
  obtain ⟨p0, p1, p2, p3⟩ := get4 X5.out.box
  go_wp2_with fail
  clear p0 p1 p2 p3
  refine (implFlat_any v5 D5 _ _ X5.out.at_ (fun x hx => hx)).mono ?_
  rintro e w2 ⟨b6, R6, r6, rfl, ho, hsz, own, hb⟩
  have O6 : Hid (foOut D5 R6 r6) := ho
  clear ho hsz
  have hA : Blw w2 (w2.alloc (.cells #[.slice b6.a1 R6.n b6.c1, .slice b6.a2 R6.D.n b6.c2] 29)) := (Blw.refl _).alloc _
  replace hb := hb.trans hA
  replace HB : Hid (Blw _ _) := Blw.trans HB.out hb
  replace H2 : Hid (BY _ _ _ _) := BY.blw H2.out hb
  replace X5 : Hid (NX _ _ _ _) := NX.blw X5.out hb
  clear hb
  have X6 : Hid (BX (w2.alloc (.cells #[.slice b6.a1 R6.n b6.c1, .slice b6.a2 R6.D.n b6.c2] 29)) w2.heap.size b6 R6) := ⟨((own.at).blw hA).mono (fun x hx => by simp; omega), box2 w2 _ _ 29⟩
  clear hA
  clear own
  obtain ⟨p0, p1, p2, p3⟩ := get4 X5.out.box
  go_wp2_with fail
  clear p0 p1 p2 p3
  refine (specFlat_any v5 D5 _ _ NX5.out.n.1 NX5.out.n.2 (fun x hx => hx) X5.out.at_).mono ?_
  rintro e w3 ⟨b8, R8, r8, rfl, ho, hsz, own, hb⟩
  obtain ⟨eR, er⟩ := foOut_same ho O6.out
  subst eR er
  clear ho hsz
  have hA : Blw w3 (w3.alloc (.cells #[.slice b8.a1 R8.n b8.c1, .slice b8.a2 R8.D.n b8.c2] 29)) := (Blw.refl _).alloc _
  replace hb := hb.trans hA
  replace HB : Hid (Blw _ _) := Blw.trans HB.out hb
  replace H2 : Hid (BY _ _ _ _) := BY.blw H2.out hb
  replace X5 : Hid (NX _ _ _ _) := NX.blw X5.out hb
  replace X6 : Hid (BX _ _ _ _) := BX.blw X6.out hb
  clear hb
  have X8 : Hid (BX (w3.alloc (.cells #[.slice b8.a1 R8.n b8.c1, .slice b8.a2 R8.D.n b8.c2] 29)) w3.heap.size b8 R8) := ⟨((own.at).blw hA).mono (fun x hx => by simp; omega), box2 w3 _ _ 29⟩
  clear hA
  clear own
  have hne : (r8 != r8) = false := by simp
  obtain ⟨p0, p1⟩ := get2 X6.out.box
  obtain ⟨q0, q1⟩ := get2 X8.out.box
  go_wp2_with fail
  clear p0 p1 q0 q1
  refine (sameTable_same b6 b8 R8 _ X6.out.at_ X8.out.at_).mono ?_
  rintro e w4 ⟨rfl, hb⟩
  replace HB : Hid (Blw _ _) := Blw.trans HB.out hb
  replace H2 : Hid (BY _ _ _ _) := BY.blw H2.out hb
  replace X5 : Hid (NX _ _ _ _) := NX.blw X5.out hb
  replace X6 : Hid (BX _ _ _ _) := BX.blw X6.out hb
  replace X8 : Hid (BX _ _ _ _) := BX.blw X8.out hb
  clear hb
  clear X8
  obtain ⟨p0, p1, p2, p3⟩ := get4 X5.out.box
  go_wp2_with fail
  clear p0 p1 p2 p3
  clear hne
  refine (implGoodN_any v5 D5 _ _ X5.out.at_ (fun x hx => hx)).mono ?_
  rintro e w5 ⟨r9, rfl, hg, hb⟩
  have er : r9 = r8 := Bool.eq_iff_iff.2 (hg.trans ⟨fun g => by rcases O6.out with ⟨_, _, e⟩ | ⟨n, _, _⟩; exact e; exact absurd g n, fun e => by rcases O6.out with ⟨g, _, _⟩ | ⟨_, _, e2⟩; exact g; rw [e2] at e; cases e⟩)
  subst er
  clear hg
  have hne : (r9 != r9) = false := by simp
  replace HB : Hid (Blw _ _) := Blw.trans HB.out hb
  replace H2 : Hid (BY _ _ _ _) := BY.blw H2.out hb
  replace X5 : Hid (NX _ _ _ _) := NX.blw X5.out hb
  replace X6 : Hid (BX _ _ _ _) := BX.blw X6.out hb
  clear hb
  go_upto_if 65 with fail
  clear hne
  go_cut [10, 11, 12, 13, 14, 15, 16, 17] from 65 to 108 (fun v10 v11 v12 v13 v14 v15 v16 v17 wx => Blw w5 wx)
  case first =>
    cases r9
    · go_wp2_with fail
      go_meet
      exact Blw.refl _
    have OG : Hid (D5.Good ∧ Fl D5.G D5.H 16 R8) := by
      rcases O6.out with ⟨g, hF, _⟩ | ⟨_, _, e⟩
      · exact ⟨g, hF⟩
      · cases e
    clear HB
    obtain ⟨p0, p1⟩ := get2 X6.out.box
    go_wp2_with fail
    clear p0 p1
    refine (implGoodT_any b6 R8 _ _ X6.out.at_ (fun x hx => hx)).mono ?_
    rintro e w6 ⟨r, rfl, hg, hb⟩
    obtain rfl : r = true := hg.2 (OG.out.2.ok OG.out.1 (by omega)).good
    have HC : Hid (Blw w5 w6) := hb
    replace X5 : Hid (NX _ _ _ _) := NX.blw X5.out hb
    replace X6 : Hid (BX _ _ _ _) := BX.blw X6.out hb
    clear hb hg
    go_wp2_with fail
    go_loopw [10] (fun i wr => ∃ a : Nat, a ≤ 16 ∧ i = .int .i64 a ∧ Blw w6 wr) (fun i _ => 16 - (intOf i).toNat)
    case atStart => exact ⟨0, by omega, rfl, Blw.refl _⟩
    case round =>
      obtain ⟨a, ha, rfl, hb⟩ := hrel
      have HA : Hid (Blw w6 wr) := hb
      clear hb
      by_cases hlt : a < 16
      case neg =>
        obtain rfl : a = 16 := by omega
        have FIN : Hid (Blw w5 wr) := HC.out.trans HA.out
        clear hlt HA HC X5 X6
        go_wp2_with fail
        go_meet
        exact FIN.out
      have hlt' : (a : Int) < 16 := by omega
      go_wp2_with fail
      go_loopw [11] (fun i wq => ∃ t : Nat, (1 ≤ t ∧ t ≤ 4) ∧ i = .int .i64 t ∧ Blw w6 wq) (fun i _ => 4 - (intOf i).toNat)
      case atStart => exact ⟨1, by omega, rfl, HA.out⟩
      case round =>
        clear HA
        obtain ⟨t, ht, rfl, hb⟩ := hrel
        have HA : Hid (Blw w6 wr) := hb
        clear hb
        by_cases h3 : t ≤ 3
        case neg =>
          obtain rfl : t = 4 := by omega
          clear h3
          go_wp2
          go_roundw
          case rel => exact ⟨a + 1, by omega, by go_num, HA.out⟩
          case measure => simp [intOf]; omega
        have h3' : (t : Int) ≤ 3 := by omega
        obtain ⟨p0, p1, p2, p3⟩ := get4 (X5.out.blw HA.out).box
        go_wp2_with fail
        clear p0 p1 p2 p3
        refine (implWalkN_any v5 D5 (a : Int) (t : Int) _ _ (X5.out.blw HA.out).at_ (fun x hx => hx)).mono ?_
        rintro e w7 ⟨p, c, one, rfl, ho, hb⟩
        replace HA : Hid (Blw w6 w7) := HA.out.trans hb
        have HNW : Hid (nwOut D5.G D5.H a (t : Int) p c ∧ one = true) := by
          rcases ho with ⟨n, _⟩ | ⟨_, h, e1⟩
          · exact absurd ⟨OG.out.1, ⟨by omega, by omega⟩, ⟨by omega, by omega⟩⟩ n
          · rw [Int.toNat_natCast] at h; exact ⟨h, e1⟩
        obtain rfl := HNW.out.2
        clear hb ho
        obtain ⟨p0, p1⟩ := get2 (X6.out.blw HA.out).box
        go_wp2_with fail
        clear p0 p1
        refine (implWalk_any b6 R8 (a : Int) (t : Int) _ _ (X6.out.blw HA.out).at_ (fun x hx => hx)).mono ?_
        rintro e w8 ⟨q, y, r, rfl, ho, hb⟩
        replace HA : Hid (Blw w6 w8) := HA.out.trans hb
        have HNF : Hid ((r = true → c = 0 ∧ p = q) ∧ (r = false → ¬ c = 0)) := nest_fact OG.out.1 OG.out.2 hlt ⟨by omega, by omega⟩ HNW.out.1 ho
        clear hb ho HNW
        cases r
        · have hc : ¬ c = 0 := HNF.out.2 rfl
          have e1 : (c == 0) = false := by simp [hc]
          clear HNF hc
          go_wp2
          go_roundw
          case rel => exact ⟨t + 1, by omega, by go_num, HA.out⟩
          case measure => simp [intOf]; omega
        · obtain ⟨rfl, rfl⟩ := HNF.out.1 rfl
          have e2 : (p != p) = false := by simp
          clear HNF
          go_wp2
          go_roundw
          case rel => exact ⟨t + 1, by omega, by go_num, HA.out⟩
          case measure => simp [intOf]; omega
  case rest =>
    have hb := hcut
    clear hcut
    replace HB : Hid (Blw _ _) := Blw.trans HB.out hb
    replace H2 : Hid (BY _ _ _ _) := BY.blw H2.out hb
    replace X5 : Hid (NX _ _ _ _) := NX.blw X5.out hb
    replace X6 : Hid (BX _ _ _ _) := BX.blw X6.out hb
    clear hb
    clear X5 X6
    clear O6 NX5
    go_wp2_with fail
    refine (drawWN_any ao2 n2 c2 f2 _ H2.out).mono ?_
    rintro e w6 ⟨v9, D9, a9, k9, rfl, hD, ⟨hat, hb⟩⟩
    have NX9 : Hid (NDr D9) := hD
    clear hD
    have hA : Blw w6 (w6.alloc (.cells #[.slice v9.g.a1 D9.G.n v9.g.c1, .slice v9.g.a2 D9.G.D.n v9.g.c2, .slice v9.h.a1 D9.H.n v9.h.c1, .slice v9.h.a2 D9.H.D.n v9.h.c2] 60)) := (Blw.refl _).alloc _
    replace hb := hb.trans hA
    replace HB : Hid (Blw _ _) := Blw.trans HB.out hb
    replace H2 : Hid (BY _ _ _ _) := BY.blw H2.out hb
    clear hb
    have X9 : Hid (NX (w6.alloc (.cells #[.slice v9.g.a1 D9.G.n v9.g.c1, .slice v9.g.a2 D9.G.D.n v9.g.c2, .slice v9.h.a1 D9.H.n v9.h.c1, .slice v9.h.a2 D9.H.D.n v9.h.c2] 60)) w6.heap.size v9 D9) := ⟨((hat).blw hA).mono (fun x hx => by simp; omega), box4 w6 _ _ _ _ 60⟩
    clear hA
    clear hat
    obtain ⟨p0, p1, p2, p3⟩ := get4 X9.out.box
    go_wp2_with fail
    clear p0 p1 p2 p3
    refine (implWalkN_any v9 D9 a9 k9 _ _ X9.out.at_ (fun x hx => hx)).mono ?_
    rintro e w7 ⟨p, c, r1, rfl, ho, hb⟩
    have O1 : Hid (wnOut D9 a9 k9 p c r1) := ho
    clear ho
    replace HB : Hid (Blw _ _) := Blw.trans HB.out hb
    replace H2 : Hid (BY _ _ _ _) := BY.blw H2.out hb
    replace X9 : Hid (NX _ _ _ _) := NX.blw X9.out hb
    clear hb
    obtain ⟨p0, p1, p2, p3⟩ := get4 X9.out.box
    go_wp2_with fail
    clear p0 p1 p2 p3
    refine (specWalkN_any v9 D9 a9 k9 _ _ NX9.out.n.1 NX9.out.n.2 X9.out.at_).mono ?_
    rintro e w8 ⟨p', c', r2, rfl, ho, hb⟩
    obtain ⟨e1, e2, e3⟩ := wnOut_same ho O1.out
    subst e1 e2 e3
    clear ho O1
    replace HB : Hid (Blw _ _) := Blw.trans HB.out hb
    replace H2 : Hid (BY _ _ _ _) := BY.blw H2.out hb
    replace X9 : Hid (NX _ _ _ _) := NX.blw X9.out hb
    clear hb
    clear X9
    clear NX9
    go_wp2_with fail
    refine (drawRN_any ao2 n2 c2 f2 _ H2.out).mono ?_
    rintro e w9 ⟨v10, D10, rfl, hD, ⟨hat, hb⟩⟩
    have NX10 : Hid (NDr D10) := hD
    clear hD
    have hA : Blw w9 (w9.alloc (.cells #[.slice v10.g.a1 D10.G.n v10.g.c1, .slice v10.g.a2 D10.G.D.n v10.g.c2, .slice v10.h.a1 D10.H.n v10.h.c1, .slice v10.h.a2 D10.H.D.n v10.h.c2] 60)) := (Blw.refl _).alloc _
    replace hb := hb.trans hA
    replace HB : Hid (Blw _ _) := Blw.trans HB.out hb
    replace H2 : Hid (BY _ _ _ _) := BY.blw H2.out hb
    clear hb
    have X10 : Hid (NX (w9.alloc (.cells #[.slice v10.g.a1 D10.G.n v10.g.c1, .slice v10.g.a2 D10.G.D.n v10.g.c2, .slice v10.h.a1 D10.H.n v10.h.c1, .slice v10.h.a2 D10.H.D.n v10.h.c2] 60)) w9.heap.size v10 D10) := ⟨((hat).blw hA).mono (fun x hx => by simp; omega), box4 w9 _ _ _ _ 60⟩
    clear hA
    clear hat
    obtain ⟨p0, p1, p2, p3⟩ := get4 X10.out.box
    go_wp2_with fail
    clear p0 p1 p2 p3
    refine (implReached_any v10 D10 _ _ X10.out.at_ (fun x hx => hx)).mono ?_
    rintro e w10 ⟨a1, m1, cc1, g1, s1, rfl, ho, hsz, own, hb⟩
    have O1 : Hid (rbOut D10.G D10.H m1 g1 s1) := ho
    replace HB : Hid (Blw _ _) := Blw.trans HB.out hb
    replace H2 : Hid (BY _ _ _ _) := BY.blw H2.out hb
    replace X10 : Hid (NX _ _ _ _) := NX.blw X10.out hb
    clear hb
    have L1 : Hid (LI w10 a1 m1 g1) := own.at.mono (fun x hx => hx.2)
    clear own ho hsz
    obtain ⟨p0, p1, p2, p3⟩ := get4 X10.out.box
    go_wp2_with fail
    clear p0 p1 p2 p3
    refine (specReached_any v10 D10 _ _ NX10.out.n.1 NX10.out.n.2 X10.out.at_).mono ?_
    rintro e w11 ⟨a2, m2, cc2, g2, s2, rfl, ho, hsz, own, hb⟩
    obtain ⟨⟨en, eg⟩, es⟩ := rbOut_same ho O1.out
    subst en es
    have HEG : Hid (∀ i, i < m2 → g2 i = g1 i) := eg
    replace HB : Hid (Blw _ _) := Blw.trans HB.out hb
    replace H2 : Hid (BY _ _ _ _) := BY.blw H2.out hb
    replace X10 : Hid (NX _ _ _ _) := NX.blw X10.out hb
    replace L1 : Hid (LI _ _ _ _) := LI.blw L1.out hb
    clear hb
    have L2 : Hid (LI w11 a2 m2 g2) := own.at.mono (fun x hx => hx.2)
    clear own ho hsz O1 eg
    clear X10 H2
    clear NX10
    have q1 : (r2 == r2) = true := by simp
    have q2 : (p' == p') = true := by simp
    have q3 : (c' == c') = true := by simp
    have q4 : (s2 == s2) = true := by simp
    go_wp2_with fail
    refine (same39 a1 a2 cc1 cc2 m2 g1 g2 _ L1.out L2.out (fun i hi => (HEG.out i hi).symm)).mono ?_
    rintro e w12 ⟨rfl, hb⟩
    have FIN : Hid (Blw w w12) := HB.out.trans hb
    clear hb L1 L2 HB
    go_wp2
    go_ret
    exact ⟨rfl, FIN.out⟩
end Go.Proofs.Ytjplodenflkghaa
