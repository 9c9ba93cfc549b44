/- The law on TimersOf. -/
import Derived.Test.YtkmkidahaagbpaaITm
import Derived.Test.YtkmkidahaagbpaaLawH
namespace Go.Proofs.Ytkmkidahaagbpaa
open Go.RowKit
set_option linter.unusedSimpArgs false
set_option linter.unusedVariables false
abbrev BT (X : Nat → Prop) (ao : Option Addr) (n : Nat) (l : List Tm) (w : World) : Prop := UndosOwn X w ao n (lf l) (la l)
theorem UndosOwn.st {X : Nat → Prop} {ao : Option Addr} {n : Nat} {f g : Nat → Int} {w : World} (h : UndosOwn X w ao n f g) (hX : ∀ b, X b → b < w.heap.size) : St X (fun w => UndosOwn X w ao n f g) w := ⟨hX, fun Z w' hm hx => h.mod hm hx⟩
set_option maxRecDepth 10000 in
set_option maxHeartbeats 6400000 in
theorem lawTimersP (b : WV) (B : WD) (w : World) (h : WAt (fun x => x < w.heap.size) w b B) (hwf : B.wf) : Calls Try.prog 10 #[b.val B] w fun e w' => e = .returned (.bool true) ∧ Blw w w' := by
  have hb0 : Blw w (w.alloc (.cells #[.int .i64 B.now, .slice b.a1 B.N.n b.c1, .slice b.a2 B.F.n b.c2] 55)) := (Blw.refl _).alloc _
  have HA : Hid (St (fun x => x < w.heap.size + 1) (ArgH w.heap.size w.heap.size b B) (w.alloc (.cells #[.int .i64 B.now, .slice b.a1 B.N.n b.c1, .slice b.a2 B.F.n b.c2] 55))) := ArgH.st ⟨h.blw hb0, box3 w _ _ _ 55⟩ (by omega) (by omega) (by simp)
  clear h
  go_enter Try.func10, Try.ntmps10
  go_wp2_with fail
  refine (szWheel_any b B _ _ HA.out.out.at_).mono ?_
  rintro e w1 ⟨r, rfl, hr, hb1⟩
  replace HA : Hid (St (fun x => x < w.heap.size + 1) (ArgH w.heap.size w.heap.size b B) w1) := HA.out.blw hb1
  replace hb1 := hb0.trans hb1
  clear hb0
  rcases hr with rfl | ⟨q0, q1⟩
  · go_wp2
    go_ret
    exact ⟨rfl, hb1⟩
  have hS : WD.small B := q1
  have HS : Hid (WD.small B) := hS
  obtain ⟨p0, p1, p2⟩ := get3 HA.out.out.box
  clear q1 hS
  go_wp2_with fail
  clear p0 p1 p2
  refine (toWheel_any b B _ _ HS.out HA.out.out.at_).mono ?_
  rintro e w2 ⟨b2, rfl, own2, hb2⟩
  replace HA : Hid (St (fun x => x < w.heap.size + 1) (ArgH w.heap.size w.heap.size b B) w2) := HA.out.blw hb2
  replace hb2 := hb1.trans hb2
  clear hb1
  go_wp2_with fail
  refine (specTimers_any b2 B _ _ own2.at HS.out).mono ?_
  rintro e w3 ⟨ao3, c3, m3, l, r3, rfl, hm3, ho3, hl3, own3, hb3⟩
  have HO3 : Hid (timersOut B l r3) := ho3
  have HSR : Hid (m3 = l.length ∧ l.length ≤ 20) := ⟨hm3, hl3⟩
  rw [← hm3] at own3
  have h21 := HA.out.1 w.heap.size (by omega)
  have h23 := hb3.size
  have HP3 : Hid (St (fun x => x < w3.heap.size) (BT (fun x => x < w3.heap.size) ao3 m3 l) w3) := UndosOwn.st (own3.mono (fun x hx => hx.2)) (fun x hx => hx)
  replace HA : Hid (St (fun x => x < w.heap.size + 1) (ArgH w.heap.size w.heap.size b B) w3) := HA.out.blw hb3
  have HZ3 : Hid (w.heap.size + 1 ≤ w3.heap.size) := by show _ ≤ _; omega
  replace hb3 : Blw w w3 := hb2.trans hb3
  clear hb2 own2 own3 ho3 hl3 hm3 h21 h23
  obtain ⟨p0, p1, p2⟩ := get3 HA.out.out.box
  go_wp2_with fail
  clear p0 p1 p2
  refine (toWheel_any b B _ _ HS.out HA.out.out.at_).mono ?_
  rintro e w4 ⟨b4, rfl, own4, hb4⟩
  have hA4 : Blw w4 (w4.alloc (.cells #[.int .i64 B.now, .slice b4.a1 B.N.n b4.c1, .slice b4.a2 B.F.n b4.c2] 25)) := (Blw.refl _).alloc _
  have z34 := hb4.size
  have HP4 : Hid (St (fun x => w3.heap.size ≤ x ∧ x < w4.heap.size + 1) (BBH (fun x => w3.heap.size ≤ x ∧ x < w4.heap.size + 1) w4.heap.size b4 B B) (w4.alloc (.cells #[.int .i64 B.now, .slice b4.a1 B.N.n b4.c1, .slice b4.a2 B.F.n b4.c2] 25))) := BBH.st ⟨(own4.blw hA4).mono (fun x hx => ⟨⟨by omega, by omega⟩, by omega⟩), box3 w4 _ _ _ 25⟩ ⟨z34, by omega⟩ (fun x hx => by simp; omega)
  replace HA : Hid (St (fun x => x < w.heap.size + 1) (ArgH w.heap.size w.heap.size b B) (w4.alloc (.cells #[.int .i64 B.now, .slice b4.a1 B.N.n b4.c1, .slice b4.a2 B.F.n b4.c2] 25))) := HA.out.blw (hb4.trans hA4)
  replace HP3 : Hid (St (fun x => x < w3.heap.size) (BT (fun x => x < w3.heap.size) ao3 m3 l) (w4.alloc (.cells #[.int .i64 B.now, .slice b4.a1 B.N.n b4.c1, .slice b4.a2 B.F.n b4.c2] 25))) := HP3.out.blw (hb4.trans hA4)
  replace hb4 : Blw w (w4.alloc (.cells #[.int .i64 B.now, .slice b4.a1 B.N.n b4.c1, .slice b4.a2 B.F.n b4.c2] 25)) := (hb3.trans hb4).trans hA4
  have HZ4 : Hid (w3.heap.size ≤ w4.heap.size) := z34
  clear hb3 own4 hA4 z34
  go_wp2_with fail
  refine (implTimers_any b4 B _ _ HP4.out.out.own.at (fun x hx => by simp; omega) hwf).mono ?_
  rintro e w5 ⟨ao5, c5, m5, l5, r5, rfl, hm5, ho5, hl5, own5, hb5⟩
  obtain ⟨el, er⟩ := timersOut_same ho5 HO3.out
  subst el er
  have em : m5 = m3 := hm5.trans HSR.out.1.symm
  subst em
  rw [← hm5] at own5
  have z45 := hb5.size
  rw [World.size_alloc] at z45
  have HL : Hid (LawF w w5 (w.heap.size + 1) w3.heap.size (w4.heap.size + 1) w5.heap.size (ArgH w.heap.size w.heap.size b B) (BT (fun x => x < w3.heap.size) ao3 m5 l5) (BBH (fun x => w3.heap.size ≤ x ∧ x < w4.heap.size + 1) w4.heap.size b4 B B) (BT (fun x => w4.heap.size + 1 ≤ x ∧ x < w5.heap.size) ao5 m5 l5)) := by
    have h3 := HZ3.out
    have h4 := HZ4.out
    exact ⟨hb4.trans hb5, HA.out.blw hb5, HP3.out.blw hb5, HP4.out.blw hb5, UndosOwn.st (own5.mono (fun x hx => ⟨by have := hx.1; simp at this; omega, hx.2⟩)) (fun x hx => hx.2), by omega⟩
  have HZ5 : Hid (w4.heap.size + 1 ≤ w5.heap.size) := z45
  clear HA HP3 HP4 hb4 hb5 own5 z45 ho5 hl5 hm5 HZ3
  have hne : (r5 != r5) = false := by simp
  go_wp2_with fail
  refine (eqUndoS_same _ _ _ _ m5 (lf l5) (la l5) _ HL.out.p5.out.at HL.out.p3.out.at).mono ?_
  rintro e w6 ⟨rfl, hb6⟩
  replace HL : Hid (LawF w w6 _ _ _ _ _ _ _ _) := HL.out.blw hb6
  clear hb6
  generalize w3.heap.size = z3 at *
  generalize w4.heap.size = z4 at *
  generalize w5.heap.size = z5 at *
  clear w1 w2 w3 w4 w5
  go_upto_region 10 with fail
  go_cut [45] from 41 to 45 (fun c wx => c = .bool false ∧ Blw w6 wx)
  case first =>
    have A0 : ∀ w', Blw w6 w' → w'.cell? ⟨w.heap.size, 0, none⟩ = some (.int .i64 B.now) := fun w' hh => (get3 (HL.out.blw hh).p1.out.box).1
    have A1 : ∀ w', Blw w6 w' → w'.cell? ⟨w.heap.size, 1, none⟩ = some (.slice b.a1 B.N.n b.c1) := fun w' hh => (get3 (HL.out.blw hh).p1.out.box).2.1
    have A2 : ∀ w', Blw w6 w' → w'.cell? ⟨w.heap.size, 2, none⟩ = some (.slice b.a2 B.F.n b.c2) := fun w' hh => (get3 (HL.out.blw hh).p1.out.box).2.2
    have B0 : ∀ w', Blw w6 w' → w'.cell? ⟨z4, 0, none⟩ = some (.int .i64 B.now) := fun w' hh => (get3 (HL.out.blw hh).p4.out.box).1
    have B1 : ∀ w', Blw w6 w' → w'.cell? ⟨z4, 1, none⟩ = some (.slice b4.a1 B.N.n b4.c1) := fun w' hh => (get3 (HL.out.blw hh).p4.out.box).2.1
    have B2 : ∀ w', Blw w6 w' → w'.cell? ⟨z4, 2, none⟩ = some (.slice b4.a2 B.F.n b4.c2) := fun w' hh => (get3 (HL.out.blw hh).p4.out.box).2.2
    go_region_held3 (fun w' => Blw w6 w') ((first | exact (Blw.refl _).drew | assumption | exact Blw.trans (by assumption) (by assumption))) (first
      | (go_at_call 39; refine (toWheel_any b B _ _ HS.out (HL.out.blw (by assumption)).p1.out.at_).mono ?_; rintro e w7 ⟨b6, rfl, o6, hb7⟩)
      | (go_at_call 34; refine (eqWheel_same b4 b6 B _ (HL.out.blw (by assumption)).p4.out.own.at o6.at).mono ?_; rintro e w8 ⟨rfl, hb8⟩))
    all_goals go_wp2_with fail
    all_goals go_meet
    all_goals exact ⟨rfl, by assumption⟩
  case rest =>
    obtain ⟨rfl, hb7⟩ := hcut
    replace HL : Hid (LawF w wc _ _ _ _ _ _ _ _) := HL.out.blw hb7
    clear hb7 w6
    obtain ⟨p0, p1, p2⟩ := get3 HL.out.p4.out.box
    go_wp2_with fail
    clear p0 p1 p2
    refine (markWheel_any b4 B _ 1 _ (by omega) (by omega) HS.out (fun x hx => by have := HL.out.o; omega) HL.out.p4.out.own).mono ?_
    rintro e w8 ⟨rfl, own4, hm8⟩
    have bx4 := HL.out.p4.out.box.mod hm8 (fun hh => hh.2 rfl)
    have h8 := hm8.size
    replace HL : Hid (LawF w w8 _ _ _ _ _ _ _ _) := HL.out.mark4 (P4' := BBH (fun x => z3 ≤ x ∧ x < z4 + 1) z4 b4 B (B.marked 1)) hm8 (fun x hx => hx.1) (BBH.st ⟨own4, bx4⟩ ⟨HZ4.out, by omega⟩ (fun x hx => by have := HL.out.o; omega))
    clear own4 hm8 bx4 h8
    have htB : B.total ≤ 2097152 := by have h5 : _ ≤ _ := HS.out; unfold WD.total; omega
    have k1 : ¬ (1 + (B.total : Int) < 0) := by omega
    go_wp2_with fail
    refine (eqUndoS_same _ _ _ _ m5 (lf l5) (la l5) _ HL.out.p5.out.at HL.out.p3.out.at).mono ?_
    rintro e w9 ⟨rfl, hb6⟩
    replace HL : Hid (LawF w w9 _ _ _ _ _ _ _ _) := HL.out.blw hb6
    clear hb6
    clear k1 w8 wc
    have hmb : m5 ≤ 20 := by have h5 := HSR.out; omega
    go_wp2_with fail
    refine (markUndoS_any _ _ m5 (lf l5) (la l5) _ 1 _ (by omega) (by omega) HL.out.p5.out).mono ?_
    rintro e w10 ⟨rfl, i6, hm10⟩
    have h10 := hm10.size
    replace HL : Hid (LawF w w10 _ _ _ _ _ _ _ _) := HL.out.mark5 (P5' := fun w' => UndosOwn (fun x => z4 + 1 ≤ x ∧ x < z5) w' ao5 m5 (mkc 1) (mkw 1)) hm10 (fun x hx => hx) (UndosOwn.st i6 (fun x hx => by have := HL.out.o; omega))
    clear i6 hm10 h10
    have k3 : ¬ (1 + 2 * (m5 : Int) < 0) := by omega
    have k2 : ((1 + 2 * (m5 : Int)) != (1 + 2 * (m5 : Int))) = false := by simp
    go_wp2_with fail
    refine (heldUndoS_any _ _ m5 _ 1 _ (by omega) (by omega) HL.out.p5.out).mono ?_
    rintro e w12 ⟨rfl, hb11⟩
    replace HL : Hid (LawF w w12 _ _ _ _ _ _ _ _) := HL.out.blw hb11
    clear hb11
    obtain ⟨p0, p1, p2⟩ := get3 HL.out.p1.out.box
    go_wp2_with fail
    clear p0 p1 p2
    refine (toWheel_any b B _ _ HS.out HL.out.p1.out.at_).mono ?_
    rintro e w14 ⟨b7, rfl, own7, hb14⟩
    replace HL : Hid (LawF w w14 _ _ _ _ _ _ _ _) := HL.out.blw hb14
    clear hb14
    go_wp2_with fail
    refine (implTimers_any b7 B _ _ own7.at (fun x hx => hx.2) hwf).mono ?_
    rintro e w15 ⟨ao8, c8, m8, l8, r8, rfl, hm8, ho8, hl8, own8, hb15⟩
    obtain ⟨el, er⟩ := timersOut_same ho8 HO3.out
    subst el er
    have em : m8 = m5 := hm8.trans HSR.out.1.symm
    subst em
    rw [← hm8] at own8
    replace HL : Hid (LawF w w15 _ _ _ _ _ _ _ _) := HL.out.blw hb15
    have HO8 : Hid (UndosOwn _ w15 ao8 m8 (lf l8) (la l8)) := own8
    clear own7 hb15 ho8 hl8 hm8 own8
    go_wp2_with fail
    refine (eqUndoS_same _ _ _ _ m8 (lf l8) (la l8) _ HO8.out.at HL.out.p3.out.at).mono ?_
    rintro e w17 ⟨rfl, hb6⟩
    replace HL : Hid (LawF w w17 _ _ _ _ _ _ _ _) := HL.out.blw hb6
    clear hb6
    clear HO8
    go_wp2_with fail
    refine (heldUndoS_any _ _ m8 _ 1 _ (by omega) (by omega) HL.out.p5.out).mono ?_
    rintro e w18 ⟨rfl, hb11⟩
    replace HL : Hid (LawF w w18 _ _ _ _ _ _ _ _) := HL.out.blw hb11
    clear hb11
    go_wp2
    go_ret
    exact ⟨rfl, HL.out.hB⟩
end Go.Proofs.Ytkmkidahaagbpaa
