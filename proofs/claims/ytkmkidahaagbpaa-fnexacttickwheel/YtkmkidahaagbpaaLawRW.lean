/- The law on RunWheel. -/
import Derived.Test.YtkmkidahaagbpaaTk1
import Derived.Test.YtkmkidahaagbpaaLawH
namespace Go.Proofs.Ytkmkidahaagbpaa
open Go.RowKit
set_option linter.unusedSimpArgs false
set_option linter.unusedVariables false
structure BI (X : Nat → Prop) (z : Nat) (b : WV) (B B' : WD) (ao : Option Addr) (m : Nat) (f : Nat → Int) (w : World) : Prop where
  h : BBH (fun x => X x ∧ ¬ (ao = some ⟨x, 0, none⟩ ∧ 0 < m)) z b B B' w
  i : IntsOwn (fun x => X x ∧ ao = some ⟨x, 0, none⟩ ∧ 0 < m) w ao m f
  hz : ¬ (ao = some ⟨z, 0, none⟩ ∧ 0 < m)
theorem BI.st {X : Nat → Prop} {z : Nat} {b : WV} {B B' : WD} {ao : Option Addr} {m : Nat} {f : Nat → Int} {w : World} (h : BI X z b B B' ao m f w) (hz : X z) (hX : ∀ b, X b → b < w.heap.size) : St X (BI X z b B B' ao m f) w :=
  ⟨hX, fun Z w' hm hx => ⟨⟨h.h.own.mod hm (fun b hb => hx b hb.1.1), h.h.box.mod hm (hx z hz)⟩, h.i.mod hm (fun b hb => hx b hb.1), h.hz⟩⟩
theorem BI.mk' {w W : World} {b : WV} {R : WD} {ao : Option Addr} {m : Nat} {f : Nat → Int} (hb : Blw w W) (own : WOwn (fun x => (w.heap.size ≤ x ∧ x < W.heap.size) ∧ ao ≠ some ⟨x, 0, none⟩) W b R) (oi : IntsOwn (fun x => (w.heap.size ≤ x ∧ x < W.heap.size) ∧ ao = some ⟨x, 0, none⟩) W ao m f) {lo : Nat} (hlo : lo ≤ w.heap.size) :
    BI (fun x => lo ≤ x ∧ x < W.heap.size + 1) W.heap.size b R R ao m f (W.alloc (.cells #[.int .i64 R.now, .slice b.a1 R.N.n b.c1, .slice b.a2 R.F.n b.c2] 25)) := by
  have hal : Blw W (W.alloc (.cells #[.int .i64 R.now, .slice b.a1 R.N.n b.c1, .slice b.a2 R.F.n b.c2] 25)) := (Blw.refl _).alloc _
  refine ⟨⟨(own.blw hal).mono (fun x hx => ⟨⟨⟨by have h5 := hx.1; omega, by have h5 := hx.1; omega⟩, fun e => hx.2 e.1⟩, by have h5 := hx.1; omega⟩), box3 W _ _ _ 25⟩, ⟨oi.1, fun h0 => ?_⟩, fun e => ?_⟩
  · obtain ⟨g, hg, e, hr⟩ := oi.2 h0
    exact ⟨g, ⟨⟨by have h5 := hg.1; omega, by have h5 := hg.1; omega⟩, e, h0⟩, e, hr.blw hal⟩
  · obtain ⟨g, hg, e2, hr⟩ := oi.2 e.2
    rw [e.1] at e2
    simp only [Option.some.injEq, Addr.mk.injEq] at e2
    have h5 := hg.1
    omega
theorem BI.lo {X Y : Nat → Prop} {z : Nat} {b : WV} {B B' : WD} {ao : Option Addr} {m : Nat} {f : Nat → Int} {w : World} (h : BI X z b B B' ao m f w) (hxy : ∀ x, X x → Y x) : BI Y z b B B' ao m f w :=
  ⟨⟨h.h.own.mono (fun x hx => ⟨⟨hxy _ hx.1.1, hx.1.2⟩, hx.2⟩), h.h.box⟩, h.i.mono (fun x hx => ⟨hxy _ hx.1, hx.2⟩), h.hz⟩
set_option maxRecDepth 10000 in
set_option maxHeartbeats 6400000 in
theorem lawRunP (b : WV) (B : WD) (t : Int) (w : World) (h : WAt (fun x => x < w.heap.size) w b B) (hwf : B.wf) : Calls Try.prog 11 #[b.val B, .int .i64 t] w fun e w' => e = .returned (.bool true) ∧ Blw w w' := by
  have hb0 : Blw w (w.alloc (.cells #[.int .i64 B.now, .slice b.a1 B.N.n b.c1, .slice b.a2 B.F.n b.c2] 55)) := (Blw.refl _).alloc _
  have HA : Hid (St (fun x => x < w.heap.size + 1) (ArgH w.heap.size w.heap.size b B) (w.alloc (.cells #[.int .i64 B.now, .slice b.a1 B.N.n b.c1, .slice b.a2 B.F.n b.c2] 55))) := ArgH.st ⟨h.blw hb0, box3 w _ _ _ 55⟩ (by omega) (by omega) (by simp)
  clear h
  go_enter Try.func11, Try.ntmps11
  go_wp2_with fail
  refine (szWheel_any b B _ _ HA.out.out.at_).mono ?_
  rintro e w1 ⟨r, rfl, hr, hb1⟩
  replace HA : Hid (St (fun x => x < w.heap.size + 1) (ArgH w.heap.size w.heap.size b B) w1) := HA.out.blw hb1
  replace hb1 := hb0.trans hb1
  clear hb0
  rcases hr with rfl | ⟨q0, q1⟩
  · go_wp2
    go_ret
    exact ⟨rfl, hb1⟩
  have hS : WD.small B := q1
  have HS : Hid (WD.small B) := hS
  obtain ⟨p0, p1, p2⟩ := get3 HA.out.out.box
  clear q1 hS
  go_wp2_with fail
  clear p0 p1 p2
  refine (toWheel_any b B _ _ HS.out HA.out.out.at_).mono ?_
  rintro e w2 ⟨b2, rfl, own2, hb2⟩
  replace HA : Hid (St (fun x => x < w.heap.size + 1) (ArgH w.heap.size w.heap.size b B) w2) := HA.out.blw hb2
  replace hb2 := hb1.trans hb2
  clear hb1
  go_wp2_with fail
  refine (specRun_any b2 B t _ _ own2.at HS.out).mono ?_
  rintro e w3 ⟨b3, R, ao3, c3, m3, l, r3, rfl, hm3, ho3, hs3, hl3, own3, oi3, hb3⟩
  have HO3 : Hid (runOut B t R l r3) := ho3
  have HSR : Hid (WD.small R ∧ m3 = l.length ∧ l.length ≤ 2000) := ⟨hs3, hm3, hl3⟩
  rw [← hm3] at oi3
  have hA3 : Blw w3 (w3.alloc (.cells #[.int .i64 R.now, .slice b3.a1 R.N.n b3.c1, .slice b3.a2 R.F.n b3.c2] 25)) := (Blw.refl _).alloc _
  have h21 := HA.out.1 w.heap.size (by omega)
  have HP3 : Hid (St (fun x => x < w3.heap.size + 1) (BI (fun x => 0 ≤ x ∧ x < w3.heap.size + 1) w3.heap.size b3 R R ao3 m3 (gi l)) (w3.alloc (.cells #[.int .i64 R.now, .slice b3.a1 R.N.n b3.c1, .slice b3.a2 R.F.n b3.c2] 25))) := (BI.st (BI.mk' hb3 own3 oi3 (lo := 0) (by omega)) ⟨by omega, by omega⟩ (fun x hx => by simp; omega)).mono (fun x hx => hx.2) (fun x hx => by simp; omega)
  replace HA : Hid (St (fun x => x < w.heap.size + 1) (ArgH w.heap.size w.heap.size b B) (w3.alloc (.cells #[.int .i64 R.now, .slice b3.a1 R.N.n b3.c1, .slice b3.a2 R.F.n b3.c2] 25))) := HA.out.blw (hb3.trans hA3)
  have h23 := hb3.size
  have HZ3 : Hid (w.heap.size + 1 ≤ w3.heap.size + 1) := by show _ ≤ _; omega
  replace hb3 : Blw w (w3.alloc (.cells #[.int .i64 R.now, .slice b3.a1 R.N.n b3.c1, .slice b3.a2 R.F.n b3.c2] 25)) := (hb2.trans hb3).trans hA3
  clear hb2 own2 own3 oi3 ho3 hs3 hl3 hm3 hA3 h21 h23
  obtain ⟨p0, p1, p2⟩ := get3 HA.out.out.box
  go_wp2_with fail
  clear p0 p1 p2
  refine (toWheel_any b B _ _ HS.out HA.out.out.at_).mono ?_
  rintro e w4 ⟨b4, rfl, own4, hb4⟩
  have hA4 : Blw w4 (w4.alloc (.cells #[.int .i64 B.now, .slice b4.a1 B.N.n b4.c1, .slice b4.a2 B.F.n b4.c2] 25)) := (Blw.refl _).alloc _
  have z34 := hb4.size
  try rw [World.size_alloc] at z34
  have HP4 : Hid (St (fun x => w3.heap.size + 1 ≤ x ∧ x < w4.heap.size + 1) (BBH (fun x => w3.heap.size + 1 ≤ x ∧ x < w4.heap.size + 1) w4.heap.size b4 B B) (w4.alloc (.cells #[.int .i64 B.now, .slice b4.a1 B.N.n b4.c1, .slice b4.a2 B.F.n b4.c2] 25))) := BBH.st ⟨(own4.blw hA4).mono (fun x hx => by (try simp only [World.size_alloc] at hx); exact ⟨⟨by omega, by omega⟩, by omega⟩), box3 w4 _ _ _ 25⟩ ⟨z34, by omega⟩ (fun x hx => by simp; omega)
  replace HA : Hid (St (fun x => x < w.heap.size + 1) (ArgH w.heap.size w.heap.size b B) (w4.alloc (.cells #[.int .i64 B.now, .slice b4.a1 B.N.n b4.c1, .slice b4.a2 B.F.n b4.c2] 25))) := HA.out.blw (hb4.trans hA4)
  replace HP3 : Hid (St (fun x => x < w3.heap.size + 1) (BI (fun x => 0 ≤ x ∧ x < w3.heap.size + 1) w3.heap.size b3 R R ao3 m3 (gi l)) (w4.alloc (.cells #[.int .i64 B.now, .slice b4.a1 B.N.n b4.c1, .slice b4.a2 B.F.n b4.c2] 25))) := HP3.out.blw (hb4.trans hA4)
  replace hb4 : Blw w (w4.alloc (.cells #[.int .i64 B.now, .slice b4.a1 B.N.n b4.c1, .slice b4.a2 B.F.n b4.c2] 25)) := (hb3.trans hb4).trans hA4
  have HZ4 : Hid (w3.heap.size + 1 ≤ w4.heap.size) := z34
  clear hb3 own4 hA4 z34
  go_wp2_with fail
  refine (implRun_any b4 B t _ _ HP4.out.out.own.at (fun x hx => by simp; omega) hwf).mono ?_
  rintro e w5 ⟨b5, R5, ao5, c5, m5, l5, r5, rfl, hm5, ho5, hs5, hl5, own5, oi5, hb5⟩
  obtain ⟨eR, el, er⟩ := runOut_same ho5 HO3.out
  subst eR el er
  have em : m5 = m3 := hm5.trans HSR.out.2.1.symm
  subst em
  rw [← hm5] at oi5
  have hA5 : Blw w5 (w5.alloc (.cells #[.int .i64 R5.now, .slice b5.a1 R5.N.n b5.c1, .slice b5.a2 R5.F.n b5.c2] 25)) := (Blw.refl _).alloc _
  have z45 := hb5.size
  rw [World.size_alloc] at z45
  have HL : Hid (LawF w (w5.alloc (.cells #[.int .i64 R5.now, .slice b5.a1 R5.N.n b5.c1, .slice b5.a2 R5.F.n b5.c2] 25)) (w.heap.size + 1) (w3.heap.size + 1) (w4.heap.size + 1) (w5.heap.size + 1) (ArgH w.heap.size w.heap.size b B) (BI (fun x => 0 ≤ x ∧ x < w3.heap.size + 1) w3.heap.size b3 R5 R5 ao3 m5 (gi l5)) (BBH (fun x => w3.heap.size + 1 ≤ x ∧ x < w4.heap.size + 1) w4.heap.size b4 B B) (BI (fun x => w4.heap.size + 1 ≤ x ∧ x < w5.heap.size + 1) w5.heap.size b5 R5 R5 ao5 m5 (gi l5))) := by
    have c := hb5.trans hA5
    have h3 := HZ3.out
    have h4 := HZ4.out
    exact ⟨hb4.trans c, HA.out.blw c, HP3.out.blw c, HP4.out.blw c, BI.st (BI.mk' hb5 own5 oi5 (by simp)) ⟨z45, by omega⟩ (fun x hx => by simp; omega), by simp only [World.size_alloc]; omega⟩
  have HZ5 : Hid (w4.heap.size + 1 ≤ w5.heap.size) := z45
  clear HA HP3 HP4 hb4 hb5 own5 oi5 hA5 z45 ho5 hs5 hl5 hm5 HZ3
  have hne : (r5 != r5) = false := by simp
  obtain ⟨p0, p1, p2⟩ := get3 HL.out.p5.out.h.box
  obtain ⟨s0, s1, s2⟩ := get3 HL.out.p3.out.h.box
  go_wp2_with fail
  clear p0 p1 p2 s0 s1 s2
  refine (eqWheel_same b5 b3 R5 _ HL.out.p5.out.h.own.at HL.out.p3.out.h.own.at).mono ?_
  rintro e w6a ⟨rfl, hb6⟩
  replace HL : Hid (LawF w w6a _ _ _ _ _ _ _ _) := HL.out.blw hb6
  clear hb6
  go_wp2_with fail
  refine (eqIntS_same _ _ _ _ m5 (gi l5) _ HL.out.p5.out.i.at HL.out.p3.out.i.at).mono ?_
  rintro e w6 ⟨rfl, dq, hdq⟩
  have hbq : Blw w6a w6 := by rw [hdq]; exact drewN_blw w6a dq
  replace HL : Hid (LawF w w6 _ _ _ _ _ _ _ _) := HL.out.blw hbq
  clear hdq hbq
  generalize w3.heap.size = z3 at *
  generalize w4.heap.size = z4 at *
  generalize w5.heap.size = z5 at *
  clear w1 w2 w3 w4 w5 w6a
  go_upto_region 10 with fail
  go_cut [60] from 56 to 60 (fun c wx => c = .bool false ∧ Blw w6 wx)
  case first =>
    have A0 : ∀ w', Blw w6 w' → w'.cell? ⟨w.heap.size, 0, none⟩ = some (.int .i64 B.now) := fun w' hh => (get3 (HL.out.blw hh).p1.out.box).1
    have A1 : ∀ w', Blw w6 w' → w'.cell? ⟨w.heap.size, 1, none⟩ = some (.slice b.a1 B.N.n b.c1) := fun w' hh => (get3 (HL.out.blw hh).p1.out.box).2.1
    have A2 : ∀ w', Blw w6 w' → w'.cell? ⟨w.heap.size, 2, none⟩ = some (.slice b.a2 B.F.n b.c2) := fun w' hh => (get3 (HL.out.blw hh).p1.out.box).2.2
    have B0 : ∀ w', Blw w6 w' → w'.cell? ⟨z4, 0, none⟩ = some (.int .i64 B.now) := fun w' hh => (get3 (HL.out.blw hh).p4.out.box).1
    have B1 : ∀ w', Blw w6 w' → w'.cell? ⟨z4, 1, none⟩ = some (.slice b4.a1 B.N.n b4.c1) := fun w' hh => (get3 (HL.out.blw hh).p4.out.box).2.1
    have B2 : ∀ w', Blw w6 w' → w'.cell? ⟨z4, 2, none⟩ = some (.slice b4.a2 B.F.n b4.c2) := fun w' hh => (get3 (HL.out.blw hh).p4.out.box).2.2
    go_region_held3 (fun w' => Blw w6 w') ((first | exact (Blw.refl _).drew | assumption | exact Blw.trans (by assumption) (by assumption))) (first
      | (go_at_call 39; refine (toWheel_any b B _ _ HS.out (HL.out.blw (by assumption)).p1.out.at_).mono ?_; rintro e w7 ⟨b6, rfl, o6, hb7⟩)
      | (go_at_call 34; refine (eqWheel_same b4 b6 B _ (HL.out.blw (by assumption)).p4.out.own.at o6.at).mono ?_; rintro e w8 ⟨rfl, hb8⟩))
    all_goals go_wp2_with fail
    all_goals go_meet
    all_goals exact ⟨rfl, by assumption⟩
  case rest =>
    obtain ⟨rfl, hb7⟩ := hcut
    replace HL : Hid (LawF w wc _ _ _ _ _ _ _ _) := HL.out.blw hb7
    clear hb7 w6
    obtain ⟨p0, p1, p2⟩ := get3 HL.out.p4.out.box
    go_wp2_with fail
    clear p0 p1 p2
    refine (markWheel_any b4 B _ 1 _ (by omega) (by omega) HS.out (fun x hx => by have := HL.out.o; omega) HL.out.p4.out.own).mono ?_
    rintro e w8 ⟨rfl, own4, hm8⟩
    have bx4 := HL.out.p4.out.box.mod hm8 (fun hh => hh.2 rfl)
    have h8 := hm8.size
    replace HL : Hid (LawF w w8 _ _ _ _ _ _ _ _) := HL.out.mark4 (P4' := BBH (fun x => z3 + 1 ≤ x ∧ x < z4 + 1) z4 b4 B (B.marked 1)) hm8 (fun x hx => hx.1) (BBH.st ⟨own4, bx4⟩ ⟨HZ4.out, by omega⟩ (fun x hx => by have := HL.out.o; omega))
    clear own4 hm8 bx4 h8
    have htB : B.total ≤ 2097152 := by have h5 : _ ≤ _ := HS.out; unfold WD.total; omega
    have k1 : ¬ (1 + (B.total : Int) < 0) := by omega
    obtain ⟨p0, p1, p2⟩ := get3 HL.out.p5.out.h.box
    obtain ⟨s0, s1, s2⟩ := get3 HL.out.p3.out.h.box
    go_wp2_with fail
    clear p0 p1 p2 s0 s1 s2
    refine (eqWheel_same b5 b3 R5 _ HL.out.p5.out.h.own.at HL.out.p3.out.h.own.at).mono ?_
    rintro e w9a ⟨rfl, hb6⟩
    replace HL : Hid (LawF w w9a _ _ _ _ _ _ _ _) := HL.out.blw hb6
    clear hb6
    go_wp2_with fail
    refine (eqIntS_same _ _ _ _ m5 (gi l5) _ HL.out.p5.out.i.at HL.out.p3.out.i.at).mono ?_
    rintro e w9 ⟨rfl, dq, hdq⟩
    have hbq : Blw w9a w9 := by rw [hdq]; exact drewN_blw w9a dq
    replace HL : Hid (LawF w w9 _ _ _ _ _ _ _ _) := HL.out.blw hbq
    clear hdq hbq
    clear k1 w8 wc w9a
    obtain ⟨p0, p1, p2⟩ := get3 HL.out.p5.out.h.box
    go_wp2_with fail
    clear p0 p1 p2
    refine (markWheel_any b5 R5 _ 1 _ (by omega) (by omega) HSR.out.1 (fun x hx => by have := HL.out.o; have h5 := hx.1.1; omega) HL.out.p5.out.h.own).mono ?_
    rintro e w10 ⟨rfl, own5, hm10⟩
    have bx5 := HL.out.p5.out.h.box.mod hm10 (fun hh => hh.2 rfl)
    have i5 := HL.out.p5.out.i.mod hm10 (fun x hx hh => hh.1.2 hx.2)
    have hz5 := HL.out.p5.out.hz
    have h10 := hm10.size
    replace HL : Hid (LawF w w10 _ _ _ _ _ _ _ _) := HL.out.mark5 (P5' := BI (fun x => z4 + 1 ≤ x ∧ x < z5 + 1) z5 b5 R5 (R5.marked 1) ao5 m5 (gi l5)) hm10 (fun x hx => hx.1.1) (BI.st ⟨⟨own5, bx5⟩, i5, hz5⟩ ⟨HZ5.out, by omega⟩ (fun x hx => by have := HL.out.o; omega))
    clear own5 hm10 bx5 i5 hz5 h10
    have htR : R5.total ≤ 2097152 := by have h5 : _ ≤ _ := HSR.out.1; unfold WD.total; omega
    have hmb : m5 ≤ 2000 := by have h5 := HSR.out; omega
    go_wp2_with fail
    refine (markIntS_any _ _ m5 (gi l5) _ (1 + R5.total) _ (by omega) (by omega) HL.out.p5.out.i).mono ?_
    rintro e w11 ⟨rfl, i6, hm11⟩
    have bx6 := HL.out.p5.out.h.box.mod hm11 (fun hh => HL.out.p5.out.hz hh.1.2)
    have own6 := HL.out.p5.out.h.own.mod hm11 (fun x hx hh => hx.1.2 hh.1.2)
    have hz6 := HL.out.p5.out.hz
    have h11 := hm11.size
    replace HL : Hid (LawF w w11 _ _ _ _ _ _ _ _) := HL.out.mark5 (P5' := BI (fun x => z4 + 1 ≤ x ∧ x < z5 + 1) z5 b5 R5 (R5.marked 1) ao5 m5 (fun i => 1 + (R5.total : Int) + i)) hm11 (fun x hx => hx.1.1) (BI.st ⟨⟨own6, bx6⟩, i6, hz6⟩ ⟨HZ5.out, by omega⟩ (fun x hx => by have := HL.out.o; omega))
    clear i6 hm11 bx6 own6 hz6 h11
    have k1 : ¬ (1 + (R5.total : Int) < 0) := by omega
    have k3 : ¬ (1 + (R5.total : Int) + (m5 : Int) < 0) := by omega
    have k2 : ((1 + (R5.total : Int) + (m5 : Int)) != (1 + (R5.total : Int) + (m5 : Int))) = false := by simp
    obtain ⟨p0, p1, p2⟩ := get3 HL.out.p5.out.h.box
    go_wp2_with fail
    clear p0 p1 p2
    refine (heldWheel_any b5 R5 _ 1 _ (by omega) (by omega) HSR.out.1 HL.out.p5.out.h.own).mono ?_
    rintro e w12 ⟨rfl, hb11⟩
    replace HL : Hid (LawF w w12 _ _ _ _ _ _ _ _) := HL.out.blw hb11
    clear hb11
    go_wp2_with fail
    refine (heldIntS_any _ _ m5 _ (1 + R5.total) _ (by omega) (by omega) HL.out.p5.out.i.at).mono ?_
    rintro e w13 ⟨rfl, hb12⟩
    replace HL : Hid (LawF w w13 _ _ _ _ _ _ _ _) := HL.out.blw hb12
    clear hb12
    obtain ⟨p0, p1, p2⟩ := get3 HL.out.p1.out.box
    go_wp2_with fail
    clear p0 p1 p2
    refine (toWheel_any b B _ _ HS.out HL.out.p1.out.at_).mono ?_
    rintro e w14 ⟨b7, rfl, own7, hb14⟩
    replace HL : Hid (LawF w w14 _ _ _ _ _ _ _ _) := HL.out.blw hb14
    clear hb14
    go_wp2_with fail
    refine (implRun_any b7 B t _ _ own7.at (fun x hx => hx.2) hwf).mono ?_
    rintro e w15 ⟨b8, R8, ao8, c8, m8, l8, r8, rfl, hm8, ho8, hs8, hl8, own8, oi8, hb15⟩
    obtain ⟨eR, el, er⟩ := runOut_same ho8 HO3.out
    subst eR el er
    have em : m8 = m5 := hm8.trans HSR.out.2.1.symm
    subst em
    rw [← hm8] at oi8
    have hA8 : Blw w15 (w15.alloc (.cells #[.int .i64 R8.now, .slice b8.a1 R8.N.n b8.c1, .slice b8.a2 R8.F.n b8.c2] 25)) := (Blw.refl _).alloc _
    replace HL : Hid (LawF w (w15.alloc (.cells #[.int .i64 R8.now, .slice b8.a1 R8.N.n b8.c1, .slice b8.a2 R8.F.n b8.c2] 25)) _ _ _ _ _ _ _ _) := HL.out.blw (hb15.trans hA8)
    have HO8 : Hid (WOwn _ (w15.alloc (.cells #[.int .i64 R8.now, .slice b8.a1 R8.N.n b8.c1, .slice b8.a2 R8.F.n b8.c2] 25)) b8 R8 ∧ IntsOwn _ (w15.alloc (.cells #[.int .i64 R8.now, .slice b8.a1 R8.N.n b8.c1, .slice b8.a2 R8.F.n b8.c2] 25)) ao8 m8 (gi l8)) := ⟨own8.blw hA8, oi8.blw hA8⟩
    clear own7 hb15 ho8 hs8 hl8 hm8 own8 oi8 hA8
    obtain ⟨s0, s1, s2⟩ := get3 HL.out.p3.out.h.box
    go_wp2_with fail
    clear s0 s1 s2
    refine (eqWheel_same b8 b3 R8 _ HO8.out.1.at HL.out.p3.out.h.own.at).mono ?_
    rintro e w16 ⟨rfl, hb16⟩
    replace HL : Hid (LawF w w16 _ _ _ _ _ _ _ _) := HL.out.blw hb16
    have HI8 : Hid (IntsOwn _ w16 ao8 m8 (gi l8)) := HO8.out.2.blw hb16
    clear hb16 HO8
    go_wp2_with fail
    refine (eqIntS_same _ _ _ _ m8 (gi l8) _ HI8.out.at HL.out.p3.out.i.at).mono ?_
    rintro e w17 ⟨rfl, dq, hdq⟩
    have hbq : Blw w16 w17 := by rw [hdq]; exact drewN_blw w16 dq
    replace HL : Hid (LawF w w17 _ _ _ _ _ _ _ _) := HL.out.blw hbq
    clear hdq hbq HI8
    obtain ⟨p0, p1, p2⟩ := get3 HL.out.p5.out.h.box
    go_wp2_with fail
    clear p0 p1 p2
    refine (heldWheel_any b5 R8 _ 1 _ (by omega) (by omega) HSR.out.1 HL.out.p5.out.h.own).mono ?_
    rintro e w18 ⟨rfl, hb11⟩
    replace HL : Hid (LawF w w18 _ _ _ _ _ _ _ _) := HL.out.blw hb11
    clear hb11
    go_wp2_with fail
    refine (heldIntS_any _ _ m8 _ (1 + R8.total) _ (by omega) (by omega) HL.out.p5.out.i.at).mono ?_
    rintro e w19 ⟨rfl, hb12⟩
    replace HL : Hid (LawF w w19 _ _ _ _ _ _ _ _) := HL.out.blw hb12
    clear hb12
    go_wp2
    go_ret
    exact ⟨rfl, HL.out.hB⟩
end Go.Proofs.Ytkmkidahaagbpaa
