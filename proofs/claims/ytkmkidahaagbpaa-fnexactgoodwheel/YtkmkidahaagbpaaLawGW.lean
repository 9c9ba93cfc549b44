/- The law on GoodWheel. -/
import Derived.Test.YtkmkidahaagbpaaNw
namespace Go.Proofs.Ytkmkidahaagbpaa
open Go.RowKit
set_option linter.unusedSimpArgs false
set_option linter.unusedVariables false
set_option maxRecDepth 10000 in
set_option maxHeartbeats 3200000 in
theorem lawGoodP (b : WV) (B : WD) (w : World) (h : WAt (fun x => x < w.heap.size) w b B) (hwf : B.wf) : Calls Try.prog 6 #[b.val B] w fun e w' => e = .returned (.bool true) ∧ Blw w w' := by
  have hb0 : Blw w (w.alloc (.cells #[.int .i64 B.now, .slice b.a1 B.N.n b.c1, .slice b.a2 B.F.n b.c2] 55)) := (Blw.refl _).alloc _
  have HA : Hid (St (fun x => x < w.heap.size + 1) (ArgH w.heap.size w.heap.size b B) (w.alloc (.cells #[.int .i64 B.now, .slice b.a1 B.N.n b.c1, .slice b.a2 B.F.n b.c2] 55))) := ArgH.st ⟨h.blw hb0, box3 w _ _ _ 55⟩ (by omega) (by omega) (by simp)
  clear h
  go_enter Try.func6, Try.ntmps6
  go_wp2_with fail
  refine (szWheel_any b B _ _ HA.out.out.at_).mono ?_
  rintro e w1 ⟨r, rfl, hr, hb1⟩
  replace HA : Hid (St (fun x => x < w.heap.size + 1) (ArgH w.heap.size w.heap.size b B) w1) := HA.out.blw hb1
  replace hb1 := hb0.trans hb1
  clear hb0
  rcases hr with rfl | ⟨q0, q1⟩
  · go_wp2
    go_ret
    exact ⟨rfl, hb1⟩
  have HS : Hid (WD.small B) := q1
  obtain ⟨p0, p1, p2⟩ := get3 HA.out.out.box
  clear q1
  go_wp2_with fail
  clear p0 p1 p2
  refine (toWheel_any b B _ _ HS.out HA.out.out.at_).mono ?_
  rintro e w2 ⟨b2, rfl, own2, hb2⟩
  replace HA : Hid (St (fun x => x < w.heap.size + 1) (ArgH w.heap.size w.heap.size b B) w2) := HA.out.blw hb2
  replace hb2 := hb1.trans hb2
  clear hb1
  go_wp2_with fail
  refine (specGood_any b2 B _ _ own2.at HS.out).mono ?_
  rintro e w3 ⟨r3, rfl, hr3, hb3⟩
  replace HA : Hid (St (fun x => x < w.heap.size + 1) (ArgH w.heap.size w.heap.size b B) w3) := HA.out.blw hb3
  replace hb3 := hb2.trans hb3
  have HR3 : Hid (r3 = true ↔ GoodD B) := hr3
  clear hb2 own2 hr3
  obtain ⟨p0, p1, p2⟩ := get3 HA.out.out.box
  go_wp2_with fail
  clear p0 p1 p2
  refine (toWheel_any b B _ _ HS.out HA.out.out.at_).mono ?_
  rintro e w4 ⟨b4, rfl, own4, hb4⟩
  have hA : Blw w4 (w4.alloc (.cells #[.int .i64 B.now, .slice b4.a1 B.N.n b4.c1, .slice b4.a2 B.F.n b4.c2] 25)) := (Blw.refl _).alloc _
  have HBB : Hid (BBH (fun x => w3.heap.size ≤ x ∧ x < w4.heap.size + 1) w4.heap.size b4 B B (w4.alloc (.cells #[.int .i64 B.now, .slice b4.a1 B.N.n b4.c1, .slice b4.a2 B.F.n b4.c2] 25))) := boxedH hb4 own4 (Nat.le_refl _)
  replace HA : Hid (St (fun x => x < w.heap.size + 1) (ArgH w.heap.size w.heap.size b B) (w4.alloc (.cells #[.int .i64 B.now, .slice b4.a1 B.N.n b4.c1, .slice b4.a2 B.F.n b4.c2] 25))) := HA.out.blw (hb4.trans hA)
  replace hb4 := (hb3.trans hb4).trans hA
  clear hb3 own4 hA
  go_wp2_with fail
  refine (implGood_any b4 B (fun x => (w3.heap.size ≤ x ∧ x < w4.heap.size + 1) ∧ x ≠ w4.heap.size) _ HBB.out.own.at (fun x hx => by simp; omega) hwf).mono ?_
  rintro e w5 ⟨r5, rfl, hr5, hb5⟩
  have e53 : r5 = r3 := Bool.eq_iff_iff.2 (Iff.trans hr5 (Iff.symm HR3.out))
  subst e53
  have HB5 : Hid (BBH (fun x => w3.heap.size ≤ x ∧ x < w4.heap.size + 1) w4.heap.size b4 B B w5) := ⟨HBB.out.own.blw hb5, HBB.out.box.blw hb5⟩
  replace HA : Hid (St (fun x => x < w.heap.size + 1) (ArgH w.heap.size w.heap.size b B) w5) := HA.out.blw hb5
  have HW : Hid (Blw w w5) := hb4.trans hb5
  clear hb4 hb5 hr5 HR3 HBB
  have hne : (r5 != r5) = false := by simp
  generalize w3.heap.size = z3 at *
  generalize w4.heap.size = z4 at *
  clear w1 w2 w3 w4
  go_upto_region 10 with fail
  go_cut [26] from 22 to 26 (fun c wx => c = .bool false ∧ Blw w5 wx)
  case first =>
    have A0 : ∀ w', Blw w5 w' → w'.cell? ⟨w.heap.size, 0, none⟩ = some (.int .i64 B.now) := fun w' hh => (get3 (HA.out.blw hh).out.box).1
    have A1 : ∀ w', Blw w5 w' → w'.cell? ⟨w.heap.size, 1, none⟩ = some (.slice b.a1 B.N.n b.c1) := fun w' hh => (get3 (HA.out.blw hh).out.box).2.1
    have A2 : ∀ w', Blw w5 w' → w'.cell? ⟨w.heap.size, 2, none⟩ = some (.slice b.a2 B.F.n b.c2) := fun w' hh => (get3 (HA.out.blw hh).out.box).2.2
    have B0 : ∀ w', Blw w5 w' → w'.cell? ⟨z4, 0, none⟩ = some (.int .i64 B.now) := fun w' hh => (get3 (HB5.out.box.blw hh)).1
    have B1 : ∀ w', Blw w5 w' → w'.cell? ⟨z4, 1, none⟩ = some (.slice b4.a1 B.N.n b4.c1) := fun w' hh => (get3 (HB5.out.box.blw hh)).2.1
    have B2 : ∀ w', Blw w5 w' → w'.cell? ⟨z4, 2, none⟩ = some (.slice b4.a2 B.F.n b4.c2) := fun w' hh => (get3 (HB5.out.box.blw hh)).2.2
    go_region_held3 (fun w' => Blw w5 w') ((first | exact (Blw.refl _).drew | assumption | exact Blw.trans (by assumption) (by assumption))) (first
      | (go_at_call 39; refine (toWheel_any b B _ _ HS.out (HA.out.blw (by assumption)).out.at_).mono ?_; rintro e w7 ⟨b6, rfl, o6, hb7⟩)
      | (go_at_call 34; refine (eqWheel_same b4 b6 B _ (HB5.out.own.blw (by assumption)).at o6.at).mono ?_; rintro e w8 ⟨rfl, hb8⟩))
    all_goals go_wp2_with fail
    all_goals go_meet
    all_goals exact ⟨rfl, by assumption⟩
  case rest =>
    obtain ⟨rfl, hb7⟩ := hcut
    go_wp2
    go_ret
    exact ⟨rfl, HW.out.trans hb7⟩
end Go.Proofs.Ytkmkidahaagbpaa
