/- The law on GoodTable. -/
import Derived.Test.YtbnencabjechjaaLawB
import Derived.Test.YtbnencabjechjaaHold
import Derived.Test.YtbnencabjechjaaGood
namespace Go.Proofs.Ytbnencabjechjaa
open Go.RowKit
set_option linter.unusedSimpArgs false
set_option linter.unusedVariables false
set_option maxHeartbeats 800000 in
theorem implGood_any (b : BV) (B : BD) (Y : Nat → Prop) (w : World) (h : BookAt Y w b B) (hY : ∀ x, Y x → x < w.heap.size) :
    Calls Try.prog 17 #[b.val B] w fun e w' => ∃ r, e = .returned (.bool r) ∧ (r = true ↔ B.Good) ∧ Blw w w' := by
  have hb0 : Blw w (w.alloc (.cells #[.slice b.a1 B.n b.c1, .slice b.a2 B.D.n b.c2] 26)) := (Blw.refl _).alloc _
  have HB : Hid (BookAt Y (w.alloc (.cells #[.slice b.a1 B.n b.c1, .slice b.a2 B.D.n b.c2] 26)) b B) := h.blw hb0
  clear h
  go_enter Try.func17, Try.ntmps17
  go_wp2_with fail
  refine (hold_any b B Y _ HB.out (fun x hx => by have := hY x hx; simp; omega)).mono ?_
  rintro e w1 ⟨h1, hb1⟩
  replace hb1 := hb0.trans hb1
  clear hb0 HB
  rcases h1 with ⟨z, hg, rfl, -, -⟩ | ⟨hg, rfl⟩
  · have HG : Hid B.Good := hg
    clear hg
    go_wp2
    go_ret
    exact ⟨true, rfl, iff_t HG.out, hb1.alloc _⟩
  · have HG : Hid (¬ B.Good) := hg
    clear hg
    go_wp2
    go_ret
    exact ⟨false, rfl, iff_f HG.out, hb1.alloc _⟩
set_option maxHeartbeats 3200000 in
theorem lawGoodP (b : BV) (B : BD) (w : World) (h : BookAt (fun x => x < w.heap.size) w b B) : Calls Try.prog 6 #[b.val B] w fun e w' => e = .returned (.bool true) ∧ Blw w w' := by
  have hb0 : Blw w (w.alloc (.cells #[.slice b.a1 B.n b.c1, .slice b.a2 B.D.n b.c2] 56)) := (Blw.refl _).alloc _
  have HA : Hid (St (fun x => x < w.heap.size + 1) (ArgB w.heap.size w.heap.size b B) (w.alloc (.cells #[.slice b.a1 B.n b.c1, .slice b.a2 B.D.n b.c2] 56))) := ArgB.st ⟨h.blw hb0, box2 w _ _ 56⟩ (by omega) (by omega) (by simp)
  clear h
  go_enter Try.func6, Try.ntmps6
  go_wp2_with fail
  refine (szBook_any b B _ _ HA.out.out.at_).mono ?_
  rintro e w1 ⟨r, rfl, hr, hb1⟩
  replace HA : Hid (St (fun x => x < w.heap.size + 1) (ArgB w.heap.size w.heap.size b B) w1) := HA.out.blw hb1
  replace hb1 := hb0.trans hb1
  clear hb0
  rcases hr with rfl | ⟨q0, q1⟩
  · go_wp2
    go_ret
    exact ⟨rfl, hb1⟩
  have hS : B.n + (B.D.n + B.D.tot) ≤ 1048576 := by omega
  have HS : Hid (B.n + (B.D.n + B.D.tot) ≤ 1048576) := hS
  obtain ⟨p0, p1⟩ := get2 HA.out.out.box
  clear q1 hS
  go_wp2_with fail
  clear p0 p1
  refine (toBook_any b B _ _ HS.out HA.out.out.at_).mono ?_
  rintro e w2 ⟨b2, rfl, own2, hb2⟩
  replace HA : Hid (St (fun x => x < w.heap.size + 1) (ArgB w.heap.size w.heap.size b B) w2) := HA.out.blw hb2
  replace hb2 := hb1.trans hb2
  clear hb1
  go_wp2_with fail
  refine (specGood_any b2 B _ _ (by have := HS.out; omega) own2.at).mono ?_
  rintro e w3 ⟨r3, rfl, hr3, hb3⟩
  replace HA : Hid (St (fun x => x < w.heap.size + 1) (ArgB w.heap.size w.heap.size b B) w3) := HA.out.blw hb3
  replace hb3 := hb2.trans hb3
  have HR3 : Hid (r3 = true ↔ B.Good) := hr3
  clear hb2 own2 hr3
  obtain ⟨p0, p1⟩ := get2 HA.out.out.box
  go_wp2_with fail
  clear p0 p1
  refine (toBook_any b B _ _ HS.out HA.out.out.at_).mono ?_
  rintro e w4 ⟨b4, rfl, own4, hb4⟩
  have hA : Blw w4 (w4.alloc (.cells #[.slice b4.a1 B.n b4.c1, .slice b4.a2 B.D.n b4.c2] 26)) := (Blw.refl _).alloc _
  have HBB : Hid (BB (fun x => w3.heap.size ≤ x ∧ x < w4.heap.size + 1) w4.heap.size b4 B B (w4.alloc (.cells #[.slice b4.a1 B.n b4.c1, .slice b4.a2 B.D.n b4.c2] 26))) := boxed hb4 own4 (Nat.le_refl _)
  replace HA : Hid (St (fun x => x < w.heap.size + 1) (ArgB w.heap.size w.heap.size b B) (w4.alloc (.cells #[.slice b4.a1 B.n b4.c1, .slice b4.a2 B.D.n b4.c2] 26))) := HA.out.blw (hb4.trans hA)
  replace hb4 := (hb3.trans hb4).trans hA
  clear hb3 own4 hA
  go_wp2_with fail
  refine (implGood_any b4 B (fun x => (w3.heap.size ≤ x ∧ x < w4.heap.size + 1) ∧ x ≠ w4.heap.size) _ HBB.out.own.at (fun x hx => by simp; omega)).mono ?_
  rintro e w5 ⟨r5, rfl, hr5, hb5⟩
  have e53 : r5 = r3 := by
    have h3 := HR3.out
    cases r5 <;> cases r3 <;> simp_all
  subst e53
  have HB5 : Hid (BB (fun x => w3.heap.size ≤ x ∧ x < w4.heap.size + 1) w4.heap.size b4 B B w5) := ⟨HBB.out.own.blw hb5, HBB.out.box.blw hb5⟩
  replace HA : Hid (St (fun x => x < w.heap.size + 1) (ArgB w.heap.size w.heap.size b B) w5) := HA.out.blw hb5
  have HW : Hid (Blw w w5) := hb4.trans hb5
  clear hb4 hb5 hr5 HR3 HBB
  have hne : (r5 != r5) = false := by simp
  generalize w3.heap.size = z3 at *
  generalize w4.heap.size = z4 at *
  clear w1 w2 w3 w4
  go_upto_region 10 with fail
  go_cut [26] from 22 to 26 (fun c wx => c = .bool false ∧ Blw w5 wx)
  case first =>
    have A0 : ∀ w', Blw w5 w' → w'.cell? ⟨w.heap.size, 0, none⟩ = some (.slice b.a1 B.n b.c1) := fun w' hh => (get2 (HA.out.blw hh).out.box).1
    have A1 : ∀ w', Blw w5 w' → w'.cell? ⟨w.heap.size, 1, none⟩ = some (.slice b.a2 B.D.n b.c2) := fun w' hh => (get2 (HA.out.blw hh).out.box).2
    have B0 : ∀ w', Blw w5 w' → w'.cell? ⟨z4, 0, none⟩ = some (.slice b4.a1 B.n b4.c1) := fun w' hh => (get2 (HB5.out.box.blw hh)).1
    have B1 : ∀ w', Blw w5 w' → w'.cell? ⟨z4, 1, none⟩ = some (.slice b4.a2 B.D.n b4.c2) := fun w' hh => (get2 (HB5.out.box.blw hh)).2
    go_region_held3 (fun w' => Blw w5 w') ((first | exact (Blw.refl _).drew | assumption | exact Blw.trans (by assumption) (by assumption))) (first
      | (go_at_call 44; refine (toBook_any b B _ _ HS.out (HA.out.blw (by assumption)).out.at_).mono ?_; rintro e w7 ⟨b6, rfl, o6, hb7⟩)
      | (go_at_call 40; refine (eqBook_same b4 b6 B _ (HB5.out.own.blw (by assumption)).at o6.at).mono ?_; rintro e w8 ⟨rfl, hb8⟩))
    all_goals go_wp2_with fail
    all_goals go_meet
    all_goals exact ⟨rfl, by assumption⟩
  case rest =>
    obtain ⟨rfl, hb7⟩ := hcut
    go_wp2
    go_ret
    exact ⟨rfl, HW.out.trans hb7⟩
end Go.Proofs.Ytbnencabjechjaa
