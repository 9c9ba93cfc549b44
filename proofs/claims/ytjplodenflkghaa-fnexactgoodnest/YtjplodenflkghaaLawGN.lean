/- The law on GoodNest. -/
import Derived.Test.YtjplodenflkghaaNstW
import Derived.Test.YtjplodenflkghaaLawB
namespace Go.Proofs.Ytjplodenflkghaa
open Go.RowKit
set_option linter.unusedSimpArgs false
set_option linter.unusedVariables false
set_option maxRecDepth 10000 in
set_option maxHeartbeats 3200000 in
theorem lawGoodNP (b : NV) (B : ND) (w : World) (h : NAt (fun x => x < w.heap.size) w b B) : Calls Try.prog 8 #[b.val B] w fun e w' => e = .returned (.bool true) ∧ Blw w w' := by
  have hb0 : Blw w (w.alloc (.cells #[.slice b.g.a1 B.G.n b.g.c1, .slice b.g.a2 B.G.D.n b.g.c2, .slice b.h.a1 B.H.n b.h.c1, .slice b.h.a2 B.H.D.n b.h.c2] 91)) := (Blw.refl _).alloc _
  have HA : Hid (St (fun x => x < w.heap.size + 1) (ArgN w.heap.size w.heap.size b B) (w.alloc (.cells #[.slice b.g.a1 B.G.n b.g.c1, .slice b.g.a2 B.G.D.n b.g.c2, .slice b.h.a1 B.H.n b.h.c1, .slice b.h.a2 B.H.D.n b.h.c2] 91))) := ArgN.st ⟨h.blw hb0, box4 w _ _ _ _ 91⟩ (by omega) (by omega) (by simp)
  clear h
  go_enter Try.func8, Try.ntmps8
  go_wp2_with fail
  refine (szNest_any b B _ 1048576 _ (by omega) (by omega) HA.out.out.at_).mono ?_
  rintro e w1 ⟨r, rfl, hr, hb1⟩
  replace HA : Hid (St (fun x => x < w.heap.size + 1) (ArgN w.heap.size w.heap.size b B) w1) := HA.out.blw hb1
  replace hb1 := hb0.trans hb1
  clear hb0
  rcases hr with rfl | ⟨q0, q1⟩
  · go_wp2
    go_ret
    exact ⟨rfl, hb1⟩
  have hS : ND.small B := ⟨by unfold BD.small; omega, by unfold BD.small; omega⟩
  have HS : Hid (ND.small B) := hS
  obtain ⟨p0, p1, p2, p3⟩ := get4 HA.out.out.box
  clear q1 hS
  go_wp2_with fail
  clear p0 p1 p2 p3
  refine (toNest_any b B _ _ HS.out HA.out.out.at_).mono ?_
  rintro e w2 ⟨b2, rfl, own2, hb2⟩
  replace HA : Hid (St (fun x => x < w.heap.size + 1) (ArgN w.heap.size w.heap.size b B) w2) := HA.out.blw hb2
  replace hb2 := hb1.trans hb2
  clear hb1
  go_wp2_with fail
  refine (specGoodN_any b2 B _ _ (by have := HS.out.1; unfold BD.small at this; omega) (by have := HS.out.2; unfold BD.small at this; omega) own2.at).mono ?_
  rintro e w3 ⟨r3, rfl, ho3, hb3⟩
  have HO3 : Hid (r3 = true ↔ B.Good) := ho3
  replace HA : Hid (St (fun x => x < w.heap.size + 1) (ArgN w.heap.size w.heap.size b B) w3) := HA.out.blw hb3
  replace hb3 := hb2.trans hb3
  clear hb2 own2 ho3
  obtain ⟨p0, p1, p2, p3⟩ := get4 HA.out.out.box
  go_wp2_with fail
  clear p0 p1 p2 p3
  refine (toNest_any b B _ _ HS.out HA.out.out.at_).mono ?_
  rintro e w4 ⟨b4, rfl, own4, hb4⟩
  have hA4 : Blw w4 (w4.alloc (.cells #[.slice b4.g.a1 B.G.n b4.g.c1, .slice b4.g.a2 B.G.D.n b4.g.c2, .slice b4.h.a1 B.H.n b4.h.c1, .slice b4.h.a2 B.H.D.n b4.h.c2] 60)) := (Blw.refl _).alloc _
  have z34 := hb4.size
  have HP4 : Hid (St (fun x => w3.heap.size ≤ x ∧ x < w4.heap.size + 1) (BBN (fun x => w3.heap.size ≤ x ∧ x < w4.heap.size + 1) w4.heap.size b4 B B) (w4.alloc (.cells #[.slice b4.g.a1 B.G.n b4.g.c1, .slice b4.g.a2 B.G.D.n b4.g.c2, .slice b4.h.a1 B.H.n b4.h.c1, .slice b4.h.a2 B.H.D.n b4.h.c2] 60))) := BBN.st ⟨(own4.blw hA4).mono (fun x hx => ⟨⟨by omega, by omega⟩, by omega⟩), box4 w4 _ _ _ _ 60⟩ ⟨z34, by omega⟩ (fun x hx => by simp; omega)
  replace HA : Hid (St (fun x => x < w.heap.size + 1) (ArgN w.heap.size w.heap.size b B) (w4.alloc (.cells #[.slice b4.g.a1 B.G.n b4.g.c1, .slice b4.g.a2 B.G.D.n b4.g.c2, .slice b4.h.a1 B.H.n b4.h.c1, .slice b4.h.a2 B.H.D.n b4.h.c2] 60))) := HA.out.blw (hb4.trans hA4)
  replace hb4 : Blw w (w4.alloc (.cells #[.slice b4.g.a1 B.G.n b4.g.c1, .slice b4.g.a2 B.G.D.n b4.g.c2, .slice b4.h.a1 B.H.n b4.h.c1, .slice b4.h.a2 B.H.D.n b4.h.c2] 60)) := (hb3.trans hb4).trans hA4
  clear hb3 own4 hA4 z34
  go_wp2_with fail
  refine (implGoodN_any b4 B _ _ HP4.out.out.own.at (fun x hx => by simp; omega)).mono ?_
  rintro e w5 ⟨r5, rfl, ho5, hb5⟩
  have er : r5 = r3 := Bool.eq_iff_iff.2 (ho5.trans HO3.out.symm)
  subst er
  have hne : (r5 != r5) = false := by simp
  replace HA : Hid (St (fun x => x < w.heap.size + 1) (ArgN w.heap.size w.heap.size b B) w5) := HA.out.blw hb5
  replace HP4 : Hid (St (fun x => w3.heap.size ≤ x ∧ x < w4.heap.size + 1) (BBN (fun x => w3.heap.size ≤ x ∧ x < w4.heap.size + 1) w4.heap.size b4 B B) w5) := HP4.out.blw hb5
  have HB : Hid (Blw w w5) := hb4.trans hb5
  clear hb4 hb5 ho5 HO3
  generalize w4.heap.size = z4 at *
  generalize w3.heap.size = z3 at *
  clear w1 w2 w3 w4
  go_upto_region 10 with fail
  go_cut [26] from 22 to 26 (fun c wx => c = .bool false ∧ Blw w5 wx)
  case first =>
    have A0 : ∀ w', Blw w5 w' → w'.cell? ⟨w.heap.size, 0, none⟩ = some (.slice b.g.a1 B.G.n b.g.c1) := fun w' hh => (get4 (HA.out.blw hh).out.box).1
    have A1 : ∀ w', Blw w5 w' → w'.cell? ⟨w.heap.size, 1, none⟩ = some (.slice b.g.a2 B.G.D.n b.g.c2) := fun w' hh => (get4 (HA.out.blw hh).out.box).2.1
    have A2 : ∀ w', Blw w5 w' → w'.cell? ⟨w.heap.size, 2, none⟩ = some (.slice b.h.a1 B.H.n b.h.c1) := fun w' hh => (get4 (HA.out.blw hh).out.box).2.2.1
    have A3 : ∀ w', Blw w5 w' → w'.cell? ⟨w.heap.size, 3, none⟩ = some (.slice b.h.a2 B.H.D.n b.h.c2) := fun w' hh => (get4 (HA.out.blw hh).out.box).2.2.2
    have B0 : ∀ w', Blw w5 w' → w'.cell? ⟨z4, 0, none⟩ = some (.slice b4.g.a1 B.G.n b4.g.c1) := fun w' hh => (get4 (HP4.out.blw hh).out.box).1
    have B1 : ∀ w', Blw w5 w' → w'.cell? ⟨z4, 1, none⟩ = some (.slice b4.g.a2 B.G.D.n b4.g.c2) := fun w' hh => (get4 (HP4.out.blw hh).out.box).2.1
    have B2 : ∀ w', Blw w5 w' → w'.cell? ⟨z4, 2, none⟩ = some (.slice b4.h.a1 B.H.n b4.h.c1) := fun w' hh => (get4 (HP4.out.blw hh).out.box).2.2.1
    have B3 : ∀ w', Blw w5 w' → w'.cell? ⟨z4, 3, none⟩ = some (.slice b4.h.a2 B.H.D.n b4.h.c2) := fun w' hh => (get4 (HP4.out.blw hh).out.box).2.2.2
    go_region_held3 (fun w' => Blw w5 w') ((first | exact (Blw.refl _).drew | assumption | exact Blw.trans (by assumption) (by assumption))) (first
      | (go_at_call 71; refine (toNest_any b B _ _ HS.out (HA.out.blw (by assumption)).out.at_).mono ?_; rintro e w7 ⟨b6, rfl, o6, hb7⟩)
      | (go_at_call 72; refine (eqNest_same b4 b6 B _ (HP4.out.blw (by assumption)).out.own.at o6.at).mono ?_; rintro e w8 ⟨rfl, hb8⟩))
    all_goals go_wp2_with fail
    all_goals go_meet
    all_goals exact ⟨rfl, by assumption⟩
  case rest =>
    obtain ⟨rfl, hb7⟩ := hcut
    have FIN : Hid (Blw w wc) := HB.out.trans hb7
    clear hb7 HB HA HP4
    go_wp2
    go_ret
    exact ⟨rfl, FIN.out⟩
end Go.Proofs.Ytjplodenflkghaa
