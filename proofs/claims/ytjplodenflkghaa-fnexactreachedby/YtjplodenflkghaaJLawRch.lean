/- The law on ReachedBy. -/
import Derived.Test.YtjplodenflkghaaJoin8
namespace Go.Proofs.Ytjplodenflkghaa
open Go.RowKit
set_option linter.unusedSimpArgs false
set_option linter.unusedVariables false
set_option maxRecDepth 10000 in
set_option maxHeartbeats 6400000 in
theorem lawReachP (b : NV) (B : ND) (w : World) (h : NAt (fun x => x < w.heap.size) w b B) : Calls Try.prog 11 #[b.val B] w fun e w' => e = .returned (.bool true) ∧ Blw w w' := by
  have hb0 : Blw w (w.alloc (.cells #[.slice b.g.a1 B.G.n b.g.c1, .slice b.g.a2 B.G.D.n b.g.c2, .slice b.h.a1 B.H.n b.h.c1, .slice b.h.a2 B.H.D.n b.h.c2] 91)) := (Blw.refl _).alloc _
  have HA : Hid (St (fun x => x < w.heap.size + 1) (ArgN w.heap.size w.heap.size b B) (w.alloc (.cells #[.slice b.g.a1 B.G.n b.g.c1, .slice b.g.a2 B.G.D.n b.g.c2, .slice b.h.a1 B.H.n b.h.c1, .slice b.h.a2 B.H.D.n b.h.c2] 91))) := ArgN.st ⟨h.blw hb0, box4 w _ _ _ _ 91⟩ (by omega) (by omega) (by simp)
  clear h
  go_enter Try.func11, Try.ntmps11
  go_wp2_with fail
  refine (szNest_any b B _ 1048576 _ (by omega) (by omega) HA.out.out.at_).mono ?_
  rintro e w1 ⟨r, rfl, hr, hb1⟩
  replace HA : Hid (St (fun x => x < w.heap.size + 1) (ArgN w.heap.size w.heap.size b B) w1) := HA.out.blw hb1
  replace hb1 := hb0.trans hb1
  clear hb0
  rcases hr with rfl | ⟨q0, q1⟩
  · go_wp2
    go_ret
    exact ⟨rfl, hb1⟩
  have hS : ND.small B := ⟨by unfold BD.small; omega, by unfold BD.small; omega⟩
  have HS : Hid (ND.small B) := hS
  obtain ⟨p0, p1, p2, p3⟩ := get4 HA.out.out.box
  clear q1 hS
  go_wp2_with fail
  clear p0 p1 p2 p3
  refine (toNest_any b B _ _ HS.out HA.out.out.at_).mono ?_
  rintro e w2 ⟨b2, rfl, own2, hb2⟩
  replace HA : Hid (St (fun x => x < w.heap.size + 1) (ArgN w.heap.size w.heap.size b B) w2) := HA.out.blw hb2
  replace hb2 := hb1.trans hb2
  clear hb1
  go_wp2_with fail
  refine (specReached_any b2 B _ _ (by have := HS.out.1; unfold BD.small at this; omega) (by have := HS.out.2; unfold BD.small at this; omega) own2.at).mono ?_
  rintro e w3 ⟨a3, n, c3, f, r3, rfl, ho3, hs3, own3, hb3⟩
  have HO3 : Hid (rbOut B.G B.H n f r3) := ho3
  have h21 := HA.out.1 w.heap.size (by omega)
  have h23 := hb3.size
  have HP3 : Hid (St (fun x => x < w3.heap.size) (fun W => IntsAt (fun x => x < w3.heap.size) W a3 n f) w3) := IntsAt.st (own3.at.mono (fun x hx => hx.2)) (fun x hx => hx)
  replace HA : Hid (St (fun x => x < w.heap.size + 1) (ArgN w.heap.size w.heap.size b B) w3) := HA.out.blw hb3
  have HZ3 : Hid (w.heap.size + 1 ≤ w3.heap.size) := by show _ ≤ _; omega
  replace hb3 := hb2.trans hb3
  clear hb2 own2 own3 ho3 h21 h23
  obtain ⟨p0, p1, p2, p3⟩ := get4 HA.out.out.box
  go_wp2_with fail
  clear p0 p1 p2 p3
  refine (toNest_any b B _ _ HS.out HA.out.out.at_).mono ?_
  rintro e w4 ⟨b4, rfl, own4, hb4⟩
  have hA4 : Blw w4 (w4.alloc (.cells #[.slice b4.g.a1 B.G.n b4.g.c1, .slice b4.g.a2 B.G.D.n b4.g.c2, .slice b4.h.a1 B.H.n b4.h.c1, .slice b4.h.a2 B.H.D.n b4.h.c2] 60)) := (Blw.refl _).alloc _
  have z34 := hb4.size
  try rw [World.size_alloc] at z34
  have HP4 : Hid (St (fun x => w3.heap.size ≤ x ∧ x < w4.heap.size + 1) (BBN (fun x => w3.heap.size ≤ x ∧ x < w4.heap.size + 1) w4.heap.size b4 B B) (w4.alloc (.cells #[.slice b4.g.a1 B.G.n b4.g.c1, .slice b4.g.a2 B.G.D.n b4.g.c2, .slice b4.h.a1 B.H.n b4.h.c1, .slice b4.h.a2 B.H.D.n b4.h.c2] 60))) := BBN.st ⟨(own4.blw hA4).mono (fun x hx => by (try simp only [World.size_alloc] at hx); exact ⟨⟨by omega, by omega⟩, by omega⟩), box4 w4 _ _ _ _ 60⟩ ⟨z34, by omega⟩ (fun x hx => by simp; omega)
  replace HA : Hid (St (fun x => x < w.heap.size + 1) (ArgN w.heap.size w.heap.size b B) (w4.alloc (.cells #[.slice b4.g.a1 B.G.n b4.g.c1, .slice b4.g.a2 B.G.D.n b4.g.c2, .slice b4.h.a1 B.H.n b4.h.c1, .slice b4.h.a2 B.H.D.n b4.h.c2] 60))) := HA.out.blw (hb4.trans hA4)
  replace HP3 : Hid (St (fun x => x < w3.heap.size) (fun W => IntsAt (fun x => x < w3.heap.size) W a3 n f) (w4.alloc (.cells #[.slice b4.g.a1 B.G.n b4.g.c1, .slice b4.g.a2 B.G.D.n b4.g.c2, .slice b4.h.a1 B.H.n b4.h.c1, .slice b4.h.a2 B.H.D.n b4.h.c2] 60))) := HP3.out.blw (hb4.trans hA4)
  replace hb4 : Blw w (w4.alloc (.cells #[.slice b4.g.a1 B.G.n b4.g.c1, .slice b4.g.a2 B.G.D.n b4.g.c2, .slice b4.h.a1 B.H.n b4.h.c1, .slice b4.h.a2 B.H.D.n b4.h.c2] 60)) := (hb3.trans hb4).trans hA4
  have HZ4 : Hid (w3.heap.size ≤ w4.heap.size) := z34
  clear hb3 own4 hA4 z34
  go_wp2_with fail
  refine (implReached_any b4 B _ _ HP4.out.out.own.at (fun x hx => by simp; omega)).mono ?_
  rintro e w5 ⟨a5, n5, c5, f5, r5, rfl, ho5, hs5, own5, hb5⟩
  obtain ⟨⟨eR, ef⟩, er⟩ := rbOut_same ho5 HO3.out
  subst eR er
  have z45 := hb5.size
  rw [World.size_alloc] at z45
  have HL : Hid (LawF w w5 (w.heap.size + 1) w3.heap.size (w4.heap.size + 1) w5.heap.size (ArgN w.heap.size w.heap.size b B) (fun W => IntsAt (fun x => x < w3.heap.size) W a3 n5 f) (BBN (fun x => w3.heap.size ≤ x ∧ x < w4.heap.size + 1) w4.heap.size b4 B B) (fun W => IntsOwn (fun x => w4.heap.size + 1 ≤ x ∧ x < w5.heap.size) W a5 n5 f)) := by
    have h3 := HZ3.out
    have h4 := HZ4.out
    exact ⟨hb4.trans hb5, HA.out.blw hb5, HP3.out.blw hb5, HP4.out.blw hb5, IntsOwn.st ((own5.congr ef).mono (fun x hx => by simp only [World.size_alloc] at hx; omega)) (fun x hx => hx.2), by omega⟩
  clear HA HP3 HP4 hb4 hb5 own5 z45 ho5 HZ3 ef
  have hne : (r5 != r5) = false := by simp
  go_wp2_with fail
  refine (eqIntS_same _ _ _ _ n5 f _ HL.out.p5.out.at HL.out.p3.out).mono ?_
  rintro e w6 ⟨rfl, dq, rfl⟩
  have hb6 := drewN_blw w5 dq
  replace HL : Hid (LawF w (w5.drewN dq) _ _ _ _ _ _ _ _) := HL.out.blw hb6
  revert HL
  have hz5 : ∃ z, z = w5.heap.size := ⟨_, rfl⟩
  obtain ⟨z5, hz5⟩ := hz5
  rw [← hz5]
  clear hz5 hb6
  generalize w5.drewN dq = w6
  intro HL
  generalize w3.heap.size = z3 at *
  generalize w4.heap.size = z4 at *
  clear w1 w2 w3 w4
  go_upto_region 10 with fail
  go_cut [45] from 41 to 45 (fun c wx => c = .bool false ∧ Blw w6 wx)
  case first =>
    have A0 : ∀ w', Blw w6 w' → w'.cell? ⟨w.heap.size, 0, none⟩ = some (.slice b.g.a1 B.G.n b.g.c1) := fun w' hh => (get4 (HL.out.blw hh).p1.out.box).1
    have A1 : ∀ w', Blw w6 w' → w'.cell? ⟨w.heap.size, 1, none⟩ = some (.slice b.g.a2 B.G.D.n b.g.c2) := fun w' hh => (get4 (HL.out.blw hh).p1.out.box).2.1
    have A2 : ∀ w', Blw w6 w' → w'.cell? ⟨w.heap.size, 2, none⟩ = some (.slice b.h.a1 B.H.n b.h.c1) := fun w' hh => (get4 (HL.out.blw hh).p1.out.box).2.2.1
    have A3 : ∀ w', Blw w6 w' → w'.cell? ⟨w.heap.size, 3, none⟩ = some (.slice b.h.a2 B.H.D.n b.h.c2) := fun w' hh => (get4 (HL.out.blw hh).p1.out.box).2.2.2
    have B0 : ∀ w', Blw w6 w' → w'.cell? ⟨z4, 0, none⟩ = some (.slice b4.g.a1 B.G.n b4.g.c1) := fun w' hh => (get4 (HL.out.blw hh).p4.out.box).1
    have B1 : ∀ w', Blw w6 w' → w'.cell? ⟨z4, 1, none⟩ = some (.slice b4.g.a2 B.G.D.n b4.g.c2) := fun w' hh => (get4 (HL.out.blw hh).p4.out.box).2.1
    have B2 : ∀ w', Blw w6 w' → w'.cell? ⟨z4, 2, none⟩ = some (.slice b4.h.a1 B.H.n b4.h.c1) := fun w' hh => (get4 (HL.out.blw hh).p4.out.box).2.2.1
    have B3 : ∀ w', Blw w6 w' → w'.cell? ⟨z4, 3, none⟩ = some (.slice b4.h.a2 B.H.D.n b4.h.c2) := fun w' hh => (get4 (HL.out.blw hh).p4.out.box).2.2.2
    go_region_held3 (fun w' => Blw w6 w') ((first | exact (Blw.refl _).drew | assumption | exact Blw.trans (by assumption) (by assumption))) (first
      | (go_at_call 71; refine (toNest_any b B _ _ HS.out (HL.out.blw (by assumption)).p1.out.at_).mono ?_; rintro e w7 ⟨b6, rfl, o6, hb7⟩)
      | (go_at_call 72; refine (eqNest_same b4 b6 B _ (HL.out.blw (by assumption)).p4.out.own.at o6.at).mono ?_; rintro e w8 ⟨rfl, hb8⟩))
    all_goals go_wp2_with fail
    all_goals go_meet
    all_goals exact ⟨rfl, by assumption⟩
  case rest =>
    obtain ⟨rfl, hb7⟩ := hcut
    replace HL : Hid (LawF w wc _ _ _ _ _ _ _ _) := HL.out.blw hb7
    clear hb7 w6
    obtain ⟨p0, p1, p2, p3⟩ := get4 HL.out.p4.out.box
    go_wp2_with fail
    clear p0 p1 p2 p3
    refine (markNest_any b4 B _ _ HS.out (fun x hx => by have := HL.out.o; omega) HL.out.p4.out.own).mono ?_
    rintro e w8 ⟨rfl, own4, hm8⟩
    have bx4 := HL.out.p4.out.box.mod hm8 (fun hh => hh.2 rfl)
    have h8 := hm8.size
    replace HL : Hid (LawF w w8 _ _ _ _ _ _ _ _) := HL.out.mark4 (P4' := BBN (fun x => z3 ≤ x ∧ x < z4 + 1) z4 b4 B (B.marked 1)) hm8 (fun x hx => hx.1) (BBN.st ⟨own4, bx4⟩ ⟨HZ4.out, by omega⟩ (fun x hx => by have := HL.out.o; omega))
    clear own4 hm8 bx4 h8
    have htB : B.total ≤ 8388608 := by have h1 := total_small (HS.out).1; have h2 := total_small (HS.out).2; unfold ND.total; omega
    have k1 : ¬ (1 + (B.total : Int) < 0) := by omega
    go_wp2_with fail
    refine (eqIntS_same _ _ _ _ n5 f _ HL.out.p5.out.at HL.out.p3.out).mono ?_
    rintro e w9 ⟨rfl, dq9, rfl⟩
    replace HL : Hid (LawF w (w8.drewN dq9) _ _ _ _ _ _ _ _) := HL.out.blw (drewN_blw w8 dq9)
    revert HL
    generalize w8.drewN dq9 = w9
    intro HL
    clear k1
    go_wp2_with fail
    refine (markIntS_any _ _ n5 f _ 1 _ (by omega) (by omega) HL.out.p5.out).mono ?_
    rintro e w10 ⟨rfl, own5, hm10⟩
    have h10 := hm10.size
    replace HL : Hid (LawF w w10 _ _ _ _ _ _ _ _) := HL.out.mark5 (P5' := fun W => IntsOwn (fun x => z4 + 1 ≤ x ∧ x < z5) W a5 n5 (fun i => 1 + (i : Int))) hm10 (fun x hx => hx.1) (IntsOwn.st own5 (fun x hx => by have := HL.out.o; omega))
    clear own5 hm10 h10
    have k1 : ¬ (1 + (n5 : Int) < 0) := by omega
    have k2 : ((1 + (n5 : Int)) != (1 + (n5 : Int))) = false := by simp
    go_wp2_with fail
    refine (heldIntS_any _ _ n5 _ 1 _ (by omega) (by omega) HL.out.p5.out.at).mono ?_
    rintro e w11 ⟨rfl, hb11⟩
    replace HL : Hid (LawF w w11 _ _ _ _ _ _ _ _) := HL.out.blw hb11
    clear hb11 w10
    obtain ⟨p0, p1, p2, p3⟩ := get4 HL.out.p1.out.box
    go_wp2_with fail
    clear p0 p1 p2 p3
    refine (toNest_any b B _ _ HS.out HL.out.p1.out.at_).mono ?_
    rintro e w12 ⟨b7, rfl, own7, hb12⟩
    replace HL : Hid (LawF w w12 _ _ _ _ _ _ _ _) := HL.out.blw hb12
    clear hb12
    go_wp2_with fail
    refine (implReached_any b7 B _ _ own7.at (fun x hx => hx.2)).mono ?_
    rintro e w13 ⟨a8, n8, c8, f8, r8, rfl, ho8, hs8, own8, hb13⟩
    obtain ⟨⟨eR, ef⟩, er⟩ := rbOut_same ho8 HO3.out
    subst eR er
    replace HL : Hid (LawF w w13 _ _ _ _ _ _ _ _) := HL.out.blw hb13
    have HO8 : Hid (IntsOwn _ w13 a8 n8 f) := own8.congr ef
    clear own7 hb13 ho8 own8 ef
    go_wp2_with fail
    refine (eqIntS_same _ _ _ _ n8 f _ HO8.out.at HL.out.p3.out).mono ?_
    rintro e w14 ⟨rfl, dq14, rfl⟩
    replace HL : Hid (LawF w (w13.drewN dq14) _ _ _ _ _ _ _ _) := HL.out.blw (drewN_blw w13 dq14)
    revert HL
    generalize w13.drewN dq14 = w14
    intro HL
    clear HO8
    go_wp2_with fail
    refine (heldIntS_any _ _ n8 _ 1 _ (by omega) (by omega) HL.out.p5.out.at).mono ?_
    rintro e w15 ⟨rfl, hb15⟩
    replace HL : Hid (LawF w w15 _ _ _ _ _ _ _ _) := HL.out.blw hb15
    clear hb15
    go_wp2
    go_ret
    exact ⟨rfl, HL.out.hB⟩
end Go.Proofs.Ytjplodenflkghaa
