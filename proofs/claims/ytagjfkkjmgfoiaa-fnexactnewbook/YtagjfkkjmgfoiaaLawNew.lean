/- The law on NewBook. -/
import Derived.Test.YtagjfkkjmgfoiaaLawI
import Derived.Test.YtagjfkkjmgfoiaaSpecR
namespace Go.Proofs.Ytagjfkkjmgfoiaa
open Go.RowKit
set_option linter.unusedSimpArgs false
set_option linter.unusedVariables false
set_option maxRecDepth 10000 in
set_option maxHeartbeats 6400000 in
theorem lawNewP (ao : Option Addr) (n cc : Nat) (c : Nat → Int) (w : World) (h : IntsAt (fun x => x < w.heap.size) w ao n c) : Calls Try.prog 5 #[.slice ao n cc] w fun e w' => e = .returned (.bool true) ∧ Blw w w' := by
  have hn63 := h.1
  have HA : Hid (St (fun x => x < w.heap.size) (fun W => IntsAt (fun x => x < w.heap.size) W ao n c) w) := IntsAt.st h (fun x hx => hx)
  clear h
  by_cases hbig : n ≤ 1048576
  · have hbig' : ¬ (1048576 : Int) < n := by omega
    go_enter Try.func5, Try.ntmps5
    go_wp2_with fail
    refine (toIntS_any _ _ n c _ _ hbig HA.out.out).mono ?_
    rintro e w2 ⟨rfl, row2, hb2⟩
    replace HA : Hid (St (fun x => x < w.heap.size) (fun W => IntsAt (fun x => x < w.heap.size) W ao n c) w2) := HA.out.blw hb2
    have at2 : IntsAt (fun x => x = w.heap.size) w2 (some ⟨w.heap.size, 0, none⟩) n c := ⟨by omega, fun i hi => ⟨_, 0, rfl, rfl, by rw [Nat.zero_add]; exact row2.cell hi⟩⟩
    have HAT : Hid (IntsAt (fun x => x = w.heap.size) w2 (some ⟨w.heap.size, 0, none⟩) n c) := at2
    clear row2 at2
    go_wp2_with fail
    refine (specNew_any _ n n c _ _ hbig HAT.out).mono ?_
    rintro e w3 ⟨b3, R, r3, rfl, ho3, hs3, own3, hb3⟩
    have HO3 : Hid (nbOut n c R r3) := ho3
    have HSR : Hid (R.n + R.k ≤ 1048576) := hs3
    have hA3 : Blw w3 (w3.alloc (.cells #[.slice b3.a1 R.n b3.c1, .slice b3.a2 R.k b3.c2] 26)) := (Blw.refl _).alloc _
    have HP3 : Hid (St (fun x => x < w3.heap.size + 1) (BB (fun x => x < w3.heap.size + 1) w3.heap.size b3 R R) (w3.alloc (.cells #[.slice b3.a1 R.n b3.c1, .slice b3.a2 R.k b3.c2] 26))) := BB.st ⟨(own3.blw hA3).mono (fun x hx => ⟨by omega, by omega⟩), box2 w3 _ _ 26⟩ (by omega) (fun x hx => by simp; omega)
    replace HA : Hid (St (fun x => x < w.heap.size) (fun W => IntsAt (fun x => x < w.heap.size) W ao n c) (w3.alloc (.cells #[.slice b3.a1 R.n b3.c1, .slice b3.a2 R.k b3.c2] 26))) := HA.out.blw (hb3.trans hA3)
    have HZ3 : Hid (w.heap.size ≤ w3.heap.size + 1) := by have := hb2.size; have := hb3.size; show _ ≤ _; omega
    replace hb3 : Blw w (w3.alloc (.cells #[.slice b3.a1 R.n b3.c1, .slice b3.a2 R.k b3.c2] 26)) := (hb2.trans hb3).trans hA3
    clear hb2 own3 ho3 hs3 hA3 HAT
    go_wp2_with fail
    refine (toIntS_any _ _ n c _ _ hbig HA.out.out).mono ?_
    rintro e w4 ⟨rfl, row4, hb4⟩
    have z34 := hb4.size
    have hr4 := row4.lt
    simp only [World.size_alloc] at z34 hr4 row4
    have HP4 : Hid (St (fun x => w3.heap.size + 1 ≤ x ∧ x < w4.heap.size) (fun W => IntsOwn (fun x => w3.heap.size + 1 ≤ x ∧ x < w4.heap.size) W (some ⟨w3.heap.size + 1, 0, none⟩) n c) w4) := IntsOwn.st ⟨by omega, fun _ => ⟨_, by omega, rfl, row4⟩⟩ (fun x hx => hx.2)
    replace HA : Hid (St (fun x => x < w.heap.size) (fun W => IntsAt (fun x => x < w.heap.size) W ao n c) w4) := HA.out.blw hb4
    replace HP3 : Hid (St (fun x => x < w3.heap.size + 1) (BB (fun x => x < w3.heap.size + 1) w3.heap.size b3 R R) w4) := HP3.out.blw hb4
    replace hb4 := hb3.trans hb4
    clear hb3 row4
    go_wp2_with fail
    refine (implNew_any _ n n c _ _ HP4.out.out.at (fun x hx => hx.2)).mono ?_
    rintro e w5 ⟨b5, R5, r5, rfl, ho5, hs5, own5, hb5⟩
    obtain ⟨eR, er⟩ := nbOut_same ho5 HO3.out
    subst eR er
    have hA5 : Blw w5 (w5.alloc (.cells #[.slice b5.a1 R5.n b5.c1, .slice b5.a2 R5.k b5.c2] 26)) := (Blw.refl _).alloc _
    have z45 := hb5.size
    have HL : Hid (LawF w (w5.alloc (.cells #[.slice b5.a1 R5.n b5.c1, .slice b5.a2 R5.k b5.c2] 26)) w.heap.size (w3.heap.size + 1) w4.heap.size (w5.heap.size + 1) (fun W => IntsAt (fun x => x < w.heap.size) W ao n c) (BB (fun x => x < w3.heap.size + 1) w3.heap.size b3 R5 R5) (fun W => IntsOwn (fun x => w3.heap.size + 1 ≤ x ∧ x < w4.heap.size) W (some ⟨w3.heap.size + 1, 0, none⟩) n c) (BB (fun x => w4.heap.size ≤ x ∧ x < w5.heap.size + 1) w5.heap.size b5 R5 R5)) := by
      have k := hb5.trans hA5
      have h3 := HZ3.out
      exact ⟨hb4.trans k, HA.out.blw k, HP3.out.blw k, HP4.out.blw k, BB.st ⟨(own5.blw hA5).mono (fun x hx => ⟨⟨by omega, by omega⟩, by omega⟩), box2 w5 _ _ 26⟩ ⟨z45, by omega⟩ (fun x hx => by simp; omega), by simp only [World.size_alloc]; omega⟩
    have HZ5 : Hid (w4.heap.size ≤ w5.heap.size) := z45
    clear HA HP3 HP4 hb4 hb5 own5 hA5 z45 z34 hr4 ho5 hs5 HZ3
    have hne : (r5 != r5) = false := by simp
    obtain ⟨s0, s1⟩ := get2 HL.out.p3.out.box
    go_wp2_with fail
    clear s0 s1
    refine (eqBook_same b5 b3 R5 _ HL.out.p5.out.own.at HL.out.p3.out.own.at).mono ?_
    rintro e w6 ⟨rfl, hb6⟩
    replace HL : Hid (LawF w w6 _ _ _ _ _ _ _ _) := HL.out.blw hb6
    clear hb6
    generalize w3.heap.size = z3 at *
    generalize w4.heap.size = z4 at *
    generalize w5.heap.size = z5 at *
    clear w2 w3 w4 w5
    go_wp2_with fail
    refine (toIntS_any _ _ n c _ _ hbig HL.out.p1.out).mono ?_
    rintro e w7 ⟨rfl, row7, hb7⟩
    have HAT : Hid (IntsAt (fun x => x = w6.heap.size) w7 (some ⟨w6.heap.size, 0, none⟩) n c) := ⟨by omega, fun i hi => ⟨_, 0, rfl, rfl, by rw [Nat.zero_add]; exact row7.cell hi⟩⟩
    replace HL : Hid (LawF w w7 _ _ _ _ _ _ _ _) := HL.out.blw hb7
    clear hb7 row7
    go_wp2_with fail
    refine (eqIntS_same _ _ _ _ n c _ HL.out.p4.out.at HAT.out).mono ?_
    rintro e w8 ⟨rfl, dq, rfl⟩
    replace HL : Hid (LawF w (w7.drewN dq) _ _ _ _ _ _ _ _) := HL.out.blw (drewN_blw w7 dq)
    clear HAT
    revert HL
    generalize w7.drewN dq = w8
    intro HL
    go_wp2_with fail
    refine (markIntS_any _ _ n c _ 1 _ (by omega) (by omega) HL.out.p4.out).mono ?_
    rintro e w9 ⟨rfl, own4, hm9⟩
    have h9 := hm9.size
    replace HL : Hid (LawF w w9 _ _ _ _ _ _ _ _) := HL.out.mark4 (P4' := fun W => IntsOwn (fun x => z3 + 1 ≤ x ∧ x < z4) W (some ⟨z3 + 1, 0, none⟩) n (fun i => 1 + (i : Int))) hm9 (fun x hx => hx.1) (IntsOwn.st own4 (fun x hx => by have := HL.out.o; omega))
    clear own4 hm9 h9
    have k1 : ¬ (1 + (n : Int) < 0) := by omega
    obtain ⟨p0, p1⟩ := get2 HL.out.p5.out.box
    obtain ⟨s0, s1⟩ := get2 HL.out.p3.out.box
    go_wp2_with fail
    clear p0 p1 s0 s1
    refine (eqBook_same b5 b3 R5 _ HL.out.p5.out.own.at HL.out.p3.out.own.at).mono ?_
    rintro e w10 ⟨rfl, hb10⟩
    replace HL : Hid (LawF w w10 _ _ _ _ _ _ _ _) := HL.out.blw hb10
    clear hb10 k1
    obtain ⟨p0, p1⟩ := get2 HL.out.p5.out.box
    go_wp2_with fail
    clear p0 p1
    refine (markBook_any b5 R5 _ _ HSR.out (fun x hx => by have := HL.out.o; omega) HL.out.p5.out.own).mono ?_
    rintro e w11 ⟨rfl, own5, hm11⟩
    have bx5 := HL.out.p5.out.box.mod hm11 (fun hh => hh.2 rfl)
    have h11 := hm11.size
    replace HL : Hid (LawF w w11 _ _ _ _ _ _ _ _) := HL.out.mark5 (P5' := BB (fun x => z4 ≤ x ∧ x < z5 + 1) z5 b5 R5 (R5.marked 1)) hm11 (fun x hx => hx.1) (BB.st ⟨own5, bx5⟩ ⟨HZ5.out, by omega⟩ (fun x hx => by have := HL.out.o; omega))
    clear own5 hm11 bx5 h11
    have htR : R5.total ≤ 2097152 := by have := HSR.out; unfold BD.total; omega
    have k1 : ¬ (1 + (R5.total : Int) < 0) := by omega
    have k2 : ((1 + (R5.total : Int)) != (1 + (R5.total : Int))) = false := by simp
    obtain ⟨p0, p1⟩ := get2 HL.out.p5.out.box
    go_wp2_with fail
    clear p0 p1
    refine (heldBook_any b5 R5 _ _ HSR.out HL.out.p5.out.own).mono ?_
    rintro e w12 ⟨rfl, hb12⟩
    replace HL : Hid (LawF w w12 _ _ _ _ _ _ _ _) := HL.out.blw hb12
    clear hb12
    go_wp2_with fail
    refine (toIntS_any _ _ n c _ _ hbig HL.out.p1.out).mono ?_
    rintro e w13 ⟨rfl, row13, hb13⟩
    have HAT : Hid (IntsAt (fun x => x = w12.heap.size) w13 (some ⟨w12.heap.size, 0, none⟩) n c) := ⟨by omega, fun i hi => ⟨_, 0, rfl, rfl, by rw [Nat.zero_add]; exact row13.cell hi⟩⟩
    have hl13 := row13.lt
    replace HL : Hid (LawF w w13 _ _ _ _ _ _ _ _) := HL.out.blw hb13
    clear hb13 row13
    go_wp2_with fail
    refine (implNew_any _ n n c _ _ HAT.out (fun x hx => by omega)).mono ?_
    rintro e w14 ⟨b8, R8, r8, rfl, ho8, hs8, own8, hb14⟩
    obtain ⟨eR, er⟩ := nbOut_same ho8 HO3.out
    subst eR er
    have hA8 : Blw w14 (w14.alloc (.cells #[.slice b8.a1 R8.n b8.c1, .slice b8.a2 R8.k b8.c2] 26)) := (Blw.refl _).alloc _
    replace HL : Hid (LawF w (w14.alloc (.cells #[.slice b8.a1 R8.n b8.c1, .slice b8.a2 R8.k b8.c2] 26)) _ _ _ _ _ _ _ _) := HL.out.blw (hb14.trans hA8)
    have HO8 : Hid (BookOwn _ _ b8 R8) := own8.blw hA8
    clear HAT hb14 ho8 hs8 own8 hA8 hl13
    obtain ⟨s0, s1⟩ := get2 HL.out.p3.out.box
    go_wp2_with fail
    clear s0 s1
    refine (eqBook_same b8 b3 R8 _ HO8.out.at HL.out.p3.out.own.at).mono ?_
    rintro e w15 ⟨rfl, hb15⟩
    replace HL : Hid (LawF w w15 _ _ _ _ _ _ _ _) := HL.out.blw hb15
    clear hb15 HO8
    obtain ⟨p0, p1⟩ := get2 HL.out.p5.out.box
    go_wp2_with fail
    clear p0 p1
    refine (heldBook_any b5 R8 _ _ HSR.out HL.out.p5.out.own).mono ?_
    rintro e w16 ⟨rfl, hb16⟩
    replace HL : Hid (LawF w w16 _ _ _ _ _ _ _ _) := HL.out.blw hb16
    clear hb16
    go_wp2
    go_ret
    exact ⟨rfl, HL.out.hB⟩
  · have hbig' : (1048576 : Int) < n := by omega
    go_enter Try.func5, Try.ntmps5
    go_wp2
    go_ret
    exact ⟨rfl, Blw.refl _⟩
end Go.Proofs.Ytagjfkkjmgfoiaa
