/- The model's new owners, and the law on NewOwners. -/
import Derived.Test.YtfmmpddknanhbaaImplG
import Derived.Test.YtfmmpddknanhbaaLawI
namespace Go.Proofs.Ytfmmpddknanhbaa
open Go.RowKit
set_option linter.unusedSimpArgs false
set_option linter.unusedVariables false
theorem GivesO.drew {R : BD} {w W : World} {e : Ending} (h : GivesO R w e W) : GivesO R w e W.drew := by
  obtain ⟨b, h1, h2, h3⟩ := h
  exact ⟨b, h1, h2.blw (Blw.refl _).drew, h3.drew⟩
theorem two_rows (w : World) (o : Obj) :
    let W := ((w.alloc o).alloc (.cells (madeCells #[.int .i64 0] 16) 3)).alloc (.cells (madeCells #[.int .i64 0] 16) 3)
    Row W (w.heap.size + 1) 16 (fun _ => .int .i64 0) ∧ Row W (w.heap.size + 1 + 1) 16 (fun _ => .int .i64 0) ∧ Blw w W ∧ W.heap.size = w.heap.size + 1 + 1 + 1 := by
  intro W
  have b2 : Blw ((w.alloc o).alloc (.cells (madeCells #[.int .i64 0] 16) 3)) W := (Blw.refl _).alloc _
  refine ⟨?_, ?_, (((Blw.refl _).alloc _).alloc _).alloc _, by simp [W]⟩
  · have := (Row.made (w.alloc o) (.int .i64 0) 16 3).blw b2
    rw [World.size_alloc] at this
    exact this
  · have := Row.made ((w.alloc o).alloc (.cells (madeCells #[.int .i64 0] 16) 3)) (.int .i64 0) 16 3
    rw [World.size_alloc, World.size_alloc] at this
    exact this
theorem new_fin (w : World) (o : Obj) (x y : Nat) (hx : x = w.heap.size + 1 ∨ x = w.heap.size + 1 + 1) (hy : y = w.heap.size + 1 ∨ y = w.heap.size + 1 + 1) (hne : x ≠ y) :
    GivesO BD.none16 w (.returned ((BV.mk (some ⟨x, 0, none⟩) (some ⟨y, 0, none⟩) 16 16).val BD.none16)) (((w.alloc o).alloc (.cells (madeCells #[.int .i64 0] 16) 3)).alloc (.cells (madeCells #[.int .i64 0] 16) 3)).drew := by
  obtain ⟨r1, r2, hb, hz⟩ := two_rows w o
  have row : ∀ t, t = w.heap.size + 1 ∨ t = w.heap.size + 1 + 1 → Row (((w.alloc o).alloc (.cells (madeCells #[.int .i64 0] 16) 3)).alloc (.cells (madeCells #[.int .i64 0] 16) 3)).drew t 16 (fun _ => .int .i64 0) := fun t ht => by
    rcases ht with rfl | rfl
    · exact r1.blw (Blw.refl _).drew
    · exact r2.blw (Blw.refl _).drew
  have hz' : (((w.alloc o).alloc (.cells (madeCells #[.int .i64 0] 16) 3)).alloc (.cells (madeCells #[.int .i64 0] 16) 3)).drew.heap.size = w.heap.size + 1 + 1 + 1 := hz
  exact ⟨_, rfl, ⟨fun t => t = x, fun t => t = y, fun t ht => ⟨by omega, by omega⟩, fun t ht => by omega, ⟨by show 16 ≤ _; omega, fun _ => ⟨_, rfl, rfl, row x hx⟩⟩, ⟨by show 16 ≤ _; omega, fun _ => ⟨_, rfl, rfl, row y hy⟩⟩⟩, hb.drew⟩
set_option maxHeartbeats 1600000 in
theorem specNew_any (w : World) : Calls Try.prog 41 #[] w (GivesO BD.none16 w) := by
  have hmk := mk16
  go_enter Try.func41, Try.ntmps41
  go_wp2_with fail
  go_region
  all_goals go_wp2
  all_goals first
    | (refine bodyPost_ret (v := (BV.mk (some ⟨w.heap.size + 1, 0, none⟩) (some ⟨w.heap.size + 1 + 1, 0, none⟩) 16 16).val BD.none16) ?_ rfl (new_fin w _ _ _ (by omega) (by omega) (by omega)); simp [results, Try.results41, go_sem]; done)
    | (refine bodyPost_ret (v := (BV.mk (some ⟨w.heap.size + 1 + 1, 0, none⟩) (some ⟨w.heap.size + 1, 0, none⟩) 16 16).val BD.none16) ?_ rfl (new_fin w _ _ _ (by omega) (by omega) (by omega)); simp [results, Try.results41, go_sem]; done)
set_option maxRecDepth 10000 in
set_option maxHeartbeats 3200000 in
theorem lawNewP (w : World) : Calls Try.prog 5 #[] w fun e w' => e = .returned (.bool true) ∧ Blw w w' := by
  go_enter Try.func5, Try.ntmps5
  go_wp2_with fail
  refine (specNew_any _).mono ?_
  rintro e w1 ⟨b1, rfl, own1, hb1⟩
  have hA1 : Blw w1 (w1.alloc (.cells #[.slice b1.a1 16 b1.c1, .slice b1.a2 16 b1.c2] 25)) := (Blw.refl _).alloc _
  have H1 : Hid (St (fun x => x < w1.heap.size + 1) (BB (fun x => x < w1.heap.size + 1) w1.heap.size b1 BD.none16 BD.none16) (w1.alloc (.cells #[.slice b1.a1 16 b1.c1, .slice b1.a2 16 b1.c2] 25))) := BB.st ⟨(own1.blw hA1).mono (fun x hx => ⟨by omega, by omega⟩), box2 w1 _ _ 25⟩ (by omega) (fun x hx => by simp; omega)
  have HB : Hid (Blw w (w1.alloc (.cells #[.slice b1.a1 16 b1.c1, .slice b1.a2 16 b1.c2] 25))) := hb1.trans hA1
  have hz1 : w.heap.size ≤ w1.heap.size := hb1.size
  clear own1 hb1 hA1
  go_wp2_with fail
  refine (implNew_any _).mono ?_
  rintro e w2 ⟨b2, rfl, own2, hb2⟩
  have hA2 : Blw w2 (w2.alloc (.cells #[.slice b2.a1 16 b2.c1, .slice b2.a2 16 b2.c2] 25)) := (Blw.refl _).alloc _
  have hz2 := hb2.size
  rw [World.size_alloc] at hz2 own2
  have H2 : Hid (St (fun x => w1.heap.size + 1 ≤ x ∧ x < w2.heap.size + 1) (BB (fun x => w1.heap.size + 1 ≤ x ∧ x < w2.heap.size + 1) w2.heap.size b2 BD.none16 BD.none16) (w2.alloc (.cells #[.slice b2.a1 16 b2.c1, .slice b2.a2 16 b2.c2] 25))) := BB.st ⟨(own2.blw hA2).mono (fun x hx => ⟨⟨by omega, by omega⟩, by omega⟩), box2 w2 _ _ 25⟩ ⟨hz2, by omega⟩ (fun x hx => by simp; omega)
  replace H1 : Hid (St (fun x => x < w1.heap.size + 1) (BB (fun x => x < w1.heap.size + 1) w1.heap.size b1 BD.none16 BD.none16) (w2.alloc (.cells #[.slice b2.a1 16 b2.c1, .slice b2.a2 16 b2.c2] 25))) := H1.out.blw (hb2.trans hA2)
  replace HB : Hid (Blw w (w2.alloc (.cells #[.slice b2.a1 16 b2.c1, .slice b2.a2 16 b2.c2] 25))) := HB.out.trans (hb2.trans hA2)
  have HZ2 : Hid (w1.heap.size + 1 ≤ w2.heap.size) := hz2
  clear own2 hb2 hA2 hz2
  obtain ⟨s0, s1⟩ := get2 H1.out.out.box
  go_wp2_with fail
  clear s0 s1
  refine (eqBook_same b2 b1 BD.none16 _ H2.out.out.own.at H1.out.out.own.at).mono ?_
  rintro e w3 ⟨rfl, hb3⟩
  replace H1 : Hid (St _ _ w3) := H1.out.blw hb3
  replace H2 : Hid (St _ _ w3) := H2.out.blw hb3
  replace HB : Hid (Blw w w3) := HB.out.trans hb3
  clear hb3
  generalize w1.heap.size = z1 at *
  generalize w2.heap.size = z2 at *
  clear w1 w2
  obtain ⟨p0, p1⟩ := get2 H2.out.out.box
  go_wp2_with fail
  clear p0 p1
  refine (markBook_any b2 BD.none16 _ _ (by show 16 + 16 ≤ _; omega) (fun x hx => H2.out.1 x hx.1) H2.out.out.own).mono ?_
  rintro e w4 ⟨rfl, own4, hm4⟩
  have bx4 := H2.out.out.box.mod hm4 (fun hh => hh.2 rfl)
  have h4 := hm4.size
  have hz := HZ2.out
  replace HB : Hid (Blw w w4) := Mod.blw HB.out hm4 (fun i hi => by omega)
  replace H1 : Hid (St _ _ w4) := H1.out.mod hm4 (fun x hx hh => by have h1 : x < z1 + 1 := hx; omega)
  replace H2 : Hid (St (fun x => z1 + 1 ≤ x ∧ x < z2 + 1) (BB (fun x => z1 + 1 ≤ x ∧ x < z2 + 1) z2 b2 BD.none16 (BD.none16.marked 1)) w4) := BB.st ⟨own4, bx4⟩ ⟨hz, by omega⟩ (fun x hx => Nat.lt_of_lt_of_le (H2.out.1 x hx) h4)
  have htot : BD.none16.total = 32 := rfl
  rw [htot]
  have HT : Hid (BD.none16.total = 32) := htot
  clear own4 hm4 bx4 h4 hz htot
  obtain ⟨p0, p1⟩ := get2 H2.out.out.box
  go_wp2_with fail
  clear p0 p1
  refine (heldBook_any b2 BD.none16 _ _ (by show 16 + 16 ≤ _; omega) H2.out.out.own).mono ?_
  rintro e w5 ⟨rfl, hb5⟩
  rw [HT.out]
  replace H1 : Hid (St _ _ w5) := H1.out.blw hb5
  replace H2 : Hid (St _ _ w5) := H2.out.blw hb5
  replace HB : Hid (Blw w w5) := HB.out.trans hb5
  clear hb5
  go_wp2_with fail
  refine (implNew_any _).mono ?_
  rintro e w6 ⟨b6, rfl, own6, hb6⟩
  have hA6 : Blw w6 (w6.alloc (.cells #[.slice b6.a1 16 b6.c1, .slice b6.a2 16 b6.c2] 25)) := (Blw.refl _).alloc _
  replace H1 : Hid (St _ _ (w6.alloc (.cells #[.slice b6.a1 16 b6.c1, .slice b6.a2 16 b6.c2] 25))) := H1.out.blw (hb6.trans hA6)
  replace H2 : Hid (St _ _ (w6.alloc (.cells #[.slice b6.a1 16 b6.c1, .slice b6.a2 16 b6.c2] 25))) := H2.out.blw (hb6.trans hA6)
  replace HB : Hid (Blw w (w6.alloc (.cells #[.slice b6.a1 16 b6.c1, .slice b6.a2 16 b6.c2] 25))) := HB.out.trans (hb6.trans hA6)
  have H6 : Hid (BookOwn _ (w6.alloc (.cells #[.slice b6.a1 16 b6.c1, .slice b6.a2 16 b6.c2] 25)) b6 BD.none16) := own6.blw hA6
  clear own6 hb6 hA6
  obtain ⟨s0, s1⟩ := get2 H1.out.out.box
  go_wp2_with fail
  clear s0 s1
  refine (eqBook_same b6 b1 BD.none16 _ H6.out.at H1.out.out.own.at).mono ?_
  rintro e w7 ⟨rfl, hb7⟩
  replace H2 : Hid (St _ _ w7) := H2.out.blw hb7
  replace HB : Hid (Blw w w7) := HB.out.trans hb7
  clear hb7 H6 H1
  obtain ⟨p0, p1⟩ := get2 H2.out.out.box
  go_wp2_with fail
  clear p0 p1
  refine (heldBook_any b2 BD.none16 _ _ (by show 16 + 16 ≤ _; omega) H2.out.out.own).mono ?_
  rintro e w8 ⟨rfl, hb8⟩
  rw [HT.out]
  replace HB : Hid (Blw w w8) := HB.out.trans hb8
  clear hb8
  go_wp2
  go_ret
  exact ⟨rfl, HB.out⟩
end Go.Proofs.Ytfmmpddknanhbaa
