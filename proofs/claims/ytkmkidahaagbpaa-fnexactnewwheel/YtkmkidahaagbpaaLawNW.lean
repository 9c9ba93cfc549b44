/- The law on NewWheel. -/
import Derived.Test.YtkmkidahaagbpaaNw
namespace Go.Proofs.Ytkmkidahaagbpaa
open Go.RowKit
set_option linter.unusedSimpArgs false
set_option linter.unusedVariables false
set_option maxRecDepth 10000 in
set_option maxHeartbeats 3200000 in
theorem lawNewP (k : Int) (w : World) : Calls Try.prog 5 #[.int .i64 k] w fun e w' => e = .returned (.bool true) ∧ Blw w w' := by
  go_enter Try.func5, Try.ntmps5
  go_wp2_with fail
  refine (specNew_any k _).mono ?_
  rintro e w1 ⟨b1, R, r, rfl, ho, hs, own1, hb1⟩
  have HO : Hid (newOut k R r) := ho
  have HS : Hid (WD.small R) := hs
  have hA1 : Blw w1 (w1.alloc (.cells #[.int .i64 R.now, .slice b1.a1 R.N.n b1.c1, .slice b1.a2 R.F.n b1.c2] 25)) := (Blw.refl _).alloc _
  have H1 : Hid (St (fun x => x < w1.heap.size + 1) (BBH (fun x => x < w1.heap.size + 1) w1.heap.size b1 R R) (w1.alloc (.cells #[.int .i64 R.now, .slice b1.a1 R.N.n b1.c1, .slice b1.a2 R.F.n b1.c2] 25))) := BBH.st ⟨(own1.blw hA1).mono (fun x hx => ⟨by omega, by omega⟩), box3 w1 _ _ _ 25⟩ (by omega) (fun x hx => by simp; omega)
  have HB : Hid (Blw w (w1.alloc (.cells #[.int .i64 R.now, .slice b1.a1 R.N.n b1.c1, .slice b1.a2 R.F.n b1.c2] 25))) := hb1.trans hA1
  have HZ1 : Hid (w.heap.size ≤ w1.heap.size) := hb1.size
  clear own1 hb1 hA1 ho hs
  go_wp2_with fail
  refine (implNew_any k _).mono ?_
  rintro e w2 ⟨b2, R2, r2, rfl, ho2, -, own2, hb2⟩
  obtain ⟨eR, er⟩ := newOut_same ho2 HO.out
  subst eR er
  have hA2 : Blw w2 (w2.alloc (.cells #[.int .i64 R2.now, .slice b2.a1 R2.N.n b2.c1, .slice b2.a2 R2.F.n b2.c2] 25)) := (Blw.refl _).alloc _
  have hz2 := hb2.size
  rw [World.size_alloc] at hz2 own2
  have H2 : Hid (St (fun x => w1.heap.size + 1 ≤ x ∧ x < w2.heap.size + 1) (BBH (fun x => w1.heap.size + 1 ≤ x ∧ x < w2.heap.size + 1) w2.heap.size b2 R2 R2) (w2.alloc (.cells #[.int .i64 R2.now, .slice b2.a1 R2.N.n b2.c1, .slice b2.a2 R2.F.n b2.c2] 25))) := BBH.st ⟨(own2.blw hA2).mono (fun x hx => ⟨⟨by omega, by omega⟩, by omega⟩), box3 w2 _ _ _ 25⟩ ⟨hz2, by omega⟩ (fun x hx => by simp; omega)
  replace H1 : Hid (St (fun x => x < w1.heap.size + 1) (BBH (fun x => x < w1.heap.size + 1) w1.heap.size b1 R2 R2) (w2.alloc (.cells #[.int .i64 R2.now, .slice b2.a1 R2.N.n b2.c1, .slice b2.a2 R2.F.n b2.c2] 25))) := H1.out.blw (hb2.trans hA2)
  replace HB : Hid (Blw w (w2.alloc (.cells #[.int .i64 R2.now, .slice b2.a1 R2.N.n b2.c1, .slice b2.a2 R2.F.n b2.c2] 25))) := HB.out.trans (hb2.trans hA2)
  have HZ2 : Hid (w1.heap.size + 1 ≤ w2.heap.size) := hz2
  clear own2 hb2 hA2 hz2 ho2
  have hne : (r2 != r2) = false := by simp
  obtain ⟨s0, s1, s2⟩ := get3 H1.out.out.box
  go_wp2_with fail
  clear s0 s1 s2
  refine (eqWheel_same b2 b1 R2 _ H2.out.out.own.at H1.out.out.own.at).mono ?_
  rintro e w3 ⟨rfl, hb3⟩
  replace H1 : Hid (St _ _ w3) := H1.out.blw hb3
  replace H2 : Hid (St _ _ w3) := H2.out.blw hb3
  replace HB : Hid (Blw w w3) := HB.out.trans hb3
  clear hb3
  have HZ1' := HZ1
  generalize w1.heap.size = z1 at *
  generalize w2.heap.size = z2 at *
  clear w1 w2
  obtain ⟨p0, p1, p2⟩ := get3 H2.out.out.box
  go_wp2_with fail
  clear p0 p1 p2
  refine (markWheel_any b2 R2 _ 1 _ (by omega) (by omega) HS.out (fun x hx => H2.out.1 x hx.1) H2.out.out.own).mono ?_
  rintro e w4 ⟨rfl, own4, hm4⟩
  have bx4 := H2.out.out.box.mod hm4 (fun hh => hh.2 rfl)
  have h4 := hm4.size
  have hz := HZ2.out
  have hz1 := HZ1.out
  replace HB : Hid (Blw w w4) := Mod.blw HB.out hm4 (fun i hi => by omega)
  replace H1 : Hid (St _ _ w4) := H1.out.mod hm4 (fun x hx hh => by have h1 : x < z1 + 1 := hx; omega)
  replace H2 : Hid (St (fun x => z1 + 1 ≤ x ∧ x < z2 + 1) (BBH (fun x => z1 + 1 ≤ x ∧ x < z2 + 1) z2 b2 R2 (R2.marked 1)) w4) := BBH.st ⟨own4, bx4⟩ ⟨hz, by omega⟩ (fun x hx => Nat.lt_of_lt_of_le (H2.out.1 x hx) h4)
  have htR : R2.total ≤ 2097152 := by have h5 : _ ≤ _ := HS.out; unfold WD.total; omega
  have k1 : ¬ (1 + (R2.total : Int) < 0) := by omega
  have k2 : ((1 + (R2.total : Int)) != (1 + (R2.total : Int))) = false := by simp
  clear own4 hm4 bx4 h4 hz hz1
  obtain ⟨p0, p1, p2⟩ := get3 H2.out.out.box
  go_wp2_with fail
  clear p0 p1 p2
  refine (heldWheel_any b2 R2 _ 1 _ (by omega) (by omega) HS.out H2.out.out.own).mono ?_
  rintro e w5 ⟨rfl, hb5⟩
  replace H1 : Hid (St _ _ w5) := H1.out.blw hb5
  replace H2 : Hid (St _ _ w5) := H2.out.blw hb5
  replace HB : Hid (Blw w w5) := HB.out.trans hb5
  clear hb5
  go_wp2_with fail
  refine (implNew_any k _).mono ?_
  rintro e w6 ⟨b6, R6, r6, rfl, ho6, -, own6, hb6⟩
  obtain ⟨eR, er⟩ := newOut_same ho6 HO.out
  subst eR er
  have hA6 : Blw w6 (w6.alloc (.cells #[.int .i64 R6.now, .slice b6.a1 R6.N.n b6.c1, .slice b6.a2 R6.F.n b6.c2] 25)) := (Blw.refl _).alloc _
  replace H1 : Hid (St _ _ (w6.alloc (.cells #[.int .i64 R6.now, .slice b6.a1 R6.N.n b6.c1, .slice b6.a2 R6.F.n b6.c2] 25))) := H1.out.blw (hb6.trans hA6)
  replace H2 : Hid (St _ _ (w6.alloc (.cells #[.int .i64 R6.now, .slice b6.a1 R6.N.n b6.c1, .slice b6.a2 R6.F.n b6.c2] 25))) := H2.out.blw (hb6.trans hA6)
  replace HB : Hid (Blw w (w6.alloc (.cells #[.int .i64 R6.now, .slice b6.a1 R6.N.n b6.c1, .slice b6.a2 R6.F.n b6.c2] 25))) := HB.out.trans (hb6.trans hA6)
  have H6 : Hid (WOwn _ (w6.alloc (.cells #[.int .i64 R6.now, .slice b6.a1 R6.N.n b6.c1, .slice b6.a2 R6.F.n b6.c2] 25)) b6 R6) := own6.blw hA6
  clear own6 hb6 hA6 ho6
  obtain ⟨s0, s1, s2⟩ := get3 H1.out.out.box
  go_wp2_with fail
  clear s0 s1 s2
  refine (eqWheel_same b6 b1 R6 _ H6.out.at H1.out.out.own.at).mono ?_
  rintro e w7 ⟨rfl, hb7⟩
  replace H2 : Hid (St _ _ w7) := H2.out.blw hb7
  replace HB : Hid (Blw w w7) := HB.out.trans hb7
  clear hb7 H6 H1
  obtain ⟨p0, p1, p2⟩ := get3 H2.out.out.box
  go_wp2_with fail
  clear p0 p1 p2
  refine (heldWheel_any b2 R6 _ 1 _ (by omega) (by omega) HS.out H2.out.out.own).mono ?_
  rintro e w8 ⟨rfl, hb8⟩
  replace HB : Hid (Blw w w8) := HB.out.trans hb8
  clear hb8
  go_wp2
  go_ret
  exact ⟨rfl, HB.out⟩
end Go.Proofs.Ytkmkidahaagbpaa
