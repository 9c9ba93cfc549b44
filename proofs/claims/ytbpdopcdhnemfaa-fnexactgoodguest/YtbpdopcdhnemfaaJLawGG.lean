/- The law on GoodGuest. -/
import Derived.Test.YtbpdopcdhnemfaaJIg
namespace Go.Proofs.Ytbpdopcdhnemfaa
open Go.RowKit
set_option linter.unusedSimpArgs false
set_option linter.unusedVariables false
set_option maxRecDepth 10000 in
set_option maxHeartbeats 6400000 in
theorem lawGG (g0 : GV) (D0 : GD) (w : World) (hg0 : GAt (fun x => x < w.heap.size) w g0 D0) : Calls Try.prog 9 #[g0.val D0] w fun e w' => e = .returned (.bool true) ∧ Blw w w' := by
  have HB : Hid (Blw w (w.alloc (.cells #[.int .i64 D0.at_, .int .i64 D0.acc, .slice g0.a1 D0.nc g0.c1, .slice g0.a2 D0.nt g0.c2, .bool D0.d] 94))) := ((Blw.refl _).alloc _)
  have HG0 : Hid (St (fun x => x < w.heap.size + 1) (ArgG w.heap.size w.heap.size g0 D0) (w.alloc (.cells #[.int .i64 D0.at_, .int .i64 D0.acc, .slice g0.a1 D0.nc g0.c1, .slice g0.a2 D0.nt g0.c2, .bool D0.d] 94))) := ArgG.st ⟨hg0.blw HB.out, row5 w _ _ _ _ _ 94⟩ (by omega) (by omega) (by (try simp only [World.size_alloc]); omega)
  clear hg0
  go_enter Try.func9, Try.ntmps9
  obtain ⟨p00, p01, p02, p03, p04⟩ := get5 HG0.out.out.box
  go_wp2_with fail
  clear p00 p01 p02 p03 p04
  generalize w.alloc (.cells #[.int .i64 D0.at_, .int .i64 D0.acc, .slice g0.a1 D0.nc g0.c1, .slice g0.a2 D0.nt g0.c2, .bool D0.d] 94) = w1 at *
  refine (szGuest_any g0 D0 _ 1048576 _ (by omega) (by omega) HG0.out.out.at_).mono ?_
  rintro e w2 ⟨s0, rfl, hr, hb⟩
  replace HG0 : Hid (St (fun x => x < w.heap.size + 1) (ArgG w.heap.size w.heap.size g0 D0) w2) := HG0.out.blw hb
  replace HB : Hid (Blw w w2) := HB.out.trans hb
  clear hb
  rcases hr with rfl | ⟨u0, u1⟩
  · go_wp2
    go_ret
    exact ⟨rfl, HB.out⟩
  have hr0 : ¬ s0 < 0 := by omega
  have SM0 : Hid (D0.small) := by show D0.small; unfold GD.small; omega
  have hsl0 : s0 ≤ 1048576 := by omega
  clear u1
  have HD : Hid True := trivial
  obtain ⟨p00, p01, p02, p03, p04⟩ := get5 HG0.out.out.box
  go_wp2_with fail
  clear p00 p01 p02 p03 p04
  refine (toGuest_any g0 D0 _ _ SM0.out HG0.out.out.at_).mono ?_
  rintro e w3 ⟨v20, rfl, own, hb⟩
  try clear hr0
  have hz := hb.size
  replace HG0 : Hid (St (fun x => x < w.heap.size + 1) (ArgG w.heap.size w.heap.size g0 D0) w3) := HG0.out.blw hb
  replace HB : Hid (Blw w w3) := HB.out.trans hb
  have H2G0 : Hid (St (fun x => x < w3.heap.size) (fun W => GAt (fun x => x < w3.heap.size) W v20 D0) w3) := GAt.st (own.at.mono (fun x hx => hx.2)) (fun x hx => hx)
  clear hb own hz
  go_wp2_with fail
  refine (specGoodG_any v20 D0 _ _ H2G0.out.out).mono ?_
  rintro e w4 ⟨b3, rfl, ho, hb⟩
  clear H2G0
  have hz := hb.size
  have HN0 : Hid (w.heap.size + 1 ≤ w4.heap.size) := by have h1 := HG0.out.1 (w.heap.size + 0) (by omega); show _ ≤ _; omega
  have HO3 : Hid (bIff D0.Good b3) := ho
  replace HG0 : Hid (St (fun x => x < w.heap.size + 1) (ArgG w.heap.size w.heap.size g0 D0) w4) := HG0.out.blw hb
  replace HB : Hid (Blw w w4) := HB.out.trans hb
  clear hb hz ho
  obtain ⟨p00, p01, p02, p03, p04⟩ := get5 HG0.out.out.box
  go_wp2_with fail
  clear p00 p01 p02 p03 p04
  refine (toGuest_any g0 D0 _ _ SM0.out HG0.out.out.at_).mono ?_
  rintro e w5 ⟨v40, rfl, own, hb⟩
  try clear hr0
  have hz := hb.size
  have hA : Blw w5 (w5.alloc (.cells #[.int .i64 D0.at_, .int .i64 D0.acc, .slice v40.a1 D0.nc v40.c1, .slice v40.a2 D0.nt v40.c2, .bool D0.d] 61)) := (Blw.refl _).alloc _
  have HN1 : Hid (w4.heap.size ≤ w4.heap.size ∧ w4.heap.size ≤ w5.heap.size) := ⟨by have o0 := HN0.out; omega, hz⟩
  have h4G0 : BBG (fun x => w4.heap.size ≤ x ∧ x < w5.heap.size + 1) w5.heap.size v40 D0 D0 (w5.alloc (.cells #[.int .i64 D0.at_, .int .i64 D0.acc, .slice v40.a1 D0.nc v40.c1, .slice v40.a2 D0.nt v40.c2, .bool D0.d] 61)) := ⟨(own.blw hA).mono (fun x hx => by have ho := HN1.out; exact ⟨⟨by omega, by omega⟩, by omega⟩), row5 w5 _ _ _ _ _ 61⟩
  replace HG0 : Hid (St (fun x => x < w.heap.size + 1) (ArgG w.heap.size w.heap.size g0 D0) (w5.alloc (.cells #[.int .i64 D0.at_, .int .i64 D0.acc, .slice v40.a1 D0.nc v40.c1, .slice v40.a2 D0.nt v40.c2, .bool D0.d] 61))) := HG0.out.blw (hb.trans hA)
  replace HB : Hid (Blw w (w5.alloc (.cells #[.int .i64 D0.at_, .int .i64 D0.acc, .slice v40.a1 D0.nc v40.c1, .slice v40.a2 D0.nt v40.c2, .bool D0.d] 61))) := HB.out.trans (hb.trans hA)
  have H4G0 : Hid (St (fun x => w4.heap.size ≤ x ∧ x < w5.heap.size + 1) (BBG (fun x => w4.heap.size ≤ x ∧ x < w5.heap.size + 1) w5.heap.size v40 D0 D0) (w5.alloc (.cells #[.int .i64 D0.at_, .int .i64 D0.acc, .slice v40.a1 D0.nc v40.c1, .slice v40.a2 D0.nt v40.c2, .bool D0.d] 61))) := BBG.st h4G0 (by have ho := HN1.out; exact ⟨by omega, by omega⟩) (fun x hx => by simp only [World.size_alloc]; omega)
  clear hb hA own hz h4G0
  obtain ⟨p00, p01, p02, p03, p04⟩ := get5 H4G0.out.out.box
  go_wp2_with fail
  clear p00 p01 p02 p03 p04
  have HN2 : Hid (w5.heap.size + 1 ≤ (w5.alloc (.cells #[.int .i64 D0.at_, .int .i64 D0.acc, .slice v40.a1 D0.nc v40.c1, .slice v40.a2 D0.nt v40.c2, .bool D0.d] 61)).heap.size) := by show _ ≤ _; simp only [World.size_alloc]; have o0 := HN0.out; have o1 := HN1.out; omega
  generalize w5.alloc (.cells #[.int .i64 D0.at_, .int .i64 D0.acc, .slice v40.a1 D0.nc v40.c1, .slice v40.a2 D0.nt v40.c2, .bool D0.d] 61) = w6 at *
  refine (implGoodG_any v40 D0 _ _ H4G0.out.out.own.at (fun x hx => by have := H4G0.out.1 x hx.1; omega)).mono ?_
  rintro e w7 ⟨b5, rfl, ho, hb⟩
  have hz := hb.size
  obtain rfl := bIff_same ho HO3.out
  replace HG0 : Hid (St (fun x => x < w.heap.size + 1) (ArgG w.heap.size w.heap.size g0 D0) w7) := HG0.out.blw hb
  replace H4G0 : Hid (St (fun x => w4.heap.size ≤ x ∧ x < w5.heap.size + 1) (BBG (fun x => w4.heap.size ≤ x ∧ x < w5.heap.size + 1) w5.heap.size v40 D0 D0) w7) := H4G0.out.blw hb
  replace HB : Hid (Blw w w7) := HB.out.trans hb
  clear hb hz ho
  have hne : (b5 != b5) = false := by simp
  go_upto_region 10 with fail
  go_cut [26] from 22 to 26 (fun c wx => c = .bool false ∧ Blw w7 wx)
  case first =>
    have A0 : ∀ w', Blw w7 w' → w'.cell? ⟨w.heap.size, 0, none⟩ = some (.int .i64 D0.at_) := fun w' hh => (get5 (HG0.out.blw hh).out.box).1
    have A1 : ∀ w', Blw w7 w' → w'.cell? ⟨w.heap.size, 1, none⟩ = some (.int .i64 D0.acc) := fun w' hh => (get5 (HG0.out.blw hh).out.box).2.1
    have A2 : ∀ w', Blw w7 w' → w'.cell? ⟨w.heap.size, 2, none⟩ = some (.slice g0.a1 D0.nc g0.c1) := fun w' hh => (get5 (HG0.out.blw hh).out.box).2.2.1
    have A3 : ∀ w', Blw w7 w' → w'.cell? ⟨w.heap.size, 3, none⟩ = some (.slice g0.a2 D0.nt g0.c2) := fun w' hh => (get5 (HG0.out.blw hh).out.box).2.2.2.1
    have A4 : ∀ w', Blw w7 w' → w'.cell? ⟨w.heap.size, 4, none⟩ = some (.bool D0.d) := fun w' hh => (get5 (HG0.out.blw hh).out.box).2.2.2.2
    have B0 : ∀ w', Blw w7 w' → w'.cell? ⟨w5.heap.size, 0, none⟩ = some (.int .i64 D0.at_) := fun w' hh => (get5 (H4G0.out.blw hh).out.box).1
    have B1 : ∀ w', Blw w7 w' → w'.cell? ⟨w5.heap.size, 1, none⟩ = some (.int .i64 D0.acc) := fun w' hh => (get5 (H4G0.out.blw hh).out.box).2.1
    have B2 : ∀ w', Blw w7 w' → w'.cell? ⟨w5.heap.size, 2, none⟩ = some (.slice v40.a1 D0.nc v40.c1) := fun w' hh => (get5 (H4G0.out.blw hh).out.box).2.2.1
    have B3 : ∀ w', Blw w7 w' → w'.cell? ⟨w5.heap.size, 3, none⟩ = some (.slice v40.a2 D0.nt v40.c2) := fun w' hh => (get5 (H4G0.out.blw hh).out.box).2.2.2.1
    have B4 : ∀ w', Blw w7 w' → w'.cell? ⟨w5.heap.size, 4, none⟩ = some (.bool D0.d) := fun w' hh => (get5 (H4G0.out.blw hh).out.box).2.2.2.2
    go_region_held3 (fun w' => Blw w7 w') ((first | exact (Blw.refl _).drew | assumption | exact Blw.trans (by assumption) (by assumption))) (first
      | (go_at_call 72; refine (toGuest_any g0 D0 _ _ SM0.out (HG0.out.blw (by assumption)).out.at_).mono ?_; rintro e w70 ⟨v6, rfl, o6, hb7⟩)
      | (go_at_call 73; refine (eqGuest_same v40 v6 D0 _ (H4G0.out.blw (by assumption)).out.own.at o6.at).mono ?_; rintro e w80 ⟨rfl, hb8⟩))
    all_goals go_wp2_with fail
    all_goals go_meet
    all_goals exact ⟨rfl, by assumption⟩
  case rest =>
    obtain ⟨rfl, hb⟩ := hcut
    replace HG0 : Hid (St (fun x => x < w.heap.size + 1) (ArgG w.heap.size w.heap.size g0 D0) wc) := HG0.out.blw hb
    replace H4G0 : Hid (St (fun x => w4.heap.size ≤ x ∧ x < w5.heap.size + 1) (BBG (fun x => w4.heap.size ≤ x ∧ x < w5.heap.size + 1) w5.heap.size v40 D0 D0) wc) := H4G0.out.blw hb
    replace HB : Hid (Blw w wc) := HB.out.trans hb
    clear hb
    generalize wc = w8 at *
    go_wp2
    go_ret
    exact ⟨rfl, HB.out⟩
end Go.Proofs.Ytbpdopcdhnemfaa
