/- The law on RecoverDeed. -/
import Derived.Test.YtglllnklcnlcjaaLawT
import Derived.Test.YtglllnklcnlcjaaJimpl
namespace Go.Proofs.Ytglllnklcnlcjaa
open Go.RowKit
set_option linter.unusedSimpArgs false
set_option linter.unusedVariables false
set_option maxRecDepth 10000 in
set_option maxHeartbeats 6400000 in
theorem lawRec (m : MV) (M : MD) (w : World) (hm : MemAt (fun x => x < w.heap.size) w m M) : Calls Try.prog 8 #[m.val M] w fun e w' => e = .returned (.bool true) ∧ Blw w w' := by
  have HB : Hid (Blw w (w.alloc (.cells #[.slice m.a1 M.n1 m.c1, .slice m.a2 M.n2 m.c2, .slice m.a3 M.n3 m.c3] 60))) := (Blw.refl _).alloc _
  have HA : Hid (St (fun x => x < w.heap.size + 1) (ArgM w.heap.size w.heap.size m M) (w.alloc (.cells #[.slice m.a1 M.n1 m.c1, .slice m.a2 M.n2 m.c2, .slice m.a3 M.n3 m.c3] 60))) := ArgM.st ⟨hm.blw HB.out, box3 w _ _ _ 60⟩ (by omega) (by omega) (by simp)
  clear hm
  go_enter Try.func8, Try.ntmps8
  go_wp2_with fail
  refine (szMemory_any m M _ 1048576 _ (by omega) (by omega) HA.out.out.at_).mono ?_
  rintro e w1 ⟨r, rfl, hr, hb⟩
  replace HA : Hid (St (fun x => x < w.heap.size + 1) (ArgM w.heap.size w.heap.size m M) w1) := HA.out.blw hb
  replace HB : Hid (Blw w w1) := HB.out.trans hb
  clear hb
  rcases hr with rfl | ⟨q0, q1⟩
  · go_wp2
    go_ret
    exact ⟨rfl, HB.out⟩
  have SM : Hid (M.Small) := small_of (by omega)
  have hr0 : ¬ r < 0 := by omega
  clear q1
  obtain ⟨p00, p01, p02⟩ := get3 HA.out.out.box
  go_wp2_with fail
  clear p00 p01 p02
  refine (toMemory_any m M _ _ SM.out HA.out.out.at_).mono ?_
  rintro e w2 ⟨m2, rfl, own, hb⟩
  try clear hr0
  have C2m : Hid (St (fun x => x < w2.heap.size) (fun W => MemAt (fun x => x < w2.heap.size) W m2 M) w2) := ⟨fun x hx => hx, fun Z w' hm hx => (own.at.mono (fun x hx => hx.2)).mod hm hx⟩
  replace HA : Hid (St (fun x => x < w.heap.size + 1) (ArgM w.heap.size w.heap.size m M) w2) := HA.out.blw hb
  replace HB : Hid (Blw w w2) := HB.out.trans hb
  clear hb own
  have HX : Hid (w.heap.size + 1 ≤ w2.heap.size) := by have h1 := HA.out.1 w.heap.size (by omega); show _ ≤ _; omega
  go_wp2_with fail
  refine (specRecover_any m2 M _ _ C2m.out.out (fun x hx => hx)).mono ?_
  rintro e w3 ⟨m3, R3, b3, rfl, ho, own, hb⟩
  clear C2m
  have hz := hb.size
  try simp only [World.size_alloc] at hz
  try simp only [World.size_alloc] at own
  have HN0 : Hid (w.heap.size + 1 ≤ w3.heap.size) := by have h1 := HA.out.1 w.heap.size (by omega); show _ ≤ _; (try simp only [World.size_alloc] at h1); omega
  have HO3 : Hid (rdOut M R3 b3) := ho
  have hA : Blw w3 (w3.alloc (.cells #[.slice m3.a1 R3.n1 m3.c1, .slice m3.a2 R3.n2 m3.c2, .slice m3.a3 R3.n3 m3.c3] 26)) := (Blw.refl _).alloc _
  have H3 : Hid (St (fun x => x < w3.heap.size + 1) (ArgM w3.heap.size w3.heap.size m3 R3) (w3.alloc (.cells #[.slice m3.a1 R3.n1 m3.c1, .slice m3.a2 R3.n2 m3.c2, .slice m3.a3 R3.n3 m3.c3] 26))) := ArgM.st ⟨(own.blw hA).mono (fun x hx => hx.2), box3 w3 _ _ _ 26⟩ (by omega) (by omega) (by simp)
  replace HA : Hid (St (fun x => x < w.heap.size + 1) (ArgM w.heap.size w.heap.size m M) (w3.alloc (.cells #[.slice m3.a1 R3.n1 m3.c1, .slice m3.a2 R3.n2 m3.c2, .slice m3.a3 R3.n3 m3.c3] 26))) := HA.out.blw (hb.trans hA)
  replace HB : Hid (Blw w (w3.alloc (.cells #[.slice m3.a1 R3.n1 m3.c1, .slice m3.a2 R3.n2 m3.c2, .slice m3.a3 R3.n3 m3.c3] 26))) := HB.out.trans (hb.trans hA)
  clear hb hA own hz ho
  obtain ⟨p00, p01, p02⟩ := get3 HA.out.out.box
  go_wp2_with fail
  clear p00 p01 p02
  refine (toMemory_any m M _ _ SM.out HA.out.out.at_).mono ?_
  rintro e w4 ⟨m4, rfl, own, hb⟩
  try clear hr0
  have hA : Blw w4 (w4.alloc (.cells #[.slice m4.a1 M.n1 m4.c1, .slice m4.a2 M.n2 m4.c2, .slice m4.a3 M.n3 m4.c3] 26)) := (Blw.refl _).alloc _
  have hz := hb.size
  try simp only [World.size_alloc] at hz
  have HN1 : Hid (w3.heap.size + 1 ≤ w4.heap.size) := hz
  have H4m : Hid (St (fun x => w3.heap.size + 1 ≤ x ∧ x < w4.heap.size + 1) (MB (fun x => w3.heap.size + 1 ≤ x ∧ x < w4.heap.size + 1) w4.heap.size m4 M M) (w4.alloc (.cells #[.slice m4.a1 M.n1 m4.c1, .slice m4.a2 M.n2 m4.c2, .slice m4.a3 M.n3 m4.c3] 26))) := MB.st ⟨(own.blw hA).mono (fun x hx => by have hx' := hx; (try simp only [World.size_alloc] at hx'); exact ⟨⟨by omega, by omega⟩, by omega⟩), box3 w4 _ _ _ 26⟩ ⟨hz, by omega⟩ (fun x hx => by simp; omega)
  replace HA : Hid (St (fun x => x < w.heap.size + 1) (ArgM w.heap.size w.heap.size m M) (w4.alloc (.cells #[.slice m4.a1 M.n1 m4.c1, .slice m4.a2 M.n2 m4.c2, .slice m4.a3 M.n3 m4.c3] 26))) := HA.out.blw (hb.trans hA)
  replace H3 : Hid (St (fun x => x < w3.heap.size + 1) (ArgM w3.heap.size w3.heap.size m3 R3) (w4.alloc (.cells #[.slice m4.a1 M.n1 m4.c1, .slice m4.a2 M.n2 m4.c2, .slice m4.a3 M.n3 m4.c3] 26))) := H3.out.blw (hb.trans hA)
  replace HB : Hid (Blw w (w4.alloc (.cells #[.slice m4.a1 M.n1 m4.c1, .slice m4.a2 M.n2 m4.c2, .slice m4.a3 M.n3 m4.c3] 26))) := HB.out.trans (hb.trans hA)
  clear hb hA own hz
  obtain ⟨p00, p01, p02⟩ := get3 H4m.out.out.box
  go_wp2_with fail
  clear p00 p01 p02
  refine (implRecover_any m4 M _ _ H4m.out.out.own.at).mono ?_
  rintro e w5 ⟨m5, R5, b5, rfl, ho, own, hb⟩
  have hz := hb.size
  try simp only [World.size_alloc] at hz
  try simp only [World.size_alloc] at own
  have HN2 : Hid (w4.heap.size + 1 ≤ w5.heap.size) := by have o0 := HN0.out; have o1 := HN1.out; show _ ≤ _; omega
  obtain ⟨eR, eb⟩ := rdOut_same ho HO3.out
  subst eR eb
  have hA : Blw w5 (w5.alloc (.cells #[.slice m5.a1 R5.n1 m5.c1, .slice m5.a2 R5.n2 m5.c2, .slice m5.a3 R5.n3 m5.c3] 26)) := (Blw.refl _).alloc _
  have H5 : Hid (St (fun x => w4.heap.size + 1 ≤ x ∧ x < w5.heap.size + 1) (MB (fun x => w4.heap.size + 1 ≤ x ∧ x < w5.heap.size + 1) w5.heap.size m5 R5 R5) (w5.alloc (.cells #[.slice m5.a1 R5.n1 m5.c1, .slice m5.a2 R5.n2 m5.c2, .slice m5.a3 R5.n3 m5.c3] 26))) := MB.st ⟨(own.blw hA).mono (fun x hx => ⟨⟨by omega, by omega⟩, by omega⟩), box3 w5 _ _ _ 26⟩ ⟨HN2.out, by omega⟩ (fun x hx => by simp; omega)
  replace HA : Hid (St (fun x => x < w.heap.size + 1) (ArgM w.heap.size w.heap.size m M) (w5.alloc (.cells #[.slice m5.a1 R5.n1 m5.c1, .slice m5.a2 R5.n2 m5.c2, .slice m5.a3 R5.n3 m5.c3] 26))) := HA.out.blw (hb.trans hA)
  replace H3 : Hid (St (fun x => x < w3.heap.size + 1) (ArgM w3.heap.size w3.heap.size m3 R5) (w5.alloc (.cells #[.slice m5.a1 R5.n1 m5.c1, .slice m5.a2 R5.n2 m5.c2, .slice m5.a3 R5.n3 m5.c3] 26))) := H3.out.blw (hb.trans hA)
  replace H4m : Hid (St (fun x => w3.heap.size + 1 ≤ x ∧ x < w4.heap.size + 1) (MB (fun x => w3.heap.size + 1 ≤ x ∧ x < w4.heap.size + 1) w4.heap.size m4 M M) (w5.alloc (.cells #[.slice m5.a1 R5.n1 m5.c1, .slice m5.a2 R5.n2 m5.c2, .slice m5.a3 R5.n3 m5.c3] 26))) := H4m.out.blw (hb.trans hA)
  replace HB : Hid (Blw w (w5.alloc (.cells #[.slice m5.a1 R5.n1 m5.c1, .slice m5.a2 R5.n2 m5.c2, .slice m5.a3 R5.n3 m5.c3] 26))) := HB.out.trans (hb.trans hA)
  clear hb hA own hz ho
  have hne : (b5 != b5) = false := by simp
  obtain ⟨p00, p01, p02⟩ := get3 H5.out.out.box
  obtain ⟨p10, p11, p12⟩ := get3 H3.out.out.box
  go_wp2_with fail
  clear p00 p01 p02 p10 p11 p12
  refine (eqMemory_same m5 m3 R5 _ H5.out.out.own.at H3.out.out.at_).mono ?_
  rintro e w6 ⟨rfl, hb⟩
  replace HA : Hid (St (fun x => x < w.heap.size + 1) (ArgM w.heap.size w.heap.size m M) w6) := HA.out.blw hb
  replace H3 : Hid (St (fun x => x < w3.heap.size + 1) (ArgM w3.heap.size w3.heap.size m3 R5) w6) := H3.out.blw hb
  replace H4m : Hid (St (fun x => w3.heap.size + 1 ≤ x ∧ x < w4.heap.size + 1) (MB (fun x => w3.heap.size + 1 ≤ x ∧ x < w4.heap.size + 1) w4.heap.size m4 M M) w6) := H4m.out.blw hb
  replace H5 : Hid (St (fun x => w4.heap.size + 1 ≤ x ∧ x < w5.heap.size + 1) (MB (fun x => w4.heap.size + 1 ≤ x ∧ x < w5.heap.size + 1) w5.heap.size m5 R5 R5) w6) := H5.out.blw hb
  replace HB : Hid (Blw w w6) := HB.out.trans hb
  clear hb
  go_upto_region 10 with fail
  go_cut [45] from 41 to 45 (fun c wx => c = .bool false ∧ Blw w6 wx)
  case first =>
    obtain ⟨A0, A1, A2⟩ := box3_all HA.out.out.box
    obtain ⟨B0, B1, B2⟩ := box3_all H4m.out.out.box
    go_region_held3 (fun w' => Blw w6 w') ((first | exact (Blw.refl _).drew | assumption | exact Blw.trans (by assumption) (by assumption))) (first
      | (go_at_call 39; refine (toMemory_any m M _ _ SM.out (HA.out.blw (by assumption)).out.at_).mono ?_; rintro e w70 ⟨m6, rfl, o6, hb7⟩)
      | (go_at_call 41; refine (eqMemory_same m4 m6 M _ (H4m.out.blw (by assumption)).out.own.at o6.at).mono ?_; rintro e w80 ⟨rfl, hb8⟩))
    all_goals go_wp2_with fail
    all_goals go_meet
    all_goals exact ⟨rfl, by assumption⟩
  case rest =>
    obtain ⟨rfl, hb⟩ := hcut
    replace HA : Hid (St (fun x => x < w.heap.size + 1) (ArgM w.heap.size w.heap.size m M) wc) := HA.out.blw hb
    replace H3 : Hid (St (fun x => x < w3.heap.size + 1) (ArgM w3.heap.size w3.heap.size m3 R5) wc) := H3.out.blw hb
    replace H4m : Hid (St (fun x => w3.heap.size + 1 ≤ x ∧ x < w4.heap.size + 1) (MB (fun x => w3.heap.size + 1 ≤ x ∧ x < w4.heap.size + 1) w4.heap.size m4 M M) wc) := H4m.out.blw hb
    replace H5 : Hid (St (fun x => w4.heap.size + 1 ≤ x ∧ x < w5.heap.size + 1) (MB (fun x => w4.heap.size + 1 ≤ x ∧ x < w5.heap.size + 1) w5.heap.size m5 R5 R5) wc) := H5.out.blw hb
    replace HB : Hid (Blw w wc) := HB.out.trans hb
    clear hb
    have htM : M.total ≤ 1048576 := SM.out.t
    obtain ⟨p00, p01, p02⟩ := get3 H4m.out.out.box
    go_wp2_with fail
    clear p00 p01 p02
    refine (markMemory_any m4 M _ 1 _ (by omega) (by omega) H4m.out.out.own (fun x hx => H4m.out.1 x hx.1)).mono ?_
    rintro e w7 ⟨rfl, own, hm⟩
    have bx4 := H4m.out.out.box.mod hm (fun hh => hh.2 rfl)
    have s4 := hm.size
    replace HA : Hid (St (fun x => x < w.heap.size + 1) (ArgM w.heap.size w.heap.size m M) w7) := HA.out.mod hm (fun x hx hz => by have o0 := HN0.out; have o1 := HN1.out; have o2 := HN2.out; have hz' : w3.heap.size + 1 ≤ x ∧ x < w4.heap.size + 1 := hz.1; have hx' : x < w.heap.size + 1 := hx; omega)
    replace H3 : Hid (St (fun x => x < w3.heap.size + 1) (ArgM w3.heap.size w3.heap.size m3 R5) w7) := H3.out.mod hm (fun x hx hz => by have o0 := HN0.out; have o1 := HN1.out; have o2 := HN2.out; have hz' : w3.heap.size + 1 ≤ x ∧ x < w4.heap.size + 1 := hz.1; have hx' : x < w3.heap.size + 1 := hx; omega)
    replace H5 : Hid (St (fun x => w4.heap.size + 1 ≤ x ∧ x < w5.heap.size + 1) (MB (fun x => w4.heap.size + 1 ≤ x ∧ x < w5.heap.size + 1) w5.heap.size m5 R5 R5) w7) := H5.out.mod hm (fun x hx hz => by have o0 := HN0.out; have o1 := HN1.out; have o2 := HN2.out; have hz' : w3.heap.size + 1 ≤ x ∧ x < w4.heap.size + 1 := hz.1; have hx' : w4.heap.size + 1 ≤ x ∧ x < w5.heap.size + 1 := hx; omega)
    replace HB : Hid (Blw w w7) := Mod.blw HB.out hm (fun x hz => by have o0 := HN0.out; have o1 := HN1.out; have o2 := HN2.out; have hz' : w3.heap.size + 1 ≤ x ∧ x < w4.heap.size + 1 := hz.1; omega)
    replace H4m : Hid (St (fun x => w3.heap.size + 1 ≤ x ∧ x < w4.heap.size + 1) (MB (fun x => w3.heap.size + 1 ≤ x ∧ x < w4.heap.size + 1) w4.heap.size m4 M (M.marked 1)) w7) := MB.st ⟨own, bx4⟩ (by have h9 : w3.heap.size + 1 ≤ w4.heap.size ∧ w4.heap.size < w4.heap.size + 1 := (by have o0 := HN0.out; have o1 := HN1.out; have o2 := HN2.out; omega); exact h9) (fun x hx => Nat.lt_of_lt_of_le (H4m.out.1 x hx) s4)
    clear own hm bx4 s4
    have k1 : ¬ (1 + (M.total : Int) < 0) := by omega
    obtain ⟨p00, p01, p02⟩ := get3 H5.out.out.box
    obtain ⟨p10, p11, p12⟩ := get3 H3.out.out.box
    go_wp2_with fail
    clear p00 p01 p02 p10 p11 p12
    refine (eqMemory_same m5 m3 R5 _ H5.out.out.own.at H3.out.out.at_).mono ?_
    rintro e w8 ⟨rfl, hb⟩
    replace HA : Hid (St (fun x => x < w.heap.size + 1) (ArgM w.heap.size w.heap.size m M) w8) := HA.out.blw hb
    replace H3 : Hid (St (fun x => x < w3.heap.size + 1) (ArgM w3.heap.size w3.heap.size m3 R5) w8) := H3.out.blw hb
    replace H4m : Hid (St (fun x => w3.heap.size + 1 ≤ x ∧ x < w4.heap.size + 1) (MB (fun x => w3.heap.size + 1 ≤ x ∧ x < w4.heap.size + 1) w4.heap.size m4 M (M.marked 1)) w8) := H4m.out.blw hb
    replace H5 : Hid (St (fun x => w4.heap.size + 1 ≤ x ∧ x < w5.heap.size + 1) (MB (fun x => w4.heap.size + 1 ≤ x ∧ x < w5.heap.size + 1) w5.heap.size m5 R5 R5) w8) := H5.out.blw hb
    replace HB : Hid (Blw w w8) := HB.out.trans hb
    clear hb
    clear k1
    have htR : R5.total ≤ 1048576 := by have := rdOut_total HO3.out; omega
    obtain ⟨p00, p01, p02⟩ := get3 H5.out.out.box
    go_wp2_with fail
    clear p00 p01 p02
    refine (markMemory_any m5 R5 _ 1 _ (by omega) (by omega) H5.out.out.own (fun x hx => H5.out.1 x hx.1)).mono ?_
    rintro e w9 ⟨rfl, own, hm⟩
    have bx5 := H5.out.out.box.mod hm (fun hh => hh.2 rfl)
    have s4 := hm.size
    replace HA : Hid (St (fun x => x < w.heap.size + 1) (ArgM w.heap.size w.heap.size m M) w9) := HA.out.mod hm (fun x hx hz => by have o0 := HN0.out; have o1 := HN1.out; have o2 := HN2.out; have hz' : w4.heap.size + 1 ≤ x ∧ x < w5.heap.size + 1 := hz.1; have hx' : x < w.heap.size + 1 := hx; omega)
    replace H3 : Hid (St (fun x => x < w3.heap.size + 1) (ArgM w3.heap.size w3.heap.size m3 R5) w9) := H3.out.mod hm (fun x hx hz => by have o0 := HN0.out; have o1 := HN1.out; have o2 := HN2.out; have hz' : w4.heap.size + 1 ≤ x ∧ x < w5.heap.size + 1 := hz.1; have hx' : x < w3.heap.size + 1 := hx; omega)
    replace H4m : Hid (St (fun x => w3.heap.size + 1 ≤ x ∧ x < w4.heap.size + 1) (MB (fun x => w3.heap.size + 1 ≤ x ∧ x < w4.heap.size + 1) w4.heap.size m4 M (M.marked 1)) w9) := H4m.out.mod hm (fun x hx hz => by have o0 := HN0.out; have o1 := HN1.out; have o2 := HN2.out; have hz' : w4.heap.size + 1 ≤ x ∧ x < w5.heap.size + 1 := hz.1; have hx' : w3.heap.size + 1 ≤ x ∧ x < w4.heap.size + 1 := hx; omega)
    replace HB : Hid (Blw w w9) := Mod.blw HB.out hm (fun x hz => by have o0 := HN0.out; have o1 := HN1.out; have o2 := HN2.out; have hz' : w4.heap.size + 1 ≤ x ∧ x < w5.heap.size + 1 := hz.1; omega)
    replace H5 : Hid (St (fun x => w4.heap.size + 1 ≤ x ∧ x < w5.heap.size + 1) (MB (fun x => w4.heap.size + 1 ≤ x ∧ x < w5.heap.size + 1) w5.heap.size m5 R5 (R5.marked 1)) w9) := MB.st ⟨own, bx5⟩ (by have h9 : w4.heap.size + 1 ≤ w5.heap.size ∧ w5.heap.size < w5.heap.size + 1 := (by have o0 := HN0.out; have o1 := HN1.out; have o2 := HN2.out; omega); exact h9) (fun x hx => Nat.lt_of_lt_of_le (H5.out.1 x hx) s4)
    clear own hm bx5 s4
    have k1 : ¬ (1 + (R5.total : Int) < 0) := by omega
    have k2 : ((1 + (R5.total : Int)) != (1 + (R5.total : Int))) = false := by simp
    obtain ⟨p00, p01, p02⟩ := get3 H5.out.out.box
    go_wp2_with fail
    clear p00 p01 p02
    refine (heldMemory_any m5 R5 _ 1 _ (by omega) (by omega) H5.out.out.own.at).mono ?_
    rintro e w10 ⟨rfl, hb⟩
    replace HA : Hid (St (fun x => x < w.heap.size + 1) (ArgM w.heap.size w.heap.size m M) w10) := HA.out.blw hb
    replace H3 : Hid (St (fun x => x < w3.heap.size + 1) (ArgM w3.heap.size w3.heap.size m3 R5) w10) := H3.out.blw hb
    replace H4m : Hid (St (fun x => w3.heap.size + 1 ≤ x ∧ x < w4.heap.size + 1) (MB (fun x => w3.heap.size + 1 ≤ x ∧ x < w4.heap.size + 1) w4.heap.size m4 M (M.marked 1)) w10) := H4m.out.blw hb
    replace H5 : Hid (St (fun x => w4.heap.size + 1 ≤ x ∧ x < w5.heap.size + 1) (MB (fun x => w4.heap.size + 1 ≤ x ∧ x < w5.heap.size + 1) w5.heap.size m5 R5 (R5.marked 1)) w10) := H5.out.blw hb
    replace HB : Hid (Blw w w10) := HB.out.trans hb
    clear hb
    obtain ⟨p00, p01, p02⟩ := get3 HA.out.out.box
    go_wp2_with fail
    clear p00 p01 p02
    refine (toMemory_any m M _ _ SM.out HA.out.out.at_).mono ?_
    rintro e w11 ⟨m7, rfl, own, hb⟩
    try clear hr0
    have C7m : Hid (St (fun x => x < w11.heap.size) (fun W => MemAt (fun x => x < w11.heap.size) W m7 M) w11) := ⟨fun x hx => hx, fun Z w' hm hx => (own.at.mono (fun x hx => hx.2)).mod hm hx⟩
    replace HA : Hid (St (fun x => x < w.heap.size + 1) (ArgM w.heap.size w.heap.size m M) w11) := HA.out.blw hb
    replace H3 : Hid (St (fun x => x < w3.heap.size + 1) (ArgM w3.heap.size w3.heap.size m3 R5) w11) := H3.out.blw hb
    replace H4m : Hid (St (fun x => w3.heap.size + 1 ≤ x ∧ x < w4.heap.size + 1) (MB (fun x => w3.heap.size + 1 ≤ x ∧ x < w4.heap.size + 1) w4.heap.size m4 M (M.marked 1)) w11) := H4m.out.blw hb
    replace H5 : Hid (St (fun x => w4.heap.size + 1 ≤ x ∧ x < w5.heap.size + 1) (MB (fun x => w4.heap.size + 1 ≤ x ∧ x < w5.heap.size + 1) w5.heap.size m5 R5 (R5.marked 1)) w11) := H5.out.blw hb
    replace HB : Hid (Blw w w11) := HB.out.trans hb
    clear hb own
    go_wp2_with fail
    refine (implRecover_any m7 M _ _ C7m.out.out).mono ?_
    rintro e w12 ⟨m8, R8, b8, rfl, ho, own, hb⟩
    clear C7m
    obtain ⟨eR, eb⟩ := rdOut_same ho HO3.out
    subst eR eb
    have hA : Blw w12 (w12.alloc (.cells #[.slice m8.a1 R8.n1 m8.c1, .slice m8.a2 R8.n2 m8.c2, .slice m8.a3 R8.n3 m8.c3] 26)) := (Blw.refl _).alloc _
    have H8 : Hid (MemAt (fun x => x < w12.heap.size) (w12.alloc (.cells #[.slice m8.a1 R8.n1 m8.c1, .slice m8.a2 R8.n2 m8.c2, .slice m8.a3 R8.n3 m8.c3] 26)) m8 R8 ∧ Box (w12.alloc (.cells #[.slice m8.a1 R8.n1 m8.c1, .slice m8.a2 R8.n2 m8.c2, .slice m8.a3 R8.n3 m8.c3] 26)) w12.heap.size m8 R8) := ⟨((own.at).mono (fun x hx => hx.2)).blw hA, box3 w12 _ _ _ 26⟩
    replace HA : Hid (St (fun x => x < w.heap.size + 1) (ArgM w.heap.size w.heap.size m M) (w12.alloc (.cells #[.slice m8.a1 R8.n1 m8.c1, .slice m8.a2 R8.n2 m8.c2, .slice m8.a3 R8.n3 m8.c3] 26))) := HA.out.blw (hb.trans hA)
    replace H3 : Hid (St (fun x => x < w3.heap.size + 1) (ArgM w3.heap.size w3.heap.size m3 R8) (w12.alloc (.cells #[.slice m8.a1 R8.n1 m8.c1, .slice m8.a2 R8.n2 m8.c2, .slice m8.a3 R8.n3 m8.c3] 26))) := H3.out.blw (hb.trans hA)
    replace H4m : Hid (St (fun x => w3.heap.size + 1 ≤ x ∧ x < w4.heap.size + 1) (MB (fun x => w3.heap.size + 1 ≤ x ∧ x < w4.heap.size + 1) w4.heap.size m4 M (M.marked 1)) (w12.alloc (.cells #[.slice m8.a1 R8.n1 m8.c1, .slice m8.a2 R8.n2 m8.c2, .slice m8.a3 R8.n3 m8.c3] 26))) := H4m.out.blw (hb.trans hA)
    replace H5 : Hid (St (fun x => w4.heap.size + 1 ≤ x ∧ x < w5.heap.size + 1) (MB (fun x => w4.heap.size + 1 ≤ x ∧ x < w5.heap.size + 1) w5.heap.size m5 R8 (R8.marked 1)) (w12.alloc (.cells #[.slice m8.a1 R8.n1 m8.c1, .slice m8.a2 R8.n2 m8.c2, .slice m8.a3 R8.n3 m8.c3] 26))) := H5.out.blw (hb.trans hA)
    replace HB : Hid (Blw w (w12.alloc (.cells #[.slice m8.a1 R8.n1 m8.c1, .slice m8.a2 R8.n2 m8.c2, .slice m8.a3 R8.n3 m8.c3] 26))) := HB.out.trans (hb.trans hA)
    clear hb hA own ho
    obtain ⟨p00, p01, p02⟩ := get3 H8.out.2
    obtain ⟨p10, p11, p12⟩ := get3 H3.out.out.box
    go_wp2_with fail
    clear p00 p01 p02 p10 p11 p12
    refine (eqMemory_same m8 m3 R8 _ H8.out.1 H3.out.out.at_).mono ?_
    rintro e w13 ⟨rfl, hb⟩
    replace HA : Hid (St (fun x => x < w.heap.size + 1) (ArgM w.heap.size w.heap.size m M) w13) := HA.out.blw hb
    replace H3 : Hid (St (fun x => x < w3.heap.size + 1) (ArgM w3.heap.size w3.heap.size m3 R8) w13) := H3.out.blw hb
    replace H4m : Hid (St (fun x => w3.heap.size + 1 ≤ x ∧ x < w4.heap.size + 1) (MB (fun x => w3.heap.size + 1 ≤ x ∧ x < w4.heap.size + 1) w4.heap.size m4 M (M.marked 1)) w13) := H4m.out.blw hb
    replace H5 : Hid (St (fun x => w4.heap.size + 1 ≤ x ∧ x < w5.heap.size + 1) (MB (fun x => w4.heap.size + 1 ≤ x ∧ x < w5.heap.size + 1) w5.heap.size m5 R8 (R8.marked 1)) w13) := H5.out.blw hb
    replace HB : Hid (Blw w w13) := HB.out.trans hb
    clear hb H8
    obtain ⟨p00, p01, p02⟩ := get3 H5.out.out.box
    go_wp2_with fail
    clear p00 p01 p02
    refine (heldMemory_any m5 R8 _ 1 _ (by omega) (by omega) H5.out.out.own.at).mono ?_
    rintro e w14 ⟨rfl, hb⟩
    replace HA : Hid (St (fun x => x < w.heap.size + 1) (ArgM w.heap.size w.heap.size m M) w14) := HA.out.blw hb
    replace H3 : Hid (St (fun x => x < w3.heap.size + 1) (ArgM w3.heap.size w3.heap.size m3 R8) w14) := H3.out.blw hb
    replace H4m : Hid (St (fun x => w3.heap.size + 1 ≤ x ∧ x < w4.heap.size + 1) (MB (fun x => w3.heap.size + 1 ≤ x ∧ x < w4.heap.size + 1) w4.heap.size m4 M (M.marked 1)) w14) := H4m.out.blw hb
    replace H5 : Hid (St (fun x => w4.heap.size + 1 ≤ x ∧ x < w5.heap.size + 1) (MB (fun x => w4.heap.size + 1 ≤ x ∧ x < w5.heap.size + 1) w5.heap.size m5 R8 (R8.marked 1)) w14) := H5.out.blw hb
    replace HB : Hid (Blw w w14) := HB.out.trans hb
    clear hb
    go_wp2
    go_ret
    exact ⟨rfl, HB.out⟩
end Go.Proofs.Ytglllnklcnlcjaa
