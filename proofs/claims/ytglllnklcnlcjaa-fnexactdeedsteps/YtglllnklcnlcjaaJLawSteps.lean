/- The law on DeedSteps. -/
import Derived.Test.YtglllnklcnlcjaaLawL
import Derived.Test.YtglllnklcnlcjaaJimpl
namespace Go.Proofs.Ytglllnklcnlcjaa
open Go.RowKit
set_option linter.unusedSimpArgs false
set_option linter.unusedVariables false
set_option maxRecDepth 10000 in
set_option maxHeartbeats 6400000 in
theorem lawSteps (m : MV) (M : MD) (au : Option Addr) (nu cu : Nat) (f g : Nat → Int) (w : World) (hm : MemAt (fun x => x < w.heap.size) w m M) (hu : UndosAt (fun x => x < w.heap.size) w au nu f g) : Calls Try.prog 6 #[m.val M, .slice au nu cu] w fun e w' => e = .returned (.bool true) ∧ Blw w w' := by
  have HB : Hid (Blw w (w.alloc (.cells #[.slice m.a1 M.n1 m.c1, .slice m.a2 M.n2 m.c2, .slice m.a3 M.n3 m.c3] 60))) := (Blw.refl _).alloc _
  have HA : Hid (St (fun x => x < w.heap.size + 1) (ArgM w.heap.size w.heap.size m M) (w.alloc (.cells #[.slice m.a1 M.n1 m.c1, .slice m.a2 M.n2 m.c2, .slice m.a3 M.n3 m.c3] 60))) := ArgM.st ⟨hm.blw HB.out, box3 w _ _ _ 60⟩ (by omega) (by omega) (by simp)
  clear hm
  have hnu := hu.1
  have HU : Hid (St (fun x => x < w.heap.size) (fun W => UndosAt (fun x => x < w.heap.size) W au nu f g) (w.alloc (.cells #[.slice m.a1 M.n1 m.c1, .slice m.a2 M.n2 m.c2, .slice m.a3 M.n3 m.c3] 60))) := UndosAt.st (hu.blw HB.out) (fun x hx => Nat.lt_of_lt_of_le hx HB.out.size)
  clear hu
  go_enter Try.func6, Try.ntmps6
  go_wp2_with fail
  refine (szMemory_any m M _ 1048576 _ (by omega) (by omega) HA.out.out.at_).mono ?_
  rintro e w1 ⟨r, rfl, hr, hb⟩
  replace HA : Hid (St (fun x => x < w.heap.size + 1) (ArgM w.heap.size w.heap.size m M) w1) := HA.out.blw hb
  replace HU : Hid (St (fun x => x < w.heap.size) (fun W => UndosAt (fun x => x < w.heap.size) W au nu f g) w1) := HU.out.blw hb
  replace HB : Hid (Blw w w1) := HB.out.trans hb
  clear hb
  rcases hr with rfl | ⟨q0, q1⟩
  · go_wp2
    go_ret
    exact ⟨rfl, HB.out⟩
  have SM : Hid (M.Small) := small_of (by omega)
  have hr0 : ¬ r < 0 := by omega
  go_wp2_with fail
  refine (szUndoS_any au cu nu r _ hnu (by omega) (by omega)).mono ?_
  rintro e w2 ⟨r2, rfl, hr2, hb⟩
  clear hr0
  replace HA : Hid (St (fun x => x < w.heap.size + 1) (ArgM w.heap.size w.heap.size m M) w2) := HA.out.blw hb
  replace HU : Hid (St (fun x => x < w.heap.size) (fun W => UndosAt (fun x => x < w.heap.size) W au nu f g) w2) := HU.out.blw hb
  replace HB : Hid (Blw w w2) := HB.out.trans hb
  clear hb
  rcases hr2 with rfl | ⟨q2, q3⟩
  · go_wp2
    go_ret
    exact ⟨rfl, HB.out⟩
  have hnu2 : nu ≤ 1048576 := by omega
  have hr0 : ¬ r2 < 0 := by omega
  clear q3
  clear q1
  obtain ⟨p00, p01, p02⟩ := get3 HA.out.out.box
  go_wp2_with fail
  clear p00 p01 p02
  refine (toMemory_any m M _ _ SM.out HA.out.out.at_).mono ?_
  rintro e w3 ⟨m2, rfl, own, hb⟩
  try clear hr0
  have C2m : Hid (St (fun x => x < w3.heap.size) (fun W => MemAt (fun x => x < w3.heap.size) W m2 M) w3) := ⟨fun x hx => hx, fun Z w' hm hx => (own.at.mono (fun x hx => hx.2)).mod hm hx⟩
  replace HA : Hid (St (fun x => x < w.heap.size + 1) (ArgM w.heap.size w.heap.size m M) w3) := HA.out.blw hb
  replace HU : Hid (St (fun x => x < w.heap.size) (fun W => UndosAt (fun x => x < w.heap.size) W au nu f g) w3) := HU.out.blw hb
  replace HB : Hid (Blw w w3) := HB.out.trans hb
  clear hb own
  go_wp2_with fail
  refine (toUndoS_any au cu nu f g _ _ hnu2 HU.out.out).mono ?_
  rintro e w4 ⟨rfl, row, hb⟩
  have hlt := row.lt
  try simp only [World.size_alloc] at hlt row
  have C2u : Hid (St (fun x => x < w4.heap.size) (fun W => UndosAt (fun x => x < w4.heap.size) W (some ⟨w3.heap.size, 0, none⟩) nu f g) w4) := UndosAt.st (row_pairs row (by omega) (X := fun x => x < w4.heap.size) hlt).at (fun x hx => hx)
  replace HA : Hid (St (fun x => x < w.heap.size + 1) (ArgM w.heap.size w.heap.size m M) w4) := HA.out.blw hb
  replace HU : Hid (St (fun x => x < w.heap.size) (fun W => UndosAt (fun x => x < w.heap.size) W au nu f g) w4) := HU.out.blw hb
  replace C2m : Hid (St (fun x => x < w3.heap.size) (fun W => MemAt (fun x => x < w3.heap.size) W m2 M) w4) := C2m.out.blw hb
  replace HB : Hid (Blw w w4) := HB.out.trans hb
  clear hb row hlt
  have HX : Hid (w.heap.size + 1 ≤ w4.heap.size) := by have h1 := HA.out.1 w.heap.size (by omega); show _ ≤ _; omega
  go_wp2_with fail
  refine (specSteps_any m2 M (some ⟨w3.heap.size, 0, none⟩) nu nu f g _ _ _ C2m.out.out C2m.out.1 C2u.out.out C2u.out.1).mono ?_
  rintro e w5 ⟨a3, n3, c3, R3, b3, rfl, ho, own, hb⟩
  clear C2m
  clear C2u
  have hz := hb.size
  try simp only [World.size_alloc] at hz
  try simp only [World.size_alloc] at own
  have HN0 : Hid (w.heap.size + 1 ≤ w5.heap.size) := by have h1 := HA.out.1 w.heap.size (by omega); show _ ≤ _; (try simp only [World.size_alloc] at h1); omega
  have HO3 : Hid (dsOut M nu f g n3 R3 b3) := ho
  have H3 : Hid (St (fun x => w.heap.size + 1 ≤ x ∧ x < w5.heap.size) (fun W => MemsOwn (fun x => w.heap.size + 1 ≤ x ∧ x < w5.heap.size) W a3 n3 R3) w5) := MemsOwn.st (own.mono (fun x hx => by have h1 := hx.1; have h2 := hx.2; have h3 := HX.out; exact ⟨by omega, by omega⟩)) (fun x hx => hx.2)
  replace HA : Hid (St (fun x => x < w.heap.size + 1) (ArgM w.heap.size w.heap.size m M) w5) := HA.out.blw hb
  replace HU : Hid (St (fun x => x < w.heap.size) (fun W => UndosAt (fun x => x < w.heap.size) W au nu f g) w5) := HU.out.blw hb
  replace HB : Hid (Blw w w5) := HB.out.trans hb
  clear hb own hz ho
  obtain ⟨p00, p01, p02⟩ := get3 HA.out.out.box
  go_wp2_with fail
  clear p00 p01 p02
  refine (toMemory_any m M _ _ SM.out HA.out.out.at_).mono ?_
  rintro e w6 ⟨m4, rfl, own, hb⟩
  try clear hr0
  have hA : Blw w6 (w6.alloc (.cells #[.slice m4.a1 M.n1 m4.c1, .slice m4.a2 M.n2 m4.c2, .slice m4.a3 M.n3 m4.c3] 26)) := (Blw.refl _).alloc _
  have hz := hb.size
  try simp only [World.size_alloc] at hz
  have HN1 : Hid (w5.heap.size ≤ w6.heap.size) := hz
  have H4m : Hid (St (fun x => w5.heap.size ≤ x ∧ x < w6.heap.size + 1) (MB (fun x => w5.heap.size ≤ x ∧ x < w6.heap.size + 1) w6.heap.size m4 M M) (w6.alloc (.cells #[.slice m4.a1 M.n1 m4.c1, .slice m4.a2 M.n2 m4.c2, .slice m4.a3 M.n3 m4.c3] 26))) := MB.st ⟨(own.blw hA).mono (fun x hx => by have hx' := hx; (try simp only [World.size_alloc] at hx'); exact ⟨⟨by omega, by omega⟩, by omega⟩), box3 w6 _ _ _ 26⟩ ⟨hz, by omega⟩ (fun x hx => by simp; omega)
  replace HA : Hid (St (fun x => x < w.heap.size + 1) (ArgM w.heap.size w.heap.size m M) (w6.alloc (.cells #[.slice m4.a1 M.n1 m4.c1, .slice m4.a2 M.n2 m4.c2, .slice m4.a3 M.n3 m4.c3] 26))) := HA.out.blw (hb.trans hA)
  replace HU : Hid (St (fun x => x < w.heap.size) (fun W => UndosAt (fun x => x < w.heap.size) W au nu f g) (w6.alloc (.cells #[.slice m4.a1 M.n1 m4.c1, .slice m4.a2 M.n2 m4.c2, .slice m4.a3 M.n3 m4.c3] 26))) := HU.out.blw (hb.trans hA)
  replace H3 : Hid (St (fun x => w.heap.size + 1 ≤ x ∧ x < w5.heap.size) (fun W => MemsOwn (fun x => w.heap.size + 1 ≤ x ∧ x < w5.heap.size) W a3 n3 R3) (w6.alloc (.cells #[.slice m4.a1 M.n1 m4.c1, .slice m4.a2 M.n2 m4.c2, .slice m4.a3 M.n3 m4.c3] 26))) := H3.out.blw (hb.trans hA)
  replace HB : Hid (Blw w (w6.alloc (.cells #[.slice m4.a1 M.n1 m4.c1, .slice m4.a2 M.n2 m4.c2, .slice m4.a3 M.n3 m4.c3] 26))) := HB.out.trans (hb.trans hA)
  clear hb hA own hz
  go_wp2_with fail
  refine (toUndoS_any au cu nu f g _ _ hnu2 HU.out.out).mono ?_
  rintro e w7 ⟨rfl, row, hb⟩
  have hlt := row.lt
  have hz := hb.size
  try simp only [World.size_alloc] at hz hlt row
  have HN2 : Hid (w6.heap.size + 1 ≤ w6.heap.size + 1 ∧ w6.heap.size + 1 < w7.heap.size) := ⟨by have o0 := HN0.out; have o1 := HN1.out; omega, hlt⟩
  have H4u : Hid (St (fun x => w6.heap.size + 1 ≤ x ∧ x < w7.heap.size) (fun W => UndosOwn (fun x => w6.heap.size + 1 ≤ x ∧ x < w7.heap.size) W (some ⟨w6.heap.size + 1, 0, none⟩) nu f g) w7) := UndosOwn.st (row_pairs row (by omega) HN2.out) (fun x hx => hx.2)
  replace HA : Hid (St (fun x => x < w.heap.size + 1) (ArgM w.heap.size w.heap.size m M) w7) := HA.out.blw hb
  replace HU : Hid (St (fun x => x < w.heap.size) (fun W => UndosAt (fun x => x < w.heap.size) W au nu f g) w7) := HU.out.blw hb
  replace H3 : Hid (St (fun x => w.heap.size + 1 ≤ x ∧ x < w5.heap.size) (fun W => MemsOwn (fun x => w.heap.size + 1 ≤ x ∧ x < w5.heap.size) W a3 n3 R3) w7) := H3.out.blw hb
  replace H4m : Hid (St (fun x => w5.heap.size ≤ x ∧ x < w6.heap.size + 1) (MB (fun x => w5.heap.size ≤ x ∧ x < w6.heap.size + 1) w6.heap.size m4 M M) w7) := H4m.out.blw hb
  replace HB : Hid (Blw w w7) := HB.out.trans hb
  clear hb row hz hlt
  obtain ⟨p00, p01, p02⟩ := get3 H4m.out.out.box
  go_wp2_with fail
  clear p00 p01 p02
  refine (implSteps_any m4 M (some ⟨w6.heap.size + 1, 0, none⟩) nu nu f g _ _ _ H4m.out.out.own.at H4u.out.out.at).mono ?_
  rintro e w8 ⟨a5, n5, c5, R5, b5, rfl, ho, own, hb⟩
  have hz := hb.size
  try simp only [World.size_alloc] at hz
  try simp only [World.size_alloc] at own
  have HN3 : Hid (w7.heap.size ≤ w8.heap.size) := by have o0 := HN0.out; have o1 := HN1.out; have o2 := HN2.out; show _ ≤ _; omega
  obtain ⟨⟨eR, ef⟩, eb⟩ := dsOut_same ho HO3.out
  subst eR eb
  have H5 : Hid (St (fun x => w7.heap.size ≤ x ∧ x < w8.heap.size) (fun W => MemsOwn (fun x => w7.heap.size ≤ x ∧ x < w8.heap.size) W a5 n5 R3) w8) := MemsOwn.st ((own.congr ef).mono (fun x hx => ⟨by omega, by omega⟩)) (fun x hx => hx.2)
  replace HA : Hid (St (fun x => x < w.heap.size + 1) (ArgM w.heap.size w.heap.size m M) w8) := HA.out.blw hb
  replace HU : Hid (St (fun x => x < w.heap.size) (fun W => UndosAt (fun x => x < w.heap.size) W au nu f g) w8) := HU.out.blw hb
  replace H3 : Hid (St (fun x => w.heap.size + 1 ≤ x ∧ x < w5.heap.size) (fun W => MemsOwn (fun x => w.heap.size + 1 ≤ x ∧ x < w5.heap.size) W a3 n5 R3) w8) := H3.out.blw hb
  replace H4m : Hid (St (fun x => w5.heap.size ≤ x ∧ x < w6.heap.size + 1) (MB (fun x => w5.heap.size ≤ x ∧ x < w6.heap.size + 1) w6.heap.size m4 M M) w8) := H4m.out.blw hb
  replace H4u : Hid (St (fun x => w6.heap.size + 1 ≤ x ∧ x < w7.heap.size) (fun W => UndosOwn (fun x => w6.heap.size + 1 ≤ x ∧ x < w7.heap.size) W (some ⟨w6.heap.size + 1, 0, none⟩) nu f g) w8) := H4u.out.blw hb
  replace HB : Hid (Blw w w8) := HB.out.trans hb
  have HQ : Hid _ := dsOut_n HO3.out
  clear hb own hz ho ef
  have hne : (b5 != b5) = false := by simp
  go_wp2_with fail
  refine (eqMemoryS_same _ _ _ _ n5 R3 _ H5.out.out H3.out.out).mono ?_
  rintro e w9 ⟨rfl, hb⟩
  replace HA : Hid (St (fun x => x < w.heap.size + 1) (ArgM w.heap.size w.heap.size m M) w9) := HA.out.blw hb
  replace HU : Hid (St (fun x => x < w.heap.size) (fun W => UndosAt (fun x => x < w.heap.size) W au nu f g) w9) := HU.out.blw hb
  replace H3 : Hid (St (fun x => w.heap.size + 1 ≤ x ∧ x < w5.heap.size) (fun W => MemsOwn (fun x => w.heap.size + 1 ≤ x ∧ x < w5.heap.size) W a3 n5 R3) w9) := H3.out.blw hb
  replace H4m : Hid (St (fun x => w5.heap.size ≤ x ∧ x < w6.heap.size + 1) (MB (fun x => w5.heap.size ≤ x ∧ x < w6.heap.size + 1) w6.heap.size m4 M M) w9) := H4m.out.blw hb
  replace H4u : Hid (St (fun x => w6.heap.size + 1 ≤ x ∧ x < w7.heap.size) (fun W => UndosOwn (fun x => w6.heap.size + 1 ≤ x ∧ x < w7.heap.size) W (some ⟨w6.heap.size + 1, 0, none⟩) nu f g) w9) := H4u.out.blw hb
  replace H5 : Hid (St (fun x => w7.heap.size ≤ x ∧ x < w8.heap.size) (fun W => MemsOwn (fun x => w7.heap.size ≤ x ∧ x < w8.heap.size) W a5 n5 R3) w9) := H5.out.blw hb
  replace HB : Hid (Blw w w9) := HB.out.trans hb
  clear hb
  go_upto_region 14 with fail
  go_cut [58] from 54 to 58 (fun c wx => c = .bool false ∧ Blw w9 wx)
  case first =>
    obtain ⟨A0, A1, A2⟩ := box3_all HA.out.out.box
    obtain ⟨B0, B1, B2⟩ := box3_all H4m.out.out.box
    go_region_held3 (fun w' => Blw w9 w') ((first | exact (Blw.refl _).drew | assumption | exact Blw.trans (by assumption) (by assumption))) (first
      | (go_at_call 39; refine (toMemory_any m M _ _ SM.out (HA.out.blw (by assumption)).out.at_).mono ?_; rintro e w70 ⟨m6, rfl, o6, hb7⟩)
      | (go_at_call 41; refine (eqMemory_same m4 m6 M _ (H4m.out.blw (by assumption)).out.own.at o6.at).mono ?_; rintro e w80 ⟨rfl, hb8⟩))
    all_goals go_wp2_with fail
    all_goals go_meet
    all_goals exact ⟨rfl, by assumption⟩
  case rest =>
    obtain ⟨rfl, hb⟩ := hcut
    replace HA : Hid (St (fun x => x < w.heap.size + 1) (ArgM w.heap.size w.heap.size m M) wc) := HA.out.blw hb
    replace HU : Hid (St (fun x => x < w.heap.size) (fun W => UndosAt (fun x => x < w.heap.size) W au nu f g) wc) := HU.out.blw hb
    replace H3 : Hid (St (fun x => w.heap.size + 1 ≤ x ∧ x < w5.heap.size) (fun W => MemsOwn (fun x => w.heap.size + 1 ≤ x ∧ x < w5.heap.size) W a3 n5 R3) wc) := H3.out.blw hb
    replace H4m : Hid (St (fun x => w5.heap.size ≤ x ∧ x < w6.heap.size + 1) (MB (fun x => w5.heap.size ≤ x ∧ x < w6.heap.size + 1) w6.heap.size m4 M M) wc) := H4m.out.blw hb
    replace H4u : Hid (St (fun x => w6.heap.size + 1 ≤ x ∧ x < w7.heap.size) (fun W => UndosOwn (fun x => w6.heap.size + 1 ≤ x ∧ x < w7.heap.size) W (some ⟨w6.heap.size + 1, 0, none⟩) nu f g) wc) := H4u.out.blw hb
    replace H5 : Hid (St (fun x => w7.heap.size ≤ x ∧ x < w8.heap.size) (fun W => MemsOwn (fun x => w7.heap.size ≤ x ∧ x < w8.heap.size) W a5 n5 R3) wc) := H5.out.blw hb
    replace HB : Hid (Blw w wc) := HB.out.trans hb
    clear hb
    go_wp2_with fail
    refine (toUndoS_any au cu nu f g _ _ hnu2 HU.out.out).mono ?_
    rintro e w10 ⟨rfl, row, hb⟩
    have hlt := row.lt
    try simp only [World.size_alloc] at hlt row
    have C6 : Hid (UndosAt (fun x => x < w10.heap.size) w10 (some ⟨wc.heap.size, 0, none⟩) nu f g) := (row_pairs row (by omega) (X := fun x => x < w10.heap.size) hlt).at
    replace HA : Hid (St (fun x => x < w.heap.size + 1) (ArgM w.heap.size w.heap.size m M) w10) := HA.out.blw hb
    replace HU : Hid (St (fun x => x < w.heap.size) (fun W => UndosAt (fun x => x < w.heap.size) W au nu f g) w10) := HU.out.blw hb
    replace H3 : Hid (St (fun x => w.heap.size + 1 ≤ x ∧ x < w5.heap.size) (fun W => MemsOwn (fun x => w.heap.size + 1 ≤ x ∧ x < w5.heap.size) W a3 n5 R3) w10) := H3.out.blw hb
    replace H4m : Hid (St (fun x => w5.heap.size ≤ x ∧ x < w6.heap.size + 1) (MB (fun x => w5.heap.size ≤ x ∧ x < w6.heap.size + 1) w6.heap.size m4 M M) w10) := H4m.out.blw hb
    replace H4u : Hid (St (fun x => w6.heap.size + 1 ≤ x ∧ x < w7.heap.size) (fun W => UndosOwn (fun x => w6.heap.size + 1 ≤ x ∧ x < w7.heap.size) W (some ⟨w6.heap.size + 1, 0, none⟩) nu f g) w10) := H4u.out.blw hb
    replace H5 : Hid (St (fun x => w7.heap.size ≤ x ∧ x < w8.heap.size) (fun W => MemsOwn (fun x => w7.heap.size ≤ x ∧ x < w8.heap.size) W a5 n5 R3) w10) := H5.out.blw hb
    replace HB : Hid (Blw w w10) := HB.out.trans hb
    clear hb row hlt
    go_wp2_with fail
    refine (eqUndoS_same _ _ _ _ nu f g _ H4u.out.out.at C6.out).mono ?_
    rintro e w11 ⟨rfl, hb⟩
    replace HA : Hid (St (fun x => x < w.heap.size + 1) (ArgM w.heap.size w.heap.size m M) w11) := HA.out.blw hb
    replace HU : Hid (St (fun x => x < w.heap.size) (fun W => UndosAt (fun x => x < w.heap.size) W au nu f g) w11) := HU.out.blw hb
    replace H3 : Hid (St (fun x => w.heap.size + 1 ≤ x ∧ x < w5.heap.size) (fun W => MemsOwn (fun x => w.heap.size + 1 ≤ x ∧ x < w5.heap.size) W a3 n5 R3) w11) := H3.out.blw hb
    replace H4m : Hid (St (fun x => w5.heap.size ≤ x ∧ x < w6.heap.size + 1) (MB (fun x => w5.heap.size ≤ x ∧ x < w6.heap.size + 1) w6.heap.size m4 M M) w11) := H4m.out.blw hb
    replace H4u : Hid (St (fun x => w6.heap.size + 1 ≤ x ∧ x < w7.heap.size) (fun W => UndosOwn (fun x => w6.heap.size + 1 ≤ x ∧ x < w7.heap.size) W (some ⟨w6.heap.size + 1, 0, none⟩) nu f g) w11) := H4u.out.blw hb
    replace H5 : Hid (St (fun x => w7.heap.size ≤ x ∧ x < w8.heap.size) (fun W => MemsOwn (fun x => w7.heap.size ≤ x ∧ x < w8.heap.size) W a5 n5 R3) w11) := H5.out.blw hb
    replace HB : Hid (Blw w w11) := HB.out.trans hb
    clear hb C6
    have htM : M.total ≤ 1048576 := SM.out.t
    obtain ⟨p00, p01, p02⟩ := get3 H4m.out.out.box
    go_wp2_with fail
    clear p00 p01 p02
    refine (markMemory_any m4 M _ 1 _ (by omega) (by omega) H4m.out.out.own (fun x hx => H4m.out.1 x hx.1)).mono ?_
    rintro e w12 ⟨rfl, own, hm⟩
    have bx4 := H4m.out.out.box.mod hm (fun hh => hh.2 rfl)
    have s4 := hm.size
    replace HA : Hid (St (fun x => x < w.heap.size + 1) (ArgM w.heap.size w.heap.size m M) w12) := HA.out.mod hm (fun x hx hz => by have o0 := HN0.out; have o1 := HN1.out; have o2 := HN2.out; have o3 := HN3.out; have hz' : w5.heap.size ≤ x ∧ x < w6.heap.size + 1 := hz.1; have hx' : x < w.heap.size + 1 := hx; omega)
    replace HU : Hid (St (fun x => x < w.heap.size) (fun W => UndosAt (fun x => x < w.heap.size) W au nu f g) w12) := HU.out.mod hm (fun x hx hz => by have o0 := HN0.out; have o1 := HN1.out; have o2 := HN2.out; have o3 := HN3.out; have hz' : w5.heap.size ≤ x ∧ x < w6.heap.size + 1 := hz.1; have hx' : x < w.heap.size := hx; omega)
    replace H3 : Hid (St (fun x => w.heap.size + 1 ≤ x ∧ x < w5.heap.size) (fun W => MemsOwn (fun x => w.heap.size + 1 ≤ x ∧ x < w5.heap.size) W a3 n5 R3) w12) := H3.out.mod hm (fun x hx hz => by have o0 := HN0.out; have o1 := HN1.out; have o2 := HN2.out; have o3 := HN3.out; have hz' : w5.heap.size ≤ x ∧ x < w6.heap.size + 1 := hz.1; have hx' : w.heap.size + 1 ≤ x ∧ x < w5.heap.size := hx; omega)
    replace H4u : Hid (St (fun x => w6.heap.size + 1 ≤ x ∧ x < w7.heap.size) (fun W => UndosOwn (fun x => w6.heap.size + 1 ≤ x ∧ x < w7.heap.size) W (some ⟨w6.heap.size + 1, 0, none⟩) nu f g) w12) := H4u.out.mod hm (fun x hx hz => by have o0 := HN0.out; have o1 := HN1.out; have o2 := HN2.out; have o3 := HN3.out; have hz' : w5.heap.size ≤ x ∧ x < w6.heap.size + 1 := hz.1; have hx' : w6.heap.size + 1 ≤ x ∧ x < w7.heap.size := hx; omega)
    replace H5 : Hid (St (fun x => w7.heap.size ≤ x ∧ x < w8.heap.size) (fun W => MemsOwn (fun x => w7.heap.size ≤ x ∧ x < w8.heap.size) W a5 n5 R3) w12) := H5.out.mod hm (fun x hx hz => by have o0 := HN0.out; have o1 := HN1.out; have o2 := HN2.out; have o3 := HN3.out; have hz' : w5.heap.size ≤ x ∧ x < w6.heap.size + 1 := hz.1; have hx' : w7.heap.size ≤ x ∧ x < w8.heap.size := hx; omega)
    replace HB : Hid (Blw w w12) := Mod.blw HB.out hm (fun x hz => by have o0 := HN0.out; have o1 := HN1.out; have o2 := HN2.out; have o3 := HN3.out; have hz' : w5.heap.size ≤ x ∧ x < w6.heap.size + 1 := hz.1; omega)
    replace H4m : Hid (St (fun x => w5.heap.size ≤ x ∧ x < w6.heap.size + 1) (MB (fun x => w5.heap.size ≤ x ∧ x < w6.heap.size + 1) w6.heap.size m4 M (M.marked 1)) w12) := MB.st ⟨own, bx4⟩ (by have h9 : w5.heap.size ≤ w6.heap.size ∧ w6.heap.size < w6.heap.size + 1 := (by have o0 := HN0.out; have o1 := HN1.out; have o2 := HN2.out; have o3 := HN3.out; omega); exact h9) (fun x hx => Nat.lt_of_lt_of_le (H4m.out.1 x hx) s4)
    clear own hm bx4 s4
    go_wp2_with fail
    refine (markUndoS_any _ nu nu f g _ (1 + (M.total : Int)) _ (by omega) (by omega) H4u.out.out).mono ?_
    rintro e w13 ⟨rfl, own, hm⟩
    have s4 := hm.size
    replace HA : Hid (St (fun x => x < w.heap.size + 1) (ArgM w.heap.size w.heap.size m M) w13) := HA.out.mod hm (fun x hx hz => by have o0 := HN0.out; have o1 := HN1.out; have o2 := HN2.out; have o3 := HN3.out; have hz' : w6.heap.size + 1 ≤ x ∧ x < w7.heap.size := hz; have hx' : x < w.heap.size + 1 := hx; omega)
    replace HU : Hid (St (fun x => x < w.heap.size) (fun W => UndosAt (fun x => x < w.heap.size) W au nu f g) w13) := HU.out.mod hm (fun x hx hz => by have o0 := HN0.out; have o1 := HN1.out; have o2 := HN2.out; have o3 := HN3.out; have hz' : w6.heap.size + 1 ≤ x ∧ x < w7.heap.size := hz; have hx' : x < w.heap.size := hx; omega)
    replace H3 : Hid (St (fun x => w.heap.size + 1 ≤ x ∧ x < w5.heap.size) (fun W => MemsOwn (fun x => w.heap.size + 1 ≤ x ∧ x < w5.heap.size) W a3 n5 R3) w13) := H3.out.mod hm (fun x hx hz => by have o0 := HN0.out; have o1 := HN1.out; have o2 := HN2.out; have o3 := HN3.out; have hz' : w6.heap.size + 1 ≤ x ∧ x < w7.heap.size := hz; have hx' : w.heap.size + 1 ≤ x ∧ x < w5.heap.size := hx; omega)
    replace H4m : Hid (St (fun x => w5.heap.size ≤ x ∧ x < w6.heap.size + 1) (MB (fun x => w5.heap.size ≤ x ∧ x < w6.heap.size + 1) w6.heap.size m4 M (M.marked 1)) w13) := H4m.out.mod hm (fun x hx hz => by have o0 := HN0.out; have o1 := HN1.out; have o2 := HN2.out; have o3 := HN3.out; have hz' : w6.heap.size + 1 ≤ x ∧ x < w7.heap.size := hz; have hx' : w5.heap.size ≤ x ∧ x < w6.heap.size + 1 := hx; omega)
    replace H5 : Hid (St (fun x => w7.heap.size ≤ x ∧ x < w8.heap.size) (fun W => MemsOwn (fun x => w7.heap.size ≤ x ∧ x < w8.heap.size) W a5 n5 R3) w13) := H5.out.mod hm (fun x hx hz => by have o0 := HN0.out; have o1 := HN1.out; have o2 := HN2.out; have o3 := HN3.out; have hz' : w6.heap.size + 1 ≤ x ∧ x < w7.heap.size := hz; have hx' : w7.heap.size ≤ x ∧ x < w8.heap.size := hx; omega)
    replace HB : Hid (Blw w w13) := Mod.blw HB.out hm (fun x hz => by have o0 := HN0.out; have o1 := HN1.out; have o2 := HN2.out; have o3 := HN3.out; have hz' : w6.heap.size + 1 ≤ x ∧ x < w7.heap.size := hz; omega)
    replace H4u : Hid (St (fun x => w6.heap.size + 1 ≤ x ∧ x < w7.heap.size) (fun W => UndosOwn (fun x => w6.heap.size + 1 ≤ x ∧ x < w7.heap.size) W (some ⟨w6.heap.size + 1, 0, none⟩) nu (mkc (1 + (M.total : Int))) (mkw (1 + (M.total : Int)))) w13) := UndosOwn.st own (fun x hx => Nat.lt_of_lt_of_le (H4u.out.1 x hx) s4)
    clear own hm s4
    have k1 : ¬ (1 + (M.total : Int) + 2 * (nu : Int) < 0) := by omega
    go_wp2_with fail
    refine (eqMemoryS_same _ _ _ _ n5 R3 _ H5.out.out H3.out.out).mono ?_
    rintro e w14 ⟨rfl, hb⟩
    replace HA : Hid (St (fun x => x < w.heap.size + 1) (ArgM w.heap.size w.heap.size m M) w14) := HA.out.blw hb
    replace HU : Hid (St (fun x => x < w.heap.size) (fun W => UndosAt (fun x => x < w.heap.size) W au nu f g) w14) := HU.out.blw hb
    replace H3 : Hid (St (fun x => w.heap.size + 1 ≤ x ∧ x < w5.heap.size) (fun W => MemsOwn (fun x => w.heap.size + 1 ≤ x ∧ x < w5.heap.size) W a3 n5 R3) w14) := H3.out.blw hb
    replace H4m : Hid (St (fun x => w5.heap.size ≤ x ∧ x < w6.heap.size + 1) (MB (fun x => w5.heap.size ≤ x ∧ x < w6.heap.size + 1) w6.heap.size m4 M (M.marked 1)) w14) := H4m.out.blw hb
    replace H4u : Hid (St (fun x => w6.heap.size + 1 ≤ x ∧ x < w7.heap.size) (fun W => UndosOwn (fun x => w6.heap.size + 1 ≤ x ∧ x < w7.heap.size) W (some ⟨w6.heap.size + 1, 0, none⟩) nu (mkc (1 + (M.total : Int))) (mkw (1 + (M.total : Int)))) w14) := H4u.out.blw hb
    replace H5 : Hid (St (fun x => w7.heap.size ≤ x ∧ x < w8.heap.size) (fun W => MemsOwn (fun x => w7.heap.size ≤ x ∧ x < w8.heap.size) W a5 n5 R3) w14) := H5.out.blw hb
    replace HB : Hid (Blw w w14) := HB.out.trans hb
    clear hb
    clear k1
    go_wp2_with fail
    refine (markMemoryS_any a5 c5 n5 R3 _ 1 _ (by omega) HQ.out H5.out.1 H5.out.out).mono ?_
    rintro e w15 ⟨rfl, own, hm⟩
    have s4 := hm.size
    replace HA : Hid (St (fun x => x < w.heap.size + 1) (ArgM w.heap.size w.heap.size m M) w15) := HA.out.mod hm (fun x hx hz => by have o0 := HN0.out; have o1 := HN1.out; have o2 := HN2.out; have o3 := HN3.out; have hz' : w7.heap.size ≤ x ∧ x < w8.heap.size := hz; have hx' : x < w.heap.size + 1 := hx; omega)
    replace HU : Hid (St (fun x => x < w.heap.size) (fun W => UndosAt (fun x => x < w.heap.size) W au nu f g) w15) := HU.out.mod hm (fun x hx hz => by have o0 := HN0.out; have o1 := HN1.out; have o2 := HN2.out; have o3 := HN3.out; have hz' : w7.heap.size ≤ x ∧ x < w8.heap.size := hz; have hx' : x < w.heap.size := hx; omega)
    replace H3 : Hid (St (fun x => w.heap.size + 1 ≤ x ∧ x < w5.heap.size) (fun W => MemsOwn (fun x => w.heap.size + 1 ≤ x ∧ x < w5.heap.size) W a3 n5 R3) w15) := H3.out.mod hm (fun x hx hz => by have o0 := HN0.out; have o1 := HN1.out; have o2 := HN2.out; have o3 := HN3.out; have hz' : w7.heap.size ≤ x ∧ x < w8.heap.size := hz; have hx' : w.heap.size + 1 ≤ x ∧ x < w5.heap.size := hx; omega)
    replace H4m : Hid (St (fun x => w5.heap.size ≤ x ∧ x < w6.heap.size + 1) (MB (fun x => w5.heap.size ≤ x ∧ x < w6.heap.size + 1) w6.heap.size m4 M (M.marked 1)) w15) := H4m.out.mod hm (fun x hx hz => by have o0 := HN0.out; have o1 := HN1.out; have o2 := HN2.out; have o3 := HN3.out; have hz' : w7.heap.size ≤ x ∧ x < w8.heap.size := hz; have hx' : w5.heap.size ≤ x ∧ x < w6.heap.size + 1 := hx; omega)
    replace H4u : Hid (St (fun x => w6.heap.size + 1 ≤ x ∧ x < w7.heap.size) (fun W => UndosOwn (fun x => w6.heap.size + 1 ≤ x ∧ x < w7.heap.size) W (some ⟨w6.heap.size + 1, 0, none⟩) nu (mkc (1 + (M.total : Int))) (mkw (1 + (M.total : Int)))) w15) := H4u.out.mod hm (fun x hx hz => by have o0 := HN0.out; have o1 := HN1.out; have o2 := HN2.out; have o3 := HN3.out; have hz' : w7.heap.size ≤ x ∧ x < w8.heap.size := hz; have hx' : w6.heap.size + 1 ≤ x ∧ x < w7.heap.size := hx; omega)
    replace HB : Hid (Blw w w15) := Mod.blw HB.out hm (fun x hz => by have o0 := HN0.out; have o1 := HN1.out; have o2 := HN2.out; have o3 := HN3.out; have hz' : w7.heap.size ≤ x ∧ x < w8.heap.size := hz; omega)
    replace H5 : Hid (St (fun x => w7.heap.size ≤ x ∧ x < w8.heap.size) (fun W => MemsOwn (fun x => w7.heap.size ≤ x ∧ x < w8.heap.size) W a5 n5 (markedS R3 1)) w15) := MemsOwn.st own (fun x hx => Nat.lt_of_lt_of_le (H5.out.1 x hx) s4)
    have htR : totals R3 n5 ≤ 1048576 := totals_le HQ.out
    clear own hm s4
    have k1 : ¬ (1 + (totals R3 n5 : Int) < 0) := by omega
    have k2 : ((1 + (totals R3 n5 : Int)) != (1 + (totals R3 n5 : Int))) = false := by simp
    go_wp2_with fail
    refine (heldMemoryS_any a5 c5 n5 R3 _ 1 _ (by omega) HQ.out H5.out.out).mono ?_
    rintro e w16 ⟨rfl, hb⟩
    replace HA : Hid (St (fun x => x < w.heap.size + 1) (ArgM w.heap.size w.heap.size m M) w16) := HA.out.blw hb
    replace HU : Hid (St (fun x => x < w.heap.size) (fun W => UndosAt (fun x => x < w.heap.size) W au nu f g) w16) := HU.out.blw hb
    replace H3 : Hid (St (fun x => w.heap.size + 1 ≤ x ∧ x < w5.heap.size) (fun W => MemsOwn (fun x => w.heap.size + 1 ≤ x ∧ x < w5.heap.size) W a3 n5 R3) w16) := H3.out.blw hb
    replace H4m : Hid (St (fun x => w5.heap.size ≤ x ∧ x < w6.heap.size + 1) (MB (fun x => w5.heap.size ≤ x ∧ x < w6.heap.size + 1) w6.heap.size m4 M (M.marked 1)) w16) := H4m.out.blw hb
    replace H4u : Hid (St (fun x => w6.heap.size + 1 ≤ x ∧ x < w7.heap.size) (fun W => UndosOwn (fun x => w6.heap.size + 1 ≤ x ∧ x < w7.heap.size) W (some ⟨w6.heap.size + 1, 0, none⟩) nu (mkc (1 + (M.total : Int))) (mkw (1 + (M.total : Int)))) w16) := H4u.out.blw hb
    replace H5 : Hid (St (fun x => w7.heap.size ≤ x ∧ x < w8.heap.size) (fun W => MemsOwn (fun x => w7.heap.size ≤ x ∧ x < w8.heap.size) W a5 n5 (markedS R3 1)) w16) := H5.out.blw hb
    replace HB : Hid (Blw w w16) := HB.out.trans hb
    clear hb
    obtain ⟨p00, p01, p02⟩ := get3 HA.out.out.box
    go_wp2_with fail
    clear p00 p01 p02
    refine (toMemory_any m M _ _ SM.out HA.out.out.at_).mono ?_
    rintro e w17 ⟨m7, rfl, own, hb⟩
    try clear hr0
    have C7m : Hid (St (fun x => x < w17.heap.size) (fun W => MemAt (fun x => x < w17.heap.size) W m7 M) w17) := ⟨fun x hx => hx, fun Z w' hm hx => (own.at.mono (fun x hx => hx.2)).mod hm hx⟩
    replace HA : Hid (St (fun x => x < w.heap.size + 1) (ArgM w.heap.size w.heap.size m M) w17) := HA.out.blw hb
    replace HU : Hid (St (fun x => x < w.heap.size) (fun W => UndosAt (fun x => x < w.heap.size) W au nu f g) w17) := HU.out.blw hb
    replace H3 : Hid (St (fun x => w.heap.size + 1 ≤ x ∧ x < w5.heap.size) (fun W => MemsOwn (fun x => w.heap.size + 1 ≤ x ∧ x < w5.heap.size) W a3 n5 R3) w17) := H3.out.blw hb
    replace H4m : Hid (St (fun x => w5.heap.size ≤ x ∧ x < w6.heap.size + 1) (MB (fun x => w5.heap.size ≤ x ∧ x < w6.heap.size + 1) w6.heap.size m4 M (M.marked 1)) w17) := H4m.out.blw hb
    replace H4u : Hid (St (fun x => w6.heap.size + 1 ≤ x ∧ x < w7.heap.size) (fun W => UndosOwn (fun x => w6.heap.size + 1 ≤ x ∧ x < w7.heap.size) W (some ⟨w6.heap.size + 1, 0, none⟩) nu (mkc (1 + (M.total : Int))) (mkw (1 + (M.total : Int)))) w17) := H4u.out.blw hb
    replace H5 : Hid (St (fun x => w7.heap.size ≤ x ∧ x < w8.heap.size) (fun W => MemsOwn (fun x => w7.heap.size ≤ x ∧ x < w8.heap.size) W a5 n5 (markedS R3 1)) w17) := H5.out.blw hb
    replace HB : Hid (Blw w w17) := HB.out.trans hb
    clear hb own
    go_wp2_with fail
    refine (toUndoS_any au cu nu f g _ _ hnu2 HU.out.out).mono ?_
    rintro e w18 ⟨rfl, row, hb⟩
    have hlt := row.lt
    try simp only [World.size_alloc] at hlt row
    have C7u : Hid (St (fun x => x < w18.heap.size) (fun W => UndosAt (fun x => x < w18.heap.size) W (some ⟨w17.heap.size, 0, none⟩) nu f g) w18) := UndosAt.st (row_pairs row (by omega) (X := fun x => x < w18.heap.size) hlt).at (fun x hx => hx)
    replace HA : Hid (St (fun x => x < w.heap.size + 1) (ArgM w.heap.size w.heap.size m M) w18) := HA.out.blw hb
    replace HU : Hid (St (fun x => x < w.heap.size) (fun W => UndosAt (fun x => x < w.heap.size) W au nu f g) w18) := HU.out.blw hb
    replace H3 : Hid (St (fun x => w.heap.size + 1 ≤ x ∧ x < w5.heap.size) (fun W => MemsOwn (fun x => w.heap.size + 1 ≤ x ∧ x < w5.heap.size) W a3 n5 R3) w18) := H3.out.blw hb
    replace H4m : Hid (St (fun x => w5.heap.size ≤ x ∧ x < w6.heap.size + 1) (MB (fun x => w5.heap.size ≤ x ∧ x < w6.heap.size + 1) w6.heap.size m4 M (M.marked 1)) w18) := H4m.out.blw hb
    replace H4u : Hid (St (fun x => w6.heap.size + 1 ≤ x ∧ x < w7.heap.size) (fun W => UndosOwn (fun x => w6.heap.size + 1 ≤ x ∧ x < w7.heap.size) W (some ⟨w6.heap.size + 1, 0, none⟩) nu (mkc (1 + (M.total : Int))) (mkw (1 + (M.total : Int)))) w18) := H4u.out.blw hb
    replace H5 : Hid (St (fun x => w7.heap.size ≤ x ∧ x < w8.heap.size) (fun W => MemsOwn (fun x => w7.heap.size ≤ x ∧ x < w8.heap.size) W a5 n5 (markedS R3 1)) w18) := H5.out.blw hb
    replace C7m : Hid (St (fun x => x < w17.heap.size) (fun W => MemAt (fun x => x < w17.heap.size) W m7 M) w18) := C7m.out.blw hb
    replace HB : Hid (Blw w w18) := HB.out.trans hb
    clear hb row hlt
    go_wp2_with fail
    refine (implSteps_any m7 M (some ⟨w17.heap.size, 0, none⟩) nu nu f g _ _ _ C7m.out.out C7u.out.out).mono ?_
    rintro e w19 ⟨a8, n8, c8, R8, b8, rfl, ho, own, hb⟩
    clear C7m
    clear C7u
    obtain ⟨⟨eR, ef⟩, eb⟩ := dsOut_same ho HO3.out
    subst eR eb
    have H8 : Hid (MemsOwn (fun x => x < w19.heap.size) w19 a8 n8 R3) := (own.congr ef).mono (fun x hx => hx.2)
    replace HA : Hid (St (fun x => x < w.heap.size + 1) (ArgM w.heap.size w.heap.size m M) w19) := HA.out.blw hb
    replace HU : Hid (St (fun x => x < w.heap.size) (fun W => UndosAt (fun x => x < w.heap.size) W au nu f g) w19) := HU.out.blw hb
    replace H3 : Hid (St (fun x => w.heap.size + 1 ≤ x ∧ x < w5.heap.size) (fun W => MemsOwn (fun x => w.heap.size + 1 ≤ x ∧ x < w5.heap.size) W a3 n8 R3) w19) := H3.out.blw hb
    replace H4m : Hid (St (fun x => w5.heap.size ≤ x ∧ x < w6.heap.size + 1) (MB (fun x => w5.heap.size ≤ x ∧ x < w6.heap.size + 1) w6.heap.size m4 M (M.marked 1)) w19) := H4m.out.blw hb
    replace H4u : Hid (St (fun x => w6.heap.size + 1 ≤ x ∧ x < w7.heap.size) (fun W => UndosOwn (fun x => w6.heap.size + 1 ≤ x ∧ x < w7.heap.size) W (some ⟨w6.heap.size + 1, 0, none⟩) nu (mkc (1 + (M.total : Int))) (mkw (1 + (M.total : Int)))) w19) := H4u.out.blw hb
    replace H5 : Hid (St (fun x => w7.heap.size ≤ x ∧ x < w8.heap.size) (fun W => MemsOwn (fun x => w7.heap.size ≤ x ∧ x < w8.heap.size) W a5 n8 (markedS R3 1)) w19) := H5.out.blw hb
    replace HB : Hid (Blw w w19) := HB.out.trans hb
    clear hb own ho ef
    go_wp2_with fail
    refine (eqMemoryS_same _ _ _ _ n8 R3 _ H8.out H3.out.out).mono ?_
    rintro e w20 ⟨rfl, hb⟩
    replace HA : Hid (St (fun x => x < w.heap.size + 1) (ArgM w.heap.size w.heap.size m M) w20) := HA.out.blw hb
    replace HU : Hid (St (fun x => x < w.heap.size) (fun W => UndosAt (fun x => x < w.heap.size) W au nu f g) w20) := HU.out.blw hb
    replace H3 : Hid (St (fun x => w.heap.size + 1 ≤ x ∧ x < w5.heap.size) (fun W => MemsOwn (fun x => w.heap.size + 1 ≤ x ∧ x < w5.heap.size) W a3 n8 R3) w20) := H3.out.blw hb
    replace H4m : Hid (St (fun x => w5.heap.size ≤ x ∧ x < w6.heap.size + 1) (MB (fun x => w5.heap.size ≤ x ∧ x < w6.heap.size + 1) w6.heap.size m4 M (M.marked 1)) w20) := H4m.out.blw hb
    replace H4u : Hid (St (fun x => w6.heap.size + 1 ≤ x ∧ x < w7.heap.size) (fun W => UndosOwn (fun x => w6.heap.size + 1 ≤ x ∧ x < w7.heap.size) W (some ⟨w6.heap.size + 1, 0, none⟩) nu (mkc (1 + (M.total : Int))) (mkw (1 + (M.total : Int)))) w20) := H4u.out.blw hb
    replace H5 : Hid (St (fun x => w7.heap.size ≤ x ∧ x < w8.heap.size) (fun W => MemsOwn (fun x => w7.heap.size ≤ x ∧ x < w8.heap.size) W a5 n8 (markedS R3 1)) w20) := H5.out.blw hb
    replace HB : Hid (Blw w w20) := HB.out.trans hb
    clear hb H8
    go_wp2_with fail
    refine (heldMemoryS_any a5 c5 n8 R3 _ 1 _ (by omega) HQ.out H5.out.out).mono ?_
    rintro e w21 ⟨rfl, hb⟩
    replace HA : Hid (St (fun x => x < w.heap.size + 1) (ArgM w.heap.size w.heap.size m M) w21) := HA.out.blw hb
    replace HU : Hid (St (fun x => x < w.heap.size) (fun W => UndosAt (fun x => x < w.heap.size) W au nu f g) w21) := HU.out.blw hb
    replace H3 : Hid (St (fun x => w.heap.size + 1 ≤ x ∧ x < w5.heap.size) (fun W => MemsOwn (fun x => w.heap.size + 1 ≤ x ∧ x < w5.heap.size) W a3 n8 R3) w21) := H3.out.blw hb
    replace H4m : Hid (St (fun x => w5.heap.size ≤ x ∧ x < w6.heap.size + 1) (MB (fun x => w5.heap.size ≤ x ∧ x < w6.heap.size + 1) w6.heap.size m4 M (M.marked 1)) w21) := H4m.out.blw hb
    replace H4u : Hid (St (fun x => w6.heap.size + 1 ≤ x ∧ x < w7.heap.size) (fun W => UndosOwn (fun x => w6.heap.size + 1 ≤ x ∧ x < w7.heap.size) W (some ⟨w6.heap.size + 1, 0, none⟩) nu (mkc (1 + (M.total : Int))) (mkw (1 + (M.total : Int)))) w21) := H4u.out.blw hb
    replace H5 : Hid (St (fun x => w7.heap.size ≤ x ∧ x < w8.heap.size) (fun W => MemsOwn (fun x => w7.heap.size ≤ x ∧ x < w8.heap.size) W a5 n8 (markedS R3 1)) w21) := H5.out.blw hb
    replace HB : Hid (Blw w w21) := HB.out.trans hb
    clear hb
    go_wp2
    go_ret
    exact ⟨rfl, HB.out⟩
end Go.Proofs.Ytglllnklcnlcjaa
