/- The law on FailDeed. -/
import Derived.Test.YtglllnklcnlcjaaLawT
import Derived.Test.YtglllnklcnlcjaaJimpl
namespace Go.Proofs.Ytglllnklcnlcjaa
open Go.RowKit
set_option linter.unusedSimpArgs false
set_option linter.unusedVariables false
set_option maxRecDepth 10000 in
set_option maxHeartbeats 6400000 in
theorem lawFailD (m : MV) (M : MD) (au : Option Addr) (nu cu : Nat) (f g : Nat → Int) (k : Int) (az : Option Addr) (ns cs : Nat) (fs : Nat → Int) (w : World) (hm : MemAt (fun x => x < w.heap.size) w m M) (hu : UndosAt (fun x => x < w.heap.size) w au nu f g) (hs : IntsAt (fun x => x < w.heap.size) w az ns fs) : Calls Try.prog 11 #[m.val M, .slice au nu cu, .int .i64 k, .slice az ns cs] w fun e w' => e = .returned (.bool true) ∧ Blw w w' := by
  have HB : Hid (Blw w (w.alloc (.cells #[.slice m.a1 M.n1 m.c1, .slice m.a2 M.n2 m.c2, .slice m.a3 M.n3 m.c3] 60))) := (Blw.refl _).alloc _
  have HA : Hid (St (fun x => x < w.heap.size + 1) (ArgM w.heap.size w.heap.size m M) (w.alloc (.cells #[.slice m.a1 M.n1 m.c1, .slice m.a2 M.n2 m.c2, .slice m.a3 M.n3 m.c3] 60))) := ArgM.st ⟨hm.blw HB.out, box3 w _ _ _ 60⟩ (by omega) (by omega) (by simp)
  clear hm
  have hnu := hu.1
  have HU : Hid (St (fun x => x < w.heap.size) (fun W => UndosAt (fun x => x < w.heap.size) W au nu f g) (w.alloc (.cells #[.slice m.a1 M.n1 m.c1, .slice m.a2 M.n2 m.c2, .slice m.a3 M.n3 m.c3] 60))) := UndosAt.st (hu.blw HB.out) (fun x hx => Nat.lt_of_lt_of_le hx HB.out.size)
  clear hu
  have hns := hs.1
  have HS : Hid (St (fun x => x < w.heap.size) (fun W => IntsAt (fun x => x < w.heap.size) W az ns fs) (w.alloc (.cells #[.slice m.a1 M.n1 m.c1, .slice m.a2 M.n2 m.c2, .slice m.a3 M.n3 m.c3] 60))) := IntsAt.st (hs.blw HB.out) (fun x hx => Nat.lt_of_lt_of_le hx HB.out.size)
  clear hs
  go_enter Try.func11, Try.ntmps11
  by_cases hbig : (1048576 : Int) < ns
  · have d1 : decide ((ns : Int) > 1048576) = true := by simp; omega
    go_wp2
    go_ret
    exact ⟨rfl, HB.out⟩
  have d1 : decide ((ns : Int) > 1048576) = false := by simp only [decide_eq_false_iff_not]; omega
  have hns2 : ns ≤ 1048576 := by omega
  clear hbig
  go_wp2_with fail
  refine (szMemory_any m M _ 1048576 _ (by omega) (by omega) HA.out.out.at_).mono ?_
  rintro e w1 ⟨r, rfl, hr, hb⟩
  clear d1
  replace HA : Hid (St (fun x => x < w.heap.size + 1) (ArgM w.heap.size w.heap.size m M) w1) := HA.out.blw hb
  replace HU : Hid (St (fun x => x < w.heap.size) (fun W => UndosAt (fun x => x < w.heap.size) W au nu f g) w1) := HU.out.blw hb
  replace HS : Hid (St (fun x => x < w.heap.size) (fun W => IntsAt (fun x => x < w.heap.size) W az ns fs) w1) := HS.out.blw hb
  replace HB : Hid (Blw w w1) := HB.out.trans hb
  clear hb
  rcases hr with rfl | ⟨q0, q1⟩
  · go_wp2
    go_ret
    exact ⟨rfl, HB.out⟩
  have SM : Hid (M.Small) := small_of (by omega)
  have hr0 : ¬ r < 0 := by omega
  go_wp2_with fail
  refine (szUndoS_any au cu nu r _ hnu (by omega) (by omega)).mono ?_
  rintro e w2 ⟨r2, rfl, hr2, hb⟩
  clear hr0
  replace HA : Hid (St (fun x => x < w.heap.size + 1) (ArgM w.heap.size w.heap.size m M) w2) := HA.out.blw hb
  replace HU : Hid (St (fun x => x < w.heap.size) (fun W => UndosAt (fun x => x < w.heap.size) W au nu f g) w2) := HU.out.blw hb
  replace HS : Hid (St (fun x => x < w.heap.size) (fun W => IntsAt (fun x => x < w.heap.size) W az ns fs) w2) := HS.out.blw hb
  replace HB : Hid (Blw w w2) := HB.out.trans hb
  clear hb
  rcases hr2 with rfl | ⟨q2, q3⟩
  · go_wp2
    go_ret
    exact ⟨rfl, HB.out⟩
  have hnu2 : nu ≤ 1048576 := by omega
  have hr0 : ¬ r2 < 0 := by omega
  clear q3
  clear q1
  obtain ⟨p00, p01, p02⟩ := get3 HA.out.out.box
  go_wp2_with fail
  clear p00 p01 p02
  refine (toMemory_any m M _ _ SM.out HA.out.out.at_).mono ?_
  rintro e w3 ⟨m2, rfl, own, hb⟩
  try clear hr0
  have C2m : Hid (St (fun x => x < w3.heap.size) (fun W => MemAt (fun x => x < w3.heap.size) W m2 M) w3) := ⟨fun x hx => hx, fun Z w' hm hx => (own.at.mono (fun x hx => hx.2)).mod hm hx⟩
  replace HA : Hid (St (fun x => x < w.heap.size + 1) (ArgM w.heap.size w.heap.size m M) w3) := HA.out.blw hb
  replace HU : Hid (St (fun x => x < w.heap.size) (fun W => UndosAt (fun x => x < w.heap.size) W au nu f g) w3) := HU.out.blw hb
  replace HS : Hid (St (fun x => x < w.heap.size) (fun W => IntsAt (fun x => x < w.heap.size) W az ns fs) w3) := HS.out.blw hb
  replace HB : Hid (Blw w w3) := HB.out.trans hb
  clear hb own
  go_wp2_with fail
  refine (toUndoS_any au cu nu f g _ _ hnu2 HU.out.out).mono ?_
  rintro e w4 ⟨rfl, row, hb⟩
  have hlt := row.lt
  try simp only [World.size_alloc] at hlt row
  have C2u : Hid (St (fun x => x < w4.heap.size) (fun W => UndosAt (fun x => x < w4.heap.size) W (some ⟨w3.heap.size, 0, none⟩) nu f g) w4) := UndosAt.st (row_pairs row (by omega) (X := fun x => x < w4.heap.size) hlt).at (fun x hx => hx)
  replace HA : Hid (St (fun x => x < w.heap.size + 1) (ArgM w.heap.size w.heap.size m M) w4) := HA.out.blw hb
  replace HU : Hid (St (fun x => x < w.heap.size) (fun W => UndosAt (fun x => x < w.heap.size) W au nu f g) w4) := HU.out.blw hb
  replace HS : Hid (St (fun x => x < w.heap.size) (fun W => IntsAt (fun x => x < w.heap.size) W az ns fs) w4) := HS.out.blw hb
  replace C2m : Hid (St (fun x => x < w3.heap.size) (fun W => MemAt (fun x => x < w3.heap.size) W m2 M) w4) := C2m.out.blw hb
  replace HB : Hid (Blw w w4) := HB.out.trans hb
  clear hb row hlt
  go_wp2_with fail
  refine (toIntS_any az cs ns fs _ _ hns2 HS.out.out).mono ?_
  rintro e w5 ⟨rfl, row, hb⟩
  have hlt' : ∀ x, x < 0 → False := fun x h => Nat.not_lt_zero _ h
  have hlt := row.lt
  have hz := hb.size
  try simp only [World.size_alloc] at hz hlt row
  clear hlt'
  have C2s : Hid (St (fun x => x < w5.heap.size) (fun W => IntsAt (fun x => x < w5.heap.size) W (some ⟨w4.heap.size, 0, none⟩) ns fs) w5) := IntsAt.st (row_ints row (by omega) (X := fun x => x < w5.heap.size) hlt).at (fun x hx => hx)
  replace HA : Hid (St (fun x => x < w.heap.size + 1) (ArgM w.heap.size w.heap.size m M) w5) := HA.out.blw hb
  replace HU : Hid (St (fun x => x < w.heap.size) (fun W => UndosAt (fun x => x < w.heap.size) W au nu f g) w5) := HU.out.blw hb
  replace HS : Hid (St (fun x => x < w.heap.size) (fun W => IntsAt (fun x => x < w.heap.size) W az ns fs) w5) := HS.out.blw hb
  replace C2m : Hid (St (fun x => x < w3.heap.size) (fun W => MemAt (fun x => x < w3.heap.size) W m2 M) w5) := C2m.out.blw hb
  replace C2u : Hid (St (fun x => x < w4.heap.size) (fun W => UndosAt (fun x => x < w4.heap.size) W (some ⟨w3.heap.size, 0, none⟩) nu f g) w5) := C2u.out.blw hb
  replace HB : Hid (Blw w w5) := HB.out.trans hb
  clear hb row hlt hz
  have HX : Hid (w.heap.size + 1 ≤ w5.heap.size) := by have h1 := HA.out.1 w.heap.size (by omega); show _ ≤ _; omega
  go_wp2_with fail
  refine (specFailDeed_any m2 M (some ⟨w3.heap.size, 0, none⟩) nu nu f g k (some ⟨w4.heap.size, 0, none⟩) ns ns fs _ _ _ _ C2m.out.out C2m.out.1 C2u.out.out C2u.out.1 C2s.out.out C2s.out.1).mono ?_
  rintro e w6 ⟨m3, R3, b3, rfl, ho, own, hb⟩
  clear C2m
  clear C2u
  clear C2s
  have hz := hb.size
  try simp only [World.size_alloc] at hz
  try simp only [World.size_alloc] at own
  have HN0 : Hid (w.heap.size + 1 ≤ w6.heap.size) := by have h1 := HA.out.1 w.heap.size (by omega); show _ ≤ _; (try simp only [World.size_alloc] at h1); omega
  have HO3 : Hid (fdOut M nu f g k ns fs R3 b3) := ho
  have hA : Blw w6 (w6.alloc (.cells #[.slice m3.a1 R3.n1 m3.c1, .slice m3.a2 R3.n2 m3.c2, .slice m3.a3 R3.n3 m3.c3] 26)) := (Blw.refl _).alloc _
  have H3 : Hid (St (fun x => x < w6.heap.size + 1) (ArgM w6.heap.size w6.heap.size m3 R3) (w6.alloc (.cells #[.slice m3.a1 R3.n1 m3.c1, .slice m3.a2 R3.n2 m3.c2, .slice m3.a3 R3.n3 m3.c3] 26))) := ArgM.st ⟨(own.blw hA).mono (fun x hx => hx.2), box3 w6 _ _ _ 26⟩ (by omega) (by omega) (by simp)
  replace HA : Hid (St (fun x => x < w.heap.size + 1) (ArgM w.heap.size w.heap.size m M) (w6.alloc (.cells #[.slice m3.a1 R3.n1 m3.c1, .slice m3.a2 R3.n2 m3.c2, .slice m3.a3 R3.n3 m3.c3] 26))) := HA.out.blw (hb.trans hA)
  replace HU : Hid (St (fun x => x < w.heap.size) (fun W => UndosAt (fun x => x < w.heap.size) W au nu f g) (w6.alloc (.cells #[.slice m3.a1 R3.n1 m3.c1, .slice m3.a2 R3.n2 m3.c2, .slice m3.a3 R3.n3 m3.c3] 26))) := HU.out.blw (hb.trans hA)
  replace HS : Hid (St (fun x => x < w.heap.size) (fun W => IntsAt (fun x => x < w.heap.size) W az ns fs) (w6.alloc (.cells #[.slice m3.a1 R3.n1 m3.c1, .slice m3.a2 R3.n2 m3.c2, .slice m3.a3 R3.n3 m3.c3] 26))) := HS.out.blw (hb.trans hA)
  replace HB : Hid (Blw w (w6.alloc (.cells #[.slice m3.a1 R3.n1 m3.c1, .slice m3.a2 R3.n2 m3.c2, .slice m3.a3 R3.n3 m3.c3] 26))) := HB.out.trans (hb.trans hA)
  clear hb hA own hz ho
  obtain ⟨p00, p01, p02⟩ := get3 HA.out.out.box
  go_wp2_with fail
  clear p00 p01 p02
  refine (toMemory_any m M _ _ SM.out HA.out.out.at_).mono ?_
  rintro e w7 ⟨m4, rfl, own, hb⟩
  try clear hr0
  have hA : Blw w7 (w7.alloc (.cells #[.slice m4.a1 M.n1 m4.c1, .slice m4.a2 M.n2 m4.c2, .slice m4.a3 M.n3 m4.c3] 26)) := (Blw.refl _).alloc _
  have hz := hb.size
  try simp only [World.size_alloc] at hz
  have HN1 : Hid (w6.heap.size + 1 ≤ w7.heap.size) := hz
  have H4m : Hid (St (fun x => w6.heap.size + 1 ≤ x ∧ x < w7.heap.size + 1) (MB (fun x => w6.heap.size + 1 ≤ x ∧ x < w7.heap.size + 1) w7.heap.size m4 M M) (w7.alloc (.cells #[.slice m4.a1 M.n1 m4.c1, .slice m4.a2 M.n2 m4.c2, .slice m4.a3 M.n3 m4.c3] 26))) := MB.st ⟨(own.blw hA).mono (fun x hx => by have hx' := hx; (try simp only [World.size_alloc] at hx'); exact ⟨⟨by omega, by omega⟩, by omega⟩), box3 w7 _ _ _ 26⟩ ⟨hz, by omega⟩ (fun x hx => by simp; omega)
  replace HA : Hid (St (fun x => x < w.heap.size + 1) (ArgM w.heap.size w.heap.size m M) (w7.alloc (.cells #[.slice m4.a1 M.n1 m4.c1, .slice m4.a2 M.n2 m4.c2, .slice m4.a3 M.n3 m4.c3] 26))) := HA.out.blw (hb.trans hA)
  replace HU : Hid (St (fun x => x < w.heap.size) (fun W => UndosAt (fun x => x < w.heap.size) W au nu f g) (w7.alloc (.cells #[.slice m4.a1 M.n1 m4.c1, .slice m4.a2 M.n2 m4.c2, .slice m4.a3 M.n3 m4.c3] 26))) := HU.out.blw (hb.trans hA)
  replace HS : Hid (St (fun x => x < w.heap.size) (fun W => IntsAt (fun x => x < w.heap.size) W az ns fs) (w7.alloc (.cells #[.slice m4.a1 M.n1 m4.c1, .slice m4.a2 M.n2 m4.c2, .slice m4.a3 M.n3 m4.c3] 26))) := HS.out.blw (hb.trans hA)
  replace H3 : Hid (St (fun x => x < w6.heap.size + 1) (ArgM w6.heap.size w6.heap.size m3 R3) (w7.alloc (.cells #[.slice m4.a1 M.n1 m4.c1, .slice m4.a2 M.n2 m4.c2, .slice m4.a3 M.n3 m4.c3] 26))) := H3.out.blw (hb.trans hA)
  replace HB : Hid (Blw w (w7.alloc (.cells #[.slice m4.a1 M.n1 m4.c1, .slice m4.a2 M.n2 m4.c2, .slice m4.a3 M.n3 m4.c3] 26))) := HB.out.trans (hb.trans hA)
  clear hb hA own hz
  go_wp2_with fail
  refine (toUndoS_any au cu nu f g _ _ hnu2 HU.out.out).mono ?_
  rintro e w8 ⟨rfl, row, hb⟩
  have hlt := row.lt
  have hz := hb.size
  try simp only [World.size_alloc] at hz hlt row
  have HN2 : Hid (w7.heap.size + 1 ≤ w7.heap.size + 1 ∧ w7.heap.size + 1 < w8.heap.size) := ⟨by have o0 := HN0.out; have o1 := HN1.out; omega, hlt⟩
  have H4u : Hid (St (fun x => w7.heap.size + 1 ≤ x ∧ x < w8.heap.size) (fun W => UndosOwn (fun x => w7.heap.size + 1 ≤ x ∧ x < w8.heap.size) W (some ⟨w7.heap.size + 1, 0, none⟩) nu f g) w8) := UndosOwn.st (row_pairs row (by omega) HN2.out) (fun x hx => hx.2)
  replace HA : Hid (St (fun x => x < w.heap.size + 1) (ArgM w.heap.size w.heap.size m M) w8) := HA.out.blw hb
  replace HU : Hid (St (fun x => x < w.heap.size) (fun W => UndosAt (fun x => x < w.heap.size) W au nu f g) w8) := HU.out.blw hb
  replace HS : Hid (St (fun x => x < w.heap.size) (fun W => IntsAt (fun x => x < w.heap.size) W az ns fs) w8) := HS.out.blw hb
  replace H3 : Hid (St (fun x => x < w6.heap.size + 1) (ArgM w6.heap.size w6.heap.size m3 R3) w8) := H3.out.blw hb
  replace H4m : Hid (St (fun x => w6.heap.size + 1 ≤ x ∧ x < w7.heap.size + 1) (MB (fun x => w6.heap.size + 1 ≤ x ∧ x < w7.heap.size + 1) w7.heap.size m4 M M) w8) := H4m.out.blw hb
  replace HB : Hid (Blw w w8) := HB.out.trans hb
  clear hb row hz hlt
  go_wp2_with fail
  refine (toIntS_any az cs ns fs _ _ hns2 HS.out.out).mono ?_
  rintro e w9 ⟨rfl, row, hb⟩
  have hlt' : ∀ x, x < 0 → False := fun x h => Nat.not_lt_zero _ h
  have hlt := row.lt
  have hz := hb.size
  try simp only [World.size_alloc] at hz hlt row
  clear hlt'
  have HN3 : Hid (w8.heap.size ≤ w8.heap.size ∧ w8.heap.size < w9.heap.size) := ⟨by have o0 := HN0.out; have o1 := HN1.out; have o2 := HN2.out; omega, hlt⟩
  have H4s : Hid (St (fun x => w8.heap.size ≤ x ∧ x < w9.heap.size) (fun W => IntsOwn (fun x => w8.heap.size ≤ x ∧ x < w9.heap.size) W (some ⟨w8.heap.size, 0, none⟩) ns fs) w9) := IntsOwn.st (row_ints row (by omega) HN3.out) (fun x hx => hx.2)
  replace HA : Hid (St (fun x => x < w.heap.size + 1) (ArgM w.heap.size w.heap.size m M) w9) := HA.out.blw hb
  replace HU : Hid (St (fun x => x < w.heap.size) (fun W => UndosAt (fun x => x < w.heap.size) W au nu f g) w9) := HU.out.blw hb
  replace HS : Hid (St (fun x => x < w.heap.size) (fun W => IntsAt (fun x => x < w.heap.size) W az ns fs) w9) := HS.out.blw hb
  replace H3 : Hid (St (fun x => x < w6.heap.size + 1) (ArgM w6.heap.size w6.heap.size m3 R3) w9) := H3.out.blw hb
  replace H4m : Hid (St (fun x => w6.heap.size + 1 ≤ x ∧ x < w7.heap.size + 1) (MB (fun x => w6.heap.size + 1 ≤ x ∧ x < w7.heap.size + 1) w7.heap.size m4 M M) w9) := H4m.out.blw hb
  replace H4u : Hid (St (fun x => w7.heap.size + 1 ≤ x ∧ x < w8.heap.size) (fun W => UndosOwn (fun x => w7.heap.size + 1 ≤ x ∧ x < w8.heap.size) W (some ⟨w7.heap.size + 1, 0, none⟩) nu f g) w9) := H4u.out.blw hb
  replace HB : Hid (Blw w w9) := HB.out.trans hb
  clear hb row hz hlt
  obtain ⟨p00, p01, p02⟩ := get3 H4m.out.out.box
  go_wp2_with fail
  clear p00 p01 p02
  refine (implFailDeed_any m4 M (some ⟨w7.heap.size + 1, 0, none⟩) nu nu f g k (some ⟨w8.heap.size, 0, none⟩) ns ns fs _ _ _ _ H4m.out.out.own.at H4u.out.out.at H4s.out.out.at).mono ?_
  rintro e w10 ⟨m5, R5, b5, rfl, ho, own, hb⟩
  have hz := hb.size
  try simp only [World.size_alloc] at hz
  try simp only [World.size_alloc] at own
  have HN4 : Hid (w9.heap.size ≤ w10.heap.size) := by have o0 := HN0.out; have o1 := HN1.out; have o2 := HN2.out; have o3 := HN3.out; show _ ≤ _; omega
  obtain ⟨eR, eb⟩ := fdOut_same ho HO3.out
  subst eR eb
  have hA : Blw w10 (w10.alloc (.cells #[.slice m5.a1 R5.n1 m5.c1, .slice m5.a2 R5.n2 m5.c2, .slice m5.a3 R5.n3 m5.c3] 26)) := (Blw.refl _).alloc _
  have H5 : Hid (St (fun x => w9.heap.size ≤ x ∧ x < w10.heap.size + 1) (MB (fun x => w9.heap.size ≤ x ∧ x < w10.heap.size + 1) w10.heap.size m5 R5 R5) (w10.alloc (.cells #[.slice m5.a1 R5.n1 m5.c1, .slice m5.a2 R5.n2 m5.c2, .slice m5.a3 R5.n3 m5.c3] 26))) := MB.st ⟨(own.blw hA).mono (fun x hx => ⟨⟨by omega, by omega⟩, by omega⟩), box3 w10 _ _ _ 26⟩ ⟨HN4.out, by omega⟩ (fun x hx => by simp; omega)
  replace HA : Hid (St (fun x => x < w.heap.size + 1) (ArgM w.heap.size w.heap.size m M) (w10.alloc (.cells #[.slice m5.a1 R5.n1 m5.c1, .slice m5.a2 R5.n2 m5.c2, .slice m5.a3 R5.n3 m5.c3] 26))) := HA.out.blw (hb.trans hA)
  replace HU : Hid (St (fun x => x < w.heap.size) (fun W => UndosAt (fun x => x < w.heap.size) W au nu f g) (w10.alloc (.cells #[.slice m5.a1 R5.n1 m5.c1, .slice m5.a2 R5.n2 m5.c2, .slice m5.a3 R5.n3 m5.c3] 26))) := HU.out.blw (hb.trans hA)
  replace HS : Hid (St (fun x => x < w.heap.size) (fun W => IntsAt (fun x => x < w.heap.size) W az ns fs) (w10.alloc (.cells #[.slice m5.a1 R5.n1 m5.c1, .slice m5.a2 R5.n2 m5.c2, .slice m5.a3 R5.n3 m5.c3] 26))) := HS.out.blw (hb.trans hA)
  replace H3 : Hid (St (fun x => x < w6.heap.size + 1) (ArgM w6.heap.size w6.heap.size m3 R5) (w10.alloc (.cells #[.slice m5.a1 R5.n1 m5.c1, .slice m5.a2 R5.n2 m5.c2, .slice m5.a3 R5.n3 m5.c3] 26))) := H3.out.blw (hb.trans hA)
  replace H4m : Hid (St (fun x => w6.heap.size + 1 ≤ x ∧ x < w7.heap.size + 1) (MB (fun x => w6.heap.size + 1 ≤ x ∧ x < w7.heap.size + 1) w7.heap.size m4 M M) (w10.alloc (.cells #[.slice m5.a1 R5.n1 m5.c1, .slice m5.a2 R5.n2 m5.c2, .slice m5.a3 R5.n3 m5.c3] 26))) := H4m.out.blw (hb.trans hA)
  replace H4u : Hid (St (fun x => w7.heap.size + 1 ≤ x ∧ x < w8.heap.size) (fun W => UndosOwn (fun x => w7.heap.size + 1 ≤ x ∧ x < w8.heap.size) W (some ⟨w7.heap.size + 1, 0, none⟩) nu f g) (w10.alloc (.cells #[.slice m5.a1 R5.n1 m5.c1, .slice m5.a2 R5.n2 m5.c2, .slice m5.a3 R5.n3 m5.c3] 26))) := H4u.out.blw (hb.trans hA)
  replace H4s : Hid (St (fun x => w8.heap.size ≤ x ∧ x < w9.heap.size) (fun W => IntsOwn (fun x => w8.heap.size ≤ x ∧ x < w9.heap.size) W (some ⟨w8.heap.size, 0, none⟩) ns fs) (w10.alloc (.cells #[.slice m5.a1 R5.n1 m5.c1, .slice m5.a2 R5.n2 m5.c2, .slice m5.a3 R5.n3 m5.c3] 26))) := H4s.out.blw (hb.trans hA)
  replace HB : Hid (Blw w (w10.alloc (.cells #[.slice m5.a1 R5.n1 m5.c1, .slice m5.a2 R5.n2 m5.c2, .slice m5.a3 R5.n3 m5.c3] 26))) := HB.out.trans (hb.trans hA)
  clear hb hA own hz ho
  have hne : (b5 != b5) = false := by simp
  obtain ⟨p00, p01, p02⟩ := get3 H5.out.out.box
  obtain ⟨p10, p11, p12⟩ := get3 H3.out.out.box
  go_wp2_with fail
  clear p00 p01 p02 p10 p11 p12
  refine (eqMemory_same m5 m3 R5 _ H5.out.out.own.at H3.out.out.at_).mono ?_
  rintro e w11 ⟨rfl, hb⟩
  replace HA : Hid (St (fun x => x < w.heap.size + 1) (ArgM w.heap.size w.heap.size m M) w11) := HA.out.blw hb
  replace HU : Hid (St (fun x => x < w.heap.size) (fun W => UndosAt (fun x => x < w.heap.size) W au nu f g) w11) := HU.out.blw hb
  replace HS : Hid (St (fun x => x < w.heap.size) (fun W => IntsAt (fun x => x < w.heap.size) W az ns fs) w11) := HS.out.blw hb
  replace H3 : Hid (St (fun x => x < w6.heap.size + 1) (ArgM w6.heap.size w6.heap.size m3 R5) w11) := H3.out.blw hb
  replace H4m : Hid (St (fun x => w6.heap.size + 1 ≤ x ∧ x < w7.heap.size + 1) (MB (fun x => w6.heap.size + 1 ≤ x ∧ x < w7.heap.size + 1) w7.heap.size m4 M M) w11) := H4m.out.blw hb
  replace H4u : Hid (St (fun x => w7.heap.size + 1 ≤ x ∧ x < w8.heap.size) (fun W => UndosOwn (fun x => w7.heap.size + 1 ≤ x ∧ x < w8.heap.size) W (some ⟨w7.heap.size + 1, 0, none⟩) nu f g) w11) := H4u.out.blw hb
  replace H4s : Hid (St (fun x => w8.heap.size ≤ x ∧ x < w9.heap.size) (fun W => IntsOwn (fun x => w8.heap.size ≤ x ∧ x < w9.heap.size) W (some ⟨w8.heap.size, 0, none⟩) ns fs) w11) := H4s.out.blw hb
  replace H5 : Hid (St (fun x => w9.heap.size ≤ x ∧ x < w10.heap.size + 1) (MB (fun x => w9.heap.size ≤ x ∧ x < w10.heap.size + 1) w10.heap.size m5 R5 R5) w11) := H5.out.blw hb
  replace HB : Hid (Blw w w11) := HB.out.trans hb
  clear hb
  go_upto_region 17 with fail
  go_cut [73] from 69 to 73 (fun c wx => c = .bool false ∧ Blw w11 wx)
  case first =>
    obtain ⟨A0, A1, A2⟩ := box3_all HA.out.out.box
    obtain ⟨B0, B1, B2⟩ := box3_all H4m.out.out.box
    go_region_held3 (fun w' => Blw w11 w') ((first | exact (Blw.refl _).drew | assumption | exact Blw.trans (by assumption) (by assumption))) (first
      | (go_at_call 39; refine (toMemory_any m M _ _ SM.out (HA.out.blw (by assumption)).out.at_).mono ?_; rintro e w70 ⟨m6, rfl, o6, hb7⟩)
      | (go_at_call 41; refine (eqMemory_same m4 m6 M _ (H4m.out.blw (by assumption)).out.own.at o6.at).mono ?_; rintro e w80 ⟨rfl, hb8⟩))
    all_goals go_wp2_with fail
    all_goals go_meet
    all_goals exact ⟨rfl, by assumption⟩
  case rest =>
    obtain ⟨rfl, hb⟩ := hcut
    replace HA : Hid (St (fun x => x < w.heap.size + 1) (ArgM w.heap.size w.heap.size m M) wc) := HA.out.blw hb
    replace HU : Hid (St (fun x => x < w.heap.size) (fun W => UndosAt (fun x => x < w.heap.size) W au nu f g) wc) := HU.out.blw hb
    replace HS : Hid (St (fun x => x < w.heap.size) (fun W => IntsAt (fun x => x < w.heap.size) W az ns fs) wc) := HS.out.blw hb
    replace H3 : Hid (St (fun x => x < w6.heap.size + 1) (ArgM w6.heap.size w6.heap.size m3 R5) wc) := H3.out.blw hb
    replace H4m : Hid (St (fun x => w6.heap.size + 1 ≤ x ∧ x < w7.heap.size + 1) (MB (fun x => w6.heap.size + 1 ≤ x ∧ x < w7.heap.size + 1) w7.heap.size m4 M M) wc) := H4m.out.blw hb
    replace H4u : Hid (St (fun x => w7.heap.size + 1 ≤ x ∧ x < w8.heap.size) (fun W => UndosOwn (fun x => w7.heap.size + 1 ≤ x ∧ x < w8.heap.size) W (some ⟨w7.heap.size + 1, 0, none⟩) nu f g) wc) := H4u.out.blw hb
    replace H4s : Hid (St (fun x => w8.heap.size ≤ x ∧ x < w9.heap.size) (fun W => IntsOwn (fun x => w8.heap.size ≤ x ∧ x < w9.heap.size) W (some ⟨w8.heap.size, 0, none⟩) ns fs) wc) := H4s.out.blw hb
    replace H5 : Hid (St (fun x => w9.heap.size ≤ x ∧ x < w10.heap.size + 1) (MB (fun x => w9.heap.size ≤ x ∧ x < w10.heap.size + 1) w10.heap.size m5 R5 R5) wc) := H5.out.blw hb
    replace HB : Hid (Blw w wc) := HB.out.trans hb
    clear hb
    go_wp2_with fail
    refine (toUndoS_any au cu nu f g _ _ hnu2 HU.out.out).mono ?_
    rintro e w12 ⟨rfl, row, hb⟩
    have hlt := row.lt
    try simp only [World.size_alloc] at hlt row
    have C6 : Hid (UndosAt (fun x => x < w12.heap.size) w12 (some ⟨wc.heap.size, 0, none⟩) nu f g) := (row_pairs row (by omega) (X := fun x => x < w12.heap.size) hlt).at
    replace HA : Hid (St (fun x => x < w.heap.size + 1) (ArgM w.heap.size w.heap.size m M) w12) := HA.out.blw hb
    replace HU : Hid (St (fun x => x < w.heap.size) (fun W => UndosAt (fun x => x < w.heap.size) W au nu f g) w12) := HU.out.blw hb
    replace HS : Hid (St (fun x => x < w.heap.size) (fun W => IntsAt (fun x => x < w.heap.size) W az ns fs) w12) := HS.out.blw hb
    replace H3 : Hid (St (fun x => x < w6.heap.size + 1) (ArgM w6.heap.size w6.heap.size m3 R5) w12) := H3.out.blw hb
    replace H4m : Hid (St (fun x => w6.heap.size + 1 ≤ x ∧ x < w7.heap.size + 1) (MB (fun x => w6.heap.size + 1 ≤ x ∧ x < w7.heap.size + 1) w7.heap.size m4 M M) w12) := H4m.out.blw hb
    replace H4u : Hid (St (fun x => w7.heap.size + 1 ≤ x ∧ x < w8.heap.size) (fun W => UndosOwn (fun x => w7.heap.size + 1 ≤ x ∧ x < w8.heap.size) W (some ⟨w7.heap.size + 1, 0, none⟩) nu f g) w12) := H4u.out.blw hb
    replace H4s : Hid (St (fun x => w8.heap.size ≤ x ∧ x < w9.heap.size) (fun W => IntsOwn (fun x => w8.heap.size ≤ x ∧ x < w9.heap.size) W (some ⟨w8.heap.size, 0, none⟩) ns fs) w12) := H4s.out.blw hb
    replace H5 : Hid (St (fun x => w9.heap.size ≤ x ∧ x < w10.heap.size + 1) (MB (fun x => w9.heap.size ≤ x ∧ x < w10.heap.size + 1) w10.heap.size m5 R5 R5) w12) := H5.out.blw hb
    replace HB : Hid (Blw w w12) := HB.out.trans hb
    clear hb row hlt
    go_wp2_with fail
    refine (eqUndoS_same _ _ _ _ nu f g _ H4u.out.out.at C6.out).mono ?_
    rintro e w13 ⟨rfl, hb⟩
    replace HA : Hid (St (fun x => x < w.heap.size + 1) (ArgM w.heap.size w.heap.size m M) w13) := HA.out.blw hb
    replace HU : Hid (St (fun x => x < w.heap.size) (fun W => UndosAt (fun x => x < w.heap.size) W au nu f g) w13) := HU.out.blw hb
    replace HS : Hid (St (fun x => x < w.heap.size) (fun W => IntsAt (fun x => x < w.heap.size) W az ns fs) w13) := HS.out.blw hb
    replace H3 : Hid (St (fun x => x < w6.heap.size + 1) (ArgM w6.heap.size w6.heap.size m3 R5) w13) := H3.out.blw hb
    replace H4m : Hid (St (fun x => w6.heap.size + 1 ≤ x ∧ x < w7.heap.size + 1) (MB (fun x => w6.heap.size + 1 ≤ x ∧ x < w7.heap.size + 1) w7.heap.size m4 M M) w13) := H4m.out.blw hb
    replace H4u : Hid (St (fun x => w7.heap.size + 1 ≤ x ∧ x < w8.heap.size) (fun W => UndosOwn (fun x => w7.heap.size + 1 ≤ x ∧ x < w8.heap.size) W (some ⟨w7.heap.size + 1, 0, none⟩) nu f g) w13) := H4u.out.blw hb
    replace H4s : Hid (St (fun x => w8.heap.size ≤ x ∧ x < w9.heap.size) (fun W => IntsOwn (fun x => w8.heap.size ≤ x ∧ x < w9.heap.size) W (some ⟨w8.heap.size, 0, none⟩) ns fs) w13) := H4s.out.blw hb
    replace H5 : Hid (St (fun x => w9.heap.size ≤ x ∧ x < w10.heap.size + 1) (MB (fun x => w9.heap.size ≤ x ∧ x < w10.heap.size + 1) w10.heap.size m5 R5 R5) w13) := H5.out.blw hb
    replace HB : Hid (Blw w w13) := HB.out.trans hb
    clear hb C6
    go_wp2_with fail
    refine (toIntS_any az cs ns fs _ _ hns2 HS.out.out).mono ?_
    rintro e w14 ⟨rfl, row, hb⟩
    have hlt := row.lt
    have C6 : Hid (IntsAt (fun x => x < w14.heap.size) w14 (some ⟨w13.heap.size, 0, none⟩) ns fs) := (row_ints row (by omega) (X := fun x => x < w14.heap.size) hlt).at
    replace HA : Hid (St (fun x => x < w.heap.size + 1) (ArgM w.heap.size w.heap.size m M) w14) := HA.out.blw hb
    replace HU : Hid (St (fun x => x < w.heap.size) (fun W => UndosAt (fun x => x < w.heap.size) W au nu f g) w14) := HU.out.blw hb
    replace HS : Hid (St (fun x => x < w.heap.size) (fun W => IntsAt (fun x => x < w.heap.size) W az ns fs) w14) := HS.out.blw hb
    replace H3 : Hid (St (fun x => x < w6.heap.size + 1) (ArgM w6.heap.size w6.heap.size m3 R5) w14) := H3.out.blw hb
    replace H4m : Hid (St (fun x => w6.heap.size + 1 ≤ x ∧ x < w7.heap.size + 1) (MB (fun x => w6.heap.size + 1 ≤ x ∧ x < w7.heap.size + 1) w7.heap.size m4 M M) w14) := H4m.out.blw hb
    replace H4u : Hid (St (fun x => w7.heap.size + 1 ≤ x ∧ x < w8.heap.size) (fun W => UndosOwn (fun x => w7.heap.size + 1 ≤ x ∧ x < w8.heap.size) W (some ⟨w7.heap.size + 1, 0, none⟩) nu f g) w14) := H4u.out.blw hb
    replace H4s : Hid (St (fun x => w8.heap.size ≤ x ∧ x < w9.heap.size) (fun W => IntsOwn (fun x => w8.heap.size ≤ x ∧ x < w9.heap.size) W (some ⟨w8.heap.size, 0, none⟩) ns fs) w14) := H4s.out.blw hb
    replace H5 : Hid (St (fun x => w9.heap.size ≤ x ∧ x < w10.heap.size + 1) (MB (fun x => w9.heap.size ≤ x ∧ x < w10.heap.size + 1) w10.heap.size m5 R5 R5) w14) := H5.out.blw hb
    replace HB : Hid (Blw w w14) := HB.out.trans hb
    clear hb row hlt
    go_wp2_with fail
    refine (eqIntS_blw _ _ _ _ ns fs _ H4s.out.out.at C6.out).mono ?_
    rintro e w15 ⟨rfl, hb⟩
    replace HA : Hid (St (fun x => x < w.heap.size + 1) (ArgM w.heap.size w.heap.size m M) w15) := HA.out.blw hb
    replace HU : Hid (St (fun x => x < w.heap.size) (fun W => UndosAt (fun x => x < w.heap.size) W au nu f g) w15) := HU.out.blw hb
    replace HS : Hid (St (fun x => x < w.heap.size) (fun W => IntsAt (fun x => x < w.heap.size) W az ns fs) w15) := HS.out.blw hb
    replace H3 : Hid (St (fun x => x < w6.heap.size + 1) (ArgM w6.heap.size w6.heap.size m3 R5) w15) := H3.out.blw hb
    replace H4m : Hid (St (fun x => w6.heap.size + 1 ≤ x ∧ x < w7.heap.size + 1) (MB (fun x => w6.heap.size + 1 ≤ x ∧ x < w7.heap.size + 1) w7.heap.size m4 M M) w15) := H4m.out.blw hb
    replace H4u : Hid (St (fun x => w7.heap.size + 1 ≤ x ∧ x < w8.heap.size) (fun W => UndosOwn (fun x => w7.heap.size + 1 ≤ x ∧ x < w8.heap.size) W (some ⟨w7.heap.size + 1, 0, none⟩) nu f g) w15) := H4u.out.blw hb
    replace H4s : Hid (St (fun x => w8.heap.size ≤ x ∧ x < w9.heap.size) (fun W => IntsOwn (fun x => w8.heap.size ≤ x ∧ x < w9.heap.size) W (some ⟨w8.heap.size, 0, none⟩) ns fs) w15) := H4s.out.blw hb
    replace H5 : Hid (St (fun x => w9.heap.size ≤ x ∧ x < w10.heap.size + 1) (MB (fun x => w9.heap.size ≤ x ∧ x < w10.heap.size + 1) w10.heap.size m5 R5 R5) w15) := H5.out.blw hb
    replace HB : Hid (Blw w w15) := HB.out.trans hb
    clear hb C6
    have htM : M.total ≤ 1048576 := SM.out.t
    obtain ⟨p00, p01, p02⟩ := get3 H4m.out.out.box
    go_wp2_with fail
    clear p00 p01 p02
    refine (markMemory_any m4 M _ 1 _ (by omega) (by omega) H4m.out.out.own (fun x hx => H4m.out.1 x hx.1)).mono ?_
    rintro e w16 ⟨rfl, own, hm⟩
    have bx4 := H4m.out.out.box.mod hm (fun hh => hh.2 rfl)
    have s4 := hm.size
    replace HA : Hid (St (fun x => x < w.heap.size + 1) (ArgM w.heap.size w.heap.size m M) w16) := HA.out.mod hm (fun x hx hz => by have o0 := HN0.out; have o1 := HN1.out; have o2 := HN2.out; have o3 := HN3.out; have o4 := HN4.out; have hz' : w6.heap.size + 1 ≤ x ∧ x < w7.heap.size + 1 := hz.1; have hx' : x < w.heap.size + 1 := hx; omega)
    replace HU : Hid (St (fun x => x < w.heap.size) (fun W => UndosAt (fun x => x < w.heap.size) W au nu f g) w16) := HU.out.mod hm (fun x hx hz => by have o0 := HN0.out; have o1 := HN1.out; have o2 := HN2.out; have o3 := HN3.out; have o4 := HN4.out; have hz' : w6.heap.size + 1 ≤ x ∧ x < w7.heap.size + 1 := hz.1; have hx' : x < w.heap.size := hx; omega)
    replace HS : Hid (St (fun x => x < w.heap.size) (fun W => IntsAt (fun x => x < w.heap.size) W az ns fs) w16) := HS.out.mod hm (fun x hx hz => by have o0 := HN0.out; have o1 := HN1.out; have o2 := HN2.out; have o3 := HN3.out; have o4 := HN4.out; have hz' : w6.heap.size + 1 ≤ x ∧ x < w7.heap.size + 1 := hz.1; have hx' : x < w.heap.size := hx; omega)
    replace H3 : Hid (St (fun x => x < w6.heap.size + 1) (ArgM w6.heap.size w6.heap.size m3 R5) w16) := H3.out.mod hm (fun x hx hz => by have o0 := HN0.out; have o1 := HN1.out; have o2 := HN2.out; have o3 := HN3.out; have o4 := HN4.out; have hz' : w6.heap.size + 1 ≤ x ∧ x < w7.heap.size + 1 := hz.1; have hx' : x < w6.heap.size + 1 := hx; omega)
    replace H4u : Hid (St (fun x => w7.heap.size + 1 ≤ x ∧ x < w8.heap.size) (fun W => UndosOwn (fun x => w7.heap.size + 1 ≤ x ∧ x < w8.heap.size) W (some ⟨w7.heap.size + 1, 0, none⟩) nu f g) w16) := H4u.out.mod hm (fun x hx hz => by have o0 := HN0.out; have o1 := HN1.out; have o2 := HN2.out; have o3 := HN3.out; have o4 := HN4.out; have hz' : w6.heap.size + 1 ≤ x ∧ x < w7.heap.size + 1 := hz.1; have hx' : w7.heap.size + 1 ≤ x ∧ x < w8.heap.size := hx; omega)
    replace H4s : Hid (St (fun x => w8.heap.size ≤ x ∧ x < w9.heap.size) (fun W => IntsOwn (fun x => w8.heap.size ≤ x ∧ x < w9.heap.size) W (some ⟨w8.heap.size, 0, none⟩) ns fs) w16) := H4s.out.mod hm (fun x hx hz => by have o0 := HN0.out; have o1 := HN1.out; have o2 := HN2.out; have o3 := HN3.out; have o4 := HN4.out; have hz' : w6.heap.size + 1 ≤ x ∧ x < w7.heap.size + 1 := hz.1; have hx' : w8.heap.size ≤ x ∧ x < w9.heap.size := hx; omega)
    replace H5 : Hid (St (fun x => w9.heap.size ≤ x ∧ x < w10.heap.size + 1) (MB (fun x => w9.heap.size ≤ x ∧ x < w10.heap.size + 1) w10.heap.size m5 R5 R5) w16) := H5.out.mod hm (fun x hx hz => by have o0 := HN0.out; have o1 := HN1.out; have o2 := HN2.out; have o3 := HN3.out; have o4 := HN4.out; have hz' : w6.heap.size + 1 ≤ x ∧ x < w7.heap.size + 1 := hz.1; have hx' : w9.heap.size ≤ x ∧ x < w10.heap.size + 1 := hx; omega)
    replace HB : Hid (Blw w w16) := Mod.blw HB.out hm (fun x hz => by have o0 := HN0.out; have o1 := HN1.out; have o2 := HN2.out; have o3 := HN3.out; have o4 := HN4.out; have hz' : w6.heap.size + 1 ≤ x ∧ x < w7.heap.size + 1 := hz.1; omega)
    replace H4m : Hid (St (fun x => w6.heap.size + 1 ≤ x ∧ x < w7.heap.size + 1) (MB (fun x => w6.heap.size + 1 ≤ x ∧ x < w7.heap.size + 1) w7.heap.size m4 M (M.marked 1)) w16) := MB.st ⟨own, bx4⟩ (by have h9 : w6.heap.size + 1 ≤ w7.heap.size ∧ w7.heap.size < w7.heap.size + 1 := (by have o0 := HN0.out; have o1 := HN1.out; have o2 := HN2.out; have o3 := HN3.out; have o4 := HN4.out; omega); exact h9) (fun x hx => Nat.lt_of_lt_of_le (H4m.out.1 x hx) s4)
    clear own hm bx4 s4
    go_wp2_with fail
    refine (markUndoS_any _ nu nu f g _ (1 + (M.total : Int)) _ (by omega) (by omega) H4u.out.out).mono ?_
    rintro e w17 ⟨rfl, own, hm⟩
    have s4 := hm.size
    replace HA : Hid (St (fun x => x < w.heap.size + 1) (ArgM w.heap.size w.heap.size m M) w17) := HA.out.mod hm (fun x hx hz => by have o0 := HN0.out; have o1 := HN1.out; have o2 := HN2.out; have o3 := HN3.out; have o4 := HN4.out; have hz' : w7.heap.size + 1 ≤ x ∧ x < w8.heap.size := hz; have hx' : x < w.heap.size + 1 := hx; omega)
    replace HU : Hid (St (fun x => x < w.heap.size) (fun W => UndosAt (fun x => x < w.heap.size) W au nu f g) w17) := HU.out.mod hm (fun x hx hz => by have o0 := HN0.out; have o1 := HN1.out; have o2 := HN2.out; have o3 := HN3.out; have o4 := HN4.out; have hz' : w7.heap.size + 1 ≤ x ∧ x < w8.heap.size := hz; have hx' : x < w.heap.size := hx; omega)
    replace HS : Hid (St (fun x => x < w.heap.size) (fun W => IntsAt (fun x => x < w.heap.size) W az ns fs) w17) := HS.out.mod hm (fun x hx hz => by have o0 := HN0.out; have o1 := HN1.out; have o2 := HN2.out; have o3 := HN3.out; have o4 := HN4.out; have hz' : w7.heap.size + 1 ≤ x ∧ x < w8.heap.size := hz; have hx' : x < w.heap.size := hx; omega)
    replace H3 : Hid (St (fun x => x < w6.heap.size + 1) (ArgM w6.heap.size w6.heap.size m3 R5) w17) := H3.out.mod hm (fun x hx hz => by have o0 := HN0.out; have o1 := HN1.out; have o2 := HN2.out; have o3 := HN3.out; have o4 := HN4.out; have hz' : w7.heap.size + 1 ≤ x ∧ x < w8.heap.size := hz; have hx' : x < w6.heap.size + 1 := hx; omega)
    replace H4m : Hid (St (fun x => w6.heap.size + 1 ≤ x ∧ x < w7.heap.size + 1) (MB (fun x => w6.heap.size + 1 ≤ x ∧ x < w7.heap.size + 1) w7.heap.size m4 M (M.marked 1)) w17) := H4m.out.mod hm (fun x hx hz => by have o0 := HN0.out; have o1 := HN1.out; have o2 := HN2.out; have o3 := HN3.out; have o4 := HN4.out; have hz' : w7.heap.size + 1 ≤ x ∧ x < w8.heap.size := hz; have hx' : w6.heap.size + 1 ≤ x ∧ x < w7.heap.size + 1 := hx; omega)
    replace H4s : Hid (St (fun x => w8.heap.size ≤ x ∧ x < w9.heap.size) (fun W => IntsOwn (fun x => w8.heap.size ≤ x ∧ x < w9.heap.size) W (some ⟨w8.heap.size, 0, none⟩) ns fs) w17) := H4s.out.mod hm (fun x hx hz => by have o0 := HN0.out; have o1 := HN1.out; have o2 := HN2.out; have o3 := HN3.out; have o4 := HN4.out; have hz' : w7.heap.size + 1 ≤ x ∧ x < w8.heap.size := hz; have hx' : w8.heap.size ≤ x ∧ x < w9.heap.size := hx; omega)
    replace H5 : Hid (St (fun x => w9.heap.size ≤ x ∧ x < w10.heap.size + 1) (MB (fun x => w9.heap.size ≤ x ∧ x < w10.heap.size + 1) w10.heap.size m5 R5 R5) w17) := H5.out.mod hm (fun x hx hz => by have o0 := HN0.out; have o1 := HN1.out; have o2 := HN2.out; have o3 := HN3.out; have o4 := HN4.out; have hz' : w7.heap.size + 1 ≤ x ∧ x < w8.heap.size := hz; have hx' : w9.heap.size ≤ x ∧ x < w10.heap.size + 1 := hx; omega)
    replace HB : Hid (Blw w w17) := Mod.blw HB.out hm (fun x hz => by have o0 := HN0.out; have o1 := HN1.out; have o2 := HN2.out; have o3 := HN3.out; have o4 := HN4.out; have hz' : w7.heap.size + 1 ≤ x ∧ x < w8.heap.size := hz; omega)
    replace H4u : Hid (St (fun x => w7.heap.size + 1 ≤ x ∧ x < w8.heap.size) (fun W => UndosOwn (fun x => w7.heap.size + 1 ≤ x ∧ x < w8.heap.size) W (some ⟨w7.heap.size + 1, 0, none⟩) nu (mkc (1 + (M.total : Int))) (mkw (1 + (M.total : Int)))) w17) := UndosOwn.st own (fun x hx => Nat.lt_of_lt_of_le (H4u.out.1 x hx) s4)
    clear own hm s4
    go_wp2_with fail
    refine (markIntS_any _ ns ns fs _ (1 + (M.total : Int) + 2 * (nu : Int)) _ (by omega) (by omega) H4s.out.out).mono ?_
    rintro e w18 ⟨rfl, own, hm⟩
    have s4 := hm.size
    replace HA : Hid (St (fun x => x < w.heap.size + 1) (ArgM w.heap.size w.heap.size m M) w18) := HA.out.mod hm (fun x hx hz => by have o0 := HN0.out; have o1 := HN1.out; have o2 := HN2.out; have o3 := HN3.out; have o4 := HN4.out; have hz' : w8.heap.size ≤ x ∧ x < w9.heap.size := hz.1; have hx' : x < w.heap.size + 1 := hx; omega)
    replace HU : Hid (St (fun x => x < w.heap.size) (fun W => UndosAt (fun x => x < w.heap.size) W au nu f g) w18) := HU.out.mod hm (fun x hx hz => by have o0 := HN0.out; have o1 := HN1.out; have o2 := HN2.out; have o3 := HN3.out; have o4 := HN4.out; have hz' : w8.heap.size ≤ x ∧ x < w9.heap.size := hz.1; have hx' : x < w.heap.size := hx; omega)
    replace HS : Hid (St (fun x => x < w.heap.size) (fun W => IntsAt (fun x => x < w.heap.size) W az ns fs) w18) := HS.out.mod hm (fun x hx hz => by have o0 := HN0.out; have o1 := HN1.out; have o2 := HN2.out; have o3 := HN3.out; have o4 := HN4.out; have hz' : w8.heap.size ≤ x ∧ x < w9.heap.size := hz.1; have hx' : x < w.heap.size := hx; omega)
    replace H3 : Hid (St (fun x => x < w6.heap.size + 1) (ArgM w6.heap.size w6.heap.size m3 R5) w18) := H3.out.mod hm (fun x hx hz => by have o0 := HN0.out; have o1 := HN1.out; have o2 := HN2.out; have o3 := HN3.out; have o4 := HN4.out; have hz' : w8.heap.size ≤ x ∧ x < w9.heap.size := hz.1; have hx' : x < w6.heap.size + 1 := hx; omega)
    replace H4m : Hid (St (fun x => w6.heap.size + 1 ≤ x ∧ x < w7.heap.size + 1) (MB (fun x => w6.heap.size + 1 ≤ x ∧ x < w7.heap.size + 1) w7.heap.size m4 M (M.marked 1)) w18) := H4m.out.mod hm (fun x hx hz => by have o0 := HN0.out; have o1 := HN1.out; have o2 := HN2.out; have o3 := HN3.out; have o4 := HN4.out; have hz' : w8.heap.size ≤ x ∧ x < w9.heap.size := hz.1; have hx' : w6.heap.size + 1 ≤ x ∧ x < w7.heap.size + 1 := hx; omega)
    replace H4u : Hid (St (fun x => w7.heap.size + 1 ≤ x ∧ x < w8.heap.size) (fun W => UndosOwn (fun x => w7.heap.size + 1 ≤ x ∧ x < w8.heap.size) W (some ⟨w7.heap.size + 1, 0, none⟩) nu (mkc (1 + (M.total : Int))) (mkw (1 + (M.total : Int)))) w18) := H4u.out.mod hm (fun x hx hz => by have o0 := HN0.out; have o1 := HN1.out; have o2 := HN2.out; have o3 := HN3.out; have o4 := HN4.out; have hz' : w8.heap.size ≤ x ∧ x < w9.heap.size := hz.1; have hx' : w7.heap.size + 1 ≤ x ∧ x < w8.heap.size := hx; omega)
    replace H5 : Hid (St (fun x => w9.heap.size ≤ x ∧ x < w10.heap.size + 1) (MB (fun x => w9.heap.size ≤ x ∧ x < w10.heap.size + 1) w10.heap.size m5 R5 R5) w18) := H5.out.mod hm (fun x hx hz => by have o0 := HN0.out; have o1 := HN1.out; have o2 := HN2.out; have o3 := HN3.out; have o4 := HN4.out; have hz' : w8.heap.size ≤ x ∧ x < w9.heap.size := hz.1; have hx' : w9.heap.size ≤ x ∧ x < w10.heap.size + 1 := hx; omega)
    replace HB : Hid (Blw w w18) := Mod.blw HB.out hm (fun x hz => by have o0 := HN0.out; have o1 := HN1.out; have o2 := HN2.out; have o3 := HN3.out; have o4 := HN4.out; have hz' : w8.heap.size ≤ x ∧ x < w9.heap.size := hz.1; omega)
    replace H4s : Hid (St (fun x => w8.heap.size ≤ x ∧ x < w9.heap.size) (fun W => IntsOwn (fun x => w8.heap.size ≤ x ∧ x < w9.heap.size) W (some ⟨w8.heap.size, 0, none⟩) ns (fun i => 1 + (M.total : Int) + 2 * (nu : Int) + (i : Int))) w18) := IntsOwn.st own (fun x hx => Nat.lt_of_lt_of_le (H4s.out.1 x hx) s4)
    clear own hm s4
    have k1 : ¬ (1 + (M.total : Int) + 2 * (nu : Int) + (ns : Int) < 0) := by omega
    obtain ⟨p00, p01, p02⟩ := get3 H5.out.out.box
    obtain ⟨p10, p11, p12⟩ := get3 H3.out.out.box
    go_wp2_with fail
    clear p00 p01 p02 p10 p11 p12
    refine (eqMemory_same m5 m3 R5 _ H5.out.out.own.at H3.out.out.at_).mono ?_
    rintro e w19 ⟨rfl, hb⟩
    replace HA : Hid (St (fun x => x < w.heap.size + 1) (ArgM w.heap.size w.heap.size m M) w19) := HA.out.blw hb
    replace HU : Hid (St (fun x => x < w.heap.size) (fun W => UndosAt (fun x => x < w.heap.size) W au nu f g) w19) := HU.out.blw hb
    replace HS : Hid (St (fun x => x < w.heap.size) (fun W => IntsAt (fun x => x < w.heap.size) W az ns fs) w19) := HS.out.blw hb
    replace H3 : Hid (St (fun x => x < w6.heap.size + 1) (ArgM w6.heap.size w6.heap.size m3 R5) w19) := H3.out.blw hb
    replace H4m : Hid (St (fun x => w6.heap.size + 1 ≤ x ∧ x < w7.heap.size + 1) (MB (fun x => w6.heap.size + 1 ≤ x ∧ x < w7.heap.size + 1) w7.heap.size m4 M (M.marked 1)) w19) := H4m.out.blw hb
    replace H4u : Hid (St (fun x => w7.heap.size + 1 ≤ x ∧ x < w8.heap.size) (fun W => UndosOwn (fun x => w7.heap.size + 1 ≤ x ∧ x < w8.heap.size) W (some ⟨w7.heap.size + 1, 0, none⟩) nu (mkc (1 + (M.total : Int))) (mkw (1 + (M.total : Int)))) w19) := H4u.out.blw hb
    replace H4s : Hid (St (fun x => w8.heap.size ≤ x ∧ x < w9.heap.size) (fun W => IntsOwn (fun x => w8.heap.size ≤ x ∧ x < w9.heap.size) W (some ⟨w8.heap.size, 0, none⟩) ns (fun i => 1 + (M.total : Int) + 2 * (nu : Int) + (i : Int))) w19) := H4s.out.blw hb
    replace H5 : Hid (St (fun x => w9.heap.size ≤ x ∧ x < w10.heap.size + 1) (MB (fun x => w9.heap.size ≤ x ∧ x < w10.heap.size + 1) w10.heap.size m5 R5 R5) w19) := H5.out.blw hb
    replace HB : Hid (Blw w w19) := HB.out.trans hb
    clear hb
    clear k1
    have htR : R5.total ≤ 1048576 := by have := fdOut_total HO3.out; omega
    obtain ⟨p00, p01, p02⟩ := get3 H5.out.out.box
    go_wp2_with fail
    clear p00 p01 p02
    refine (markMemory_any m5 R5 _ 1 _ (by omega) (by omega) H5.out.out.own (fun x hx => H5.out.1 x hx.1)).mono ?_
    rintro e w20 ⟨rfl, own, hm⟩
    have bx5 := H5.out.out.box.mod hm (fun hh => hh.2 rfl)
    have s4 := hm.size
    replace HA : Hid (St (fun x => x < w.heap.size + 1) (ArgM w.heap.size w.heap.size m M) w20) := HA.out.mod hm (fun x hx hz => by have o0 := HN0.out; have o1 := HN1.out; have o2 := HN2.out; have o3 := HN3.out; have o4 := HN4.out; have hz' : w9.heap.size ≤ x ∧ x < w10.heap.size + 1 := hz.1; have hx' : x < w.heap.size + 1 := hx; omega)
    replace HU : Hid (St (fun x => x < w.heap.size) (fun W => UndosAt (fun x => x < w.heap.size) W au nu f g) w20) := HU.out.mod hm (fun x hx hz => by have o0 := HN0.out; have o1 := HN1.out; have o2 := HN2.out; have o3 := HN3.out; have o4 := HN4.out; have hz' : w9.heap.size ≤ x ∧ x < w10.heap.size + 1 := hz.1; have hx' : x < w.heap.size := hx; omega)
    replace HS : Hid (St (fun x => x < w.heap.size) (fun W => IntsAt (fun x => x < w.heap.size) W az ns fs) w20) := HS.out.mod hm (fun x hx hz => by have o0 := HN0.out; have o1 := HN1.out; have o2 := HN2.out; have o3 := HN3.out; have o4 := HN4.out; have hz' : w9.heap.size ≤ x ∧ x < w10.heap.size + 1 := hz.1; have hx' : x < w.heap.size := hx; omega)
    replace H3 : Hid (St (fun x => x < w6.heap.size + 1) (ArgM w6.heap.size w6.heap.size m3 R5) w20) := H3.out.mod hm (fun x hx hz => by have o0 := HN0.out; have o1 := HN1.out; have o2 := HN2.out; have o3 := HN3.out; have o4 := HN4.out; have hz' : w9.heap.size ≤ x ∧ x < w10.heap.size + 1 := hz.1; have hx' : x < w6.heap.size + 1 := hx; omega)
    replace H4m : Hid (St (fun x => w6.heap.size + 1 ≤ x ∧ x < w7.heap.size + 1) (MB (fun x => w6.heap.size + 1 ≤ x ∧ x < w7.heap.size + 1) w7.heap.size m4 M (M.marked 1)) w20) := H4m.out.mod hm (fun x hx hz => by have o0 := HN0.out; have o1 := HN1.out; have o2 := HN2.out; have o3 := HN3.out; have o4 := HN4.out; have hz' : w9.heap.size ≤ x ∧ x < w10.heap.size + 1 := hz.1; have hx' : w6.heap.size + 1 ≤ x ∧ x < w7.heap.size + 1 := hx; omega)
    replace H4u : Hid (St (fun x => w7.heap.size + 1 ≤ x ∧ x < w8.heap.size) (fun W => UndosOwn (fun x => w7.heap.size + 1 ≤ x ∧ x < w8.heap.size) W (some ⟨w7.heap.size + 1, 0, none⟩) nu (mkc (1 + (M.total : Int))) (mkw (1 + (M.total : Int)))) w20) := H4u.out.mod hm (fun x hx hz => by have o0 := HN0.out; have o1 := HN1.out; have o2 := HN2.out; have o3 := HN3.out; have o4 := HN4.out; have hz' : w9.heap.size ≤ x ∧ x < w10.heap.size + 1 := hz.1; have hx' : w7.heap.size + 1 ≤ x ∧ x < w8.heap.size := hx; omega)
    replace H4s : Hid (St (fun x => w8.heap.size ≤ x ∧ x < w9.heap.size) (fun W => IntsOwn (fun x => w8.heap.size ≤ x ∧ x < w9.heap.size) W (some ⟨w8.heap.size, 0, none⟩) ns (fun i => 1 + (M.total : Int) + 2 * (nu : Int) + (i : Int))) w20) := H4s.out.mod hm (fun x hx hz => by have o0 := HN0.out; have o1 := HN1.out; have o2 := HN2.out; have o3 := HN3.out; have o4 := HN4.out; have hz' : w9.heap.size ≤ x ∧ x < w10.heap.size + 1 := hz.1; have hx' : w8.heap.size ≤ x ∧ x < w9.heap.size := hx; omega)
    replace HB : Hid (Blw w w20) := Mod.blw HB.out hm (fun x hz => by have o0 := HN0.out; have o1 := HN1.out; have o2 := HN2.out; have o3 := HN3.out; have o4 := HN4.out; have hz' : w9.heap.size ≤ x ∧ x < w10.heap.size + 1 := hz.1; omega)
    replace H5 : Hid (St (fun x => w9.heap.size ≤ x ∧ x < w10.heap.size + 1) (MB (fun x => w9.heap.size ≤ x ∧ x < w10.heap.size + 1) w10.heap.size m5 R5 (R5.marked 1)) w20) := MB.st ⟨own, bx5⟩ (by have h9 : w9.heap.size ≤ w10.heap.size ∧ w10.heap.size < w10.heap.size + 1 := (by have o0 := HN0.out; have o1 := HN1.out; have o2 := HN2.out; have o3 := HN3.out; have o4 := HN4.out; omega); exact h9) (fun x hx => Nat.lt_of_lt_of_le (H5.out.1 x hx) s4)
    clear own hm bx5 s4
    have k1 : ¬ (1 + (R5.total : Int) < 0) := by omega
    have k2 : ((1 + (R5.total : Int)) != (1 + (R5.total : Int))) = false := by simp
    obtain ⟨p00, p01, p02⟩ := get3 H5.out.out.box
    go_wp2_with fail
    clear p00 p01 p02
    refine (heldMemory_any m5 R5 _ 1 _ (by omega) (by omega) H5.out.out.own.at).mono ?_
    rintro e w21 ⟨rfl, hb⟩
    replace HA : Hid (St (fun x => x < w.heap.size + 1) (ArgM w.heap.size w.heap.size m M) w21) := HA.out.blw hb
    replace HU : Hid (St (fun x => x < w.heap.size) (fun W => UndosAt (fun x => x < w.heap.size) W au nu f g) w21) := HU.out.blw hb
    replace HS : Hid (St (fun x => x < w.heap.size) (fun W => IntsAt (fun x => x < w.heap.size) W az ns fs) w21) := HS.out.blw hb
    replace H3 : Hid (St (fun x => x < w6.heap.size + 1) (ArgM w6.heap.size w6.heap.size m3 R5) w21) := H3.out.blw hb
    replace H4m : Hid (St (fun x => w6.heap.size + 1 ≤ x ∧ x < w7.heap.size + 1) (MB (fun x => w6.heap.size + 1 ≤ x ∧ x < w7.heap.size + 1) w7.heap.size m4 M (M.marked 1)) w21) := H4m.out.blw hb
    replace H4u : Hid (St (fun x => w7.heap.size + 1 ≤ x ∧ x < w8.heap.size) (fun W => UndosOwn (fun x => w7.heap.size + 1 ≤ x ∧ x < w8.heap.size) W (some ⟨w7.heap.size + 1, 0, none⟩) nu (mkc (1 + (M.total : Int))) (mkw (1 + (M.total : Int)))) w21) := H4u.out.blw hb
    replace H4s : Hid (St (fun x => w8.heap.size ≤ x ∧ x < w9.heap.size) (fun W => IntsOwn (fun x => w8.heap.size ≤ x ∧ x < w9.heap.size) W (some ⟨w8.heap.size, 0, none⟩) ns (fun i => 1 + (M.total : Int) + 2 * (nu : Int) + (i : Int))) w21) := H4s.out.blw hb
    replace H5 : Hid (St (fun x => w9.heap.size ≤ x ∧ x < w10.heap.size + 1) (MB (fun x => w9.heap.size ≤ x ∧ x < w10.heap.size + 1) w10.heap.size m5 R5 (R5.marked 1)) w21) := H5.out.blw hb
    replace HB : Hid (Blw w w21) := HB.out.trans hb
    clear hb
    obtain ⟨p00, p01, p02⟩ := get3 HA.out.out.box
    go_wp2_with fail
    clear p00 p01 p02
    refine (toMemory_any m M _ _ SM.out HA.out.out.at_).mono ?_
    rintro e w22 ⟨m7, rfl, own, hb⟩
    try clear hr0
    have C7m : Hid (St (fun x => x < w22.heap.size) (fun W => MemAt (fun x => x < w22.heap.size) W m7 M) w22) := ⟨fun x hx => hx, fun Z w' hm hx => (own.at.mono (fun x hx => hx.2)).mod hm hx⟩
    replace HA : Hid (St (fun x => x < w.heap.size + 1) (ArgM w.heap.size w.heap.size m M) w22) := HA.out.blw hb
    replace HU : Hid (St (fun x => x < w.heap.size) (fun W => UndosAt (fun x => x < w.heap.size) W au nu f g) w22) := HU.out.blw hb
    replace HS : Hid (St (fun x => x < w.heap.size) (fun W => IntsAt (fun x => x < w.heap.size) W az ns fs) w22) := HS.out.blw hb
    replace H3 : Hid (St (fun x => x < w6.heap.size + 1) (ArgM w6.heap.size w6.heap.size m3 R5) w22) := H3.out.blw hb
    replace H4m : Hid (St (fun x => w6.heap.size + 1 ≤ x ∧ x < w7.heap.size + 1) (MB (fun x => w6.heap.size + 1 ≤ x ∧ x < w7.heap.size + 1) w7.heap.size m4 M (M.marked 1)) w22) := H4m.out.blw hb
    replace H4u : Hid (St (fun x => w7.heap.size + 1 ≤ x ∧ x < w8.heap.size) (fun W => UndosOwn (fun x => w7.heap.size + 1 ≤ x ∧ x < w8.heap.size) W (some ⟨w7.heap.size + 1, 0, none⟩) nu (mkc (1 + (M.total : Int))) (mkw (1 + (M.total : Int)))) w22) := H4u.out.blw hb
    replace H4s : Hid (St (fun x => w8.heap.size ≤ x ∧ x < w9.heap.size) (fun W => IntsOwn (fun x => w8.heap.size ≤ x ∧ x < w9.heap.size) W (some ⟨w8.heap.size, 0, none⟩) ns (fun i => 1 + (M.total : Int) + 2 * (nu : Int) + (i : Int))) w22) := H4s.out.blw hb
    replace H5 : Hid (St (fun x => w9.heap.size ≤ x ∧ x < w10.heap.size + 1) (MB (fun x => w9.heap.size ≤ x ∧ x < w10.heap.size + 1) w10.heap.size m5 R5 (R5.marked 1)) w22) := H5.out.blw hb
    replace HB : Hid (Blw w w22) := HB.out.trans hb
    clear hb own
    go_wp2_with fail
    refine (toUndoS_any au cu nu f g _ _ hnu2 HU.out.out).mono ?_
    rintro e w23 ⟨rfl, row, hb⟩
    have hlt := row.lt
    try simp only [World.size_alloc] at hlt row
    have C7u : Hid (St (fun x => x < w23.heap.size) (fun W => UndosAt (fun x => x < w23.heap.size) W (some ⟨w22.heap.size, 0, none⟩) nu f g) w23) := UndosAt.st (row_pairs row (by omega) (X := fun x => x < w23.heap.size) hlt).at (fun x hx => hx)
    replace HA : Hid (St (fun x => x < w.heap.size + 1) (ArgM w.heap.size w.heap.size m M) w23) := HA.out.blw hb
    replace HU : Hid (St (fun x => x < w.heap.size) (fun W => UndosAt (fun x => x < w.heap.size) W au nu f g) w23) := HU.out.blw hb
    replace HS : Hid (St (fun x => x < w.heap.size) (fun W => IntsAt (fun x => x < w.heap.size) W az ns fs) w23) := HS.out.blw hb
    replace H3 : Hid (St (fun x => x < w6.heap.size + 1) (ArgM w6.heap.size w6.heap.size m3 R5) w23) := H3.out.blw hb
    replace H4m : Hid (St (fun x => w6.heap.size + 1 ≤ x ∧ x < w7.heap.size + 1) (MB (fun x => w6.heap.size + 1 ≤ x ∧ x < w7.heap.size + 1) w7.heap.size m4 M (M.marked 1)) w23) := H4m.out.blw hb
    replace H4u : Hid (St (fun x => w7.heap.size + 1 ≤ x ∧ x < w8.heap.size) (fun W => UndosOwn (fun x => w7.heap.size + 1 ≤ x ∧ x < w8.heap.size) W (some ⟨w7.heap.size + 1, 0, none⟩) nu (mkc (1 + (M.total : Int))) (mkw (1 + (M.total : Int)))) w23) := H4u.out.blw hb
    replace H4s : Hid (St (fun x => w8.heap.size ≤ x ∧ x < w9.heap.size) (fun W => IntsOwn (fun x => w8.heap.size ≤ x ∧ x < w9.heap.size) W (some ⟨w8.heap.size, 0, none⟩) ns (fun i => 1 + (M.total : Int) + 2 * (nu : Int) + (i : Int))) w23) := H4s.out.blw hb
    replace H5 : Hid (St (fun x => w9.heap.size ≤ x ∧ x < w10.heap.size + 1) (MB (fun x => w9.heap.size ≤ x ∧ x < w10.heap.size + 1) w10.heap.size m5 R5 (R5.marked 1)) w23) := H5.out.blw hb
    replace C7m : Hid (St (fun x => x < w22.heap.size) (fun W => MemAt (fun x => x < w22.heap.size) W m7 M) w23) := C7m.out.blw hb
    replace HB : Hid (Blw w w23) := HB.out.trans hb
    clear hb row hlt
    go_wp2_with fail
    refine (toIntS_any az cs ns fs _ _ hns2 HS.out.out).mono ?_
    rintro e w24 ⟨rfl, row, hb⟩
    have hlt' : ∀ x, x < 0 → False := fun x h => Nat.not_lt_zero _ h
    have hlt := row.lt
    have hz := hb.size
    try simp only [World.size_alloc] at hz hlt row
    clear hlt'
    have C7s : Hid (St (fun x => x < w24.heap.size) (fun W => IntsAt (fun x => x < w24.heap.size) W (some ⟨w23.heap.size, 0, none⟩) ns fs) w24) := IntsAt.st (row_ints row (by omega) (X := fun x => x < w24.heap.size) hlt).at (fun x hx => hx)
    replace HA : Hid (St (fun x => x < w.heap.size + 1) (ArgM w.heap.size w.heap.size m M) w24) := HA.out.blw hb
    replace HU : Hid (St (fun x => x < w.heap.size) (fun W => UndosAt (fun x => x < w.heap.size) W au nu f g) w24) := HU.out.blw hb
    replace HS : Hid (St (fun x => x < w.heap.size) (fun W => IntsAt (fun x => x < w.heap.size) W az ns fs) w24) := HS.out.blw hb
    replace H3 : Hid (St (fun x => x < w6.heap.size + 1) (ArgM w6.heap.size w6.heap.size m3 R5) w24) := H3.out.blw hb
    replace H4m : Hid (St (fun x => w6.heap.size + 1 ≤ x ∧ x < w7.heap.size + 1) (MB (fun x => w6.heap.size + 1 ≤ x ∧ x < w7.heap.size + 1) w7.heap.size m4 M (M.marked 1)) w24) := H4m.out.blw hb
    replace H4u : Hid (St (fun x => w7.heap.size + 1 ≤ x ∧ x < w8.heap.size) (fun W => UndosOwn (fun x => w7.heap.size + 1 ≤ x ∧ x < w8.heap.size) W (some ⟨w7.heap.size + 1, 0, none⟩) nu (mkc (1 + (M.total : Int))) (mkw (1 + (M.total : Int)))) w24) := H4u.out.blw hb
    replace H4s : Hid (St (fun x => w8.heap.size ≤ x ∧ x < w9.heap.size) (fun W => IntsOwn (fun x => w8.heap.size ≤ x ∧ x < w9.heap.size) W (some ⟨w8.heap.size, 0, none⟩) ns (fun i => 1 + (M.total : Int) + 2 * (nu : Int) + (i : Int))) w24) := H4s.out.blw hb
    replace H5 : Hid (St (fun x => w9.heap.size ≤ x ∧ x < w10.heap.size + 1) (MB (fun x => w9.heap.size ≤ x ∧ x < w10.heap.size + 1) w10.heap.size m5 R5 (R5.marked 1)) w24) := H5.out.blw hb
    replace C7m : Hid (St (fun x => x < w22.heap.size) (fun W => MemAt (fun x => x < w22.heap.size) W m7 M) w24) := C7m.out.blw hb
    replace C7u : Hid (St (fun x => x < w23.heap.size) (fun W => UndosAt (fun x => x < w23.heap.size) W (some ⟨w22.heap.size, 0, none⟩) nu f g) w24) := C7u.out.blw hb
    replace HB : Hid (Blw w w24) := HB.out.trans hb
    clear hb row hlt hz
    go_wp2_with fail
    refine (implFailDeed_any m7 M (some ⟨w22.heap.size, 0, none⟩) nu nu f g k (some ⟨w23.heap.size, 0, none⟩) ns ns fs _ _ _ _ C7m.out.out C7u.out.out C7s.out.out).mono ?_
    rintro e w25 ⟨m8, R8, b8, rfl, ho, own, hb⟩
    clear C7m
    clear C7u
    clear C7s
    obtain ⟨eR, eb⟩ := fdOut_same ho HO3.out
    subst eR eb
    have hA : Blw w25 (w25.alloc (.cells #[.slice m8.a1 R8.n1 m8.c1, .slice m8.a2 R8.n2 m8.c2, .slice m8.a3 R8.n3 m8.c3] 26)) := (Blw.refl _).alloc _
    have H8 : Hid (MemAt (fun x => x < w25.heap.size) (w25.alloc (.cells #[.slice m8.a1 R8.n1 m8.c1, .slice m8.a2 R8.n2 m8.c2, .slice m8.a3 R8.n3 m8.c3] 26)) m8 R8 ∧ Box (w25.alloc (.cells #[.slice m8.a1 R8.n1 m8.c1, .slice m8.a2 R8.n2 m8.c2, .slice m8.a3 R8.n3 m8.c3] 26)) w25.heap.size m8 R8) := ⟨((own.at).mono (fun x hx => hx.2)).blw hA, box3 w25 _ _ _ 26⟩
    replace HA : Hid (St (fun x => x < w.heap.size + 1) (ArgM w.heap.size w.heap.size m M) (w25.alloc (.cells #[.slice m8.a1 R8.n1 m8.c1, .slice m8.a2 R8.n2 m8.c2, .slice m8.a3 R8.n3 m8.c3] 26))) := HA.out.blw (hb.trans hA)
    replace HU : Hid (St (fun x => x < w.heap.size) (fun W => UndosAt (fun x => x < w.heap.size) W au nu f g) (w25.alloc (.cells #[.slice m8.a1 R8.n1 m8.c1, .slice m8.a2 R8.n2 m8.c2, .slice m8.a3 R8.n3 m8.c3] 26))) := HU.out.blw (hb.trans hA)
    replace HS : Hid (St (fun x => x < w.heap.size) (fun W => IntsAt (fun x => x < w.heap.size) W az ns fs) (w25.alloc (.cells #[.slice m8.a1 R8.n1 m8.c1, .slice m8.a2 R8.n2 m8.c2, .slice m8.a3 R8.n3 m8.c3] 26))) := HS.out.blw (hb.trans hA)
    replace H3 : Hid (St (fun x => x < w6.heap.size + 1) (ArgM w6.heap.size w6.heap.size m3 R8) (w25.alloc (.cells #[.slice m8.a1 R8.n1 m8.c1, .slice m8.a2 R8.n2 m8.c2, .slice m8.a3 R8.n3 m8.c3] 26))) := H3.out.blw (hb.trans hA)
    replace H4m : Hid (St (fun x => w6.heap.size + 1 ≤ x ∧ x < w7.heap.size + 1) (MB (fun x => w6.heap.size + 1 ≤ x ∧ x < w7.heap.size + 1) w7.heap.size m4 M (M.marked 1)) (w25.alloc (.cells #[.slice m8.a1 R8.n1 m8.c1, .slice m8.a2 R8.n2 m8.c2, .slice m8.a3 R8.n3 m8.c3] 26))) := H4m.out.blw (hb.trans hA)
    replace H4u : Hid (St (fun x => w7.heap.size + 1 ≤ x ∧ x < w8.heap.size) (fun W => UndosOwn (fun x => w7.heap.size + 1 ≤ x ∧ x < w8.heap.size) W (some ⟨w7.heap.size + 1, 0, none⟩) nu (mkc (1 + (M.total : Int))) (mkw (1 + (M.total : Int)))) (w25.alloc (.cells #[.slice m8.a1 R8.n1 m8.c1, .slice m8.a2 R8.n2 m8.c2, .slice m8.a3 R8.n3 m8.c3] 26))) := H4u.out.blw (hb.trans hA)
    replace H4s : Hid (St (fun x => w8.heap.size ≤ x ∧ x < w9.heap.size) (fun W => IntsOwn (fun x => w8.heap.size ≤ x ∧ x < w9.heap.size) W (some ⟨w8.heap.size, 0, none⟩) ns (fun i => 1 + (M.total : Int) + 2 * (nu : Int) + (i : Int))) (w25.alloc (.cells #[.slice m8.a1 R8.n1 m8.c1, .slice m8.a2 R8.n2 m8.c2, .slice m8.a3 R8.n3 m8.c3] 26))) := H4s.out.blw (hb.trans hA)
    replace H5 : Hid (St (fun x => w9.heap.size ≤ x ∧ x < w10.heap.size + 1) (MB (fun x => w9.heap.size ≤ x ∧ x < w10.heap.size + 1) w10.heap.size m5 R8 (R8.marked 1)) (w25.alloc (.cells #[.slice m8.a1 R8.n1 m8.c1, .slice m8.a2 R8.n2 m8.c2, .slice m8.a3 R8.n3 m8.c3] 26))) := H5.out.blw (hb.trans hA)
    replace HB : Hid (Blw w (w25.alloc (.cells #[.slice m8.a1 R8.n1 m8.c1, .slice m8.a2 R8.n2 m8.c2, .slice m8.a3 R8.n3 m8.c3] 26))) := HB.out.trans (hb.trans hA)
    clear hb hA own ho
    obtain ⟨p00, p01, p02⟩ := get3 H8.out.2
    obtain ⟨p10, p11, p12⟩ := get3 H3.out.out.box
    go_wp2_with fail
    clear p00 p01 p02 p10 p11 p12
    refine (eqMemory_same m8 m3 R8 _ H8.out.1 H3.out.out.at_).mono ?_
    rintro e w26 ⟨rfl, hb⟩
    replace HA : Hid (St (fun x => x < w.heap.size + 1) (ArgM w.heap.size w.heap.size m M) w26) := HA.out.blw hb
    replace HU : Hid (St (fun x => x < w.heap.size) (fun W => UndosAt (fun x => x < w.heap.size) W au nu f g) w26) := HU.out.blw hb
    replace HS : Hid (St (fun x => x < w.heap.size) (fun W => IntsAt (fun x => x < w.heap.size) W az ns fs) w26) := HS.out.blw hb
    replace H3 : Hid (St (fun x => x < w6.heap.size + 1) (ArgM w6.heap.size w6.heap.size m3 R8) w26) := H3.out.blw hb
    replace H4m : Hid (St (fun x => w6.heap.size + 1 ≤ x ∧ x < w7.heap.size + 1) (MB (fun x => w6.heap.size + 1 ≤ x ∧ x < w7.heap.size + 1) w7.heap.size m4 M (M.marked 1)) w26) := H4m.out.blw hb
    replace H4u : Hid (St (fun x => w7.heap.size + 1 ≤ x ∧ x < w8.heap.size) (fun W => UndosOwn (fun x => w7.heap.size + 1 ≤ x ∧ x < w8.heap.size) W (some ⟨w7.heap.size + 1, 0, none⟩) nu (mkc (1 + (M.total : Int))) (mkw (1 + (M.total : Int)))) w26) := H4u.out.blw hb
    replace H4s : Hid (St (fun x => w8.heap.size ≤ x ∧ x < w9.heap.size) (fun W => IntsOwn (fun x => w8.heap.size ≤ x ∧ x < w9.heap.size) W (some ⟨w8.heap.size, 0, none⟩) ns (fun i => 1 + (M.total : Int) + 2 * (nu : Int) + (i : Int))) w26) := H4s.out.blw hb
    replace H5 : Hid (St (fun x => w9.heap.size ≤ x ∧ x < w10.heap.size + 1) (MB (fun x => w9.heap.size ≤ x ∧ x < w10.heap.size + 1) w10.heap.size m5 R8 (R8.marked 1)) w26) := H5.out.blw hb
    replace HB : Hid (Blw w w26) := HB.out.trans hb
    clear hb H8
    obtain ⟨p00, p01, p02⟩ := get3 H5.out.out.box
    go_wp2_with fail
    clear p00 p01 p02
    refine (heldMemory_any m5 R8 _ 1 _ (by omega) (by omega) H5.out.out.own.at).mono ?_
    rintro e w27 ⟨rfl, hb⟩
    replace HA : Hid (St (fun x => x < w.heap.size + 1) (ArgM w.heap.size w.heap.size m M) w27) := HA.out.blw hb
    replace HU : Hid (St (fun x => x < w.heap.size) (fun W => UndosAt (fun x => x < w.heap.size) W au nu f g) w27) := HU.out.blw hb
    replace HS : Hid (St (fun x => x < w.heap.size) (fun W => IntsAt (fun x => x < w.heap.size) W az ns fs) w27) := HS.out.blw hb
    replace H3 : Hid (St (fun x => x < w6.heap.size + 1) (ArgM w6.heap.size w6.heap.size m3 R8) w27) := H3.out.blw hb
    replace H4m : Hid (St (fun x => w6.heap.size + 1 ≤ x ∧ x < w7.heap.size + 1) (MB (fun x => w6.heap.size + 1 ≤ x ∧ x < w7.heap.size + 1) w7.heap.size m4 M (M.marked 1)) w27) := H4m.out.blw hb
    replace H4u : Hid (St (fun x => w7.heap.size + 1 ≤ x ∧ x < w8.heap.size) (fun W => UndosOwn (fun x => w7.heap.size + 1 ≤ x ∧ x < w8.heap.size) W (some ⟨w7.heap.size + 1, 0, none⟩) nu (mkc (1 + (M.total : Int))) (mkw (1 + (M.total : Int)))) w27) := H4u.out.blw hb
    replace H4s : Hid (St (fun x => w8.heap.size ≤ x ∧ x < w9.heap.size) (fun W => IntsOwn (fun x => w8.heap.size ≤ x ∧ x < w9.heap.size) W (some ⟨w8.heap.size, 0, none⟩) ns (fun i => 1 + (M.total : Int) + 2 * (nu : Int) + (i : Int))) w27) := H4s.out.blw hb
    replace H5 : Hid (St (fun x => w9.heap.size ≤ x ∧ x < w10.heap.size + 1) (MB (fun x => w9.heap.size ≤ x ∧ x < w10.heap.size + 1) w10.heap.size m5 R8 (R8.marked 1)) w27) := H5.out.blw hb
    replace HB : Hid (Blw w w27) := HB.out.trans hb
    clear hb
    go_wp2
    go_ret
    exact ⟨rfl, HB.out⟩
end Go.Proofs.Ytglllnklcnlcjaa
