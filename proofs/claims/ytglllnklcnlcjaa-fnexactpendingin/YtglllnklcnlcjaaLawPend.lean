/- The law on PendingIn. -/
import Derived.Test.YtglllnklcnlcjaaLawM
import Derived.Test.YtglllnklcnlcjaaData
namespace Go.Proofs.Ytglllnklcnlcjaa
open Go.RowKit
set_option linter.unusedSimpArgs false
set_option linter.unusedVariables false
set_option maxRecDepth 10000 in
set_option maxHeartbeats 6400000 in
theorem lawPend (m : MV) (M : MD) (w : World) (hm : MemAt (fun x => x < w.heap.size) w m M) : Calls Try.prog 9 #[m.val M] w fun e w' => e = .returned (.bool true) ∧ Blw w w' := by
  have HB : Hid (Blw w (w.alloc (.cells #[.slice m.a1 M.n1 m.c1, .slice m.a2 M.n2 m.c2, .slice m.a3 M.n3 m.c3] 60))) := (Blw.refl _).alloc _
  have HA : Hid (St (fun x => x < w.heap.size + 1) (ArgM w.heap.size w.heap.size m M) (w.alloc (.cells #[.slice m.a1 M.n1 m.c1, .slice m.a2 M.n2 m.c2, .slice m.a3 M.n3 m.c3] 60))) := ArgM.st ⟨hm.blw HB.out, box3 w _ _ _ 60⟩ (by omega) (by omega) (by simp)
  clear hm
  go_enter Try.func9, Try.ntmps9
  go_wp2_with fail
  refine (szMemory_any m M _ 1048576 _ (by omega) (by omega) HA.out.out.at_).mono ?_
  rintro e w1 ⟨r, rfl, hr, hb⟩
  replace HA : Hid (St (fun x => x < w.heap.size + 1) (ArgM w.heap.size w.heap.size m M) w1) := HA.out.blw hb
  replace HB : Hid (Blw w w1) := HB.out.trans hb
  clear hb
  rcases hr with rfl | ⟨q0, q1⟩
  · go_wp2
    go_ret
    exact ⟨rfl, HB.out⟩
  have SM : Hid (M.Small) := small_of (by omega)
  have hr0 : ¬ r < 0 := by omega
  clear q1
  obtain ⟨p00, p01, p02⟩ := get3 HA.out.out.box
  go_wp2_with fail
  clear p00 p01 p02
  refine (toMemory_any m M _ _ SM.out HA.out.out.at_).mono ?_
  rintro e w2 ⟨m2, rfl, own, hb⟩
  try clear hr0
  have C2m : Hid (St (fun x => x < w2.heap.size) (fun W => MemAt (fun x => x < w2.heap.size) W m2 M) w2) := ⟨fun x hx => hx, fun Z w' hm hx => (own.at.mono (fun x hx => hx.2)).mod hm hx⟩
  replace HA : Hid (St (fun x => x < w.heap.size + 1) (ArgM w.heap.size w.heap.size m M) w2) := HA.out.blw hb
  replace HB : Hid (Blw w w2) := HB.out.trans hb
  clear hb own
  have HX : Hid (w.heap.size + 1 ≤ w2.heap.size) := by have h1 := HA.out.1 w.heap.size (by omega); show _ ≤ _; omega
  go_wp2_with fail
  refine (specPending_any m2 M _ _ C2m.out.out).mono ?_
  rintro e w3 ⟨x3, b3, rfl, ho, hb⟩
  clear C2m
  have hz := hb.size
  try simp only [World.size_alloc] at hz
  try simp only [World.size_alloc] at own
  have HN0 : Hid (w.heap.size + 1 ≤ w3.heap.size) := by have h1 := HA.out.1 w.heap.size (by omega); show _ ≤ _; (try simp only [World.size_alloc] at h1); omega
  have HO3 : Hid (pnOut M x3 b3) := ho
  replace HA : Hid (St (fun x => x < w.heap.size + 1) (ArgM w.heap.size w.heap.size m M) w3) := HA.out.blw hb
  replace HB : Hid (Blw w w3) := HB.out.trans hb
  clear hb hz ho
  obtain ⟨p00, p01, p02⟩ := get3 HA.out.out.box
  go_wp2_with fail
  clear p00 p01 p02
  refine (toMemory_any m M _ _ SM.out HA.out.out.at_).mono ?_
  rintro e w4 ⟨m4, rfl, own, hb⟩
  try clear hr0
  have hA : Blw w4 (w4.alloc (.cells #[.slice m4.a1 M.n1 m4.c1, .slice m4.a2 M.n2 m4.c2, .slice m4.a3 M.n3 m4.c3] 26)) := (Blw.refl _).alloc _
  have hz := hb.size
  try simp only [World.size_alloc] at hz
  have HN1 : Hid (w3.heap.size ≤ w4.heap.size) := hz
  have H4m : Hid (St (fun x => w3.heap.size ≤ x ∧ x < w4.heap.size + 1) (MB (fun x => w3.heap.size ≤ x ∧ x < w4.heap.size + 1) w4.heap.size m4 M M) (w4.alloc (.cells #[.slice m4.a1 M.n1 m4.c1, .slice m4.a2 M.n2 m4.c2, .slice m4.a3 M.n3 m4.c3] 26))) := MB.st ⟨(own.blw hA).mono (fun x hx => by have hx' := hx; (try simp only [World.size_alloc] at hx'); exact ⟨⟨by omega, by omega⟩, by omega⟩), box3 w4 _ _ _ 26⟩ ⟨hz, by omega⟩ (fun x hx => by simp; omega)
  replace HA : Hid (St (fun x => x < w.heap.size + 1) (ArgM w.heap.size w.heap.size m M) (w4.alloc (.cells #[.slice m4.a1 M.n1 m4.c1, .slice m4.a2 M.n2 m4.c2, .slice m4.a3 M.n3 m4.c3] 26))) := HA.out.blw (hb.trans hA)
  replace HB : Hid (Blw w (w4.alloc (.cells #[.slice m4.a1 M.n1 m4.c1, .slice m4.a2 M.n2 m4.c2, .slice m4.a3 M.n3 m4.c3] 26))) := HB.out.trans (hb.trans hA)
  clear hb hA own hz
  obtain ⟨p00, p01, p02⟩ := get3 H4m.out.out.box
  go_wp2_with fail
  clear p00 p01 p02
  refine (implPending_any m4 M _ _ H4m.out.out.own.at).mono ?_
  rintro e w5 ⟨x5, b5, rfl, ho, hb⟩
  have hz := hb.size
  try simp only [World.size_alloc] at hz
  try simp only [World.size_alloc] at own
  have HN2 : Hid (w4.heap.size + 1 ≤ w5.heap.size) := by have o0 := HN0.out; have o1 := HN1.out; show _ ≤ _; omega
  obtain ⟨eR, eb⟩ := pnOut_same ho HO3.out
  subst eR eb
  replace HA : Hid (St (fun x => x < w.heap.size + 1) (ArgM w.heap.size w.heap.size m M) w5) := HA.out.blw hb
  replace H4m : Hid (St (fun x => w3.heap.size ≤ x ∧ x < w4.heap.size + 1) (MB (fun x => w3.heap.size ≤ x ∧ x < w4.heap.size + 1) w4.heap.size m4 M M) w5) := H4m.out.blw hb
  replace HB : Hid (Blw w w5) := HB.out.trans hb
  clear hb hz ho
  have hnx : (x5 != x5) = false := by simp
  have hne : (b5 != b5) = false := by simp
  go_upto_region 10 with fail
  go_cut [39] from 35 to 39 (fun c wx => c = .bool false ∧ Blw w5 wx)
  case first =>
    obtain ⟨A0, A1, A2⟩ := box3_all HA.out.out.box
    obtain ⟨B0, B1, B2⟩ := box3_all H4m.out.out.box
    go_region_held3 (fun w' => Blw w5 w') ((first | exact (Blw.refl _).drew | assumption | exact Blw.trans (by assumption) (by assumption))) (first
      | (go_at_call 39; refine (toMemory_any m M _ _ SM.out (HA.out.blw (by assumption)).out.at_).mono ?_; rintro e w70 ⟨m6, rfl, o6, hb7⟩)
      | (go_at_call 41; refine (eqMemory_same m4 m6 M _ (H4m.out.blw (by assumption)).out.own.at o6.at).mono ?_; rintro e w80 ⟨rfl, hb8⟩))
    all_goals go_wp2_with fail
    all_goals go_meet
    all_goals exact ⟨rfl, by assumption⟩
  case rest =>
    obtain ⟨rfl, hb⟩ := hcut
    replace HA : Hid (St (fun x => x < w.heap.size + 1) (ArgM w.heap.size w.heap.size m M) wc) := HA.out.blw hb
    replace H4m : Hid (St (fun x => w3.heap.size ≤ x ∧ x < w4.heap.size + 1) (MB (fun x => w3.heap.size ≤ x ∧ x < w4.heap.size + 1) w4.heap.size m4 M M) wc) := H4m.out.blw hb
    replace HB : Hid (Blw w wc) := HB.out.trans hb
    clear hb
    go_wp2
    go_ret
    exact ⟨rfl, HB.out⟩
end Go.Proofs.Ytglllnklcnlcjaa
