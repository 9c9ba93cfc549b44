/- Law 10: NewestSlot. -/
import Derived.Test.YtnbcjdoohmjghaaNewM
namespace Go.Proofs.Ytnbcjdoohmjghaa
open Go.RowKit
set_option linter.unusedSimpArgs false
set_option maxRecDepth 10000 in
set_option maxHeartbeats 3200000 in
theorem lawNewestP (m : MV) (M : MD) (w : World) (h : MemAt (fun b => b < w.heap.size) w m M) :
    Calls Try.prog 10 #[m.val M] w fun e w' => e = .returned (.bool true) ∧ Blw w w' := by
  go_enter Try.func10, Try.ntmps10
  go_wp2_with fail
  have hb0 : Blw w (w.alloc (.cells #[.slice m.a1 M.n1 m.c1, .slice m.a2 M.n2 m.c2, .slice m.a3 M.n3 m.c3] 77)) := (Blw.refl _).alloc _
  have rA := box3 w (.slice m.a1 M.n1 m.c1) (.slice m.a2 M.n2 m.c2) (.slice m.a3 M.n3 m.c3) 77
  refine (szMemory_any m M _ _ _ (by omega) (by omega) (h.blw hb0)).mono ?_
  rintro e w1 ⟨r, rfl, hr, hb1⟩
  replace rA := rA.blw hb1
  replace hb1 := hb0.trans hb1
  replace h := h.blw hb1
  clear hb0
  rcases hr with rfl | ⟨q0, q1⟩
  · clear rA
    go_wp2
    go_ret
    exact ⟨rfl, hb1⟩
  have hS : M.Small := small_of (by omega)
  have HS : Hid M.Small := hS
  obtain ⟨p0, p1, p2⟩ := get3 rA
  clear q1 hS
  go_wp2_with fail
  clear p0 p1 p2
  refine (toMemory_any m M _ _ HS.out h).mono ?_
  rintro e w2 ⟨m2, rfl, o2, hb2⟩
  replace rA := rA.blw hb2
  replace h := h.blw hb2
  replace hb2 := hb1.trans hb2
  clear hb1
  go_wp2_with fail
  refine (specNewest_any m2 M _ _ o2.at).mono ?_
  rintro e w3 ⟨e3, a3, b3, ok3, rfl, hbs, hb3⟩
  have hA : Blw w3 (w3.alloc (.cells #[.int .i64 e3, .int .i64 a3, .int .i64 b3] 56)) := (Blw.refl _).alloc _
  have r4 := box3 w3 (.int .i64 e3) (.int .i64 a3) (.int .i64 b3) 56
  replace hb3 := hb3.trans hA
  replace rA := rA.blw hb3
  replace h := h.blw hb3
  replace hb3 := hb2.trans hb3
  clear hb2 o2 hA
  obtain ⟨p0, p1, p2⟩ := get3 rA
  have HBS : Hid (nsOut M e3 a3 b3 ok3) := hbs
  clear hbs
  go_wp2_with fail
  clear p0 p1 p2
  refine (toMemory_any m M _ _ HS.out h).mono ?_
  rintro e w4 ⟨m4, rfl, o4, hb4⟩
  replace rA := rA.blw hb4
  replace r4 := r4.blw hb4
  replace h := h.blw hb4
  replace hb4 := hb3.trans hb4
  clear hb3
  go_wp2_with fail
  have hA : Blw w4 (w4.alloc (.cells #[.slice m4.a1 M.n1 m4.c1, .slice m4.a2 M.n2 m4.c2, .slice m4.a3 M.n3 m4.c3] 26)) := (Blw.refl _).alloc _
  have rX := box3 w4 (.slice m4.a1 M.n1 m4.c1) (.slice m4.a2 M.n2 m4.c2) (.slice m4.a3 M.n3 m4.c3) 26
  refine (implNewest_any m4 M _ _ (o4.at.blw hA)).mono ?_
  rintro e w5 ⟨e5, a5, b5, ok5, rfl, hbi, hb5⟩
  obtain ⟨rfl, rfl, rfl, rfl⟩ := nsOut_same hbi HBS.out
  have hA5 : Blw w5 (w5.alloc (.cells #[.int .i64 e5, .int .i64 a5, .int .i64 b5] 56)) := (Blw.refl _).alloc _
  replace hb5 := hb5.trans hA5
  replace rX := rX.blw hb5
  replace hb5 := hA.trans hb5
  have a4 := o4.at.blw hb5
  replace rA := rA.blw hb5
  replace r4 := r4.blw hb5
  replace h := h.blw hb5
  replace hb5 := hb4.trans hb5
  clear hA hb4 o4 hbi hA5
  have hne : (ok5 != ok5) = false := by simp
  obtain ⟨p0, p1, p2⟩ := get3 r4
  go_wp2_with fail
  refine (eqSlot_same e5 a5 b5 _).mono ?_
  rintro e w6 ⟨rfl, hb6⟩
  replace rX := rX.blw hb6
  replace a4 := a4.blw hb6
  replace rA := rA.blw hb6
  replace h := h.blw hb6
  replace hb6 := hb5.trans hb6
  obtain ⟨A0, A1, A2⟩ := box3_all rA
  obtain ⟨B0, B1, B2⟩ := box3_all rX
  have H5 : Hid (∀ w', Blw w6 w' → MemAt (fun b => b < w.heap.size) w' m M) := fun w' hb => h.blw hb
  have X5 : Hid (∀ w', Blw w6 w' → MemAt _ w' m4 M) := fun w' hb => a4.blw hb
  clear rA rX h a4 hb5 p0 p1 p2 r4
  go_upto_region 10 with fail
  go_region_held3 (fun w' => Blw w6 w') ((first | exact (Blw.refl _).drew | assumption | exact Blw.trans (by assumption) (by assumption))) (first
    | (go_at_call 66; refine (toMemory_any m M _ _ HS.out (H5.out _ (by assumption))).mono ?_; rintro e w7 ⟨m6, rfl, o6, hb7⟩)
    | (go_at_call 67; refine (eqMemory_same m4 m6 M _ (X5.out _ (by assumption)) o6.at).mono ?_; rintro e w8 ⟨rfl, hb8⟩))
  all_goals go_wp2
  all_goals go_ret
  all_goals exact ⟨rfl, hb6.trans (by assumption)⟩
end Go.Proofs.Ytnbcjdoohmjghaa
