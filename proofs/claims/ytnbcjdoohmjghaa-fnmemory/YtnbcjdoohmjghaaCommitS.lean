/- 'impl.CommitSlot' and 'spec.CommitSlot'. -/
import Derived.Test.YtnbcjdoohmjghaaWriteS
namespace Go.Proofs.Ytnbcjdoohmjghaa
open Go.RowKit
set_option linter.unusedSimpArgs false
/-- What CommitSlot answers. -/
def csOut (M : MD) (e a b : Int) (M' : MD) (ok : Bool) : Prop := ∃ M1 ok1, wsOut M e a b M1 ok1 ∧ ((ok1 = true ∧ flOut M1 (e % 2) M' ok) ∨ (ok1 = false ∧ M' = MZ ∧ ok = false))
theorem csOut_same {M M1 M2 : MD} {e a b : Int} {x y : Bool} (h : csOut M e a b M1 x) (k : csOut M e a b M2 y) : M1 = M2 ∧ x = y := by
  obtain ⟨N1, o1, h1, h2⟩ := h
  obtain ⟨N2, o2, k1, k2⟩ := k
  obtain ⟨rfl, rfl⟩ := wsOut_same h1 k1
  rcases h2 with ⟨rfl, h2⟩ | ⟨rfl, rfl, rfl⟩ <;> rcases k2 with ⟨g, k2⟩ | ⟨g, rfl, rfl⟩
  · exact flOut_same h2 k2
  · cases g
  · cases g
  · exact ⟨rfl, rfl⟩
theorem csOut_total {M M1 : MD} {e a b : Int} {x : Bool} (h : csOut M e a b M1 x) : M1.total ≤ 108 := by
  obtain ⟨N1, o1, h1, h2⟩ := h
  rcases h2 with ⟨rfl, h2⟩ | ⟨rfl, rfl, rfl⟩
  · exact flOut_total h2
  · rw [total_zero]; omega
set_option maxHeartbeats 1600000 in
theorem implCommit_any (m : MV) (M : MD) (Y : Nat → Prop) (w : World) (e a b : Int) (h : MemAt Y w m M) :
    Calls Try.prog 48 #[m.val M, slotV e a b] w (Gives (csOut M e a b) w) := by
  go_enter Try.func48, Try.ntmps48
  go_wp2_with fail
  obtain ⟨hb0, rA, rS, rR⟩ := boxes3 w m M e a b
  refine (implWrite_any m M Y _ e a b (h.blw hb0)).mono ?_
  rintro r w1 ⟨m1, M1, ok, rfl, hout, own1, hb1⟩
  have hA : Blw w1 (w1.alloc (.cells #[.slice m1.a1 M1.n1 m1.c1, .slice m1.a2 M1.n2 m1.c2, .slice m1.a3 M1.n3 m1.c3] 26)) := (Blw.refl _).alloc _
  replace rS := rS.blw (hb1.trans hA)
  replace rR := rR.blw (hb1.trans hA)
  have rM := box3 w1 (.slice m1.a1 M1.n1 m1.c1) (.slice m1.a2 M1.n2 m1.c2) (.slice m1.a3 M1.n3 m1.c3) 26
  replace hb1 := (hb0.trans hb1).trans hA
  have HO : Hid (wsOut M e a b M1 ok) := hout
  have H1 := own1.at.blw hA
  clear hout hb0 rA own1 hA h
  cases ok
  · obtain ⟨⟨x0, x1, x2⟩, f0, f1, f2⟩ := res6 rR
    clear rS rR rM H1
    go_wp2
    exact bodyPost_ret (v := .tuple #[.agg #[.slice none 0 0, .slice none 0 0, .slice none 0 0], .bool false]) (by simp [results, Try.results48, go_sem, x0, x1, x2]) rfl (zero_givesR (by omega) ⟨M1, false, HO.out, Or.inr ⟨rfl, rfl, rfl⟩⟩ hb1)
  · have HS : Hid (slotOK e a b) := by
      rcases HO.out with ⟨g, _⟩ | ⟨_, _, g⟩
      · exact g
      · exact absurd g (by decide)
    have H : Hid _ := H1
    obtain ⟨q0, q1, q2⟩ := get3 rS
    obtain ⟨p0, p1, p2⟩ := get3 rM
    have e1 := HS.out.1.1
    have e2 := HS.out.1.2
    clear H1
    go_wp2_with fail
    refine (implLine_any e _).mono ?_
    rintro r w2 ⟨rfl, rfl⟩
    rw [slOut, if_pos (show 1 ≤ e ∧ e ≤ 1000 from HS.out.1)]
    go_wp2_with fail
    refine (implFlush_any m1 M1 _ _ (e % 2) H.out).mono ?_
    rintro r w3 ⟨m3, M3, ok, rfl, hout, own, hb3⟩
    have zR := rR.lt
    obtain ⟨⟨x0, x1, x2⟩, f0, f1, f2⟩ := res6 (rR.blw hb3)
    replace hb3 := hb1.trans hb3
    have HF : Hid (flOut M1 (e % 2) M3 ok) := hout
    clear p0 p1 p2 q0 q1 q2 e1 e2 rS rR rM hb1 hout H
    go_wp2
    exact bodyPost_ret (v := .tuple #[m3.val M3, .bool ok]) (by simp [results, Try.results48, go_sem, x0, x1, x2]) rfl (some_givesR (by omega) ⟨M1, true, HO.out, Or.inl ⟨rfl, HF.out⟩⟩ hb3 own (fun b hb => ⟨by have := hb.1; omega, hb.2⟩) rfl)
set_option maxHeartbeats 1600000 in
theorem specCommit_any (m : MV) (M : MD) (Y : Nat → Prop) (w : World) (e a b : Int) (h : MemAt Y w m M) :
    Calls Try.prog 50 #[m.val M, slotV e a b] w (Gives (csOut M e a b) w) := by
  go_enter Try.func50, Try.ntmps50
  go_wp2_with fail
  obtain ⟨hb0, rA, rS, rR⟩ := boxes3 w m M e a b
  refine (specWrite_any m M Y _ e a b (h.blw hb0)).mono ?_
  rintro r w1 ⟨m1, M1, ok, rfl, hout, own1, hb1⟩
  have hA : Blw w1 (w1.alloc (.cells #[.slice m1.a1 M1.n1 m1.c1, .slice m1.a2 M1.n2 m1.c2, .slice m1.a3 M1.n3 m1.c3] 26)) := (Blw.refl _).alloc _
  replace rS := rS.blw (hb1.trans hA)
  replace rR := rR.blw (hb1.trans hA)
  have rM := box3 w1 (.slice m1.a1 M1.n1 m1.c1) (.slice m1.a2 M1.n2 m1.c2) (.slice m1.a3 M1.n3 m1.c3) 26
  replace hb1 := (hb0.trans hb1).trans hA
  have HO : Hid (wsOut M e a b M1 ok) := hout
  have H1 := own1.at.blw hA
  clear hout hb0 rA own1 hA h
  cases ok
  · obtain ⟨⟨x0, x1, x2⟩, f0, f1, f2⟩ := res6 rR
    clear rS rR rM H1
    go_wp2
    exact bodyPost_ret (v := .tuple #[.agg #[.slice none 0 0, .slice none 0 0, .slice none 0 0], .bool false]) (by simp [results, Try.results50, go_sem, x0, x1, x2]) rfl (zero_givesR (by omega) ⟨M1, false, HO.out, Or.inr ⟨rfl, rfl, rfl⟩⟩ hb1)
  · have HS : Hid (slotOK e a b) := by
      rcases HO.out with ⟨g, _⟩ | ⟨_, _, g⟩
      · exact g
      · exact absurd g (by decide)
    have H : Hid _ := H1
    obtain ⟨q0, q1, q2⟩ := get3 rS
    obtain ⟨p0, p1, p2⟩ := get3 rM
    have e1 := HS.out.1.1
    have e2 := HS.out.1.2
    clear H1
    go_wp2_with fail
    refine (specFlush_any m1 M1 _ _ (e % 2) H.out).mono ?_
    rintro r w3 ⟨m3, M3, ok, rfl, hout, own, hb3⟩
    have zR := rR.lt
    obtain ⟨⟨x0, x1, x2⟩, f0, f1, f2⟩ := res6 (rR.blw hb3)
    replace hb3 := hb1.trans hb3
    have HF : Hid (flOut M1 (e % 2) M3 ok) := hout
    clear p0 p1 p2 q0 q1 q2 e1 e2 rS rR rM hb1 hout H
    go_wp2
    exact bodyPost_ret (v := .tuple #[m3.val M3, .bool ok]) (by simp [results, Try.results50, go_sem, x0, x1, x2]) rfl (some_givesR (by omega) ⟨M1, true, HO.out, Or.inl ⟨rfl, HF.out⟩⟩ hb3 own (fun b hb => ⟨by have := hb.1; omega, hb.2⟩) rfl)
end Go.Proofs.Ytnbcjdoohmjghaa
