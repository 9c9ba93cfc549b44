/- The next slot, whether two are alike, and the laws on SlotSum, SlotLine, NextSlot. -/
import Derived.Test.YtnbcjdoohmjghaaSlot
namespace Go.Proofs.Ytnbcjdoohmjghaa
open Go.RowKit
set_option linter.unusedSimpArgs false
/-- What NextSlot answers. -/
def nxOut (e a0 b0 a b : Int) (e' a' b' : Int) (ok : Bool) : Prop := (slotOK e a0 b0 ∧ slotOK (e + 1) a b ∧ e' = e + 1 ∧ a' = a ∧ b' = b ∧ ok = true) ∨ (¬ (slotOK e a0 b0 ∧ slotOK (e + 1) a b) ∧ e' = 0 ∧ a' = 0 ∧ b' = 0 ∧ ok = false)
theorem nxOut_same {e a0 b0 a b e1 a1 b1 e2 a2 b2 : Int} {o1 o2 : Bool} (h : nxOut e a0 b0 a b e1 a1 b1 o1) (k : nxOut e a0 b0 a b e2 a2 b2 o2) : e1 = e2 ∧ a1 = a2 ∧ b1 = b2 ∧ o1 = o2 := by
  rcases h with ⟨g, g2, rfl, rfl, rfl, rfl⟩ | ⟨g, rfl, rfl, rfl, rfl⟩ <;> rcases k with ⟨g', g2', rfl, rfl, rfl, rfl⟩ | ⟨g', rfl, rfl, rfl, rfl⟩
  · exact ⟨rfl, rfl, rfl, rfl⟩
  · exact absurd ⟨g, g2⟩ g'
  · exact absurd ⟨g', g2'⟩ g
  · exact ⟨rfl, rfl, rfl, rfl⟩
set_option maxHeartbeats 1600000 in
theorem implNext_any (e a0 b0 a b : Int) (w : World) : Calls Try.prog 45 #[slotV e a0 b0, .int .i64 a, .int .i64 b] w fun r w' => ∃ e' a' b' ok, r = .returned (.tuple #[slotV e' a' b', .bool ok]) ∧ nxOut e a0 b0 a b e' a' b' ok ∧ Blw w w' := by
  have rR : ∀ o : Obj, Row (((w.alloc (.cells #[.int .i64 e, .int .i64 a0, .int .i64 b0] 56)).alloc (.cells #[.int .i64 0, .int .i64 0, .int .i64 0] 56)).alloc o) (w.heap.size + 1) 3 (fun i => if i = 0 then Value.int .i64 0 else if i = 1 then .int .i64 0 else .int .i64 0) := fun o => by
    have := (box3 (w.alloc (.cells #[.int .i64 e, .int .i64 a0, .int .i64 b0] 56)) (.int .i64 0) (.int .i64 0) (.int .i64 0) 56).blw ((Blw.refl _).alloc o)
    rw [World.size_alloc] at this
    exact this
  have hb0 : ∀ o : Obj, Blw w (((w.alloc (.cells #[.int .i64 e, .int .i64 a0, .int .i64 b0] 56)).alloc (.cells #[.int .i64 0, .int .i64 0, .int .i64 0] 56)).alloc o) := fun o => (((Blw.refl _).alloc _).alloc _).alloc _
  have rN := fun x : Int => box3 ((w.alloc (.cells #[.int .i64 e, .int .i64 a0, .int .i64 b0] 56)).alloc (.cells #[.int .i64 0, .int .i64 0, .int .i64 0] 56)) (.int .i64 x) (.int .i64 a) (.int .i64 b) 56
  simp only [World.size_alloc] at rN
  go_enter Try.func45, Try.ntmps45
  by_cases h : slotOK e a0 b0
  · have H : Hid (slotOK e a0 b0) := h
    obtain ⟨⟨e1, e2⟩, -⟩ := h
    replace rR := rR (.cells #[.int .i64 (e + 1), .int .i64 a, .int .i64 b] 56)
    replace hb0 := hb0 (.cells #[.int .i64 (e + 1), .int .i64 a, .int .i64 b] 56)
    replace rN := rN (e + 1)
    go_wp2_with fail
    refine (isSlot_yes e a0 b0 _ H.out).mono ?_
    rintro r w1 ⟨rfl, hb1⟩
    replace rR := rR.blw hb1
    replace rN := rN.blw hb1
    replace hb1 := hb0.trans hb1
    obtain ⟨p0, p1, p2⟩ := get3 rN
    clear hb0
    go_wp2_with fail
    by_cases h2 : slotOK (e + 1) a b
    · have H2 : Hid (slotOK (e + 1) a b) := h2
      refine (isSlot_yes (e + 1) a b _ h2).mono ?_
      rintro r w2 ⟨rfl, hb2⟩
      clear h2 p0 p1 p2
      obtain ⟨p0, p1, p2⟩ := get3 (rN.blw hb2)
      obtain ⟨x0, x1, x2⟩ := get3 (rR.blw hb2)
      have f0 := (rR.blw hb2).frozen 0
      have f1 := (rR.blw hb2).frozen 1
      have f2 := (rR.blw hb2).frozen 2
      replace hb2 := hb1.trans hb2
      clear rN rR hb1 e1 e2
      go_wp2
      exact bodyPost_ret (v := .tuple #[slotV (e + 1) a b, .bool true]) (by simp [results, Try.results45, go_sem, x0, x1, x2]) rfl ⟨_, _, _, _, rfl, Or.inl ⟨H.out, H2.out, rfl, rfl, rfl, rfl⟩, ((hb2.setCell (Nat.le_succ _) _).setCell (Nat.le_succ _) _).setCell (Nat.le_succ _) _⟩
    · have H2 : Hid (¬ slotOK (e + 1) a b) := h2
      refine (isSlot_no (e + 1) a b _ h2).mono ?_
      rintro r w2 ⟨rfl, hb2⟩
      clear h2 p0 p1 p2
      obtain ⟨x0, x1, x2⟩ := get3 (rR.blw hb2)
      have f0 := (rR.blw hb2).frozen 0
      have f1 := (rR.blw hb2).frozen 1
      have f2 := (rR.blw hb2).frozen 2
      replace hb2 := hb1.trans hb2
      clear rN rR hb1 e1 e2
      go_wp2
      exact bodyPost_ret (v := .tuple #[slotV 0 0 0, .bool false]) (by simp [results, Try.results45, go_sem, x0, x1, x2]) rfl ⟨_, _, _, _, rfl, Or.inr ⟨fun g => H2.out g.2, rfl, rfl, rfl, rfl⟩, ((hb2.setCell (Nat.le_succ _) _).setCell (Nat.le_succ _) _).setCell (Nat.le_succ _) _⟩
  · have H : Hid (¬ slotOK e a0 b0) := h
    clear h
    replace rR := rR (.cells #[.int .i64 (wrap64 (e + 1)), .int .i64 a, .int .i64 b] 56)
    replace hb0 := hb0 (.cells #[.int .i64 (wrap64 (e + 1)), .int .i64 a, .int .i64 b] 56)
    clear rN
    go_wp2_with fail
    refine (isSlot_no e a0 b0 _ H.out).mono ?_
    rintro r w1 ⟨rfl, hb1⟩
    obtain ⟨x0, x1, x2⟩ := get3 (rR.blw hb1)
    have f0 := (rR.blw hb1).frozen 0
    have f1 := (rR.blw hb1).frozen 1
    have f2 := (rR.blw hb1).frozen 2
    replace hb1 := hb0.trans hb1
    clear rR hb0
    go_wp2
    exact bodyPost_ret (v := .tuple #[slotV 0 0 0, .bool false]) (by simp [results, Try.results45, go_sem, x0, x1, x2]) rfl ⟨_, _, _, _, rfl, Or.inr ⟨fun g => H.out g.1, rfl, rfl, rfl, rfl⟩, ((hb1.setCell (Nat.le_succ _) _).setCell (Nat.le_succ _) _).setCell (Nat.le_succ _) _⟩
set_option maxHeartbeats 1600000 in
theorem specNext_any (e a0 b0 a b : Int) (w : World) : Calls Try.prog 57 #[slotV e a0 b0, .int .i64 a, .int .i64 b] w fun r w' => ∃ e' a' b' ok, r = .returned (.tuple #[slotV e' a' b', .bool ok]) ∧ nxOut e a0 b0 a b e' a' b' ok ∧ Blw w w' := by
  have rR : ∀ o : Obj, Row (((w.alloc (.cells #[.int .i64 e, .int .i64 a0, .int .i64 b0] 56)).alloc (.cells #[.int .i64 0, .int .i64 0, .int .i64 0] 56)).alloc o) (w.heap.size + 1) 3 (fun i => if i = 0 then Value.int .i64 0 else if i = 1 then .int .i64 0 else .int .i64 0) := fun o => by
    have := (box3 (w.alloc (.cells #[.int .i64 e, .int .i64 a0, .int .i64 b0] 56)) (.int .i64 0) (.int .i64 0) (.int .i64 0) 56).blw ((Blw.refl _).alloc o)
    rw [World.size_alloc] at this
    exact this
  have hb0 : ∀ o : Obj, Blw w (((w.alloc (.cells #[.int .i64 e, .int .i64 a0, .int .i64 b0] 56)).alloc (.cells #[.int .i64 0, .int .i64 0, .int .i64 0] 56)).alloc o) := fun o => (((Blw.refl _).alloc _).alloc _).alloc _
  have rN := fun x : Int => box3 ((w.alloc (.cells #[.int .i64 e, .int .i64 a0, .int .i64 b0] 56)).alloc (.cells #[.int .i64 0, .int .i64 0, .int .i64 0] 56)) (.int .i64 x) (.int .i64 a) (.int .i64 b) 56
  simp only [World.size_alloc] at rN
  go_enter Try.func57, Try.ntmps57
  by_cases h : slotOK e a0 b0
  · have H : Hid (slotOK e a0 b0) := h
    obtain ⟨⟨e1, e2⟩, -⟩ := h
    replace rR := rR (.cells #[.int .i64 (e + 1), .int .i64 a, .int .i64 b] 56)
    replace hb0 := hb0 (.cells #[.int .i64 (e + 1), .int .i64 a, .int .i64 b] 56)
    replace rN := rN (e + 1)
    go_wp2_with fail
    refine (l2Slot_yes e a0 b0 _ H.out).mono ?_
    rintro r w1 ⟨rfl, hb1⟩
    replace rR := rR.blw hb1
    replace rN := rN.blw hb1
    replace hb1 := hb0.trans hb1
    obtain ⟨p0, p1, p2⟩ := get3 rN
    clear hb0
    go_wp2_with fail
    by_cases h2 : slotOK (e + 1) a b
    · have H2 : Hid (slotOK (e + 1) a b) := h2
      refine (l2Slot_yes (e + 1) a b _ h2).mono ?_
      rintro r w2 ⟨rfl, hb2⟩
      clear h2 p0 p1 p2
      obtain ⟨p0, p1, p2⟩ := get3 (rN.blw hb2)
      obtain ⟨x0, x1, x2⟩ := get3 (rR.blw hb2)
      have f0 := (rR.blw hb2).frozen 0
      have f1 := (rR.blw hb2).frozen 1
      have f2 := (rR.blw hb2).frozen 2
      replace hb2 := hb1.trans hb2
      clear rN rR hb1 e1 e2
      go_wp2
      exact bodyPost_ret (v := .tuple #[slotV (e + 1) a b, .bool true]) (by simp [results, Try.results57, go_sem, x0, x1, x2]) rfl ⟨_, _, _, _, rfl, Or.inl ⟨H.out, H2.out, rfl, rfl, rfl, rfl⟩, ((hb2.setCell (Nat.le_succ _) _).setCell (Nat.le_succ _) _).setCell (Nat.le_succ _) _⟩
    · have H2 : Hid (¬ slotOK (e + 1) a b) := h2
      refine (l2Slot_no (e + 1) a b _ h2).mono ?_
      rintro r w2 ⟨rfl, hb2⟩
      clear h2 p0 p1 p2
      obtain ⟨x0, x1, x2⟩ := get3 (rR.blw hb2)
      have f0 := (rR.blw hb2).frozen 0
      have f1 := (rR.blw hb2).frozen 1
      have f2 := (rR.blw hb2).frozen 2
      replace hb2 := hb1.trans hb2
      clear rN rR hb1 e1 e2
      go_wp2
      exact bodyPost_ret (v := .tuple #[slotV 0 0 0, .bool false]) (by simp [results, Try.results57, go_sem, x0, x1, x2]) rfl ⟨_, _, _, _, rfl, Or.inr ⟨fun g => H2.out g.2, rfl, rfl, rfl, rfl⟩, ((hb2.setCell (Nat.le_succ _) _).setCell (Nat.le_succ _) _).setCell (Nat.le_succ _) _⟩
  · have H : Hid (¬ slotOK e a0 b0) := h
    clear h
    replace rR := rR (.cells #[.int .i64 (wrap64 (e + 1)), .int .i64 a, .int .i64 b] 56)
    replace hb0 := hb0 (.cells #[.int .i64 (wrap64 (e + 1)), .int .i64 a, .int .i64 b] 56)
    clear rN
    go_wp2_with fail
    refine (l2Slot_no e a0 b0 _ H.out).mono ?_
    rintro r w1 ⟨rfl, hb1⟩
    obtain ⟨x0, x1, x2⟩ := get3 (rR.blw hb1)
    have f0 := (rR.blw hb1).frozen 0
    have f1 := (rR.blw hb1).frozen 1
    have f2 := (rR.blw hb1).frozen 2
    replace hb1 := hb0.trans hb1
    clear rR hb0
    go_wp2
    exact bodyPost_ret (v := .tuple #[slotV 0 0 0, .bool false]) (by simp [results, Try.results57, go_sem, x0, x1, x2]) rfl ⟨_, _, _, _, rfl, Or.inr ⟨fun g => H.out g.1, rfl, rfl, rfl, rfl⟩, ((hb1.setCell (Nat.le_succ _) _).setCell (Nat.le_succ _) _).setCell (Nat.le_succ _) _⟩
set_option maxHeartbeats 1600000 in
theorem eqSlot_same (e a b : Int) (w : World) : Calls Try.prog 73 #[slotV e a b, slotV e a b] w fun r w' => r = .returned (.bool true) ∧ Blw w w' := by
  have n1 : (e != e) = false := by simp
  have n2 : (a != a) = false := by simp
  have n3 : (b != b) = false := by simp
  go_enter Try.func73, Try.ntmps73
  go_wp2
  go_ret
  exact ⟨rfl, ((Blw.refl _).alloc _).alloc _⟩
set_option maxHeartbeats 1600000 in
theorem lawLine_any (e : Int) (w : World) : Calls Try.prog 12 #[.int .i64 e] w fun r w' => r = .returned (.bool true) ∧ Blw w w' := by
  go_enter Try.func12, Try.ntmps12
  go_wp2_with fail
  refine (specLine_any e _).mono ?_
  rintro r w1 ⟨rfl, rfl⟩
  obtain ⟨x, ok, hx⟩ : ∃ x ok, slOut e = .tuple #[.int .i64 x, .bool ok] := by unfold slOut; split; exact ⟨_, _, rfl⟩; exact ⟨_, _, rfl⟩
  rw [hx]
  go_wp2_with fail
  refine (implLine_any e _).mono ?_
  rintro r w1 ⟨rfl, rfl⟩
  rw [hx]
  have n1 : (x != x) = false := by simp
  have n2 : (ok != ok) = false := by simp
  go_wp2
  go_ret
  exact ⟨rfl, Blw.refl _⟩
set_option maxHeartbeats 1600000 in
theorem lawSum_any (e a b : Int) (w : World) : Calls Try.prog 7 #[slotV e a b] w fun r w' => r = .returned (.bool true) ∧ Blw w w' := by
  go_enter Try.func7, Try.ntmps7
  go_wp2_with fail
  have hb0 : Blw w (w.alloc (.cells #[.int .i64 e, .int .i64 a, .int .i64 b] 72)) := (Blw.refl _).alloc _
  have rA := box3 w (.int .i64 e) (.int .i64 a) (.int .i64 b) 72
  refine (toSlot_any e a b _).mono ?_
  rintro r w1 ⟨rfl, hb1⟩
  replace rA := rA.blw hb1
  replace hb1 := hb0.trans hb1
  clear hb0
  go_wp2_with fail
  refine (specSum_any e a b _).mono ?_
  rintro r w2 ⟨hs, hb2⟩
  replace rA := rA.blw hb2
  replace hb2 := hb1.trans hb2
  obtain ⟨x, ok, hx⟩ : ∃ x ok, r = .returned (.tuple #[.int .i64 x, .bool ok]) := by rcases hs with ⟨-, h⟩ | ⟨-, h⟩ <;> exact ⟨_, _, h⟩
  subst hx
  have HS : Hid (ssOut e a b (.returned (.tuple #[.int .i64 x, .bool ok]))) := hs
  obtain ⟨p0, p1, p2⟩ := get3 rA
  clear hb1 hs
  go_wp2_with fail
  refine (toSlot_any e a b _).mono ?_
  rintro r w3 ⟨rfl, hb3⟩
  replace hb3 := hb2.trans hb3
  clear p0 p1 p2 hb2 rA
  go_wp2_with fail
  refine (implSum_any e a b _).mono ?_
  rintro r w4 ⟨hs, hb4⟩
  obtain rfl := ssOut_same hs HS.out
  replace hb4 := hb3.trans hb4
  clear hs hb3
  have n1 : (x != x) = false := by simp
  have n2 : (ok != ok) = false := by simp
  go_wp2
  go_ret
  exact ⟨rfl, hb4⟩
set_option maxHeartbeats 1600000 in
theorem lawNext_any (e a0 b0 a b : Int) (w : World) : Calls Try.prog 11 #[slotV e a0 b0, .int .i64 a, .int .i64 b] w fun r w' => r = .returned (.bool true) ∧ Blw w w' := by
  go_enter Try.func11, Try.ntmps11
  go_wp2_with fail
  have hb0 : Blw w (w.alloc (.cells #[.int .i64 e, .int .i64 a0, .int .i64 b0] 72)) := (Blw.refl _).alloc _
  have rA := box3 w (.int .i64 e) (.int .i64 a0) (.int .i64 b0) 72
  refine (toSlot_any e a0 b0 _).mono ?_
  rintro r w1 ⟨rfl, hb1⟩
  replace rA := rA.blw hb1
  replace hb1 := hb0.trans hb1
  clear hb0
  go_wp2_with fail
  refine (specNext_any e a0 b0 a b _).mono ?_
  rintro r w2 ⟨e', a', b', ok, rfl, hs, hb2⟩
  have hA : Blw w2 (w2.alloc (.cells #[.int .i64 e', .int .i64 a', .int .i64 b'] 56)) := (Blw.refl _).alloc _
  replace rA := (rA.blw hb2).blw hA
  replace hb2 := (hb1.trans hb2).trans hA
  have rS := box3 w2 (.int .i64 e') (.int .i64 a') (.int .i64 b') 56
  have HS : Hid (nxOut e a0 b0 a b e' a' b' ok) := hs
  obtain ⟨p0, p1, p2⟩ := get3 rA
  clear hb1 hs hA
  go_wp2_with fail
  refine (toSlot_any e a0 b0 _).mono ?_
  rintro r w3 ⟨rfl, hb3⟩
  replace rS := rS.blw hb3
  replace hb3 := hb2.trans hb3
  clear p0 p1 p2 hb2 rA
  go_wp2_with fail
  refine (implNext_any e a0 b0 a b _).mono ?_
  rintro r w4 ⟨e4, a4, b4, ok4, rfl, hs, hb4⟩
  obtain ⟨rfl, rfl, rfl, rfl⟩ := nxOut_same hs HS.out
  have hA : Blw w4 (w4.alloc (.cells #[.int .i64 e4, .int .i64 a4, .int .i64 b4] 56)) := (Blw.refl _).alloc _
  replace rS := (rS.blw hb4).blw hA
  replace hb4 := (hb3.trans hb4).trans hA
  obtain ⟨p0, p1, p2⟩ := get3 rS
  clear hs hb3 hA rS
  go_wp2_with fail
  refine (eqSlot_same e4 a4 b4 _).mono ?_
  rintro r w5 ⟨rfl, hb5⟩
  replace hb5 := hb4.trans hb5
  have n2 : (ok4 != ok4) = false := by simp
  clear hb4 p0 p1 p2
  go_wp2
  go_ret
  exact ⟨rfl, hb5⟩
end Go.Proofs.Ytnbcjdoohmjghaa
