/- Slots: what is one, its sum, its line. -/
import Derived.Test.YtnbcjdoohmjghaaGoodL
import Derived.Test.YtnbcjdoohmjghaaHold
import Derived.Test.YtnbcjdoohmjghaaTo
namespace Go.Proofs.Ytnbcjdoohmjghaa
open Go.RowKit
set_option linter.unusedSimpArgs false
abbrev slotV (e a b : Int) : Value := .agg #[.int .i64 e, .int .i64 a, .int .i64 b]
def epochOK (e : Int) : Prop := 1 ≤ e ∧ e ≤ 1000
def slotOK (e a b : Int) : Prop := epochOK e ∧ wordOK a ∧ wordOK b
def sumOf (e a b : Int) : Int := (e * 31 + a * 7 + b * 3 + 12345) % 65521
set_option maxHeartbeats 400000 in
theorem isEpoch_yes (n : Int) (w : World) (h : epochOK n) : Calls Try.prog 112 #[.int .i64 n] w fun e w' => e = .returned (.bool true) ∧ w' = w := by
  obtain ⟨h1, h2⟩ := h
  go_enter Try.func112, Try.ntmps112
  go_wp2
  go_ret
  exact ⟨rfl, rfl⟩
set_option maxHeartbeats 400000 in
theorem isEpoch_no (n : Int) (w : World) (h : ¬ epochOK n) : Calls Try.prog 112 #[.int .i64 n] w fun e w' => e = .returned (.bool false) ∧ w' = w := by
  by_cases h1 : 1 ≤ n
  · have h2 : ¬ n ≤ 1000 := fun h3 => h ⟨h1, h3⟩
    clear h
    go_enter Try.func112, Try.ntmps112
    go_wp2
    go_ret
    exact ⟨rfl, rfl⟩
  · clear h
    have hd : decide (1 ≤ n) = false := by simpa using h1
    go_enter Try.func112, Try.ntmps112
    go_wp2
    go_ret
    exact ⟨rfl, rfl⟩
set_option maxHeartbeats 800000 in
theorem isSlot_yes (e a b : Int) (w : World) (h : slotOK e a b) : Calls Try.prog 105 #[slotV e a b] w fun r w' => r = .returned (.bool true) ∧ Blw w w' := by
  have H : Hid (slotOK e a b) := h
  clear h
  have hb : Blw w (w.alloc (.cells #[.int .i64 e, .int .i64 a, .int .i64 b] 56)) := (Blw.refl _).alloc _
  go_enter Try.func105, Try.ntmps105
  go_wp2_with fail
  refine (isEpoch_yes _ _ H.out.1).mono ?_
  rintro r w1 ⟨rfl, rfl⟩
  go_wp2_with fail
  refine (isWord_yes _ _ H.out.2.1).mono ?_
  rintro r w1 ⟨rfl, rfl⟩
  go_wp2_with fail
  refine (isWord_yes _ _ H.out.2.2).mono ?_
  rintro r w1 ⟨rfl, rfl⟩
  go_wp2
  go_ret
  exact ⟨rfl, hb⟩
set_option maxHeartbeats 800000 in
theorem isSlot_no (e a b : Int) (w : World) (h : ¬ slotOK e a b) : Calls Try.prog 105 #[slotV e a b] w fun r w' => r = .returned (.bool false) ∧ Blw w w' := by
  have H : Hid (¬ slotOK e a b) := h
  clear h
  have hb : Blw w (w.alloc (.cells #[.int .i64 e, .int .i64 a, .int .i64 b] 56)) := (Blw.refl _).alloc _
  go_enter Try.func105, Try.ntmps105
  go_wp2_with fail
  by_cases h1 : epochOK e
  · refine (isEpoch_yes _ _ h1).mono ?_
    rintro r w1 ⟨rfl, rfl⟩
    have H1 : Hid (epochOK e) := h1
    clear h1
    go_wp2_with fail
    by_cases h2 : wordOK a
    · refine (isWord_yes _ _ h2).mono ?_
      rintro r w1 ⟨rfl, rfl⟩
      have H2 : Hid (wordOK a) := h2
      clear h2
      go_wp2_with fail
      refine (isWord_no _ _ (fun h3 => H.out ⟨H1.out, H2.out, h3⟩)).mono ?_
      rintro r w1 ⟨rfl, rfl⟩
      go_wp2
      go_ret
      exact ⟨rfl, hb⟩
    · refine (isWord_no _ _ h2).mono ?_
      rintro r w1 ⟨rfl, rfl⟩
      clear h2
      go_wp2
      go_ret
      exact ⟨rfl, hb⟩
  · refine (isEpoch_no _ _ h1).mono ?_
    rintro r w1 ⟨rfl, rfl⟩
    clear h1
    go_wp2
    go_ret
    exact ⟨rfl, hb⟩
set_option maxHeartbeats 800000 in
theorem l2Slot_yes (e a b : Int) (w : World) (h : slotOK e a b) : Calls Try.prog 108 #[slotV e a b] w fun r w' => r = .returned (.bool true) ∧ Blw w w' := by
  have H : Hid (slotOK e a b) := h
  clear h
  have hb : Blw w (w.alloc (.cells #[.int .i64 e, .int .i64 a, .int .i64 b] 56)) := (Blw.refl _).alloc _
  go_enter Try.func108, Try.ntmps108
  go_wp2_with fail
  refine (l1In_yes _ _ _ _ H.out.1.1 H.out.1.2).mono ?_
  rintro r w1 ⟨rfl, rfl⟩
  go_wp2_with fail
  refine (l1In_yes _ _ _ _ H.out.2.1.1 H.out.2.1.2).mono ?_
  rintro r w1 ⟨rfl, rfl⟩
  go_wp2_with fail
  refine (l1In_yes _ _ _ _ H.out.2.2.1 H.out.2.2.2).mono ?_
  rintro r w1 ⟨rfl, rfl⟩
  go_wp2
  go_ret
  exact ⟨rfl, hb⟩
set_option maxHeartbeats 800000 in
theorem l2Slot_no (e a b : Int) (w : World) (h : ¬ slotOK e a b) : Calls Try.prog 108 #[slotV e a b] w fun r w' => r = .returned (.bool false) ∧ Blw w w' := by
  have H : Hid (¬ slotOK e a b) := h
  clear h
  have hb : Blw w (w.alloc (.cells #[.int .i64 e, .int .i64 a, .int .i64 b] 56)) := (Blw.refl _).alloc _
  go_enter Try.func108, Try.ntmps108
  go_wp2_with fail
  by_cases h1 : epochOK e
  · refine (l1In_yes _ _ _ _ h1.1 h1.2).mono ?_
    rintro r w1 ⟨rfl, rfl⟩
    have H1 : Hid (epochOK e) := h1
    clear h1
    go_wp2_with fail
    by_cases h2 : wordOK a
    · refine (l1In_yes _ _ _ _ h2.1 h2.2).mono ?_
      rintro r w1 ⟨rfl, rfl⟩
      have H2 : Hid (wordOK a) := h2
      clear h2
      go_wp2_with fail
      refine (l1In_no _ _ _ _ (fun h3 => H.out ⟨H1.out, H2.out, h3⟩)).mono ?_
      rintro r w1 ⟨rfl, rfl⟩
      go_wp2
      go_ret
      exact ⟨rfl, hb⟩
    · refine (l1In_no _ _ _ _ h2).mono ?_
      rintro r w1 ⟨rfl, rfl⟩
      clear h2
      go_wp2
      go_ret
      exact ⟨rfl, hb⟩
  · refine (l1In_no _ _ _ _ h1).mono ?_
    rintro r w1 ⟨rfl, rfl⟩
    clear h1
    go_wp2
    go_ret
    exact ⟨rfl, hb⟩
/-- What SlotLine answers. -/
def slOut (e : Int) : Value := if 1 ≤ e ∧ e ≤ 1000 then .tuple #[.int .i64 (e % 2), .bool true] else .tuple #[.int .i64 0, .bool false]
set_option maxHeartbeats 800000 in
theorem implLine_any (e : Int) (w : World) : Calls Try.prog 62 #[.int .i64 e] w fun r w' => r = .returned (slOut e) ∧ w' = w := by
  go_enter Try.func62, Try.ntmps62
  go_wp2_with fail
  by_cases h : epochOK e
  · refine (isEpoch_yes _ _ h).mono ?_
    rintro r w1 ⟨rfl, rfl⟩
    obtain ⟨h1, h2⟩ := h
    go_wp2
    go_ret2
    exact ⟨by rw [slOut, if_pos ⟨h1, h2⟩]; rfl, rfl⟩
  · refine (isEpoch_no _ _ h).mono ?_
    rintro r w1 ⟨rfl, rfl⟩
    have H : Hid (¬ epochOK e) := h
    clear h
    go_wp2
    go_ret2
    exact ⟨by rw [slOut, if_neg (show ¬ (1 ≤ e ∧ e ≤ 1000) from H.out)]; rfl, rfl⟩
set_option maxHeartbeats 800000 in
theorem specLine_any (e : Int) (w : World) : Calls Try.prog 63 #[.int .i64 e] w fun r w' => r = .returned (slOut e) ∧ w' = w := by
  go_enter Try.func63, Try.ntmps63
  go_wp2_with fail
  by_cases h : epochOK e
  · refine (l1In_yes _ _ _ _ h.1 h.2).mono ?_
    rintro r w1 ⟨rfl, rfl⟩
    obtain ⟨h1, h2⟩ := h
    go_wp2
    go_ret2
    exact ⟨by rw [slOut, if_pos ⟨h1, h2⟩]; rfl, rfl⟩
  · refine (l1In_no _ _ _ _ h).mono ?_
    rintro r w1 ⟨rfl, rfl⟩
    have H : Hid (¬ epochOK e) := h
    clear h
    go_wp2
    go_ret2
    exact ⟨by rw [slOut, if_neg (show ¬ (1 ≤ e ∧ e ≤ 1000) from H.out)]; rfl, rfl⟩

theorem box5 (w : World) (a b c d e : Value) (t : TypeId) : Row (w.alloc (.cells #[a, b, c, d, e] t)) w.heap.size 5 (fun i => if i = 0 then a else if i = 1 then b else if i = 2 then c else if i = 3 then d else e) :=
  ⟨_, t, heap_alloc_new _ _, by simp, fun i hi => by
    match i, hi with
    | 0, _ => rfl
    | 1, _ => rfl
    | 2, _ => rfl
    | 3, _ => rfl
    | 4, _ => rfl⟩
theorem get5 {w : World} {B : Nat} {a b c d e : Value} (r : Row w B 5 (fun i => if i = 0 then a else if i = 1 then b else if i = 2 then c else if i = 3 then d else e)) :
    (w.cell? ⟨B, 0, none⟩ = some a ∧ w.cell? ⟨B, 1, none⟩ = some b ∧ w.cell? ⟨B, 2, none⟩ = some c ∧ w.cell? ⟨B, 3, none⟩ = some d ∧ w.cell? ⟨B, 4, none⟩ = some e) ∧
    (w.frozen? ⟨B, 0, none⟩ = false ∧ w.frozen? ⟨B, 1, none⟩ = false ∧ w.frozen? ⟨B, 2, none⟩ = false ∧ w.frozen? ⟨B, 3, none⟩ = false ∧ w.frozen? ⟨B, 4, none⟩ = false) :=
  ⟨⟨r.cell (i := 0) (by omega), r.cell (i := 1) (by omega), r.cell (i := 2) (by omega), r.cell (i := 3) (by omega), r.cell (i := 4) (by omega)⟩, r.frozen 0, r.frozen 1, r.frozen 2, r.frozen 3, r.frozen 4⟩
abbrev recV (l e a b s : Int) : Value := .agg #[.int .i64 l, .int .i64 e, .int .i64 a, .int .i64 b, .int .i64 s]
abbrev z5 : Array Value := #[.int .i64 0, .int .i64 0, .int .i64 0, .int .i64 0, .int .i64 0]
set_option maxHeartbeats 1600000 in
theorem recordOf_yes (e a b : Int) (w : World) (h : slotOK e a b) : Calls Try.prog 106 #[slotV e a b] w fun r w' => r = .returned (.tuple #[recV (e % 2) e a b (sumOf e a b), .bool true]) ∧ Blw w w' := by
  have H : Hid (slotOK e a b) := h
  clear h
  go_enter Try.func106, Try.ntmps106
  go_wp2_with fail
  have hb0 : Blw w ((w.alloc (.cells #[.int .i64 e, .int .i64 a, .int .i64 b] 56)).alloc (.cells z5 120)) := ((Blw.refl _).alloc _).alloc _
  have rA := (box3 w (.int .i64 e) (.int .i64 a) (.int .i64 b) 56).blw ((Blw.refl _).alloc (.cells z5 120))
  have rR := box5 (w.alloc (.cells #[.int .i64 e, .int .i64 a, .int .i64 b] 56)) (.int .i64 0) (.int .i64 0) (.int .i64 0) (.int .i64 0) (.int .i64 0) 120
  rw [World.size_alloc] at rR
  refine (isSlot_yes e a b _ H.out).mono ?_
  rintro r w1 ⟨rfl, hb1⟩
  obtain ⟨p0, p1, p2⟩ := get3 (rA.blw hb1)
  obtain ⟨⟨x0, x1, x2, x3, x4⟩, f0, f1, f2, f3, f4⟩ := get5 (rR.blw hb1)
  replace hb1 := hb0.trans hb1
  clear hb0 rA rR
  go_wp2_with fail
  refine (implLine_any e _).mono ?_
  rintro r w1 ⟨rfl, rfl⟩
  obtain ⟨⟨e1, e2⟩, ⟨a1, a2⟩, b1, b2⟩ := H.out
  clear H
  rw [slOut, if_pos ⟨e1, e2⟩]
  go_wp2
  exact bodyPost_ret (v := .tuple #[recV (e % 2) e a b (sumOf e a b), .bool true]) (by simp [results, Try.results106, go_sem, x0, x1, x2, x3, x4, sumOf]) rfl ⟨rfl, ((((hb1.setCell (Nat.le_succ _) _).setCell (Nat.le_succ _) _).setCell (Nat.le_succ _) _).setCell (Nat.le_succ _) _).setCell (Nat.le_succ _) _⟩
set_option maxHeartbeats 1600000 in
theorem recordOf_no (e a b : Int) (w : World) (h : ¬ slotOK e a b) : Calls Try.prog 106 #[slotV e a b] w fun r w' => r = .returned (.tuple #[.agg z5, .bool false]) ∧ Blw w w' := by
  have H : Hid (¬ slotOK e a b) := h
  clear h
  go_enter Try.func106, Try.ntmps106
  go_wp2_with fail
  have hb0 : Blw w ((w.alloc (.cells #[.int .i64 e, .int .i64 a, .int .i64 b] 56)).alloc (.cells z5 120)) := ((Blw.refl _).alloc _).alloc _
  have rR := box5 (w.alloc (.cells #[.int .i64 e, .int .i64 a, .int .i64 b] 56)) (.int .i64 0) (.int .i64 0) (.int .i64 0) (.int .i64 0) (.int .i64 0) 120
  rw [World.size_alloc] at rR
  refine (isSlot_no e a b _ H.out).mono ?_
  rintro r w1 ⟨rfl, hb1⟩
  obtain ⟨⟨x0, x1, x2, x3, x4⟩, f0, f1, f2, f3, f4⟩ := get5 (rR.blw hb1)
  replace hb1 := hb0.trans hb1
  clear hb0 rR
  go_wp2
  exact bodyPost_ret (v := .tuple #[.agg z5, .bool false]) (by simp [results, Try.results106, go_sem, x0, x1, x2, x3, x4]) rfl ⟨rfl, ((((hb1.setCell (Nat.le_succ _) _).setCell (Nat.le_succ _) _).setCell (Nat.le_succ _) _).setCell (Nat.le_succ _) _).setCell (Nat.le_succ _) _⟩
/-- What SlotSum answers. -/
def ssOut (e a b : Int) (r : Ending) : Prop := (slotOK e a b ∧ r = .returned (.tuple #[.int .i64 (sumOf e a b), .bool true])) ∨ (¬ slotOK e a b ∧ r = .returned (.tuple #[.int .i64 0, .bool false]))
theorem ssOut_same {e a b : Int} {r s : Ending} (h : ssOut e a b r) (k : ssOut e a b s) : r = s := by
  rcases h with ⟨g, rfl⟩ | ⟨g, rfl⟩ <;> rcases k with ⟨g', rfl⟩ | ⟨g', rfl⟩
  · rfl
  · exact absurd g g'
  · exact absurd g' g
  · rfl
set_option maxHeartbeats 1600000 in
theorem implSum_any (e a b : Int) (w : World) : Calls Try.prog 59 #[slotV e a b] w fun r w' => ssOut e a b r ∧ Blw w w' := by
  go_enter Try.func59, Try.ntmps59
  go_wp2_with fail
  have hb0 : Blw w (w.alloc (.cells #[.int .i64 e, .int .i64 a, .int .i64 b] 56)) := (Blw.refl _).alloc _
  by_cases h : slotOK e a b
  · have H : Hid (slotOK e a b) := h
    refine (recordOf_yes e a b _ h).mono ?_
    rintro r w1 ⟨rfl, hb1⟩
    clear h
    replace hb1 := (hb0.trans hb1).alloc (.cells #[.int .i64 (e % 2), .int .i64 e, .int .i64 a, .int .i64 b, .int .i64 (sumOf e a b)] 120)
    go_wp2
    go_ret2
    exact ⟨Or.inl ⟨H.out, rfl⟩, hb1⟩
  · have H : Hid (¬ slotOK e a b) := h
    refine (recordOf_no e a b _ h).mono ?_
    rintro r w1 ⟨rfl, hb1⟩
    clear h
    replace hb1 := (hb0.trans hb1).alloc (.cells z5 120)
    go_wp2
    go_ret2
    exact ⟨Or.inr ⟨H.out, rfl⟩, hb1⟩
set_option maxHeartbeats 1600000 in
theorem l2Sum_any (e a b : Int) (w : World) (h : slotOK e a b) : Calls Try.prog 109 #[slotV e a b] w fun r w' => r = .returned (.int .i64 (sumOf e a b)) ∧ Blw w w' := by
  obtain ⟨⟨e1, e2⟩, ⟨a1, a2⟩, b1, b2⟩ := h
  have hb0 : Blw w (w.alloc (.cells #[.int .i64 e, .int .i64 a, .int .i64 b] 56)) := (Blw.refl _).alloc _
  go_enter Try.func109, Try.ntmps109
  go_wp2
  go_ret
  exact ⟨by simp [sumOf, Int.mul_comm], hb0⟩
set_option maxHeartbeats 1600000 in
theorem specSum_any (e a b : Int) (w : World) : Calls Try.prog 60 #[slotV e a b] w fun r w' => ssOut e a b r ∧ Blw w w' := by
  go_enter Try.func60, Try.ntmps60
  go_wp2_with fail
  have hb0 : Blw w (w.alloc (.cells #[.int .i64 e, .int .i64 a, .int .i64 b] 56)) := (Blw.refl _).alloc _
  have rA := box3 w (.int .i64 e) (.int .i64 a) (.int .i64 b) 56
  by_cases h : slotOK e a b
  · have H : Hid (slotOK e a b) := h
    refine (l2Slot_yes e a b _ h).mono ?_
    rintro r w1 ⟨rfl, hb1⟩
    obtain ⟨p0, p1, p2⟩ := get3 (rA.blw hb1)
    replace hb1 := hb0.trans hb1
    clear h rA hb0
    go_wp2_with fail
    refine (l2Sum_any e a b _ H.out).mono ?_
    rintro r w2 ⟨rfl, hb2⟩
    replace hb2 := hb1.trans hb2
    go_wp2
    go_ret2
    exact ⟨Or.inl ⟨H.out, rfl⟩, hb2⟩
  · have H : Hid (¬ slotOK e a b) := h
    refine (l2Slot_no e a b _ h).mono ?_
    rintro r w1 ⟨rfl, hb1⟩
    replace hb1 := hb0.trans hb1
    clear h rA hb0
    go_wp2
    go_ret2
    exact ⟨Or.inr ⟨H.out, rfl⟩, hb1⟩
set_option maxHeartbeats 1600000 in
theorem toSlot_any (e a b : Int) (w : World) : Calls Try.prog 64 #[slotV e a b] w fun r w' => r = .returned (slotV e a b) ∧ Blw w w' := by
  go_enter Try.func64, Try.ntmps64
  go_wp2
  exact bodyPost_ret (v := slotV e a b) (by simp [results, Try.results64, go_sem]) rfl ⟨rfl, (((Blw.refl _).alloc _).alloc _).alloc _⟩
end Go.Proofs.Ytnbcjdoohmjghaa
