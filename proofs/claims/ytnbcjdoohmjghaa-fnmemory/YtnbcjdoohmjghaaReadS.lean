/- A slot in a line: 'impl.slotIn'. -/
import Derived.Test.YtnbcjdoohmjghaaLawG
namespace Go.Proofs.Ytnbcjdoohmjghaa
open Go.RowKit
set_option linter.unusedSimpArgs false
set_option linter.unusedVariables false
/-- The words f are the record of a slot of line k. -/
def recI (f : Nat → Int) (k : Nat) : Prop := slotOK (f 0) (f 1) (f 2) ∧ f 0 % 2 = k ∧ sumOf (f 0) (f 1) (f 2) = f 3
theorem get5a {w : World} {B : Nat} {a b c d e : Value} (r : Row w B 5 (fun i => if i = 0 then a else if i = 1 then b else if i = 2 then c else if i = 3 then d else e)) (o : Obj) :
    (w.alloc o).cell? ⟨B, 0, none⟩ = some a ∧ (w.alloc o).cell? ⟨B, 1, none⟩ = some b ∧ (w.alloc o).cell? ⟨B, 2, none⟩ = some c ∧ (w.alloc o).cell? ⟨B, 3, none⟩ = some d ∧ (w.alloc o).cell? ⟨B, 4, none⟩ = some e :=
  (get5 (r.blw ((Blw.refl _).alloc o))).1
abbrev inW (w : World) (k : Int) (f : Nat → Int) : World := ((w.alloc (.cells (four f) 94)).alloc (.cells #[.int .i64 0, .int .i64 0, .int .i64 0] 56)).alloc (.cells #[.int .i64 k, .int .i64 (f 0), .int .i64 (f 1), .int .i64 (f 2), .int .i64 (f 3)] 120)
theorem in_boxes (w : World) (k : Int) (f : Nat → Int) : Blw w (inW w k f) ∧ Row (inW w k f) (w.heap.size + 1) 3 (fun i => if i = 0 then Value.int .i64 0 else if i = 1 then .int .i64 0 else .int .i64 0) ∧ Row (inW w k f) (w.heap.size + 1 + 1) 5 (fun i => if i = 0 then Value.int .i64 k else if i = 1 then .int .i64 (f 0) else if i = 2 then .int .i64 (f 1) else if i = 3 then .int .i64 (f 2) else .int .i64 (f 3)) := by
  refine ⟨(((Blw.refl _).alloc _).alloc _).alloc _, ?_, ?_⟩
  · have := (box3 (w.alloc (.cells (four f) 94)) (.int .i64 0) (.int .i64 0) (.int .i64 0) 56).blw ((Blw.refl _).alloc (.cells #[.int .i64 k, .int .i64 (f 0), .int .i64 (f 1), .int .i64 (f 2), .int .i64 (f 3)] 120))
    rw [World.size_alloc] at this
    exact this
  · have := box5 ((w.alloc (.cells (four f) 94)).alloc (.cells #[.int .i64 0, .int .i64 0, .int .i64 0] 56)) (.int .i64 k) (.int .i64 (f 0)) (.int .i64 (f 1)) (.int .i64 (f 2)) (.int .i64 (f 3)) 120
    rw [World.size_alloc, World.size_alloc] at this
    exact this
set_option maxHeartbeats 1600000 in
theorem slotIn_ok (k : Nat) (f : Nat → Int) (w : World) (hk : k < 2) (h : slotOK (f 0) (f 1) (f 2)) : Calls Try.prog 110 #[.int .i64 k, .agg (four f)] w fun r w' => ((recI f k ∧ r = .returned (.tuple #[slotV (f 0) (f 1) (f 2), .bool true])) ∨ (¬ recI f k ∧ r = .returned (.tuple #[slotV 0 0 0, .bool false]))) ∧ Blw w w' := by
  have H : Hid (slotOK (f 0) (f 1) (f 2)) := h
  clear h
  obtain ⟨hb0, rR, rX⟩ := in_boxes w k f
  go_enter Try.func110, Try.ntmps110
  go_wp2_with fail
  refine (recordOf_yes _ _ _ _ H.out).mono ?_
  rintro r w1 ⟨rfl, hb1⟩
  replace rX := rX.blw hb1
  replace rR := rR.blw hb1
  replace hb1 := hb0.trans hb1
  have pX := get5a rX
  have xX := fun o => get3 (rR.blw ((Blw.refl w1).alloc o))
  have f0 := fun o => (rR.blw ((Blw.refl w1).alloc o)).frozen 0
  have f1 := fun o => (rR.blw ((Blw.refl w1).alloc o)).frozen 1
  have f2 := fun o => (rR.blw ((Blw.refl w1).alloc o)).frozen 2
  clear hb0 rR rX
  by_cases h1 : (k : Int) = f 0 % 2
  · by_cases h2 : f 3 = sumOf (f 0) (f 1) (f 2)
    · go_wp2
      exact bodyPost_ret (v := .tuple #[slotV (f 0) (f 1) (f 2), .bool true]) (by simp [results, Try.results110, go_sem, xX]) rfl ⟨Or.inl ⟨⟨H.out, h1.symm, h2.symm⟩, rfl⟩, (((hb1.alloc _).setCell (Nat.le_succ _) _).setCell (Nat.le_succ _) _).setCell (Nat.le_succ _) _⟩
    · go_wp2
      exact bodyPost_ret (v := .tuple #[slotV 0 0 0, .bool false]) (by simp [results, Try.results110, go_sem, xX]) rfl ⟨Or.inr ⟨fun g => h2 g.2.2.symm, rfl⟩, (((hb1.alloc _).setCell (Nat.le_succ _) _).setCell (Nat.le_succ _) _).setCell (Nat.le_succ _) _⟩
  · go_wp2
    exact bodyPost_ret (v := .tuple #[slotV 0 0 0, .bool false]) (by simp [results, Try.results110, go_sem, xX]) rfl ⟨Or.inr ⟨fun g => h1 g.2.1.symm, rfl⟩, (((hb1.alloc _).setCell (Nat.le_succ _) _).setCell (Nat.le_succ _) _).setCell (Nat.le_succ _) _⟩
set_option maxHeartbeats 1600000 in
theorem slotIn_no (k : Nat) (f : Nat → Int) (w : World) (h : ¬ slotOK (f 0) (f 1) (f 2)) : Calls Try.prog 110 #[.int .i64 k, .agg (four f)] w fun r w' => r = .returned (.tuple #[slotV 0 0 0, .bool false]) ∧ Blw w w' := by
  have H : Hid (¬ slotOK (f 0) (f 1) (f 2)) := h
  clear h
  obtain ⟨hb0, rR, rX⟩ := in_boxes w k f
  go_enter Try.func110, Try.ntmps110
  go_wp2_with fail
  refine (recordOf_no _ _ _ _ H.out).mono ?_
  rintro r w1 ⟨rfl, hb1⟩
  replace rR := rR.blw hb1
  replace hb1 := hb0.trans hb1
  have xX := fun o => get3 (rR.blw ((Blw.refl w1).alloc o))
  have f0 := fun o => (rR.blw ((Blw.refl w1).alloc o)).frozen 0
  have f1 := fun o => (rR.blw ((Blw.refl w1).alloc o)).frozen 1
  have f2 := fun o => (rR.blw ((Blw.refl w1).alloc o)).frozen 2
  clear hb0 rR rX
  go_wp2
  exact bodyPost_ret (v := .tuple #[slotV 0 0 0, .bool false]) (by simp [results, Try.results110, go_sem, xX]) rfl ⟨rfl, (((hb1.alloc _).setCell (Nat.le_succ _) _).setCell (Nat.le_succ _) _).setCell (Nat.le_succ _) _⟩
theorem slotIn_any (k : Nat) (f : Nat → Int) (w : World) (hk : k < 2) : Calls Try.prog 110 #[.int .i64 k, .agg (four f)] w fun r w' => ((recI f k ∧ r = .returned (.tuple #[slotV (f 0) (f 1) (f 2), .bool true])) ∨ (¬ recI f k ∧ r = .returned (.tuple #[slotV 0 0 0, .bool false]))) ∧ Blw w w' := by
  by_cases h : slotOK (f 0) (f 1) (f 2)
  · exact slotIn_ok k f w hk h
  · exact (slotIn_no k f w h).mono fun r w' hh => ⟨Or.inr ⟨fun g => h g.1, hh.1⟩, hh.2⟩
end Go.Proofs.Ytnbcjdoohmjghaa
