/- 'impl.GoodMemory', and the law on it. -/
import Derived.Test.YtchfkflidlgbpaaHoldM
import Derived.Test.YtchfkflidlgbpaaGoodS
import Derived.Test.YtchfkflidlgbpaaTo
import Derived.Test.YtchfkflidlgbpaaEq
namespace Go.Proofs.Ytchfkflidlgbpaa
open Go.RowKit
set_option linter.unusedSimpArgs false
set_option maxRecDepth 10000 in
set_option maxHeartbeats 1600000 in
theorem goodI_any (m : MV) (M : MD) (Y : Nat → Prop) (w : World) (h : MemAt Y w m M) :
    Calls Try.prog 18 #[m.val M] w fun e w' => ∃ b, e = .returned (.bool b) ∧ (b = true ↔ M.Good) ∧ Blw w w' := by
  go_enter Try.func18, Try.ntmps18
  go_wp2_with fail
  have hb0 : Blw w (w.alloc (.cells #[.slice m.a1 M.n1 m.c1, .slice m.a2 M.n2 m.c2, .slice m.a3 M.n3 m.c3] 26)) := (Blw.refl _).alloc _
  refine (holdMemory_any m M Y _ (h.blw hb0)).mono ?_
  rintro e w1 ⟨hr, hb1⟩
  replace hb1 := hb0.trans hb1
  have r79 := row79 w1
  rcases hr with ⟨good, cs, z1, z2, rfl⟩ | ⟨bad, rfl⟩
  · have hi : (Try.prog.info? 79).map (·.size) = some cs.size := by rw [z1]; exact info79
    have one := one_cells' z1 z2
    have GD : Hid M.Good := good
    clear good hb0
    go_wp2_with (refine wpList_store_row rfl 79 (.tmp 3) (.tmp 8) rfl w1.heap.size 0 cs rfl rfl 108 _ (hcell M.v1 M.v2 M.d) r79 (by omega) hi one (fun j hj => z2 j (by omega)) ?_; intro wz qz1 qz2 qz3)
    go_ret
    exact ⟨true, rfl, ⟨fun _ => GD.out, fun _ => rfl⟩, Mod.blw (hb1.alloc _) (by assumption) (fun i hi => by have := hb1.size; omega)⟩
  · have GD : Hid (¬ M.Good) := bad
    clear bad hb0
    go_wp2_with (refine wpList_store_row rfl 79 (.tmp 3) (.tmp 8) rfl w1.heap.size 0 Try.zeroCells79 rfl rfl 108 _ (hcell zeros zeros (fun _ => false)) r79 (by rw [size79]; omega) (by rw [size79]; exact info79) one79 cell79 ?_; intro wz qz1 qz2 qz3)
    go_ret
    exact ⟨false, rfl, ⟨fun h => absurd h (by decide), fun g => absurd g GD.out⟩, Mod.blw (hb1.alloc _) (by assumption) (fun i hi => by have := hb1.size; omega)⟩
theorem box3_all {w : World} {B : Nat} {a b c : Value} (r : Row w B 3 (fun i => if i = 0 then a else if i = 1 then b else c)) :
    (∀ w', Blw w w' → w'.cell? ⟨B, 0, none⟩ = some a) ∧ (∀ w', Blw w w' → w'.cell? ⟨B, 1, none⟩ = some b) ∧ (∀ w', Blw w w' → w'.cell? ⟨B, 2, none⟩ = some c) :=
  ⟨fun _ h => (get3 (r.blw h)).1, fun _ h => (get3 (r.blw h)).2.1, fun _ h => (get3 (r.blw h)).2.2⟩
set_option maxHeartbeats 3200000 in
theorem lawGood_any (m : MV) (M : MD) (Y : Nat → Prop) (w : World) (h : MemAt Y w m M) :
    Calls Try.prog 6 #[m.val M] w fun e w' => e = .returned (.bool true) ∧ Blw w w' := by
  go_enter Try.func6, Try.ntmps6
  go_wp2_with fail
  have hb0 : Blw w (w.alloc (.cells #[.slice m.a1 M.n1 m.c1, .slice m.a2 M.n2 m.c2, .slice m.a3 M.n3 m.c3] 59)) := (Blw.refl _).alloc _
  have rA := box3 w (.slice m.a1 M.n1 m.c1) (.slice m.a2 M.n2 m.c2) (.slice m.a3 M.n3 m.c3) 59
  refine (szMemory_any m M Y _ _ (by omega) (by omega) (h.blw hb0)).mono ?_
  rintro e w1 ⟨r, rfl, hr, hb1⟩
  replace rA := rA.blw hb1
  replace hb1 := hb0.trans hb1
  replace h := h.blw hb1
  clear hb0
  rcases hr with rfl | ⟨q0, q1⟩
  · clear rA
    go_wp2
    go_ret
    exact ⟨rfl, hb1⟩
  have hS : M.Small := small_of (by omega)
  have HS : Hid M.Small := hS
  obtain ⟨p0, p1, p2⟩ := get3 rA
  clear q1 hS
  go_wp2_with fail
  clear p0 p1 p2
  refine (toMemory_any m M Y _ HS.out h).mono ?_
  rintro e w2 ⟨m2, rfl, o2, hb2⟩
  replace rA := rA.blw hb2
  replace h := h.blw hb2
  replace hb2 := hb1.trans hb2
  clear hb1
  go_wp2_with fail
  refine (goodS_any m2 M _ _ o2.at).mono ?_
  rintro e w3 ⟨bs, rfl, hbs, hb3⟩
  replace rA := rA.blw hb3
  replace h := h.blw hb3
  replace hb3 := hb2.trans hb3
  clear hb2 o2
  obtain ⟨p0, p1, p2⟩ := get3 rA
  have HBS : Hid (bs = true ↔ M.Good) := hbs
  clear hbs
  go_wp2_with fail
  clear p0 p1 p2
  refine (toMemory_any m M Y _ HS.out h).mono ?_
  rintro e w4 ⟨m4, rfl, o4, hb4⟩
  replace rA := rA.blw hb4
  replace h := h.blw hb4
  replace hb4 := hb3.trans hb4
  clear hb3
  go_wp2_with fail
  have hA : Blw w4 (w4.alloc (.cells #[.slice m4.a1 M.n1 m4.c1, .slice m4.a2 M.n2 m4.c2, .slice m4.a3 M.n3 m4.c3] 26)) := (Blw.refl _).alloc _
  have rX := box3 w4 (.slice m4.a1 M.n1 m4.c1) (.slice m4.a2 M.n2 m4.c2) (.slice m4.a3 M.n3 m4.c3) 26
  refine (goodI_any m4 M _ _ (o4.at.blw hA)).mono ?_
  rintro e w5 ⟨bi, rfl, hbi, hb5⟩
  replace rX := rX.blw hb5
  replace hb5 := hA.trans hb5
  have a4 := o4.at.blw hb5
  replace rA := rA.blw hb5
  replace h := h.blw hb5
  replace hb5 := hb4.trans hb5
  clear hA hb4 o4
  obtain rfl : bi = bs := by
    have e1 := hbi.trans HBS.out.symm
    cases bi <;> cases bs <;> simp_all
  clear hbi HBS
  have hne : (bi != bi) = false := by simp
  go_wp2
  obtain ⟨A0, A1, A2⟩ := box3_all rA
  obtain ⟨B0, B1, B2⟩ := box3_all rX
  have H5 : Hid (∀ w', Blw w5 w' → MemAt Y w' m M) := fun w' hb => h.blw hb
  have X5 : Hid (∀ w', Blw w5 w' → MemAt _ w' m4 M) := fun w' hb => a4.blw hb
  clear rA rX h a4
  go_region_held3 (fun w' => Blw w5 w') ((first | exact (Blw.refl _).drew | assumption | exact Blw.trans (by assumption) (by assumption))) (first
    | (go_at_call 46; refine (toMemory_any m M Y _ HS.out (H5.out _ (by assumption))).mono ?_; rintro e w6 ⟨m6, rfl, o6, hb6⟩)
    | (go_at_call 42; refine (eqMemory_same m4 m6 M _ (X5.out _ (by assumption)) o6.at).mono ?_; rintro e w7 ⟨rfl, hb7⟩))
  all_goals go_wp2
  all_goals go_ret
  all_goals exact ⟨rfl, hb5.trans (by assumption)⟩
end Go.Proofs.Ytchfkflidlgbpaa
