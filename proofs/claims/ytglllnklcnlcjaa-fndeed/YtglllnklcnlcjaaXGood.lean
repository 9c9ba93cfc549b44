/- 'impl.GoodMemory', and the law on it. -/
import Derived.Test.YtglllnklcnlcjaaHoldM
import Derived.Test.YtglllnklcnlcjaaGoodS
import Derived.Test.YtglllnklcnlcjaaTo
import Derived.Test.YtglllnklcnlcjaaEq
namespace Go.Proofs.Ytglllnklcnlcjaa
open Go.RowKit
set_option linter.unusedSimpArgs false
set_option maxRecDepth 10000 in
set_option maxHeartbeats 1600000 in
theorem goodI_any (m : MV) (M : MD) (Y : Nat → Prop) (w : World) (h : MemAt Y w m M) :
    Calls Try.prog 29 #[m.val M] w fun e w' => ∃ b, e = .returned (.bool b) ∧ (b = true ↔ M.Good) ∧ Blw w w' := by
  go_enter Try.func29, Try.ntmps29
  go_wp2_with fail
  have hb0 : Blw w (w.alloc (.cells #[.slice m.a1 M.n1 m.c1, .slice m.a2 M.n2 m.c2, .slice m.a3 M.n3 m.c3] 26)) := (Blw.refl _).alloc _
  refine (holdMemory_any m M Y _ (h.blw hb0)).mono ?_
  rintro e w1 ⟨hr, hb1⟩
  replace hb1 := hb0.trans hb1
  have r79 := row79 w1
  rcases hr with ⟨good, cs, z1, z2, rfl⟩ | ⟨bad, rfl⟩
  · have hi : (Try.prog.info? 91).map (·.size) = some cs.size := by rw [z1]; exact info79
    have one := one_cells' z1 z2
    have GD : Hid M.Good := good
    clear good hb0
    go_wp2_with (refine wpList_store_row rfl 91 (.tmp 3) (.tmp 8) rfl w1.heap.size 0 cs rfl rfl 108 _ (hcell M.v1 M.v2 M.d) r79 (by omega) hi one (fun j hj => z2 j (by omega)) ?_; intro wz qz1 qz2 qz3)
    go_ret
    exact ⟨true, rfl, ⟨fun _ => GD.out, fun _ => rfl⟩, Mod.blw (hb1.alloc _) (by assumption) (fun i hi => by have := hb1.size; omega)⟩
  · have GD : Hid (¬ M.Good) := bad
    clear bad hb0
    go_wp2_with (refine wpList_store_row rfl 91 (.tmp 3) (.tmp 8) rfl w1.heap.size 0 Try.zeroCells91 rfl rfl 108 _ (hcell zeros zeros (fun _ => false)) r79 (by rw [size79]; omega) (by rw [size79]; exact info79) one79 cell79 ?_; intro wz qz1 qz2 qz3)
    go_ret
    exact ⟨false, rfl, ⟨fun h => absurd h (by decide), fun g => absurd g GD.out⟩, Mod.blw (hb1.alloc _) (by assumption) (fun i hi => by have := hb1.size; omega)⟩
theorem box3_all {w : World} {B : Nat} {a b c : Value} (r : Row w B 3 (fun i => if i = 0 then a else if i = 1 then b else c)) :
    (∀ w', Blw w w' → w'.cell? ⟨B, 0, none⟩ = some a) ∧ (∀ w', Blw w w' → w'.cell? ⟨B, 1, none⟩ = some b) ∧ (∀ w', Blw w w' → w'.cell? ⟨B, 2, none⟩ = some c) :=
  ⟨fun _ h => (get3 (r.blw h)).1, fun _ h => (get3 (r.blw h)).2.1, fun _ h => (get3 (r.blw h)).2.2⟩
end Go.Proofs.Ytglllnklcnlcjaa
