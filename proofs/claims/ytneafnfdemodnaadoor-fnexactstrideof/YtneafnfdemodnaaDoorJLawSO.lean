/- The law on StrideOf. -/
import Derived.Test.YtneafnfdemodnaaDoorJoin2
namespace Go.Proofs.YtneafnfdemodnaaDoor
open Go.RowKit
set_option linter.unusedSimpArgs false
set_option linter.unusedVariables false
set_option maxRecDepth 10000 in
set_option maxHeartbeats 6400000 in
theorem lawSO (k : Int) (w : World) (hT : Tb w) : Calls Tryd.prog 8 #[.int .i64 k] w fun e w' => e = .returned (.bool true) ∧ Blw w w' := by
  have HB : Hid (Blw w w) := Blw.refl w
  have HT : Hid (Tb w) := hT
  clear hT
  go_enter Tryd.func8, Tryd.ntmps8
  go_wp2_with fail
  refine (specStride9_any k _).mono ?_
  rintro e w1 ⟨x3, b3, rfl, ho, hb⟩
  have HO3 : Hid (soOut k x3 b3) := ho
  replace HB : Hid (Blw w w1) := HB.out.trans hb
  clear hb ho
  have HN0 : Hid (w.heap.size ≤ w1.heap.size) := HB.out.size
  go_wp2_with fail
  refine (implStride9_any k _ (HT.out.blw HB.out)).mono ?_
  rintro e w2 ⟨x5, b5, rfl, ho, hb⟩
  obtain ⟨ex, eb⟩ := soOut_same ho HO3.out
  subst ex eb
  have hz := hb.size
  have HN1 : Hid (w1.heap.size ≤ w1.heap.size ∧ w1.heap.size ≤ w2.heap.size) := by have hbo := HB.out.size; have o0 := HN0.out; exact ⟨by omega, by omega⟩
  replace HB : Hid (Blw w w2) := HB.out.trans hb
  clear hb ho hz
  have hnx : (x5 != x5) = false := by simp
  have hne : (b5 != b5) = false := by simp
  go_wp2
  go_ret
  exact ⟨rfl, HB.out⟩
end Go.Proofs.YtneafnfdemodnaaDoor
