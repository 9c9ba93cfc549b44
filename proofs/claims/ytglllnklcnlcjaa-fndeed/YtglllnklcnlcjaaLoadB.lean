/- 'impl.LoadAll'. -/
import Derived.Test.YtglllnklcnlcjaaLoadA
namespace Go.Proofs.Ytglllnklcnlcjaa
open Go.RowKit
set_option linter.unusedSimpArgs false
theorem held_facts' {w w1 wz : World} {cs : Array Value} {f g : Nat → Value} {o : Obj} (hb1 : Blw w w1) (q1 : Row wz w1.heap.size 108 (fun i => if 0 ≤ i ∧ i < 0 + cs.size then g (i - 0) else f i)) (q2 : Mod (fun x => x = w1.heap.size) (w1.alloc o) wz) (z1 : cs.size = 108) :
    Row wz w1.heap.size 108 g ∧ Blw w wz :=
  have h0 : Blw w1 (w1.alloc o) := (Blw.refl _).alloc _
  ⟨held_row q1 z1, Mod.blw (hb1.trans h0) q2 (fun i hi => by have := hb1.size; omega)⟩
end Go.Proofs.Ytglllnklcnlcjaa
