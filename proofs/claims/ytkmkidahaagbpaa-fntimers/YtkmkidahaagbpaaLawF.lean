/- What stands in a law: facts that no other block's change turns. -/
import Derived.Test.YtkmkidahaagbpaaUndo
namespace Go.Proofs.Ytkmkidahaagbpaa
open Go.RowKit
set_option linter.unusedSimpArgs false
set_option linter.unusedVariables false
/-- P holds of W, and of every world that differs from it in blocks outside X alone. -/
def St (X : Nat → Prop) (P : World → Prop) (W : World) : Prop := (∀ b, X b → b < W.heap.size) ∧ ∀ Z w', Mod Z W w' → (∀ b, X b → ¬ Z b) → P w'
theorem St.out {X : Nat → Prop} {P : World → Prop} {W : World} (h : St X P W) : P W := h.2 (fun _ => False) W (Mod.refl _ _) (fun _ _ => id)
theorem St.mod {X Z : Nat → Prop} {P : World → Prop} {W W' : World} (h : St X P W) (hm : Mod Z W W') (hx : ∀ b, X b → ¬ Z b) : St X P W' :=
  ⟨fun b hb => Nat.lt_of_lt_of_le (h.1 b hb) hm.size, fun Z' w' hm' hx' => h.2 (fun b => Z b ∨ Z' b) w' ((hm.mono (fun _ => Or.inl)).trans (hm'.mono (fun _ => Or.inr))) (fun b hb hz => hz.elim (hx b hb) (hx' b hb))⟩
theorem St.blw {X : Nat → Prop} {P : World → Prop} {W W' : World} (h : St X P W) (hb : Blw W W') : St X P W' := h.mod (hb.mod (fun _ => False)) (fun _ _ => id)
theorem St.mono {X Y : Nat → Prop} {P : World → Prop} {W : World} (h : St X P W) (hxy : ∀ b, X b → Y b) (hY : ∀ b, Y b → b < W.heap.size) : St Y P W :=
  ⟨hY, fun Z w' hm hx => h.2 Z w' hm (fun b hb => hx b (hxy b hb))⟩
/-- A law's argument: below a; the model's answer: below b; the argument's copy: below c; the program's answer: below d. -/
structure LawF (w W : World) (a b c d : Nat) (P1 P3 P4 P5 : World → Prop) : Prop where
  hB : Blw w W
  p1 : St (fun x => x < a) P1 W
  p3 : St (fun x => x < b) P3 W
  p4 : St (fun x => b ≤ x ∧ x < c) P4 W
  p5 : St (fun x => c ≤ x ∧ x < d) P5 W
  o : w.heap.size ≤ a ∧ a ≤ b ∧ b ≤ c ∧ c ≤ d ∧ d ≤ W.heap.size
theorem LawF.blw {w W W' : World} {a b c d : Nat} {P1 P3 P4 P5 : World → Prop} (S : LawF w W a b c d P1 P3 P4 P5) (hb : Blw W W') : LawF w W' a b c d P1 P3 P4 P5 := by
  have o := S.o
  have := hb.size
  exact ⟨S.hB.trans hb, S.p1.blw hb, S.p3.blw hb, S.p4.blw hb, S.p5.blw hb, by omega⟩
theorem LawF.mark4 {w W W' : World} {a b c d : Nat} {P1 P3 P4 P4' P5 : World → Prop} (S : LawF w W a b c d P1 P3 P4 P5) {X : Nat → Prop} (hm : Mod X W W') (hX : ∀ x, X x → b ≤ x ∧ x < c) (h4 : St (fun x => b ≤ x ∧ x < c) P4' W') : LawF w W' a b c d P1 P3 P4' P5 := by
  have o := S.o
  have := hm.size
  exact ⟨Mod.blw S.hB hm (fun i hi => by have := hX i hi; omega), S.p1.mod hm (fun x hx h => by have := hX x h; omega), S.p3.mod hm (fun x hx h => by have := hX x h; omega), h4, S.p5.mod hm (fun x hx h => by have := hX x h; omega), by omega⟩
theorem LawF.mark5 {w W W' : World} {a b c d : Nat} {P1 P3 P4 P5 P5' : World → Prop} (S : LawF w W a b c d P1 P3 P4 P5) {X : Nat → Prop} (hm : Mod X W W') (hX : ∀ x, X x → c ≤ x ∧ x < d) (h5 : St (fun x => c ≤ x ∧ x < d) P5' W') : LawF w W' a b c d P1 P3 P4 P5' := by
  have o := S.o
  have := hm.size
  exact ⟨Mod.blw S.hB hm (fun i hi => by have := hX i hi; omega), S.p1.mod hm (fun x hx h => by have := hX x h; omega), S.p3.mod hm (fun x hx h => by have := hX x h; omega), S.p4.mod hm (fun x hx h => by have := hX x h; omega), h5, by omega⟩
end Go.Proofs.Ytkmkidahaagbpaa
