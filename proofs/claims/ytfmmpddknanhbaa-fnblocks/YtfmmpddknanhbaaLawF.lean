/- What stands in a law: facts that no other block's change turns. -/
import Derived.Test.YtfmmpddknanhbaaBookL
namespace Go.Proofs.Ytfmmpddknanhbaa
open Go.RowKit
set_option linter.unusedSimpArgs false
set_option linter.unusedVariables false
/-- P holds of W, and of every world that differs from it in blocks outside X alone. -/
def St (X : Nat → Prop) (P : World → Prop) (W : World) : Prop := (∀ b, X b → b < W.heap.size) ∧ ∀ Z w', Mod Z W w' → (∀ b, X b → ¬ Z b) → P w'
theorem St.out {X : Nat → Prop} {P : World → Prop} {W : World} (h : St X P W) : P W := h.2 (fun _ => False) W (Mod.refl _ _) (fun _ _ => id)
theorem St.mod {X Z : Nat → Prop} {P : World → Prop} {W W' : World} (h : St X P W) (hm : Mod Z W W') (hx : ∀ b, X b → ¬ Z b) : St X P W' :=
  ⟨fun b hb => Nat.lt_of_lt_of_le (h.1 b hb) hm.size, fun Z' w' hm' hx' => h.2 (fun b => Z b ∨ Z' b) w' ((hm.mono (fun _ => Or.inl)).trans (hm'.mono (fun _ => Or.inr))) (fun b hb hz => hz.elim (hx b hb) (hx' b hb))⟩
theorem St.blw {X : Nat → Prop} {P : World → Prop} {W W' : World} (h : St X P W) (hb : Blw W W') : St X P W' := h.mod (hb.mod (fun _ => False)) (fun _ _ => id)
theorem St.mono {X Y : Nat → Prop} {P : World → Prop} {W : World} (h : St X P W) (hxy : ∀ b, X b → Y b) (hY : ∀ b, Y b → b < W.heap.size) : St Y P W :=
  ⟨hY, fun Z w' hm hx => h.2 Z w' hm (fun b hb => hx b (hxy b hb))⟩
/-- A book in its own box at z, all in blocks of X. -/
structure BB (X : Nat → Prop) (z : Nat) (b : BV) (B B' : BD) (w : World) : Prop where
  own : BookOwn (fun x => X x ∧ x ≠ z) w b B'
  box : Row w z 2 (fun i => if i = 0 then .slice b.a1 B.n b.c1 else .slice b.a2 B.k b.c2)
theorem BB.st {X : Nat → Prop} {z : Nat} {b : BV} {B B' : BD} {w : World} (h : BB X z b B B' w) (hz : X z) (hX : ∀ b, X b → b < w.heap.size) : St X (BB X z b B B') w :=
  ⟨hX, fun Z w' hm hx => ⟨h.own.mod hm (fun b hb => hx b hb.1), h.box.mod hm (hx z hz)⟩⟩
/-- A law's argument: below a; the model's answer: below b; the argument's copy: below c; the program's answer: below d. -/
structure LawF (w W : World) (a b c d : Nat) (P1 P3 P4 P5 : World → Prop) : Prop where
  hB : Blw w W
  p1 : St (fun x => x < a) P1 W
  p3 : St (fun x => x < b) P3 W
  p4 : St (fun x => b ≤ x ∧ x < c) P4 W
  p5 : St (fun x => c ≤ x ∧ x < d) P5 W
  o : w.heap.size ≤ a ∧ a ≤ b ∧ b ≤ c ∧ c ≤ d ∧ d ≤ W.heap.size
theorem LawF.blw {w W W' : World} {a b c d : Nat} {P1 P3 P4 P5 : World → Prop} (S : LawF w W a b c d P1 P3 P4 P5) (hb : Blw W W') : LawF w W' a b c d P1 P3 P4 P5 := by
  have o := S.o
  have := hb.size
  exact ⟨S.hB.trans hb, S.p1.blw hb, S.p3.blw hb, S.p4.blw hb, S.p5.blw hb, by omega⟩
theorem LawF.mark4 {w W W' : World} {a b c d : Nat} {P1 P3 P4 P4' P5 : World → Prop} (S : LawF w W a b c d P1 P3 P4 P5) {X : Nat → Prop} (hm : Mod X W W') (hX : ∀ x, X x → b ≤ x ∧ x < c) (h4 : St (fun x => b ≤ x ∧ x < c) P4' W') : LawF w W' a b c d P1 P3 P4' P5 := by
  have o := S.o
  have := hm.size
  exact ⟨Mod.blw S.hB hm (fun i hi => by have := hX i hi; omega), S.p1.mod hm (fun x hx h => by have := hX x h; omega), S.p3.mod hm (fun x hx h => by have := hX x h; omega), h4, S.p5.mod hm (fun x hx h => by have := hX x h; omega), by omega⟩
theorem LawF.mark5 {w W W' : World} {a b c d : Nat} {P1 P3 P4 P5 P5' : World → Prop} (S : LawF w W a b c d P1 P3 P4 P5) {X : Nat → Prop} (hm : Mod X W W') (hX : ∀ x, X x → c ≤ x ∧ x < d) (h5 : St (fun x => c ≤ x ∧ x < d) P5' W') : LawF w W' a b c d P1 P3 P4 P5' := by
  have o := S.o
  have := hm.size
  exact ⟨Mod.blw S.hB hm (fun i hi => by have := hX i hi; omega), S.p1.mod hm (fun x hx h => by have := hX x h; omega), S.p3.mod hm (fun x hx h => by have := hX x h; omega), S.p4.mod hm (fun x hx h => by have := hX x h; omega), h5, by omega⟩
/-- The argument of a law on a book: it, and its box at z. -/
structure ArgB (n z : Nat) (b : BV) (B : BD) (w : World) : Prop where
  at_ : BookAt (fun x => x < n) w b B
  box : Row w z 2 (fun i => if i = 0 then .slice b.a1 B.n b.c1 else .slice b.a2 B.k b.c2)
theorem ArgB.st {n z a : Nat} {b : BV} {B : BD} {w : World} (h : ArgB n z b B w) (hn : n ≤ a) (hz : z < a) (ha : a ≤ w.heap.size) : St (fun x => x < a) (ArgB n z b B) w :=
  ⟨fun x hx => by omega, fun Z w' hm hx => ⟨h.at_.mod hm (fun b hb => hx b (by omega)), h.box.mod hm (hx z hz)⟩⟩
/-- What answers a book and a bool. -/
def GivesB (out : BD → Bool → Prop) (w : World) : Ending → World → Prop := fun e w' =>
  ∃ (b : BV) (R : BD) (r : Bool), e = .returned (.tuple #[b.val R, .bool r]) ∧ out R r ∧ R.n + R.k ≤ 1048576 ∧ BookOwn (fun x => w.heap.size ≤ x ∧ x < w'.heap.size) w' b R ∧ Blw w w'
def GivesI (out : Nat → (Nat → Int) → Bool → Prop) (w : World) : Ending → World → Prop := fun e w' =>
  ∃ (ao : Option Addr) (n c : Nat) (f : Nat → Int) (r : Bool), e = .returned (.tuple #[.slice ao n c, .bool r]) ∧ out n f r ∧ n ≤ 1048576 ∧ IntsOwn (fun x => w.heap.size ≤ x ∧ x < w'.heap.size) w' ao n f ∧ Blw w w'
/-- A boxed answer. -/
theorem boxed {w W : World} {b : BV} {R : BD} (hb : Blw w W) (own : BookOwn (fun x => w.heap.size ≤ x ∧ x < W.heap.size) W b R) {lo : Nat} (hlo : lo ≤ w.heap.size) :
    BB (fun x => lo ≤ x ∧ x < W.heap.size + 1) W.heap.size b R R (W.alloc (.cells #[.slice b.a1 R.n b.c1, .slice b.a2 R.k b.c2] 25)) :=
  ⟨(own.blw ((Blw.refl _).alloc _)).mono (fun x hx => ⟨⟨by omega, by omega⟩, by omega⟩), box2 W _ _ 25⟩
end Go.Proofs.Ytfmmpddknanhbaa
