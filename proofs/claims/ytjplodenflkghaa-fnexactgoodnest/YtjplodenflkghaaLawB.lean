/- What stands in a law on tables. -/
import Derived.Test.YtjplodenflkghaaLawF
import Derived.Test.YtjplodenflkghaaTabL
namespace Go.Proofs.Ytjplodenflkghaa
open Go.RowKit
set_option linter.unusedSimpArgs false
set_option linter.unusedVariables false
/-- A book in its own box at z, all in blocks of X. -/
structure BB (X : Nat → Prop) (z : Nat) (b : BV) (B B' : BD) (w : World) : Prop where
  own : BookOwn (fun x => X x ∧ x ≠ z) w b B'
  box : Row w z 2 (fun i => if i = 0 then .slice b.a1 B.n b.c1 else .slice b.a2 B.D.n b.c2)
theorem BB.st {X : Nat → Prop} {z : Nat} {b : BV} {B B' : BD} {w : World} (h : BB X z b B B' w) (hz : X z) (hX : ∀ b, X b → b < w.heap.size) : St X (BB X z b B B') w :=
  ⟨hX, fun Z w' hm hx => ⟨h.own.mod hm (fun b hb => hx b hb.1), h.box.mod hm (hx z hz)⟩⟩
/-- The argument of a law on a book: it, and its box at z. -/
structure ArgB (n z : Nat) (b : BV) (B : BD) (w : World) : Prop where
  at_ : BookAt (fun x => x < n) w b B
  box : Row w z 2 (fun i => if i = 0 then .slice b.a1 B.n b.c1 else .slice b.a2 B.D.n b.c2)
theorem ArgB.st {n z a : Nat} {b : BV} {B : BD} {w : World} (h : ArgB n z b B w) (hn : n ≤ a) (hz : z < a) (ha : a ≤ w.heap.size) : St (fun x => x < a) (ArgB n z b B) w :=
  ⟨fun x hx => by omega, fun Z w' hm hx => ⟨h.at_.mod hm (fun b hb => hx b (by omega)), h.box.mod hm (hx z hz)⟩⟩
/-- What answers a book and a bool. -/
def GivesB (out : BD → Bool → Prop) (w : World) : Ending → World → Prop := fun e w' =>
  ∃ (b : BV) (R : BD) (r : Bool), e = .returned (.tuple #[b.val R, .bool r]) ∧ out R r ∧ R.n + (R.D.n + R.D.tot) ≤ 1048576 ∧ BookOwn (fun x => w.heap.size ≤ x ∧ x < w'.heap.size) w' b R ∧ Blw w w'
def GivesI (out : Nat → (Nat → Int) → Bool → Prop) (w : World) : Ending → World → Prop := fun e w' =>
  ∃ (ao : Option Addr) (n c : Nat) (f : Nat → Int) (r : Bool), e = .returned (.tuple #[.slice ao n c, .bool r]) ∧ out n f r ∧ n ≤ 1048576 ∧ IntsOwn (fun x => w.heap.size ≤ x ∧ x < w'.heap.size) w' ao n f ∧ Blw w w'
/-- A boxed answer. -/
theorem boxed {w W : World} {b : BV} {R : BD} (hb : Blw w W) (own : BookOwn (fun x => w.heap.size ≤ x ∧ x < W.heap.size) W b R) {lo : Nat} (hlo : lo ≤ w.heap.size) :
    BB (fun x => lo ≤ x ∧ x < W.heap.size + 1) W.heap.size b R R (W.alloc (.cells #[.slice b.a1 R.n b.c1, .slice b.a2 R.D.n b.c2] 29)) :=
  ⟨(own.blw ((Blw.refl _).alloc _)).mono (fun x hx => ⟨⟨by omega, by omega⟩, by omega⟩), box2 W _ _ 29⟩
end Go.Proofs.Ytjplodenflkghaa
