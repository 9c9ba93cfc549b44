/- What stands in a law on wheels. -/
import Derived.Test.YtkmkidahaagbpaaLawF
import Derived.Test.YtkmkidahaagbpaaWhl
namespace Go.Proofs.Ytkmkidahaagbpaa
open Go.RowKit
set_option linter.unusedSimpArgs false
set_option linter.unusedVariables false
/-- A wheel in its own box at z, all in blocks of X. -/
structure BBH (X : Nat → Prop) (z : Nat) (b : WV) (B B' : WD) (w : World) : Prop where
  own : WOwn (fun x => X x ∧ x ≠ z) w b B'
  box : Row w z 3 (wrow b B)
theorem BBH.st {X : Nat → Prop} {z : Nat} {b : WV} {B B' : WD} {w : World} (h : BBH X z b B B' w) (hz : X z) (hX : ∀ b, X b → b < w.heap.size) : St X (BBH X z b B B') w :=
  ⟨hX, fun Z w' hm hx => ⟨h.own.mod hm (fun b hb => hx b hb.1), h.box.mod hm (hx z hz)⟩⟩
/-- The argument of a law on a wheel: it, and its box at z. -/
structure ArgH (n z : Nat) (b : WV) (B : WD) (w : World) : Prop where
  at_ : WAt (fun x => x < n) w b B
  box : Row w z 3 (wrow b B)
theorem ArgH.st {n z a : Nat} {b : WV} {B : WD} {w : World} (h : ArgH n z b B w) (hn : n ≤ a) (hz : z < a) (ha : a ≤ w.heap.size) : St (fun x => x < a) (ArgH n z b B) w :=
  ⟨fun x hx => by omega, fun Z w' hm hx => ⟨h.at_.mod hm (fun b hb => hx b (by omega)), h.box.mod hm (hx z hz)⟩⟩
/-- What answers a wheel and a bool. -/
def GivesW (out : WD → Bool → Prop) (w : World) : Ending → World → Prop := fun e w' =>
  ∃ (b : WV) (R : WD) (r : Bool), e = .returned (.tuple #[b.val R, .bool r]) ∧ out R r ∧ R.small ∧ WOwn (fun x => w.heap.size ≤ x ∧ x < w'.heap.size) w' b R ∧ Blw w w'
theorem boxedH {w W : World} {b : WV} {R : WD} (hb : Blw w W) (own : WOwn (fun x => w.heap.size ≤ x ∧ x < W.heap.size) W b R) {lo : Nat} (hlo : lo ≤ w.heap.size) :
    BBH (fun x => lo ≤ x ∧ x < W.heap.size + 1) W.heap.size b R R (W.alloc (.cells #[.int .i64 R.now, .slice b.a1 R.N.n b.c1, .slice b.a2 R.F.n b.c2] 25)) :=
  ⟨(own.blw ((Blw.refl _).alloc _)).mono (fun x hx => ⟨⟨by omega, by omega⟩, by omega⟩), box3 W _ _ _ 25⟩
theorem small_zero : WD.small WD.zero := by show (0 + 0) + (0 + 0) ≤ _; omega
end Go.Proofs.Ytkmkidahaagbpaa
