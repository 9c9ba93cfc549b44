/- What stands in a drawn law. -/
import Derived.Test.YtagjfkkjmgfoiaaDrawE
import Derived.Test.YtagjfkkjmgfoiaaSameU
namespace Go.Proofs.Ytagjfkkjmgfoiaa
open Go.RowKit
set_option linter.unusedSimpArgs false
set_option linter.unusedVariables false
/-- A book and its box. -/
structure BX (W : World) (z : Nat) (b : BV) (B : BD) : Prop where
  at_ : BookAt (fun x => x < W.heap.size) W b B
  box : Row W z 2 (fun i => if i = 0 then .slice b.a1 B.n b.c1 else .slice b.a2 B.k b.c2)
theorem BX.blw {W W' : World} {z : Nat} {b : BV} {B : BD} (h : BX W z b B) (hb : Blw W W') : BX W' z b B :=
  ⟨(h.at_.blw hb).mono (fun x hx => Nat.lt_of_lt_of_le hx hb.size), h.box.blw hb⟩
theorem BX.all {W : World} {z : Nat} {b : BV} {B : BD} (h : BX W z b B) : (∀ w', Blw W w' → w'.cell? ⟨z, 0, none⟩ = some (.slice b.a1 B.n b.c1)) ∧ (∀ w', Blw W w' → w'.cell? ⟨z, 1, none⟩ = some (.slice b.a2 B.k b.c2)) :=
  ⟨fun w' hb => (get2 (h.box.blw hb)).1, fun w' hb => (get2 (h.box.blw hb)).2⟩
def LI (W : World) (a : Option Addr) (n : Nat) (f : Nat → Int) : Prop := IntsAt (fun x => x < W.heap.size) W a n f
theorem LI.blw {W W' : World} {a : Option Addr} {n : Nat} {f : Nat → Int} (h : LI W a n f) (hb : Blw W W') : LI W' a n f := (IntsAt.blw h hb).mono (fun x hx => Nat.lt_of_lt_of_le hx hb.size)
def LU (W : World) (a : Option Addr) (n : Nat) (f g : Nat → Int) : Prop := UndosAt (fun x => x < W.heap.size) W a n f g
theorem LU.blw {W W' : World} {a : Option Addr} {n : Nat} {f g : Nat → Int} (h : LU W a n f g) (hb : Blw W W') : LU W' a n f g := (UndosAt.blw h hb).mono (fun x hx => Nat.lt_of_lt_of_le hx hb.size)
def BY (W : World) (a : Option Addr) (n : Nat) (f : Nat → Int) : Prop := BytesAt (fun b => b < W.heap.size) W a n f
theorem BY.blw {W W' : World} {a : Option Addr} {n : Nat} {f : Nat → Int} (h : BY W a n f) (hb : Blw W W') : BY W' a n f := bytes_more h hb
theorem same22 (a1 a2 : Option Addr) (c1 c2 n0 : Nat) (f g : Nat → Int) (w : World) (h1 : LI w a1 n0 f) (h2 : LI w a2 n0 g) (he : ∀ i, i < n0 → f i = g i) :
    Calls Try.prog 22 #[.slice a1 n0 c1, .slice a2 n0 c2] w fun e w' => e = .returned (.bool true) ∧ Blw w w' :=
  (sameInts_yes a1 a2 c1 c2 n0 f g w h1 h2 he).mono fun e w' ⟨he, n, hw⟩ => ⟨he, by subst hw; exact (Blw.refl _).drewN n⟩
end Go.Proofs.Ytagjfkkjmgfoiaa
