/- Good clients, as the law wants them. -/
import Derived.Test.YtneafnfdemodnaaJoin1
namespace Go.Proofs.Ytneafnfdemodnaa
open Go.RowKit
set_option linter.unusedSimpArgs false
set_option linter.unusedVariables false
def bOut (n : Nat) (F : Nat → Nat → Int) (b : Bool) : Prop := b = true ↔ GoodC n F
theorem bOut_same {n : Nat} {F : Nat → Nat → Int} {b b' : Bool} (h : bOut n F b) (k : bOut n F b') : b = b' := Bool.eq_iff_iff.2 (h.trans k.symm)
theorem implGoodB_any (ao : Option Addr) (c n : Nat) (F : Nat → Nat → Int) (Y : Nat → Prop) (w : World) (h : KAt 3 Y w ao n F) :
    Calls Try.prog 9 #[.slice ao n c] w fun e w' => ∃ b, e = .returned (.bool b) ∧ bOut n F b ∧ Blw w w' := implGood_any ao c n F Y w h
theorem specGoodB_any (ao : Option Addr) (c n : Nat) (F : Nat → Nat → Int) (Y : Nat → Prop) (w : World) (h : KAt 3 Y w ao n F) :
    Calls Try.prog 7 #[.slice ao n c] w fun e w' => ∃ b, e = .returned (.bool b) ∧ bOut n F b ∧ Blw w w' := specGood_any ao c n F Y w h
end Go.Proofs.Ytneafnfdemodnaa
