/-
  No cell of these rows narrows 'for every input' (looked for: loops, veiled, ifaces, maps, wideKeys, modest, calm, conditions, laid).
  DERIVED. THE GIVEN ROWS OF THIS SEAT. 9 by the template 'for every input the law returns true; each argument reads behind the call as it read before'; 0 by the template 'total and deterministic' (their statements: YtglllnklcnlcjaaTotals.lean).
  GIVEN WITH THE SEED: the statements are not yours to turn. If you find one false, say at which input.
  Laid BY PROGRAM, IN A SANDBOX (cutbox-rows.mjs): the forced cells as the released guide's own fill.sh prints them over the translation ffa568a7c7bb6a0f… (all of the seat's roots in one cut). By AI agents, Wed Nov 11 2026. No macro, syntax, notation, axiom, sorry.
-/
import Derived.Test.YtglllnklcnlcjaaChecked
import GoSem.Claim
import GoSem.ClaimJoined
import GoSem.ClaimMapViews
import Derived.JoinedTies
import Derived.KernelRfl
namespace Go.Proofs.Ytglllnklcnlcjaa
/- THE CELL 'sum', in the pinned program and in every row, IS THE sha256 OF THE DUMP (.gsa) THAT YtglllnklcnlcjaaProg.lean LOADS. Nothing in Lean hashes anything: it is a label: what it is worth is what the hold of that sum in a sandbox is worth. -/
noncomputable def Try.pinned : Pinned := { name := "ytglllnklcnlcjaa", sum := "ffa568a7c7bb6a0fe48c4bc96a18fdf0d0a3343ec548fb4f09ff81536711dde6", checked := Try.checked }
namespace Rows
def none {H : Type} : Left H := { results := [], args := [] }

/-- 'laws.FnDeed': WHATEVER THE INPUT: true; the input reads as it did. -/
def fnDeedSpec : ChangeSpec := { name := "fnDeed", fn := fun _ => fun
  | [d1, d2] => { results := [.lit (.bool true)], args := [d1, d2] }
  | _ => none }
def fnDeedRow : OpenClaim := { program := "ytglllnklcnlcjaa", sum := "ffa568a7c7bb6a0fe48c4bc96a18fdf0d0a3343ec548fb4f09ff81536711dde6", func := "loop.example/g00620/laws.FnDeed", spec := "fnDeed", unfollowed := true, recurses := true, apart := false }
def FnDeedSaid : Prop := fnDeedRow.holds Try.pinned (OpenSpec.ofChange fnDeedSpec)

/-- ITS FALSE NEIGHBOUR: 'it returns false'. Refute it at one input. -/
def fnDeedWrong : ChangeSpec := { name := "fnDeed", fn := fun _ => fun
  | [d1, d2] => { results := [.lit (.bool false)], args := [d1, d2] }
  | _ => none }
def FnDeedWrongFalsely : Prop := fnDeedRow.holds Try.pinned (OpenSpec.ofChange fnDeedWrong)

/-- 'laws.FnRecovered': WHATEVER THE INPUT: true; the input reads as it did. -/
def fnRecoveredSpec : ChangeSpec := { name := "fnRecovered", fn := fun _ => fun
  | [d1, d2] => { results := [.lit (.bool true)], args := [d1, d2] }
  | _ => none }
def fnRecoveredRow : OpenClaim := { program := "ytglllnklcnlcjaa", sum := "ffa568a7c7bb6a0fe48c4bc96a18fdf0d0a3343ec548fb4f09ff81536711dde6", func := "loop.example/g00620/laws.FnRecovered", spec := "fnRecovered", unfollowed := true, recurses := true, apart := false }
def FnRecoveredSaid : Prop := fnRecoveredRow.holds Try.pinned (OpenSpec.ofChange fnRecoveredSpec)

/-- ITS FALSE NEIGHBOUR: 'it returns false'. Refute it at one input. -/
def fnRecoveredWrong : ChangeSpec := { name := "fnRecovered", fn := fun _ => fun
  | [d1, d2] => { results := [.lit (.bool false)], args := [d1, d2] }
  | _ => none }
def FnRecoveredWrongFalsely : Prop := fnRecoveredRow.holds Try.pinned (OpenSpec.ofChange fnRecoveredWrong)

/-- 'laws.FnExactGoodPairs': WHATEVER THE INPUT: true; the input reads as it did. -/
def fnExactGoodPairsSpec : ChangeSpec := { name := "fnExactGoodPairs", fn := fun _ => fun
  | [d] => { results := [.lit (.bool true)], args := [d] }
  | _ => none }
def fnExactGoodPairsRow : OpenClaim := { program := "ytglllnklcnlcjaa", sum := "ffa568a7c7bb6a0fe48c4bc96a18fdf0d0a3343ec548fb4f09ff81536711dde6", func := "loop.example/g00620/laws.FnExactGoodPairs", spec := "fnExactGoodPairs", apart := false }
def FnExactGoodPairsSaid : Prop := fnExactGoodPairsRow.holds Try.pinned (OpenSpec.ofChange fnExactGoodPairsSpec)

/-- ITS FALSE NEIGHBOUR: 'it returns false'. Refute it at one input. -/
def fnExactGoodPairsWrong : ChangeSpec := { name := "fnExactGoodPairs", fn := fun _ => fun
  | [d] => { results := [.lit (.bool false)], args := [d] }
  | _ => none }
def FnExactGoodPairsWrongFalsely : Prop := fnExactGoodPairsRow.holds Try.pinned (OpenSpec.ofChange fnExactGoodPairsWrong)

/-- 'laws.FnExactDeedSteps': WHATEVER THE INPUT: true; the input reads as it did. -/
def fnExactDeedStepsSpec : ChangeSpec := { name := "fnExactDeedSteps", fn := fun _ => fun
  | [d1, d2] => { results := [.lit (.bool true)], args := [d1, d2] }
  | _ => none }
def fnExactDeedStepsRow : OpenClaim := { program := "ytglllnklcnlcjaa", sum := "ffa568a7c7bb6a0fe48c4bc96a18fdf0d0a3343ec548fb4f09ff81536711dde6", func := "loop.example/g00620/laws.FnExactDeedSteps", spec := "fnExactDeedSteps", unfollowed := true, recurses := true, apart := false }
def FnExactDeedStepsSaid : Prop := fnExactDeedStepsRow.holds Try.pinned (OpenSpec.ofChange fnExactDeedStepsSpec)

/-- ITS FALSE NEIGHBOUR: 'it returns false'. Refute it at one input. -/
def fnExactDeedStepsWrong : ChangeSpec := { name := "fnExactDeedSteps", fn := fun _ => fun
  | [d1, d2] => { results := [.lit (.bool false)], args := [d1, d2] }
  | _ => none }
def FnExactDeedStepsWrongFalsely : Prop := fnExactDeedStepsRow.holds Try.pinned (OpenSpec.ofChange fnExactDeedStepsWrong)

/-- 'laws.FnExactDoDeed': WHATEVER THE INPUT: true; the input reads as it did. -/
def fnExactDoDeedSpec : ChangeSpec := { name := "fnExactDoDeed", fn := fun _ => fun
  | [d1, d2] => { results := [.lit (.bool true)], args := [d1, d2] }
  | _ => none }
def fnExactDoDeedRow : OpenClaim := { program := "ytglllnklcnlcjaa", sum := "ffa568a7c7bb6a0fe48c4bc96a18fdf0d0a3343ec548fb4f09ff81536711dde6", func := "loop.example/g00620/laws.FnExactDoDeed", spec := "fnExactDoDeed", unfollowed := true, recurses := true, apart := false }
def FnExactDoDeedSaid : Prop := fnExactDoDeedRow.holds Try.pinned (OpenSpec.ofChange fnExactDoDeedSpec)

/-- ITS FALSE NEIGHBOUR: 'it returns false'. Refute it at one input. -/
def fnExactDoDeedWrong : ChangeSpec := { name := "fnExactDoDeed", fn := fun _ => fun
  | [d1, d2] => { results := [.lit (.bool false)], args := [d1, d2] }
  | _ => none }
def FnExactDoDeedWrongFalsely : Prop := fnExactDoDeedRow.holds Try.pinned (OpenSpec.ofChange fnExactDoDeedWrong)

/-- 'laws.FnExactRecoverDeed': WHATEVER THE INPUT: true; the input reads as it did. -/
def fnExactRecoverDeedSpec : ChangeSpec := { name := "fnExactRecoverDeed", fn := fun _ => fun
  | [d] => { results := [.lit (.bool true)], args := [d] }
  | _ => none }
def fnExactRecoverDeedRow : OpenClaim := { program := "ytglllnklcnlcjaa", sum := "ffa568a7c7bb6a0fe48c4bc96a18fdf0d0a3343ec548fb4f09ff81536711dde6", func := "loop.example/g00620/laws.FnExactRecoverDeed", spec := "fnExactRecoverDeed", unfollowed := true, recurses := true, apart := false }
def FnExactRecoverDeedSaid : Prop := fnExactRecoverDeedRow.holds Try.pinned (OpenSpec.ofChange fnExactRecoverDeedSpec)

/-- ITS FALSE NEIGHBOUR: 'it returns false'. Refute it at one input. -/
def fnExactRecoverDeedWrong : ChangeSpec := { name := "fnExactRecoverDeed", fn := fun _ => fun
  | [d] => { results := [.lit (.bool false)], args := [d] }
  | _ => none }
def FnExactRecoverDeedWrongFalsely : Prop := fnExactRecoverDeedRow.holds Try.pinned (OpenSpec.ofChange fnExactRecoverDeedWrong)

/-- 'laws.FnExactPendingIn': WHATEVER THE INPUT: true; the input reads as it did. -/
def fnExactPendingInSpec : ChangeSpec := { name := "fnExactPendingIn", fn := fun _ => fun
  | [d] => { results := [.lit (.bool true)], args := [d] }
  | _ => none }
def fnExactPendingInRow : OpenClaim := { program := "ytglllnklcnlcjaa", sum := "ffa568a7c7bb6a0fe48c4bc96a18fdf0d0a3343ec548fb4f09ff81536711dde6", func := "loop.example/g00620/laws.FnExactPendingIn", spec := "fnExactPendingIn", apart := false }
def FnExactPendingInSaid : Prop := fnExactPendingInRow.holds Try.pinned (OpenSpec.ofChange fnExactPendingInSpec)

/-- ITS FALSE NEIGHBOUR: 'it returns false'. Refute it at one input. -/
def fnExactPendingInWrong : ChangeSpec := { name := "fnExactPendingIn", fn := fun _ => fun
  | [d] => { results := [.lit (.bool false)], args := [d] }
  | _ => none }
def FnExactPendingInWrongFalsely : Prop := fnExactPendingInRow.holds Try.pinned (OpenSpec.ofChange fnExactPendingInWrong)

/-- 'laws.FnExactDataOf': WHATEVER THE INPUT: true; the input reads as it did. -/
def fnExactDataOfSpec : ChangeSpec := { name := "fnExactDataOf", fn := fun _ => fun
  | [d] => { results := [.lit (.bool true)], args := [d] }
  | _ => none }
def fnExactDataOfRow : OpenClaim := { program := "ytglllnklcnlcjaa", sum := "ffa568a7c7bb6a0fe48c4bc96a18fdf0d0a3343ec548fb4f09ff81536711dde6", func := "loop.example/g00620/laws.FnExactDataOf", spec := "fnExactDataOf", apart := false }
def FnExactDataOfSaid : Prop := fnExactDataOfRow.holds Try.pinned (OpenSpec.ofChange fnExactDataOfSpec)

/-- ITS FALSE NEIGHBOUR: 'it returns false'. Refute it at one input. -/
def fnExactDataOfWrong : ChangeSpec := { name := "fnExactDataOf", fn := fun _ => fun
  | [d] => { results := [.lit (.bool false)], args := [d] }
  | _ => none }
def FnExactDataOfWrongFalsely : Prop := fnExactDataOfRow.holds Try.pinned (OpenSpec.ofChange fnExactDataOfWrong)

/-- 'laws.FnExactFailDeed': WHATEVER THE INPUT: true; the input reads as it did. -/
def fnExactFailDeedSpec : ChangeSpec := { name := "fnExactFailDeed", fn := fun _ => fun
  | [d1, d2, d3, d4] => { results := [.lit (.bool true)], args := [d1, d2, d3, d4] }
  | _ => none }
def fnExactFailDeedRow : OpenClaim := { program := "ytglllnklcnlcjaa", sum := "ffa568a7c7bb6a0fe48c4bc96a18fdf0d0a3343ec548fb4f09ff81536711dde6", func := "loop.example/g00620/laws.FnExactFailDeed", spec := "fnExactFailDeed", unfollowed := true, recurses := true, apart := false }
def FnExactFailDeedSaid : Prop := fnExactFailDeedRow.holds Try.pinned (OpenSpec.ofChange fnExactFailDeedSpec)

/-- ITS FALSE NEIGHBOUR: 'it returns false'. Refute it at one input. -/
def fnExactFailDeedWrong : ChangeSpec := { name := "fnExactFailDeed", fn := fun _ => fun
  | [d1, d2, d3, d4] => { results := [.lit (.bool false)], args := [d1, d2, d3, d4] }
  | _ => none }
def FnExactFailDeedWrongFalsely : Prop := fnExactFailDeedRow.holds Try.pinned (OpenSpec.ofChange fnExactFailDeedWrong)

/- THE SECOND FORM. 'bulk': how many values and letters a reading holds, each counted each time it is reached (what is shared counts as often as it is met; a slice's spare places count too). A statement '..UptoSaid' is the law's where the arguments, and the package variables that the reading takes, are together of bulk at most 1048576: NARROWER than '..Said'. Prove '..Said' where nothing that the law and all that it calls make is longer than what came in: it says more and counts as full. Else prove '..UptoSaid'. A law counts once. -/
mutual
def uptoBulk {H : Type} : DataW H → Nat
  | .lit (.string bytes) => bytes.length + 1
  | .lit _ => 1
  | .nil => 1
  | .ptr d => uptoBulk d + 1
  | .slice elems spare => uptoBulkAll elems + uptoBulkAll spare + 1
  | .agg parts => uptoBulkAll parts + 1
  | .iface _ d => uptoBulk d + 1
  | .map entries => uptoBulkEntries entries + 1
  | .held _ => 1
def uptoBulkAll {H : Type} : List (DataW H) → Nat
  | [] => 0
  | d :: r => uptoBulk d + uptoBulkAll r
def uptoBulkEntries {H : Type} : List (Lit × DataW H) → Nat
  | [] => 0
  | x :: r => uptoBulkEntry x + uptoBulkEntries r
def uptoBulkEntry {H : Type} : Lit × DataW H → Nat
  | (.string bytes, d) => bytes.length + uptoBulk d + 1
  | (_, d) => uptoBulk d + 1
 end
def uptoSmall : (H : Type) → List (DataW H) → Bool := fun _ ds => decide (uptoBulkAll ds ≤ 1048576)
def OpenSpec.upto (s : _root_.Go.ChangeSpec) : _root_.Go.OpenSpec := { _root_.Go.OpenSpec.ofChange s with cond := some uptoSmall }

/-- 'laws.FnDeed', WHERE WHAT IT READS IS OF BULK AT MOST 1048576: true; the input reads as it did. -/
def fnDeedUptoRow : OpenClaim := { program := "ytglllnklcnlcjaa", sum := "ffa568a7c7bb6a0fe48c4bc96a18fdf0d0a3343ec548fb4f09ff81536711dde6", func := "loop.example/g00620/laws.FnDeed", spec := "fnDeed", unfollowed := true, recurses := true, apart := false, narrowed := true }
def FnDeedUptoSaid : Prop := fnDeedUptoRow.holds Try.pinned (OpenSpec.upto fnDeedSpec)

/-- 'laws.FnRecovered', WHERE WHAT IT READS IS OF BULK AT MOST 1048576: true; the input reads as it did. -/
def fnRecoveredUptoRow : OpenClaim := { program := "ytglllnklcnlcjaa", sum := "ffa568a7c7bb6a0fe48c4bc96a18fdf0d0a3343ec548fb4f09ff81536711dde6", func := "loop.example/g00620/laws.FnRecovered", spec := "fnRecovered", unfollowed := true, recurses := true, apart := false, narrowed := true }
def FnRecoveredUptoSaid : Prop := fnRecoveredUptoRow.holds Try.pinned (OpenSpec.upto fnRecoveredSpec)

/-- 'laws.FnExactGoodPairs', WHERE WHAT IT READS IS OF BULK AT MOST 1048576: true; the input reads as it did. -/
def fnExactGoodPairsUptoRow : OpenClaim := { program := "ytglllnklcnlcjaa", sum := "ffa568a7c7bb6a0fe48c4bc96a18fdf0d0a3343ec548fb4f09ff81536711dde6", func := "loop.example/g00620/laws.FnExactGoodPairs", spec := "fnExactGoodPairs", apart := false, narrowed := true }
def FnExactGoodPairsUptoSaid : Prop := fnExactGoodPairsUptoRow.holds Try.pinned (OpenSpec.upto fnExactGoodPairsSpec)

/-- 'laws.FnExactDeedSteps', WHERE WHAT IT READS IS OF BULK AT MOST 1048576: true; the input reads as it did. -/
def fnExactDeedStepsUptoRow : OpenClaim := { program := "ytglllnklcnlcjaa", sum := "ffa568a7c7bb6a0fe48c4bc96a18fdf0d0a3343ec548fb4f09ff81536711dde6", func := "loop.example/g00620/laws.FnExactDeedSteps", spec := "fnExactDeedSteps", unfollowed := true, recurses := true, apart := false, narrowed := true }
def FnExactDeedStepsUptoSaid : Prop := fnExactDeedStepsUptoRow.holds Try.pinned (OpenSpec.upto fnExactDeedStepsSpec)

/-- 'laws.FnExactDoDeed', WHERE WHAT IT READS IS OF BULK AT MOST 1048576: true; the input reads as it did. -/
def fnExactDoDeedUptoRow : OpenClaim := { program := "ytglllnklcnlcjaa", sum := "ffa568a7c7bb6a0fe48c4bc96a18fdf0d0a3343ec548fb4f09ff81536711dde6", func := "loop.example/g00620/laws.FnExactDoDeed", spec := "fnExactDoDeed", unfollowed := true, recurses := true, apart := false, narrowed := true }
def FnExactDoDeedUptoSaid : Prop := fnExactDoDeedUptoRow.holds Try.pinned (OpenSpec.upto fnExactDoDeedSpec)

/-- 'laws.FnExactRecoverDeed', WHERE WHAT IT READS IS OF BULK AT MOST 1048576: true; the input reads as it did. -/
def fnExactRecoverDeedUptoRow : OpenClaim := { program := "ytglllnklcnlcjaa", sum := "ffa568a7c7bb6a0fe48c4bc96a18fdf0d0a3343ec548fb4f09ff81536711dde6", func := "loop.example/g00620/laws.FnExactRecoverDeed", spec := "fnExactRecoverDeed", unfollowed := true, recurses := true, apart := false, narrowed := true }
def FnExactRecoverDeedUptoSaid : Prop := fnExactRecoverDeedUptoRow.holds Try.pinned (OpenSpec.upto fnExactRecoverDeedSpec)

/-- 'laws.FnExactPendingIn', WHERE WHAT IT READS IS OF BULK AT MOST 1048576: true; the input reads as it did. -/
def fnExactPendingInUptoRow : OpenClaim := { program := "ytglllnklcnlcjaa", sum := "ffa568a7c7bb6a0fe48c4bc96a18fdf0d0a3343ec548fb4f09ff81536711dde6", func := "loop.example/g00620/laws.FnExactPendingIn", spec := "fnExactPendingIn", apart := false, narrowed := true }
def FnExactPendingInUptoSaid : Prop := fnExactPendingInUptoRow.holds Try.pinned (OpenSpec.upto fnExactPendingInSpec)

/-- 'laws.FnExactDataOf', WHERE WHAT IT READS IS OF BULK AT MOST 1048576: true; the input reads as it did. -/
def fnExactDataOfUptoRow : OpenClaim := { program := "ytglllnklcnlcjaa", sum := "ffa568a7c7bb6a0fe48c4bc96a18fdf0d0a3343ec548fb4f09ff81536711dde6", func := "loop.example/g00620/laws.FnExactDataOf", spec := "fnExactDataOf", apart := false, narrowed := true }
def FnExactDataOfUptoSaid : Prop := fnExactDataOfUptoRow.holds Try.pinned (OpenSpec.upto fnExactDataOfSpec)

/-- 'laws.FnExactFailDeed', WHERE WHAT IT READS IS OF BULK AT MOST 1048576: true; the input reads as it did. -/
def fnExactFailDeedUptoRow : OpenClaim := { program := "ytglllnklcnlcjaa", sum := "ffa568a7c7bb6a0fe48c4bc96a18fdf0d0a3343ec548fb4f09ff81536711dde6", func := "loop.example/g00620/laws.FnExactFailDeed", spec := "fnExactFailDeed", unfollowed := true, recurses := true, apart := false, narrowed := true }
def FnExactFailDeedUptoSaid : Prop := fnExactFailDeedUptoRow.holds Try.pinned (OpenSpec.upto fnExactFailDeedSpec)

end Rows
end Go.Proofs.Ytglllnklcnlcjaa
