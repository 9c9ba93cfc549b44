/-
  No cell of these rows narrows 'for every input' (looked for: loops, veiled, ifaces, maps, wideKeys, modest, calm, conditions, laid).
  DERIVED. THE GIVEN ROWS OF THIS SEAT. 3 by the template 'for every input the law returns true; each argument reads behind the call as it read before'; 0 by the template 'total and deterministic' (their statements: YtneafnfdemodnaaTotals.lean).
  GIVEN WITH THE SEED: the statements are not yours to turn. If you find one false, say at which input.
  Laid BY PROGRAM, IN A SANDBOX (cutbox-rows.mjs): the forced cells as the released guide's own fill.sh prints them over the translation 48846f0855f515c0… (all of the seat's roots in one cut). By AI agents, Wed Nov 11 2026. No macro, syntax, notation, axiom, sorry.
-/
import Derived.Test.YtneafnfdemodnaaChecked
import GoSem.Claim
import GoSem.ClaimJoined
import GoSem.ClaimMapViews
import Derived.JoinedTies
import Derived.KernelRfl
namespace Go.Proofs.Ytneafnfdemodnaa
/- THE CELL 'sum', in the pinned program and in every row, IS THE sha256 OF THE DUMP (.gsa) THAT YtneafnfdemodnaaProg.lean LOADS. Nothing in Lean hashes anything: it is a label: what it is worth is what the hold of that sum in a sandbox is worth. -/
noncomputable def Try.pinned : Pinned := { name := "ytneafnfdemodnaa", sum := "48846f0855f515c050c28f19127123789267ae35b2fb1ac40a3fb9415382a972", checked := Try.checked }
namespace Rows
def none {H : Type} : Left H := { results := [], args := [] }

/-- 'laws.FnExactGoodClients': WHATEVER THE INPUT: true; the input reads as it did. -/
def fnExactGoodClientsSpec : ChangeSpec := { name := "fnExactGoodClients", fn := fun _ => fun
  | [d] => { results := [.lit (.bool true)], args := [d] }
  | _ => none }
def fnExactGoodClientsRow : OpenClaim := { program := "ytneafnfdemodnaa", sum := "48846f0855f515c050c28f19127123789267ae35b2fb1ac40a3fb9415382a972", func := "loop.example/g00620/laws.FnExactGoodClients", spec := "fnExactGoodClients", apart := false }
def FnExactGoodClientsSaid : Prop := fnExactGoodClientsRow.holds Try.pinned (OpenSpec.ofChange fnExactGoodClientsSpec)

/-- ITS FALSE NEIGHBOUR: 'it returns false'. Refute it at one input. -/
def fnExactGoodClientsWrong : ChangeSpec := { name := "fnExactGoodClients", fn := fun _ => fun
  | [d] => { results := [.lit (.bool false)], args := [d] }
  | _ => none }
def FnExactGoodClientsWrongFalsely : Prop := fnExactGoodClientsRow.holds Try.pinned (OpenSpec.ofChange fnExactGoodClientsWrong)

/-- 'laws.FnExactNextClient': WHATEVER THE INPUT: true; the input reads as it did. -/
def fnExactNextClientSpec : ChangeSpec := { name := "fnExactNextClient", fn := fun _ => fun
  | [d] => { results := [.lit (.bool true)], args := [d] }
  | _ => none }
def fnExactNextClientRow : OpenClaim := { program := "ytneafnfdemodnaa", sum := "48846f0855f515c050c28f19127123789267ae35b2fb1ac40a3fb9415382a972", func := "loop.example/g00620/laws.FnExactNextClient", spec := "fnExactNextClient", unfollowed := true, recurses := true, apart := false }
def FnExactNextClientSaid : Prop := fnExactNextClientRow.holds Try.pinned (OpenSpec.ofChange fnExactNextClientSpec)

/-- ITS FALSE NEIGHBOUR: 'it returns false'. Refute it at one input. -/
def fnExactNextClientWrong : ChangeSpec := { name := "fnExactNextClient", fn := fun _ => fun
  | [d] => { results := [.lit (.bool false)], args := [d] }
  | _ => none }
def FnExactNextClientWrongFalsely : Prop := fnExactNextClientRow.holds Try.pinned (OpenSpec.ofChange fnExactNextClientWrong)

/-- 'laws.FnExactLagOf': WHATEVER THE INPUT: true; the input reads as it did. -/
def fnExactLagOfSpec : ChangeSpec := { name := "fnExactLagOf", fn := fun _ => fun
  | [d] => { results := [.lit (.bool true)], args := [d] }
  | _ => none }
def fnExactLagOfRow : OpenClaim := { program := "ytneafnfdemodnaa", sum := "48846f0855f515c050c28f19127123789267ae35b2fb1ac40a3fb9415382a972", func := "loop.example/g00620/laws.FnExactLagOf", spec := "fnExactLagOf", unfollowed := true, recurses := true, apart := false }
def FnExactLagOfSaid : Prop := fnExactLagOfRow.holds Try.pinned (OpenSpec.ofChange fnExactLagOfSpec)

/-- ITS FALSE NEIGHBOUR: 'it returns false'. Refute it at one input. -/
def fnExactLagOfWrong : ChangeSpec := { name := "fnExactLagOf", fn := fun _ => fun
  | [d] => { results := [.lit (.bool false)], args := [d] }
  | _ => none }
def FnExactLagOfWrongFalsely : Prop := fnExactLagOfRow.holds Try.pinned (OpenSpec.ofChange fnExactLagOfWrong)

/- THE SECOND FORM. 'bulk': how many values and letters a reading holds, each counted each time it is reached (what is shared counts as often as it is met; a slice's spare places count too). A statement '..UptoSaid' is the law's where the arguments, and the package variables that the reading takes, are together of bulk at most 1048576: NARROWER than '..Said'. Prove '..Said' where nothing that the law and all that it calls make is longer than what came in: it says more and counts as full. Else prove '..UptoSaid'. A law counts once. -/
mutual
def uptoBulk {H : Type} : DataW H → Nat
  | .lit (.string bytes) => bytes.length + 1
  | .lit _ => 1
  | .nil => 1
  | .ptr d => uptoBulk d + 1
  | .slice elems spare => uptoBulkAll elems + uptoBulkAll spare + 1
  | .agg parts => uptoBulkAll parts + 1
  | .iface _ d => uptoBulk d + 1
  | .map entries => uptoBulkEntries entries + 1
  | .held _ => 1
def uptoBulkAll {H : Type} : List (DataW H) → Nat
  | [] => 0
  | d :: r => uptoBulk d + uptoBulkAll r
def uptoBulkEntries {H : Type} : List (Lit × DataW H) → Nat
  | [] => 0
  | x :: r => uptoBulkEntry x + uptoBulkEntries r
def uptoBulkEntry {H : Type} : Lit × DataW H → Nat
  | (.string bytes, d) => bytes.length + uptoBulk d + 1
  | (_, d) => uptoBulk d + 1
 end
def uptoSmall : (H : Type) → List (DataW H) → Bool := fun _ ds => decide (uptoBulkAll ds ≤ 1048576)
def OpenSpec.upto (s : _root_.Go.ChangeSpec) : _root_.Go.OpenSpec := { _root_.Go.OpenSpec.ofChange s with cond := some uptoSmall }

/-- 'laws.FnExactGoodClients', WHERE WHAT IT READS IS OF BULK AT MOST 1048576: true; the input reads as it did. -/
def fnExactGoodClientsUptoRow : OpenClaim := { program := "ytneafnfdemodnaa", sum := "48846f0855f515c050c28f19127123789267ae35b2fb1ac40a3fb9415382a972", func := "loop.example/g00620/laws.FnExactGoodClients", spec := "fnExactGoodClients", apart := false, narrowed := true }
def FnExactGoodClientsUptoSaid : Prop := fnExactGoodClientsUptoRow.holds Try.pinned (OpenSpec.upto fnExactGoodClientsSpec)

/-- 'laws.FnExactNextClient', WHERE WHAT IT READS IS OF BULK AT MOST 1048576: true; the input reads as it did. -/
def fnExactNextClientUptoRow : OpenClaim := { program := "ytneafnfdemodnaa", sum := "48846f0855f515c050c28f19127123789267ae35b2fb1ac40a3fb9415382a972", func := "loop.example/g00620/laws.FnExactNextClient", spec := "fnExactNextClient", unfollowed := true, recurses := true, apart := false, narrowed := true }
def FnExactNextClientUptoSaid : Prop := fnExactNextClientUptoRow.holds Try.pinned (OpenSpec.upto fnExactNextClientSpec)

/-- 'laws.FnExactLagOf', WHERE WHAT IT READS IS OF BULK AT MOST 1048576: true; the input reads as it did. -/
def fnExactLagOfUptoRow : OpenClaim := { program := "ytneafnfdemodnaa", sum := "48846f0855f515c050c28f19127123789267ae35b2fb1ac40a3fb9415382a972", func := "loop.example/g00620/laws.FnExactLagOf", spec := "fnExactLagOf", unfollowed := true, recurses := true, apart := false, narrowed := true }
def FnExactLagOfUptoSaid : Prop := fnExactLagOfUptoRow.holds Try.pinned (OpenSpec.upto fnExactLagOfSpec)

end Rows
end Go.Proofs.Ytneafnfdemodnaa
