/-
  NARROWER THAN 'FOR EVERY INPUT', by the rows' own cells (each row's printed sentence says how): FnStride: laid · FnTurns: laid · FnExactNewClients: laid · FnExactGiveTurn: laid · FnExactGiveTurns: laid · FnExactStrideOf: laid.
  DERIVED. THE GIVEN ROWS OF THIS SEAT. 6 by the template 'for every input the law returns true; each argument reads behind the call as it read before'; 0 by the template 'total and deterministic' (their statements: YtneafnfdemodnaaDoorTotals.lean).
  GIVEN WITH THE SEED: the statements are not yours to turn. If you find one false, say at which input.
  Laid BY PROGRAM, IN A SANDBOX (cutbox-rows.mjs): the forced cells as the released guide's own fill.sh prints them over the translation a305f2d3584a4a01… (all of the seat's roots in one cut). By AI agents, Wed Nov 11 2026. No macro, syntax, notation, axiom, sorry.
-/
import Derived.Test.YtneafnfdemodnaaDoorChecked
import GoSem.Claim
import GoSem.ClaimJoined
import GoSem.ClaimMapViews
import Derived.JoinedTies
import Derived.KernelRfl
namespace Go.Proofs.YtneafnfdemodnaaDoor
/- THE CELL 'sum', in the pinned program and in every row, IS THE sha256 OF THE DUMP (.gsa) THAT YtneafnfdemodnaaDoorProg.lean LOADS. Nothing in Lean hashes anything: it is a label: what it is worth is what the hold of that sum in a sandbox is worth. -/
noncomputable def Tryd.pinned : Pinned := { name := "ytneafnfdemodnaadoor", sum := "a305f2d3584a4a011d5c9d61e0a02ef9e2746fd80380a4a2f9bc521a8e575c66", checked := Tryd.checked }
namespace Rows
def none {H : Type} : Left H := { results := [], args := [] }

/- WHAT THE LISTED PACKAGE-LEVEL VARIABLES READ AS WHEN THE CALL BEGINS. Each datum BY PROGRAM (the guide's laid-datum.mjs) off the statement by which the dump's own 'gosem.cut.vars' lays the variable. In a bare row this is a premise. The card (YtneafnfdemodnaaDoorCards.lean) ties it to the program's text. -/
def laid_loop_example_g00620_impl_strides {H : Type} : DataW H := .agg [.lit (.int .i64 27720), .lit (.int .i64 13860), .lit (.int .i64 9240), .lit (.int .i64 6930), .lit (.int .i64 5544), .lit (.int .i64 4620), .lit (.int .i64 3960), .lit (.int .i64 3465), .lit (.int .i64 3080), .lit (.int .i64 2772), .lit (.int .i64 2520), .lit (.int .i64 2310)]

/-- 'laws.FnStride': WHATEVER THE INPUT: true; the input reads as it did. -/
def fnStrideSpec : ChangeSpec := { name := "fnStride", vars := ["loop.example/g00620/impl.strides"], fn := fun _ => fun
  | [d1, d2, g1] => { results := [.lit (.bool true)], args := [d1, d2], vars := [g1] }
  | _ => none }
def fnStrideRow : OpenClaim := { program := "ytneafnfdemodnaadoor", sum := "a305f2d3584a4a011d5c9d61e0a02ef9e2746fd80380a4a2f9bc521a8e575c66", func := "loop.example/g00620/laws.FnStride", spec := "fnStride", unfollowed := true, recurses := true, named := ["loop.example/g00620/impl.strides"], apart := false, laid := [("loop.example/g00620/impl.strides", laid_loop_example_g00620_impl_strides)] }
def FnStrideSaid : Prop := fnStrideRow.holds Tryd.pinned (OpenSpec.ofChange fnStrideSpec)

/-- ITS FALSE NEIGHBOUR: 'it returns false'. Refute it at one input. -/
def fnStrideWrong : ChangeSpec := { name := "fnStride", vars := ["loop.example/g00620/impl.strides"], fn := fun _ => fun
  | [d1, d2, g1] => { results := [.lit (.bool false)], args := [d1, d2], vars := [g1] }
  | _ => none }
def FnStrideWrongFalsely : Prop := fnStrideRow.holds Tryd.pinned (OpenSpec.ofChange fnStrideWrong)

/-- 'laws.FnTurns': WHATEVER THE INPUT: true; the input reads as it did. -/
def fnTurnsSpec : ChangeSpec := { name := "fnTurns", vars := ["loop.example/g00620/impl.strides"], fn := fun _ => fun
  | [d1, d2, g1] => { results := [.lit (.bool true)], args := [d1, d2], vars := [g1] }
  | _ => none }
def fnTurnsRow : OpenClaim := { program := "ytneafnfdemodnaadoor", sum := "a305f2d3584a4a011d5c9d61e0a02ef9e2746fd80380a4a2f9bc521a8e575c66", func := "loop.example/g00620/laws.FnTurns", spec := "fnTurns", unfollowed := true, recurses := true, named := ["loop.example/g00620/impl.strides"], apart := false, laid := [("loop.example/g00620/impl.strides", laid_loop_example_g00620_impl_strides)] }
def FnTurnsSaid : Prop := fnTurnsRow.holds Tryd.pinned (OpenSpec.ofChange fnTurnsSpec)

/-- ITS FALSE NEIGHBOUR: 'it returns false'. Refute it at one input. -/
def fnTurnsWrong : ChangeSpec := { name := "fnTurns", vars := ["loop.example/g00620/impl.strides"], fn := fun _ => fun
  | [d1, d2, g1] => { results := [.lit (.bool false)], args := [d1, d2], vars := [g1] }
  | _ => none }
def FnTurnsWrongFalsely : Prop := fnTurnsRow.holds Tryd.pinned (OpenSpec.ofChange fnTurnsWrong)

/-- 'laws.FnExactNewClients': WHATEVER THE INPUT: true; the input reads as it did. -/
def fnExactNewClientsSpec : ChangeSpec := { name := "fnExactNewClients", vars := ["loop.example/g00620/impl.strides"], fn := fun _ => fun
  | [d, g1] => { results := [.lit (.bool true)], args := [d], vars := [g1] }
  | _ => none }
def fnExactNewClientsRow : OpenClaim := { program := "ytneafnfdemodnaadoor", sum := "a305f2d3584a4a011d5c9d61e0a02ef9e2746fd80380a4a2f9bc521a8e575c66", func := "loop.example/g00620/laws.FnExactNewClients", spec := "fnExactNewClients", unfollowed := true, recurses := true, named := ["loop.example/g00620/impl.strides"], apart := false, laid := [("loop.example/g00620/impl.strides", laid_loop_example_g00620_impl_strides)] }
def FnExactNewClientsSaid : Prop := fnExactNewClientsRow.holds Tryd.pinned (OpenSpec.ofChange fnExactNewClientsSpec)

/-- ITS FALSE NEIGHBOUR: 'it returns false'. Refute it at one input. -/
def fnExactNewClientsWrong : ChangeSpec := { name := "fnExactNewClients", vars := ["loop.example/g00620/impl.strides"], fn := fun _ => fun
  | [d, g1] => { results := [.lit (.bool false)], args := [d], vars := [g1] }
  | _ => none }
def FnExactNewClientsWrongFalsely : Prop := fnExactNewClientsRow.holds Tryd.pinned (OpenSpec.ofChange fnExactNewClientsWrong)

/-- 'laws.FnExactGiveTurn': WHATEVER THE INPUT: true; the input reads as it did. -/
def fnExactGiveTurnSpec : ChangeSpec := { name := "fnExactGiveTurn", vars := ["loop.example/g00620/impl.strides"], fn := fun _ => fun
  | [d, g1] => { results := [.lit (.bool true)], args := [d], vars := [g1] }
  | _ => none }
def fnExactGiveTurnRow : OpenClaim := { program := "ytneafnfdemodnaadoor", sum := "a305f2d3584a4a011d5c9d61e0a02ef9e2746fd80380a4a2f9bc521a8e575c66", func := "loop.example/g00620/laws.FnExactGiveTurn", spec := "fnExactGiveTurn", unfollowed := true, recurses := true, named := ["loop.example/g00620/impl.strides"], apart := false, laid := [("loop.example/g00620/impl.strides", laid_loop_example_g00620_impl_strides)] }
def FnExactGiveTurnSaid : Prop := fnExactGiveTurnRow.holds Tryd.pinned (OpenSpec.ofChange fnExactGiveTurnSpec)

/-- ITS FALSE NEIGHBOUR: 'it returns false'. Refute it at one input. -/
def fnExactGiveTurnWrong : ChangeSpec := { name := "fnExactGiveTurn", vars := ["loop.example/g00620/impl.strides"], fn := fun _ => fun
  | [d, g1] => { results := [.lit (.bool false)], args := [d], vars := [g1] }
  | _ => none }
def FnExactGiveTurnWrongFalsely : Prop := fnExactGiveTurnRow.holds Tryd.pinned (OpenSpec.ofChange fnExactGiveTurnWrong)

/-- 'laws.FnExactGiveTurns': WHATEVER THE INPUT: true; the input reads as it did. -/
def fnExactGiveTurnsSpec : ChangeSpec := { name := "fnExactGiveTurns", vars := ["loop.example/g00620/impl.strides"], fn := fun _ => fun
  | [d1, d2, g1] => { results := [.lit (.bool true)], args := [d1, d2], vars := [g1] }
  | _ => none }
def fnExactGiveTurnsRow : OpenClaim := { program := "ytneafnfdemodnaadoor", sum := "a305f2d3584a4a011d5c9d61e0a02ef9e2746fd80380a4a2f9bc521a8e575c66", func := "loop.example/g00620/laws.FnExactGiveTurns", spec := "fnExactGiveTurns", unfollowed := true, recurses := true, named := ["loop.example/g00620/impl.strides"], apart := false, laid := [("loop.example/g00620/impl.strides", laid_loop_example_g00620_impl_strides)] }
def FnExactGiveTurnsSaid : Prop := fnExactGiveTurnsRow.holds Tryd.pinned (OpenSpec.ofChange fnExactGiveTurnsSpec)

/-- ITS FALSE NEIGHBOUR: 'it returns false'. Refute it at one input. -/
def fnExactGiveTurnsWrong : ChangeSpec := { name := "fnExactGiveTurns", vars := ["loop.example/g00620/impl.strides"], fn := fun _ => fun
  | [d1, d2, g1] => { results := [.lit (.bool false)], args := [d1, d2], vars := [g1] }
  | _ => none }
def FnExactGiveTurnsWrongFalsely : Prop := fnExactGiveTurnsRow.holds Tryd.pinned (OpenSpec.ofChange fnExactGiveTurnsWrong)

/-- 'laws.FnExactStrideOf': WHATEVER THE INPUT: true; the input reads as it did. -/
def fnExactStrideOfSpec : ChangeSpec := { name := "fnExactStrideOf", vars := ["loop.example/g00620/impl.strides"], fn := fun _ => fun
  | [d, g1] => { results := [.lit (.bool true)], args := [d], vars := [g1] }
  | _ => none }
def fnExactStrideOfRow : OpenClaim := { program := "ytneafnfdemodnaadoor", sum := "a305f2d3584a4a011d5c9d61e0a02ef9e2746fd80380a4a2f9bc521a8e575c66", func := "loop.example/g00620/laws.FnExactStrideOf", spec := "fnExactStrideOf", named := ["loop.example/g00620/impl.strides"], apart := false, laid := [("loop.example/g00620/impl.strides", laid_loop_example_g00620_impl_strides)] }
def FnExactStrideOfSaid : Prop := fnExactStrideOfRow.holds Tryd.pinned (OpenSpec.ofChange fnExactStrideOfSpec)

/-- ITS FALSE NEIGHBOUR: 'it returns false'. Refute it at one input. -/
def fnExactStrideOfWrong : ChangeSpec := { name := "fnExactStrideOf", vars := ["loop.example/g00620/impl.strides"], fn := fun _ => fun
  | [d, g1] => { results := [.lit (.bool false)], args := [d], vars := [g1] }
  | _ => none }
def FnExactStrideOfWrongFalsely : Prop := fnExactStrideOfRow.holds Tryd.pinned (OpenSpec.ofChange fnExactStrideOfWrong)

/- THE SECOND FORM. 'bulk': how many values and letters a reading holds, each counted each time it is reached (what is shared counts as often as it is met; a slice's spare places count too). A statement '..UptoSaid' is the law's where the arguments, and the package variables that the reading takes, are together of bulk at most 1048576: NARROWER than '..Said'. Prove '..Said' where nothing that the law and all that it calls make is longer than what came in: it says more and counts as full. Else prove '..UptoSaid'. A law counts once. -/
mutual
def uptoBulk {H : Type} : DataW H → Nat
  | .lit (.string bytes) => bytes.length + 1
  | .lit _ => 1
  | .nil => 1
  | .ptr d => uptoBulk d + 1
  | .slice elems spare => uptoBulkAll elems + uptoBulkAll spare + 1
  | .agg parts => uptoBulkAll parts + 1
  | .iface _ d => uptoBulk d + 1
  | .map entries => uptoBulkEntries entries + 1
  | .held _ => 1
def uptoBulkAll {H : Type} : List (DataW H) → Nat
  | [] => 0
  | d :: r => uptoBulk d + uptoBulkAll r
def uptoBulkEntries {H : Type} : List (Lit × DataW H) → Nat
  | [] => 0
  | x :: r => uptoBulkEntry x + uptoBulkEntries r
def uptoBulkEntry {H : Type} : Lit × DataW H → Nat
  | (.string bytes, d) => bytes.length + uptoBulk d + 1
  | (_, d) => uptoBulk d + 1
 end
def uptoSmall : (H : Type) → List (DataW H) → Bool := fun _ ds => decide (uptoBulkAll ds ≤ 1048576)
def OpenSpec.upto (s : _root_.Go.ChangeSpec) : _root_.Go.OpenSpec := { _root_.Go.OpenSpec.ofChange s with cond := some uptoSmall }

/-- 'laws.FnStride', WHERE WHAT IT READS IS OF BULK AT MOST 1048576: true; the input reads as it did. -/
def fnStrideUptoRow : OpenClaim := { program := "ytneafnfdemodnaadoor", sum := "a305f2d3584a4a011d5c9d61e0a02ef9e2746fd80380a4a2f9bc521a8e575c66", func := "loop.example/g00620/laws.FnStride", spec := "fnStride", unfollowed := true, recurses := true, named := ["loop.example/g00620/impl.strides"], apart := false, laid := [("loop.example/g00620/impl.strides", laid_loop_example_g00620_impl_strides)], narrowed := true }
def FnStrideUptoSaid : Prop := fnStrideUptoRow.holds Tryd.pinned (OpenSpec.upto fnStrideSpec)

/-- 'laws.FnTurns', WHERE WHAT IT READS IS OF BULK AT MOST 1048576: true; the input reads as it did. -/
def fnTurnsUptoRow : OpenClaim := { program := "ytneafnfdemodnaadoor", sum := "a305f2d3584a4a011d5c9d61e0a02ef9e2746fd80380a4a2f9bc521a8e575c66", func := "loop.example/g00620/laws.FnTurns", spec := "fnTurns", unfollowed := true, recurses := true, named := ["loop.example/g00620/impl.strides"], apart := false, laid := [("loop.example/g00620/impl.strides", laid_loop_example_g00620_impl_strides)], narrowed := true }
def FnTurnsUptoSaid : Prop := fnTurnsUptoRow.holds Tryd.pinned (OpenSpec.upto fnTurnsSpec)

/-- 'laws.FnExactNewClients', WHERE WHAT IT READS IS OF BULK AT MOST 1048576: true; the input reads as it did. -/
def fnExactNewClientsUptoRow : OpenClaim := { program := "ytneafnfdemodnaadoor", sum := "a305f2d3584a4a011d5c9d61e0a02ef9e2746fd80380a4a2f9bc521a8e575c66", func := "loop.example/g00620/laws.FnExactNewClients", spec := "fnExactNewClients", unfollowed := true, recurses := true, named := ["loop.example/g00620/impl.strides"], apart := false, laid := [("loop.example/g00620/impl.strides", laid_loop_example_g00620_impl_strides)], narrowed := true }
def FnExactNewClientsUptoSaid : Prop := fnExactNewClientsUptoRow.holds Tryd.pinned (OpenSpec.upto fnExactNewClientsSpec)

/-- 'laws.FnExactGiveTurn', WHERE WHAT IT READS IS OF BULK AT MOST 1048576: true; the input reads as it did. -/
def fnExactGiveTurnUptoRow : OpenClaim := { program := "ytneafnfdemodnaadoor", sum := "a305f2d3584a4a011d5c9d61e0a02ef9e2746fd80380a4a2f9bc521a8e575c66", func := "loop.example/g00620/laws.FnExactGiveTurn", spec := "fnExactGiveTurn", unfollowed := true, recurses := true, named := ["loop.example/g00620/impl.strides"], apart := false, laid := [("loop.example/g00620/impl.strides", laid_loop_example_g00620_impl_strides)], narrowed := true }
def FnExactGiveTurnUptoSaid : Prop := fnExactGiveTurnUptoRow.holds Tryd.pinned (OpenSpec.upto fnExactGiveTurnSpec)

/-- 'laws.FnExactGiveTurns', WHERE WHAT IT READS IS OF BULK AT MOST 1048576: true; the input reads as it did. -/
def fnExactGiveTurnsUptoRow : OpenClaim := { program := "ytneafnfdemodnaadoor", sum := "a305f2d3584a4a011d5c9d61e0a02ef9e2746fd80380a4a2f9bc521a8e575c66", func := "loop.example/g00620/laws.FnExactGiveTurns", spec := "fnExactGiveTurns", unfollowed := true, recurses := true, named := ["loop.example/g00620/impl.strides"], apart := false, laid := [("loop.example/g00620/impl.strides", laid_loop_example_g00620_impl_strides)], narrowed := true }
def FnExactGiveTurnsUptoSaid : Prop := fnExactGiveTurnsUptoRow.holds Tryd.pinned (OpenSpec.upto fnExactGiveTurnsSpec)

/-- 'laws.FnExactStrideOf', WHERE WHAT IT READS IS OF BULK AT MOST 1048576: true; the input reads as it did. -/
def fnExactStrideOfUptoRow : OpenClaim := { program := "ytneafnfdemodnaadoor", sum := "a305f2d3584a4a011d5c9d61e0a02ef9e2746fd80380a4a2f9bc521a8e575c66", func := "loop.example/g00620/laws.FnExactStrideOf", spec := "fnExactStrideOf", named := ["loop.example/g00620/impl.strides"], apart := false, laid := [("loop.example/g00620/impl.strides", laid_loop_example_g00620_impl_strides)], narrowed := true }
def FnExactStrideOfUptoSaid : Prop := fnExactStrideOfUptoRow.holds Tryd.pinned (OpenSpec.upto fnExactStrideOfSpec)

end Rows
end Go.Proofs.YtneafnfdemodnaaDoor
