/-
  No cell of these rows narrows 'for every input' (looked for: loops, veiled, ifaces, maps, wideKeys, modest, calm, conditions, laid).
  DERIVED. THE GIVEN ROWS OF THIS SEAT. 12 by the template 'for every input the law returns true; each argument reads behind the call as it read before'; 0 by the template 'total and deterministic' (their statements: YtbpdopcdhnemfaaTotals.lean).
  GIVEN WITH THE SEED: the statements are not yours to turn. If you find one false, say at which input.
  Laid BY PROGRAM, IN A SANDBOX (cutbox-rows.mjs): the forced cells as the released guide's own fill.sh prints them over the translation e6e5a1e7ba68dbd1… (all of the seat's roots in one cut). By AI agents, Wed Nov 11 2026. No macro, syntax, notation, axiom, sorry.
-/
import Derived.Test.YtbpdopcdhnemfaaChecked
import GoSem.Claim
import GoSem.ClaimJoined
import GoSem.ClaimMapViews
import Derived.JoinedTies
import Derived.KernelRfl
namespace Go.Proofs.Ytbpdopcdhnemfaa
/- THE CELL 'sum', in the pinned program and in every row, IS THE sha256 OF THE DUMP (.gsa) THAT YtbpdopcdhnemfaaProg.lean LOADS. Nothing in Lean hashes anything: it is a label: what it is worth is what the hold of that sum in a sandbox is worth. -/
noncomputable def Try.pinned : Pinned := { name := "ytbpdopcdhnemfaa", sum := "e6e5a1e7ba68dbd18583e11ae9d5cd3c32ad934430b4401d11adcc0837880ee8", checked := Try.checked }
namespace Rows
def none {H : Type} : Left H := { results := [], args := [] }

/-- 'laws.FnWalks': WHATEVER THE INPUT: true; the input reads as it did. -/
def fnWalksSpec : ChangeSpec := { name := "fnWalks", fn := fun _ => fun
  | [d] => { results := [.lit (.bool true)], args := [d] }
  | _ => none }
def fnWalksRow : OpenClaim := { program := "ytbpdopcdhnemfaa", sum := "e6e5a1e7ba68dbd18583e11ae9d5cd3c32ad934430b4401d11adcc0837880ee8", func := "loop.example/g00620/laws.FnWalks", spec := "fnWalks", unfollowed := true, recurses := true, apart := false }
def FnWalksSaid : Prop := fnWalksRow.holds Try.pinned (OpenSpec.ofChange fnWalksSpec)

/-- ITS FALSE NEIGHBOUR: 'it returns false'. Refute it at one input. -/
def fnWalksWrong : ChangeSpec := { name := "fnWalks", fn := fun _ => fun
  | [d] => { results := [.lit (.bool false)], args := [d] }
  | _ => none }
def FnWalksWrongFalsely : Prop := fnWalksRow.holds Try.pinned (OpenSpec.ofChange fnWalksWrong)

/-- 'laws.FnKeptWays': WHATEVER THE INPUT: true; the input reads as it did. -/
def fnKeptWaysSpec : ChangeSpec := { name := "fnKeptWays", fn := fun _ => fun
  | [d1, d2] => { results := [.lit (.bool true)], args := [d1, d2] }
  | _ => none }
def fnKeptWaysRow : OpenClaim := { program := "ytbpdopcdhnemfaa", sum := "e6e5a1e7ba68dbd18583e11ae9d5cd3c32ad934430b4401d11adcc0837880ee8", func := "loop.example/g00620/laws.FnKeptWays", spec := "fnKeptWays", unfollowed := true, recurses := true, apart := false }
def FnKeptWaysSaid : Prop := fnKeptWaysRow.holds Try.pinned (OpenSpec.ofChange fnKeptWaysSpec)

/-- ITS FALSE NEIGHBOUR: 'it returns false'. Refute it at one input. -/
def fnKeptWaysWrong : ChangeSpec := { name := "fnKeptWays", fn := fun _ => fun
  | [d1, d2] => { results := [.lit (.bool false)], args := [d1, d2] }
  | _ => none }
def FnKeptWaysWrongFalsely : Prop := fnKeptWaysRow.holds Try.pinned (OpenSpec.ofChange fnKeptWaysWrong)

/-- 'laws.FnGuest': WHATEVER THE INPUT: true; the input reads as it did. -/
def fnGuestSpec : ChangeSpec := { name := "fnGuest", fn := fun _ => fun
  | [d1, d2] => { results := [.lit (.bool true)], args := [d1, d2] }
  | _ => none }
def fnGuestRow : OpenClaim := { program := "ytbpdopcdhnemfaa", sum := "e6e5a1e7ba68dbd18583e11ae9d5cd3c32ad934430b4401d11adcc0837880ee8", func := "loop.example/g00620/laws.FnGuest", spec := "fnGuest", unfollowed := true, recurses := true, apart := false }
def FnGuestSaid : Prop := fnGuestRow.holds Try.pinned (OpenSpec.ofChange fnGuestSpec)

/-- ITS FALSE NEIGHBOUR: 'it returns false'. Refute it at one input. -/
def fnGuestWrong : ChangeSpec := { name := "fnGuest", fn := fun _ => fun
  | [d1, d2] => { results := [.lit (.bool false)], args := [d1, d2] }
  | _ => none }
def FnGuestWrongFalsely : Prop := fnGuestRow.holds Try.pinned (OpenSpec.ofChange fnGuestWrong)

/-- 'laws.FnStepped': WHATEVER THE INPUT: true; the input reads as it did. -/
def fnSteppedSpec : ChangeSpec := { name := "fnStepped", fn := fun _ => fun
  | [d1, d2] => { results := [.lit (.bool true)], args := [d1, d2] }
  | _ => none }
def fnSteppedRow : OpenClaim := { program := "ytbpdopcdhnemfaa", sum := "e6e5a1e7ba68dbd18583e11ae9d5cd3c32ad934430b4401d11adcc0837880ee8", func := "loop.example/g00620/laws.FnStepped", spec := "fnStepped", unfollowed := true, recurses := true, apart := false }
def FnSteppedSaid : Prop := fnSteppedRow.holds Try.pinned (OpenSpec.ofChange fnSteppedSpec)

/-- ITS FALSE NEIGHBOUR: 'it returns false'. Refute it at one input. -/
def fnSteppedWrong : ChangeSpec := { name := "fnStepped", fn := fun _ => fun
  | [d1, d2] => { results := [.lit (.bool false)], args := [d1, d2] }
  | _ => none }
def FnSteppedWrongFalsely : Prop := fnSteppedRow.holds Try.pinned (OpenSpec.ofChange fnSteppedWrong)

/-- 'laws.FnExactPlayWalker': WHATEVER THE INPUT: true; the input reads as it did. -/
def fnExactPlayWalkerSpec : ChangeSpec := { name := "fnExactPlayWalker", fn := fun _ => fun
  | [d1, d2] => { results := [.lit (.bool true)], args := [d1, d2] }
  | _ => none }
def fnExactPlayWalkerRow : OpenClaim := { program := "ytbpdopcdhnemfaa", sum := "e6e5a1e7ba68dbd18583e11ae9d5cd3c32ad934430b4401d11adcc0837880ee8", func := "loop.example/g00620/laws.FnExactPlayWalker", spec := "fnExactPlayWalker", unfollowed := true, recurses := true, apart := false }
def FnExactPlayWalkerSaid : Prop := fnExactPlayWalkerRow.holds Try.pinned (OpenSpec.ofChange fnExactPlayWalkerSpec)

/-- ITS FALSE NEIGHBOUR: 'it returns false'. Refute it at one input. -/
def fnExactPlayWalkerWrong : ChangeSpec := { name := "fnExactPlayWalker", fn := fun _ => fun
  | [d1, d2] => { results := [.lit (.bool false)], args := [d1, d2] }
  | _ => none }
def FnExactPlayWalkerWrongFalsely : Prop := fnExactPlayWalkerRow.holds Try.pinned (OpenSpec.ofChange fnExactPlayWalkerWrong)

/-- 'laws.FnExactGoodProgram': WHATEVER THE INPUT: true; the input reads as it did. -/
def fnExactGoodProgramSpec : ChangeSpec := { name := "fnExactGoodProgram", fn := fun _ => fun
  | [d] => { results := [.lit (.bool true)], args := [d] }
  | _ => none }
def fnExactGoodProgramRow : OpenClaim := { program := "ytbpdopcdhnemfaa", sum := "e6e5a1e7ba68dbd18583e11ae9d5cd3c32ad934430b4401d11adcc0837880ee8", func := "loop.example/g00620/laws.FnExactGoodProgram", spec := "fnExactGoodProgram", unfollowed := true, recurses := true, apart := false }
def FnExactGoodProgramSaid : Prop := fnExactGoodProgramRow.holds Try.pinned (OpenSpec.ofChange fnExactGoodProgramSpec)

/-- ITS FALSE NEIGHBOUR: 'it returns false'. Refute it at one input. -/
def fnExactGoodProgramWrong : ChangeSpec := { name := "fnExactGoodProgram", fn := fun _ => fun
  | [d] => { results := [.lit (.bool false)], args := [d] }
  | _ => none }
def FnExactGoodProgramWrongFalsely : Prop := fnExactGoodProgramRow.holds Try.pinned (OpenSpec.ofChange fnExactGoodProgramWrong)

/-- 'laws.FnExactGoodGuest': WHATEVER THE INPUT: true; the input reads as it did. -/
def fnExactGoodGuestSpec : ChangeSpec := { name := "fnExactGoodGuest", fn := fun _ => fun
  | [d] => { results := [.lit (.bool true)], args := [d] }
  | _ => none }
def fnExactGoodGuestRow : OpenClaim := { program := "ytbpdopcdhnemfaa", sum := "e6e5a1e7ba68dbd18583e11ae9d5cd3c32ad934430b4401d11adcc0837880ee8", func := "loop.example/g00620/laws.FnExactGoodGuest", spec := "fnExactGoodGuest", apart := false }
def FnExactGoodGuestSaid : Prop := fnExactGoodGuestRow.holds Try.pinned (OpenSpec.ofChange fnExactGoodGuestSpec)

/-- ITS FALSE NEIGHBOUR: 'it returns false'. Refute it at one input. -/
def fnExactGoodGuestWrong : ChangeSpec := { name := "fnExactGoodGuest", fn := fun _ => fun
  | [d] => { results := [.lit (.bool false)], args := [d] }
  | _ => none }
def FnExactGoodGuestWrongFalsely : Prop := fnExactGoodGuestRow.holds Try.pinned (OpenSpec.ofChange fnExactGoodGuestWrong)

/-- 'laws.FnExactNewGuest': WHATEVER THE INPUT: true; the input reads as it did. -/
def fnExactNewGuestSpec : ChangeSpec := { name := "fnExactNewGuest", fn := fun _ => fun
  | [d] => { results := [.lit (.bool true)], args := [d] }
  | _ => none }
def fnExactNewGuestRow : OpenClaim := { program := "ytbpdopcdhnemfaa", sum := "e6e5a1e7ba68dbd18583e11ae9d5cd3c32ad934430b4401d11adcc0837880ee8", func := "loop.example/g00620/laws.FnExactNewGuest", spec := "fnExactNewGuest", apart := false }
def FnExactNewGuestSaid : Prop := fnExactNewGuestRow.holds Try.pinned (OpenSpec.ofChange fnExactNewGuestSpec)

/-- ITS FALSE NEIGHBOUR: 'it returns false'. Refute it at one input. -/
def fnExactNewGuestWrong : ChangeSpec := { name := "fnExactNewGuest", fn := fun _ => fun
  | [d] => { results := [.lit (.bool false)], args := [d] }
  | _ => none }
def FnExactNewGuestWrongFalsely : Prop := fnExactNewGuestRow.holds Try.pinned (OpenSpec.ofChange fnExactNewGuestWrong)

/-- 'laws.FnExactStepGuest': WHATEVER THE INPUT: true; the input reads as it did. -/
def fnExactStepGuestSpec : ChangeSpec := { name := "fnExactStepGuest", fn := fun _ => fun
  | [d1, d2] => { results := [.lit (.bool true)], args := [d1, d2] }
  | _ => none }
def fnExactStepGuestRow : OpenClaim := { program := "ytbpdopcdhnemfaa", sum := "e6e5a1e7ba68dbd18583e11ae9d5cd3c32ad934430b4401d11adcc0837880ee8", func := "loop.example/g00620/laws.FnExactStepGuest", spec := "fnExactStepGuest", unfollowed := true, recurses := true, apart := false }
def FnExactStepGuestSaid : Prop := fnExactStepGuestRow.holds Try.pinned (OpenSpec.ofChange fnExactStepGuestSpec)

/-- ITS FALSE NEIGHBOUR: 'it returns false'. Refute it at one input. -/
def fnExactStepGuestWrong : ChangeSpec := { name := "fnExactStepGuest", fn := fun _ => fun
  | [d1, d2] => { results := [.lit (.bool false)], args := [d1, d2] }
  | _ => none }
def FnExactStepGuestWrongFalsely : Prop := fnExactStepGuestRow.holds Try.pinned (OpenSpec.ofChange fnExactStepGuestWrong)

/-- 'laws.FnExactRunGuest': WHATEVER THE INPUT: true; the input reads as it did. -/
def fnExactRunGuestSpec : ChangeSpec := { name := "fnExactRunGuest", fn := fun _ => fun
  | [d1, d2, d3] => { results := [.lit (.bool true)], args := [d1, d2, d3] }
  | _ => none }
def fnExactRunGuestRow : OpenClaim := { program := "ytbpdopcdhnemfaa", sum := "e6e5a1e7ba68dbd18583e11ae9d5cd3c32ad934430b4401d11adcc0837880ee8", func := "loop.example/g00620/laws.FnExactRunGuest", spec := "fnExactRunGuest", unfollowed := true, recurses := true, apart := false }
def FnExactRunGuestSaid : Prop := fnExactRunGuestRow.holds Try.pinned (OpenSpec.ofChange fnExactRunGuestSpec)

/-- ITS FALSE NEIGHBOUR: 'it returns false'. Refute it at one input. -/
def fnExactRunGuestWrong : ChangeSpec := { name := "fnExactRunGuest", fn := fun _ => fun
  | [d1, d2, d3] => { results := [.lit (.bool false)], args := [d1, d2, d3] }
  | _ => none }
def FnExactRunGuestWrongFalsely : Prop := fnExactRunGuestRow.holds Try.pinned (OpenSpec.ofChange fnExactRunGuestWrong)

/-- 'laws.FnExactTouchedBy': WHATEVER THE INPUT: true; the input reads as it did. -/
def fnExactTouchedBySpec : ChangeSpec := { name := "fnExactTouchedBy", fn := fun _ => fun
  | [d1, d2, d3] => { results := [.lit (.bool true)], args := [d1, d2, d3] }
  | _ => none }
def fnExactTouchedByRow : OpenClaim := { program := "ytbpdopcdhnemfaa", sum := "e6e5a1e7ba68dbd18583e11ae9d5cd3c32ad934430b4401d11adcc0837880ee8", func := "loop.example/g00620/laws.FnExactTouchedBy", spec := "fnExactTouchedBy", unfollowed := true, recurses := true, apart := false }
def FnExactTouchedBySaid : Prop := fnExactTouchedByRow.holds Try.pinned (OpenSpec.ofChange fnExactTouchedBySpec)

/-- ITS FALSE NEIGHBOUR: 'it returns false'. Refute it at one input. -/
def fnExactTouchedByWrong : ChangeSpec := { name := "fnExactTouchedBy", fn := fun _ => fun
  | [d1, d2, d3] => { results := [.lit (.bool false)], args := [d1, d2, d3] }
  | _ => none }
def FnExactTouchedByWrongFalsely : Prop := fnExactTouchedByRow.holds Try.pinned (OpenSpec.ofChange fnExactTouchedByWrong)

/-- 'laws.FnExactSameGuest': WHATEVER THE INPUT: true; the input reads as it did. -/
def fnExactSameGuestSpec : ChangeSpec := { name := "fnExactSameGuest", fn := fun _ => fun
  | [d1, d2] => { results := [.lit (.bool true)], args := [d1, d2] }
  | _ => none }
def fnExactSameGuestRow : OpenClaim := { program := "ytbpdopcdhnemfaa", sum := "e6e5a1e7ba68dbd18583e11ae9d5cd3c32ad934430b4401d11adcc0837880ee8", func := "loop.example/g00620/laws.FnExactSameGuest", spec := "fnExactSameGuest", apart := false }
def FnExactSameGuestSaid : Prop := fnExactSameGuestRow.holds Try.pinned (OpenSpec.ofChange fnExactSameGuestSpec)

/-- ITS FALSE NEIGHBOUR: 'it returns false'. Refute it at one input. -/
def fnExactSameGuestWrong : ChangeSpec := { name := "fnExactSameGuest", fn := fun _ => fun
  | [d1, d2] => { results := [.lit (.bool false)], args := [d1, d2] }
  | _ => none }
def FnExactSameGuestWrongFalsely : Prop := fnExactSameGuestRow.holds Try.pinned (OpenSpec.ofChange fnExactSameGuestWrong)

/- THE SECOND FORM. 'bulk': how many values and letters a reading holds, each counted each time it is reached (what is shared counts as often as it is met; a slice's spare places count too). A statement '..UptoSaid' is the law's where the arguments, and the package variables that the reading takes, are together of bulk at most 1048576: NARROWER than '..Said'. Prove '..Said' where nothing that the law and all that it calls make is longer than what came in: it says more and counts as full. Else prove '..UptoSaid'. A law counts once. -/
mutual
def uptoBulk {H : Type} : DataW H → Nat
  | .lit (.string bytes) => bytes.length + 1
  | .lit _ => 1
  | .nil => 1
  | .ptr d => uptoBulk d + 1
  | .slice elems spare => uptoBulkAll elems + uptoBulkAll spare + 1
  | .agg parts => uptoBulkAll parts + 1
  | .iface _ d => uptoBulk d + 1
  | .map entries => uptoBulkEntries entries + 1
  | .held _ => 1
def uptoBulkAll {H : Type} : List (DataW H) → Nat
  | [] => 0
  | d :: r => uptoBulk d + uptoBulkAll r
def uptoBulkEntries {H : Type} : List (Lit × DataW H) → Nat
  | [] => 0
  | x :: r => uptoBulkEntry x + uptoBulkEntries r
def uptoBulkEntry {H : Type} : Lit × DataW H → Nat
  | (.string bytes, d) => bytes.length + uptoBulk d + 1
  | (_, d) => uptoBulk d + 1
 end
def uptoSmall : (H : Type) → List (DataW H) → Bool := fun _ ds => decide (uptoBulkAll ds ≤ 1048576)
def OpenSpec.upto (s : _root_.Go.ChangeSpec) : _root_.Go.OpenSpec := { _root_.Go.OpenSpec.ofChange s with cond := some uptoSmall }

/-- 'laws.FnWalks', WHERE WHAT IT READS IS OF BULK AT MOST 1048576: true; the input reads as it did. -/
def fnWalksUptoRow : OpenClaim := { program := "ytbpdopcdhnemfaa", sum := "e6e5a1e7ba68dbd18583e11ae9d5cd3c32ad934430b4401d11adcc0837880ee8", func := "loop.example/g00620/laws.FnWalks", spec := "fnWalks", unfollowed := true, recurses := true, apart := false, narrowed := true }
def FnWalksUptoSaid : Prop := fnWalksUptoRow.holds Try.pinned (OpenSpec.upto fnWalksSpec)

/-- 'laws.FnKeptWays', WHERE WHAT IT READS IS OF BULK AT MOST 1048576: true; the input reads as it did. -/
def fnKeptWaysUptoRow : OpenClaim := { program := "ytbpdopcdhnemfaa", sum := "e6e5a1e7ba68dbd18583e11ae9d5cd3c32ad934430b4401d11adcc0837880ee8", func := "loop.example/g00620/laws.FnKeptWays", spec := "fnKeptWays", unfollowed := true, recurses := true, apart := false, narrowed := true }
def FnKeptWaysUptoSaid : Prop := fnKeptWaysUptoRow.holds Try.pinned (OpenSpec.upto fnKeptWaysSpec)

/-- 'laws.FnGuest', WHERE WHAT IT READS IS OF BULK AT MOST 1048576: true; the input reads as it did. -/
def fnGuestUptoRow : OpenClaim := { program := "ytbpdopcdhnemfaa", sum := "e6e5a1e7ba68dbd18583e11ae9d5cd3c32ad934430b4401d11adcc0837880ee8", func := "loop.example/g00620/laws.FnGuest", spec := "fnGuest", unfollowed := true, recurses := true, apart := false, narrowed := true }
def FnGuestUptoSaid : Prop := fnGuestUptoRow.holds Try.pinned (OpenSpec.upto fnGuestSpec)

/-- 'laws.FnStepped', WHERE WHAT IT READS IS OF BULK AT MOST 1048576: true; the input reads as it did. -/
def fnSteppedUptoRow : OpenClaim := { program := "ytbpdopcdhnemfaa", sum := "e6e5a1e7ba68dbd18583e11ae9d5cd3c32ad934430b4401d11adcc0837880ee8", func := "loop.example/g00620/laws.FnStepped", spec := "fnStepped", unfollowed := true, recurses := true, apart := false, narrowed := true }
def FnSteppedUptoSaid : Prop := fnSteppedUptoRow.holds Try.pinned (OpenSpec.upto fnSteppedSpec)

/-- 'laws.FnExactPlayWalker', WHERE WHAT IT READS IS OF BULK AT MOST 1048576: true; the input reads as it did. -/
def fnExactPlayWalkerUptoRow : OpenClaim := { program := "ytbpdopcdhnemfaa", sum := "e6e5a1e7ba68dbd18583e11ae9d5cd3c32ad934430b4401d11adcc0837880ee8", func := "loop.example/g00620/laws.FnExactPlayWalker", spec := "fnExactPlayWalker", unfollowed := true, recurses := true, apart := false, narrowed := true }
def FnExactPlayWalkerUptoSaid : Prop := fnExactPlayWalkerUptoRow.holds Try.pinned (OpenSpec.upto fnExactPlayWalkerSpec)

/-- 'laws.FnExactGoodProgram', WHERE WHAT IT READS IS OF BULK AT MOST 1048576: true; the input reads as it did. -/
def fnExactGoodProgramUptoRow : OpenClaim := { program := "ytbpdopcdhnemfaa", sum := "e6e5a1e7ba68dbd18583e11ae9d5cd3c32ad934430b4401d11adcc0837880ee8", func := "loop.example/g00620/laws.FnExactGoodProgram", spec := "fnExactGoodProgram", unfollowed := true, recurses := true, apart := false, narrowed := true }
def FnExactGoodProgramUptoSaid : Prop := fnExactGoodProgramUptoRow.holds Try.pinned (OpenSpec.upto fnExactGoodProgramSpec)

/-- 'laws.FnExactGoodGuest', WHERE WHAT IT READS IS OF BULK AT MOST 1048576: true; the input reads as it did. -/
def fnExactGoodGuestUptoRow : OpenClaim := { program := "ytbpdopcdhnemfaa", sum := "e6e5a1e7ba68dbd18583e11ae9d5cd3c32ad934430b4401d11adcc0837880ee8", func := "loop.example/g00620/laws.FnExactGoodGuest", spec := "fnExactGoodGuest", apart := false, narrowed := true }
def FnExactGoodGuestUptoSaid : Prop := fnExactGoodGuestUptoRow.holds Try.pinned (OpenSpec.upto fnExactGoodGuestSpec)

/-- 'laws.FnExactNewGuest', WHERE WHAT IT READS IS OF BULK AT MOST 1048576: true; the input reads as it did. -/
def fnExactNewGuestUptoRow : OpenClaim := { program := "ytbpdopcdhnemfaa", sum := "e6e5a1e7ba68dbd18583e11ae9d5cd3c32ad934430b4401d11adcc0837880ee8", func := "loop.example/g00620/laws.FnExactNewGuest", spec := "fnExactNewGuest", apart := false, narrowed := true }
def FnExactNewGuestUptoSaid : Prop := fnExactNewGuestUptoRow.holds Try.pinned (OpenSpec.upto fnExactNewGuestSpec)

/-- 'laws.FnExactStepGuest', WHERE WHAT IT READS IS OF BULK AT MOST 1048576: true; the input reads as it did. -/
def fnExactStepGuestUptoRow : OpenClaim := { program := "ytbpdopcdhnemfaa", sum := "e6e5a1e7ba68dbd18583e11ae9d5cd3c32ad934430b4401d11adcc0837880ee8", func := "loop.example/g00620/laws.FnExactStepGuest", spec := "fnExactStepGuest", unfollowed := true, recurses := true, apart := false, narrowed := true }
def FnExactStepGuestUptoSaid : Prop := fnExactStepGuestUptoRow.holds Try.pinned (OpenSpec.upto fnExactStepGuestSpec)

/-- 'laws.FnExactRunGuest', WHERE WHAT IT READS IS OF BULK AT MOST 1048576: true; the input reads as it did. -/
def fnExactRunGuestUptoRow : OpenClaim := { program := "ytbpdopcdhnemfaa", sum := "e6e5a1e7ba68dbd18583e11ae9d5cd3c32ad934430b4401d11adcc0837880ee8", func := "loop.example/g00620/laws.FnExactRunGuest", spec := "fnExactRunGuest", unfollowed := true, recurses := true, apart := false, narrowed := true }
def FnExactRunGuestUptoSaid : Prop := fnExactRunGuestUptoRow.holds Try.pinned (OpenSpec.upto fnExactRunGuestSpec)

/-- 'laws.FnExactTouchedBy', WHERE WHAT IT READS IS OF BULK AT MOST 1048576: true; the input reads as it did. -/
def fnExactTouchedByUptoRow : OpenClaim := { program := "ytbpdopcdhnemfaa", sum := "e6e5a1e7ba68dbd18583e11ae9d5cd3c32ad934430b4401d11adcc0837880ee8", func := "loop.example/g00620/laws.FnExactTouchedBy", spec := "fnExactTouchedBy", unfollowed := true, recurses := true, apart := false, narrowed := true }
def FnExactTouchedByUptoSaid : Prop := fnExactTouchedByUptoRow.holds Try.pinned (OpenSpec.upto fnExactTouchedBySpec)

/-- 'laws.FnExactSameGuest', WHERE WHAT IT READS IS OF BULK AT MOST 1048576: true; the input reads as it did. -/
def fnExactSameGuestUptoRow : OpenClaim := { program := "ytbpdopcdhnemfaa", sum := "e6e5a1e7ba68dbd18583e11ae9d5cd3c32ad934430b4401d11adcc0837880ee8", func := "loop.example/g00620/laws.FnExactSameGuest", spec := "fnExactSameGuest", apart := false, narrowed := true }
def FnExactSameGuestUptoSaid : Prop := fnExactSameGuestUptoRow.holds Try.pinned (OpenSpec.upto fnExactSameGuestSpec)

end Rows
end Go.Proofs.Ytbpdopcdhnemfaa
