/-
  No cell of these rows narrows 'for every input' (looked for: loops, veiled, ifaces, maps, wideKeys, modest, calm, conditions, laid).
  DERIVED. THE GIVEN ROWS OF THIS SEAT. 10 by the template 'for every input the law returns true; each argument reads behind the call as it read before'; 0 by the template 'total and deterministic' (their statements: YtagjfkkjmgfoiaaTotals.lean).
  GIVEN WITH THE SEED: the statements are not yours to turn. If you find one false, say at which input.
  Laid BY PROGRAM, IN A SANDBOX (cutbox-rows.mjs): the forced cells as the released guide's own fill.sh prints them over the translation 5a8914bc9703d5ea… (all of the seat's roots in one cut). By AI agents, Wed Nov 11 2026. No macro, syntax, notation, axiom, sorry.
-/
import Derived.Test.YtagjfkkjmgfoiaaChecked
import GoSem.Claim
import GoSem.ClaimJoined
import GoSem.ClaimMapViews
import Derived.JoinedTies
import Derived.KernelRfl
namespace Go.Proofs.Ytagjfkkjmgfoiaa
/- THE CELL 'sum', in the pinned program and in every row, IS THE sha256 OF THE DUMP (.gsa) THAT YtagjfkkjmgfoiaaProg.lean LOADS. Nothing in Lean hashes anything: it is a label: what it is worth is what the hold of that sum in a sandbox is worth. -/
noncomputable def Try.pinned : Pinned := { name := "ytagjfkkjmgfoiaa", sum := "5a8914bc9703d5ea628677335e19dc09cac76a4ecebbc4260fd25f352d5407e8", checked := Try.checked }
namespace Rows
def none {H : Type} : Left H := { results := [], args := [] }

/-- 'laws.FnRolled': WHATEVER THE INPUT: true; the input reads as it did. -/
def fnRolledSpec : ChangeSpec := { name := "fnRolled", fn := fun _ => fun
  | [d1, d2] => { results := [.lit (.bool true)], args := [d1, d2] }
  | _ => none }
def fnRolledRow : OpenClaim := { program := "ytagjfkkjmgfoiaa", sum := "5a8914bc9703d5ea628677335e19dc09cac76a4ecebbc4260fd25f352d5407e8", func := "loop.example/g00620/laws.FnRolled", spec := "fnRolled", recurses := true, apart := false }
def FnRolledSaid : Prop := fnRolledRow.holds Try.pinned (OpenSpec.ofChange fnRolledSpec)

/-- ITS FALSE NEIGHBOUR: 'it returns false'. Refute it at one input. -/
def fnRolledWrong : ChangeSpec := { name := "fnRolled", fn := fun _ => fun
  | [d1, d2] => { results := [.lit (.bool false)], args := [d1, d2] }
  | _ => none }
def FnRolledWrongFalsely : Prop := fnRolledRow.holds Try.pinned (OpenSpec.ofChange fnRolledWrong)

/-- 'laws.FnWritten': WHATEVER THE INPUT: true; the input reads as it did. -/
def fnWrittenSpec : ChangeSpec := { name := "fnWritten", fn := fun _ => fun
  | [d1, d2] => { results := [.lit (.bool true)], args := [d1, d2] }
  | _ => none }
def fnWrittenRow : OpenClaim := { program := "ytagjfkkjmgfoiaa", sum := "5a8914bc9703d5ea628677335e19dc09cac76a4ecebbc4260fd25f352d5407e8", func := "loop.example/g00620/laws.FnWritten", spec := "fnWritten", recurses := true, apart := false }
def FnWrittenSaid : Prop := fnWrittenRow.holds Try.pinned (OpenSpec.ofChange fnWrittenSpec)

/-- ITS FALSE NEIGHBOUR: 'it returns false'. Refute it at one input. -/
def fnWrittenWrong : ChangeSpec := { name := "fnWritten", fn := fun _ => fun
  | [d1, d2] => { results := [.lit (.bool false)], args := [d1, d2] }
  | _ => none }
def FnWrittenWrongFalsely : Prop := fnWrittenRow.holds Try.pinned (OpenSpec.ofChange fnWrittenWrong)

/-- 'laws.FnExactNewBook': WHATEVER THE INPUT: true; the input reads as it did. -/
def fnExactNewBookSpec : ChangeSpec := { name := "fnExactNewBook", fn := fun _ => fun
  | [d] => { results := [.lit (.bool true)], args := [d] }
  | _ => none }
def fnExactNewBookRow : OpenClaim := { program := "ytagjfkkjmgfoiaa", sum := "5a8914bc9703d5ea628677335e19dc09cac76a4ecebbc4260fd25f352d5407e8", func := "loop.example/g00620/laws.FnExactNewBook", spec := "fnExactNewBook", apart := false }
def FnExactNewBookSaid : Prop := fnExactNewBookRow.holds Try.pinned (OpenSpec.ofChange fnExactNewBookSpec)

/-- ITS FALSE NEIGHBOUR: 'it returns false'. Refute it at one input. -/
def fnExactNewBookWrong : ChangeSpec := { name := "fnExactNewBook", fn := fun _ => fun
  | [d] => { results := [.lit (.bool false)], args := [d] }
  | _ => none }
def FnExactNewBookWrongFalsely : Prop := fnExactNewBookRow.holds Try.pinned (OpenSpec.ofChange fnExactNewBookWrong)

/-- 'laws.FnExactGoodBook': WHATEVER THE INPUT: true; the input reads as it did. -/
def fnExactGoodBookSpec : ChangeSpec := { name := "fnExactGoodBook", fn := fun _ => fun
  | [d] => { results := [.lit (.bool true)], args := [d] }
  | _ => none }
def fnExactGoodBookRow : OpenClaim := { program := "ytagjfkkjmgfoiaa", sum := "5a8914bc9703d5ea628677335e19dc09cac76a4ecebbc4260fd25f352d5407e8", func := "loop.example/g00620/laws.FnExactGoodBook", spec := "fnExactGoodBook", apart := false }
def FnExactGoodBookSaid : Prop := fnExactGoodBookRow.holds Try.pinned (OpenSpec.ofChange fnExactGoodBookSpec)

/-- ITS FALSE NEIGHBOUR: 'it returns false'. Refute it at one input. -/
def fnExactGoodBookWrong : ChangeSpec := { name := "fnExactGoodBook", fn := fun _ => fun
  | [d] => { results := [.lit (.bool false)], args := [d] }
  | _ => none }
def FnExactGoodBookWrongFalsely : Prop := fnExactGoodBookRow.holds Try.pinned (OpenSpec.ofChange fnExactGoodBookWrong)

/-- 'laws.FnExactWriteCell': WHATEVER THE INPUT: true; the input reads as it did. -/
def fnExactWriteCellSpec : ChangeSpec := { name := "fnExactWriteCell", fn := fun _ => fun
  | [d1, d2, d3] => { results := [.lit (.bool true)], args := [d1, d2, d3] }
  | _ => none }
def fnExactWriteCellRow : OpenClaim := { program := "ytagjfkkjmgfoiaa", sum := "5a8914bc9703d5ea628677335e19dc09cac76a4ecebbc4260fd25f352d5407e8", func := "loop.example/g00620/laws.FnExactWriteCell", spec := "fnExactWriteCell", apart := false }
def FnExactWriteCellSaid : Prop := fnExactWriteCellRow.holds Try.pinned (OpenSpec.ofChange fnExactWriteCellSpec)

/-- ITS FALSE NEIGHBOUR: 'it returns false'. Refute it at one input. -/
def fnExactWriteCellWrong : ChangeSpec := { name := "fnExactWriteCell", fn := fun _ => fun
  | [d1, d2, d3] => { results := [.lit (.bool false)], args := [d1, d2, d3] }
  | _ => none }
def FnExactWriteCellWrongFalsely : Prop := fnExactWriteCellRow.holds Try.pinned (OpenSpec.ofChange fnExactWriteCellWrong)

/-- 'laws.FnExactEndEpoch': WHATEVER THE INPUT: true; the input reads as it did. -/
def fnExactEndEpochSpec : ChangeSpec := { name := "fnExactEndEpoch", fn := fun _ => fun
  | [d] => { results := [.lit (.bool true)], args := [d] }
  | _ => none }
def fnExactEndEpochRow : OpenClaim := { program := "ytagjfkkjmgfoiaa", sum := "5a8914bc9703d5ea628677335e19dc09cac76a4ecebbc4260fd25f352d5407e8", func := "loop.example/g00620/laws.FnExactEndEpoch", spec := "fnExactEndEpoch", recurses := true, apart := false }
def FnExactEndEpochSaid : Prop := fnExactEndEpochRow.holds Try.pinned (OpenSpec.ofChange fnExactEndEpochSpec)

/-- ITS FALSE NEIGHBOUR: 'it returns false'. Refute it at one input. -/
def fnExactEndEpochWrong : ChangeSpec := { name := "fnExactEndEpoch", fn := fun _ => fun
  | [d] => { results := [.lit (.bool false)], args := [d] }
  | _ => none }
def FnExactEndEpochWrongFalsely : Prop := fnExactEndEpochRow.holds Try.pinned (OpenSpec.ofChange fnExactEndEpochWrong)

/-- 'laws.FnExactRollBack': WHATEVER THE INPUT: true; the input reads as it did. -/
def fnExactRollBackSpec : ChangeSpec := { name := "fnExactRollBack", fn := fun _ => fun
  | [d] => { results := [.lit (.bool true)], args := [d] }
  | _ => none }
def fnExactRollBackRow : OpenClaim := { program := "ytagjfkkjmgfoiaa", sum := "5a8914bc9703d5ea628677335e19dc09cac76a4ecebbc4260fd25f352d5407e8", func := "loop.example/g00620/laws.FnExactRollBack", spec := "fnExactRollBack", recurses := true, apart := false }
def FnExactRollBackSaid : Prop := fnExactRollBackRow.holds Try.pinned (OpenSpec.ofChange fnExactRollBackSpec)

/-- ITS FALSE NEIGHBOUR: 'it returns false'. Refute it at one input. -/
def fnExactRollBackWrong : ChangeSpec := { name := "fnExactRollBack", fn := fun _ => fun
  | [d] => { results := [.lit (.bool false)], args := [d] }
  | _ => none }
def FnExactRollBackWrongFalsely : Prop := fnExactRollBackRow.holds Try.pinned (OpenSpec.ofChange fnExactRollBackWrong)

/-- 'laws.FnExactBeforeOf': WHATEVER THE INPUT: true; the input reads as it did. -/
def fnExactBeforeOfSpec : ChangeSpec := { name := "fnExactBeforeOf", fn := fun _ => fun
  | [d] => { results := [.lit (.bool true)], args := [d] }
  | _ => none }
def fnExactBeforeOfRow : OpenClaim := { program := "ytagjfkkjmgfoiaa", sum := "5a8914bc9703d5ea628677335e19dc09cac76a4ecebbc4260fd25f352d5407e8", func := "loop.example/g00620/laws.FnExactBeforeOf", spec := "fnExactBeforeOf", recurses := true, apart := false }
def FnExactBeforeOfSaid : Prop := fnExactBeforeOfRow.holds Try.pinned (OpenSpec.ofChange fnExactBeforeOfSpec)

/-- ITS FALSE NEIGHBOUR: 'it returns false'. Refute it at one input. -/
def fnExactBeforeOfWrong : ChangeSpec := { name := "fnExactBeforeOf", fn := fun _ => fun
  | [d] => { results := [.lit (.bool false)], args := [d] }
  | _ => none }
def FnExactBeforeOfWrongFalsely : Prop := fnExactBeforeOfRow.holds Try.pinned (OpenSpec.ofChange fnExactBeforeOfWrong)

/-- 'laws.FnExactTouchedIn': WHATEVER THE INPUT: true; the input reads as it did. -/
def fnExactTouchedInSpec : ChangeSpec := { name := "fnExactTouchedIn", fn := fun _ => fun
  | [d] => { results := [.lit (.bool true)], args := [d] }
  | _ => none }
def fnExactTouchedInRow : OpenClaim := { program := "ytagjfkkjmgfoiaa", sum := "5a8914bc9703d5ea628677335e19dc09cac76a4ecebbc4260fd25f352d5407e8", func := "loop.example/g00620/laws.FnExactTouchedIn", spec := "fnExactTouchedIn", recurses := true, apart := false }
def FnExactTouchedInSaid : Prop := fnExactTouchedInRow.holds Try.pinned (OpenSpec.ofChange fnExactTouchedInSpec)

/-- ITS FALSE NEIGHBOUR: 'it returns false'. Refute it at one input. -/
def fnExactTouchedInWrong : ChangeSpec := { name := "fnExactTouchedIn", fn := fun _ => fun
  | [d] => { results := [.lit (.bool false)], args := [d] }
  | _ => none }
def FnExactTouchedInWrongFalsely : Prop := fnExactTouchedInRow.holds Try.pinned (OpenSpec.ofChange fnExactTouchedInWrong)

/-- 'laws.FnExactWriteAll': WHATEVER THE INPUT: true; the input reads as it did. -/
def fnExactWriteAllSpec : ChangeSpec := { name := "fnExactWriteAll", fn := fun _ => fun
  | [d1, d2] => { results := [.lit (.bool true)], args := [d1, d2] }
  | _ => none }
def fnExactWriteAllRow : OpenClaim := { program := "ytagjfkkjmgfoiaa", sum := "5a8914bc9703d5ea628677335e19dc09cac76a4ecebbc4260fd25f352d5407e8", func := "loop.example/g00620/laws.FnExactWriteAll", spec := "fnExactWriteAll", apart := false }
def FnExactWriteAllSaid : Prop := fnExactWriteAllRow.holds Try.pinned (OpenSpec.ofChange fnExactWriteAllSpec)

/-- ITS FALSE NEIGHBOUR: 'it returns false'. Refute it at one input. -/
def fnExactWriteAllWrong : ChangeSpec := { name := "fnExactWriteAll", fn := fun _ => fun
  | [d1, d2] => { results := [.lit (.bool false)], args := [d1, d2] }
  | _ => none }
def FnExactWriteAllWrongFalsely : Prop := fnExactWriteAllRow.holds Try.pinned (OpenSpec.ofChange fnExactWriteAllWrong)

/- THE SECOND FORM. 'bulk': how many values and letters a reading holds, each counted each time it is reached (what is shared counts as often as it is met; a slice's spare places count too). A statement '..UptoSaid' is the law's where the arguments, and the package variables that the reading takes, are together of bulk at most 1048576: NARROWER than '..Said'. Prove '..Said' where nothing that the law and all that it calls make is longer than what came in: it says more and counts as full. Else prove '..UptoSaid'. A law counts once. -/
mutual
def uptoBulk {H : Type} : DataW H → Nat
  | .lit (.string bytes) => bytes.length + 1
  | .lit _ => 1
  | .nil => 1
  | .ptr d => uptoBulk d + 1
  | .slice elems spare => uptoBulkAll elems + uptoBulkAll spare + 1
  | .agg parts => uptoBulkAll parts + 1
  | .iface _ d => uptoBulk d + 1
  | .map entries => uptoBulkEntries entries + 1
  | .held _ => 1
def uptoBulkAll {H : Type} : List (DataW H) → Nat
  | [] => 0
  | d :: r => uptoBulk d + uptoBulkAll r
def uptoBulkEntries {H : Type} : List (Lit × DataW H) → Nat
  | [] => 0
  | x :: r => uptoBulkEntry x + uptoBulkEntries r
def uptoBulkEntry {H : Type} : Lit × DataW H → Nat
  | (.string bytes, d) => bytes.length + uptoBulk d + 1
  | (_, d) => uptoBulk d + 1
 end
def uptoSmall : (H : Type) → List (DataW H) → Bool := fun _ ds => decide (uptoBulkAll ds ≤ 1048576)
def OpenSpec.upto (s : _root_.Go.ChangeSpec) : _root_.Go.OpenSpec := { _root_.Go.OpenSpec.ofChange s with cond := some uptoSmall }

/-- 'laws.FnRolled', WHERE WHAT IT READS IS OF BULK AT MOST 1048576: true; the input reads as it did. -/
def fnRolledUptoRow : OpenClaim := { program := "ytagjfkkjmgfoiaa", sum := "5a8914bc9703d5ea628677335e19dc09cac76a4ecebbc4260fd25f352d5407e8", func := "loop.example/g00620/laws.FnRolled", spec := "fnRolled", recurses := true, apart := false, narrowed := true }
def FnRolledUptoSaid : Prop := fnRolledUptoRow.holds Try.pinned (OpenSpec.upto fnRolledSpec)

/-- 'laws.FnWritten', WHERE WHAT IT READS IS OF BULK AT MOST 1048576: true; the input reads as it did. -/
def fnWrittenUptoRow : OpenClaim := { program := "ytagjfkkjmgfoiaa", sum := "5a8914bc9703d5ea628677335e19dc09cac76a4ecebbc4260fd25f352d5407e8", func := "loop.example/g00620/laws.FnWritten", spec := "fnWritten", recurses := true, apart := false, narrowed := true }
def FnWrittenUptoSaid : Prop := fnWrittenUptoRow.holds Try.pinned (OpenSpec.upto fnWrittenSpec)

/-- 'laws.FnExactNewBook', WHERE WHAT IT READS IS OF BULK AT MOST 1048576: true; the input reads as it did. -/
def fnExactNewBookUptoRow : OpenClaim := { program := "ytagjfkkjmgfoiaa", sum := "5a8914bc9703d5ea628677335e19dc09cac76a4ecebbc4260fd25f352d5407e8", func := "loop.example/g00620/laws.FnExactNewBook", spec := "fnExactNewBook", apart := false, narrowed := true }
def FnExactNewBookUptoSaid : Prop := fnExactNewBookUptoRow.holds Try.pinned (OpenSpec.upto fnExactNewBookSpec)

/-- 'laws.FnExactGoodBook', WHERE WHAT IT READS IS OF BULK AT MOST 1048576: true; the input reads as it did. -/
def fnExactGoodBookUptoRow : OpenClaim := { program := "ytagjfkkjmgfoiaa", sum := "5a8914bc9703d5ea628677335e19dc09cac76a4ecebbc4260fd25f352d5407e8", func := "loop.example/g00620/laws.FnExactGoodBook", spec := "fnExactGoodBook", apart := false, narrowed := true }
def FnExactGoodBookUptoSaid : Prop := fnExactGoodBookUptoRow.holds Try.pinned (OpenSpec.upto fnExactGoodBookSpec)

/-- 'laws.FnExactWriteCell', WHERE WHAT IT READS IS OF BULK AT MOST 1048576: true; the input reads as it did. -/
def fnExactWriteCellUptoRow : OpenClaim := { program := "ytagjfkkjmgfoiaa", sum := "5a8914bc9703d5ea628677335e19dc09cac76a4ecebbc4260fd25f352d5407e8", func := "loop.example/g00620/laws.FnExactWriteCell", spec := "fnExactWriteCell", apart := false, narrowed := true }
def FnExactWriteCellUptoSaid : Prop := fnExactWriteCellUptoRow.holds Try.pinned (OpenSpec.upto fnExactWriteCellSpec)

/-- 'laws.FnExactEndEpoch', WHERE WHAT IT READS IS OF BULK AT MOST 1048576: true; the input reads as it did. -/
def fnExactEndEpochUptoRow : OpenClaim := { program := "ytagjfkkjmgfoiaa", sum := "5a8914bc9703d5ea628677335e19dc09cac76a4ecebbc4260fd25f352d5407e8", func := "loop.example/g00620/laws.FnExactEndEpoch", spec := "fnExactEndEpoch", recurses := true, apart := false, narrowed := true }
def FnExactEndEpochUptoSaid : Prop := fnExactEndEpochUptoRow.holds Try.pinned (OpenSpec.upto fnExactEndEpochSpec)

/-- 'laws.FnExactRollBack', WHERE WHAT IT READS IS OF BULK AT MOST 1048576: true; the input reads as it did. -/
def fnExactRollBackUptoRow : OpenClaim := { program := "ytagjfkkjmgfoiaa", sum := "5a8914bc9703d5ea628677335e19dc09cac76a4ecebbc4260fd25f352d5407e8", func := "loop.example/g00620/laws.FnExactRollBack", spec := "fnExactRollBack", recurses := true, apart := false, narrowed := true }
def FnExactRollBackUptoSaid : Prop := fnExactRollBackUptoRow.holds Try.pinned (OpenSpec.upto fnExactRollBackSpec)

/-- 'laws.FnExactBeforeOf', WHERE WHAT IT READS IS OF BULK AT MOST 1048576: true; the input reads as it did. -/
def fnExactBeforeOfUptoRow : OpenClaim := { program := "ytagjfkkjmgfoiaa", sum := "5a8914bc9703d5ea628677335e19dc09cac76a4ecebbc4260fd25f352d5407e8", func := "loop.example/g00620/laws.FnExactBeforeOf", spec := "fnExactBeforeOf", recurses := true, apart := false, narrowed := true }
def FnExactBeforeOfUptoSaid : Prop := fnExactBeforeOfUptoRow.holds Try.pinned (OpenSpec.upto fnExactBeforeOfSpec)

/-- 'laws.FnExactTouchedIn', WHERE WHAT IT READS IS OF BULK AT MOST 1048576: true; the input reads as it did. -/
def fnExactTouchedInUptoRow : OpenClaim := { program := "ytagjfkkjmgfoiaa", sum := "5a8914bc9703d5ea628677335e19dc09cac76a4ecebbc4260fd25f352d5407e8", func := "loop.example/g00620/laws.FnExactTouchedIn", spec := "fnExactTouchedIn", recurses := true, apart := false, narrowed := true }
def FnExactTouchedInUptoSaid : Prop := fnExactTouchedInUptoRow.holds Try.pinned (OpenSpec.upto fnExactTouchedInSpec)

/-- 'laws.FnExactWriteAll', WHERE WHAT IT READS IS OF BULK AT MOST 1048576: true; the input reads as it did. -/
def fnExactWriteAllUptoRow : OpenClaim := { program := "ytagjfkkjmgfoiaa", sum := "5a8914bc9703d5ea628677335e19dc09cac76a4ecebbc4260fd25f352d5407e8", func := "loop.example/g00620/laws.FnExactWriteAll", spec := "fnExactWriteAll", apart := false, narrowed := true }
def FnExactWriteAllUptoSaid : Prop := fnExactWriteAllUptoRow.holds Try.pinned (OpenSpec.upto fnExactWriteAllSpec)

end Rows
end Go.Proofs.Ytagjfkkjmgfoiaa
