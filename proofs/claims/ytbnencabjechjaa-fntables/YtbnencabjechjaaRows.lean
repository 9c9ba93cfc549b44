/-
  No cell of these rows narrows 'for every input' (looked for: loops, veiled, ifaces, maps, wideKeys, modest, calm, conditions, laid).
  DERIVED. THE GIVEN ROWS OF THIS SEAT. 10 by the template 'for every input the law returns true; each argument reads behind the call as it read before'; 0 by the template 'total and deterministic' (their statements: YtbnencabjechjaaTotals.lean).
  GIVEN WITH THE SEED: the statements are not yours to turn. If you find one false, say at which input.
  Laid BY PROGRAM, IN A SANDBOX (cutbox-rows.mjs): the forced cells as the released guide's own fill.sh prints them over the translation 657b30b351b4ac1d… (all of the seat's roots in one cut). By AI agents, Wed Nov 11 2026. No macro, syntax, notation, axiom, sorry.
-/
import Derived.Test.YtbnencabjechjaaChecked
import GoSem.Claim
import GoSem.ClaimJoined
import GoSem.ClaimMapViews
import Derived.JoinedTies
import Derived.KernelRfl
namespace Go.Proofs.Ytbnencabjechjaa
/- THE CELL 'sum', in the pinned program and in every row, IS THE sha256 OF THE DUMP (.gsa) THAT YtbnencabjechjaaProg.lean LOADS. Nothing in Lean hashes anything: it is a label: what it is worth is what the hold of that sum in a sandbox is worth. -/
noncomputable def Try.pinned : Pinned := { name := "ytbnencabjechjaa", sum := "657b30b351b4ac1d4599d4eec9fc7647bfd1b323b418084b10eb5b3a052d945d", checked := Try.checked }
namespace Rows
def none {H : Type} : Left H := { results := [], args := [] }

/-- 'laws.FnMapped': WHATEVER THE INPUT: true; the input reads as it did. -/
def fnMappedSpec : ChangeSpec := { name := "fnMapped", fn := fun _ => fun
  | [d1, d2] => { results := [.lit (.bool true)], args := [d1, d2] }
  | _ => none }
def fnMappedRow : OpenClaim := { program := "ytbnencabjechjaa", sum := "657b30b351b4ac1d4599d4eec9fc7647bfd1b323b418084b10eb5b3a052d945d", func := "loop.example/g00620/laws.FnMapped", spec := "fnMapped", unfollowed := true, recurses := true, apart := false }
def FnMappedSaid : Prop := fnMappedRow.holds Try.pinned (OpenSpec.ofChange fnMappedSpec)

/-- ITS FALSE NEIGHBOUR: 'it returns false'. Refute it at one input. -/
def fnMappedWrong : ChangeSpec := { name := "fnMapped", fn := fun _ => fun
  | [d1, d2] => { results := [.lit (.bool false)], args := [d1, d2] }
  | _ => none }
def FnMappedWrongFalsely : Prop := fnMappedRow.holds Try.pinned (OpenSpec.ofChange fnMappedWrong)

/-- 'laws.FnTables': WHATEVER THE INPUT: true; the input reads as it did. -/
def fnTablesSpec : ChangeSpec := { name := "fnTables", fn := fun _ => fun
  | [d1, d2] => { results := [.lit (.bool true)], args := [d1, d2] }
  | _ => none }
def fnTablesRow : OpenClaim := { program := "ytbnencabjechjaa", sum := "657b30b351b4ac1d4599d4eec9fc7647bfd1b323b418084b10eb5b3a052d945d", func := "loop.example/g00620/laws.FnTables", spec := "fnTables", unfollowed := true, recurses := true, apart := false }
def FnTablesSaid : Prop := fnTablesRow.holds Try.pinned (OpenSpec.ofChange fnTablesSpec)

/-- ITS FALSE NEIGHBOUR: 'it returns false'. Refute it at one input. -/
def fnTablesWrong : ChangeSpec := { name := "fnTables", fn := fun _ => fun
  | [d1, d2] => { results := [.lit (.bool false)], args := [d1, d2] }
  | _ => none }
def FnTablesWrongFalsely : Prop := fnTablesRow.holds Try.pinned (OpenSpec.ofChange fnTablesWrong)

/-- 'laws.FnExactNewTable': WHATEVER THE INPUT: true; the input reads as it did. -/
def fnExactNewTableSpec : ChangeSpec := { name := "fnExactNewTable", fn := fun _ => fun
  | [d] => { results := [.lit (.bool true)], args := [d] }
  | _ => none }
def fnExactNewTableRow : OpenClaim := { program := "ytbnencabjechjaa", sum := "657b30b351b4ac1d4599d4eec9fc7647bfd1b323b418084b10eb5b3a052d945d", func := "loop.example/g00620/laws.FnExactNewTable", spec := "fnExactNewTable", unfollowed := true, recurses := true, apart := false }
def FnExactNewTableSaid : Prop := fnExactNewTableRow.holds Try.pinned (OpenSpec.ofChange fnExactNewTableSpec)

/-- ITS FALSE NEIGHBOUR: 'it returns false'. Refute it at one input. -/
def fnExactNewTableWrong : ChangeSpec := { name := "fnExactNewTable", fn := fun _ => fun
  | [d] => { results := [.lit (.bool false)], args := [d] }
  | _ => none }
def FnExactNewTableWrongFalsely : Prop := fnExactNewTableRow.holds Try.pinned (OpenSpec.ofChange fnExactNewTableWrong)

/-- 'laws.FnExactGoodTable': WHATEVER THE INPUT: true; the input reads as it did. -/
def fnExactGoodTableSpec : ChangeSpec := { name := "fnExactGoodTable", fn := fun _ => fun
  | [d] => { results := [.lit (.bool true)], args := [d] }
  | _ => none }
def fnExactGoodTableRow : OpenClaim := { program := "ytbnencabjechjaa", sum := "657b30b351b4ac1d4599d4eec9fc7647bfd1b323b418084b10eb5b3a052d945d", func := "loop.example/g00620/laws.FnExactGoodTable", spec := "fnExactGoodTable", unfollowed := true, recurses := true, apart := false }
def FnExactGoodTableSaid : Prop := fnExactGoodTableRow.holds Try.pinned (OpenSpec.ofChange fnExactGoodTableSpec)

/-- ITS FALSE NEIGHBOUR: 'it returns false'. Refute it at one input. -/
def fnExactGoodTableWrong : ChangeSpec := { name := "fnExactGoodTable", fn := fun _ => fun
  | [d] => { results := [.lit (.bool false)], args := [d] }
  | _ => none }
def FnExactGoodTableWrongFalsely : Prop := fnExactGoodTableRow.holds Try.pinned (OpenSpec.ofChange fnExactGoodTableWrong)

/-- 'laws.FnExactMapPage': WHATEVER THE INPUT: true; the input reads as it did. -/
def fnExactMapPageSpec : ChangeSpec := { name := "fnExactMapPage", fn := fun _ => fun
  | [d1, d2, d3, d4] => { results := [.lit (.bool true)], args := [d1, d2, d3, d4] }
  | _ => none }
def fnExactMapPageRow : OpenClaim := { program := "ytbnencabjechjaa", sum := "657b30b351b4ac1d4599d4eec9fc7647bfd1b323b418084b10eb5b3a052d945d", func := "loop.example/g00620/laws.FnExactMapPage", spec := "fnExactMapPage", unfollowed := true, recurses := true, apart := false }
def FnExactMapPageSaid : Prop := fnExactMapPageRow.holds Try.pinned (OpenSpec.ofChange fnExactMapPageSpec)

/-- ITS FALSE NEIGHBOUR: 'it returns false'. Refute it at one input. -/
def fnExactMapPageWrong : ChangeSpec := { name := "fnExactMapPage", fn := fun _ => fun
  | [d1, d2, d3, d4] => { results := [.lit (.bool false)], args := [d1, d2, d3, d4] }
  | _ => none }
def FnExactMapPageWrongFalsely : Prop := fnExactMapPageRow.holds Try.pinned (OpenSpec.ofChange fnExactMapPageWrong)

/-- 'laws.FnExactUnmapPage': WHATEVER THE INPUT: true; the input reads as it did. -/
def fnExactUnmapPageSpec : ChangeSpec := { name := "fnExactUnmapPage", fn := fun _ => fun
  | [d1, d2] => { results := [.lit (.bool true)], args := [d1, d2] }
  | _ => none }
def fnExactUnmapPageRow : OpenClaim := { program := "ytbnencabjechjaa", sum := "657b30b351b4ac1d4599d4eec9fc7647bfd1b323b418084b10eb5b3a052d945d", func := "loop.example/g00620/laws.FnExactUnmapPage", spec := "fnExactUnmapPage", unfollowed := true, recurses := true, apart := false }
def FnExactUnmapPageSaid : Prop := fnExactUnmapPageRow.holds Try.pinned (OpenSpec.ofChange fnExactUnmapPageSpec)

/-- ITS FALSE NEIGHBOUR: 'it returns false'. Refute it at one input. -/
def fnExactUnmapPageWrong : ChangeSpec := { name := "fnExactUnmapPage", fn := fun _ => fun
  | [d1, d2] => { results := [.lit (.bool false)], args := [d1, d2] }
  | _ => none }
def FnExactUnmapPageWrongFalsely : Prop := fnExactUnmapPageRow.holds Try.pinned (OpenSpec.ofChange fnExactUnmapPageWrong)

/-- 'laws.FnExactWalkTo': WHATEVER THE INPUT: true; the input reads as it did. -/
def fnExactWalkToSpec : ChangeSpec := { name := "fnExactWalkTo", fn := fun _ => fun
  | [d1, d2, d3] => { results := [.lit (.bool true)], args := [d1, d2, d3] }
  | _ => none }
def fnExactWalkToRow : OpenClaim := { program := "ytbnencabjechjaa", sum := "657b30b351b4ac1d4599d4eec9fc7647bfd1b323b418084b10eb5b3a052d945d", func := "loop.example/g00620/laws.FnExactWalkTo", spec := "fnExactWalkTo", unfollowed := true, recurses := true, apart := false }
def FnExactWalkToSaid : Prop := fnExactWalkToRow.holds Try.pinned (OpenSpec.ofChange fnExactWalkToSpec)

/-- ITS FALSE NEIGHBOUR: 'it returns false'. Refute it at one input. -/
def fnExactWalkToWrong : ChangeSpec := { name := "fnExactWalkTo", fn := fun _ => fun
  | [d1, d2, d3] => { results := [.lit (.bool false)], args := [d1, d2, d3] }
  | _ => none }
def FnExactWalkToWrongFalsely : Prop := fnExactWalkToRow.holds Try.pinned (OpenSpec.ofChange fnExactWalkToWrong)

/-- 'laws.FnExactMappedIn': WHATEVER THE INPUT: true; the input reads as it did. -/
def fnExactMappedInSpec : ChangeSpec := { name := "fnExactMappedIn", fn := fun _ => fun
  | [d] => { results := [.lit (.bool true)], args := [d] }
  | _ => none }
def fnExactMappedInRow : OpenClaim := { program := "ytbnencabjechjaa", sum := "657b30b351b4ac1d4599d4eec9fc7647bfd1b323b418084b10eb5b3a052d945d", func := "loop.example/g00620/laws.FnExactMappedIn", spec := "fnExactMappedIn", unfollowed := true, recurses := true, apart := false }
def FnExactMappedInSaid : Prop := fnExactMappedInRow.holds Try.pinned (OpenSpec.ofChange fnExactMappedInSpec)

/-- ITS FALSE NEIGHBOUR: 'it returns false'. Refute it at one input. -/
def fnExactMappedInWrong : ChangeSpec := { name := "fnExactMappedIn", fn := fun _ => fun
  | [d] => { results := [.lit (.bool false)], args := [d] }
  | _ => none }
def FnExactMappedInWrongFalsely : Prop := fnExactMappedInRow.holds Try.pinned (OpenSpec.ofChange fnExactMappedInWrong)

/-- 'laws.FnExactProtectPage': WHATEVER THE INPUT: true; the input reads as it did. -/
def fnExactProtectPageSpec : ChangeSpec := { name := "fnExactProtectPage", fn := fun _ => fun
  | [d1, d2, d3] => { results := [.lit (.bool true)], args := [d1, d2, d3] }
  | _ => none }
def fnExactProtectPageRow : OpenClaim := { program := "ytbnencabjechjaa", sum := "657b30b351b4ac1d4599d4eec9fc7647bfd1b323b418084b10eb5b3a052d945d", func := "loop.example/g00620/laws.FnExactProtectPage", spec := "fnExactProtectPage", unfollowed := true, recurses := true, apart := false }
def FnExactProtectPageSaid : Prop := fnExactProtectPageRow.holds Try.pinned (OpenSpec.ofChange fnExactProtectPageSpec)

/-- ITS FALSE NEIGHBOUR: 'it returns false'. Refute it at one input. -/
def fnExactProtectPageWrong : ChangeSpec := { name := "fnExactProtectPage", fn := fun _ => fun
  | [d1, d2, d3] => { results := [.lit (.bool false)], args := [d1, d2, d3] }
  | _ => none }
def FnExactProtectPageWrongFalsely : Prop := fnExactProtectPageRow.holds Try.pinned (OpenSpec.ofChange fnExactProtectPageWrong)

/-- 'laws.FnExactUsedTables': WHATEVER THE INPUT: true; the input reads as it did. -/
def fnExactUsedTablesSpec : ChangeSpec := { name := "fnExactUsedTables", fn := fun _ => fun
  | [d] => { results := [.lit (.bool true)], args := [d] }
  | _ => none }
def fnExactUsedTablesRow : OpenClaim := { program := "ytbnencabjechjaa", sum := "657b30b351b4ac1d4599d4eec9fc7647bfd1b323b418084b10eb5b3a052d945d", func := "loop.example/g00620/laws.FnExactUsedTables", spec := "fnExactUsedTables", unfollowed := true, recurses := true, apart := false }
def FnExactUsedTablesSaid : Prop := fnExactUsedTablesRow.holds Try.pinned (OpenSpec.ofChange fnExactUsedTablesSpec)

/-- ITS FALSE NEIGHBOUR: 'it returns false'. Refute it at one input. -/
def fnExactUsedTablesWrong : ChangeSpec := { name := "fnExactUsedTables", fn := fun _ => fun
  | [d] => { results := [.lit (.bool false)], args := [d] }
  | _ => none }
def FnExactUsedTablesWrongFalsely : Prop := fnExactUsedTablesRow.holds Try.pinned (OpenSpec.ofChange fnExactUsedTablesWrong)

/- THE SECOND FORM. 'bulk': how many values and letters a reading holds, each counted each time it is reached (what is shared counts as often as it is met; a slice's spare places count too). A statement '..UptoSaid' is the law's where the arguments, and the package variables that the reading takes, are together of bulk at most 1048576: NARROWER than '..Said'. Prove '..Said' where nothing that the law and all that it calls make is longer than what came in: it says more and counts as full. Else prove '..UptoSaid'. A law counts once. -/
mutual
def uptoBulk {H : Type} : DataW H → Nat
  | .lit (.string bytes) => bytes.length + 1
  | .lit _ => 1
  | .nil => 1
  | .ptr d => uptoBulk d + 1
  | .slice elems spare => uptoBulkAll elems + uptoBulkAll spare + 1
  | .agg parts => uptoBulkAll parts + 1
  | .iface _ d => uptoBulk d + 1
  | .map entries => uptoBulkEntries entries + 1
  | .held _ => 1
def uptoBulkAll {H : Type} : List (DataW H) → Nat
  | [] => 0
  | d :: r => uptoBulk d + uptoBulkAll r
def uptoBulkEntries {H : Type} : List (Lit × DataW H) → Nat
  | [] => 0
  | x :: r => uptoBulkEntry x + uptoBulkEntries r
def uptoBulkEntry {H : Type} : Lit × DataW H → Nat
  | (.string bytes, d) => bytes.length + uptoBulk d + 1
  | (_, d) => uptoBulk d + 1
 end
def uptoSmall : (H : Type) → List (DataW H) → Bool := fun _ ds => decide (uptoBulkAll ds ≤ 1048576)
def OpenSpec.upto (s : _root_.Go.ChangeSpec) : _root_.Go.OpenSpec := { _root_.Go.OpenSpec.ofChange s with cond := some uptoSmall }

/-- 'laws.FnMapped', WHERE WHAT IT READS IS OF BULK AT MOST 1048576: true; the input reads as it did. -/
def fnMappedUptoRow : OpenClaim := { program := "ytbnencabjechjaa", sum := "657b30b351b4ac1d4599d4eec9fc7647bfd1b323b418084b10eb5b3a052d945d", func := "loop.example/g00620/laws.FnMapped", spec := "fnMapped", unfollowed := true, recurses := true, apart := false, narrowed := true }
def FnMappedUptoSaid : Prop := fnMappedUptoRow.holds Try.pinned (OpenSpec.upto fnMappedSpec)

/-- 'laws.FnTables', WHERE WHAT IT READS IS OF BULK AT MOST 1048576: true; the input reads as it did. -/
def fnTablesUptoRow : OpenClaim := { program := "ytbnencabjechjaa", sum := "657b30b351b4ac1d4599d4eec9fc7647bfd1b323b418084b10eb5b3a052d945d", func := "loop.example/g00620/laws.FnTables", spec := "fnTables", unfollowed := true, recurses := true, apart := false, narrowed := true }
def FnTablesUptoSaid : Prop := fnTablesUptoRow.holds Try.pinned (OpenSpec.upto fnTablesSpec)

/-- 'laws.FnExactNewTable', WHERE WHAT IT READS IS OF BULK AT MOST 1048576: true; the input reads as it did. -/
def fnExactNewTableUptoRow : OpenClaim := { program := "ytbnencabjechjaa", sum := "657b30b351b4ac1d4599d4eec9fc7647bfd1b323b418084b10eb5b3a052d945d", func := "loop.example/g00620/laws.FnExactNewTable", spec := "fnExactNewTable", unfollowed := true, recurses := true, apart := false, narrowed := true }
def FnExactNewTableUptoSaid : Prop := fnExactNewTableUptoRow.holds Try.pinned (OpenSpec.upto fnExactNewTableSpec)

/-- 'laws.FnExactGoodTable', WHERE WHAT IT READS IS OF BULK AT MOST 1048576: true; the input reads as it did. -/
def fnExactGoodTableUptoRow : OpenClaim := { program := "ytbnencabjechjaa", sum := "657b30b351b4ac1d4599d4eec9fc7647bfd1b323b418084b10eb5b3a052d945d", func := "loop.example/g00620/laws.FnExactGoodTable", spec := "fnExactGoodTable", unfollowed := true, recurses := true, apart := false, narrowed := true }
def FnExactGoodTableUptoSaid : Prop := fnExactGoodTableUptoRow.holds Try.pinned (OpenSpec.upto fnExactGoodTableSpec)

/-- 'laws.FnExactMapPage', WHERE WHAT IT READS IS OF BULK AT MOST 1048576: true; the input reads as it did. -/
def fnExactMapPageUptoRow : OpenClaim := { program := "ytbnencabjechjaa", sum := "657b30b351b4ac1d4599d4eec9fc7647bfd1b323b418084b10eb5b3a052d945d", func := "loop.example/g00620/laws.FnExactMapPage", spec := "fnExactMapPage", unfollowed := true, recurses := true, apart := false, narrowed := true }
def FnExactMapPageUptoSaid : Prop := fnExactMapPageUptoRow.holds Try.pinned (OpenSpec.upto fnExactMapPageSpec)

/-- 'laws.FnExactUnmapPage', WHERE WHAT IT READS IS OF BULK AT MOST 1048576: true; the input reads as it did. -/
def fnExactUnmapPageUptoRow : OpenClaim := { program := "ytbnencabjechjaa", sum := "657b30b351b4ac1d4599d4eec9fc7647bfd1b323b418084b10eb5b3a052d945d", func := "loop.example/g00620/laws.FnExactUnmapPage", spec := "fnExactUnmapPage", unfollowed := true, recurses := true, apart := false, narrowed := true }
def FnExactUnmapPageUptoSaid : Prop := fnExactUnmapPageUptoRow.holds Try.pinned (OpenSpec.upto fnExactUnmapPageSpec)

/-- 'laws.FnExactWalkTo', WHERE WHAT IT READS IS OF BULK AT MOST 1048576: true; the input reads as it did. -/
def fnExactWalkToUptoRow : OpenClaim := { program := "ytbnencabjechjaa", sum := "657b30b351b4ac1d4599d4eec9fc7647bfd1b323b418084b10eb5b3a052d945d", func := "loop.example/g00620/laws.FnExactWalkTo", spec := "fnExactWalkTo", unfollowed := true, recurses := true, apart := false, narrowed := true }
def FnExactWalkToUptoSaid : Prop := fnExactWalkToUptoRow.holds Try.pinned (OpenSpec.upto fnExactWalkToSpec)

/-- 'laws.FnExactMappedIn', WHERE WHAT IT READS IS OF BULK AT MOST 1048576: true; the input reads as it did. -/
def fnExactMappedInUptoRow : OpenClaim := { program := "ytbnencabjechjaa", sum := "657b30b351b4ac1d4599d4eec9fc7647bfd1b323b418084b10eb5b3a052d945d", func := "loop.example/g00620/laws.FnExactMappedIn", spec := "fnExactMappedIn", unfollowed := true, recurses := true, apart := false, narrowed := true }
def FnExactMappedInUptoSaid : Prop := fnExactMappedInUptoRow.holds Try.pinned (OpenSpec.upto fnExactMappedInSpec)

/-- 'laws.FnExactProtectPage', WHERE WHAT IT READS IS OF BULK AT MOST 1048576: true; the input reads as it did. -/
def fnExactProtectPageUptoRow : OpenClaim := { program := "ytbnencabjechjaa", sum := "657b30b351b4ac1d4599d4eec9fc7647bfd1b323b418084b10eb5b3a052d945d", func := "loop.example/g00620/laws.FnExactProtectPage", spec := "fnExactProtectPage", unfollowed := true, recurses := true, apart := false, narrowed := true }
def FnExactProtectPageUptoSaid : Prop := fnExactProtectPageUptoRow.holds Try.pinned (OpenSpec.upto fnExactProtectPageSpec)

/-- 'laws.FnExactUsedTables', WHERE WHAT IT READS IS OF BULK AT MOST 1048576: true; the input reads as it did. -/
def fnExactUsedTablesUptoRow : OpenClaim := { program := "ytbnencabjechjaa", sum := "657b30b351b4ac1d4599d4eec9fc7647bfd1b323b418084b10eb5b3a052d945d", func := "loop.example/g00620/laws.FnExactUsedTables", spec := "fnExactUsedTables", unfollowed := true, recurses := true, apart := false, narrowed := true }
def FnExactUsedTablesUptoSaid : Prop := fnExactUsedTablesUptoRow.holds Try.pinned (OpenSpec.upto fnExactUsedTablesSpec)

end Rows
end Go.Proofs.Ytbnencabjechjaa
