/-
  No cell of these rows narrows 'for every input' (looked for: loops, veiled, ifaces, maps, wideKeys, modest, calm, conditions, laid).
  DERIVED. THE GIVEN ROWS OF THIS SEAT. 12 by the template 'for every input the law returns true; each argument reads behind the call as it read before'; 0 by the template 'total and deterministic' (their statements: YtjplodenflkghaaTotals.lean).
  GIVEN WITH THE SEED: the statements are not yours to turn. If you find one false, say at which input.
  Laid BY PROGRAM, IN A SANDBOX (cutbox-rows.mjs): the forced cells as the released guide's own fill.sh prints them over the translation 4fee6f2590f1b3f5… (all of the seat's roots in one cut). By AI agents, Wed Nov 11 2026. No macro, syntax, notation, axiom, sorry.
-/
import Derived.Test.YtjplodenflkghaaChecked
import GoSem.Claim
import GoSem.ClaimJoined
import GoSem.ClaimMapViews
import Derived.JoinedTies
import Derived.KernelRfl
namespace Go.Proofs.Ytjplodenflkghaa
/- THE CELL 'sum', in the pinned program and in every row, IS THE sha256 OF THE DUMP (.gsa) THAT YtjplodenflkghaaProg.lean LOADS. Nothing in Lean hashes anything: it is a label: what it is worth is what the hold of that sum in a sandbox is worth. -/
noncomputable def Try.pinned : Pinned := { name := "ytjplodenflkghaa", sum := "4fee6f2590f1b3f570a48e1a0f6c6536362be86a977dfaca31a40e4874be826a", checked := Try.checked }
namespace Rows
def none {H : Type} : Left H := { results := [], args := [] }

/-- 'laws.FnWalks': WHATEVER THE INPUT: true; the input reads as it did. -/
def fnWalksSpec : ChangeSpec := { name := "fnWalks", fn := fun _ => fun
  | [d] => { results := [.lit (.bool true)], args := [d] }
  | _ => none }
def fnWalksRow : OpenClaim := { program := "ytjplodenflkghaa", sum := "4fee6f2590f1b3f570a48e1a0f6c6536362be86a977dfaca31a40e4874be826a", func := "loop.example/g00620/laws.FnWalks", spec := "fnWalks", unfollowed := true, recurses := true, apart := false }
def FnWalksSaid : Prop := fnWalksRow.holds Try.pinned (OpenSpec.ofChange fnWalksSpec)

/-- ITS FALSE NEIGHBOUR: 'it returns false'. Refute it at one input. -/
def fnWalksWrong : ChangeSpec := { name := "fnWalks", fn := fun _ => fun
  | [d] => { results := [.lit (.bool false)], args := [d] }
  | _ => none }
def FnWalksWrongFalsely : Prop := fnWalksRow.holds Try.pinned (OpenSpec.ofChange fnWalksWrong)

/-- 'laws.FnKeptWays': WHATEVER THE INPUT: true; the input reads as it did. -/
def fnKeptWaysSpec : ChangeSpec := { name := "fnKeptWays", fn := fun _ => fun
  | [d1, d2] => { results := [.lit (.bool true)], args := [d1, d2] }
  | _ => none }
def fnKeptWaysRow : OpenClaim := { program := "ytjplodenflkghaa", sum := "4fee6f2590f1b3f570a48e1a0f6c6536362be86a977dfaca31a40e4874be826a", func := "loop.example/g00620/laws.FnKeptWays", spec := "fnKeptWays", unfollowed := true, recurses := true, apart := false }
def FnKeptWaysSaid : Prop := fnKeptWaysRow.holds Try.pinned (OpenSpec.ofChange fnKeptWaysSpec)

/-- ITS FALSE NEIGHBOUR: 'it returns false'. Refute it at one input. -/
def fnKeptWaysWrong : ChangeSpec := { name := "fnKeptWays", fn := fun _ => fun
  | [d1, d2] => { results := [.lit (.bool false)], args := [d1, d2] }
  | _ => none }
def FnKeptWaysWrongFalsely : Prop := fnKeptWaysRow.holds Try.pinned (OpenSpec.ofChange fnKeptWaysWrong)

/-- 'laws.FnNest': WHATEVER THE INPUT: true; the input reads as it did. -/
def fnNestSpec : ChangeSpec := { name := "fnNest", fn := fun _ => fun
  | [d1, d2] => { results := [.lit (.bool true)], args := [d1, d2] }
  | _ => none }
def fnNestRow : OpenClaim := { program := "ytjplodenflkghaa", sum := "4fee6f2590f1b3f570a48e1a0f6c6536362be86a977dfaca31a40e4874be826a", func := "loop.example/g00620/laws.FnNest", spec := "fnNest", unfollowed := true, recurses := true, apart := false }
def FnNestSaid : Prop := fnNestRow.holds Try.pinned (OpenSpec.ofChange fnNestSpec)

/-- ITS FALSE NEIGHBOUR: 'it returns false'. Refute it at one input. -/
def fnNestWrong : ChangeSpec := { name := "fnNest", fn := fun _ => fun
  | [d1, d2] => { results := [.lit (.bool false)], args := [d1, d2] }
  | _ => none }
def FnNestWrongFalsely : Prop := fnNestRow.holds Try.pinned (OpenSpec.ofChange fnNestWrong)

/-- 'laws.FnIsolated': WHATEVER THE INPUT: true; the input reads as it did. -/
def fnIsolatedSpec : ChangeSpec := { name := "fnIsolated", fn := fun _ => fun
  | [d1, d2] => { results := [.lit (.bool true)], args := [d1, d2] }
  | _ => none }
def fnIsolatedRow : OpenClaim := { program := "ytjplodenflkghaa", sum := "4fee6f2590f1b3f570a48e1a0f6c6536362be86a977dfaca31a40e4874be826a", func := "loop.example/g00620/laws.FnIsolated", spec := "fnIsolated", unfollowed := true, recurses := true, apart := false }
def FnIsolatedSaid : Prop := fnIsolatedRow.holds Try.pinned (OpenSpec.ofChange fnIsolatedSpec)

/-- ITS FALSE NEIGHBOUR: 'it returns false'. Refute it at one input. -/
def fnIsolatedWrong : ChangeSpec := { name := "fnIsolated", fn := fun _ => fun
  | [d1, d2] => { results := [.lit (.bool false)], args := [d1, d2] }
  | _ => none }
def FnIsolatedWrongFalsely : Prop := fnIsolatedRow.holds Try.pinned (OpenSpec.ofChange fnIsolatedWrong)

/-- 'laws.FnExactPlayWalker': WHATEVER THE INPUT: true; the input reads as it did. -/
def fnExactPlayWalkerSpec : ChangeSpec := { name := "fnExactPlayWalker", fn := fun _ => fun
  | [d1, d2] => { results := [.lit (.bool true)], args := [d1, d2] }
  | _ => none }
def fnExactPlayWalkerRow : OpenClaim := { program := "ytjplodenflkghaa", sum := "4fee6f2590f1b3f570a48e1a0f6c6536362be86a977dfaca31a40e4874be826a", func := "loop.example/g00620/laws.FnExactPlayWalker", spec := "fnExactPlayWalker", unfollowed := true, recurses := true, apart := false }
def FnExactPlayWalkerSaid : Prop := fnExactPlayWalkerRow.holds Try.pinned (OpenSpec.ofChange fnExactPlayWalkerSpec)

/-- ITS FALSE NEIGHBOUR: 'it returns false'. Refute it at one input. -/
def fnExactPlayWalkerWrong : ChangeSpec := { name := "fnExactPlayWalker", fn := fun _ => fun
  | [d1, d2] => { results := [.lit (.bool false)], args := [d1, d2] }
  | _ => none }
def FnExactPlayWalkerWrongFalsely : Prop := fnExactPlayWalkerRow.holds Try.pinned (OpenSpec.ofChange fnExactPlayWalkerWrong)

/-- 'laws.FnExactGoodNest': WHATEVER THE INPUT: true; the input reads as it did. -/
def fnExactGoodNestSpec : ChangeSpec := { name := "fnExactGoodNest", fn := fun _ => fun
  | [d] => { results := [.lit (.bool true)], args := [d] }
  | _ => none }
def fnExactGoodNestRow : OpenClaim := { program := "ytjplodenflkghaa", sum := "4fee6f2590f1b3f570a48e1a0f6c6536362be86a977dfaca31a40e4874be826a", func := "loop.example/g00620/laws.FnExactGoodNest", spec := "fnExactGoodNest", unfollowed := true, recurses := true, apart := false }
def FnExactGoodNestSaid : Prop := fnExactGoodNestRow.holds Try.pinned (OpenSpec.ofChange fnExactGoodNestSpec)

/-- ITS FALSE NEIGHBOUR: 'it returns false'. Refute it at one input. -/
def fnExactGoodNestWrong : ChangeSpec := { name := "fnExactGoodNest", fn := fun _ => fun
  | [d] => { results := [.lit (.bool false)], args := [d] }
  | _ => none }
def FnExactGoodNestWrongFalsely : Prop := fnExactGoodNestRow.holds Try.pinned (OpenSpec.ofChange fnExactGoodNestWrong)

/-- 'laws.FnExactWalkNest': WHATEVER THE INPUT: true; the input reads as it did. -/
def fnExactWalkNestSpec : ChangeSpec := { name := "fnExactWalkNest", fn := fun _ => fun
  | [d1, d2, d3] => { results := [.lit (.bool true)], args := [d1, d2, d3] }
  | _ => none }
def fnExactWalkNestRow : OpenClaim := { program := "ytjplodenflkghaa", sum := "4fee6f2590f1b3f570a48e1a0f6c6536362be86a977dfaca31a40e4874be826a", func := "loop.example/g00620/laws.FnExactWalkNest", spec := "fnExactWalkNest", unfollowed := true, recurses := true, apart := false }
def FnExactWalkNestSaid : Prop := fnExactWalkNestRow.holds Try.pinned (OpenSpec.ofChange fnExactWalkNestSpec)

/-- ITS FALSE NEIGHBOUR: 'it returns false'. Refute it at one input. -/
def fnExactWalkNestWrong : ChangeSpec := { name := "fnExactWalkNest", fn := fun _ => fun
  | [d1, d2, d3] => { results := [.lit (.bool false)], args := [d1, d2, d3] }
  | _ => none }
def FnExactWalkNestWrongFalsely : Prop := fnExactWalkNestRow.holds Try.pinned (OpenSpec.ofChange fnExactWalkNestWrong)

/-- 'laws.FnExactFlatOf': WHATEVER THE INPUT: true; the input reads as it did. -/
def fnExactFlatOfSpec : ChangeSpec := { name := "fnExactFlatOf", fn := fun _ => fun
  | [d] => { results := [.lit (.bool true)], args := [d] }
  | _ => none }
def fnExactFlatOfRow : OpenClaim := { program := "ytjplodenflkghaa", sum := "4fee6f2590f1b3f570a48e1a0f6c6536362be86a977dfaca31a40e4874be826a", func := "loop.example/g00620/laws.FnExactFlatOf", spec := "fnExactFlatOf", unfollowed := true, recurses := true, apart := false }
def FnExactFlatOfSaid : Prop := fnExactFlatOfRow.holds Try.pinned (OpenSpec.ofChange fnExactFlatOfSpec)

/-- ITS FALSE NEIGHBOUR: 'it returns false'. Refute it at one input. -/
def fnExactFlatOfWrong : ChangeSpec := { name := "fnExactFlatOf", fn := fun _ => fun
  | [d] => { results := [.lit (.bool false)], args := [d] }
  | _ => none }
def FnExactFlatOfWrongFalsely : Prop := fnExactFlatOfRow.holds Try.pinned (OpenSpec.ofChange fnExactFlatOfWrong)

/-- 'laws.FnExactReachedBy': WHATEVER THE INPUT: true; the input reads as it did. -/
def fnExactReachedBySpec : ChangeSpec := { name := "fnExactReachedBy", fn := fun _ => fun
  | [d] => { results := [.lit (.bool true)], args := [d] }
  | _ => none }
def fnExactReachedByRow : OpenClaim := { program := "ytjplodenflkghaa", sum := "4fee6f2590f1b3f570a48e1a0f6c6536362be86a977dfaca31a40e4874be826a", func := "loop.example/g00620/laws.FnExactReachedBy", spec := "fnExactReachedBy", unfollowed := true, recurses := true, apart := false }
def FnExactReachedBySaid : Prop := fnExactReachedByRow.holds Try.pinned (OpenSpec.ofChange fnExactReachedBySpec)

/-- ITS FALSE NEIGHBOUR: 'it returns false'. Refute it at one input. -/
def fnExactReachedByWrong : ChangeSpec := { name := "fnExactReachedBy", fn := fun _ => fun
  | [d] => { results := [.lit (.bool false)], args := [d] }
  | _ => none }
def FnExactReachedByWrongFalsely : Prop := fnExactReachedByRow.holds Try.pinned (OpenSpec.ofChange fnExactReachedByWrong)

/-- 'laws.FnExactWatchWrites': WHATEVER THE INPUT: true; the input reads as it did. -/
def fnExactWatchWritesSpec : ChangeSpec := { name := "fnExactWatchWrites", fn := fun _ => fun
  | [d1, d2] => { results := [.lit (.bool true)], args := [d1, d2] }
  | _ => none }
def fnExactWatchWritesRow : OpenClaim := { program := "ytjplodenflkghaa", sum := "4fee6f2590f1b3f570a48e1a0f6c6536362be86a977dfaca31a40e4874be826a", func := "loop.example/g00620/laws.FnExactWatchWrites", spec := "fnExactWatchWrites", unfollowed := true, recurses := true, apart := false }
def FnExactWatchWritesSaid : Prop := fnExactWatchWritesRow.holds Try.pinned (OpenSpec.ofChange fnExactWatchWritesSpec)

/-- ITS FALSE NEIGHBOUR: 'it returns false'. Refute it at one input. -/
def fnExactWatchWritesWrong : ChangeSpec := { name := "fnExactWatchWrites", fn := fun _ => fun
  | [d1, d2] => { results := [.lit (.bool false)], args := [d1, d2] }
  | _ => none }
def FnExactWatchWritesWrongFalsely : Prop := fnExactWatchWritesRow.holds Try.pinned (OpenSpec.ofChange fnExactWatchWritesWrong)

/-- 'laws.FnExactLetWrite': WHATEVER THE INPUT: true; the input reads as it did. -/
def fnExactLetWriteSpec : ChangeSpec := { name := "fnExactLetWrite", fn := fun _ => fun
  | [d1, d2] => { results := [.lit (.bool true)], args := [d1, d2] }
  | _ => none }
def fnExactLetWriteRow : OpenClaim := { program := "ytjplodenflkghaa", sum := "4fee6f2590f1b3f570a48e1a0f6c6536362be86a977dfaca31a40e4874be826a", func := "loop.example/g00620/laws.FnExactLetWrite", spec := "fnExactLetWrite", unfollowed := true, recurses := true, apart := false }
def FnExactLetWriteSaid : Prop := fnExactLetWriteRow.holds Try.pinned (OpenSpec.ofChange fnExactLetWriteSpec)

/-- ITS FALSE NEIGHBOUR: 'it returns false'. Refute it at one input. -/
def fnExactLetWriteWrong : ChangeSpec := { name := "fnExactLetWrite", fn := fun _ => fun
  | [d1, d2] => { results := [.lit (.bool false)], args := [d1, d2] }
  | _ => none }
def FnExactLetWriteWrongFalsely : Prop := fnExactLetWriteRow.holds Try.pinned (OpenSpec.ofChange fnExactLetWriteWrong)

/-- 'laws.FnExactIsolated': WHATEVER THE INPUT: true; the input reads as it did. -/
def fnExactIsolatedSpec : ChangeSpec := { name := "fnExactIsolated", fn := fun _ => fun
  | [d1, d2] => { results := [.lit (.bool true)], args := [d1, d2] }
  | _ => none }
def fnExactIsolatedRow : OpenClaim := { program := "ytjplodenflkghaa", sum := "4fee6f2590f1b3f570a48e1a0f6c6536362be86a977dfaca31a40e4874be826a", func := "loop.example/g00620/laws.FnExactIsolated", spec := "fnExactIsolated", unfollowed := true, recurses := true, apart := false }
def FnExactIsolatedSaid : Prop := fnExactIsolatedRow.holds Try.pinned (OpenSpec.ofChange fnExactIsolatedSpec)

/-- ITS FALSE NEIGHBOUR: 'it returns false'. Refute it at one input. -/
def fnExactIsolatedWrong : ChangeSpec := { name := "fnExactIsolated", fn := fun _ => fun
  | [d1, d2] => { results := [.lit (.bool false)], args := [d1, d2] }
  | _ => none }
def FnExactIsolatedWrongFalsely : Prop := fnExactIsolatedRow.holds Try.pinned (OpenSpec.ofChange fnExactIsolatedWrong)

/- THE SECOND FORM. 'bulk': how many values and letters a reading holds, each counted each time it is reached (what is shared counts as often as it is met; a slice's spare places count too). A statement '..UptoSaid' is the law's where the arguments, and the package variables that the reading takes, are together of bulk at most 1048576: NARROWER than '..Said'. Prove '..Said' where nothing that the law and all that it calls make is longer than what came in: it says more and counts as full. Else prove '..UptoSaid'. A law counts once. -/
mutual
def uptoBulk {H : Type} : DataW H → Nat
  | .lit (.string bytes) => bytes.length + 1
  | .lit _ => 1
  | .nil => 1
  | .ptr d => uptoBulk d + 1
  | .slice elems spare => uptoBulkAll elems + uptoBulkAll spare + 1
  | .agg parts => uptoBulkAll parts + 1
  | .iface _ d => uptoBulk d + 1
  | .map entries => uptoBulkEntries entries + 1
  | .held _ => 1
def uptoBulkAll {H : Type} : List (DataW H) → Nat
  | [] => 0
  | d :: r => uptoBulk d + uptoBulkAll r
def uptoBulkEntries {H : Type} : List (Lit × DataW H) → Nat
  | [] => 0
  | x :: r => uptoBulkEntry x + uptoBulkEntries r
def uptoBulkEntry {H : Type} : Lit × DataW H → Nat
  | (.string bytes, d) => bytes.length + uptoBulk d + 1
  | (_, d) => uptoBulk d + 1
 end
def uptoSmall : (H : Type) → List (DataW H) → Bool := fun _ ds => decide (uptoBulkAll ds ≤ 1048576)
def OpenSpec.upto (s : _root_.Go.ChangeSpec) : _root_.Go.OpenSpec := { _root_.Go.OpenSpec.ofChange s with cond := some uptoSmall }

/-- 'laws.FnWalks', WHERE WHAT IT READS IS OF BULK AT MOST 1048576: true; the input reads as it did. -/
def fnWalksUptoRow : OpenClaim := { program := "ytjplodenflkghaa", sum := "4fee6f2590f1b3f570a48e1a0f6c6536362be86a977dfaca31a40e4874be826a", func := "loop.example/g00620/laws.FnWalks", spec := "fnWalks", unfollowed := true, recurses := true, apart := false, narrowed := true }
def FnWalksUptoSaid : Prop := fnWalksUptoRow.holds Try.pinned (OpenSpec.upto fnWalksSpec)

/-- 'laws.FnKeptWays', WHERE WHAT IT READS IS OF BULK AT MOST 1048576: true; the input reads as it did. -/
def fnKeptWaysUptoRow : OpenClaim := { program := "ytjplodenflkghaa", sum := "4fee6f2590f1b3f570a48e1a0f6c6536362be86a977dfaca31a40e4874be826a", func := "loop.example/g00620/laws.FnKeptWays", spec := "fnKeptWays", unfollowed := true, recurses := true, apart := false, narrowed := true }
def FnKeptWaysUptoSaid : Prop := fnKeptWaysUptoRow.holds Try.pinned (OpenSpec.upto fnKeptWaysSpec)

/-- 'laws.FnNest', WHERE WHAT IT READS IS OF BULK AT MOST 1048576: true; the input reads as it did. -/
def fnNestUptoRow : OpenClaim := { program := "ytjplodenflkghaa", sum := "4fee6f2590f1b3f570a48e1a0f6c6536362be86a977dfaca31a40e4874be826a", func := "loop.example/g00620/laws.FnNest", spec := "fnNest", unfollowed := true, recurses := true, apart := false, narrowed := true }
def FnNestUptoSaid : Prop := fnNestUptoRow.holds Try.pinned (OpenSpec.upto fnNestSpec)

/-- 'laws.FnIsolated', WHERE WHAT IT READS IS OF BULK AT MOST 1048576: true; the input reads as it did. -/
def fnIsolatedUptoRow : OpenClaim := { program := "ytjplodenflkghaa", sum := "4fee6f2590f1b3f570a48e1a0f6c6536362be86a977dfaca31a40e4874be826a", func := "loop.example/g00620/laws.FnIsolated", spec := "fnIsolated", unfollowed := true, recurses := true, apart := false, narrowed := true }
def FnIsolatedUptoSaid : Prop := fnIsolatedUptoRow.holds Try.pinned (OpenSpec.upto fnIsolatedSpec)

/-- 'laws.FnExactPlayWalker', WHERE WHAT IT READS IS OF BULK AT MOST 1048576: true; the input reads as it did. -/
def fnExactPlayWalkerUptoRow : OpenClaim := { program := "ytjplodenflkghaa", sum := "4fee6f2590f1b3f570a48e1a0f6c6536362be86a977dfaca31a40e4874be826a", func := "loop.example/g00620/laws.FnExactPlayWalker", spec := "fnExactPlayWalker", unfollowed := true, recurses := true, apart := false, narrowed := true }
def FnExactPlayWalkerUptoSaid : Prop := fnExactPlayWalkerUptoRow.holds Try.pinned (OpenSpec.upto fnExactPlayWalkerSpec)

/-- 'laws.FnExactGoodNest', WHERE WHAT IT READS IS OF BULK AT MOST 1048576: true; the input reads as it did. -/
def fnExactGoodNestUptoRow : OpenClaim := { program := "ytjplodenflkghaa", sum := "4fee6f2590f1b3f570a48e1a0f6c6536362be86a977dfaca31a40e4874be826a", func := "loop.example/g00620/laws.FnExactGoodNest", spec := "fnExactGoodNest", unfollowed := true, recurses := true, apart := false, narrowed := true }
def FnExactGoodNestUptoSaid : Prop := fnExactGoodNestUptoRow.holds Try.pinned (OpenSpec.upto fnExactGoodNestSpec)

/-- 'laws.FnExactWalkNest', WHERE WHAT IT READS IS OF BULK AT MOST 1048576: true; the input reads as it did. -/
def fnExactWalkNestUptoRow : OpenClaim := { program := "ytjplodenflkghaa", sum := "4fee6f2590f1b3f570a48e1a0f6c6536362be86a977dfaca31a40e4874be826a", func := "loop.example/g00620/laws.FnExactWalkNest", spec := "fnExactWalkNest", unfollowed := true, recurses := true, apart := false, narrowed := true }
def FnExactWalkNestUptoSaid : Prop := fnExactWalkNestUptoRow.holds Try.pinned (OpenSpec.upto fnExactWalkNestSpec)

/-- 'laws.FnExactFlatOf', WHERE WHAT IT READS IS OF BULK AT MOST 1048576: true; the input reads as it did. -/
def fnExactFlatOfUptoRow : OpenClaim := { program := "ytjplodenflkghaa", sum := "4fee6f2590f1b3f570a48e1a0f6c6536362be86a977dfaca31a40e4874be826a", func := "loop.example/g00620/laws.FnExactFlatOf", spec := "fnExactFlatOf", unfollowed := true, recurses := true, apart := false, narrowed := true }
def FnExactFlatOfUptoSaid : Prop := fnExactFlatOfUptoRow.holds Try.pinned (OpenSpec.upto fnExactFlatOfSpec)

/-- 'laws.FnExactReachedBy', WHERE WHAT IT READS IS OF BULK AT MOST 1048576: true; the input reads as it did. -/
def fnExactReachedByUptoRow : OpenClaim := { program := "ytjplodenflkghaa", sum := "4fee6f2590f1b3f570a48e1a0f6c6536362be86a977dfaca31a40e4874be826a", func := "loop.example/g00620/laws.FnExactReachedBy", spec := "fnExactReachedBy", unfollowed := true, recurses := true, apart := false, narrowed := true }
def FnExactReachedByUptoSaid : Prop := fnExactReachedByUptoRow.holds Try.pinned (OpenSpec.upto fnExactReachedBySpec)

/-- 'laws.FnExactWatchWrites', WHERE WHAT IT READS IS OF BULK AT MOST 1048576: true; the input reads as it did. -/
def fnExactWatchWritesUptoRow : OpenClaim := { program := "ytjplodenflkghaa", sum := "4fee6f2590f1b3f570a48e1a0f6c6536362be86a977dfaca31a40e4874be826a", func := "loop.example/g00620/laws.FnExactWatchWrites", spec := "fnExactWatchWrites", unfollowed := true, recurses := true, apart := false, narrowed := true }
def FnExactWatchWritesUptoSaid : Prop := fnExactWatchWritesUptoRow.holds Try.pinned (OpenSpec.upto fnExactWatchWritesSpec)

/-- 'laws.FnExactLetWrite', WHERE WHAT IT READS IS OF BULK AT MOST 1048576: true; the input reads as it did. -/
def fnExactLetWriteUptoRow : OpenClaim := { program := "ytjplodenflkghaa", sum := "4fee6f2590f1b3f570a48e1a0f6c6536362be86a977dfaca31a40e4874be826a", func := "loop.example/g00620/laws.FnExactLetWrite", spec := "fnExactLetWrite", unfollowed := true, recurses := true, apart := false, narrowed := true }
def FnExactLetWriteUptoSaid : Prop := fnExactLetWriteUptoRow.holds Try.pinned (OpenSpec.upto fnExactLetWriteSpec)

/-- 'laws.FnExactIsolated', WHERE WHAT IT READS IS OF BULK AT MOST 1048576: true; the input reads as it did. -/
def fnExactIsolatedUptoRow : OpenClaim := { program := "ytjplodenflkghaa", sum := "4fee6f2590f1b3f570a48e1a0f6c6536362be86a977dfaca31a40e4874be826a", func := "loop.example/g00620/laws.FnExactIsolated", spec := "fnExactIsolated", unfollowed := true, recurses := true, apart := false, narrowed := true }
def FnExactIsolatedUptoSaid : Prop := fnExactIsolatedUptoRow.holds Try.pinned (OpenSpec.upto fnExactIsolatedSpec)

end Rows
end Go.Proofs.Ytjplodenflkghaa
