/-
  No cell of these rows narrows 'for every input' (looked for: loops, veiled, ifaces, maps, wideKeys, modest, calm, conditions, laid).
  DERIVED. THE GIVEN ROWS OF THIS SEAT. 9 by the template 'for every input the law returns true; each argument reads behind the call as it read before'; 0 by the template 'total and deterministic' (their statements: YtkadjebncjcclaaTotals.lean).
  GIVEN WITH THE SEED: the statements are not yours to turn. If you find one false, say at which input.
  Laid BY PROGRAM, IN A SANDBOX (cutbox-rows.mjs): the forced cells as the released guide's own fill.sh prints them over the translation b2c3a05d49c55231… (all of the seat's roots in one cut). By AI agents, Wed Nov 11 2026. No macro, syntax, notation, axiom, sorry.
-/
import Derived.Test.YtkadjebncjcclaaChecked
import GoSem.Claim
import GoSem.ClaimJoined
import GoSem.ClaimMapViews
import Derived.JoinedTies
import Derived.KernelRfl
namespace Go.Proofs.Ytkadjebncjcclaa
/- THE CELL 'sum', in the pinned program and in every row, IS THE sha256 OF THE DUMP (.gsa) THAT YtkadjebncjcclaaProg.lean LOADS. Nothing in Lean hashes anything: it is a label: what it is worth is what the hold of that sum in a sandbox is worth. -/
noncomputable def Try.pinned : Pinned := { name := "ytkadjebncjcclaa", sum := "b2c3a05d49c55231dfbb74311b3bdd780d20d5bf39e5ac0736cdbfebee9e39b0", checked := Try.checked }
namespace Rows
def none {H : Type} : Left H := { results := [], args := [] }

/-- 'laws.FnWalks': WHATEVER THE INPUT: true; the input reads as it did. -/
def fnWalksSpec : ChangeSpec := { name := "fnWalks", fn := fun _ => fun
  | [d] => { results := [.lit (.bool true)], args := [d] }
  | _ => none }
def fnWalksRow : OpenClaim := { program := "ytkadjebncjcclaa", sum := "b2c3a05d49c55231dfbb74311b3bdd780d20d5bf39e5ac0736cdbfebee9e39b0", func := "loop.example/g00620/laws.FnWalks", spec := "fnWalks", unfollowed := true, recurses := true, apart := false }
def FnWalksSaid : Prop := fnWalksRow.holds Try.pinned (OpenSpec.ofChange fnWalksSpec)

/-- ITS FALSE NEIGHBOUR: 'it returns false'. Refute it at one input. -/
def fnWalksWrong : ChangeSpec := { name := "fnWalks", fn := fun _ => fun
  | [d] => { results := [.lit (.bool false)], args := [d] }
  | _ => none }
def FnWalksWrongFalsely : Prop := fnWalksRow.holds Try.pinned (OpenSpec.ofChange fnWalksWrong)

/-- 'laws.FnKeptWays': WHATEVER THE INPUT: true; the input reads as it did. -/
def fnKeptWaysSpec : ChangeSpec := { name := "fnKeptWays", fn := fun _ => fun
  | [d1, d2] => { results := [.lit (.bool true)], args := [d1, d2] }
  | _ => none }
def fnKeptWaysRow : OpenClaim := { program := "ytkadjebncjcclaa", sum := "b2c3a05d49c55231dfbb74311b3bdd780d20d5bf39e5ac0736cdbfebee9e39b0", func := "loop.example/g00620/laws.FnKeptWays", spec := "fnKeptWays", unfollowed := true, recurses := true, apart := false }
def FnKeptWaysSaid : Prop := fnKeptWaysRow.holds Try.pinned (OpenSpec.ofChange fnKeptWaysSpec)

/-- ITS FALSE NEIGHBOUR: 'it returns false'. Refute it at one input. -/
def fnKeptWaysWrong : ChangeSpec := { name := "fnKeptWays", fn := fun _ => fun
  | [d1, d2] => { results := [.lit (.bool false)], args := [d1, d2] }
  | _ => none }
def FnKeptWaysWrongFalsely : Prop := fnKeptWaysRow.holds Try.pinned (OpenSpec.ofChange fnKeptWaysWrong)

/-- 'laws.FnExactNewWalker': WHATEVER THE INPUT: true; the input reads as it did. -/
def fnExactNewWalkerSpec : ChangeSpec := { name := "fnExactNewWalker", fn := fun _ => fun
  | [d] => { results := [.lit (.bool true)], args := [d] }
  | _ => none }
def fnExactNewWalkerRow : OpenClaim := { program := "ytkadjebncjcclaa", sum := "b2c3a05d49c55231dfbb74311b3bdd780d20d5bf39e5ac0736cdbfebee9e39b0", func := "loop.example/g00620/laws.FnExactNewWalker", spec := "fnExactNewWalker", unfollowed := true, recurses := true, apart := false }
def FnExactNewWalkerSaid : Prop := fnExactNewWalkerRow.holds Try.pinned (OpenSpec.ofChange fnExactNewWalkerSpec)

/-- ITS FALSE NEIGHBOUR: 'it returns false'. Refute it at one input. -/
def fnExactNewWalkerWrong : ChangeSpec := { name := "fnExactNewWalker", fn := fun _ => fun
  | [d] => { results := [.lit (.bool false)], args := [d] }
  | _ => none }
def FnExactNewWalkerWrongFalsely : Prop := fnExactNewWalkerRow.holds Try.pinned (OpenSpec.ofChange fnExactNewWalkerWrong)

/-- 'laws.FnExactGoodWalker': WHATEVER THE INPUT: true; the input reads as it did. -/
def fnExactGoodWalkerSpec : ChangeSpec := { name := "fnExactGoodWalker", fn := fun _ => fun
  | [d] => { results := [.lit (.bool true)], args := [d] }
  | _ => none }
def fnExactGoodWalkerRow : OpenClaim := { program := "ytkadjebncjcclaa", sum := "b2c3a05d49c55231dfbb74311b3bdd780d20d5bf39e5ac0736cdbfebee9e39b0", func := "loop.example/g00620/laws.FnExactGoodWalker", spec := "fnExactGoodWalker", unfollowed := true, recurses := true, apart := false }
def FnExactGoodWalkerSaid : Prop := fnExactGoodWalkerRow.holds Try.pinned (OpenSpec.ofChange fnExactGoodWalkerSpec)

/-- ITS FALSE NEIGHBOUR: 'it returns false'. Refute it at one input. -/
def fnExactGoodWalkerWrong : ChangeSpec := { name := "fnExactGoodWalker", fn := fun _ => fun
  | [d] => { results := [.lit (.bool false)], args := [d] }
  | _ => none }
def FnExactGoodWalkerWrongFalsely : Prop := fnExactGoodWalkerRow.holds Try.pinned (OpenSpec.ofChange fnExactGoodWalkerWrong)

/-- 'laws.FnExactStepWalker': WHATEVER THE INPUT: true; the input reads as it did. -/
def fnExactStepWalkerSpec : ChangeSpec := { name := "fnExactStepWalker", fn := fun _ => fun
  | [d1, d2] => { results := [.lit (.bool true)], args := [d1, d2] }
  | _ => none }
def fnExactStepWalkerRow : OpenClaim := { program := "ytkadjebncjcclaa", sum := "b2c3a05d49c55231dfbb74311b3bdd780d20d5bf39e5ac0736cdbfebee9e39b0", func := "loop.example/g00620/laws.FnExactStepWalker", spec := "fnExactStepWalker", unfollowed := true, recurses := true, apart := false }
def FnExactStepWalkerSaid : Prop := fnExactStepWalkerRow.holds Try.pinned (OpenSpec.ofChange fnExactStepWalkerSpec)

/-- ITS FALSE NEIGHBOUR: 'it returns false'. Refute it at one input. -/
def fnExactStepWalkerWrong : ChangeSpec := { name := "fnExactStepWalker", fn := fun _ => fun
  | [d1, d2] => { results := [.lit (.bool false)], args := [d1, d2] }
  | _ => none }
def FnExactStepWalkerWrongFalsely : Prop := fnExactStepWalkerRow.holds Try.pinned (OpenSpec.ofChange fnExactStepWalkerWrong)

/-- 'laws.FnExactPlayWalker': WHATEVER THE INPUT: true; the input reads as it did. -/
def fnExactPlayWalkerSpec : ChangeSpec := { name := "fnExactPlayWalker", fn := fun _ => fun
  | [d1, d2] => { results := [.lit (.bool true)], args := [d1, d2] }
  | _ => none }
def fnExactPlayWalkerRow : OpenClaim := { program := "ytkadjebncjcclaa", sum := "b2c3a05d49c55231dfbb74311b3bdd780d20d5bf39e5ac0736cdbfebee9e39b0", func := "loop.example/g00620/laws.FnExactPlayWalker", spec := "fnExactPlayWalker", unfollowed := true, recurses := true, apart := false }
def FnExactPlayWalkerSaid : Prop := fnExactPlayWalkerRow.holds Try.pinned (OpenSpec.ofChange fnExactPlayWalkerSpec)

/-- ITS FALSE NEIGHBOUR: 'it returns false'. Refute it at one input. -/
def fnExactPlayWalkerWrong : ChangeSpec := { name := "fnExactPlayWalker", fn := fun _ => fun
  | [d1, d2] => { results := [.lit (.bool false)], args := [d1, d2] }
  | _ => none }
def FnExactPlayWalkerWrongFalsely : Prop := fnExactPlayWalkerRow.holds Try.pinned (OpenSpec.ofChange fnExactPlayWalkerWrong)

/-- 'laws.FnExactPlayPlain': WHATEVER THE INPUT: true; the input reads as it did. -/
def fnExactPlayPlainSpec : ChangeSpec := { name := "fnExactPlayPlain", fn := fun _ => fun
  | [d1, d2] => { results := [.lit (.bool true)], args := [d1, d2] }
  | _ => none }
def fnExactPlayPlainRow : OpenClaim := { program := "ytkadjebncjcclaa", sum := "b2c3a05d49c55231dfbb74311b3bdd780d20d5bf39e5ac0736cdbfebee9e39b0", func := "loop.example/g00620/laws.FnExactPlayPlain", spec := "fnExactPlayPlain", unfollowed := true, recurses := true, apart := false }
def FnExactPlayPlainSaid : Prop := fnExactPlayPlainRow.holds Try.pinned (OpenSpec.ofChange fnExactPlayPlainSpec)

/-- ITS FALSE NEIGHBOUR: 'it returns false'. Refute it at one input. -/
def fnExactPlayPlainWrong : ChangeSpec := { name := "fnExactPlayPlain", fn := fun _ => fun
  | [d1, d2] => { results := [.lit (.bool false)], args := [d1, d2] }
  | _ => none }
def FnExactPlayPlainWrongFalsely : Prop := fnExactPlayPlainRow.holds Try.pinned (OpenSpec.ofChange fnExactPlayPlainWrong)

/-- 'laws.FnExactIsKept': WHATEVER THE INPUT: true; the input reads as it did. -/
def fnExactIsKeptSpec : ChangeSpec := { name := "fnExactIsKept", fn := fun _ => fun
  | [d1, d2] => { results := [.lit (.bool true)], args := [d1, d2] }
  | _ => none }
def fnExactIsKeptRow : OpenClaim := { program := "ytkadjebncjcclaa", sum := "b2c3a05d49c55231dfbb74311b3bdd780d20d5bf39e5ac0736cdbfebee9e39b0", func := "loop.example/g00620/laws.FnExactIsKept", spec := "fnExactIsKept", unfollowed := true, recurses := true, apart := false }
def FnExactIsKeptSaid : Prop := fnExactIsKeptRow.holds Try.pinned (OpenSpec.ofChange fnExactIsKeptSpec)

/-- ITS FALSE NEIGHBOUR: 'it returns false'. Refute it at one input. -/
def fnExactIsKeptWrong : ChangeSpec := { name := "fnExactIsKept", fn := fun _ => fun
  | [d1, d2] => { results := [.lit (.bool false)], args := [d1, d2] }
  | _ => none }
def FnExactIsKeptWrongFalsely : Prop := fnExactIsKeptRow.holds Try.pinned (OpenSpec.ofChange fnExactIsKeptWrong)

/-- 'laws.FnExactForgetAll': WHATEVER THE INPUT: true; the input reads as it did. -/
def fnExactForgetAllSpec : ChangeSpec := { name := "fnExactForgetAll", fn := fun _ => fun
  | [d] => { results := [.lit (.bool true)], args := [d] }
  | _ => none }
def fnExactForgetAllRow : OpenClaim := { program := "ytkadjebncjcclaa", sum := "b2c3a05d49c55231dfbb74311b3bdd780d20d5bf39e5ac0736cdbfebee9e39b0", func := "loop.example/g00620/laws.FnExactForgetAll", spec := "fnExactForgetAll", unfollowed := true, recurses := true, apart := false }
def FnExactForgetAllSaid : Prop := fnExactForgetAllRow.holds Try.pinned (OpenSpec.ofChange fnExactForgetAllSpec)

/-- ITS FALSE NEIGHBOUR: 'it returns false'. Refute it at one input. -/
def fnExactForgetAllWrong : ChangeSpec := { name := "fnExactForgetAll", fn := fun _ => fun
  | [d] => { results := [.lit (.bool false)], args := [d] }
  | _ => none }
def FnExactForgetAllWrongFalsely : Prop := fnExactForgetAllRow.holds Try.pinned (OpenSpec.ofChange fnExactForgetAllWrong)

/- THE SECOND FORM. 'bulk': how many values and letters a reading holds, each counted each time it is reached (what is shared counts as often as it is met; a slice's spare places count too). A statement '..UptoSaid' is the law's where the arguments, and the package variables that the reading takes, are together of bulk at most 1048576: NARROWER than '..Said'. Prove '..Said' where nothing that the law and all that it calls make is longer than what came in: it says more and counts as full. Else prove '..UptoSaid'. A law counts once. -/
mutual
def uptoBulk {H : Type} : DataW H → Nat
  | .lit (.string bytes) => bytes.length + 1
  | .lit _ => 1
  | .nil => 1
  | .ptr d => uptoBulk d + 1
  | .slice elems spare => uptoBulkAll elems + uptoBulkAll spare + 1
  | .agg parts => uptoBulkAll parts + 1
  | .iface _ d => uptoBulk d + 1
  | .map entries => uptoBulkEntries entries + 1
  | .held _ => 1
def uptoBulkAll {H : Type} : List (DataW H) → Nat
  | [] => 0
  | d :: r => uptoBulk d + uptoBulkAll r
def uptoBulkEntries {H : Type} : List (Lit × DataW H) → Nat
  | [] => 0
  | x :: r => uptoBulkEntry x + uptoBulkEntries r
def uptoBulkEntry {H : Type} : Lit × DataW H → Nat
  | (.string bytes, d) => bytes.length + uptoBulk d + 1
  | (_, d) => uptoBulk d + 1
 end
def uptoSmall : (H : Type) → List (DataW H) → Bool := fun _ ds => decide (uptoBulkAll ds ≤ 1048576)
def OpenSpec.upto (s : _root_.Go.ChangeSpec) : _root_.Go.OpenSpec := { _root_.Go.OpenSpec.ofChange s with cond := some uptoSmall }

/-- 'laws.FnWalks', WHERE WHAT IT READS IS OF BULK AT MOST 1048576: true; the input reads as it did. -/
def fnWalksUptoRow : OpenClaim := { program := "ytkadjebncjcclaa", sum := "b2c3a05d49c55231dfbb74311b3bdd780d20d5bf39e5ac0736cdbfebee9e39b0", func := "loop.example/g00620/laws.FnWalks", spec := "fnWalks", unfollowed := true, recurses := true, apart := false, narrowed := true }
def FnWalksUptoSaid : Prop := fnWalksUptoRow.holds Try.pinned (OpenSpec.upto fnWalksSpec)

/-- 'laws.FnKeptWays', WHERE WHAT IT READS IS OF BULK AT MOST 1048576: true; the input reads as it did. -/
def fnKeptWaysUptoRow : OpenClaim := { program := "ytkadjebncjcclaa", sum := "b2c3a05d49c55231dfbb74311b3bdd780d20d5bf39e5ac0736cdbfebee9e39b0", func := "loop.example/g00620/laws.FnKeptWays", spec := "fnKeptWays", unfollowed := true, recurses := true, apart := false, narrowed := true }
def FnKeptWaysUptoSaid : Prop := fnKeptWaysUptoRow.holds Try.pinned (OpenSpec.upto fnKeptWaysSpec)

/-- 'laws.FnExactNewWalker', WHERE WHAT IT READS IS OF BULK AT MOST 1048576: true; the input reads as it did. -/
def fnExactNewWalkerUptoRow : OpenClaim := { program := "ytkadjebncjcclaa", sum := "b2c3a05d49c55231dfbb74311b3bdd780d20d5bf39e5ac0736cdbfebee9e39b0", func := "loop.example/g00620/laws.FnExactNewWalker", spec := "fnExactNewWalker", unfollowed := true, recurses := true, apart := false, narrowed := true }
def FnExactNewWalkerUptoSaid : Prop := fnExactNewWalkerUptoRow.holds Try.pinned (OpenSpec.upto fnExactNewWalkerSpec)

/-- 'laws.FnExactGoodWalker', WHERE WHAT IT READS IS OF BULK AT MOST 1048576: true; the input reads as it did. -/
def fnExactGoodWalkerUptoRow : OpenClaim := { program := "ytkadjebncjcclaa", sum := "b2c3a05d49c55231dfbb74311b3bdd780d20d5bf39e5ac0736cdbfebee9e39b0", func := "loop.example/g00620/laws.FnExactGoodWalker", spec := "fnExactGoodWalker", unfollowed := true, recurses := true, apart := false, narrowed := true }
def FnExactGoodWalkerUptoSaid : Prop := fnExactGoodWalkerUptoRow.holds Try.pinned (OpenSpec.upto fnExactGoodWalkerSpec)

/-- 'laws.FnExactStepWalker', WHERE WHAT IT READS IS OF BULK AT MOST 1048576: true; the input reads as it did. -/
def fnExactStepWalkerUptoRow : OpenClaim := { program := "ytkadjebncjcclaa", sum := "b2c3a05d49c55231dfbb74311b3bdd780d20d5bf39e5ac0736cdbfebee9e39b0", func := "loop.example/g00620/laws.FnExactStepWalker", spec := "fnExactStepWalker", unfollowed := true, recurses := true, apart := false, narrowed := true }
def FnExactStepWalkerUptoSaid : Prop := fnExactStepWalkerUptoRow.holds Try.pinned (OpenSpec.upto fnExactStepWalkerSpec)

/-- 'laws.FnExactPlayWalker', WHERE WHAT IT READS IS OF BULK AT MOST 1048576: true; the input reads as it did. -/
def fnExactPlayWalkerUptoRow : OpenClaim := { program := "ytkadjebncjcclaa", sum := "b2c3a05d49c55231dfbb74311b3bdd780d20d5bf39e5ac0736cdbfebee9e39b0", func := "loop.example/g00620/laws.FnExactPlayWalker", spec := "fnExactPlayWalker", unfollowed := true, recurses := true, apart := false, narrowed := true }
def FnExactPlayWalkerUptoSaid : Prop := fnExactPlayWalkerUptoRow.holds Try.pinned (OpenSpec.upto fnExactPlayWalkerSpec)

/-- 'laws.FnExactPlayPlain', WHERE WHAT IT READS IS OF BULK AT MOST 1048576: true; the input reads as it did. -/
def fnExactPlayPlainUptoRow : OpenClaim := { program := "ytkadjebncjcclaa", sum := "b2c3a05d49c55231dfbb74311b3bdd780d20d5bf39e5ac0736cdbfebee9e39b0", func := "loop.example/g00620/laws.FnExactPlayPlain", spec := "fnExactPlayPlain", unfollowed := true, recurses := true, apart := false, narrowed := true }
def FnExactPlayPlainUptoSaid : Prop := fnExactPlayPlainUptoRow.holds Try.pinned (OpenSpec.upto fnExactPlayPlainSpec)

/-- 'laws.FnExactIsKept', WHERE WHAT IT READS IS OF BULK AT MOST 1048576: true; the input reads as it did. -/
def fnExactIsKeptUptoRow : OpenClaim := { program := "ytkadjebncjcclaa", sum := "b2c3a05d49c55231dfbb74311b3bdd780d20d5bf39e5ac0736cdbfebee9e39b0", func := "loop.example/g00620/laws.FnExactIsKept", spec := "fnExactIsKept", unfollowed := true, recurses := true, apart := false, narrowed := true }
def FnExactIsKeptUptoSaid : Prop := fnExactIsKeptUptoRow.holds Try.pinned (OpenSpec.upto fnExactIsKeptSpec)

/-- 'laws.FnExactForgetAll', WHERE WHAT IT READS IS OF BULK AT MOST 1048576: true; the input reads as it did. -/
def fnExactForgetAllUptoRow : OpenClaim := { program := "ytkadjebncjcclaa", sum := "b2c3a05d49c55231dfbb74311b3bdd780d20d5bf39e5ac0736cdbfebee9e39b0", func := "loop.example/g00620/laws.FnExactForgetAll", spec := "fnExactForgetAll", unfollowed := true, recurses := true, apart := false, narrowed := true }
def FnExactForgetAllUptoSaid : Prop := fnExactForgetAllUptoRow.holds Try.pinned (OpenSpec.upto fnExactForgetAllSpec)

end Rows
end Go.Proofs.Ytkadjebncjcclaa
