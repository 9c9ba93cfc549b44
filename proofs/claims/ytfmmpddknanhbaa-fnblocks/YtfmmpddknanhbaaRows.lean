/-
  No cell of these rows narrows 'for every input' (looked for: loops, veiled, ifaces, maps, wideKeys, modest, calm, conditions, laid).
  DERIVED. THE GIVEN ROWS OF THIS SEAT. 11 by the template 'for every input the law returns true; each argument reads behind the call as it read before'; 0 by the template 'total and deterministic' (their statements: YtfmmpddknanhbaaTotals.lean).
  GIVEN WITH THE SEED: the statements are not yours to turn. If you find one false, say at which input.
  Laid BY PROGRAM, IN A SANDBOX (cutbox-rows.mjs): the forced cells as the released guide's own fill.sh prints them over the translation c37b121da0f54cfe… (all of the seat's roots in one cut). By AI agents, Wed Nov 11 2026. No macro, syntax, notation, axiom, sorry.
-/
import Derived.Test.YtfmmpddknanhbaaChecked
import GoSem.Claim
import GoSem.ClaimJoined
import GoSem.ClaimMapViews
import Derived.JoinedTies
import Derived.KernelRfl
namespace Go.Proofs.Ytfmmpddknanhbaa
/- THE CELL 'sum', in the pinned program and in every row, IS THE sha256 OF THE DUMP (.gsa) THAT YtfmmpddknanhbaaProg.lean LOADS. Nothing in Lean hashes anything: it is a label: what it is worth is what the hold of that sum in a sandbox is worth. -/
noncomputable def Try.pinned : Pinned := { name := "ytfmmpddknanhbaa", sum := "c37b121da0f54cfe1daa02161884f32cdb47b29c8c36ed39f056ed9c9752685c", checked := Try.checked }
namespace Rows
def none {H : Type} : Left H := { results := [], args := [] }

/-- 'laws.FnBlocks': WHATEVER THE INPUT: true; the input reads as it did. -/
def fnBlocksSpec : ChangeSpec := { name := "fnBlocks", fn := fun _ => fun
  | [d1, d2] => { results := [.lit (.bool true)], args := [d1, d2] }
  | _ => none }
def fnBlocksRow : OpenClaim := { program := "ytfmmpddknanhbaa", sum := "c37b121da0f54cfe1daa02161884f32cdb47b29c8c36ed39f056ed9c9752685c", func := "loop.example/g00620/laws.FnBlocks", spec := "fnBlocks", unfollowed := true, recurses := true, apart := false }
def FnBlocksSaid : Prop := fnBlocksRow.holds Try.pinned (OpenSpec.ofChange fnBlocksSpec)

/-- ITS FALSE NEIGHBOUR: 'it returns false'. Refute it at one input. -/
def fnBlocksWrong : ChangeSpec := { name := "fnBlocks", fn := fun _ => fun
  | [d1, d2] => { results := [.lit (.bool false)], args := [d1, d2] }
  | _ => none }
def FnBlocksWrongFalsely : Prop := fnBlocksRow.holds Try.pinned (OpenSpec.ofChange fnBlocksWrong)

/-- 'laws.FnLent': WHATEVER THE INPUT: true; the input reads as it did. -/
def fnLentSpec : ChangeSpec := { name := "fnLent", fn := fun _ => fun
  | [d1, d2] => { results := [.lit (.bool true)], args := [d1, d2] }
  | _ => none }
def fnLentRow : OpenClaim := { program := "ytfmmpddknanhbaa", sum := "c37b121da0f54cfe1daa02161884f32cdb47b29c8c36ed39f056ed9c9752685c", func := "loop.example/g00620/laws.FnLent", spec := "fnLent", unfollowed := true, recurses := true, apart := false }
def FnLentSaid : Prop := fnLentRow.holds Try.pinned (OpenSpec.ofChange fnLentSpec)

/-- ITS FALSE NEIGHBOUR: 'it returns false'. Refute it at one input. -/
def fnLentWrong : ChangeSpec := { name := "fnLent", fn := fun _ => fun
  | [d1, d2] => { results := [.lit (.bool false)], args := [d1, d2] }
  | _ => none }
def FnLentWrongFalsely : Prop := fnLentRow.holds Try.pinned (OpenSpec.ofChange fnLentWrong)

/-- 'laws.FnExactNewOwners': WHATEVER THE INPUT: true; the input reads as it did. -/
def fnExactNewOwnersSpec : ChangeSpec := { name := "fnExactNewOwners", fn := fun _ => fun
  | [] => { results := [.lit (.bool true)], args := [] }
  | _ => none }
def fnExactNewOwnersRow : OpenClaim := { program := "ytfmmpddknanhbaa", sum := "c37b121da0f54cfe1daa02161884f32cdb47b29c8c36ed39f056ed9c9752685c", func := "loop.example/g00620/laws.FnExactNewOwners", spec := "fnExactNewOwners", unfollowed := true, recurses := true, apart := false }
def FnExactNewOwnersSaid : Prop := fnExactNewOwnersRow.holds Try.pinned (OpenSpec.ofChange fnExactNewOwnersSpec)

/-- ITS FALSE NEIGHBOUR: 'it returns false'. Refute it at one input. -/
def fnExactNewOwnersWrong : ChangeSpec := { name := "fnExactNewOwners", fn := fun _ => fun
  | [] => { results := [.lit (.bool false)], args := [] }
  | _ => none }
def FnExactNewOwnersWrongFalsely : Prop := fnExactNewOwnersRow.holds Try.pinned (OpenSpec.ofChange fnExactNewOwnersWrong)

/-- 'laws.FnExactGoodOwners': WHATEVER THE INPUT: true; the input reads as it did. -/
def fnExactGoodOwnersSpec : ChangeSpec := { name := "fnExactGoodOwners", fn := fun _ => fun
  | [d] => { results := [.lit (.bool true)], args := [d] }
  | _ => none }
def fnExactGoodOwnersRow : OpenClaim := { program := "ytfmmpddknanhbaa", sum := "c37b121da0f54cfe1daa02161884f32cdb47b29c8c36ed39f056ed9c9752685c", func := "loop.example/g00620/laws.FnExactGoodOwners", spec := "fnExactGoodOwners", apart := false }
def FnExactGoodOwnersSaid : Prop := fnExactGoodOwnersRow.holds Try.pinned (OpenSpec.ofChange fnExactGoodOwnersSpec)

/-- ITS FALSE NEIGHBOUR: 'it returns false'. Refute it at one input. -/
def fnExactGoodOwnersWrong : ChangeSpec := { name := "fnExactGoodOwners", fn := fun _ => fun
  | [d] => { results := [.lit (.bool false)], args := [d] }
  | _ => none }
def FnExactGoodOwnersWrongFalsely : Prop := fnExactGoodOwnersRow.holds Try.pinned (OpenSpec.ofChange fnExactGoodOwnersWrong)

/-- 'laws.FnExactTakeBlock': WHATEVER THE INPUT: true; the input reads as it did. -/
def fnExactTakeBlockSpec : ChangeSpec := { name := "fnExactTakeBlock", fn := fun _ => fun
  | [d1, d2, d3] => { results := [.lit (.bool true)], args := [d1, d2, d3] }
  | _ => none }
def fnExactTakeBlockRow : OpenClaim := { program := "ytfmmpddknanhbaa", sum := "c37b121da0f54cfe1daa02161884f32cdb47b29c8c36ed39f056ed9c9752685c", func := "loop.example/g00620/laws.FnExactTakeBlock", spec := "fnExactTakeBlock", unfollowed := true, recurses := true, apart := false }
def FnExactTakeBlockSaid : Prop := fnExactTakeBlockRow.holds Try.pinned (OpenSpec.ofChange fnExactTakeBlockSpec)

/-- ITS FALSE NEIGHBOUR: 'it returns false'. Refute it at one input. -/
def fnExactTakeBlockWrong : ChangeSpec := { name := "fnExactTakeBlock", fn := fun _ => fun
  | [d1, d2, d3] => { results := [.lit (.bool false)], args := [d1, d2, d3] }
  | _ => none }
def FnExactTakeBlockWrongFalsely : Prop := fnExactTakeBlockRow.holds Try.pinned (OpenSpec.ofChange fnExactTakeBlockWrong)

/-- 'laws.FnExactFreeBlock': WHATEVER THE INPUT: true; the input reads as it did. -/
def fnExactFreeBlockSpec : ChangeSpec := { name := "fnExactFreeBlock", fn := fun _ => fun
  | [d1, d2, d3, d4] => { results := [.lit (.bool true)], args := [d1, d2, d3, d4] }
  | _ => none }
def fnExactFreeBlockRow : OpenClaim := { program := "ytfmmpddknanhbaa", sum := "c37b121da0f54cfe1daa02161884f32cdb47b29c8c36ed39f056ed9c9752685c", func := "loop.example/g00620/laws.FnExactFreeBlock", spec := "fnExactFreeBlock", unfollowed := true, recurses := true, apart := false }
def FnExactFreeBlockSaid : Prop := fnExactFreeBlockRow.holds Try.pinned (OpenSpec.ofChange fnExactFreeBlockSpec)

/-- ITS FALSE NEIGHBOUR: 'it returns false'. Refute it at one input. -/
def fnExactFreeBlockWrong : ChangeSpec := { name := "fnExactFreeBlock", fn := fun _ => fun
  | [d1, d2, d3, d4] => { results := [.lit (.bool false)], args := [d1, d2, d3, d4] }
  | _ => none }
def FnExactFreeBlockWrongFalsely : Prop := fnExactFreeBlockRow.holds Try.pinned (OpenSpec.ofChange fnExactFreeBlockWrong)

/-- 'laws.FnExactLendPage': WHATEVER THE INPUT: true; the input reads as it did. -/
def fnExactLendPageSpec : ChangeSpec := { name := "fnExactLendPage", fn := fun _ => fun
  | [d1, d2, d3, d4] => { results := [.lit (.bool true)], args := [d1, d2, d3, d4] }
  | _ => none }
def fnExactLendPageRow : OpenClaim := { program := "ytfmmpddknanhbaa", sum := "c37b121da0f54cfe1daa02161884f32cdb47b29c8c36ed39f056ed9c9752685c", func := "loop.example/g00620/laws.FnExactLendPage", spec := "fnExactLendPage", unfollowed := true, recurses := true, apart := false }
def FnExactLendPageSaid : Prop := fnExactLendPageRow.holds Try.pinned (OpenSpec.ofChange fnExactLendPageSpec)

/-- ITS FALSE NEIGHBOUR: 'it returns false'. Refute it at one input. -/
def fnExactLendPageWrong : ChangeSpec := { name := "fnExactLendPage", fn := fun _ => fun
  | [d1, d2, d3, d4] => { results := [.lit (.bool false)], args := [d1, d2, d3, d4] }
  | _ => none }
def FnExactLendPageWrongFalsely : Prop := fnExactLendPageRow.holds Try.pinned (OpenSpec.ofChange fnExactLendPageWrong)

/-- 'laws.FnExactBackPage': WHATEVER THE INPUT: true; the input reads as it did. -/
def fnExactBackPageSpec : ChangeSpec := { name := "fnExactBackPage", fn := fun _ => fun
  | [d1, d2, d3] => { results := [.lit (.bool true)], args := [d1, d2, d3] }
  | _ => none }
def fnExactBackPageRow : OpenClaim := { program := "ytfmmpddknanhbaa", sum := "c37b121da0f54cfe1daa02161884f32cdb47b29c8c36ed39f056ed9c9752685c", func := "loop.example/g00620/laws.FnExactBackPage", spec := "fnExactBackPage", unfollowed := true, recurses := true, apart := false }
def FnExactBackPageSaid : Prop := fnExactBackPageRow.holds Try.pinned (OpenSpec.ofChange fnExactBackPageSpec)

/-- ITS FALSE NEIGHBOUR: 'it returns false'. Refute it at one input. -/
def fnExactBackPageWrong : ChangeSpec := { name := "fnExactBackPage", fn := fun _ => fun
  | [d1, d2, d3] => { results := [.lit (.bool false)], args := [d1, d2, d3] }
  | _ => none }
def FnExactBackPageWrongFalsely : Prop := fnExactBackPageRow.holds Try.pinned (OpenSpec.ofChange fnExactBackPageWrong)

/-- 'laws.FnExactMayUse': WHATEVER THE INPUT: true; the input reads as it did. -/
def fnExactMayUseSpec : ChangeSpec := { name := "fnExactMayUse", fn := fun _ => fun
  | [d1, d2] => { results := [.lit (.bool true)], args := [d1, d2] }
  | _ => none }
def fnExactMayUseRow : OpenClaim := { program := "ytfmmpddknanhbaa", sum := "c37b121da0f54cfe1daa02161884f32cdb47b29c8c36ed39f056ed9c9752685c", func := "loop.example/g00620/laws.FnExactMayUse", spec := "fnExactMayUse", unfollowed := true, recurses := true, apart := false }
def FnExactMayUseSaid : Prop := fnExactMayUseRow.holds Try.pinned (OpenSpec.ofChange fnExactMayUseSpec)

/-- ITS FALSE NEIGHBOUR: 'it returns false'. Refute it at one input. -/
def fnExactMayUseWrong : ChangeSpec := { name := "fnExactMayUse", fn := fun _ => fun
  | [d1, d2] => { results := [.lit (.bool false)], args := [d1, d2] }
  | _ => none }
def FnExactMayUseWrongFalsely : Prop := fnExactMayUseRow.holds Try.pinned (OpenSpec.ofChange fnExactMayUseWrong)

/-- 'laws.FnExactFreeBlocks': WHATEVER THE INPUT: true; the input reads as it did. -/
def fnExactFreeBlocksSpec : ChangeSpec := { name := "fnExactFreeBlocks", fn := fun _ => fun
  | [d] => { results := [.lit (.bool true)], args := [d] }
  | _ => none }
def fnExactFreeBlocksRow : OpenClaim := { program := "ytfmmpddknanhbaa", sum := "c37b121da0f54cfe1daa02161884f32cdb47b29c8c36ed39f056ed9c9752685c", func := "loop.example/g00620/laws.FnExactFreeBlocks", spec := "fnExactFreeBlocks", apart := false }
def FnExactFreeBlocksSaid : Prop := fnExactFreeBlocksRow.holds Try.pinned (OpenSpec.ofChange fnExactFreeBlocksSpec)

/-- ITS FALSE NEIGHBOUR: 'it returns false'. Refute it at one input. -/
def fnExactFreeBlocksWrong : ChangeSpec := { name := "fnExactFreeBlocks", fn := fun _ => fun
  | [d] => { results := [.lit (.bool false)], args := [d] }
  | _ => none }
def FnExactFreeBlocksWrongFalsely : Prop := fnExactFreeBlocksRow.holds Try.pinned (OpenSpec.ofChange fnExactFreeBlocksWrong)

/-- 'laws.FnExactDropOwner': WHATEVER THE INPUT: true; the input reads as it did. -/
def fnExactDropOwnerSpec : ChangeSpec := { name := "fnExactDropOwner", fn := fun _ => fun
  | [d1, d2] => { results := [.lit (.bool true)], args := [d1, d2] }
  | _ => none }
def fnExactDropOwnerRow : OpenClaim := { program := "ytfmmpddknanhbaa", sum := "c37b121da0f54cfe1daa02161884f32cdb47b29c8c36ed39f056ed9c9752685c", func := "loop.example/g00620/laws.FnExactDropOwner", spec := "fnExactDropOwner", unfollowed := true, recurses := true, apart := false }
def FnExactDropOwnerSaid : Prop := fnExactDropOwnerRow.holds Try.pinned (OpenSpec.ofChange fnExactDropOwnerSpec)

/-- ITS FALSE NEIGHBOUR: 'it returns false'. Refute it at one input. -/
def fnExactDropOwnerWrong : ChangeSpec := { name := "fnExactDropOwner", fn := fun _ => fun
  | [d1, d2] => { results := [.lit (.bool false)], args := [d1, d2] }
  | _ => none }
def FnExactDropOwnerWrongFalsely : Prop := fnExactDropOwnerRow.holds Try.pinned (OpenSpec.ofChange fnExactDropOwnerWrong)

/- THE SECOND FORM. 'bulk': how many values and letters a reading holds, each counted each time it is reached (what is shared counts as often as it is met; a slice's spare places count too). A statement '..UptoSaid' is the law's where the arguments, and the package variables that the reading takes, are together of bulk at most 1048576: NARROWER than '..Said'. Prove '..Said' where nothing that the law and all that it calls make is longer than what came in: it says more and counts as full. Else prove '..UptoSaid'. A law counts once. -/
mutual
def uptoBulk {H : Type} : DataW H → Nat
  | .lit (.string bytes) => bytes.length + 1
  | .lit _ => 1
  | .nil => 1
  | .ptr d => uptoBulk d + 1
  | .slice elems spare => uptoBulkAll elems + uptoBulkAll spare + 1
  | .agg parts => uptoBulkAll parts + 1
  | .iface _ d => uptoBulk d + 1
  | .map entries => uptoBulkEntries entries + 1
  | .held _ => 1
def uptoBulkAll {H : Type} : List (DataW H) → Nat
  | [] => 0
  | d :: r => uptoBulk d + uptoBulkAll r
def uptoBulkEntries {H : Type} : List (Lit × DataW H) → Nat
  | [] => 0
  | x :: r => uptoBulkEntry x + uptoBulkEntries r
def uptoBulkEntry {H : Type} : Lit × DataW H → Nat
  | (.string bytes, d) => bytes.length + uptoBulk d + 1
  | (_, d) => uptoBulk d + 1
 end
def uptoSmall : (H : Type) → List (DataW H) → Bool := fun _ ds => decide (uptoBulkAll ds ≤ 1048576)
def OpenSpec.upto (s : _root_.Go.ChangeSpec) : _root_.Go.OpenSpec := { _root_.Go.OpenSpec.ofChange s with cond := some uptoSmall }

/-- 'laws.FnBlocks', WHERE WHAT IT READS IS OF BULK AT MOST 1048576: true; the input reads as it did. -/
def fnBlocksUptoRow : OpenClaim := { program := "ytfmmpddknanhbaa", sum := "c37b121da0f54cfe1daa02161884f32cdb47b29c8c36ed39f056ed9c9752685c", func := "loop.example/g00620/laws.FnBlocks", spec := "fnBlocks", unfollowed := true, recurses := true, apart := false, narrowed := true }
def FnBlocksUptoSaid : Prop := fnBlocksUptoRow.holds Try.pinned (OpenSpec.upto fnBlocksSpec)

/-- 'laws.FnLent', WHERE WHAT IT READS IS OF BULK AT MOST 1048576: true; the input reads as it did. -/
def fnLentUptoRow : OpenClaim := { program := "ytfmmpddknanhbaa", sum := "c37b121da0f54cfe1daa02161884f32cdb47b29c8c36ed39f056ed9c9752685c", func := "loop.example/g00620/laws.FnLent", spec := "fnLent", unfollowed := true, recurses := true, apart := false, narrowed := true }
def FnLentUptoSaid : Prop := fnLentUptoRow.holds Try.pinned (OpenSpec.upto fnLentSpec)

/-- 'laws.FnExactNewOwners', WHERE WHAT IT READS IS OF BULK AT MOST 1048576: true; the input reads as it did. -/
def fnExactNewOwnersUptoRow : OpenClaim := { program := "ytfmmpddknanhbaa", sum := "c37b121da0f54cfe1daa02161884f32cdb47b29c8c36ed39f056ed9c9752685c", func := "loop.example/g00620/laws.FnExactNewOwners", spec := "fnExactNewOwners", unfollowed := true, recurses := true, apart := false, narrowed := true }
def FnExactNewOwnersUptoSaid : Prop := fnExactNewOwnersUptoRow.holds Try.pinned (OpenSpec.upto fnExactNewOwnersSpec)

/-- 'laws.FnExactGoodOwners', WHERE WHAT IT READS IS OF BULK AT MOST 1048576: true; the input reads as it did. -/
def fnExactGoodOwnersUptoRow : OpenClaim := { program := "ytfmmpddknanhbaa", sum := "c37b121da0f54cfe1daa02161884f32cdb47b29c8c36ed39f056ed9c9752685c", func := "loop.example/g00620/laws.FnExactGoodOwners", spec := "fnExactGoodOwners", apart := false, narrowed := true }
def FnExactGoodOwnersUptoSaid : Prop := fnExactGoodOwnersUptoRow.holds Try.pinned (OpenSpec.upto fnExactGoodOwnersSpec)

/-- 'laws.FnExactTakeBlock', WHERE WHAT IT READS IS OF BULK AT MOST 1048576: true; the input reads as it did. -/
def fnExactTakeBlockUptoRow : OpenClaim := { program := "ytfmmpddknanhbaa", sum := "c37b121da0f54cfe1daa02161884f32cdb47b29c8c36ed39f056ed9c9752685c", func := "loop.example/g00620/laws.FnExactTakeBlock", spec := "fnExactTakeBlock", unfollowed := true, recurses := true, apart := false, narrowed := true }
def FnExactTakeBlockUptoSaid : Prop := fnExactTakeBlockUptoRow.holds Try.pinned (OpenSpec.upto fnExactTakeBlockSpec)

/-- 'laws.FnExactFreeBlock', WHERE WHAT IT READS IS OF BULK AT MOST 1048576: true; the input reads as it did. -/
def fnExactFreeBlockUptoRow : OpenClaim := { program := "ytfmmpddknanhbaa", sum := "c37b121da0f54cfe1daa02161884f32cdb47b29c8c36ed39f056ed9c9752685c", func := "loop.example/g00620/laws.FnExactFreeBlock", spec := "fnExactFreeBlock", unfollowed := true, recurses := true, apart := false, narrowed := true }
def FnExactFreeBlockUptoSaid : Prop := fnExactFreeBlockUptoRow.holds Try.pinned (OpenSpec.upto fnExactFreeBlockSpec)

/-- 'laws.FnExactLendPage', WHERE WHAT IT READS IS OF BULK AT MOST 1048576: true; the input reads as it did. -/
def fnExactLendPageUptoRow : OpenClaim := { program := "ytfmmpddknanhbaa", sum := "c37b121da0f54cfe1daa02161884f32cdb47b29c8c36ed39f056ed9c9752685c", func := "loop.example/g00620/laws.FnExactLendPage", spec := "fnExactLendPage", unfollowed := true, recurses := true, apart := false, narrowed := true }
def FnExactLendPageUptoSaid : Prop := fnExactLendPageUptoRow.holds Try.pinned (OpenSpec.upto fnExactLendPageSpec)

/-- 'laws.FnExactBackPage', WHERE WHAT IT READS IS OF BULK AT MOST 1048576: true; the input reads as it did. -/
def fnExactBackPageUptoRow : OpenClaim := { program := "ytfmmpddknanhbaa", sum := "c37b121da0f54cfe1daa02161884f32cdb47b29c8c36ed39f056ed9c9752685c", func := "loop.example/g00620/laws.FnExactBackPage", spec := "fnExactBackPage", unfollowed := true, recurses := true, apart := false, narrowed := true }
def FnExactBackPageUptoSaid : Prop := fnExactBackPageUptoRow.holds Try.pinned (OpenSpec.upto fnExactBackPageSpec)

/-- 'laws.FnExactMayUse', WHERE WHAT IT READS IS OF BULK AT MOST 1048576: true; the input reads as it did. -/
def fnExactMayUseUptoRow : OpenClaim := { program := "ytfmmpddknanhbaa", sum := "c37b121da0f54cfe1daa02161884f32cdb47b29c8c36ed39f056ed9c9752685c", func := "loop.example/g00620/laws.FnExactMayUse", spec := "fnExactMayUse", unfollowed := true, recurses := true, apart := false, narrowed := true }
def FnExactMayUseUptoSaid : Prop := fnExactMayUseUptoRow.holds Try.pinned (OpenSpec.upto fnExactMayUseSpec)

/-- 'laws.FnExactFreeBlocks', WHERE WHAT IT READS IS OF BULK AT MOST 1048576: true; the input reads as it did. -/
def fnExactFreeBlocksUptoRow : OpenClaim := { program := "ytfmmpddknanhbaa", sum := "c37b121da0f54cfe1daa02161884f32cdb47b29c8c36ed39f056ed9c9752685c", func := "loop.example/g00620/laws.FnExactFreeBlocks", spec := "fnExactFreeBlocks", apart := false, narrowed := true }
def FnExactFreeBlocksUptoSaid : Prop := fnExactFreeBlocksUptoRow.holds Try.pinned (OpenSpec.upto fnExactFreeBlocksSpec)

/-- 'laws.FnExactDropOwner', WHERE WHAT IT READS IS OF BULK AT MOST 1048576: true; the input reads as it did. -/
def fnExactDropOwnerUptoRow : OpenClaim := { program := "ytfmmpddknanhbaa", sum := "c37b121da0f54cfe1daa02161884f32cdb47b29c8c36ed39f056ed9c9752685c", func := "loop.example/g00620/laws.FnExactDropOwner", spec := "fnExactDropOwner", unfollowed := true, recurses := true, apart := false, narrowed := true }
def FnExactDropOwnerUptoSaid : Prop := fnExactDropOwnerUptoRow.holds Try.pinned (OpenSpec.upto fnExactDropOwnerSpec)

end Rows
end Go.Proofs.Ytfmmpddknanhbaa
