/-
  No cell of these rows narrows 'for every input' (looked for: loops, veiled, ifaces, maps, wideKeys, modest, calm, conditions, laid).
  DERIVED. THE GIVEN ROWS OF THIS SEAT. 11 by the template 'for every input the law returns true; each argument reads behind the call as it read before'; 0 by the template 'total and deterministic' (their statements: YtchfkflidlgbpaaTotals.lean).
  GIVEN WITH THE SEED: the statements are not yours to turn. If you find one false, say at which input.
  Laid BY PROGRAM, IN A SANDBOX (cutbox-rows.mjs): the forced cells as the released guide's own fill.sh prints them over the translation ba0009275d6374d7… (all of the seat's roots in one cut). By AI agents, Wed Nov 11 2026. No macro, syntax, notation, axiom, sorry.
-/
import Derived.Test.YtchfkflidlgbpaaChecked
import GoSem.Claim
import GoSem.ClaimJoined
import GoSem.ClaimMapViews
import Derived.JoinedTies
import Derived.KernelRfl
namespace Go.Proofs.Ytchfkflidlgbpaa
/- THE CELL 'sum', in the pinned program and in every row, IS THE sha256 OF THE DUMP (.gsa) THAT YtchfkflidlgbpaaProg.lean LOADS. Nothing in Lean hashes anything: it is a label: what it is worth is what the hold of that sum in a sandbox is worth. -/
noncomputable def Try.pinned : Pinned := { name := "ytchfkflidlgbpaa", sum := "ba0009275d6374d783e185fdb7f0bd91b62baa26dcd3fd2fe21ec1cf02e91860", checked := Try.checked }
namespace Rows
def none {H : Type} : Left H := { results := [], args := [] }

/-- 'laws.FnMemory': WHATEVER THE INPUT: true; the input reads as it did. -/
def fnMemorySpec : ChangeSpec := { name := "fnMemory", fn := fun _ => fun
  | [d1, d2] => { results := [.lit (.bool true)], args := [d1, d2] }
  | _ => none }
def fnMemoryRow : OpenClaim := { program := "ytchfkflidlgbpaa", sum := "ba0009275d6374d783e185fdb7f0bd91b62baa26dcd3fd2fe21ec1cf02e91860", func := "loop.example/g00620/laws.FnMemory", spec := "fnMemory", apart := false }
def FnMemorySaid : Prop := fnMemoryRow.holds Try.pinned (OpenSpec.ofChange fnMemorySpec)

/-- ITS FALSE NEIGHBOUR: 'it returns false'. Refute it at one input. -/
def fnMemoryWrong : ChangeSpec := { name := "fnMemory", fn := fun _ => fun
  | [d1, d2] => { results := [.lit (.bool false)], args := [d1, d2] }
  | _ => none }
def FnMemoryWrongFalsely : Prop := fnMemoryRow.holds Try.pinned (OpenSpec.ofChange fnMemoryWrong)

/-- 'laws.FnStores': WHATEVER THE INPUT: true; the input reads as it did. -/
def fnStoresSpec : ChangeSpec := { name := "fnStores", fn := fun _ => fun
  | [d1, d2] => { results := [.lit (.bool true)], args := [d1, d2] }
  | _ => none }
def fnStoresRow : OpenClaim := { program := "ytchfkflidlgbpaa", sum := "ba0009275d6374d783e185fdb7f0bd91b62baa26dcd3fd2fe21ec1cf02e91860", func := "loop.example/g00620/laws.FnStores", spec := "fnStores", apart := false }
def FnStoresSaid : Prop := fnStoresRow.holds Try.pinned (OpenSpec.ofChange fnStoresSpec)

/-- ITS FALSE NEIGHBOUR: 'it returns false'. Refute it at one input. -/
def fnStoresWrong : ChangeSpec := { name := "fnStores", fn := fun _ => fun
  | [d1, d2] => { results := [.lit (.bool false)], args := [d1, d2] }
  | _ => none }
def FnStoresWrongFalsely : Prop := fnStoresRow.holds Try.pinned (OpenSpec.ofChange fnStoresWrong)

/-- 'laws.FnExactNewMemory': WHATEVER THE INPUT: true; the input reads as it did. -/
def fnExactNewMemorySpec : ChangeSpec := { name := "fnExactNewMemory", fn := fun _ => fun
  | [] => { results := [.lit (.bool true)], args := [] }
  | _ => none }
def fnExactNewMemoryRow : OpenClaim := { program := "ytchfkflidlgbpaa", sum := "ba0009275d6374d783e185fdb7f0bd91b62baa26dcd3fd2fe21ec1cf02e91860", func := "loop.example/g00620/laws.FnExactNewMemory", spec := "fnExactNewMemory", apart := false }
def FnExactNewMemorySaid : Prop := fnExactNewMemoryRow.holds Try.pinned (OpenSpec.ofChange fnExactNewMemorySpec)

/-- ITS FALSE NEIGHBOUR: 'it returns false'. Refute it at one input. -/
def fnExactNewMemoryWrong : ChangeSpec := { name := "fnExactNewMemory", fn := fun _ => fun
  | [] => { results := [.lit (.bool false)], args := [] }
  | _ => none }
def FnExactNewMemoryWrongFalsely : Prop := fnExactNewMemoryRow.holds Try.pinned (OpenSpec.ofChange fnExactNewMemoryWrong)

/-- 'laws.FnExactGoodMemory': WHATEVER THE INPUT: true; the input reads as it did. -/
def fnExactGoodMemorySpec : ChangeSpec := { name := "fnExactGoodMemory", fn := fun _ => fun
  | [d] => { results := [.lit (.bool true)], args := [d] }
  | _ => none }
def fnExactGoodMemoryRow : OpenClaim := { program := "ytchfkflidlgbpaa", sum := "ba0009275d6374d783e185fdb7f0bd91b62baa26dcd3fd2fe21ec1cf02e91860", func := "loop.example/g00620/laws.FnExactGoodMemory", spec := "fnExactGoodMemory", apart := false }
def FnExactGoodMemorySaid : Prop := fnExactGoodMemoryRow.holds Try.pinned (OpenSpec.ofChange fnExactGoodMemorySpec)

/-- ITS FALSE NEIGHBOUR: 'it returns false'. Refute it at one input. -/
def fnExactGoodMemoryWrong : ChangeSpec := { name := "fnExactGoodMemory", fn := fun _ => fun
  | [d] => { results := [.lit (.bool false)], args := [d] }
  | _ => none }
def FnExactGoodMemoryWrongFalsely : Prop := fnExactGoodMemoryRow.holds Try.pinned (OpenSpec.ofChange fnExactGoodMemoryWrong)

/-- 'laws.FnExactLoad': WHATEVER THE INPUT: true; the input reads as it did. -/
def fnExactLoadSpec : ChangeSpec := { name := "fnExactLoad", fn := fun _ => fun
  | [d1, d2] => { results := [.lit (.bool true)], args := [d1, d2] }
  | _ => none }
def fnExactLoadRow : OpenClaim := { program := "ytchfkflidlgbpaa", sum := "ba0009275d6374d783e185fdb7f0bd91b62baa26dcd3fd2fe21ec1cf02e91860", func := "loop.example/g00620/laws.FnExactLoad", spec := "fnExactLoad", apart := false }
def FnExactLoadSaid : Prop := fnExactLoadRow.holds Try.pinned (OpenSpec.ofChange fnExactLoadSpec)

/-- ITS FALSE NEIGHBOUR: 'it returns false'. Refute it at one input. -/
def fnExactLoadWrong : ChangeSpec := { name := "fnExactLoad", fn := fun _ => fun
  | [d1, d2] => { results := [.lit (.bool false)], args := [d1, d2] }
  | _ => none }
def FnExactLoadWrongFalsely : Prop := fnExactLoadRow.holds Try.pinned (OpenSpec.ofChange fnExactLoadWrong)

/-- 'laws.FnExactStore': WHATEVER THE INPUT: true; the input reads as it did. -/
def fnExactStoreSpec : ChangeSpec := { name := "fnExactStore", fn := fun _ => fun
  | [d1, d2, d3] => { results := [.lit (.bool true)], args := [d1, d2, d3] }
  | _ => none }
def fnExactStoreRow : OpenClaim := { program := "ytchfkflidlgbpaa", sum := "ba0009275d6374d783e185fdb7f0bd91b62baa26dcd3fd2fe21ec1cf02e91860", func := "loop.example/g00620/laws.FnExactStore", spec := "fnExactStore", apart := false }
def FnExactStoreSaid : Prop := fnExactStoreRow.holds Try.pinned (OpenSpec.ofChange fnExactStoreSpec)

/-- ITS FALSE NEIGHBOUR: 'it returns false'. Refute it at one input. -/
def fnExactStoreWrong : ChangeSpec := { name := "fnExactStore", fn := fun _ => fun
  | [d1, d2, d3] => { results := [.lit (.bool false)], args := [d1, d2, d3] }
  | _ => none }
def FnExactStoreWrongFalsely : Prop := fnExactStoreRow.holds Try.pinned (OpenSpec.ofChange fnExactStoreWrong)

/-- 'laws.FnExactFlushLine': WHATEVER THE INPUT: true; the input reads as it did. -/
def fnExactFlushLineSpec : ChangeSpec := { name := "fnExactFlushLine", fn := fun _ => fun
  | [d1, d2] => { results := [.lit (.bool true)], args := [d1, d2] }
  | _ => none }
def fnExactFlushLineRow : OpenClaim := { program := "ytchfkflidlgbpaa", sum := "ba0009275d6374d783e185fdb7f0bd91b62baa26dcd3fd2fe21ec1cf02e91860", func := "loop.example/g00620/laws.FnExactFlushLine", spec := "fnExactFlushLine", apart := false }
def FnExactFlushLineSaid : Prop := fnExactFlushLineRow.holds Try.pinned (OpenSpec.ofChange fnExactFlushLineSpec)

/-- ITS FALSE NEIGHBOUR: 'it returns false'. Refute it at one input. -/
def fnExactFlushLineWrong : ChangeSpec := { name := "fnExactFlushLine", fn := fun _ => fun
  | [d1, d2] => { results := [.lit (.bool false)], args := [d1, d2] }
  | _ => none }
def FnExactFlushLineWrongFalsely : Prop := fnExactFlushLineRow.holds Try.pinned (OpenSpec.ofChange fnExactFlushLineWrong)

/-- 'laws.FnExactFlushAll': WHATEVER THE INPUT: true; the input reads as it did. -/
def fnExactFlushAllSpec : ChangeSpec := { name := "fnExactFlushAll", fn := fun _ => fun
  | [d] => { results := [.lit (.bool true)], args := [d] }
  | _ => none }
def fnExactFlushAllRow : OpenClaim := { program := "ytchfkflidlgbpaa", sum := "ba0009275d6374d783e185fdb7f0bd91b62baa26dcd3fd2fe21ec1cf02e91860", func := "loop.example/g00620/laws.FnExactFlushAll", spec := "fnExactFlushAll", apart := false }
def FnExactFlushAllSaid : Prop := fnExactFlushAllRow.holds Try.pinned (OpenSpec.ofChange fnExactFlushAllSpec)

/-- ITS FALSE NEIGHBOUR: 'it returns false'. Refute it at one input. -/
def fnExactFlushAllWrong : ChangeSpec := { name := "fnExactFlushAll", fn := fun _ => fun
  | [d] => { results := [.lit (.bool false)], args := [d] }
  | _ => none }
def FnExactFlushAllWrongFalsely : Prop := fnExactFlushAllRow.holds Try.pinned (OpenSpec.ofChange fnExactFlushAllWrong)

/-- 'laws.FnExactFailPower': WHATEVER THE INPUT: true; the input reads as it did. -/
def fnExactFailPowerSpec : ChangeSpec := { name := "fnExactFailPower", fn := fun _ => fun
  | [d1, d2] => { results := [.lit (.bool true)], args := [d1, d2] }
  | _ => none }
def fnExactFailPowerRow : OpenClaim := { program := "ytchfkflidlgbpaa", sum := "ba0009275d6374d783e185fdb7f0bd91b62baa26dcd3fd2fe21ec1cf02e91860", func := "loop.example/g00620/laws.FnExactFailPower", spec := "fnExactFailPower", apart := false }
def FnExactFailPowerSaid : Prop := fnExactFailPowerRow.holds Try.pinned (OpenSpec.ofChange fnExactFailPowerSpec)

/-- ITS FALSE NEIGHBOUR: 'it returns false'. Refute it at one input. -/
def fnExactFailPowerWrong : ChangeSpec := { name := "fnExactFailPower", fn := fun _ => fun
  | [d1, d2] => { results := [.lit (.bool false)], args := [d1, d2] }
  | _ => none }
def FnExactFailPowerWrongFalsely : Prop := fnExactFailPowerRow.holds Try.pinned (OpenSpec.ofChange fnExactFailPowerWrong)

/-- 'laws.FnExactStoreAll': WHATEVER THE INPUT: true; the input reads as it did. -/
def fnExactStoreAllSpec : ChangeSpec := { name := "fnExactStoreAll", fn := fun _ => fun
  | [d1, d2, d3] => { results := [.lit (.bool true)], args := [d1, d2, d3] }
  | _ => none }
def fnExactStoreAllRow : OpenClaim := { program := "ytchfkflidlgbpaa", sum := "ba0009275d6374d783e185fdb7f0bd91b62baa26dcd3fd2fe21ec1cf02e91860", func := "loop.example/g00620/laws.FnExactStoreAll", spec := "fnExactStoreAll", apart := false }
def FnExactStoreAllSaid : Prop := fnExactStoreAllRow.holds Try.pinned (OpenSpec.ofChange fnExactStoreAllSpec)

/-- ITS FALSE NEIGHBOUR: 'it returns false'. Refute it at one input. -/
def fnExactStoreAllWrong : ChangeSpec := { name := "fnExactStoreAll", fn := fun _ => fun
  | [d1, d2, d3] => { results := [.lit (.bool false)], args := [d1, d2, d3] }
  | _ => none }
def FnExactStoreAllWrongFalsely : Prop := fnExactStoreAllRow.holds Try.pinned (OpenSpec.ofChange fnExactStoreAllWrong)

/-- 'laws.FnExactLoadAll': WHATEVER THE INPUT: true; the input reads as it did. -/
def fnExactLoadAllSpec : ChangeSpec := { name := "fnExactLoadAll", fn := fun _ => fun
  | [d1, d2, d3] => { results := [.lit (.bool true)], args := [d1, d2, d3] }
  | _ => none }
def fnExactLoadAllRow : OpenClaim := { program := "ytchfkflidlgbpaa", sum := "ba0009275d6374d783e185fdb7f0bd91b62baa26dcd3fd2fe21ec1cf02e91860", func := "loop.example/g00620/laws.FnExactLoadAll", spec := "fnExactLoadAll", apart := false }
def FnExactLoadAllSaid : Prop := fnExactLoadAllRow.holds Try.pinned (OpenSpec.ofChange fnExactLoadAllSpec)

/-- ITS FALSE NEIGHBOUR: 'it returns false'. Refute it at one input. -/
def fnExactLoadAllWrong : ChangeSpec := { name := "fnExactLoadAll", fn := fun _ => fun
  | [d1, d2, d3] => { results := [.lit (.bool false)], args := [d1, d2, d3] }
  | _ => none }
def FnExactLoadAllWrongFalsely : Prop := fnExactLoadAllRow.holds Try.pinned (OpenSpec.ofChange fnExactLoadAllWrong)

/- THE SECOND FORM. 'bulk': how many values and letters a reading holds, each counted each time it is reached (what is shared counts as often as it is met; a slice's spare places count too). A statement '..UptoSaid' is the law's where the arguments, and the package variables that the reading takes, are together of bulk at most 1048576: NARROWER than '..Said'. Prove '..Said' where nothing that the law and all that it calls make is longer than what came in: it says more and counts as full. Else prove '..UptoSaid'. A law counts once. -/
mutual
def uptoBulk {H : Type} : DataW H → Nat
  | .lit (.string bytes) => bytes.length + 1
  | .lit _ => 1
  | .nil => 1
  | .ptr d => uptoBulk d + 1
  | .slice elems spare => uptoBulkAll elems + uptoBulkAll spare + 1
  | .agg parts => uptoBulkAll parts + 1
  | .iface _ d => uptoBulk d + 1
  | .map entries => uptoBulkEntries entries + 1
  | .held _ => 1
def uptoBulkAll {H : Type} : List (DataW H) → Nat
  | [] => 0
  | d :: r => uptoBulk d + uptoBulkAll r
def uptoBulkEntries {H : Type} : List (Lit × DataW H) → Nat
  | [] => 0
  | x :: r => uptoBulkEntry x + uptoBulkEntries r
def uptoBulkEntry {H : Type} : Lit × DataW H → Nat
  | (.string bytes, d) => bytes.length + uptoBulk d + 1
  | (_, d) => uptoBulk d + 1
 end
def uptoSmall : (H : Type) → List (DataW H) → Bool := fun _ ds => decide (uptoBulkAll ds ≤ 1048576)
def OpenSpec.upto (s : _root_.Go.ChangeSpec) : _root_.Go.OpenSpec := { _root_.Go.OpenSpec.ofChange s with cond := some uptoSmall }

/-- 'laws.FnMemory', WHERE WHAT IT READS IS OF BULK AT MOST 1048576: true; the input reads as it did. -/
def fnMemoryUptoRow : OpenClaim := { program := "ytchfkflidlgbpaa", sum := "ba0009275d6374d783e185fdb7f0bd91b62baa26dcd3fd2fe21ec1cf02e91860", func := "loop.example/g00620/laws.FnMemory", spec := "fnMemory", apart := false, narrowed := true }
def FnMemoryUptoSaid : Prop := fnMemoryUptoRow.holds Try.pinned (OpenSpec.upto fnMemorySpec)

/-- 'laws.FnStores', WHERE WHAT IT READS IS OF BULK AT MOST 1048576: true; the input reads as it did. -/
def fnStoresUptoRow : OpenClaim := { program := "ytchfkflidlgbpaa", sum := "ba0009275d6374d783e185fdb7f0bd91b62baa26dcd3fd2fe21ec1cf02e91860", func := "loop.example/g00620/laws.FnStores", spec := "fnStores", apart := false, narrowed := true }
def FnStoresUptoSaid : Prop := fnStoresUptoRow.holds Try.pinned (OpenSpec.upto fnStoresSpec)

/-- 'laws.FnExactNewMemory', WHERE WHAT IT READS IS OF BULK AT MOST 1048576: true; the input reads as it did. -/
def fnExactNewMemoryUptoRow : OpenClaim := { program := "ytchfkflidlgbpaa", sum := "ba0009275d6374d783e185fdb7f0bd91b62baa26dcd3fd2fe21ec1cf02e91860", func := "loop.example/g00620/laws.FnExactNewMemory", spec := "fnExactNewMemory", apart := false, narrowed := true }
def FnExactNewMemoryUptoSaid : Prop := fnExactNewMemoryUptoRow.holds Try.pinned (OpenSpec.upto fnExactNewMemorySpec)

/-- 'laws.FnExactGoodMemory', WHERE WHAT IT READS IS OF BULK AT MOST 1048576: true; the input reads as it did. -/
def fnExactGoodMemoryUptoRow : OpenClaim := { program := "ytchfkflidlgbpaa", sum := "ba0009275d6374d783e185fdb7f0bd91b62baa26dcd3fd2fe21ec1cf02e91860", func := "loop.example/g00620/laws.FnExactGoodMemory", spec := "fnExactGoodMemory", apart := false, narrowed := true }
def FnExactGoodMemoryUptoSaid : Prop := fnExactGoodMemoryUptoRow.holds Try.pinned (OpenSpec.upto fnExactGoodMemorySpec)

/-- 'laws.FnExactLoad', WHERE WHAT IT READS IS OF BULK AT MOST 1048576: true; the input reads as it did. -/
def fnExactLoadUptoRow : OpenClaim := { program := "ytchfkflidlgbpaa", sum := "ba0009275d6374d783e185fdb7f0bd91b62baa26dcd3fd2fe21ec1cf02e91860", func := "loop.example/g00620/laws.FnExactLoad", spec := "fnExactLoad", apart := false, narrowed := true }
def FnExactLoadUptoSaid : Prop := fnExactLoadUptoRow.holds Try.pinned (OpenSpec.upto fnExactLoadSpec)

/-- 'laws.FnExactStore', WHERE WHAT IT READS IS OF BULK AT MOST 1048576: true; the input reads as it did. -/
def fnExactStoreUptoRow : OpenClaim := { program := "ytchfkflidlgbpaa", sum := "ba0009275d6374d783e185fdb7f0bd91b62baa26dcd3fd2fe21ec1cf02e91860", func := "loop.example/g00620/laws.FnExactStore", spec := "fnExactStore", apart := false, narrowed := true }
def FnExactStoreUptoSaid : Prop := fnExactStoreUptoRow.holds Try.pinned (OpenSpec.upto fnExactStoreSpec)

/-- 'laws.FnExactFlushLine', WHERE WHAT IT READS IS OF BULK AT MOST 1048576: true; the input reads as it did. -/
def fnExactFlushLineUptoRow : OpenClaim := { program := "ytchfkflidlgbpaa", sum := "ba0009275d6374d783e185fdb7f0bd91b62baa26dcd3fd2fe21ec1cf02e91860", func := "loop.example/g00620/laws.FnExactFlushLine", spec := "fnExactFlushLine", apart := false, narrowed := true }
def FnExactFlushLineUptoSaid : Prop := fnExactFlushLineUptoRow.holds Try.pinned (OpenSpec.upto fnExactFlushLineSpec)

/-- 'laws.FnExactFlushAll', WHERE WHAT IT READS IS OF BULK AT MOST 1048576: true; the input reads as it did. -/
def fnExactFlushAllUptoRow : OpenClaim := { program := "ytchfkflidlgbpaa", sum := "ba0009275d6374d783e185fdb7f0bd91b62baa26dcd3fd2fe21ec1cf02e91860", func := "loop.example/g00620/laws.FnExactFlushAll", spec := "fnExactFlushAll", apart := false, narrowed := true }
def FnExactFlushAllUptoSaid : Prop := fnExactFlushAllUptoRow.holds Try.pinned (OpenSpec.upto fnExactFlushAllSpec)

/-- 'laws.FnExactFailPower', WHERE WHAT IT READS IS OF BULK AT MOST 1048576: true; the input reads as it did. -/
def fnExactFailPowerUptoRow : OpenClaim := { program := "ytchfkflidlgbpaa", sum := "ba0009275d6374d783e185fdb7f0bd91b62baa26dcd3fd2fe21ec1cf02e91860", func := "loop.example/g00620/laws.FnExactFailPower", spec := "fnExactFailPower", apart := false, narrowed := true }
def FnExactFailPowerUptoSaid : Prop := fnExactFailPowerUptoRow.holds Try.pinned (OpenSpec.upto fnExactFailPowerSpec)

/-- 'laws.FnExactStoreAll', WHERE WHAT IT READS IS OF BULK AT MOST 1048576: true; the input reads as it did. -/
def fnExactStoreAllUptoRow : OpenClaim := { program := "ytchfkflidlgbpaa", sum := "ba0009275d6374d783e185fdb7f0bd91b62baa26dcd3fd2fe21ec1cf02e91860", func := "loop.example/g00620/laws.FnExactStoreAll", spec := "fnExactStoreAll", apart := false, narrowed := true }
def FnExactStoreAllUptoSaid : Prop := fnExactStoreAllUptoRow.holds Try.pinned (OpenSpec.upto fnExactStoreAllSpec)

/-- 'laws.FnExactLoadAll', WHERE WHAT IT READS IS OF BULK AT MOST 1048576: true; the input reads as it did. -/
def fnExactLoadAllUptoRow : OpenClaim := { program := "ytchfkflidlgbpaa", sum := "ba0009275d6374d783e185fdb7f0bd91b62baa26dcd3fd2fe21ec1cf02e91860", func := "loop.example/g00620/laws.FnExactLoadAll", spec := "fnExactLoadAll", apart := false, narrowed := true }
def FnExactLoadAllUptoSaid : Prop := fnExactLoadAllUptoRow.holds Try.pinned (OpenSpec.upto fnExactLoadAllSpec)

end Rows
end Go.Proofs.Ytchfkflidlgbpaa
