/-
  No cell of these rows narrows 'for every input' (looked for: loops, veiled, ifaces, maps, wideKeys, modest, calm, conditions, laid).
  DERIVED. THE GIVEN ROWS OF THIS SEAT. 11 by the template 'for every input the law returns true; each argument reads behind the call as it read before'; 0 by the template 'total and deterministic' (their statements: YtnbcjdoohmjghaaTotals.lean).
  GIVEN WITH THE SEED: the statements are not yours to turn. If you find one false, say at which input.
  Laid BY PROGRAM, IN A SANDBOX (cutbox-rows.mjs): the forced cells as the released guide's own fill.sh prints them over the translation 9805a8e1feaec480… (all of the seat's roots in one cut). By AI agents, Wed Nov 11 2026. No macro, syntax, notation, axiom, sorry.
-/
import Derived.Test.YtnbcjdoohmjghaaChecked
import GoSem.Claim
import GoSem.ClaimJoined
import GoSem.ClaimMapViews
import Derived.JoinedTies
import Derived.KernelRfl
namespace Go.Proofs.Ytnbcjdoohmjghaa
/- THE CELL 'sum', in the pinned program and in every row, IS THE sha256 OF THE DUMP (.gsa) THAT YtnbcjdoohmjghaaProg.lean LOADS. Nothing in Lean hashes anything: it is a label: what it is worth is what the hold of that sum in a sandbox is worth. -/
noncomputable def Try.pinned : Pinned := { name := "ytnbcjdoohmjghaa", sum := "9805a8e1feaec48050dd93ffaa74a2ed00e8cb25598dbeb82faa6bbe524f99dd", checked := Try.checked }
namespace Rows
def none {H : Type} : Left H := { results := [], args := [] }

/-- 'laws.FnMemory': WHATEVER THE INPUT: true; the input reads as it did. -/
def fnMemorySpec : ChangeSpec := { name := "fnMemory", fn := fun _ => fun
  | [d1, d2] => { results := [.lit (.bool true)], args := [d1, d2] }
  | _ => none }
def fnMemoryRow : OpenClaim := { program := "ytnbcjdoohmjghaa", sum := "9805a8e1feaec48050dd93ffaa74a2ed00e8cb25598dbeb82faa6bbe524f99dd", func := "loop.example/g00620/laws.FnMemory", spec := "fnMemory", apart := false }
def FnMemorySaid : Prop := fnMemoryRow.holds Try.pinned (OpenSpec.ofChange fnMemorySpec)

/-- ITS FALSE NEIGHBOUR: 'it returns false'. Refute it at one input. -/
def fnMemoryWrong : ChangeSpec := { name := "fnMemory", fn := fun _ => fun
  | [d1, d2] => { results := [.lit (.bool false)], args := [d1, d2] }
  | _ => none }
def FnMemoryWrongFalsely : Prop := fnMemoryRow.holds Try.pinned (OpenSpec.ofChange fnMemoryWrong)

/-- 'laws.FnStores': WHATEVER THE INPUT: true; the input reads as it did. -/
def fnStoresSpec : ChangeSpec := { name := "fnStores", fn := fun _ => fun
  | [d1, d2] => { results := [.lit (.bool true)], args := [d1, d2] }
  | _ => none }
def fnStoresRow : OpenClaim := { program := "ytnbcjdoohmjghaa", sum := "9805a8e1feaec48050dd93ffaa74a2ed00e8cb25598dbeb82faa6bbe524f99dd", func := "loop.example/g00620/laws.FnStores", spec := "fnStores", apart := false }
def FnStoresSaid : Prop := fnStoresRow.holds Try.pinned (OpenSpec.ofChange fnStoresSpec)

/-- ITS FALSE NEIGHBOUR: 'it returns false'. Refute it at one input. -/
def fnStoresWrong : ChangeSpec := { name := "fnStores", fn := fun _ => fun
  | [d1, d2] => { results := [.lit (.bool false)], args := [d1, d2] }
  | _ => none }
def FnStoresWrongFalsely : Prop := fnStoresRow.holds Try.pinned (OpenSpec.ofChange fnStoresWrong)

/-- 'laws.FnSlots': WHATEVER THE INPUT: true; the input reads as it did. -/
def fnSlotsSpec : ChangeSpec := { name := "fnSlots", fn := fun _ => fun
  | [d1, d2] => { results := [.lit (.bool true)], args := [d1, d2] }
  | _ => none }
def fnSlotsRow : OpenClaim := { program := "ytnbcjdoohmjghaa", sum := "9805a8e1feaec48050dd93ffaa74a2ed00e8cb25598dbeb82faa6bbe524f99dd", func := "loop.example/g00620/laws.FnSlots", spec := "fnSlots", apart := false }
def FnSlotsSaid : Prop := fnSlotsRow.holds Try.pinned (OpenSpec.ofChange fnSlotsSpec)

/-- ITS FALSE NEIGHBOUR: 'it returns false'. Refute it at one input. -/
def fnSlotsWrong : ChangeSpec := { name := "fnSlots", fn := fun _ => fun
  | [d1, d2] => { results := [.lit (.bool false)], args := [d1, d2] }
  | _ => none }
def FnSlotsWrongFalsely : Prop := fnSlotsRow.holds Try.pinned (OpenSpec.ofChange fnSlotsWrong)

/-- 'laws.FnSlotLines': WHATEVER THE INPUT: true; the input reads as it did. -/
def fnSlotLinesSpec : ChangeSpec := { name := "fnSlotLines", fn := fun _ => fun
  | [d1, d2] => { results := [.lit (.bool true)], args := [d1, d2] }
  | _ => none }
def fnSlotLinesRow : OpenClaim := { program := "ytnbcjdoohmjghaa", sum := "9805a8e1feaec48050dd93ffaa74a2ed00e8cb25598dbeb82faa6bbe524f99dd", func := "loop.example/g00620/laws.FnSlotLines", spec := "fnSlotLines", apart := false }
def FnSlotLinesSaid : Prop := fnSlotLinesRow.holds Try.pinned (OpenSpec.ofChange fnSlotLinesSpec)

/-- ITS FALSE NEIGHBOUR: 'it returns false'. Refute it at one input. -/
def fnSlotLinesWrong : ChangeSpec := { name := "fnSlotLines", fn := fun _ => fun
  | [d1, d2] => { results := [.lit (.bool false)], args := [d1, d2] }
  | _ => none }
def FnSlotLinesWrongFalsely : Prop := fnSlotLinesRow.holds Try.pinned (OpenSpec.ofChange fnSlotLinesWrong)

/-- 'laws.FnExactSlotSum': WHATEVER THE INPUT: true; the input reads as it did. -/
def fnExactSlotSumSpec : ChangeSpec := { name := "fnExactSlotSum", fn := fun _ => fun
  | [d] => { results := [.lit (.bool true)], args := [d] }
  | _ => none }
def fnExactSlotSumRow : OpenClaim := { program := "ytnbcjdoohmjghaa", sum := "9805a8e1feaec48050dd93ffaa74a2ed00e8cb25598dbeb82faa6bbe524f99dd", func := "loop.example/g00620/laws.FnExactSlotSum", spec := "fnExactSlotSum", apart := false }
def FnExactSlotSumSaid : Prop := fnExactSlotSumRow.holds Try.pinned (OpenSpec.ofChange fnExactSlotSumSpec)

/-- ITS FALSE NEIGHBOUR: 'it returns false'. Refute it at one input. -/
def fnExactSlotSumWrong : ChangeSpec := { name := "fnExactSlotSum", fn := fun _ => fun
  | [d] => { results := [.lit (.bool false)], args := [d] }
  | _ => none }
def FnExactSlotSumWrongFalsely : Prop := fnExactSlotSumRow.holds Try.pinned (OpenSpec.ofChange fnExactSlotSumWrong)

/-- 'laws.FnExactWriteSlot': WHATEVER THE INPUT: true; the input reads as it did. -/
def fnExactWriteSlotSpec : ChangeSpec := { name := "fnExactWriteSlot", fn := fun _ => fun
  | [d1, d2] => { results := [.lit (.bool true)], args := [d1, d2] }
  | _ => none }
def fnExactWriteSlotRow : OpenClaim := { program := "ytnbcjdoohmjghaa", sum := "9805a8e1feaec48050dd93ffaa74a2ed00e8cb25598dbeb82faa6bbe524f99dd", func := "loop.example/g00620/laws.FnExactWriteSlot", spec := "fnExactWriteSlot", apart := false }
def FnExactWriteSlotSaid : Prop := fnExactWriteSlotRow.holds Try.pinned (OpenSpec.ofChange fnExactWriteSlotSpec)

/-- ITS FALSE NEIGHBOUR: 'it returns false'. Refute it at one input. -/
def fnExactWriteSlotWrong : ChangeSpec := { name := "fnExactWriteSlot", fn := fun _ => fun
  | [d1, d2] => { results := [.lit (.bool false)], args := [d1, d2] }
  | _ => none }
def FnExactWriteSlotWrongFalsely : Prop := fnExactWriteSlotRow.holds Try.pinned (OpenSpec.ofChange fnExactWriteSlotWrong)

/-- 'laws.FnExactReadSlots': WHATEVER THE INPUT: true; the input reads as it did. -/
def fnExactReadSlotsSpec : ChangeSpec := { name := "fnExactReadSlots", fn := fun _ => fun
  | [d] => { results := [.lit (.bool true)], args := [d] }
  | _ => none }
def fnExactReadSlotsRow : OpenClaim := { program := "ytnbcjdoohmjghaa", sum := "9805a8e1feaec48050dd93ffaa74a2ed00e8cb25598dbeb82faa6bbe524f99dd", func := "loop.example/g00620/laws.FnExactReadSlots", spec := "fnExactReadSlots", apart := false }
def FnExactReadSlotsSaid : Prop := fnExactReadSlotsRow.holds Try.pinned (OpenSpec.ofChange fnExactReadSlotsSpec)

/-- ITS FALSE NEIGHBOUR: 'it returns false'. Refute it at one input. -/
def fnExactReadSlotsWrong : ChangeSpec := { name := "fnExactReadSlots", fn := fun _ => fun
  | [d] => { results := [.lit (.bool false)], args := [d] }
  | _ => none }
def FnExactReadSlotsWrongFalsely : Prop := fnExactReadSlotsRow.holds Try.pinned (OpenSpec.ofChange fnExactReadSlotsWrong)

/-- 'laws.FnExactNewestSlot': WHATEVER THE INPUT: true; the input reads as it did. -/
def fnExactNewestSlotSpec : ChangeSpec := { name := "fnExactNewestSlot", fn := fun _ => fun
  | [d] => { results := [.lit (.bool true)], args := [d] }
  | _ => none }
def fnExactNewestSlotRow : OpenClaim := { program := "ytnbcjdoohmjghaa", sum := "9805a8e1feaec48050dd93ffaa74a2ed00e8cb25598dbeb82faa6bbe524f99dd", func := "loop.example/g00620/laws.FnExactNewestSlot", spec := "fnExactNewestSlot", apart := false }
def FnExactNewestSlotSaid : Prop := fnExactNewestSlotRow.holds Try.pinned (OpenSpec.ofChange fnExactNewestSlotSpec)

/-- ITS FALSE NEIGHBOUR: 'it returns false'. Refute it at one input. -/
def fnExactNewestSlotWrong : ChangeSpec := { name := "fnExactNewestSlot", fn := fun _ => fun
  | [d] => { results := [.lit (.bool false)], args := [d] }
  | _ => none }
def FnExactNewestSlotWrongFalsely : Prop := fnExactNewestSlotRow.holds Try.pinned (OpenSpec.ofChange fnExactNewestSlotWrong)

/-- 'laws.FnExactNextSlot': WHATEVER THE INPUT: true; the input reads as it did. -/
def fnExactNextSlotSpec : ChangeSpec := { name := "fnExactNextSlot", fn := fun _ => fun
  | [d1, d2, d3] => { results := [.lit (.bool true)], args := [d1, d2, d3] }
  | _ => none }
def fnExactNextSlotRow : OpenClaim := { program := "ytnbcjdoohmjghaa", sum := "9805a8e1feaec48050dd93ffaa74a2ed00e8cb25598dbeb82faa6bbe524f99dd", func := "loop.example/g00620/laws.FnExactNextSlot", spec := "fnExactNextSlot", apart := false }
def FnExactNextSlotSaid : Prop := fnExactNextSlotRow.holds Try.pinned (OpenSpec.ofChange fnExactNextSlotSpec)

/-- ITS FALSE NEIGHBOUR: 'it returns false'. Refute it at one input. -/
def fnExactNextSlotWrong : ChangeSpec := { name := "fnExactNextSlot", fn := fun _ => fun
  | [d1, d2, d3] => { results := [.lit (.bool false)], args := [d1, d2, d3] }
  | _ => none }
def FnExactNextSlotWrongFalsely : Prop := fnExactNextSlotRow.holds Try.pinned (OpenSpec.ofChange fnExactNextSlotWrong)

/-- 'laws.FnExactSlotLine': WHATEVER THE INPUT: true; the input reads as it did. -/
def fnExactSlotLineSpec : ChangeSpec := { name := "fnExactSlotLine", fn := fun _ => fun
  | [d] => { results := [.lit (.bool true)], args := [d] }
  | _ => none }
def fnExactSlotLineRow : OpenClaim := { program := "ytnbcjdoohmjghaa", sum := "9805a8e1feaec48050dd93ffaa74a2ed00e8cb25598dbeb82faa6bbe524f99dd", func := "loop.example/g00620/laws.FnExactSlotLine", spec := "fnExactSlotLine", apart := false }
def FnExactSlotLineSaid : Prop := fnExactSlotLineRow.holds Try.pinned (OpenSpec.ofChange fnExactSlotLineSpec)

/-- ITS FALSE NEIGHBOUR: 'it returns false'. Refute it at one input. -/
def fnExactSlotLineWrong : ChangeSpec := { name := "fnExactSlotLine", fn := fun _ => fun
  | [d] => { results := [.lit (.bool false)], args := [d] }
  | _ => none }
def FnExactSlotLineWrongFalsely : Prop := fnExactSlotLineRow.holds Try.pinned (OpenSpec.ofChange fnExactSlotLineWrong)

/-- 'laws.FnExactCommitSlot': WHATEVER THE INPUT: true; the input reads as it did. -/
def fnExactCommitSlotSpec : ChangeSpec := { name := "fnExactCommitSlot", fn := fun _ => fun
  | [d1, d2] => { results := [.lit (.bool true)], args := [d1, d2] }
  | _ => none }
def fnExactCommitSlotRow : OpenClaim := { program := "ytnbcjdoohmjghaa", sum := "9805a8e1feaec48050dd93ffaa74a2ed00e8cb25598dbeb82faa6bbe524f99dd", func := "loop.example/g00620/laws.FnExactCommitSlot", spec := "fnExactCommitSlot", apart := false }
def FnExactCommitSlotSaid : Prop := fnExactCommitSlotRow.holds Try.pinned (OpenSpec.ofChange fnExactCommitSlotSpec)

/-- ITS FALSE NEIGHBOUR: 'it returns false'. Refute it at one input. -/
def fnExactCommitSlotWrong : ChangeSpec := { name := "fnExactCommitSlot", fn := fun _ => fun
  | [d1, d2] => { results := [.lit (.bool false)], args := [d1, d2] }
  | _ => none }
def FnExactCommitSlotWrongFalsely : Prop := fnExactCommitSlotRow.holds Try.pinned (OpenSpec.ofChange fnExactCommitSlotWrong)

/- THE SECOND FORM. 'bulk': how many values and letters a reading holds, each counted each time it is reached (what is shared counts as often as it is met; a slice's spare places count too). A statement '..UptoSaid' is the law's where the arguments, and the package variables that the reading takes, are together of bulk at most 1048576: NARROWER than '..Said'. Prove '..Said' where nothing that the law and all that it calls make is longer than what came in: it says more and counts as full. Else prove '..UptoSaid'. A law counts once. -/
mutual
def uptoBulk {H : Type} : DataW H → Nat
  | .lit (.string bytes) => bytes.length + 1
  | .lit _ => 1
  | .nil => 1
  | .ptr d => uptoBulk d + 1
  | .slice elems spare => uptoBulkAll elems + uptoBulkAll spare + 1
  | .agg parts => uptoBulkAll parts + 1
  | .iface _ d => uptoBulk d + 1
  | .map entries => uptoBulkEntries entries + 1
  | .held _ => 1
def uptoBulkAll {H : Type} : List (DataW H) → Nat
  | [] => 0
  | d :: r => uptoBulk d + uptoBulkAll r
def uptoBulkEntries {H : Type} : List (Lit × DataW H) → Nat
  | [] => 0
  | x :: r => uptoBulkEntry x + uptoBulkEntries r
def uptoBulkEntry {H : Type} : Lit × DataW H → Nat
  | (.string bytes, d) => bytes.length + uptoBulk d + 1
  | (_, d) => uptoBulk d + 1
 end
def uptoSmall : (H : Type) → List (DataW H) → Bool := fun _ ds => decide (uptoBulkAll ds ≤ 1048576)
def OpenSpec.upto (s : _root_.Go.ChangeSpec) : _root_.Go.OpenSpec := { _root_.Go.OpenSpec.ofChange s with cond := some uptoSmall }

/-- 'laws.FnMemory', WHERE WHAT IT READS IS OF BULK AT MOST 1048576: true; the input reads as it did. -/
def fnMemoryUptoRow : OpenClaim := { program := "ytnbcjdoohmjghaa", sum := "9805a8e1feaec48050dd93ffaa74a2ed00e8cb25598dbeb82faa6bbe524f99dd", func := "loop.example/g00620/laws.FnMemory", spec := "fnMemory", apart := false, narrowed := true }
def FnMemoryUptoSaid : Prop := fnMemoryUptoRow.holds Try.pinned (OpenSpec.upto fnMemorySpec)

/-- 'laws.FnStores', WHERE WHAT IT READS IS OF BULK AT MOST 1048576: true; the input reads as it did. -/
def fnStoresUptoRow : OpenClaim := { program := "ytnbcjdoohmjghaa", sum := "9805a8e1feaec48050dd93ffaa74a2ed00e8cb25598dbeb82faa6bbe524f99dd", func := "loop.example/g00620/laws.FnStores", spec := "fnStores", apart := false, narrowed := true }
def FnStoresUptoSaid : Prop := fnStoresUptoRow.holds Try.pinned (OpenSpec.upto fnStoresSpec)

/-- 'laws.FnSlots', WHERE WHAT IT READS IS OF BULK AT MOST 1048576: true; the input reads as it did. -/
def fnSlotsUptoRow : OpenClaim := { program := "ytnbcjdoohmjghaa", sum := "9805a8e1feaec48050dd93ffaa74a2ed00e8cb25598dbeb82faa6bbe524f99dd", func := "loop.example/g00620/laws.FnSlots", spec := "fnSlots", apart := false, narrowed := true }
def FnSlotsUptoSaid : Prop := fnSlotsUptoRow.holds Try.pinned (OpenSpec.upto fnSlotsSpec)

/-- 'laws.FnSlotLines', WHERE WHAT IT READS IS OF BULK AT MOST 1048576: true; the input reads as it did. -/
def fnSlotLinesUptoRow : OpenClaim := { program := "ytnbcjdoohmjghaa", sum := "9805a8e1feaec48050dd93ffaa74a2ed00e8cb25598dbeb82faa6bbe524f99dd", func := "loop.example/g00620/laws.FnSlotLines", spec := "fnSlotLines", apart := false, narrowed := true }
def FnSlotLinesUptoSaid : Prop := fnSlotLinesUptoRow.holds Try.pinned (OpenSpec.upto fnSlotLinesSpec)

/-- 'laws.FnExactSlotSum', WHERE WHAT IT READS IS OF BULK AT MOST 1048576: true; the input reads as it did. -/
def fnExactSlotSumUptoRow : OpenClaim := { program := "ytnbcjdoohmjghaa", sum := "9805a8e1feaec48050dd93ffaa74a2ed00e8cb25598dbeb82faa6bbe524f99dd", func := "loop.example/g00620/laws.FnExactSlotSum", spec := "fnExactSlotSum", apart := false, narrowed := true }
def FnExactSlotSumUptoSaid : Prop := fnExactSlotSumUptoRow.holds Try.pinned (OpenSpec.upto fnExactSlotSumSpec)

/-- 'laws.FnExactWriteSlot', WHERE WHAT IT READS IS OF BULK AT MOST 1048576: true; the input reads as it did. -/
def fnExactWriteSlotUptoRow : OpenClaim := { program := "ytnbcjdoohmjghaa", sum := "9805a8e1feaec48050dd93ffaa74a2ed00e8cb25598dbeb82faa6bbe524f99dd", func := "loop.example/g00620/laws.FnExactWriteSlot", spec := "fnExactWriteSlot", apart := false, narrowed := true }
def FnExactWriteSlotUptoSaid : Prop := fnExactWriteSlotUptoRow.holds Try.pinned (OpenSpec.upto fnExactWriteSlotSpec)

/-- 'laws.FnExactReadSlots', WHERE WHAT IT READS IS OF BULK AT MOST 1048576: true; the input reads as it did. -/
def fnExactReadSlotsUptoRow : OpenClaim := { program := "ytnbcjdoohmjghaa", sum := "9805a8e1feaec48050dd93ffaa74a2ed00e8cb25598dbeb82faa6bbe524f99dd", func := "loop.example/g00620/laws.FnExactReadSlots", spec := "fnExactReadSlots", apart := false, narrowed := true }
def FnExactReadSlotsUptoSaid : Prop := fnExactReadSlotsUptoRow.holds Try.pinned (OpenSpec.upto fnExactReadSlotsSpec)

/-- 'laws.FnExactNewestSlot', WHERE WHAT IT READS IS OF BULK AT MOST 1048576: true; the input reads as it did. -/
def fnExactNewestSlotUptoRow : OpenClaim := { program := "ytnbcjdoohmjghaa", sum := "9805a8e1feaec48050dd93ffaa74a2ed00e8cb25598dbeb82faa6bbe524f99dd", func := "loop.example/g00620/laws.FnExactNewestSlot", spec := "fnExactNewestSlot", apart := false, narrowed := true }
def FnExactNewestSlotUptoSaid : Prop := fnExactNewestSlotUptoRow.holds Try.pinned (OpenSpec.upto fnExactNewestSlotSpec)

/-- 'laws.FnExactNextSlot', WHERE WHAT IT READS IS OF BULK AT MOST 1048576: true; the input reads as it did. -/
def fnExactNextSlotUptoRow : OpenClaim := { program := "ytnbcjdoohmjghaa", sum := "9805a8e1feaec48050dd93ffaa74a2ed00e8cb25598dbeb82faa6bbe524f99dd", func := "loop.example/g00620/laws.FnExactNextSlot", spec := "fnExactNextSlot", apart := false, narrowed := true }
def FnExactNextSlotUptoSaid : Prop := fnExactNextSlotUptoRow.holds Try.pinned (OpenSpec.upto fnExactNextSlotSpec)

/-- 'laws.FnExactSlotLine', WHERE WHAT IT READS IS OF BULK AT MOST 1048576: true; the input reads as it did. -/
def fnExactSlotLineUptoRow : OpenClaim := { program := "ytnbcjdoohmjghaa", sum := "9805a8e1feaec48050dd93ffaa74a2ed00e8cb25598dbeb82faa6bbe524f99dd", func := "loop.example/g00620/laws.FnExactSlotLine", spec := "fnExactSlotLine", apart := false, narrowed := true }
def FnExactSlotLineUptoSaid : Prop := fnExactSlotLineUptoRow.holds Try.pinned (OpenSpec.upto fnExactSlotLineSpec)

/-- 'laws.FnExactCommitSlot', WHERE WHAT IT READS IS OF BULK AT MOST 1048576: true; the input reads as it did. -/
def fnExactCommitSlotUptoRow : OpenClaim := { program := "ytnbcjdoohmjghaa", sum := "9805a8e1feaec48050dd93ffaa74a2ed00e8cb25598dbeb82faa6bbe524f99dd", func := "loop.example/g00620/laws.FnExactCommitSlot", spec := "fnExactCommitSlot", apart := false, narrowed := true }
def FnExactCommitSlotUptoSaid : Prop := fnExactCommitSlotUptoRow.holds Try.pinned (OpenSpec.upto fnExactCommitSlotSpec)

end Rows
end Go.Proofs.Ytnbcjdoohmjghaa
