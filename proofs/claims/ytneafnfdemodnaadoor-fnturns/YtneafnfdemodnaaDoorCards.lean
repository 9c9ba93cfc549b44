/-
  DERIVED. GIVEN WITH THE SEED: THE CARDS: each row of YtneafnfdemodnaaDoorRows.lean that lists a variable, with what it lists TIED to the program's text (the seventh form; the later family's looks); each row that meets fmt, with fmt's text TOLD by the authors' own Lean function (tested against real Go, not proved from fmt's source: count such statements apart). THE CARD IS WHAT COUNTS. Prove the row's statement (the work); the ties are given (YtneafnfdemodnaaDoorTie.lean); close each card by the builder's one call (the guide's Derived/Test/ToyasCard.lean, 'card_holds'). Laid BY PROGRAM, IN A SANDBOX (cutbox-door.mjs). By AI agents, Wed Nov 11 2026. No macro, syntax, notation, axiom, sorry.
-/
import Derived.Test.YtneafnfdemodnaaDoorRows
import GoSem.ClaimSeven
namespace Go.Proofs.YtneafnfdemodnaaDoor
namespace Rows

/-- THE TIED CARD OF 'laws.FnStride'. -/
def fnStrideCard : Claim7 := { stood := { row := fnStrideRow, standIns := [], harness := (true, "3d859b3f40cb9d8b0f928653447b5323c346aebf0bbf43f05808a06f5b3b1bb0"), looks := false }, kinds := [], alts := [], laidByText := true, laidKinds := [.data], laidTests := true, laidLooks := .later }
def FnStrideCardSaid : Prop := Claim7.holds Tryd.pinned (.plain (OpenSpec.ofChange fnStrideSpec)) fnStrideCard

/-- THE TIED CARD OF 'laws.FnTurns'. -/
def fnTurnsCard : Claim7 := { stood := { row := fnTurnsRow, standIns := [], harness := (true, "3d859b3f40cb9d8b0f928653447b5323c346aebf0bbf43f05808a06f5b3b1bb0"), looks := false }, kinds := [], alts := [], laidByText := true, laidKinds := [.data], laidTests := true, laidLooks := .later }
def FnTurnsCardSaid : Prop := Claim7.holds Tryd.pinned (.plain (OpenSpec.ofChange fnTurnsSpec)) fnTurnsCard

/-- THE TIED CARD OF 'laws.FnExactNewClients'. -/
def fnExactNewClientsCard : Claim7 := { stood := { row := fnExactNewClientsRow, standIns := [], harness := (true, "3d859b3f40cb9d8b0f928653447b5323c346aebf0bbf43f05808a06f5b3b1bb0"), looks := false }, kinds := [], alts := [], laidByText := true, laidKinds := [.data], laidTests := true, laidLooks := .later }
def FnExactNewClientsCardSaid : Prop := Claim7.holds Tryd.pinned (.plain (OpenSpec.ofChange fnExactNewClientsSpec)) fnExactNewClientsCard

/-- THE TIED CARD OF 'laws.FnExactGiveTurn'. -/
def fnExactGiveTurnCard : Claim7 := { stood := { row := fnExactGiveTurnRow, standIns := [], harness := (true, "3d859b3f40cb9d8b0f928653447b5323c346aebf0bbf43f05808a06f5b3b1bb0"), looks := false }, kinds := [], alts := [], laidByText := true, laidKinds := [.data], laidTests := true, laidLooks := .later }
def FnExactGiveTurnCardSaid : Prop := Claim7.holds Tryd.pinned (.plain (OpenSpec.ofChange fnExactGiveTurnSpec)) fnExactGiveTurnCard

/-- THE TIED CARD OF 'laws.FnExactGiveTurns'. -/
def fnExactGiveTurnsCard : Claim7 := { stood := { row := fnExactGiveTurnsRow, standIns := [], harness := (true, "3d859b3f40cb9d8b0f928653447b5323c346aebf0bbf43f05808a06f5b3b1bb0"), looks := false }, kinds := [], alts := [], laidByText := true, laidKinds := [.data], laidTests := true, laidLooks := .later }
def FnExactGiveTurnsCardSaid : Prop := Claim7.holds Tryd.pinned (.plain (OpenSpec.ofChange fnExactGiveTurnsSpec)) fnExactGiveTurnsCard

/-- THE TIED CARD OF 'laws.FnExactStrideOf'. -/
def fnExactStrideOfCard : Claim7 := { stood := { row := fnExactStrideOfRow, standIns := [], harness := (true, "3d859b3f40cb9d8b0f928653447b5323c346aebf0bbf43f05808a06f5b3b1bb0"), looks := false }, kinds := [], alts := [], laidByText := true, laidKinds := [.data], laidTests := true, laidLooks := .later }
def FnExactStrideOfCardSaid : Prop := Claim7.holds Tryd.pinned (.plain (OpenSpec.ofChange fnExactStrideOfSpec)) fnExactStrideOfCard

/-- THE SECOND FORM's CARD OF 'laws.FnStride'. -/
def fnStrideUptoCard : Claim7 := { stood := { row := fnStrideUptoRow, standIns := [], harness := (true, "3d859b3f40cb9d8b0f928653447b5323c346aebf0bbf43f05808a06f5b3b1bb0"), looks := false }, kinds := [], alts := [], laidByText := true, laidKinds := [.data], laidTests := true, laidLooks := .later }
def FnStrideUptoCardSaid : Prop := Claim7.holds Tryd.pinned (.plain (OpenSpec.upto fnStrideSpec)) fnStrideUptoCard

/-- THE SECOND FORM's CARD OF 'laws.FnTurns'. -/
def fnTurnsUptoCard : Claim7 := { stood := { row := fnTurnsUptoRow, standIns := [], harness := (true, "3d859b3f40cb9d8b0f928653447b5323c346aebf0bbf43f05808a06f5b3b1bb0"), looks := false }, kinds := [], alts := [], laidByText := true, laidKinds := [.data], laidTests := true, laidLooks := .later }
def FnTurnsUptoCardSaid : Prop := Claim7.holds Tryd.pinned (.plain (OpenSpec.upto fnTurnsSpec)) fnTurnsUptoCard

/-- THE SECOND FORM's CARD OF 'laws.FnExactNewClients'. -/
def fnExactNewClientsUptoCard : Claim7 := { stood := { row := fnExactNewClientsUptoRow, standIns := [], harness := (true, "3d859b3f40cb9d8b0f928653447b5323c346aebf0bbf43f05808a06f5b3b1bb0"), looks := false }, kinds := [], alts := [], laidByText := true, laidKinds := [.data], laidTests := true, laidLooks := .later }
def FnExactNewClientsUptoCardSaid : Prop := Claim7.holds Tryd.pinned (.plain (OpenSpec.upto fnExactNewClientsSpec)) fnExactNewClientsUptoCard

/-- THE SECOND FORM's CARD OF 'laws.FnExactGiveTurn'. -/
def fnExactGiveTurnUptoCard : Claim7 := { stood := { row := fnExactGiveTurnUptoRow, standIns := [], harness := (true, "3d859b3f40cb9d8b0f928653447b5323c346aebf0bbf43f05808a06f5b3b1bb0"), looks := false }, kinds := [], alts := [], laidByText := true, laidKinds := [.data], laidTests := true, laidLooks := .later }
def FnExactGiveTurnUptoCardSaid : Prop := Claim7.holds Tryd.pinned (.plain (OpenSpec.upto fnExactGiveTurnSpec)) fnExactGiveTurnUptoCard

/-- THE SECOND FORM's CARD OF 'laws.FnExactGiveTurns'. -/
def fnExactGiveTurnsUptoCard : Claim7 := { stood := { row := fnExactGiveTurnsUptoRow, standIns := [], harness := (true, "3d859b3f40cb9d8b0f928653447b5323c346aebf0bbf43f05808a06f5b3b1bb0"), looks := false }, kinds := [], alts := [], laidByText := true, laidKinds := [.data], laidTests := true, laidLooks := .later }
def FnExactGiveTurnsUptoCardSaid : Prop := Claim7.holds Tryd.pinned (.plain (OpenSpec.upto fnExactGiveTurnsSpec)) fnExactGiveTurnsUptoCard

/-- THE SECOND FORM's CARD OF 'laws.FnExactStrideOf'. -/
def fnExactStrideOfUptoCard : Claim7 := { stood := { row := fnExactStrideOfUptoRow, standIns := [], harness := (true, "3d859b3f40cb9d8b0f928653447b5323c346aebf0bbf43f05808a06f5b3b1bb0"), looks := false }, kinds := [], alts := [], laidByText := true, laidKinds := [.data], laidTests := true, laidLooks := .later }
def FnExactStrideOfUptoCardSaid : Prop := Claim7.holds Tryd.pinned (.plain (OpenSpec.upto fnExactStrideOfSpec)) fnExactStrideOfUptoCard
end Rows
end Go.Proofs.YtneafnfdemodnaaDoor
