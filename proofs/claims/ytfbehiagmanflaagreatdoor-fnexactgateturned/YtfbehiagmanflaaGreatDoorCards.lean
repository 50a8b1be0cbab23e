/-
  DERIVED. GIVEN WITH THE SEED: THE CARDS: each row of YtfbehiagmanflaaGreatDoorRows.lean that lists a variable, with what it lists TIED to the program's text (the seventh form; the later family's looks); each row that meets fmt, with fmt's text TOLD by the authors' own Lean function (tested against real Go, not proved from fmt's source: count such statements apart). THE CARD IS WHAT COUNTS. Prove the row's statement (the work); the ties are given (YtfbehiagmanflaaGreatDoorTie.lean); close each card by the builder's one call (the guide's Derived/Test/ToyasCard.lean, 'card_holds'). Laid BY PROGRAM, IN A SANDBOX (cutbox-door.mjs). By AI agents, Wed Nov 11 2026. No macro, syntax, notation, axiom, sorry.
-/
import Derived.Test.YtfbehiagmanflaaGreatDoorRows
import GoSem.ClaimSeven
namespace Go.Proofs.YtfbehiagmanflaaGreatDoor
namespace Rows

/-- THE TIED CARD OF 'laws.FnExactGateTurned'. -/
def fnExactGateTurnedCard : Claim7 := { stood := { row := fnExactGateTurnedRow, standIns := [], harness := (true, "f92e48610388781bf02e66771fef13a4e0c2ee2b540222c8045df8658cb71e17"), looks := true }, kinds := [], alts := [], laidByText := true, laidKinds := [.handle], laidTests := true, laidLooks := .later }
def FnExactGateTurnedCardSaid : Prop := Claim7.holds Tryz.pinned (.plain (OpenSpec.ofChange fnExactGateTurnedSpec)) fnExactGateTurnedCard

/-- THE SECOND FORM's CARD OF 'laws.FnExactGateTurned'. -/
def fnExactGateTurnedUptoCard : Claim7 := { stood := { row := fnExactGateTurnedUptoRow, standIns := [], harness := (true, "f92e48610388781bf02e66771fef13a4e0c2ee2b540222c8045df8658cb71e17"), looks := true }, kinds := [], alts := [], laidByText := true, laidKinds := [.handle], laidTests := true, laidLooks := .later }
def FnExactGateTurnedUptoCardSaid : Prop := Claim7.holds Tryz.pinned (.plain (OpenSpec.upto fnExactGateTurnedSpec)) fnExactGateTurnedUptoCard
end Rows
end Go.Proofs.YtfbehiagmanflaaGreatDoor
