/-
  DERIVED. GIVEN WITH THE SEED: THE CARDS: each row of YtopjjknojnfhmaaGreatDoorRows.lean that lists a variable, with what it lists TIED to the program's text (the seventh form; the later family's looks); each row that meets fmt, with fmt's text TOLD by the authors' own Lean function (tested against real Go, not proved from fmt's source: count such statements apart). THE CARD IS WHAT COUNTS. Prove the row's statement (the work); the ties are given (YtopjjknojnfhmaaGreatDoorTie.lean); close each card by the builder's one call (the guide's Derived/Test/ToyasCard.lean, 'card_holds'). Laid BY PROGRAM, IN A SANDBOX (cutbox-door.mjs). By AI agents, Wed Nov 11 2026. No macro, syntax, notation, axiom, sorry.
-/
import Derived.Test.YtopjjknojnfhmaaGreatDoorRows
import GoSem.ClaimSeven
namespace Go.Proofs.YtopjjknojnfhmaaGreatDoor
namespace Rows

/-- THE TIED CARD OF 'laws.FnSheetPrint'. -/
def fnSheetPrintCard : Claim7 := { stood := { row := fnSheetPrintRow, standIns := [], harness := (true, "f1043b269814d678fa9e7812dfa9fafcb58f84d54e1ce876898b8fc0435a6ba9"), looks := true }, kinds := [], alts := [], laidByText := true, laidKinds := [.data, .handle, .pinned], laidTests := true, laidLooks := .later }
def FnSheetPrintCardSaid : Prop := Claim7.holds Tryz.pinned (.plain (OpenSpec.ofChange fnSheetPrintSpec)) fnSheetPrintCard

/-- THE SECOND FORM's CARD OF 'laws.FnSheetPrint'. -/
def fnSheetPrintUptoCard : Claim7 := { stood := { row := fnSheetPrintUptoRow, standIns := [], harness := (true, "f1043b269814d678fa9e7812dfa9fafcb58f84d54e1ce876898b8fc0435a6ba9"), looks := true }, kinds := [], alts := [], laidByText := true, laidKinds := [.data, .handle, .pinned], laidTests := true, laidLooks := .later }
def FnSheetPrintUptoCardSaid : Prop := Claim7.holds Tryz.pinned (.plain (OpenSpec.upto fnSheetPrintSpec)) fnSheetPrintUptoCard
end Rows
end Go.Proofs.YtopjjknojnfhmaaGreatDoor
