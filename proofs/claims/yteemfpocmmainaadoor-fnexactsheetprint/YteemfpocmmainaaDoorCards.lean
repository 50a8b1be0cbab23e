/-
  DERIVED. GIVEN WITH THE SEED: THE CARDS: each row of YteemfpocmmainaaDoorRows.lean that lists a variable, with what it lists TIED to the program's text (the seventh form; the later family's looks); each row that meets fmt, with fmt's text TOLD by the authors' own Lean function (tested against real Go, not proved from fmt's source: count such statements apart). THE CARD IS WHAT COUNTS. Prove the row's statement (the work); the ties are given (YteemfpocmmainaaDoorTie.lean); close each card by the builder's one call (the guide's Derived/Test/ToyasCard.lean, 'card_holds'). Laid BY PROGRAM, IN A SANDBOX (cutbox-door.mjs). By AI agents, Wed Nov 11 2026. No macro, syntax, notation, axiom, sorry.
-/
import Derived.Test.YteemfpocmmainaaDoorRows
import GoSem.ClaimSeven
namespace Go.Proofs.YteemfpocmmainaaDoor
namespace Rows

/-- THE TIED CARD OF 'laws.FnExactSheetPrint'. -/
def fnExactSheetPrintCard : Claim7 := { stood := { row := fnExactSheetPrintRow, standIns := [], harness := (true, "bdff118d59f3211b5e866f5e009f262cad4accf5a23a3b7cea834f7e6acca644"), looks := false }, kinds := [], alts := [], laidByText := true, laidKinds := [.data, .pinned], laidTests := true, laidLooks := .later }
def FnExactSheetPrintCardSaid : Prop := Claim7.holds Tryd.pinned (.plain (OpenSpec.ofChange fnExactSheetPrintSpec)) fnExactSheetPrintCard

/-- THE SECOND FORM's CARD OF 'laws.FnExactSheetPrint'. -/
def fnExactSheetPrintUptoCard : Claim7 := { stood := { row := fnExactSheetPrintUptoRow, standIns := [], harness := (true, "bdff118d59f3211b5e866f5e009f262cad4accf5a23a3b7cea834f7e6acca644"), looks := false }, kinds := [], alts := [], laidByText := true, laidKinds := [.data, .pinned], laidTests := true, laidLooks := .later }
def FnExactSheetPrintUptoCardSaid : Prop := Claim7.holds Tryd.pinned (.plain (OpenSpec.upto fnExactSheetPrintSpec)) fnExactSheetPrintUptoCard
end Rows
end Go.Proofs.YteemfpocmmainaaDoor
