/-
  DERIVED. GIVEN WITH THE SEED: THE CARDS: each row of YtgiglpnaekbegaaGreatDoorRows.lean that lists a variable, with what it lists TIED to the program's text (the seventh form; the later family's looks); each row that meets fmt, with fmt's text TOLD by the authors' own Lean function (tested against real Go, not proved from fmt's source: count such statements apart). THE CARD IS WHAT COUNTS. Prove the row's statement (the work); the ties are given (YtgiglpnaekbegaaGreatDoorTie.lean); close each card by the builder's one call (the guide's Derived/Test/ToyasCard.lean, 'card_holds'). Laid BY PROGRAM, IN A SANDBOX (cutbox-door.mjs). By AI agents, Wed Nov 11 2026. No macro, syntax, notation, axiom, sorry.
-/
import Derived.Test.YtgiglpnaekbegaaGreatDoorRows
import GoSem.ClaimSeven
namespace Go.Proofs.YtgiglpnaekbegaaGreatDoor
namespace Rows

/-- THE TIED CARD OF 'laws.FnExactSheetReport'. -/
def fnExactSheetReportCard : Claim7 := { stood := { row := fnExactSheetReportRow, standIns := [], harness := (true, "23a64db7535dd4335487a3fb8c71f3a22ae996d1179304c0b920c8a9c6636c13"), looks := true }, kinds := [], alts := [], laidByText := true, laidKinds := [.data, .data, .data, .data, .handle, .pinned], laidTests := true, laidLooks := .later }
def FnExactSheetReportCardSaid : Prop := Claim7.holds Tryz.pinned (.plain (OpenSpec.ofChange fnExactSheetReportSpec)) fnExactSheetReportCard

/-- THE SECOND FORM's CARD OF 'laws.FnExactSheetReport'. -/
def fnExactSheetReportUptoCard : Claim7 := { stood := { row := fnExactSheetReportUptoRow, standIns := [], harness := (true, "23a64db7535dd4335487a3fb8c71f3a22ae996d1179304c0b920c8a9c6636c13"), looks := true }, kinds := [], alts := [], laidByText := true, laidKinds := [.data, .data, .data, .data, .handle, .pinned], laidTests := true, laidLooks := .later }
def FnExactSheetReportUptoCardSaid : Prop := Claim7.holds Tryz.pinned (.plain (OpenSpec.upto fnExactSheetReportSpec)) fnExactSheetReportUptoCard
end Rows
end Go.Proofs.YtgiglpnaekbegaaGreatDoor
