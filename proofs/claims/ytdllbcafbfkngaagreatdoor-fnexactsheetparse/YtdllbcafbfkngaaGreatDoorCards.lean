/-
  DERIVED. GIVEN WITH THE SEED: THE CARDS: each row of YtdllbcafbfkngaaGreatDoorRows.lean that lists a variable, with what it lists TIED to the program's text (the seventh form; the later family's looks); each row that meets fmt, with fmt's text TOLD by the authors' own Lean function (tested against real Go, not proved from fmt's source: count such statements apart). THE CARD IS WHAT COUNTS. Prove the row's statement (the work); the ties are given (YtdllbcafbfkngaaGreatDoorTie.lean); close each card by the builder's one call (the guide's Derived/Test/ToyasCard.lean, 'card_holds'). Laid BY PROGRAM, IN A SANDBOX (cutbox-door.mjs). By AI agents, Wed Nov 11 2026. No macro, syntax, notation, axiom, sorry.
-/
import Derived.Test.YtdllbcafbfkngaaGreatDoorRows
import GoSem.ClaimSeven
namespace Go.Proofs.YtdllbcafbfkngaaGreatDoor
namespace Rows

/-- THE TIED CARD OF 'laws.FnExactSheetParse'. -/
def fnExactSheetParseCard : Claim7 := { stood := { row := fnExactSheetParseRow, standIns := [], harness := (true, "dc54a27768ea04f8e53211a66789206bd02e673cd42b47aaaf2ee6ddb4bfbe12"), looks := true }, kinds := [], alts := [], laidByText := true, laidKinds := [.data, .handle, .pinned], laidTests := true, laidLooks := .later }
def FnExactSheetParseCardSaid : Prop := Claim7.holds Tryz.pinned (.plain (OpenSpec.ofChange fnExactSheetParseSpec)) fnExactSheetParseCard

/-- THE SECOND FORM's CARD OF 'laws.FnExactSheetParse'. -/
def fnExactSheetParseUptoCard : Claim7 := { stood := { row := fnExactSheetParseUptoRow, standIns := [], harness := (true, "dc54a27768ea04f8e53211a66789206bd02e673cd42b47aaaf2ee6ddb4bfbe12"), looks := true }, kinds := [], alts := [], laidByText := true, laidKinds := [.data, .handle, .pinned], laidTests := true, laidLooks := .later }
def FnExactSheetParseUptoCardSaid : Prop := Claim7.holds Tryz.pinned (.plain (OpenSpec.upto fnExactSheetParseSpec)) fnExactSheetParseUptoCard
end Rows
end Go.Proofs.YtdllbcafbfkngaaGreatDoor
