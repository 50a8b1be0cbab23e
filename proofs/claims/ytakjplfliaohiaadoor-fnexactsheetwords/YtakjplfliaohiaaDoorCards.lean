/-
  DERIVED. GIVEN WITH THE SEED: THE CARDS: each row of YtakjplfliaohiaaDoorRows.lean that lists a variable, with what it lists TIED to the program's text (the seventh form; the later family's looks); each row that meets fmt, with fmt's text TOLD by the authors' own Lean function (tested against real Go, not proved from fmt's source: count such statements apart). THE CARD IS WHAT COUNTS. Prove the row's statement (the work); the ties are given (YtakjplfliaohiaaDoorTie.lean); close each card by the builder's one call (the guide's Derived/Test/ToyasCard.lean, 'card_holds'). Laid BY PROGRAM, IN A SANDBOX (cutbox-door.mjs). By AI agents, Wed Nov 11 2026. No macro, syntax, notation, axiom, sorry.
-/
import Derived.Test.YtakjplfliaohiaaDoorRows
import GoSem.ClaimSeven
namespace Go.Proofs.YtakjplfliaohiaaDoor
namespace Rows

/-- THE TIED CARD OF 'laws.FnExactSheetWords'. -/
def fnExactSheetWordsCard : Claim7 := { stood := { row := fnExactSheetWordsRow, standIns := [], harness := (true, "383a10f87c48bdd1690c5577959397e03eaa910cdff6e5c2da56bbca456e90df"), looks := false }, kinds := [], alts := [], laidByText := true, laidKinds := [.data, .pinned], laidTests := true, laidLooks := .later }
def FnExactSheetWordsCardSaid : Prop := Claim7.holds Tryd.pinned (.plain (OpenSpec.ofChange fnExactSheetWordsSpec)) fnExactSheetWordsCard

/-- THE SECOND FORM's CARD OF 'laws.FnExactSheetWords'. -/
def fnExactSheetWordsUptoCard : Claim7 := { stood := { row := fnExactSheetWordsUptoRow, standIns := [], harness := (true, "383a10f87c48bdd1690c5577959397e03eaa910cdff6e5c2da56bbca456e90df"), looks := false }, kinds := [], alts := [], laidByText := true, laidKinds := [.data, .pinned], laidTests := true, laidLooks := .later }
def FnExactSheetWordsUptoCardSaid : Prop := Claim7.holds Tryd.pinned (.plain (OpenSpec.upto fnExactSheetWordsSpec)) fnExactSheetWordsUptoCard
end Rows
end Go.Proofs.YtakjplfliaohiaaDoor
