/-
  DERIVED. GIVEN WITH THE SEED: THE CARDS: each row of YtkhhhogpkcggjaaDoorRows.lean that lists a variable, with what it lists TIED to the program's text (the seventh form; the later family's looks); each row that meets fmt, with fmt's text TOLD by the authors' own Lean function (tested against real Go, not proved from fmt's source: count such statements apart). THE CARD IS WHAT COUNTS. Prove the row's statement (the work); the ties are given (YtkhhhogpkcggjaaDoorTie.lean); close each card by the builder's one call (the guide's Derived/Test/ToyasCard.lean, 'card_holds'). Laid BY PROGRAM, IN A SANDBOX (cutbox-door.mjs). By AI agents, Wed Nov 11 2026. No macro, syntax, notation, axiom, sorry.
-/
import Derived.Test.YtkhhhogpkcggjaaDoorRows
import GoSem.ClaimSeven
namespace Go.Proofs.YtkhhhogpkcggjaaDoor
namespace Rows

/-- THE TIED CARD OF 'laws.FnSheetWords'. -/
def fnSheetWordsCard : Claim7 := { stood := { row := fnSheetWordsRow, standIns := [], harness := (true, "8e51e1808256d5ef59f19f768216e61922a93e180d5031270deb80c808e03663"), looks := false }, kinds := [], alts := [], laidByText := true, laidKinds := [.data, .pinned], laidTests := true, laidLooks := .later }
def FnSheetWordsCardSaid : Prop := Claim7.holds Tryd.pinned (.plain (OpenSpec.ofChange fnSheetWordsSpec)) fnSheetWordsCard

/-- THE SECOND FORM's CARD OF 'laws.FnSheetWords'. -/
def fnSheetWordsUptoCard : Claim7 := { stood := { row := fnSheetWordsUptoRow, standIns := [], harness := (true, "8e51e1808256d5ef59f19f768216e61922a93e180d5031270deb80c808e03663"), looks := false }, kinds := [], alts := [], laidByText := true, laidKinds := [.data, .pinned], laidTests := true, laidLooks := .later }
def FnSheetWordsUptoCardSaid : Prop := Claim7.holds Tryd.pinned (.plain (OpenSpec.upto fnSheetWordsSpec)) fnSheetWordsUptoCard
end Rows
end Go.Proofs.YtkhhhogpkcggjaaDoor
