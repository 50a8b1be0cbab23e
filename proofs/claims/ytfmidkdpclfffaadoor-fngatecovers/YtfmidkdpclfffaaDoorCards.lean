/-
  DERIVED. GIVEN WITH THE SEED: THE CARDS: each row of YtfmidkdpclfffaaDoorRows.lean that lists a variable, with what it lists TIED to the program's text (the seventh form; the later family's looks); each row that meets fmt, with fmt's text TOLD by the authors' own Lean function (tested against real Go, not proved from fmt's source: count such statements apart). THE CARD IS WHAT COUNTS. Prove the row's statement (the work); the ties are given (YtfmidkdpclfffaaDoorTie.lean); close each card by the builder's one call (the guide's Derived/Test/ToyasCard.lean, 'card_holds'). Laid BY PROGRAM, IN A SANDBOX (cutbox-door.mjs). By AI agents, Wed Nov 11 2026. No macro, syntax, notation, axiom, sorry.
-/
import Derived.Test.YtfmidkdpclfffaaDoorRows
import GoSem.ClaimSeven
namespace Go.Proofs.YtfmidkdpclfffaaDoor
namespace Rows

/-- THE TIED CARD OF 'laws.FnGateCovers'. -/
def fnGateCoversCard : Claim7 := { stood := { row := fnGateCoversRow, standIns := [], harness := (true, "e5f8a472a17cdce8021e94fa35e972edadc760839805b0813acbd6649e8d6a9b"), looks := false }, kinds := [], alts := [], laidByText := true, laidKinds := [.data, .data, .data], laidTests := true, laidLooks := .later }
def FnGateCoversCardSaid : Prop := Claim7.holds Tryd.pinned (.plain (OpenSpec.ofChange fnGateCoversSpec)) fnGateCoversCard

/-- THE SECOND FORM's CARD OF 'laws.FnGateCovers'. -/
def fnGateCoversUptoCard : Claim7 := { stood := { row := fnGateCoversUptoRow, standIns := [], harness := (true, "e5f8a472a17cdce8021e94fa35e972edadc760839805b0813acbd6649e8d6a9b"), looks := false }, kinds := [], alts := [], laidByText := true, laidKinds := [.data, .data, .data], laidTests := true, laidLooks := .later }
def FnGateCoversUptoCardSaid : Prop := Claim7.holds Tryd.pinned (.plain (OpenSpec.upto fnGateCoversSpec)) fnGateCoversUptoCard
end Rows
end Go.Proofs.YtfmidkdpclfffaaDoor
