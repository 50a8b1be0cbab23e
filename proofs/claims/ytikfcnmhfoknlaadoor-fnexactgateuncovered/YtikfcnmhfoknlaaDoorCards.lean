/-
  DERIVED. GIVEN WITH THE SEED: THE CARDS: each row of YtikfcnmhfoknlaaDoorRows.lean that lists a variable, with what it lists TIED to the program's text (the seventh form; the later family's looks); each row that meets fmt, with fmt's text TOLD by the authors' own Lean function (tested against real Go, not proved from fmt's source: count such statements apart). THE CARD IS WHAT COUNTS. Prove the row's statement (the work); the ties are given (YtikfcnmhfoknlaaDoorTie.lean); close each card by the builder's one call (the guide's Derived/Test/ToyasCard.lean, 'card_holds'). Laid BY PROGRAM, IN A SANDBOX (cutbox-door.mjs). By AI agents, Wed Nov 11 2026. No macro, syntax, notation, axiom, sorry.
-/
import Derived.Test.YtikfcnmhfoknlaaDoorRows
import GoSem.ClaimSeven
namespace Go.Proofs.YtikfcnmhfoknlaaDoor
namespace Rows

/-- THE TIED CARD OF 'laws.FnExactGateUncovered'. -/
def fnExactGateUncoveredCard : Claim7 := { stood := { row := fnExactGateUncoveredRow, standIns := [], harness := (true, "fd1ee8412a277b791e8c0341a211aa0da97c3a9136fbee12e5606fa81c5b74ad"), looks := false }, kinds := [], alts := [], laidByText := true, laidKinds := [.data, .data, .data], laidTests := true, laidLooks := .later }
def FnExactGateUncoveredCardSaid : Prop := Claim7.holds Tryd.pinned (.plain (OpenSpec.ofChange fnExactGateUncoveredSpec)) fnExactGateUncoveredCard

/-- THE SECOND FORM's CARD OF 'laws.FnExactGateUncovered'. -/
def fnExactGateUncoveredUptoCard : Claim7 := { stood := { row := fnExactGateUncoveredUptoRow, standIns := [], harness := (true, "fd1ee8412a277b791e8c0341a211aa0da97c3a9136fbee12e5606fa81c5b74ad"), looks := false }, kinds := [], alts := [], laidByText := true, laidKinds := [.data, .data, .data], laidTests := true, laidLooks := .later }
def FnExactGateUncoveredUptoCardSaid : Prop := Claim7.holds Tryd.pinned (.plain (OpenSpec.upto fnExactGateUncoveredSpec)) fnExactGateUncoveredUptoCard
end Rows
end Go.Proofs.YtikfcnmhfoknlaaDoor
