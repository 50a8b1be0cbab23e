/-
  DERIVED. GIVEN WITH THE SEED: THE CARDS: each row of YtpamkibnahhphaaGreatDoorRows.lean that lists a variable, with what it lists TIED to the program's text (the seventh form; the later family's looks); each row that meets fmt, with fmt's text TOLD by the authors' own Lean function (tested against real Go, not proved from fmt's source: count such statements apart). THE CARD IS WHAT COUNTS. Prove the row's statement (the work); the ties are given (YtpamkibnahhphaaGreatDoorTie.lean); close each card by the builder's one call (the guide's Derived/Test/ToyasCard.lean, 'card_holds'). Laid BY PROGRAM, IN A SANDBOX (cutbox-door.mjs). By AI agents, Wed Nov 11 2026. No macro, syntax, notation, axiom, sorry.
-/
import Derived.Test.YtpamkibnahhphaaGreatDoorRows
import GoSem.ClaimSeven
namespace Go.Proofs.YtpamkibnahhphaaGreatDoor
namespace Rows

/-- THE TIED CARD OF 'laws.FnExactStewApply'. -/
def fnExactStewApplyCard : Claim7 := { stood := { row := fnExactStewApplyRow, standIns := [], harness := (true, "ce1f1155e5e25b834dd4a528ef823c18b637fe72b9221dc894867dd9d3b70fdf"), looks := true }, kinds := [], alts := [], laidByText := true, laidKinds := [.handle], laidTests := true, laidLooks := .later }
def FnExactStewApplyCardSaid : Prop := Claim7.holds Tryz.pinned (.plain (OpenSpec.ofChange fnExactStewApplySpec)) fnExactStewApplyCard

/-- THE SECOND FORM's CARD OF 'laws.FnExactStewApply'. -/
def fnExactStewApplyUptoCard : Claim7 := { stood := { row := fnExactStewApplyUptoRow, standIns := [], harness := (true, "ce1f1155e5e25b834dd4a528ef823c18b637fe72b9221dc894867dd9d3b70fdf"), looks := true }, kinds := [], alts := [], laidByText := true, laidKinds := [.handle], laidTests := true, laidLooks := .later }
def FnExactStewApplyUptoCardSaid : Prop := Claim7.holds Tryz.pinned (.plain (OpenSpec.upto fnExactStewApplySpec)) fnExactStewApplyUptoCard
end Rows
end Go.Proofs.YtpamkibnahhphaaGreatDoor
