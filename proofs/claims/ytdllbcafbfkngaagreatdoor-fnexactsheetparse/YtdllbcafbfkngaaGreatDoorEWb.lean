/-
  Sheets: how a word is written: the specification.
-/
import Derived.Test.YtdllbcafbfkngaaGreatDoorEBy
namespace Go.Proofs.YtdllbcafbfkngaaGreatDoor
open Go.RowKit Go.Deep

theorem wrap_byte (z : Int) (h0 : 0 ≤ z) (h1 : z ≤ 255) : IntKind.u8.wrap z = z := by
  simp [IntKind.wrap, IntKind.bits, IntKind.signed]; omega
end Go.Proofs.YtdllbcafbfkngaaGreatDoor
