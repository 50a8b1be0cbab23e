/-
  Every third number.
-/
import Derived.Test.YtfmhfacaemfhlaaUB
namespace Go.Proofs.Ytfmhfacaemfhlaa
open Go.RowKit Go.Deep

theorem bmod (k : Nat) : ((k : Int) % 3 == 0) = (k % 3 == 0) := by
  have : (k : Int) % 3 = ((k % 3 : Nat) : Int) := by omega
  rw [this]
  by_cases h : k % 3 = 0
  · rw [h]; rfl
  · rw [beq_eq_false_iff_ne.2 h, beq_eq_false_iff_ne.2 (by omega)]
end Go.Proofs.Ytfmhfacaemfhlaa
