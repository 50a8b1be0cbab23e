/-
  An answer of two: a list, and whether.
-/
import Derived.Test.YtikacjpbnoihjaaUL
namespace Go.Proofs.Ytikacjpbnoihjaa
open Go.RowKit Go.Deep

/-- A function's answer: a list in memory of its own, and whether. -/
def AnsLB (sh : List Sh) (A : Dt) (b : Bool) (W : World) (e : Ending) (w' : World) : Prop := ∃ v F, e = .returned (.tuple #[v, .bool b]) ∧ Rep w' false sh F [A] [v] ∧ F.Nodup ∧ (∀ b ∈ F, W.heap.size ≤ b) ∧ Below W.heap.size W w'

end Go.Proofs.Ytikacjpbnoihjaa
