/-
  Walks: the first numbered name that is none of some: the specification.
-/
import Derived.Test.YtfmidkdpclfffaaDoorWalkVA
namespace Go.Proofs.YtfmidkdpclfffaaDoor
open Go.RowKit Go.Deep

/-- A slice of texts. -/
def TextsAt (w : World) (v : Value) (l : List ByteArray) : Prop :=
  (l = [] ∧ ∃ a c, v = .slice a 0 c) ∨ ∃ g c, v = .slice (some ⟨g, 0, none⟩) l.length c ∧ g < w.heap.size ∧ l.length ≤ 4000000 ∧ ∀ i, i < l.length → w.cell? ⟨g, i, none⟩ = some (.string (l.getD i ByteArray.empty))

theorem TextsAt.later {w w' : World} {v : Value} {l : List ByteArray} (h : TextsAt w v l) (hb : Below w.heap.size w w') : TextsAt w' v l := by
  rcases h with h | ⟨g, c, rfl, h1, h2, h3⟩
  · exact Or.inl h
  · exact Or.inr ⟨g, c, rfl, Nat.lt_of_lt_of_le h1 hb.size, h2, fun i hi => (hb.cell (p := ⟨g, i, none⟩) h1).trans (h3 i hi)⟩

theorem numb_eq (letter : ByteArray) (n : Nat) : letter ++ (⟨(Lib.decDigits n).toArray⟩ : ByteArray) = numb letter n := rfl

end Go.Proofs.YtfmidkdpclfffaaDoor
