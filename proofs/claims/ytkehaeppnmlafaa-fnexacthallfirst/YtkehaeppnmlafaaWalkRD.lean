/-
  Walks: what a rule allows: the specification.
-/
import Derived.Test.YtkehaeppnmlafaaWalkRC
namespace Go.Proofs.Ytkehaeppnmlafaa
open Go.RowKit Go.Deep

variable {CT CR CV CQ CL : Nat}

/-- Two boxes behind a world. -/
theorem two_boxes (w : World) (cs ds : Array Value) (t u : TypeId) : w.heap.size + 1 < ((w.alloc (.cells cs t)).alloc (.cells ds u)).heap.size ∧ (∀ o, ((w.alloc (.cells cs t)).alloc (.cells ds u)).cell? ⟨w.heap.size, o, none⟩ = cs[o]?) ∧ (∀ o, ((w.alloc (.cells cs t)).alloc (.cells ds u)).cell? ⟨w.heap.size + 1, o, none⟩ = ds[o]?) := by
  refine ⟨by simp, fun o => by simp, fun o => by simp⟩

theorem carry {w w3 : World} {a : Nat} {cs ds : Array Value} (h : a + 1 < w.heap.size ∧ (∀ o, w.cell? ⟨a, o, none⟩ = cs[o]?) ∧ (∀ o, w.cell? ⟨a + 1, o, none⟩ = ds[o]?)) (hb : Below w.heap.size w w3) :
    a + 1 < w3.heap.size ∧ (∀ o, w3.cell? ⟨a, o, none⟩ = cs[o]?) ∧ (∀ o, w3.cell? ⟨a + 1, o, none⟩ = ds[o]?) :=
  ⟨Nat.lt_of_lt_of_le h.1 hb.size, fun o => (hb.cell (p := ⟨a, o, none⟩) (by have := h.1; show a < w.heap.size; omega)).trans (h.2.1 o), fun o => (hb.cell (p := ⟨a + 1, o, none⟩) h.1).trans (h.2.2 o)⟩

end Go.Proofs.Ytkehaeppnmlafaa
