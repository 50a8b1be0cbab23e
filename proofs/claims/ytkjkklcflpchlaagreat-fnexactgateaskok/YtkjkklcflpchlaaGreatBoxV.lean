/-
  Boxes.
-/
import Derived.Test.YtkjkklcflpchlaaGreatWalkJ
namespace Go.Proofs.YtkjkklcflpchlaaGreat
open Go.RowKit Go.Deep

/-- A block that holds these cells. -/
structure BoxV (W : World) (p : Nat) (cs : Array Value) : Prop where
  lt : p < W.heap.size
  at_ : ∀ j, W.cell? ⟨p, j, none⟩ = cs[j]?

theorem BoxV.later {W W' : World} {p : Nat} {cs : Array Value} (h : BoxV W p cs) (hb : Below W.heap.size W W') : BoxV W' p cs :=
  ⟨Nat.lt_of_lt_of_le h.lt hb.size, fun j => (hb.cell (p := ⟨p, j, none⟩) h.lt).trans (h.at_ j)⟩
theorem BoxV.new' (W : World) (p : Nat) (cs : Array Value) (t : TypeId) (hp : p = W.heap.size) : BoxV (W.alloc (.cells cs t)) p cs := by
  subst hp
  exact ⟨by simp, fun j => World.cell?_alloc_at _ _ _ _ rfl⟩
theorem BoxV.past {W : World} {p : Nat} {cs : Array Value} (h : BoxV W p cs) (o : Obj) : BoxV (W.alloc o) p cs := h.later (blw_alloc (Below.refl _ _) o)

end Go.Proofs.YtkjkklcflpchlaaGreat
