/-
  A box by the list of its cells.
-/
import Derived.Deep.MidRow
import Derived.Test.YtjjobbalifjdkaaOwn
namespace Go.Proofs.Ytjjobbalifjdkaa
open Go.RowKit Go.Deep

/-- A box's cells. -/
structure LBox (W : World) (p : Nat) (cs : List Value) : Prop where
  lt : p < W.heap.size
  at_ : W.rangeAt p 0 cs
theorem LBox.later {W W' : World} {p : Nat} {cs : List Value} (h : LBox W p cs) (hb : Below W.heap.size W W') : LBox W' p cs :=
  ⟨Nat.lt_of_lt_of_le h.lt hb.size, fun j v hv => (hb.cell (p := ⟨p, 0 + j, none⟩) h.lt).trans (h.at_ j v hv)⟩
theorem LBox.new (W : World) (cs : Array Value) (t : TypeId) (p : Nat) (hp : p = W.heap.size) : LBox (W.alloc (.cells cs t)) p cs.toList := by
  subst hp
  refine ⟨by simp, fun j v hv => ?_⟩
  rw [Nat.zero_add]
  refine (World.cell?_alloc_at _ _ _ _ rfl).trans ?_
  simpa using hv
theorem LBox.past {W : World} {p : Nat} {cs : List Value} (h : LBox W p cs) (x : Obj) : LBox (W.alloc x) p cs := h.later (blw_alloc (Below.refl _ _) x)
theorem LBox.get {W : World} {p : Nat} {cs : List Value} (h : LBox W p cs) (j : Nat) (v : Value) (hv : cs[j]? = some v) : W.cell? ⟨p, j, none⟩ = some v := by
  have := h.at_ j v hv
  rwa [Nat.zero_add] at this

end Go.Proofs.Ytjjobbalifjdkaa
