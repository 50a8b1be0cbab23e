/-
  A region that draws its order, whose operations yield the same in each world behind w.
-/
import Derived.BigQuiet
import Derived.Deep.RegionWith
import Derived.Test.YtnjomikieiocpaaRcP
namespace Go.Proofs.Ytnjomikieiocpaa
open Go.RowKit Go.Deep

structure Pst (w : World) where
  W : World
  ok : Below w.heap.size w W

theorem pst_some (w : World) : Nonempty (Pst w) := ⟨⟨w, Below.refl _ _⟩⟩
theorem Pst.cell {w : World} (x : Pst w) {b j : Nat} {v : Value} (h : w.cell? ⟨b, j, none⟩ = some v) (hb : b < w.heap.size) : x.W.cell? ⟨b, j, none⟩ = some v := (x.ok.cell (p := ⟨b, j, none⟩) hb).trans h
theorem Pst.size {w : World} (x : Pst w) {b : Nat} (h : b < w.heap.size) : b < x.W.heap.size := Nat.lt_of_lt_of_le h x.ok.size

theorem region_class {P : Program} {id : Nat} {Q : Exit → Act → World → Prop} {a : Act} {w : World} {l : List Oper} (v : World) (hv : Below v.heap.size v w) (hm : P.follows .mixedOrders = true) (hB : Region.lexB .any l.toArray = true)
    (h : wpQuiet P l.toArray (fun w' => ∃ x : Pst v, w' = x.W) (fun a' => ∀ w', (∃ x : Pst v, w' = x.W) → Q .normal a' w') l a) : (Code.region id l.toArray true).wp P Q a w :=
  wp_region_quiet (C := fun w' => ∃ x : Pst v, w' = x.W) hm hB ⟨⟨w.drew, Below.drew hv⟩, rfl⟩ (by simpa using h)

end Go.Proofs.Ytnjomikieiocpaa
