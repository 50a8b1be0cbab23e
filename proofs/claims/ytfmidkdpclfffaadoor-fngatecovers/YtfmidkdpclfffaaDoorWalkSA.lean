/-
  Lists of rules, as they lie in memory.
-/
import Derived.Test.YtfmidkdpclfffaaDoorMemR
namespace Go.Proofs.YtfmidkdpclfffaaDoor
open Go.RowKit Go.Deep

/-- A rule of four cells, its verbs in a block. -/
def OwnRul (w : World) (B o : Nat) (r : Rul) : Prop :=
  ∃ b CV : Nat, w.cell? ⟨B, o, none⟩ = some (.slice (some ⟨b, 0, none⟩) r.verbs.length CV) ∧ w.cell? ⟨B, o + 1, none⟩ = some (.string r.kind) ∧ w.cell? ⟨B, o + 2, none⟩ = some (.string r.team) ∧ w.cell? ⟨B, o + 3, none⟩ = some (.string r.pre) ∧ IntsIn w b r.verbs ∧ r.sized

theorem OwnRul.later {w w' : World} {b o : Nat} {r : Rul} (h : OwnRul w b o r) (hb : Below w.heap.size w w') (hlt : b < w.heap.size) : OwnRul w' b o r := by
  obtain ⟨a, h0, c0, c1, c2, c3, hi, hs⟩ := h
  have q : ∀ j, w'.cell? ⟨b, j, none⟩ = w.cell? ⟨b, j, none⟩ := fun j => hb.cell (p := ⟨b, j, none⟩) hlt
  exact ⟨a, h0, (q _).trans c0, (q _).trans c1, (q _).trans c2, (q _).trans c3, hi.later hb, hs⟩

structure RulsIn (w : World) (B : Nat) (rs : List Rul) : Prop where
  lt : B < w.heap.size
  len : rs.length ≤ 1048576
  at_ : ∀ i, i < rs.length → OwnRul w B (i * 4) (rs.getD i Rul.none)

theorem RulsIn.later {w w' : World} {B : Nat} {rs : List Rul} (h : RulsIn w B rs) (hb : Below w.heap.size w w') : RulsIn w' B rs :=
  ⟨Nat.lt_of_lt_of_le h.lt hb.size, h.len, fun i hi => (h.at_ i hi).later hb h.lt⟩


end Go.Proofs.YtfmidkdpclfffaaDoor
