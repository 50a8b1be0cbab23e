/-
  The texts that a recorder knows: plain.
-/
import Derived.Test.YtcefgacmagobnaaKV
namespace Go.Proofs.Ytcefgacmagobnaa
open Go.RowKit Go.Deep

def knownTx (d : Rd) : List Tx := (d.slots.take d.known.toNat).map (·.txt)
def bookOf (K : Rr) : List Tx := if recOk K then knownTx K.disk else []
theorem disk_facts {d : Rd} (h : diskOk d = true) : ∃ kn : Nat, d.known = (kn : Int) ∧ kn ≤ d.slots.length ∧ d.slots.length ≤ 120 := by
  simp only [diskOk, slotsOk, inB, Bool.and_eq_true, decide_eq_true_eq] at h
  obtain ⟨⟨⟨_, h1, _⟩, h2, h3⟩, _⟩ := h
  exact ⟨d.known.toNat, by omega, by omega, h1⟩
theorem rec_disk {K : Rr} (h : recOk K = true) : diskOk K.safe = true ∧ diskOk K.disk = true := by
  simp only [recOk, Bool.and_eq_true] at h
  exact ⟨h.1.1.1.1.1.1.1.1.1.1.1.2, h.1.1.1.1.1.1.1.1.1.1.2⟩
theorem txs_snoc (l : List Rs) (k : Nat) (h : k < l.length) : ((l.take (k + 1)).map (·.txt)) = ((l.take k).map (·.txt)) ++ [(l.getD k Rs.none).txt] := by
  have : l.getD k Rs.none = l[k] := by simp [h]
  rw [this, List.take_succ_eq_append_getElem h, List.map_append]; rfl
theorem fm_snoc {α : Type} (f : α → List Dt) (l : List α) (x : α) : (l ++ [x]).flatMap f = l.flatMap f ++ f x := by simp
end Go.Proofs.Ytcefgacmagobnaa
