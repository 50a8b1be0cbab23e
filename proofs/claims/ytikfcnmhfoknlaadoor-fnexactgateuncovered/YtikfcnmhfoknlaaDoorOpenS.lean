/-
  What reads as rules lies in memory as the walks ask it.
-/
import Derived.Test.YtikfcnmhfoknlaaDoorOpenR
import Derived.Test.YtikfcnmhfoknlaaDoorWalkSA
namespace Go.Proofs.YtikfcnmhfoknlaaDoor
open Go.ChangeShapes Go.WideShapes Go.ChangeAt Go.RowKit Go.Deep

section
variable {H : Type} {enc : TypeId × Value → H} {W : World} {base : Nat} {sp : Nat → Bool} {held : Bool}

theorem open_rules {fuel : Nat} {v : Value} {x : DataW H × List MemPlace} (h : DataW.trod enc Tryd.prog W base sp held fuel 23 [v] = some x) : ∃ rs, RulsAt W v rs := by
  rcases open_slice Tryd.underlying23 h with ⟨hcs, _⟩ | ⟨a, len, cap, m, n, D, Pl, hcs, _, hl, hm, hmm, _, hc⟩
  · simp only [List.cons.injEq, and_true] at hcs
    exact ⟨[], Or.inl ⟨none, 0, hcs, rfl⟩⟩
  · simp only [List.cons.injEq, and_true] at hcs
    rw [cells26] at hc
    have hle : len ≤ m := by rw [hmm]; split <;> omega
    by_cases h0 : len = 0
    · subst h0; exact ⟨[], Or.inl ⟨some a, cap, hcs, rfl⟩⟩
    · obtain ⟨b, off, spot⟩ := a
      have first : ∀ i, i < m → ∃ cs', (∀ j, j < 4 → W.cell? ((Addr.add ⟨b, off, spot⟩ (i * 4)).add j) = cs'[j]?) ∧ DataW.trod enc Tryd.prog W base sp held n 26 cs' = some (D i, Pl i) := by
        intro i hi
        obtain ⟨cs', h1, h2⟩ := hc i hi
        exact ⟨cs', (World.cells?_some h1).2.2, h2⟩
      have hspot : spot = none := by
        obtain ⟨cs', h1, h2⟩ := first 0 (by omega)
        obtain ⟨r, ra, rc, rfl, _⟩ := open_rule h2
        have := h1 0 (by omega)
        simp [Addr.add] at this
        simpa using World.cell?_spot this
      subst hspot
      have each : ∀ i, i < len → ∃ r : Rul, RulAt W b (off + i * 4) r := by
        intro i hi
        obtain ⟨cs', h1, h2⟩ := first i (by omega)
        obtain ⟨r, ra, rc, rfl, hrl, hrs, hri⟩ := open_rule h2
        rw [add_none] at h1
        have g : ∀ j, j < 4 → W.cell? ⟨b, off + i * 4 + j, none⟩ = [Value.slice ra r.verbs.length rc, .string r.kind, .string r.team, .string r.pre][j]? := by
          intro j hj
          have := h1 j hj
          rw [add_none] at this
          exact this
        exact ⟨r, ra, rc, g 0 (by omega), g 1 (by omega), g 2 (by omega), g 3 (by omega), hri, hrl, hrs⟩
      obtain ⟨rs, hfl, hfs⟩ := list_pick Rul.none each
      obtain ⟨_, _, h00, _⟩ := hfs 0 (by omega)
      refine ⟨rs, Or.inr ⟨b, off, cap, by rw [hfl]; exact hcs, cell_lt h00, by omega, fun i hi => ?_⟩⟩
      exact hfs i (by omega)
end

end Go.Proofs.YtikfcnmhfoknlaaDoor
