/-
  What reads as teams lies in memory as the walks ask it.
-/
import Derived.ProofKit
import Derived.OpenShut
import Derived.ShutString
import Derived.ChangeOld
import Derived.SliceStrings
import Derived.Deep.Slices
import Derived.Test.YtkjkklcflpchlaaGreatMemT
import Derived.Test.YtkjkklcflpchlaaGreatOpenS
namespace Go.Proofs.YtkjkklcflpchlaaGreat
open Go.ChangeShapes Go.WideShapes Go.ChangeAt Go.RowKit Go.Deep

theorem cells54 : Tryz.prog.cellsOf 88 = 2 := by kernel_rfl

section
variable {H : Type} {enc : TypeId × Value → H} {W : World} {base : Nat} {sp : Nat → Bool} {held : Bool}

theorem open_team {fuel : Nat} {cs : List Value} {x : DataW H × List MemPlace} (h : DataW.trod enc Tryz.prog W base sp held fuel 88 cs = some x) :
    ∃ m : Tm, cs = [.string m.nm, .string m.ov] ∧ m.sized := by
  obtain ⟨xs, n, _, _, hlen, hxs, hall⟩ := DataW.trod_struct Tryz.underlying88 h
  rw [cells54] at hlen
  obtain ⟨c0, c1, rfl⟩ := list2 hlen
  obtain ⟨y0, y1, rfl⟩ := list2 (l := xs) (by simpa using hxs)
  have a0 := hall 0 _ rfl
  have a1 := hall 1 _ rfl
  simp [cells9] at a0 a1
  obtain ⟨k0, e0, _, s0⟩ := DataW.trod_string Tryz.underlying9 a0
  obtain ⟨k1, e1, _, s1⟩ := DataW.trod_string Tryz.underlying9 a1
  simp only [List.cons.injEq, and_true] at e0 e1
  subst e0 e1
  exact ⟨⟨k0, k1⟩, rfl, s0, s1⟩

theorem open_teams {fuel : Nat} {v : Value} {x : DataW H × List MemPlace} (h : DataW.trod enc Tryz.prog W base sp held fuel 24 [v] = some x) : ∃ ms, TmsAt W v ms := by
  rcases open_slice Tryz.underlying24 h with ⟨hcs, _⟩ | ⟨a, len, cap, m, n, D, Pl, hcs, _, hl, hm, hmm, _, hc⟩
  · simp only [List.cons.injEq, and_true] at hcs
    exact ⟨[], Or.inl ⟨none, 0, hcs, rfl⟩⟩
  · simp only [List.cons.injEq, and_true] at hcs
    rw [cells54] at hc
    have hle : len ≤ m := by rw [hmm]; split <;> omega
    by_cases h0 : len = 0
    · subst h0; exact ⟨[], Or.inl ⟨some a, cap, hcs, rfl⟩⟩
    · obtain ⟨b, off, spot⟩ := a
      have first : ∀ i, i < m → ∃ cs', (∀ j, j < 2 → W.cell? ((Addr.add ⟨b, off, spot⟩ (i * 2)).add j) = cs'[j]?) ∧ DataW.trod enc Tryz.prog W base sp held n 88 cs' = some (D i, Pl i) := by
        intro i hi
        obtain ⟨cs', h1, h2⟩ := hc i hi
        exact ⟨cs', (World.cells?_some h1).2.2, h2⟩
      have hspot : spot = none := by
        obtain ⟨cs', h1, h2⟩ := first 0 (by omega)
        obtain ⟨md, rfl, _⟩ := open_team h2
        have := h1 0 (by omega)
        simp [Addr.add] at this
        simpa using World.cell?_spot this
      subst hspot
      have each : ∀ i, i < len → ∃ md : Tm, TmIs W b (off + i * 2) md := by
        intro i hi
        obtain ⟨cs', h1, h2⟩ := first i (by omega)
        obtain ⟨md, rfl, hs⟩ := open_team h2
        rw [add_none] at h1
        have g : ∀ j, j < 2 → W.cell? ⟨b, off + i * 2 + j, none⟩ = [Value.string md.nm, .string md.ov][j]? := by
          intro j hj
          have := h1 j hj
          rw [add_none] at this
          exact this
        exact ⟨md, g 0 (by omega), g 1 (by omega), hs⟩
      obtain ⟨ms, hfl, hfs⟩ := list_pick Tm.none each
      have h00 := hfs 0 (by omega)
      refine ⟨ms, Or.inr ⟨b, off, cap, by rw [hfl]; exact hcs, cell_lt h00.c0, by omega, fun i hi => ?_⟩⟩
      exact hfs i (by omega)
end

theorem ownT : ownKnob Tryz.prog.godebug = none := by kernel_rfl
theorem laidOutT : laidOutB Tryz.prog = true := by kernel_rfl

end Go.Proofs.YtkjkklcflpchlaaGreat
