/-
  What reads as a stewards' world lies in memory as the walks ask it.
-/
import Derived.Test.YtfmcdpgeplkcgaaMemSW
import Derived.Test.YtfmcdpgeplkcgaaOpenSB
namespace Go.Proofs.Ytfmcdpgeplkcgaa
open Go.ChangeShapes Go.WideShapes Go.ChangeAt Go.RowKit Go.Deep

theorem Try.underSBk' : Try.prog.underlying 22 = some (.slice 27) := by kernel_rfl

theorem open_SBks {H : Type} {enc : TypeId × Value → H} {W : World} {base : Nat} {sp : Nat → Bool} {held : Bool} {fuel : Nat} {v : Value} {x : DataW H × List MemPlace} (h : DataW.trod enc Try.prog W base sp held fuel 22 [v] = some x) : ∃ ms, SBksAt W v ms := by
  rcases open_slice Try.underSBk' h with ⟨hcs, _⟩ | ⟨a, len, cap, m, n, D, Pl, hcs, _, hl, hm, hmm, _, hc⟩
  · simp only [List.cons.injEq, and_true] at hcs
    exact ⟨[], Or.inl ⟨none, 0, hcs, rfl⟩⟩
  · simp only [List.cons.injEq, and_true] at hcs
    rw [cellsSB] at hc
    have hle : len ≤ m := by rw [hmm]; split <;> omega
    by_cases h0 : len = 0
    · subst h0; exact ⟨[], Or.inl ⟨some a, cap, hcs, rfl⟩⟩
    · obtain ⟨b, off, spot⟩ := a
      have first : ∀ i, i < m → ∃ cs', (∀ j, j < 4 → W.cell? ((Addr.add ⟨b, off, spot⟩ (i * 4)).add j) = cs'[j]?) ∧ DataW.trod enc Try.prog W base sp held n 27 cs' = some (D i, Pl i) := by
        intro i hi
        obtain ⟨cs', h1, h2⟩ := hc i hi
        exact ⟨cs', (World.cells?_some h1).2.2, h2⟩
      have hspot : spot = none := by
        obtain ⟨cs', h1, h2⟩ := first 0 (by omega)
        obtain ⟨K, v0, v1, v2, rfl, hs⟩ := open_sbook h2
        have := h1 0 (by omega)
        simp [Addr.add] at this
        simpa using World.cell?_spot this
      subst hspot
      have each : ∀ i, i < len → ∃ md : SBk, SBkC W b (off + i * 4) md := by
        intro i hi
        obtain ⟨cs', h1, h2⟩ := first i (by omega)
        obtain ⟨K, v0, v1, v2, rfl, hs⟩ := open_sbook h2
        rw [add_none] at h1
        have g : ∀ j, j < 4 → W.cell? ⟨b, off + i * 4 + j, none⟩ = [Value.int .i64 K.now, v0, v1, v2][j]? := by
          intro j hj
          have := h1 j hj
          rw [add_none] at this
          exact this
        exact ⟨K, v0, v1, v2, g 0 (by omega), g 1 (by omega), g 2 (by omega), g 3 (by omega), hs⟩
      obtain ⟨ms, hfl, hfs⟩ := list_pick SBk.none each
      obtain ⟨_, _, _, h00, _⟩ := hfs 0 (by omega)
      refine ⟨ms, Or.inr ⟨b, off, cap, by rw [hfl]; exact hcs, cell_lt h00, by omega, fun i hi => ?_⟩⟩
      exact hfs i (by omega)

theorem cellsSW : Try.prog.cellsOf 29 = 5 := by kernel_rfl
theorem cellsSBs : Try.prog.cellsOf 22 = 1 := by kernel_rfl
theorem listB5 {α : Type} {l : List α} (h : l.length = 5) : ∃ c0 c1 c2 c3 c4, l = [c0, c1, c2, c3, c4] := by
  match l, h with
  | [c0, c1, c2, c3, c4], _ => exact ⟨c0, c1, c2, c3, c4, rfl⟩

theorem open_sworld {H : Type} {enc : TypeId × Value → H} {W : World} {base : Nat} {sp : Nat → Bool} {held : Bool} {fuel : Nat} {cs : List Value} {x : DataW H × List MemPlace} (h : DataW.trod enc Try.prog W base sp held fuel 29 cs = some x) :
    ∃ (K : SW) (v0 v1 v2 v3 : Value), cs = [v3, .int .i64 K.book.now, v0, v1, v2] ∧ SWAt W v0 v1 v2 v3 K := by
  obtain ⟨xs, n, _, _, hlen, hxs, hall⟩ := DataW.trod_struct Try.underlying29 h
  rw [cellsSW] at hlen
  obtain ⟨c0, c1, c2, c3, c4, rfl⟩ := listB5 hlen
  obtain ⟨y0, y1, rfl⟩ := listB2 (l := xs) (by simpa using hxs)
  have a0 := hall 0 _ rfl
  have a1 := hall 1 _ rfl
  simp [cellsSBs, cellsSB] at a0 a1
  obtain ⟨ms, hm⟩ := open_SBks a0
  obtain ⟨K, v0, v1, v2, e, hK⟩ := open_sbook a1
  simp only [List.cons.injEq, and_true] at e
  obtain ⟨rfl, rfl, rfl, rfl⟩ := e
  exact ⟨⟨ms, K⟩, _, _, _, _, rfl, ⟨hK, hm⟩⟩

end Go.Proofs.Ytfmcdpgeplkcgaa
