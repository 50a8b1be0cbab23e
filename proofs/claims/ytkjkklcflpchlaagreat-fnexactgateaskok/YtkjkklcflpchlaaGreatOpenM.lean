/-
  What reads as mends lies in memory as the walks ask it.
-/
import Derived.Test.YtkjkklcflpchlaaGreatMemM
import Derived.Test.YtkjkklcflpchlaaGreatOpenS
namespace Go.Proofs.YtkjkklcflpchlaaGreat
open Go.ChangeShapes Go.WideShapes Go.ChangeAt Go.RowKit Go.Deep

theorem cells40 : Tryz.prog.cellsOf 85 = 6 := by kernel_rfl

theorem list6 {α : Type} {l : List α} (h : l.length = 6) : ∃ c0 c1 c2 c3 c4 c5, l = [c0, c1, c2, c3, c4, c5] := by
  match l, h with
  | [c0, c1, c2, c3, c4, c5], _ => exact ⟨c0, c1, c2, c3, c4, c5, rfl⟩

section
variable {H : Type} {enc : TypeId × Value → H} {W : World} {base : Nat} {sp : Nat → Bool} {held : Bool}

theorem open_mend {fuel : Nat} {cs : List Value} {x : DataW H × List MemPlace} (h : DataW.trod enc Tryz.prog W base sp held fuel 85 cs = some x) :
    ∃ m : Mnd, cs = [.string m.kind, .string m.field, .string m.whn, .string m.is_, .string m.put, .string m.frm] ∧ m.sized := by
  obtain ⟨xs, n, _, _, hlen, hxs, hall⟩ := DataW.trod_struct Tryz.underlying85 h
  rw [cells40] at hlen
  obtain ⟨c0, c1, c2, c3, c4, c5, rfl⟩ := list6 hlen
  obtain ⟨y0, y1, y2, y3, y4, y5, rfl⟩ := list6 (l := xs) (by simpa using hxs)
  have a0 := hall 0 _ rfl
  have a1 := hall 1 _ rfl
  have a2 := hall 2 _ rfl
  have a3 := hall 3 _ rfl
  have a4 := hall 4 _ rfl
  have a5 := hall 5 _ rfl
  simp [cells9] at a0 a1 a2 a3 a4 a5
  obtain ⟨k0, e0, _, s0⟩ := DataW.trod_string Tryz.underlying9 a0
  obtain ⟨k1, e1, _, s1⟩ := DataW.trod_string Tryz.underlying9 a1
  obtain ⟨k2, e2, _, s2⟩ := DataW.trod_string Tryz.underlying9 a2
  obtain ⟨k3, e3, _, s3⟩ := DataW.trod_string Tryz.underlying9 a3
  obtain ⟨k4, e4, _, s4⟩ := DataW.trod_string Tryz.underlying9 a4
  obtain ⟨k5, e5, _, s5⟩ := DataW.trod_string Tryz.underlying9 a5
  simp only [List.cons.injEq, and_true] at e0 e1 e2 e3 e4 e5
  subst e0 e1 e2 e3 e4 e5
  exact ⟨⟨k0, k1, k2, k3, k4, k5⟩, rfl, s0, s1, s2, s3, s4, s5⟩

theorem open_mends {fuel : Nat} {v : Value} {x : DataW H × List MemPlace} (h : DataW.trod enc Tryz.prog W base sp held fuel 23 [v] = some x) : ∃ ms, MndsAt W v ms := by
  rcases open_slice Tryz.underlying23 h with ⟨hcs, _⟩ | ⟨a, len, cap, m, n, D, Pl, hcs, _, hl, hm, hmm, _, hc⟩
  · simp only [List.cons.injEq, and_true] at hcs
    exact ⟨[], Or.inl ⟨none, 0, hcs, rfl⟩⟩
  · simp only [List.cons.injEq, and_true] at hcs
    rw [cells40] at hc
    have hle : len ≤ m := by rw [hmm]; split <;> omega
    by_cases h0 : len = 0
    · subst h0; exact ⟨[], Or.inl ⟨some a, cap, hcs, rfl⟩⟩
    · obtain ⟨b, off, spot⟩ := a
      have first : ∀ i, i < m → ∃ cs', (∀ j, j < 6 → W.cell? ((Addr.add ⟨b, off, spot⟩ (i * 6)).add j) = cs'[j]?) ∧ DataW.trod enc Tryz.prog W base sp held n 85 cs' = some (D i, Pl i) := by
        intro i hi
        obtain ⟨cs', h1, h2⟩ := hc i hi
        exact ⟨cs', (World.cells?_some h1).2.2, h2⟩
      have hspot : spot = none := by
        obtain ⟨cs', h1, h2⟩ := first 0 (by omega)
        obtain ⟨md, rfl, _⟩ := open_mend h2
        have := h1 0 (by omega)
        simp [Addr.add] at this
        simpa using World.cell?_spot this
      subst hspot
      have each : ∀ i, i < len → ∃ md : Mnd, MndIs W b (off + i * 6) md := by
        intro i hi
        obtain ⟨cs', h1, h2⟩ := first i (by omega)
        obtain ⟨md, rfl, hs⟩ := open_mend h2
        rw [add_none] at h1
        have g : ∀ j, j < 6 → W.cell? ⟨b, off + i * 6 + j, none⟩ = [Value.string md.kind, .string md.field, .string md.whn, .string md.is_, .string md.put, .string md.frm][j]? := by
          intro j hj
          have := h1 j hj
          rw [add_none] at this
          exact this
        exact ⟨md, g 0 (by omega), g 1 (by omega), g 2 (by omega), g 3 (by omega), g 4 (by omega), g 5 (by omega), hs⟩
      obtain ⟨ms, hfl, hfs⟩ := list_pick Mnd.none each
      have h00 := hfs 0 (by omega)
      refine ⟨ms, Or.inr ⟨b, off, cap, by rw [hfl]; exact hcs, cell_lt h00.c0, by omega, fun i hi => ?_⟩⟩
      exact hfs i (by omega)
end

theorem ownM : ownKnob Tryz.prog.godebug = none := by kernel_rfl
theorem laidOutM : laidOutB Tryz.prog = true := by kernel_rfl

end Go.Proofs.YtkjkklcflpchlaaGreat
