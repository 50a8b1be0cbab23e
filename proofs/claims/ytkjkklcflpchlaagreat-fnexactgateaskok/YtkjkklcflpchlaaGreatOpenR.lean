/-
  What reads as a rule or an act lies in memory as the walks ask it.
-/
import Derived.ChangeSlices
import Derived.Test.YtkjkklcflpchlaaGreatOpenT
import Derived.Test.YtkjkklcflpchlaaGreatMemR
namespace Go.Proofs.YtkjkklcflpchlaaGreat
open Go.ChangeShapes Go.WideShapes Go.ChangeAt Go.RowKit Go.Deep

theorem cells31 : Tryz.prog.cellsOf 28 = 1 := by kernel_rfl
theorem cells33 : Tryz.prog.cellsOf 30 = 4 := by kernel_rfl
theorem list4 {α : Type} {l : List α} (h : l.length = 4) : ∃ c0 c1 c2 c3, l = [c0, c1, c2, c3] := by
  match l, h with
  | [c0, c1, c2, c3], _ => exact ⟨c0, c1, c2, c3, rfl⟩

section
variable {H : Type} {enc : TypeId × Value → H} {W : World} {base : Nat} {sp : Nat → Bool} {held : Bool}

theorem open_numbers {fuel : Nat} {v : Value} {x : DataW H × List MemPlace} (h : DataW.trod enc Tryz.prog W base sp held fuel 28 [v] = some x) :
    ∃ (a : Option Addr) (c : Nat) (l : List Int), v = .slice a l.length c ∧ l.length ≤ maxLen ∧ NumsAt W v l := by
  rcases open_ints Tryz.underlying28 Tryz.underlying3 cells3 h with ⟨hcs, _⟩ | ⟨a, len, cap, zs, hcs, _, hl, hm, hz, _, hc, _⟩
  · simp only [List.cons.injEq, and_true] at hcs
    exact ⟨none, 0, [], hcs, Nat.zero_le _, Or.inl ⟨none, 0, hcs, rfl⟩⟩
  · simp only [List.cons.injEq, and_true] at hcs
    have hle : len ≤ zs.length := by rw [hz]; split <;> omega
    by_cases h0 : len = 0
    · subst h0; exact ⟨some a, cap, [], hcs, Nat.zero_le _, Or.inl ⟨some a, cap, hcs, rfl⟩⟩
    · obtain ⟨b, off, spot⟩ := a
      have hc0 := hc 0 (by omega)
      have hspot : spot = none := by simpa [Addr.add] using World.cell?_spot hc0
      subst hspot
      have hlen : (zs.take len).length = len := by simp; omega
      refine ⟨_, cap, zs.take len, by rw [hlen]; exact hcs, by rw [hlen]; omega, Or.inr ⟨b, off, cap, by rw [hlen]; exact hcs, cell_lt hc0, by rw [hlen]; omega, fun i hi => ?_⟩⟩
      rw [hlen] at hi
      have e : (zs.take len).getD i 0 = zs.getD i 0 := by simp [hi]
      rw [e]
      have := hc i (by omega)
      rw [add_none] at this
      exact this

theorem open_rule {fuel : Nat} {cs : List Value} {x : DataW H × List MemPlace} (h : DataW.trod enc Tryz.prog W base sp held fuel 30 cs = some x) :
    ∃ (r : Rul) (a : Option Addr) (c : Nat), cs = [.slice a r.verbs.length c, .string r.kind, .string r.team, .string r.pre] ∧ r.verbs.length ≤ maxLen ∧ r.sized ∧ NumsAt W (.slice a r.verbs.length c) r.verbs := by
  obtain ⟨xs, n, _, _, hlen, hxs, hall⟩ := DataW.trod_struct Tryz.underlying30 h
  rw [cells33] at hlen
  obtain ⟨c0, c1, c2, c3, rfl⟩ := list4 hlen
  obtain ⟨y0, y1, y2, y3, rfl⟩ := list4 (l := xs) (by simpa using hxs)
  have a0 := hall 0 _ rfl
  have a1 := hall 1 _ rfl
  have a2 := hall 2 _ rfl
  have a3 := hall 3 _ rfl
  simp [cells9, cells31] at a0 a1 a2 a3
  obtain ⟨a, c, l, e0, hl, t0⟩ := open_numbers a0
  obtain ⟨k1, e1, _, s1⟩ := DataW.trod_string Tryz.underlying9 a1
  obtain ⟨k2, e2, _, s2⟩ := DataW.trod_string Tryz.underlying9 a2
  obtain ⟨k3, e3, _, s3⟩ := DataW.trod_string Tryz.underlying9 a3
  simp only [List.cons.injEq, and_true] at e1 e2 e3
  subst e0 e1 e2 e3
  exact ⟨⟨l, k1, k2, k3⟩, a, c, rfl, hl, ⟨s1, s2, s3⟩, t0⟩

end

end Go.Proofs.YtkjkklcflpchlaaGreat
