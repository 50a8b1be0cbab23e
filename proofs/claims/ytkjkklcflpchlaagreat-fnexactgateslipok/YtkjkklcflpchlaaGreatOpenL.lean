/-
  What reads as a law lies in memory as the walks ask it.
-/
import Derived.Test.YtkjkklcflpchlaaGreatMemL
import Derived.Test.YtkjkklcflpchlaaGreatOpenM
import Derived.Test.YtkjkklcflpchlaaGreatOpenT
namespace Go.Proofs.YtkjkklcflpchlaaGreat
open Go.ChangeShapes Go.WideShapes Go.ChangeAt Go.RowKit

theorem ownL : ownKnob Tryz.prog.godebug = none := by kernel_rfl
theorem laidOutL : laidOutB Tryz.prog = true := by kernel_rfl
theorem cellsLaw : Tryz.prog.cellsOf 26 = 3 := by kernel_rfl
theorem cellsLaw0 : Tryz.prog.cellsOf 22 = 1 := by kernel_rfl
theorem cellsLaw1 : Tryz.prog.cellsOf 23 = 1 := by kernel_rfl
theorem cellsLaw2 : Tryz.prog.cellsOf 24 = 1 := by kernel_rfl

theorem list3L {α : Type} {l : List α} (h : l.length = 3) : ∃ c0 c1 c2, l = [c0, c1, c2] := by
  match l, h with
  | [c0, c1, c2], _ => exact ⟨c0, c1, c2, rfl⟩

section
variable {H : Type} {enc : TypeId × Value → H} {W : World} {base : Nat} {sp : Nat → Bool} {held : Bool}

theorem open_law {fuel : Nat} {cs : List Value} {x : DataW H × List MemPlace} (h : DataW.trod enc Tryz.prog W base sp held fuel 26 cs = some x) :
    ∃ (L : Lw) (v0 v1 v2 : Value), cs = [v0, v1, v2] ∧ LwAt W v0 v1 v2 L := by
  obtain ⟨xs, n, _, _, hlen, hxs, hall⟩ := DataW.trod_struct Tryz.underlying26 h
  rw [cellsLaw] at hlen
  obtain ⟨c0, c1, c2, rfl⟩ := list3L hlen
  obtain ⟨y0, y1, y2, rfl⟩ := list3L (l := xs) (by simpa using hxs)
  have a0 := hall 0 _ rfl
  have a1 := hall 1 _ rfl
  have a2 := hall 2 _ rfl
  simp [cellsLaw0, cellsLaw1, cellsLaw2] at a0 a1 a2
  obtain ⟨ss, h0⟩ := open_shapes a0
  obtain ⟨ms, h1⟩ := open_mends a1
  obtain ⟨ts, h2⟩ := open_teams a2
  exact ⟨⟨ss, ms, ts⟩, c0, c1, c2, rfl, h0, h1, h2⟩
end
end Go.Proofs.YtkjkklcflpchlaaGreat
