/-
  What reads as an object lies in memory as the walks ask it.
-/
import Derived.Test.YtfdahoekjpobaaaGreatOpenS
import Derived.Test.YtfdahoekjpobaaaGreatWalkAF
namespace Go.Proofs.YtfdahoekjpobaaaGreat
open Go.ChangeShapes Go.WideShapes Go.ChangeAt Go.RowKit

theorem cells39 : Tryz.prog.cellsOf 26 = 7 := by kernel_rfl

theorem list7 {α : Type} {l : List α} (h : l.length = 7) : ∃ c0 c1 c2 c3 c4 c5 c6, l = [c0, c1, c2, c3, c4, c5, c6] := by
  match l, h with
  | [c0, c1, c2, c3, c4, c5, c6], _ => exact ⟨c0, c1, c2, c3, c4, c5, c6, rfl⟩

section
variable {H : Type} {enc : TypeId × Value → H} {W : World} {base : Nat} {sp : Nat → Bool} {held : Bool}

theorem open_object {fuel : Nat} {cs : List Value} {x : DataW H × List MemPlace} (h : DataW.trod enc Tryz.prog W base sp held fuel 26 cs = some x) :
    ∃ (o : Ob) (v1 v2 : Value), cs = [.string o.kind, .string o.name, .string o.team, v1, .bool o.ending, v2, .int .i64 o.version] ∧ o.sized ∧ Texts W v1 o.values ∧ Texts W v2 o.holds := by
  obtain ⟨xs, n, _, _, hlen, hxs, hall⟩ := DataW.trod_struct Tryz.underlying26 h
  rw [cells39] at hlen
  obtain ⟨c0, c1, c2, c3, c4, c5, c6, rfl⟩ := list7 hlen
  obtain ⟨y0, y1, y2, y3, y4, y5, y6, rfl⟩ := list7 (l := xs) (by simpa using hxs)
  have a0 := hall 0 _ rfl
  have a1 := hall 1 _ rfl
  have a2 := hall 2 _ rfl
  have a3 := hall 3 _ rfl
  have a4 := hall 4 _ rfl
  have a5 := hall 5 _ rfl
  have a6 := hall 6 _ rfl
  simp [cells9, cells3, cells4, cells22] at a0 a1 a2 a3 a4 a5 a6
  obtain ⟨k, e0, _, s0⟩ := DataW.trod_string Tryz.underlying9 a0
  obtain ⟨nm, e1, _, s1⟩ := DataW.trod_string Tryz.underlying9 a1
  obtain ⟨tm, e2, _, s2⟩ := DataW.trod_string Tryz.underlying9 a2
  obtain ⟨vs, t3⟩ := open_texts a3
  obtain ⟨en, e4, _⟩ := DataW.trod_bool Tryz.underlying4 a4
  obtain ⟨hs, t5⟩ := open_texts a5
  obtain ⟨ver, e6, _, _⟩ := DataW.trod_int Tryz.underlying3 a6
  simp only [List.cons.injEq, and_true] at e0 e1 e2 e4 e6
  subst e0 e1 e2 e4 e6
  exact ⟨⟨k, nm, tm, vs, en, hs, ver⟩, c3, c5, rfl, ⟨s0, s1, s2⟩, t3, t5⟩
end
end Go.Proofs.YtfdahoekjpobaaaGreat
