/-
  What reads as an event.
-/
import Derived.Test.YtclagbakddkjcaaGreatOpenSB
import Derived.Test.YtclagbakddkjcaaGreatSeJ
namespace Go.Proofs.YtclagbakddkjcaaGreat
open Go.ChangeShapes Go.WideShapes Go.ChangeAt Go.RowKit Go.Deep

theorem cellsEv : Tryz.prog.cellsOf 30 = 17 := by kernel_rfl
theorem listB17 {α : Type} {l : List α} (h : l.length = 17) : ∃ c0 c1 c2 c3 c4 c5 c6 c7 c8 c9 c10 c11 c12 c13 c14 c15 c16, l = [c0, c1, c2, c3, c4, c5, c6, c7, c8, c9, c10, c11, c12, c13, c14, c15, c16] := by
  match l, h with
  | [c0, c1, c2, c3, c4, c5, c6, c7, c8, c9, c10, c11, c12, c13, c14, c15, c16], _ => exact ⟨c0, c1, c2, c3, c4, c5, c6, c7, c8, c9, c10, c11, c12, c13, c14, c15, c16, rfl⟩
theorem listB5 {α : Type} {l : List α} (h : l.length = 5) : ∃ c0 c1 c2 c3 c4, l = [c0, c1, c2, c3, c4] := by
  match l, h with
  | [c0, c1, c2, c3, c4], _ => exact ⟨c0, c1, c2, c3, c4, rfl⟩

theorem open_event {H : Type} {enc : TypeId × Value → H} {W : World} {base : Nat} {sp : Nat → Bool} {held : Bool} {fuel : Nat} {cs : List Value} {x : DataW H × List MemPlace} (h : DataW.trod enc Tryz.prog W base sp held fuel 30 cs = some x) :
    ∃ E : Ev, cs = [.int .i64 E.kind, .string E.sv.nm, .int .i64 E.sv.ver, .bool E.sv.gone, .int .i64 E.sv.image, .int .i64 E.sv.want, .int .i64 E.sv.down, .int .i64 E.sv.over, .int .i64 E.sv.next, .int .i64 E.sv.per, .int .i64 E.sv.least, .int .i64 E.sv.most, .int .i64 E.sv.load, .int .i64 E.sv.cool, .string E.nm, .int .i64 E.num, .bool E.flag] ∧ E.sv.nm.size ≤ maxLen ∧ E.nm.size ≤ maxLen := by
  obtain ⟨xs, n, _, _, hlen, hxs, hall⟩ := DataW.trod_struct Tryz.underlying30 h
  rw [cellsEv] at hlen
  obtain ⟨c0, c1, c2, c3, c4, c5, c6, c7, c8, c9, c10, c11, c12, c13, c14, c15, c16, rfl⟩ := listB17 hlen
  obtain ⟨y0, y1, y2, y3, y4, rfl⟩ := listB5 (l := xs) (by simpa using hxs)
  have a0 := hall 0 _ rfl
  have a1 := hall 1 _ rfl
  have a2 := hall 2 _ rfl
  have a3 := hall 3 _ rfl
  have a4 := hall 4 _ rfl
  simp [cells9, cells3, cells4, cellsSv] at a0 a1 a2 a3 a4
  obtain ⟨k0, e0, _, _⟩ := DataW.trod_int Tryz.underlying3 a0
  obtain ⟨s, es, hs⟩ := open_Sv a1
  obtain ⟨k2, e2, _, s2⟩ := DataW.trod_string Tryz.underlying9 a2
  obtain ⟨k3, e3, _, _⟩ := DataW.trod_int Tryz.underlying3 a3
  obtain ⟨k4, e4, _⟩ := DataW.trod_bool Tryz.underlying4 a4
  simp only [List.cons.injEq, and_true] at e0 es e2 e3 e4
  obtain ⟨f0, f1, f2, f3, f4, f5, f6, f7, f8, f9, f10, f11, f12⟩ := es
  subst e0 e2 e3 e4 f0 f1 f2 f3 f4 f5 f6 f7 f8 f9 f10 f11 f12
  exact ⟨⟨k0, s, k2, k3, k4⟩, rfl, hs, s2⟩

end Go.Proofs.YtclagbakddkjcaaGreat
