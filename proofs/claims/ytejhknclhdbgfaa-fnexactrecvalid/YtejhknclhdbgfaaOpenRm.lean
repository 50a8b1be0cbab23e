/-
  What reads as a message lies in memory as the walks ask it.
-/
import Derived.Test.YtejhknclhdbgfaaMemRm
import Derived.Test.YtejhknclhdbgfaaOpenRd
namespace Go.Proofs.Ytejhknclhdbgfaa
open Go.ChangeShapes Go.WideShapes Go.ChangeAt Go.RowKit Go.Deep

theorem cellsRM : Try.prog.cellsOf 58 = 8 := by kernel_rfl
theorem cellsRM_0 : Try.prog.cellsOf 22 = 1 := by kernel_rfl
theorem open_rmsg {H : Type} {enc : TypeId × Value → H} {W : World} {base : Nat} {sp : Nat → Bool} {held : Bool} {fuel : Nat} {cs : List Value} {x : DataW H × List MemPlace} (h : DataW.trod enc Try.prog W base sp held fuel 58 cs = some x) :
    ∃ (K : Rm) (v0 : Value), cs = [.int .i64 K.kind, .int .i64 K.frm, .int .i64 K.to_, .int .i64 K.bal, .int .i64 K.ix, .int .i64 K.known, .string K.txt, v0] ∧ RmAt W v0 K := by
  obtain ⟨xs, n, _, _, hlen, hxs, hall⟩ := DataW.trod_struct Try.underlying58 h
  rw [cellsRM] at hlen
  obtain ⟨c0, c1, c2, c3, c4, c5, c6, c7, rfl⟩ := listB8 hlen
  obtain ⟨y0, y1, y2, y3, y4, y5, y6, y7, rfl⟩ := listB8 (l := xs) (by simpa using hxs)
  have a0 := hall 0 _ rfl
  have a1 := hall 1 _ rfl
  have a2 := hall 2 _ rfl
  have a3 := hall 3 _ rfl
  have a4 := hall 4 _ rfl
  have a5 := hall 5 _ rfl
  have a6 := hall 6 _ rfl
  have a7 := hall 7 _ rfl
  simp [cells9, cells3, cellsRM_0] at a0 a1 a2 a3 a4 a5 a6 a7
  obtain ⟨k0, e0, _, _⟩ := DataW.trod_int Try.underlying3 a0
  obtain ⟨k1, e1, _, _⟩ := DataW.trod_int Try.underlying3 a1
  obtain ⟨k2, e2, _, _⟩ := DataW.trod_int Try.underlying3 a2
  obtain ⟨k3, e3, _, _⟩ := DataW.trod_int Try.underlying3 a3
  obtain ⟨k4, e4, _, _⟩ := DataW.trod_int Try.underlying3 a4
  obtain ⟨k5, e5, _, _⟩ := DataW.trod_int Try.underlying3 a5
  obtain ⟨k6, e6, _, s6⟩ := DataW.trod_string Try.underlying9 a6
  obtain ⟨m7, h7⟩ := open_Rss a7
  simp only [List.cons.injEq, and_true] at e0 e1 e2 e3 e4 e5 e6
  subst e0 e1 e2 e3 e4 e5 e6
  exact ⟨⟨k0, k1, k2, k3, k4, k5, k6, m7⟩, c7, rfl, ⟨h7, s6⟩⟩

end Go.Proofs.Ytejhknclhdbgfaa
