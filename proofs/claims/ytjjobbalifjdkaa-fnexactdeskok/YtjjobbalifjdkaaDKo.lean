/-
  What reads as a desk lies in memory so.
-/
import Derived.ProofKit
import Derived.OpenShut
import Derived.ShutString
import Derived.ChangeOld
import Derived.SliceStrings
import Derived.Deep.Slices
import Derived.Test.YtjjobbalifjdkaaDKh
namespace Go.Proofs.Ytjjobbalifjdkaa
open Go.ChangeShapes Go.WideShapes Go.ChangeAt Go.RowKit Go.Deep

theorem ocells9 : Try.prog.cellsOf 9 = 1 := by kernel_rfl
theorem ocells3 : Try.prog.cellsOf 3 = 1 := by kernel_rfl
theorem ocells4 : Try.prog.cellsOf 4 = 1 := by kernel_rfl
theorem ucell_lt {w : World} {a : Addr} {v : Value} (h : w.cell? a = some v) : a.block < w.heap.size := by
  by_cases hb : a.block < w.heap.size
  · exact hb
  · exfalso
    have : w.heap[a.block]? = none := by simp; omega
    simp [World.cell?, this] at h
theorem uadd_none (b off i : Nat) : (Addr.add ⟨b, off, none⟩ i) = ⟨b, off + i, none⟩ := by
  unfold Addr.add; split <;> simp_all
theorem uownL : ownKnob Try.prog.godebug = none := by kernel_rfl
theorem ulaidL : laidOutB Try.prog = true := by kernel_rfl
theorem ulist4 {α : Type} {l : List α} (h : l.length = 4) : ∃ c0 c1 c2 c3, l = [c0, c1, c2, c3] := by
  match l, h with
  | [c0, c1, c2, c3], _ => exact ⟨c0, c1, c2, c3, rfl⟩
theorem ocellsDesk : Try.prog.cellsOf 23 = 4 := by kernel_rfl
theorem openDesk {H : Type} {enc : TypeId × Value → H} {W : World} {base : Nat} {sp : Nat → Bool} {held : Bool} {fuel : Nat} {cs : List Value} {x : DataW H × List MemPlace} (h : DataW.trod enc Try.prog W base sp held fuel 23 cs = some x) : ∃ ds, Raw W shDesk ds cs ∧ szd ds := by
  obtain ⟨xs, n, _, _, hlen, hxs, hall⟩ := DataW.trod_struct Try.underlying23 h
  rw [ocellsDesk] at hlen
  obtain ⟨c0, c1, c2, c3, rfl⟩ := ulist4 hlen
  obtain ⟨y0, y1, y2, y3, rfl⟩ := ulist4 (l := xs) (by simpa using hxs)
  have a0 := hall 0 _ rfl
  have a1 := hall 1 _ rfl
  have a2 := hall 2 _ rfl
  have a3 := hall 3 _ rfl
  simp [ocells9] at a0 a1 a2 a3
  obtain ⟨k0, e0, _, s0⟩ := DataW.trod_string Try.underlying9 a0
  simp only [List.cons.injEq, and_true] at e0
  subst e0
  obtain ⟨k1, e1, _, s1⟩ := DataW.trod_string Try.underlying9 a1
  simp only [List.cons.injEq, and_true] at e1
  subst e1
  obtain ⟨k2, e2, _, s2⟩ := DataW.trod_string Try.underlying9 a2
  simp only [List.cons.injEq, and_true] at e2
  subst e2
  obtain ⟨k3, e3, _, s3⟩ := DataW.trod_string Try.underlying9 a3
  simp only [List.cons.injEq, and_true] at e3
  subst e3
  refine ⟨_, segRawDesk_mk k0 k1 k2 k3, ?_⟩
  simp only [szd, and_true]
  exact ⟨s0, s1, s2, s3⟩
end Go.Proofs.Ytjjobbalifjdkaa
