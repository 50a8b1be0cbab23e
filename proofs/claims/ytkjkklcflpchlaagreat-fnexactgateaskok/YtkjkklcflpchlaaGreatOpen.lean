/-
  What reads as a field lies in memory as the walks ask it.
-/
import Derived.ProofKit
import Derived.OpenShut
import Derived.ShutString
import Derived.ChangeOld
import Derived.SliceStrings
import Derived.Test.YtkjkklcflpchlaaGreatWalkK
namespace Go.Proofs.YtkjkklcflpchlaaGreat
open Go.ChangeShapes Go.WideShapes Go.ChangeAt Go.RowKit

theorem cells9 : Tryz.prog.cellsOf 9 = 1 := by kernel_rfl
theorem cells3 : Tryz.prog.cellsOf 3 = 1 := by kernel_rfl
theorem cells4 : Tryz.prog.cellsOf 4 = 1 := by kernel_rfl
theorem cells22 : Tryz.prog.cellsOf 27 = 1 := by kernel_rfl
theorem cells24 : Tryz.prog.cellsOf 158 = 11 := by kernel_rfl

theorem list11 {α : Type} {l : List α} (h : l.length = 11) : ∃ c0 c1 c2 c3 c4 c5 c6 c7 c8 c9 c10, l = [c0, c1, c2, c3, c4, c5, c6, c7, c8, c9, c10] := by
  match l, h with
  | [c0, c1, c2, c3, c4, c5, c6, c7, c8, c9, c10], _ => exact ⟨c0, c1, c2, c3, c4, c5, c6, c7, c8, c9, c10, rfl⟩

theorem cell_lt {w : World} {a : Addr} {v : Value} (h : w.cell? a = some v) : a.block < w.heap.size := by
  by_cases hb : a.block < w.heap.size
  · exact hb
  · exfalso
    have : w.heap[a.block]? = none := by simp; omega
    simp [World.cell?, this] at h

section
variable {H : Type} {enc : TypeId × Value → H} {W : World} {base : Nat} {sp : Nat → Bool} {held : Bool}

theorem open_texts {fuel : Nat} {v : Value} {x : DataW H × List MemPlace} (h : DataW.trod enc Tryz.prog W base sp held fuel 27 [v] = some x) : ∃ ss, Texts W v ss := by
  rcases open_strings Tryz.underlying27 Tryz.underlying9 cells9 h with ⟨hcs, _⟩ | ⟨a, len, cap, ss, hcs, _, hl, hm, hz, _, hc, hs⟩
  · simp only [List.cons.injEq, and_true] at hcs
    exact ⟨[], Or.inl ⟨none, 0, hcs, rfl⟩⟩
  · simp only [List.cons.injEq, and_true] at hcs
    have hle : len ≤ ss.length := by rw [hz]; split <;> omega
    by_cases h0 : len = 0
    · subst h0; exact ⟨[], Or.inl ⟨some a, cap, hcs, rfl⟩⟩
    · obtain ⟨b, off, spot⟩ := a
      have hc0 := hc 0 (by omega)
      have hspot : spot = none := by simpa [Addr.add] using World.cell?_spot hc0
      subst hspot
      have hlen : (ss.take len).length = len := by simp; omega
      refine ⟨ss.take len, Or.inr ⟨b, off, cap, by rw [hlen]; exact hcs, cell_lt hc0, fun i hi => ?_, by rw [hlen]; omega, fun i hi => ?_⟩⟩
      · rw [hlen] at hi
        have hi' : i < ss.length := by omega
        have e : (ss.take len).getD i ByteArray.empty = ss[i] := by simp [hi, hi']
        rw [e]
        exact hs _ (List.getElem_mem hi')
      · rw [hlen] at hi
        have e : (ss.take len).getD i ByteArray.empty = ss.getD i ByteArray.empty := by simp [hi]
        rw [e]
        have := hc i (by omega)
        by_cases hi0 : i = 0
        · subst hi0; simpa [Addr.add] using this
        · simpa [Addr.add, hi0] using this

theorem open_field {fuel : Nat} {cs : List Value} {x : DataW H × List MemPlace} (h : DataW.trod enc Tryz.prog W base sp held fuel 158 cs = some x) :
    ∃ (nm : ByteArray) (kind least most : Int) (vs : Value) (to : ByteArray) (role : Int) (must fixed : Bool) (de we : ByteArray) (ss : List ByteArray),
      cs = [.string nm, .int .i64 kind, .int .i64 least, .int .i64 most, vs, .string to, .int .i64 role, .bool must, .bool fixed, .string de, .string we] ∧
      nm.size ≤ maxLen ∧ to.size ≤ maxLen ∧ de.size ≤ maxLen ∧ we.size ≤ maxLen ∧ Texts W vs ss := by
  obtain ⟨xs, n, _, _, hlen, hxs, hall⟩ := DataW.trod_struct Tryz.underlying158 h
  rw [cells24] at hlen
  obtain ⟨c0, c1, c2, c3, c4, c5, c6, c7, c8, c9, c10, rfl⟩ := list11 hlen
  obtain ⟨y0, y1, y2, y3, y4, y5, y6, y7, y8, y9, y10, rfl⟩ := list11 (l := xs) (by simpa using hxs)
  have a0 := hall 0 _ rfl
  have a1 := hall 1 _ rfl
  have a2 := hall 2 _ rfl
  have a3 := hall 3 _ rfl
  have a4 := hall 4 _ rfl
  have a5 := hall 5 _ rfl
  have a6 := hall 6 _ rfl
  have a7 := hall 7 _ rfl
  have a8 := hall 8 _ rfl
  have a9 := hall 9 _ rfl
  have a10 := hall 10 _ rfl
  simp [cells9, cells3, cells4, cells22] at a0 a1 a2 a3 a4 a5 a6 a7 a8 a9 a10
  obtain ⟨nm, e0, _, s0⟩ := DataW.trod_string Tryz.underlying9 a0
  obtain ⟨kind, e1, _, _⟩ := DataW.trod_int Tryz.underlying3 a1
  obtain ⟨least, e2, _, _⟩ := DataW.trod_int Tryz.underlying3 a2
  obtain ⟨most, e3, _, _⟩ := DataW.trod_int Tryz.underlying3 a3
  obtain ⟨ss, t4⟩ := open_texts a4
  obtain ⟨to, e5, _, s5⟩ := DataW.trod_string Tryz.underlying9 a5
  obtain ⟨role, e6, _, _⟩ := DataW.trod_int Tryz.underlying3 a6
  obtain ⟨must, e7, _⟩ := DataW.trod_bool Tryz.underlying4 a7
  obtain ⟨fixed, e8, _⟩ := DataW.trod_bool Tryz.underlying4 a8
  obtain ⟨de, e9, _, s9⟩ := DataW.trod_string Tryz.underlying9 a9
  obtain ⟨we, e10, _, s10⟩ := DataW.trod_string Tryz.underlying9 a10
  simp only [List.cons.injEq, and_true] at e0 e1 e2 e3 e5 e6 e7 e8 e9 e10
  subst e0 e1 e2 e3 e5 e6 e7 e8 e9 e10
  exact ⟨nm, kind, least, most, c4, to, role, must, fixed, de, we, ss, rfl, s0, s5, s9, s10, t4⟩
end
end Go.Proofs.YtkjkklcflpchlaaGreat
