/-
  What reads as a list of texts lies in memory so.
-/
import Derived.ProofKit
import Derived.OpenShut
import Derived.ShutString
import Derived.ChangeOld
import Derived.SliceStrings
import Derived.Deep.Slices
import Derived.Test.YthmaeeakmmblkaaECs
namespace Go.Proofs.Ythmaeeakmmblkaa
open Go.ChangeShapes Go.WideShapes Go.ChangeAt Go.RowKit Go.Deep

theorem ocells9 : Try.prog.cellsOf 9 = 1 := by kernel_rfl
theorem ocells3 : Try.prog.cellsOf 3 = 1 := by kernel_rfl
theorem ocells4 : Try.prog.cellsOf 4 = 1 := by kernel_rfl
theorem ucell_lt {w : World} {a : Addr} {v : Value} (h : w.cell? a = some v) : a.block < w.heap.size := by
  by_cases hb : a.block < w.heap.size
  · exact hb
  · exfalso
    have : w.heap[a.block]? = none := by simp; omega
    simp [World.cell?, this] at h
theorem uadd_none (b off i : Nat) : (Addr.add ⟨b, off, none⟩ i) = ⟨b, off + i, none⟩ := by
  unfold Addr.add; split <;> simp_all
theorem uownL : ownKnob Try.prog.godebug = none := by kernel_rfl
theorem ulaidL : laidOutB Try.prog = true := by kernel_rfl
theorem Try.ounT1 : Try.prog.underlying 22 = some (.slice 9) := by kernel_rfl
theorem ocellsStringS : Try.prog.cellsOf 22 = 1 := by kernel_rfl
theorem openT1 {H : Type} {enc : TypeId × Value → H} {W : World} {base : Nat} {sp : Nat → Bool} {held : Bool} {fuel : Nat} {cs : List Value} {x : DataW H × List MemPlace} (h : DataW.trod enc Try.prog W base sp held fuel 9 cs = some x) : ∃ ds, Raw W [.s] ds cs ∧ szd ds := by
  obtain ⟨a, rfl, _, s0⟩ := DataW.trod_string Try.underlying9 h
  exact ⟨[.s a], .s a .nil, by simp only [szd, and_true]; exact s0⟩
theorem openStringS {H : Type} {enc : TypeId × Value → H} {W : World} {base : Nat} {sp : Nat → Bool} {held : Bool} {fuel : Nat} {v : Value} {x : DataW H × List MemPlace} (h : DataW.trod enc Try.prog W base sp held fuel 22 [v] = some x) : ∃ n es, Raw W [.row 9 [.s]] [.row n es] [v] ∧ szd es := by
  rcases open_slice Try.ounT1 h with ⟨hcs, _⟩ | ⟨a, len, cap, m, n, D, Pl, hcs, _, hl, hm, hmm, _, hc⟩
  · simp only [List.cons.injEq, and_true] at hcs
    subst hcs
    exact ⟨0, [], .emp _ _ none 0 .nil, by simp [szd]⟩
  · simp only [List.cons.injEq, and_true] at hcs
    subst hcs
    rw [ocells9] at hc
    have hle : len ≤ m := by rw [hmm]; split <;> omega
    by_cases h0 : len = 0
    · subst h0; exact ⟨0, [], .emp _ _ (some a) cap .nil, by simp [szd]⟩
    obtain ⟨b, off, spot⟩ := a
    have first : ∀ i, i < m → ∃ ds cs', Raw W [.s] ds cs' ∧ szd ds ∧ ∀ j, j < 1 → W.cell? ((Addr.add ⟨b, off, spot⟩ (i * 1)).add j) = cs'[j]? := by
      intro i hi
      obtain ⟨cs', h1, h2⟩ := hc i hi
      obtain ⟨ds, r, z⟩ := openT1 h2
      exact ⟨ds, cs', r, z, (World.cells?_some h1).2.2⟩
    have hspot : spot = none := by
      obtain ⟨ds, cs', r, _, h1⟩ := first 0 (by omega)
      have hl := r.len
      have := h1 0 (by omega)
      obtain ⟨c, cs2, rfl⟩ : ∃ c cs2, cs' = c :: cs2 := by cases cs' with | nil => simp at hl | cons c cs2 => exact ⟨c, cs2, rfl⟩
      simp [Addr.add] at this
      simpa using World.cell?_spot this
    subst hspot
    obtain ⟨es, vs, r, z, hr⟩ := Raw.of_each (b := b) (off := off) (sh := [.s]) len fun i hi => by
      obtain ⟨ds, cs', r, z, h1⟩ := first i (by omega)
      refine ⟨ds, cs', r, z, fun j v hv => ?_⟩
      have hj : j < 1 := by have := (List.getElem?_eq_some_iff.1 hv).1; have := r.len; simp at this; omega
      have := h1 j hj
      rw [uadd_none, uadd_none, hv] at this
      exact this
    obtain ⟨ds, cs', r0, _, h1⟩ := first 0 (by omega)
    have hb : b < W.heap.size := by
      have hl := r0.len
      have := h1 0 (by omega)
      obtain ⟨c, cs2, rfl⟩ : ∃ c cs2, cs' = c :: cs2 := by cases cs' with | nil => simp at hl | cons c cs2 => exact ⟨c, cs2, rfl⟩
      rw [uadd_none, uadd_none] at this
      exact ucell_lt this
    exact ⟨len, es, .row _ _ b off len cap vs es hb ⟨by omega, by omega⟩ hr r .nil, z⟩
end Go.Proofs.Ythmaeeakmmblkaa
