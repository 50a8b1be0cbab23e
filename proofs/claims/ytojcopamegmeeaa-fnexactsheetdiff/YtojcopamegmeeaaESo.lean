/-
  What reads as a sheet lies in memory so.
-/
import Derived.ProofKit
import Derived.OpenShut
import Derived.ShutString
import Derived.ChangeOld
import Derived.SliceStrings
import Derived.Deep.Slices
import Derived.Test.YtojcopamegmeeaaESs
namespace Go.Proofs.Ytojcopamegmeeaa
open Go.ChangeShapes Go.WideShapes Go.ChangeAt Go.RowKit Go.Deep

theorem ocells9 : Try.prog.cellsOf 9 = 1 := by kernel_rfl
theorem ocells3 : Try.prog.cellsOf 3 = 1 := by kernel_rfl
theorem ocells4 : Try.prog.cellsOf 4 = 1 := by kernel_rfl
theorem ucell_lt {w : World} {a : Addr} {v : Value} (h : w.cell? a = some v) : a.block < w.heap.size := by
  by_cases hb : a.block < w.heap.size
  · exact hb
  · exfalso
    have : w.heap[a.block]? = none := by simp; omega
    simp [World.cell?, this] at h
theorem uadd_none (b off i : Nat) : (Addr.add ⟨b, off, none⟩ i) = ⟨b, off + i, none⟩ := by
  unfold Addr.add; split <;> simp_all
theorem uownL : ownKnob Try.prog.godebug = none := by kernel_rfl
theorem ulaidL : laidOutB Try.prog = true := by kernel_rfl
theorem ulist1 {α : Type} {l : List α} (h : l.length = 1) : ∃ c0, l = [c0] := by
  match l, h with
  | [c0], _ => exact ⟨c0, rfl⟩
theorem ulist2 {α : Type} {l : List α} (h : l.length = 2) : ∃ c0 c1, l = [c0, c1] := by
  match l, h with
  | [c0, c1], _ => exact ⟨c0, c1, rfl⟩
theorem ulist3 {α : Type} {l : List α} (h : l.length = 3) : ∃ c0 c1 c2, l = [c0, c1, c2] := by
  match l, h with
  | [c0, c1, c2], _ => exact ⟨c0, c1, c2, rfl⟩
theorem Try.ounT1 : Try.prog.underlying 67 = some (.slice 9) := by kernel_rfl
theorem ocellsStringS : Try.prog.cellsOf 67 = 1 := by kernel_rfl
theorem openT1 {H : Type} {enc : TypeId × Value → H} {W : World} {base : Nat} {sp : Nat → Bool} {held : Bool} {fuel : Nat} {cs : List Value} {x : DataW H × List MemPlace} (h : DataW.trod enc Try.prog W base sp held fuel 9 cs = some x) : ∃ ds, Raw W [.s] ds cs ∧ szd ds := by
  obtain ⟨a, rfl, _, s0⟩ := DataW.trod_string Try.underlying9 h
  exact ⟨[.s a], .s a .nil, by simp only [szd, and_true]; exact s0⟩
theorem openStringS {H : Type} {enc : TypeId × Value → H} {W : World} {base : Nat} {sp : Nat → Bool} {held : Bool} {fuel : Nat} {v : Value} {x : DataW H × List MemPlace} (h : DataW.trod enc Try.prog W base sp held fuel 67 [v] = some x) : ∃ n es, Raw W [.row 9 [.s]] [.row n es] [v] ∧ szd es := by
  rcases open_slice Try.ounT1 h with ⟨hcs, _⟩ | ⟨a, len, cap, m, n, D, Pl, hcs, _, hl, hm, hmm, _, hc⟩
  · simp only [List.cons.injEq, and_true] at hcs
    subst hcs
    exact ⟨0, [], .emp _ _ none 0 .nil, by simp [szd]⟩
  · simp only [List.cons.injEq, and_true] at hcs
    subst hcs
    rw [ocells9] at hc
    have hle : len ≤ m := by rw [hmm]; split <;> omega
    by_cases h0 : len = 0
    · subst h0; exact ⟨0, [], .emp _ _ (some a) cap .nil, by simp [szd]⟩
    obtain ⟨b, off, spot⟩ := a
    have first : ∀ i, i < m → ∃ ds cs', Raw W [.s] ds cs' ∧ szd ds ∧ ∀ j, j < 1 → W.cell? ((Addr.add ⟨b, off, spot⟩ (i * 1)).add j) = cs'[j]? := by
      intro i hi
      obtain ⟨cs', h1, h2⟩ := hc i hi
      obtain ⟨ds, r, z⟩ := openT1 h2
      exact ⟨ds, cs', r, z, (World.cells?_some h1).2.2⟩
    have hspot : spot = none := by
      obtain ⟨ds, cs', r, _, h1⟩ := first 0 (by omega)
      have hl := r.len
      have := h1 0 (by omega)
      obtain ⟨c, cs2, rfl⟩ : ∃ c cs2, cs' = c :: cs2 := by cases cs' with | nil => simp at hl | cons c cs2 => exact ⟨c, cs2, rfl⟩
      simp [Addr.add] at this
      simpa using World.cell?_spot this
    subst hspot
    obtain ⟨es, vs, r, z, hr⟩ := Raw.of_each (b := b) (off := off) (sh := [.s]) len fun i hi => by
      obtain ⟨ds, cs', r, z, h1⟩ := first i (by omega)
      refine ⟨ds, cs', r, z, fun j v hv => ?_⟩
      have hj : j < 1 := by have := (List.getElem?_eq_some_iff.1 hv).1; have := r.len; simp at this; omega
      have := h1 j hj
      rw [uadd_none, uadd_none, hv] at this
      exact this
    obtain ⟨ds, cs', r0, _, h1⟩ := first 0 (by omega)
    have hb : b < W.heap.size := by
      have hl := r0.len
      have := h1 0 (by omega)
      obtain ⟨c, cs2, rfl⟩ : ∃ c cs2, cs' = c :: cs2 := by cases cs' with | nil => simp at hl | cons c cs2 => exact ⟨c, cs2, rfl⟩
      rw [uadd_none, uadd_none] at this
      exact ucell_lt this
    exact ⟨len, es, .row _ _ b off len cap vs es hb ⟨by omega, by omega⟩ hr r .nil, z⟩
theorem Try.ounSheetLine : Try.prog.underlying 59 = some (.slice 123) := by kernel_rfl
theorem ocellsSheetLine : Try.prog.cellsOf 123 = 2 := by kernel_rfl
theorem ocellsSheetLineS : Try.prog.cellsOf 59 = 1 := by kernel_rfl
theorem openSheetLine {H : Type} {enc : TypeId × Value → H} {W : World} {base : Nat} {sp : Nat → Bool} {held : Bool} {fuel : Nat} {cs : List Value} {x : DataW H × List MemPlace} (h : DataW.trod enc Try.prog W base sp held fuel 123 cs = some x) : ∃ ds, Raw W shSheetLine ds cs ∧ szd ds := by
  obtain ⟨xs, n, _, _, hlen, hxs, hall⟩ := DataW.trod_struct Try.underlying123 h
  rw [ocellsSheetLine] at hlen
  obtain ⟨c0, c1, rfl⟩ := ulist2 hlen
  obtain ⟨y0, y1, rfl⟩ := ulist2 (l := xs) (by simpa using hxs)
  have a0 := hall 0 _ rfl
  have a1 := hall 1 _ rfl
  simp [ocells9, ocellsStringS] at a0 a1
  obtain ⟨k0, e0, _, s0⟩ := DataW.trod_string Try.underlying9 a0
  simp only [List.cons.injEq, and_true] at e0
  subst e0
  obtain ⟨n1, d1, r1, z1⟩ := openStringS a1
  refine ⟨_, segRawSheetLine_mk k0 r1, ?_⟩
  simp only [szd, and_true]
  exact ⟨s0, z1⟩
theorem openSheetLineS {H : Type} {enc : TypeId × Value → H} {W : World} {base : Nat} {sp : Nat → Bool} {held : Bool} {fuel : Nat} {v : Value} {x : DataW H × List MemPlace} (h : DataW.trod enc Try.prog W base sp held fuel 59 [v] = some x) : ∃ n es, Raw W [.row 69 shSheetLine] [.row n es] [v] ∧ szd es := by
  rcases open_slice Try.ounSheetLine h with ⟨hcs, _⟩ | ⟨a, len, cap, m, n, D, Pl, hcs, _, hl, hm, hmm, _, hc⟩
  · simp only [List.cons.injEq, and_true] at hcs
    subst hcs
    exact ⟨0, [], .emp _ _ none 0 .nil, by simp [szd]⟩
  · simp only [List.cons.injEq, and_true] at hcs
    subst hcs
    rw [ocellsSheetLine] at hc
    have hle : len ≤ m := by rw [hmm]; split <;> omega
    by_cases h0 : len = 0
    · subst h0; exact ⟨0, [], .emp _ _ (some a) cap .nil, by simp [szd]⟩
    obtain ⟨b, off, spot⟩ := a
    have first : ∀ i, i < m → ∃ ds cs', Raw W shSheetLine ds cs' ∧ szd ds ∧ ∀ j, j < 2 → W.cell? ((Addr.add ⟨b, off, spot⟩ (i * 2)).add j) = cs'[j]? := by
      intro i hi
      obtain ⟨cs', h1, h2⟩ := hc i hi
      obtain ⟨ds, r, z⟩ := openSheetLine h2
      exact ⟨ds, cs', r, z, (World.cells?_some h1).2.2⟩
    have hspot : spot = none := by
      obtain ⟨ds, cs', r, _, h1⟩ := first 0 (by omega)
      have hl := r.len
      have := h1 0 (by omega)
      obtain ⟨c, cs2, rfl⟩ : ∃ c cs2, cs' = c :: cs2 := by cases cs' with | nil => simp at hl | cons c cs2 => exact ⟨c, cs2, rfl⟩
      simp [Addr.add] at this
      simpa using World.cell?_spot this
    subst hspot
    obtain ⟨es, vs, r, z, hr⟩ := Raw.of_each (b := b) (off := off) (sh := shSheetLine) len fun i hi => by
      obtain ⟨ds, cs', r, z, h1⟩ := first i (by omega)
      refine ⟨ds, cs', r, z, fun j v hv => ?_⟩
      have hj : j < 2 := by have := (List.getElem?_eq_some_iff.1 hv).1; have := r.len; simp at this; omega
      have := h1 j hj
      rw [uadd_none, uadd_none, hv] at this
      exact this
    obtain ⟨ds, cs', r0, _, h1⟩ := first 0 (by omega)
    have hb : b < W.heap.size := by
      have hl := r0.len
      have := h1 0 (by omega)
      obtain ⟨c, cs2, rfl⟩ : ∃ c cs2, cs' = c :: cs2 := by cases cs' with | nil => simp at hl | cons c cs2 => exact ⟨c, cs2, rfl⟩
      rw [uadd_none, uadd_none] at this
      exact ucell_lt this
    exact ⟨len, es, .row _ _ b off len cap vs es hb ⟨by omega, by omega⟩ hr r .nil, z⟩
theorem Try.ounSheetBlock : Try.prog.underlying 22 = some (.slice 61) := by kernel_rfl
theorem ocellsSheetBlock : Try.prog.cellsOf 61 = 3 := by kernel_rfl
theorem ocellsSheetBlockS : Try.prog.cellsOf 22 = 1 := by kernel_rfl
theorem openSheetBlock {H : Type} {enc : TypeId × Value → H} {W : World} {base : Nat} {sp : Nat → Bool} {held : Bool} {fuel : Nat} {cs : List Value} {x : DataW H × List MemPlace} (h : DataW.trod enc Try.prog W base sp held fuel 61 cs = some x) : ∃ ds, Raw W shSheetBlock ds cs ∧ szd ds := by
  obtain ⟨xs, n, _, _, hlen, hxs, hall⟩ := DataW.trod_struct Try.underlying61 h
  rw [ocellsSheetBlock] at hlen
  obtain ⟨c0, c1, c2, rfl⟩ := ulist3 hlen
  obtain ⟨y0, y1, y2, rfl⟩ := ulist3 (l := xs) (by simpa using hxs)
  have a0 := hall 0 _ rfl
  have a1 := hall 1 _ rfl
  have a2 := hall 2 _ rfl
  simp [ocells9, ocellsSheetLineS] at a0 a1 a2
  obtain ⟨k0, e0, _, s0⟩ := DataW.trod_string Try.underlying9 a0
  simp only [List.cons.injEq, and_true] at e0
  subst e0
  obtain ⟨k1, e1, _, s1⟩ := DataW.trod_string Try.underlying9 a1
  simp only [List.cons.injEq, and_true] at e1
  subst e1
  obtain ⟨n2, d2, r2, z2⟩ := openSheetLineS a2
  refine ⟨_, segRawSheetBlock_mk k0 k1 r2, ?_⟩
  simp only [szd, and_true]
  exact ⟨s0, s1, z2⟩
theorem openSheetBlockS {H : Type} {enc : TypeId × Value → H} {W : World} {base : Nat} {sp : Nat → Bool} {held : Bool} {fuel : Nat} {v : Value} {x : DataW H × List MemPlace} (h : DataW.trod enc Try.prog W base sp held fuel 22 [v] = some x) : ∃ n es, Raw W [.row 42 shSheetBlock] [.row n es] [v] ∧ szd es := by
  rcases open_slice Try.ounSheetBlock h with ⟨hcs, _⟩ | ⟨a, len, cap, m, n, D, Pl, hcs, _, hl, hm, hmm, _, hc⟩
  · simp only [List.cons.injEq, and_true] at hcs
    subst hcs
    exact ⟨0, [], .emp _ _ none 0 .nil, by simp [szd]⟩
  · simp only [List.cons.injEq, and_true] at hcs
    subst hcs
    rw [ocellsSheetBlock] at hc
    have hle : len ≤ m := by rw [hmm]; split <;> omega
    by_cases h0 : len = 0
    · subst h0; exact ⟨0, [], .emp _ _ (some a) cap .nil, by simp [szd]⟩
    obtain ⟨b, off, spot⟩ := a
    have first : ∀ i, i < m → ∃ ds cs', Raw W shSheetBlock ds cs' ∧ szd ds ∧ ∀ j, j < 3 → W.cell? ((Addr.add ⟨b, off, spot⟩ (i * 3)).add j) = cs'[j]? := by
      intro i hi
      obtain ⟨cs', h1, h2⟩ := hc i hi
      obtain ⟨ds, r, z⟩ := openSheetBlock h2
      exact ⟨ds, cs', r, z, (World.cells?_some h1).2.2⟩
    have hspot : spot = none := by
      obtain ⟨ds, cs', r, _, h1⟩ := first 0 (by omega)
      have hl := r.len
      have := h1 0 (by omega)
      obtain ⟨c, cs2, rfl⟩ : ∃ c cs2, cs' = c :: cs2 := by cases cs' with | nil => simp at hl | cons c cs2 => exact ⟨c, cs2, rfl⟩
      simp [Addr.add] at this
      simpa using World.cell?_spot this
    subst hspot
    obtain ⟨es, vs, r, z, hr⟩ := Raw.of_each (b := b) (off := off) (sh := shSheetBlock) len fun i hi => by
      obtain ⟨ds, cs', r, z, h1⟩ := first i (by omega)
      refine ⟨ds, cs', r, z, fun j v hv => ?_⟩
      have hj : j < 3 := by have := (List.getElem?_eq_some_iff.1 hv).1; have := r.len; simp at this; omega
      have := h1 j hj
      rw [uadd_none, uadd_none, hv] at this
      exact this
    obtain ⟨ds, cs', r0, _, h1⟩ := first 0 (by omega)
    have hb : b < W.heap.size := by
      have hl := r0.len
      have := h1 0 (by omega)
      obtain ⟨c, cs2, rfl⟩ : ∃ c cs2, cs' = c :: cs2 := by cases cs' with | nil => simp at hl | cons c cs2 => exact ⟨c, cs2, rfl⟩
      rw [uadd_none, uadd_none] at this
      exact ucell_lt this
    exact ⟨len, es, .row _ _ b off len cap vs es hb ⟨by omega, by omega⟩ hr r .nil, z⟩
theorem ocellsSheet : Try.prog.cellsOf 24 = 1 := by kernel_rfl
theorem openSheet {H : Type} {enc : TypeId × Value → H} {W : World} {base : Nat} {sp : Nat → Bool} {held : Bool} {fuel : Nat} {cs : List Value} {x : DataW H × List MemPlace} (h : DataW.trod enc Try.prog W base sp held fuel 24 cs = some x) : ∃ ds, Raw W shSheet ds cs ∧ szd ds := by
  obtain ⟨xs, n, _, _, hlen, hxs, hall⟩ := DataW.trod_struct Try.underlying24 h
  rw [ocellsSheet] at hlen
  obtain ⟨c0, rfl⟩ := ulist1 hlen
  obtain ⟨y0, rfl⟩ := ulist1 (l := xs) (by simpa using hxs)
  have a0 := hall 0 _ rfl
  simp [ocellsSheetBlockS] at a0
  obtain ⟨n0, d0, r0, z0⟩ := openSheetBlockS a0
  refine ⟨_, segRawSheet_mk r0, ?_⟩
  simp only [szd, and_true]
  exact z0
end Go.Proofs.Ytojcopamegmeeaa
