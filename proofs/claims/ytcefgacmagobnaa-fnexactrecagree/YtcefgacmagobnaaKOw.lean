/-
  What reads as a world lies in memory so.
-/
import Derived.ProofKit
import Derived.OpenShut
import Derived.ShutString
import Derived.ChangeOld
import Derived.SliceStrings
import Derived.Deep.Slices
import Derived.Test.YtcefgacmagobnaaKSh
import Derived.Test.YtcefgacmagobnaaKShw
namespace Go.Proofs.Ytcefgacmagobnaa
open Go.ChangeShapes Go.WideShapes Go.ChangeAt Go.RowKit Go.Deep

theorem ocells9 : Try.prog.cellsOf 9 = 1 := by kernel_rfl
theorem ocells3 : Try.prog.cellsOf 3 = 1 := by kernel_rfl
theorem ocells4 : Try.prog.cellsOf 4 = 1 := by kernel_rfl
theorem ucell_lt {w : World} {a : Addr} {v : Value} (h : w.cell? a = some v) : a.block < w.heap.size := by
  by_cases hb : a.block < w.heap.size
  · exact hb
  · exfalso
    have : w.heap[a.block]? = none := by simp; omega
    simp [World.cell?, this] at h
theorem uadd_none (b off i : Nat) : (Addr.add ⟨b, off, none⟩ i) = ⟨b, off + i, none⟩ := by
  unfold Addr.add; split <;> simp_all
theorem uownL : ownKnob Try.prog.godebug = none := by kernel_rfl
theorem ulaidL : laidOutB Try.prog = true := by kernel_rfl
theorem ulist2 {α : Type} {l : List α} (h : l.length = 2) : ∃ c0 c1, l = [c0, c1] := by
  match l, h with
  | [c0, c1], _ => exact ⟨c0, c1, rfl⟩
theorem ulist3 {α : Type} {l : List α} (h : l.length = 3) : ∃ c0 c1 c2, l = [c0, c1, c2] := by
  match l, h with
  | [c0, c1, c2], _ => exact ⟨c0, c1, c2, rfl⟩
theorem ulist8 {α : Type} {l : List α} (h : l.length = 8) : ∃ c0 c1 c2 c3 c4 c5 c6 c7, l = [c0, c1, c2, c3, c4, c5, c6, c7] := by
  match l, h with
  | [c0, c1, c2, c3, c4, c5, c6, c7], _ => exact ⟨c0, c1, c2, c3, c4, c5, c6, c7, rfl⟩
theorem ulist14 {α : Type} {l : List α} (h : l.length = 14) : ∃ c0 c1 c2 c3 c4 c5 c6 c7 c8 c9 c10 c11 c12 c13, l = [c0, c1, c2, c3, c4, c5, c6, c7, c8, c9, c10, c11, c12, c13] := by
  match l, h with
  | [c0, c1, c2, c3, c4, c5, c6, c7, c8, c9, c10, c11, c12, c13], _ => exact ⟨c0, c1, c2, c3, c4, c5, c6, c7, c8, c9, c10, c11, c12, c13, rfl⟩
theorem ulist18 {α : Type} {l : List α} (h : l.length = 18) : ∃ c0 c1 c2 c3 c4 c5 c6 c7 c8 c9 c10 c11 c12 c13 c14 c15 c16 c17, l = [c0, c1, c2, c3, c4, c5, c6, c7, c8, c9, c10, c11, c12, c13, c14, c15, c16, c17] := by
  match l, h with
  | [c0, c1, c2, c3, c4, c5, c6, c7, c8, c9, c10, c11, c12, c13, c14, c15, c16, c17], _ => exact ⟨c0, c1, c2, c3, c4, c5, c6, c7, c8, c9, c10, c11, c12, c13, c14, c15, c16, c17, rfl⟩
theorem Try.ounN1 : Try.prog.underlying 49 = some (.slice 3) := by kernel_rfl
theorem ocellsIntS : Try.prog.cellsOf 49 = 1 := by kernel_rfl
theorem openN1 {H : Type} {enc : TypeId × Value → H} {W : World} {base : Nat} {sp : Nat → Bool} {held : Bool} {fuel : Nat} {cs : List Value} {x : DataW H × List MemPlace} (h : DataW.trod enc Try.prog W base sp held fuel 3 cs = some x) : ∃ ds, Raw W [.i] ds cs ∧ szd ds := by
  obtain ⟨a, rfl, _, s0⟩ := DataW.trod_int Try.underlying3 h
  exact ⟨[.i a], .i a .nil, by simp [szd]⟩
theorem openIntS {H : Type} {enc : TypeId × Value → H} {W : World} {base : Nat} {sp : Nat → Bool} {held : Bool} {fuel : Nat} {v : Value} {x : DataW H × List MemPlace} (h : DataW.trod enc Try.prog W base sp held fuel 49 [v] = some x) : ∃ n es, Raw W [.row 3 [.i]] [.row n es] [v] ∧ szd es := by
  rcases open_slice Try.ounN1 h with ⟨hcs, _⟩ | ⟨a, len, cap, m, n, D, Pl, hcs, _, hl, hm, hmm, _, hc⟩
  · simp only [List.cons.injEq, and_true] at hcs
    subst hcs
    exact ⟨0, [], .emp _ _ none 0 .nil, by simp [szd]⟩
  · simp only [List.cons.injEq, and_true] at hcs
    subst hcs
    rw [ocells3] at hc
    have hle : len ≤ m := by rw [hmm]; split <;> omega
    by_cases h0 : len = 0
    · subst h0; exact ⟨0, [], .emp _ _ (some a) cap .nil, by simp [szd]⟩
    obtain ⟨b, off, spot⟩ := a
    have first : ∀ i, i < m → ∃ ds cs', Raw W [.i] ds cs' ∧ szd ds ∧ ∀ j, j < 1 → W.cell? ((Addr.add ⟨b, off, spot⟩ (i * 1)).add j) = cs'[j]? := by
      intro i hi
      obtain ⟨cs', h1, h2⟩ := hc i hi
      obtain ⟨ds, r, z⟩ := openN1 h2
      exact ⟨ds, cs', r, z, (World.cells?_some h1).2.2⟩
    have hspot : spot = none := by
      obtain ⟨ds, cs', r, _, h1⟩ := first 0 (by omega)
      have hl := r.len
      have := h1 0 (by omega)
      obtain ⟨c, cs2, rfl⟩ : ∃ c cs2, cs' = c :: cs2 := by cases cs' with | nil => simp at hl | cons c cs2 => exact ⟨c, cs2, rfl⟩
      simp [Addr.add] at this
      simpa using World.cell?_spot this
    subst hspot
    obtain ⟨es, vs, r, z, hr⟩ := Raw.of_each (b := b) (off := off) (sh := [.i]) len fun i hi => by
      obtain ⟨ds, cs', r, z, h1⟩ := first i (by omega)
      refine ⟨ds, cs', r, z, fun j v hv => ?_⟩
      have hj : j < 1 := by have := (List.getElem?_eq_some_iff.1 hv).1; have := r.len; simp at this; omega
      have := h1 j hj
      rw [uadd_none, uadd_none, hv] at this
      exact this
    obtain ⟨ds, cs', r0, _, h1⟩ := first 0 (by omega)
    have hb : b < W.heap.size := by
      have hl := r0.len
      have := h1 0 (by omega)
      obtain ⟨c, cs2, rfl⟩ : ∃ c cs2, cs' = c :: cs2 := by cases cs' with | nil => simp at hl | cons c cs2 => exact ⟨c, cs2, rfl⟩
      rw [uadd_none, uadd_none] at this
      exact ucell_lt this
    exact ⟨len, es, .row _ _ b off len cap vs es hb ⟨by omega, by omega⟩ hr r .nil, z⟩
theorem Try.ounT1 : Try.prog.underlying 48 = some (.slice 9) := by kernel_rfl
theorem ocellsStringS : Try.prog.cellsOf 48 = 1 := by kernel_rfl
theorem openT1 {H : Type} {enc : TypeId × Value → H} {W : World} {base : Nat} {sp : Nat → Bool} {held : Bool} {fuel : Nat} {cs : List Value} {x : DataW H × List MemPlace} (h : DataW.trod enc Try.prog W base sp held fuel 9 cs = some x) : ∃ ds, Raw W [.s] ds cs ∧ szd ds := by
  obtain ⟨a, rfl, _, s0⟩ := DataW.trod_string Try.underlying9 h
  exact ⟨[.s a], .s a .nil, by simp only [szd, and_true]; exact s0⟩
theorem openStringS {H : Type} {enc : TypeId × Value → H} {W : World} {base : Nat} {sp : Nat → Bool} {held : Bool} {fuel : Nat} {v : Value} {x : DataW H × List MemPlace} (h : DataW.trod enc Try.prog W base sp held fuel 48 [v] = some x) : ∃ n es, Raw W [.row 9 [.s]] [.row n es] [v] ∧ szd es := by
  rcases open_slice Try.ounT1 h with ⟨hcs, _⟩ | ⟨a, len, cap, m, n, D, Pl, hcs, _, hl, hm, hmm, _, hc⟩
  · simp only [List.cons.injEq, and_true] at hcs
    subst hcs
    exact ⟨0, [], .emp _ _ none 0 .nil, by simp [szd]⟩
  · simp only [List.cons.injEq, and_true] at hcs
    subst hcs
    rw [ocells9] at hc
    have hle : len ≤ m := by rw [hmm]; split <;> omega
    by_cases h0 : len = 0
    · subst h0; exact ⟨0, [], .emp _ _ (some a) cap .nil, by simp [szd]⟩
    obtain ⟨b, off, spot⟩ := a
    have first : ∀ i, i < m → ∃ ds cs', Raw W [.s] ds cs' ∧ szd ds ∧ ∀ j, j < 1 → W.cell? ((Addr.add ⟨b, off, spot⟩ (i * 1)).add j) = cs'[j]? := by
      intro i hi
      obtain ⟨cs', h1, h2⟩ := hc i hi
      obtain ⟨ds, r, z⟩ := openT1 h2
      exact ⟨ds, cs', r, z, (World.cells?_some h1).2.2⟩
    have hspot : spot = none := by
      obtain ⟨ds, cs', r, _, h1⟩ := first 0 (by omega)
      have hl := r.len
      have := h1 0 (by omega)
      obtain ⟨c, cs2, rfl⟩ : ∃ c cs2, cs' = c :: cs2 := by cases cs' with | nil => simp at hl | cons c cs2 => exact ⟨c, cs2, rfl⟩
      simp [Addr.add] at this
      simpa using World.cell?_spot this
    subst hspot
    obtain ⟨es, vs, r, z, hr⟩ := Raw.of_each (b := b) (off := off) (sh := [.s]) len fun i hi => by
      obtain ⟨ds, cs', r, z, h1⟩ := first i (by omega)
      refine ⟨ds, cs', r, z, fun j v hv => ?_⟩
      have hj : j < 1 := by have := (List.getElem?_eq_some_iff.1 hv).1; have := r.len; simp at this; omega
      have := h1 j hj
      rw [uadd_none, uadd_none, hv] at this
      exact this
    obtain ⟨ds, cs', r0, _, h1⟩ := first 0 (by omega)
    have hb : b < W.heap.size := by
      have hl := r0.len
      have := h1 0 (by omega)
      obtain ⟨c, cs2, rfl⟩ : ∃ c cs2, cs' = c :: cs2 := by cases cs' with | nil => simp at hl | cons c cs2 => exact ⟨c, cs2, rfl⟩
      rw [uadd_none, uadd_none] at this
      exact ucell_lt this
    exact ⟨len, es, .row _ _ b off len cap vs es hb ⟨by omega, by omega⟩ hr r .nil, z⟩
theorem Try.ounRecSlot : Try.prog.underlying 78 = some (.slice 145) := by kernel_rfl
theorem ocellsRecSlot : Try.prog.cellsOf 145 = 2 := by kernel_rfl
theorem ocellsRecSlotS : Try.prog.cellsOf 78 = 1 := by kernel_rfl
theorem openRecSlot {H : Type} {enc : TypeId × Value → H} {W : World} {base : Nat} {sp : Nat → Bool} {held : Bool} {fuel : Nat} {cs : List Value} {x : DataW H × List MemPlace} (h : DataW.trod enc Try.prog W base sp held fuel 145 cs = some x) : ∃ ds, Raw W shRecSlot ds cs ∧ szd ds := by
  obtain ⟨xs, n, _, _, hlen, hxs, hall⟩ := DataW.trod_struct Try.underlying145 h
  rw [ocellsRecSlot] at hlen
  obtain ⟨c0, c1, rfl⟩ := ulist2 hlen
  obtain ⟨y0, y1, rfl⟩ := ulist2 (l := xs) (by simpa using hxs)
  have a0 := hall 0 _ rfl
  have a1 := hall 1 _ rfl
  simp [ocells3, ocells9] at a0 a1
  obtain ⟨k0, e0, _, s0⟩ := DataW.trod_int Try.underlying3 a0
  simp only [List.cons.injEq, and_true] at e0
  subst e0
  obtain ⟨k1, e1, _, s1⟩ := DataW.trod_string Try.underlying9 a1
  simp only [List.cons.injEq, and_true] at e1
  subst e1
  refine ⟨_, segRawRecSlot_mk k0 k1, ?_⟩
  simp only [szd, and_true]
  exact s1
theorem openRecSlotS {H : Type} {enc : TypeId × Value → H} {W : World} {base : Nat} {sp : Nat → Bool} {held : Bool} {fuel : Nat} {v : Value} {x : DataW H × List MemPlace} (h : DataW.trod enc Try.prog W base sp held fuel 78 [v] = some x) : ∃ n es, Raw W [.row 110 shRecSlot] [.row n es] [v] ∧ szd es := by
  rcases open_slice Try.ounRecSlot h with ⟨hcs, _⟩ | ⟨a, len, cap, m, n, D, Pl, hcs, _, hl, hm, hmm, _, hc⟩
  · simp only [List.cons.injEq, and_true] at hcs
    subst hcs
    exact ⟨0, [], .emp _ _ none 0 .nil, by simp [szd]⟩
  · simp only [List.cons.injEq, and_true] at hcs
    subst hcs
    rw [ocellsRecSlot] at hc
    have hle : len ≤ m := by rw [hmm]; split <;> omega
    by_cases h0 : len = 0
    · subst h0; exact ⟨0, [], .emp _ _ (some a) cap .nil, by simp [szd]⟩
    obtain ⟨b, off, spot⟩ := a
    have first : ∀ i, i < m → ∃ ds cs', Raw W shRecSlot ds cs' ∧ szd ds ∧ ∀ j, j < 2 → W.cell? ((Addr.add ⟨b, off, spot⟩ (i * 2)).add j) = cs'[j]? := by
      intro i hi
      obtain ⟨cs', h1, h2⟩ := hc i hi
      obtain ⟨ds, r, z⟩ := openRecSlot h2
      exact ⟨ds, cs', r, z, (World.cells?_some h1).2.2⟩
    have hspot : spot = none := by
      obtain ⟨ds, cs', r, _, h1⟩ := first 0 (by omega)
      have hl := r.len
      have := h1 0 (by omega)
      obtain ⟨c, cs2, rfl⟩ : ∃ c cs2, cs' = c :: cs2 := by cases cs' with | nil => simp at hl | cons c cs2 => exact ⟨c, cs2, rfl⟩
      simp [Addr.add] at this
      simpa using World.cell?_spot this
    subst hspot
    obtain ⟨es, vs, r, z, hr⟩ := Raw.of_each (b := b) (off := off) (sh := shRecSlot) len fun i hi => by
      obtain ⟨ds, cs', r, z, h1⟩ := first i (by omega)
      refine ⟨ds, cs', r, z, fun j v hv => ?_⟩
      have hj : j < 2 := by have := (List.getElem?_eq_some_iff.1 hv).1; have := r.len; simp at this; omega
      have := h1 j hj
      rw [uadd_none, uadd_none, hv] at this
      exact this
    obtain ⟨ds, cs', r0, _, h1⟩ := first 0 (by omega)
    have hb : b < W.heap.size := by
      have hl := r0.len
      have := h1 0 (by omega)
      obtain ⟨c, cs2, rfl⟩ : ∃ c cs2, cs' = c :: cs2 := by cases cs' with | nil => simp at hl | cons c cs2 => exact ⟨c, cs2, rfl⟩
      rw [uadd_none, uadd_none] at this
      exact ucell_lt this
    exact ⟨len, es, .row _ _ b off len cap vs es hb ⟨by omega, by omega⟩ hr r .nil, z⟩
theorem ocellsRecDisk : Try.prog.cellsOf 80 = 3 := by kernel_rfl
theorem openRecDisk {H : Type} {enc : TypeId × Value → H} {W : World} {base : Nat} {sp : Nat → Bool} {held : Bool} {fuel : Nat} {cs : List Value} {x : DataW H × List MemPlace} (h : DataW.trod enc Try.prog W base sp held fuel 80 cs = some x) : ∃ ds, Raw W shRecDisk ds cs ∧ szd ds := by
  obtain ⟨xs, n, _, _, hlen, hxs, hall⟩ := DataW.trod_struct Try.underlying80 h
  rw [ocellsRecDisk] at hlen
  obtain ⟨c0, c1, c2, rfl⟩ := ulist3 hlen
  obtain ⟨y0, y1, y2, rfl⟩ := ulist3 (l := xs) (by simpa using hxs)
  have a0 := hall 0 _ rfl
  have a1 := hall 1 _ rfl
  have a2 := hall 2 _ rfl
  simp [ocells3, ocellsRecSlotS] at a0 a1 a2
  obtain ⟨k0, e0, _, s0⟩ := DataW.trod_int Try.underlying3 a0
  simp only [List.cons.injEq, and_true] at e0
  subst e0
  obtain ⟨k1, e1, _, s1⟩ := DataW.trod_int Try.underlying3 a1
  simp only [List.cons.injEq, and_true] at e1
  subst e1
  obtain ⟨n2, d2, r2, z2⟩ := openRecSlotS a2
  refine ⟨_, segRawRecDisk_mk k0 k1 r2, ?_⟩
  simp only [szd, and_true]
  exact z2
theorem Try.ounRecMessage : Try.prog.underlying 23 = some (.slice 86) := by kernel_rfl
theorem ocellsRecMessage : Try.prog.cellsOf 86 = 8 := by kernel_rfl
theorem ocellsRecMessageS : Try.prog.cellsOf 23 = 1 := by kernel_rfl
theorem openRecMessage {H : Type} {enc : TypeId × Value → H} {W : World} {base : Nat} {sp : Nat → Bool} {held : Bool} {fuel : Nat} {cs : List Value} {x : DataW H × List MemPlace} (h : DataW.trod enc Try.prog W base sp held fuel 86 cs = some x) : ∃ ds, Raw W shRecMessage ds cs ∧ szd ds := by
  obtain ⟨xs, n, _, _, hlen, hxs, hall⟩ := DataW.trod_struct Try.underlying86 h
  rw [ocellsRecMessage] at hlen
  obtain ⟨c0, c1, c2, c3, c4, c5, c6, c7, rfl⟩ := ulist8 hlen
  obtain ⟨y0, y1, y2, y3, y4, y5, y6, y7, rfl⟩ := ulist8 (l := xs) (by simpa using hxs)
  have a0 := hall 0 _ rfl
  have a1 := hall 1 _ rfl
  have a2 := hall 2 _ rfl
  have a3 := hall 3 _ rfl
  have a4 := hall 4 _ rfl
  have a5 := hall 5 _ rfl
  have a6 := hall 6 _ rfl
  have a7 := hall 7 _ rfl
  simp [ocells3, ocells9, ocellsRecSlotS] at a0 a1 a2 a3 a4 a5 a6 a7
  obtain ⟨k0, e0, _, s0⟩ := DataW.trod_int Try.underlying3 a0
  simp only [List.cons.injEq, and_true] at e0
  subst e0
  obtain ⟨k1, e1, _, s1⟩ := DataW.trod_int Try.underlying3 a1
  simp only [List.cons.injEq, and_true] at e1
  subst e1
  obtain ⟨k2, e2, _, s2⟩ := DataW.trod_int Try.underlying3 a2
  simp only [List.cons.injEq, and_true] at e2
  subst e2
  obtain ⟨k3, e3, _, s3⟩ := DataW.trod_int Try.underlying3 a3
  simp only [List.cons.injEq, and_true] at e3
  subst e3
  obtain ⟨k4, e4, _, s4⟩ := DataW.trod_int Try.underlying3 a4
  simp only [List.cons.injEq, and_true] at e4
  subst e4
  obtain ⟨k5, e5, _, s5⟩ := DataW.trod_int Try.underlying3 a5
  simp only [List.cons.injEq, and_true] at e5
  subst e5
  obtain ⟨k6, e6, _, s6⟩ := DataW.trod_string Try.underlying9 a6
  simp only [List.cons.injEq, and_true] at e6
  subst e6
  obtain ⟨n7, d7, r7, z7⟩ := openRecSlotS a7
  refine ⟨_, segRawRecMessage_mk k0 k1 k2 k3 k4 k5 k6 r7, ?_⟩
  simp only [szd, and_true]
  exact ⟨s6, z7⟩
theorem openRecMessageS {H : Type} {enc : TypeId × Value → H} {W : World} {base : Nat} {sp : Nat → Bool} {held : Bool} {fuel : Nat} {v : Value} {x : DataW H × List MemPlace} (h : DataW.trod enc Try.prog W base sp held fuel 23 [v] = some x) : ∃ n es, Raw W [.row 55 shRecMessage] [.row n es] [v] ∧ szd es := by
  rcases open_slice Try.ounRecMessage h with ⟨hcs, _⟩ | ⟨a, len, cap, m, n, D, Pl, hcs, _, hl, hm, hmm, _, hc⟩
  · simp only [List.cons.injEq, and_true] at hcs
    subst hcs
    exact ⟨0, [], .emp _ _ none 0 .nil, by simp [szd]⟩
  · simp only [List.cons.injEq, and_true] at hcs
    subst hcs
    rw [ocellsRecMessage] at hc
    have hle : len ≤ m := by rw [hmm]; split <;> omega
    by_cases h0 : len = 0
    · subst h0; exact ⟨0, [], .emp _ _ (some a) cap .nil, by simp [szd]⟩
    obtain ⟨b, off, spot⟩ := a
    have first : ∀ i, i < m → ∃ ds cs', Raw W shRecMessage ds cs' ∧ szd ds ∧ ∀ j, j < 8 → W.cell? ((Addr.add ⟨b, off, spot⟩ (i * 8)).add j) = cs'[j]? := by
      intro i hi
      obtain ⟨cs', h1, h2⟩ := hc i hi
      obtain ⟨ds, r, z⟩ := openRecMessage h2
      exact ⟨ds, cs', r, z, (World.cells?_some h1).2.2⟩
    have hspot : spot = none := by
      obtain ⟨ds, cs', r, _, h1⟩ := first 0 (by omega)
      have hl := r.len
      have := h1 0 (by omega)
      obtain ⟨c, cs2, rfl⟩ : ∃ c cs2, cs' = c :: cs2 := by cases cs' with | nil => simp at hl | cons c cs2 => exact ⟨c, cs2, rfl⟩
      simp [Addr.add] at this
      simpa using World.cell?_spot this
    subst hspot
    obtain ⟨es, vs, r, z, hr⟩ := Raw.of_each (b := b) (off := off) (sh := shRecMessage) len fun i hi => by
      obtain ⟨ds, cs', r, z, h1⟩ := first i (by omega)
      refine ⟨ds, cs', r, z, fun j v hv => ?_⟩
      have hj : j < 8 := by have := (List.getElem?_eq_some_iff.1 hv).1; have := r.len; simp at this; omega
      have := h1 j hj
      rw [uadd_none, uadd_none, hv] at this
      exact this
    obtain ⟨ds, cs', r0, _, h1⟩ := first 0 (by omega)
    have hb : b < W.heap.size := by
      have hl := r0.len
      have := h1 0 (by omega)
      obtain ⟨c, cs2, rfl⟩ : ∃ c cs2, cs' = c :: cs2 := by cases cs' with | nil => simp at hl | cons c cs2 => exact ⟨c, cs2, rfl⟩
      rw [uadd_none, uadd_none] at this
      exact ucell_lt this
    exact ⟨len, es, .row _ _ b off len cap vs es hb ⟨by omega, by omega⟩ hr r .nil, z⟩
theorem Try.ounRecAck : Try.prog.underlying 81 = some (.slice 147) := by kernel_rfl
theorem ocellsRecAck : Try.prog.cellsOf 147 = 2 := by kernel_rfl
theorem ocellsRecAckS : Try.prog.cellsOf 81 = 1 := by kernel_rfl
theorem openRecAck {H : Type} {enc : TypeId × Value → H} {W : World} {base : Nat} {sp : Nat → Bool} {held : Bool} {fuel : Nat} {cs : List Value} {x : DataW H × List MemPlace} (h : DataW.trod enc Try.prog W base sp held fuel 147 cs = some x) : ∃ ds, Raw W shRecAck ds cs ∧ szd ds := by
  obtain ⟨xs, n, _, _, hlen, hxs, hall⟩ := DataW.trod_struct Try.underlying147 h
  rw [ocellsRecAck] at hlen
  obtain ⟨c0, c1, rfl⟩ := ulist2 hlen
  obtain ⟨y0, y1, rfl⟩ := ulist2 (l := xs) (by simpa using hxs)
  have a0 := hall 0 _ rfl
  have a1 := hall 1 _ rfl
  simp [ocells3, ocellsIntS] at a0 a1
  obtain ⟨k0, e0, _, s0⟩ := DataW.trod_int Try.underlying3 a0
  simp only [List.cons.injEq, and_true] at e0
  subst e0
  obtain ⟨n1, d1, r1, z1⟩ := openIntS a1
  refine ⟨_, segRawRecAck_mk k0 r1, ?_⟩
  simp only [szd, and_true]
  exact z1
theorem openRecAckS {H : Type} {enc : TypeId × Value → H} {W : World} {base : Nat} {sp : Nat → Bool} {held : Bool} {fuel : Nat} {v : Value} {x : DataW H × List MemPlace} (h : DataW.trod enc Try.prog W base sp held fuel 81 [v] = some x) : ∃ n es, Raw W [.row 122 shRecAck] [.row n es] [v] ∧ szd es := by
  rcases open_slice Try.ounRecAck h with ⟨hcs, _⟩ | ⟨a, len, cap, m, n, D, Pl, hcs, _, hl, hm, hmm, _, hc⟩
  · simp only [List.cons.injEq, and_true] at hcs
    subst hcs
    exact ⟨0, [], .emp _ _ none 0 .nil, by simp [szd]⟩
  · simp only [List.cons.injEq, and_true] at hcs
    subst hcs
    rw [ocellsRecAck] at hc
    have hle : len ≤ m := by rw [hmm]; split <;> omega
    by_cases h0 : len = 0
    · subst h0; exact ⟨0, [], .emp _ _ (some a) cap .nil, by simp [szd]⟩
    obtain ⟨b, off, spot⟩ := a
    have first : ∀ i, i < m → ∃ ds cs', Raw W shRecAck ds cs' ∧ szd ds ∧ ∀ j, j < 2 → W.cell? ((Addr.add ⟨b, off, spot⟩ (i * 2)).add j) = cs'[j]? := by
      intro i hi
      obtain ⟨cs', h1, h2⟩ := hc i hi
      obtain ⟨ds, r, z⟩ := openRecAck h2
      exact ⟨ds, cs', r, z, (World.cells?_some h1).2.2⟩
    have hspot : spot = none := by
      obtain ⟨ds, cs', r, _, h1⟩ := first 0 (by omega)
      have hl := r.len
      have := h1 0 (by omega)
      obtain ⟨c, cs2, rfl⟩ : ∃ c cs2, cs' = c :: cs2 := by cases cs' with | nil => simp at hl | cons c cs2 => exact ⟨c, cs2, rfl⟩
      simp [Addr.add] at this
      simpa using World.cell?_spot this
    subst hspot
    obtain ⟨es, vs, r, z, hr⟩ := Raw.of_each (b := b) (off := off) (sh := shRecAck) len fun i hi => by
      obtain ⟨ds, cs', r, z, h1⟩ := first i (by omega)
      refine ⟨ds, cs', r, z, fun j v hv => ?_⟩
      have hj : j < 2 := by have := (List.getElem?_eq_some_iff.1 hv).1; have := r.len; simp at this; omega
      have := h1 j hj
      rw [uadd_none, uadd_none, hv] at this
      exact this
    obtain ⟨ds, cs', r0, _, h1⟩ := first 0 (by omega)
    have hb : b < W.heap.size := by
      have hl := r0.len
      have := h1 0 (by omega)
      obtain ⟨c, cs2, rfl⟩ : ∃ c cs2, cs' = c :: cs2 := by cases cs' with | nil => simp at hl | cons c cs2 => exact ⟨c, cs2, rfl⟩
      rw [uadd_none, uadd_none] at this
      exact ucell_lt this
    exact ⟨len, es, .row _ _ b off len cap vs es hb ⟨by omega, by omega⟩ hr r .nil, z⟩
theorem ocellsRecorder : Try.prog.cellsOf 83 = 18 := by kernel_rfl
theorem openRecorder {H : Type} {enc : TypeId × Value → H} {W : World} {base : Nat} {sp : Nat → Bool} {held : Bool} {fuel : Nat} {cs : List Value} {x : DataW H × List MemPlace} (h : DataW.trod enc Try.prog W base sp held fuel 83 cs = some x) : ∃ ds, Raw W shRecorder ds cs ∧ szd ds := by
  obtain ⟨xs, n, _, _, hlen, hxs, hall⟩ := DataW.trod_struct Try.underlying83 h
  rw [ocellsRecorder] at hlen
  obtain ⟨c0, c1, c2, c3, c4, c5, c6, c7, c8, c9, c10, c11, c12, c13, c14, c15, c16, c17, rfl⟩ := ulist18 hlen
  obtain ⟨y0, y1, y2, y3, y4, y5, y6, y7, y8, y9, y10, y11, y12, y13, rfl⟩ := ulist14 (l := xs) (by simpa using hxs)
  have a0 := hall 0 _ rfl
  have a1 := hall 1 _ rfl
  have a2 := hall 2 _ rfl
  have a3 := hall 3 _ rfl
  have a4 := hall 4 _ rfl
  have a5 := hall 5 _ rfl
  have a6 := hall 6 _ rfl
  have a7 := hall 7 _ rfl
  have a8 := hall 8 _ rfl
  have a9 := hall 9 _ rfl
  have a10 := hall 10 _ rfl
  have a11 := hall 11 _ rfl
  have a12 := hall 12 _ rfl
  have a13 := hall 13 _ rfl
  simp [ocells3, ocells4, ocellsRecDisk, ocellsRecMessageS, ocellsStringS, ocellsIntS, ocellsRecSlotS, ocellsRecAckS] at a0 a1 a2 a3 a4 a5 a6 a7 a8 a9 a10 a11 a12 a13
  obtain ⟨k0, e0, _, s0⟩ := DataW.trod_int Try.underlying3 a0
  simp only [List.cons.injEq, and_true] at e0
  subst e0
  obtain ⟨k1, e1, _, s1⟩ := DataW.trod_int Try.underlying3 a1
  simp only [List.cons.injEq, and_true] at e1
  subst e1
  obtain ⟨k2, e2, _⟩ := DataW.trod_bool Try.underlying4 a2
  simp only [List.cons.injEq, and_true] at e2
  subst e2
  obtain ⟨d3, r3, z3⟩ := openRecDisk a3
  obtain ⟨d4, r4, z4⟩ := openRecDisk a4
  obtain ⟨n5, d5, r5, z5⟩ := openRecMessageS a5
  obtain ⟨n6, d6, r6, z6⟩ := openStringS a6
  obtain ⟨k7, e7, _⟩ := DataW.trod_bool Try.underlying4 a7
  simp only [List.cons.injEq, and_true] at e7
  subst e7
  obtain ⟨k8, e8, _⟩ := DataW.trod_bool Try.underlying4 a8
  simp only [List.cons.injEq, and_true] at e8
  subst e8
  obtain ⟨k9, e9, _, s9⟩ := DataW.trod_int Try.underlying3 a9
  simp only [List.cons.injEq, and_true] at e9
  subst e9
  obtain ⟨n10, d10, r10, z10⟩ := openIntS a10
  obtain ⟨n11, d11, r11, z11⟩ := openRecSlotS a11
  obtain ⟨n12, d12, r12, z12⟩ := openRecAckS a12
  obtain ⟨k13, e13, _, s13⟩ := DataW.trod_int Try.underlying3 a13
  simp only [List.cons.injEq, and_true] at e13
  subst e13
  refine ⟨_, segRawRecorder_mk k0 k1 k2 r3 r4 r5 r6 k7 k8 k9 r10 r11 r12 k13, ?_⟩
  simp only [szd, szd_app, and_true]
  exact ⟨z3, z4, z5, z6, z10, z11, z12⟩
end Go.Proofs.Ytcefgacmagobnaa

namespace Go.Proofs.Ytcefgacmagobnaa
open Go.ChangeShapes Go.WideShapes Go.ChangeAt Go.RowKit Go.Deep

theorem Try.ounRecFix : Try.prog.underlying 24 = some (.slice 88) := by kernel_rfl
theorem ocellsRecFix : Try.prog.cellsOf 88 = 2 := by kernel_rfl
theorem ocellsRecFixS : Try.prog.cellsOf 24 = 1 := by kernel_rfl
theorem openRecFix {H : Type} {enc : TypeId × Value → H} {W : World} {base : Nat} {sp : Nat → Bool} {held : Bool} {fuel : Nat} {cs : List Value} {x : DataW H × List MemPlace} (h : DataW.trod enc Try.prog W base sp held fuel 88 cs = some x) : ∃ ds, Raw W shRecFix ds cs ∧ szd ds := by
  obtain ⟨xs, n, _, _, hlen, hxs, hall⟩ := DataW.trod_struct Try.underlying88 h
  rw [ocellsRecFix] at hlen
  obtain ⟨c0, c1, rfl⟩ := ulist2 hlen
  obtain ⟨y0, y1, rfl⟩ := ulist2 (l := xs) (by simpa using hxs)
  have a0 := hall 0 _ rfl
  have a1 := hall 1 _ rfl
  simp [ocells3, ocells9] at a0 a1
  obtain ⟨k0, e0, _, s0⟩ := DataW.trod_int Try.underlying3 a0
  simp only [List.cons.injEq, and_true] at e0
  subst e0
  obtain ⟨k1, e1, _, s1⟩ := DataW.trod_string Try.underlying9 a1
  simp only [List.cons.injEq, and_true] at e1
  subst e1
  refine ⟨_, segRawRecFix_mk k0 k1, ?_⟩
  simp only [szd, and_true]
  exact s1
theorem openRecFixS {H : Type} {enc : TypeId × Value → H} {W : World} {base : Nat} {sp : Nat → Bool} {held : Bool} {fuel : Nat} {v : Value} {x : DataW H × List MemPlace} (h : DataW.trod enc Try.prog W base sp held fuel 24 [v] = some x) : ∃ n es, Raw W [.row 57 shRecFix] [.row n es] [v] ∧ szd es := by
  rcases open_slice Try.ounRecFix h with ⟨hcs, _⟩ | ⟨a, len, cap, m, n, D, Pl, hcs, _, hl, hm, hmm, _, hc⟩
  · simp only [List.cons.injEq, and_true] at hcs
    subst hcs
    exact ⟨0, [], .emp _ _ none 0 .nil, by simp [szd]⟩
  · simp only [List.cons.injEq, and_true] at hcs
    subst hcs
    rw [ocellsRecFix] at hc
    have hle : len ≤ m := by rw [hmm]; split <;> omega
    by_cases h0 : len = 0
    · subst h0; exact ⟨0, [], .emp _ _ (some a) cap .nil, by simp [szd]⟩
    obtain ⟨b, off, spot⟩ := a
    have first : ∀ i, i < m → ∃ ds cs', Raw W shRecFix ds cs' ∧ szd ds ∧ ∀ j, j < 2 → W.cell? ((Addr.add ⟨b, off, spot⟩ (i * 2)).add j) = cs'[j]? := by
      intro i hi
      obtain ⟨cs', h1, h2⟩ := hc i hi
      obtain ⟨ds, r, z⟩ := openRecFix h2
      exact ⟨ds, cs', r, z, (World.cells?_some h1).2.2⟩
    have hspot : spot = none := by
      obtain ⟨ds, cs', r, _, h1⟩ := first 0 (by omega)
      have hl := r.len
      have := h1 0 (by omega)
      obtain ⟨c, cs2, rfl⟩ : ∃ c cs2, cs' = c :: cs2 := by cases cs' with | nil => simp at hl | cons c cs2 => exact ⟨c, cs2, rfl⟩
      simp [Addr.add] at this
      simpa using World.cell?_spot this
    subst hspot
    obtain ⟨es, vs, r, z, hr⟩ := Raw.of_each (b := b) (off := off) (sh := shRecFix) len fun i hi => by
      obtain ⟨ds, cs', r, z, h1⟩ := first i (by omega)
      refine ⟨ds, cs', r, z, fun j v hv => ?_⟩
      have hj : j < 2 := by have := (List.getElem?_eq_some_iff.1 hv).1; have := r.len; simp at this; omega
      have := h1 j hj
      rw [uadd_none, uadd_none, hv] at this
      exact this
    obtain ⟨ds, cs', r0, _, h1⟩ := first 0 (by omega)
    have hb : b < W.heap.size := by
      have hl := r0.len
      have := h1 0 (by omega)
      obtain ⟨c, cs2, rfl⟩ : ∃ c cs2, cs' = c :: cs2 := by cases cs' with | nil => simp at hl | cons c cs2 => exact ⟨c, cs2, rfl⟩
      rw [uadd_none, uadd_none] at this
      exact ucell_lt this
    exact ⟨len, es, .row _ _ b off len cap vs es hb ⟨by omega, by omega⟩ hr r .nil, z⟩
theorem Try.ounRecorder : Try.prog.underlying 22 = some (.slice 83) := by kernel_rfl
theorem ocellsRecorderS : Try.prog.cellsOf 22 = 1 := by kernel_rfl
theorem openRecorderS {H : Type} {enc : TypeId × Value → H} {W : World} {base : Nat} {sp : Nat → Bool} {held : Bool} {fuel : Nat} {v : Value} {x : DataW H × List MemPlace} (h : DataW.trod enc Try.prog W base sp held fuel 22 [v] = some x) : ∃ n es, Raw W [.row 52 shRecorder] [.row n es] [v] ∧ szd es := by
  rcases open_slice Try.ounRecorder h with ⟨hcs, _⟩ | ⟨a, len, cap, m, n, D, Pl, hcs, _, hl, hm, hmm, _, hc⟩
  · simp only [List.cons.injEq, and_true] at hcs
    subst hcs
    exact ⟨0, [], .emp _ _ none 0 .nil, by simp [szd]⟩
  · simp only [List.cons.injEq, and_true] at hcs
    subst hcs
    rw [ocellsRecorder] at hc
    have hle : len ≤ m := by rw [hmm]; split <;> omega
    by_cases h0 : len = 0
    · subst h0; exact ⟨0, [], .emp _ _ (some a) cap .nil, by simp [szd]⟩
    obtain ⟨b, off, spot⟩ := a
    have first : ∀ i, i < m → ∃ ds cs', Raw W shRecorder ds cs' ∧ szd ds ∧ ∀ j, j < 18 → W.cell? ((Addr.add ⟨b, off, spot⟩ (i * 18)).add j) = cs'[j]? := by
      intro i hi
      obtain ⟨cs', h1, h2⟩ := hc i hi
      obtain ⟨ds, r, z⟩ := openRecorder h2
      exact ⟨ds, cs', r, z, (World.cells?_some h1).2.2⟩
    have hspot : spot = none := by
      obtain ⟨ds, cs', r, _, h1⟩ := first 0 (by omega)
      have hl := r.len
      have := h1 0 (by omega)
      obtain ⟨c, cs2, rfl⟩ : ∃ c cs2, cs' = c :: cs2 := by cases cs' with | nil => simp at hl | cons c cs2 => exact ⟨c, cs2, rfl⟩
      simp [Addr.add] at this
      simpa using World.cell?_spot this
    subst hspot
    obtain ⟨es, vs, r, z, hr⟩ := Raw.of_each (b := b) (off := off) (sh := shRecorder) len fun i hi => by
      obtain ⟨ds, cs', r, z, h1⟩ := first i (by omega)
      refine ⟨ds, cs', r, z, fun j v hv => ?_⟩
      have hj : j < 18 := by have := (List.getElem?_eq_some_iff.1 hv).1; have := r.len; simp at this; omega
      have := h1 j hj
      rw [uadd_none, uadd_none, hv] at this
      exact this
    obtain ⟨ds, cs', r0, _, h1⟩ := first 0 (by omega)
    have hb : b < W.heap.size := by
      have hl := r0.len
      have := h1 0 (by omega)
      obtain ⟨c, cs2, rfl⟩ : ∃ c cs2, cs' = c :: cs2 := by cases cs' with | nil => simp at hl | cons c cs2 => exact ⟨c, cs2, rfl⟩
      rw [uadd_none, uadd_none] at this
      exact ucell_lt this
    exact ⟨len, es, .row _ _ b off len cap vs es hb ⟨by omega, by omega⟩ hr r .nil, z⟩
theorem ocellsRecWorld : Try.prog.cellsOf 26 = 3 := by kernel_rfl
theorem openRecWorld {H : Type} {enc : TypeId × Value → H} {W : World} {base : Nat} {sp : Nat → Bool} {held : Bool} {fuel : Nat} {cs : List Value} {x : DataW H × List MemPlace} (h : DataW.trod enc Try.prog W base sp held fuel 26 cs = some x) : ∃ ds, Raw W shRecWorld ds cs ∧ szd ds := by
  obtain ⟨xs, n, _, _, hlen, hxs, hall⟩ := DataW.trod_struct Try.underlying26 h
  rw [ocellsRecWorld] at hlen
  obtain ⟨c0, c1, c2, rfl⟩ := ulist3 hlen
  obtain ⟨y0, y1, y2, rfl⟩ := ulist3 (l := xs) (by simpa using hxs)
  have a0 := hall 0 _ rfl
  have a1 := hall 1 _ rfl
  have a2 := hall 2 _ rfl
  simp [ocellsRecorderS, ocellsRecMessageS, ocellsRecFixS] at a0 a1 a2
  obtain ⟨n0, d0, r0, z0⟩ := openRecorderS a0
  obtain ⟨n1, d1, r1, z1⟩ := openRecMessageS a1
  obtain ⟨n2, d2, r2, z2⟩ := openRecFixS a2
  refine ⟨_, segRawRecWorld_mk r0 r1 r2, ?_⟩
  simp only [szd, and_true]
  exact ⟨z0, z1, z2⟩
end Go.Proofs.Ytcefgacmagobnaa
