/-
  What reads as a house lies in memory so.
-/
import Derived.ProofKit
import Derived.OpenShut
import Derived.ShutString
import Derived.ChangeOld
import Derived.SliceStrings
import Derived.Deep.Slices
import Derived.Test.YtfkkohfjkofgnaaGreatHSh
namespace Go.Proofs.YtfkkohfjkofgnaaGreat
open Go.ChangeShapes Go.WideShapes Go.ChangeAt Go.RowKit Go.Deep

theorem ocells9 : Tryz.prog.cellsOf 9 = 1 := by kernel_rfl
theorem ocells3 : Tryz.prog.cellsOf 3 = 1 := by kernel_rfl
theorem ocells4 : Tryz.prog.cellsOf 4 = 1 := by kernel_rfl
theorem ucell_lt {w : World} {a : Addr} {v : Value} (h : w.cell? a = some v) : a.block < w.heap.size := by
  by_cases hb : a.block < w.heap.size
  · exact hb
  · exfalso
    have : w.heap[a.block]? = none := by simp; omega
    simp [World.cell?, this] at h
theorem uadd_none (b off i : Nat) : (Addr.add ⟨b, off, none⟩ i) = ⟨b, off + i, none⟩ := by
  unfold Addr.add; split <;> simp_all
theorem uownL : ownKnob Tryz.prog.godebug = none := by kernel_rfl
theorem ulaidL : laidOutB Tryz.prog = true := by kernel_rfl
theorem ulist2 {α : Type} {l : List α} (h : l.length = 2) : ∃ c0 c1, l = [c0, c1] := by
  match l, h with
  | [c0, c1], _ => exact ⟨c0, c1, rfl⟩
theorem ulist4 {α : Type} {l : List α} (h : l.length = 4) : ∃ c0 c1 c2 c3, l = [c0, c1, c2, c3] := by
  match l, h with
  | [c0, c1, c2, c3], _ => exact ⟨c0, c1, c2, c3, rfl⟩
theorem ulist7 {α : Type} {l : List α} (h : l.length = 7) : ∃ c0 c1 c2 c3 c4 c5 c6, l = [c0, c1, c2, c3, c4, c5, c6] := by
  match l, h with
  | [c0, c1, c2, c3, c4, c5, c6], _ => exact ⟨c0, c1, c2, c3, c4, c5, c6, rfl⟩
theorem Tryz.ounN1 : Tryz.prog.underlying 66 = some (.slice 3) := by kernel_rfl
theorem ocellsIntS : Tryz.prog.cellsOf 66 = 1 := by kernel_rfl
theorem openN1 {H : Type} {enc : TypeId × Value → H} {W : World} {base : Nat} {sp : Nat → Bool} {held : Bool} {fuel : Nat} {cs : List Value} {x : DataW H × List MemPlace} (h : DataW.trod enc Tryz.prog W base sp held fuel 3 cs = some x) : ∃ ds, Raw W [.i] ds cs ∧ szd ds := by
  obtain ⟨a, rfl, _, s0⟩ := DataW.trod_int Tryz.underlying3 h
  exact ⟨[.i a], .i a .nil, by simp [szd]⟩
theorem openIntS {H : Type} {enc : TypeId × Value → H} {W : World} {base : Nat} {sp : Nat → Bool} {held : Bool} {fuel : Nat} {v : Value} {x : DataW H × List MemPlace} (h : DataW.trod enc Tryz.prog W base sp held fuel 66 [v] = some x) : ∃ n es, Raw W [.row 3 [.i]] [.row n es] [v] ∧ szd es := by
  rcases open_slice Tryz.ounN1 h with ⟨hcs, _⟩ | ⟨a, len, cap, m, n, D, Pl, hcs, _, hl, hm, hmm, _, hc⟩
  · simp only [List.cons.injEq, and_true] at hcs
    subst hcs
    exact ⟨0, [], .emp _ _ none 0 .nil, by simp [szd]⟩
  · simp only [List.cons.injEq, and_true] at hcs
    subst hcs
    rw [ocells3] at hc
    have hle : len ≤ m := by rw [hmm]; split <;> omega
    by_cases h0 : len = 0
    · subst h0; exact ⟨0, [], .emp _ _ (some a) cap .nil, by simp [szd]⟩
    obtain ⟨b, off, spot⟩ := a
    have first : ∀ i, i < m → ∃ ds cs', Raw W [.i] ds cs' ∧ szd ds ∧ ∀ j, j < 1 → W.cell? ((Addr.add ⟨b, off, spot⟩ (i * 1)).add j) = cs'[j]? := by
      intro i hi
      obtain ⟨cs', h1, h2⟩ := hc i hi
      obtain ⟨ds, r, z⟩ := openN1 h2
      exact ⟨ds, cs', r, z, (World.cells?_some h1).2.2⟩
    have hspot : spot = none := by
      obtain ⟨ds, cs', r, _, h1⟩ := first 0 (by omega)
      have hl := r.len
      have := h1 0 (by omega)
      obtain ⟨c, cs2, rfl⟩ : ∃ c cs2, cs' = c :: cs2 := by cases cs' with | nil => simp at hl | cons c cs2 => exact ⟨c, cs2, rfl⟩
      simp [Addr.add] at this
      simpa using World.cell?_spot this
    subst hspot
    obtain ⟨es, vs, r, z, hr⟩ := Raw.of_each (b := b) (off := off) (sh := [.i]) len fun i hi => by
      obtain ⟨ds, cs', r, z, h1⟩ := first i (by omega)
      refine ⟨ds, cs', r, z, fun j v hv => ?_⟩
      have hj : j < 1 := by have := (List.getElem?_eq_some_iff.1 hv).1; have := r.len; simp at this; omega
      have := h1 j hj
      rw [uadd_none, uadd_none, hv] at this
      exact this
    obtain ⟨ds, cs', r0, _, h1⟩ := first 0 (by omega)
    have hb : b < W.heap.size := by
      have hl := r0.len
      have := h1 0 (by omega)
      obtain ⟨c, cs2, rfl⟩ : ∃ c cs2, cs' = c :: cs2 := by cases cs' with | nil => simp at hl | cons c cs2 => exact ⟨c, cs2, rfl⟩
      rw [uadd_none, uadd_none] at this
      exact ucell_lt this
    exact ⟨len, es, .row _ _ b off len cap vs es hb ⟨by omega, by omega⟩ hr r .nil, z⟩
theorem Tryz.ounGateTeam : Tryz.prog.underlying 22 = some (.slice 64) := by kernel_rfl
theorem ocellsGateTeam : Tryz.prog.cellsOf 64 = 2 := by kernel_rfl
theorem ocellsGateTeamS : Tryz.prog.cellsOf 22 = 1 := by kernel_rfl
theorem openGateTeam {H : Type} {enc : TypeId × Value → H} {W : World} {base : Nat} {sp : Nat → Bool} {held : Bool} {fuel : Nat} {cs : List Value} {x : DataW H × List MemPlace} (h : DataW.trod enc Tryz.prog W base sp held fuel 64 cs = some x) : ∃ ds, Raw W shGateTeam ds cs ∧ szd ds := by
  obtain ⟨xs, n, _, _, hlen, hxs, hall⟩ := DataW.trod_struct Tryz.underlying64 h
  rw [ocellsGateTeam] at hlen
  obtain ⟨c0, c1, rfl⟩ := ulist2 hlen
  obtain ⟨y0, y1, rfl⟩ := ulist2 (l := xs) (by simpa using hxs)
  have a0 := hall 0 _ rfl
  have a1 := hall 1 _ rfl
  simp [ocells9] at a0 a1
  obtain ⟨k0, e0, _, s0⟩ := DataW.trod_string Tryz.underlying9 a0
  simp only [List.cons.injEq, and_true] at e0
  subst e0
  obtain ⟨k1, e1, _, s1⟩ := DataW.trod_string Tryz.underlying9 a1
  simp only [List.cons.injEq, and_true] at e1
  subst e1
  refine ⟨_, segRawGateTeam_mk k0 k1, ?_⟩
  simp only [szd, and_true]
  exact ⟨s0, s1⟩
theorem openGateTeamS {H : Type} {enc : TypeId × Value → H} {W : World} {base : Nat} {sp : Nat → Bool} {held : Bool} {fuel : Nat} {v : Value} {x : DataW H × List MemPlace} (h : DataW.trod enc Tryz.prog W base sp held fuel 22 [v] = some x) : ∃ n es, Raw W [.row 86 shGateTeam] [.row n es] [v] ∧ szd es := by
  rcases open_slice Tryz.ounGateTeam h with ⟨hcs, _⟩ | ⟨a, len, cap, m, n, D, Pl, hcs, _, hl, hm, hmm, _, hc⟩
  · simp only [List.cons.injEq, and_true] at hcs
    subst hcs
    exact ⟨0, [], .emp _ _ none 0 .nil, by simp [szd]⟩
  · simp only [List.cons.injEq, and_true] at hcs
    subst hcs
    rw [ocellsGateTeam] at hc
    have hle : len ≤ m := by rw [hmm]; split <;> omega
    by_cases h0 : len = 0
    · subst h0; exact ⟨0, [], .emp _ _ (some a) cap .nil, by simp [szd]⟩
    obtain ⟨b, off, spot⟩ := a
    have first : ∀ i, i < m → ∃ ds cs', Raw W shGateTeam ds cs' ∧ szd ds ∧ ∀ j, j < 2 → W.cell? ((Addr.add ⟨b, off, spot⟩ (i * 2)).add j) = cs'[j]? := by
      intro i hi
      obtain ⟨cs', h1, h2⟩ := hc i hi
      obtain ⟨ds, r, z⟩ := openGateTeam h2
      exact ⟨ds, cs', r, z, (World.cells?_some h1).2.2⟩
    have hspot : spot = none := by
      obtain ⟨ds, cs', r, _, h1⟩ := first 0 (by omega)
      have hl := r.len
      have := h1 0 (by omega)
      obtain ⟨c, cs2, rfl⟩ : ∃ c cs2, cs' = c :: cs2 := by cases cs' with | nil => simp at hl | cons c cs2 => exact ⟨c, cs2, rfl⟩
      simp [Addr.add] at this
      simpa using World.cell?_spot this
    subst hspot
    obtain ⟨es, vs, r, z, hr⟩ := Raw.of_each (b := b) (off := off) (sh := shGateTeam) len fun i hi => by
      obtain ⟨ds, cs', r, z, h1⟩ := first i (by omega)
      refine ⟨ds, cs', r, z, fun j v hv => ?_⟩
      have hj : j < 2 := by have := (List.getElem?_eq_some_iff.1 hv).1; have := r.len; simp at this; omega
      have := h1 j hj
      rw [uadd_none, uadd_none, hv] at this
      exact this
    obtain ⟨ds, cs', r0, _, h1⟩ := first 0 (by omega)
    have hb : b < W.heap.size := by
      have hl := r0.len
      have := h1 0 (by omega)
      obtain ⟨c, cs2, rfl⟩ : ∃ c cs2, cs' = c :: cs2 := by cases cs' with | nil => simp at hl | cons c cs2 => exact ⟨c, cs2, rfl⟩
      rw [uadd_none, uadd_none] at this
      exact ucell_lt this
    exact ⟨len, es, .row _ _ b off len cap vs es hb ⟨by omega, by omega⟩ hr r .nil, z⟩
theorem ocellsGateRule : Tryz.prog.cellsOf 68 = 4 := by kernel_rfl
theorem openGateRule {H : Type} {enc : TypeId × Value → H} {W : World} {base : Nat} {sp : Nat → Bool} {held : Bool} {fuel : Nat} {cs : List Value} {x : DataW H × List MemPlace} (h : DataW.trod enc Tryz.prog W base sp held fuel 68 cs = some x) : ∃ ds, Raw W shGateRule ds cs ∧ szd ds := by
  obtain ⟨xs, n, _, _, hlen, hxs, hall⟩ := DataW.trod_struct Tryz.underlying68 h
  rw [ocellsGateRule] at hlen
  obtain ⟨c0, c1, c2, c3, rfl⟩ := ulist4 hlen
  obtain ⟨y0, y1, y2, y3, rfl⟩ := ulist4 (l := xs) (by simpa using hxs)
  have a0 := hall 0 _ rfl
  have a1 := hall 1 _ rfl
  have a2 := hall 2 _ rfl
  have a3 := hall 3 _ rfl
  simp [ocellsIntS, ocells9] at a0 a1 a2 a3
  obtain ⟨n0, d0, r0, z0⟩ := openIntS a0
  obtain ⟨k1, e1, _, s1⟩ := DataW.trod_string Tryz.underlying9 a1
  simp only [List.cons.injEq, and_true] at e1
  subst e1
  obtain ⟨k2, e2, _, s2⟩ := DataW.trod_string Tryz.underlying9 a2
  simp only [List.cons.injEq, and_true] at e2
  subst e2
  obtain ⟨k3, e3, _, s3⟩ := DataW.trod_string Tryz.underlying9 a3
  simp only [List.cons.injEq, and_true] at e3
  subst e3
  refine ⟨_, segRawGateRule_mk r0 k1 k2 k3, ?_⟩
  simp only [szd, and_true]
  exact ⟨z0, s1, s2, s3⟩
theorem Tryz.ounGateGrant : Tryz.prog.underlying 23 = some (.slice 70) := by kernel_rfl
theorem ocellsGateGrant : Tryz.prog.cellsOf 70 = 7 := by kernel_rfl
theorem ocellsGateGrantS : Tryz.prog.cellsOf 23 = 1 := by kernel_rfl
theorem openGateGrant {H : Type} {enc : TypeId × Value → H} {W : World} {base : Nat} {sp : Nat → Bool} {held : Bool} {fuel : Nat} {cs : List Value} {x : DataW H × List MemPlace} (h : DataW.trod enc Tryz.prog W base sp held fuel 70 cs = some x) : ∃ ds, Raw W shGateGrant ds cs ∧ szd ds := by
  obtain ⟨xs, n, _, _, hlen, hxs, hall⟩ := DataW.trod_struct Tryz.underlying70 h
  rw [ocellsGateGrant] at hlen
  obtain ⟨c0, c1, c2, c3, c4, c5, c6, rfl⟩ := ulist7 hlen
  obtain ⟨y0, y1, y2, y3, rfl⟩ := ulist4 (l := xs) (by simpa using hxs)
  have a0 := hall 0 _ rfl
  have a1 := hall 1 _ rfl
  have a2 := hall 2 _ rfl
  have a3 := hall 3 _ rfl
  simp [ocells3, ocells9, ocellsGateRule] at a0 a1 a2 a3
  obtain ⟨k0, e0, _, s0⟩ := DataW.trod_int Tryz.underlying3 a0
  simp only [List.cons.injEq, and_true] at e0
  subst e0
  obtain ⟨k1, e1, _, s1⟩ := DataW.trod_string Tryz.underlying9 a1
  simp only [List.cons.injEq, and_true] at e1
  subst e1
  obtain ⟨k2, e2, _, s2⟩ := DataW.trod_string Tryz.underlying9 a2
  simp only [List.cons.injEq, and_true] at e2
  subst e2
  obtain ⟨d3, r3, z3⟩ := openGateRule a3
  refine ⟨_, segRawGateGrant_mk k0 k1 k2 r3, ?_⟩
  simp only [szd, szd_app, and_true]
  exact ⟨s1, s2, z3⟩
theorem openGateGrantS {H : Type} {enc : TypeId × Value → H} {W : World} {base : Nat} {sp : Nat → Bool} {held : Bool} {fuel : Nat} {v : Value} {x : DataW H × List MemPlace} (h : DataW.trod enc Tryz.prog W base sp held fuel 23 [v] = some x) : ∃ n es, Raw W [.row 74 shGateGrant] [.row n es] [v] ∧ szd es := by
  rcases open_slice Tryz.ounGateGrant h with ⟨hcs, _⟩ | ⟨a, len, cap, m, n, D, Pl, hcs, _, hl, hm, hmm, _, hc⟩
  · simp only [List.cons.injEq, and_true] at hcs
    subst hcs
    exact ⟨0, [], .emp _ _ none 0 .nil, by simp [szd]⟩
  · simp only [List.cons.injEq, and_true] at hcs
    subst hcs
    rw [ocellsGateGrant] at hc
    have hle : len ≤ m := by rw [hmm]; split <;> omega
    by_cases h0 : len = 0
    · subst h0; exact ⟨0, [], .emp _ _ (some a) cap .nil, by simp [szd]⟩
    obtain ⟨b, off, spot⟩ := a
    have first : ∀ i, i < m → ∃ ds cs', Raw W shGateGrant ds cs' ∧ szd ds ∧ ∀ j, j < 7 → W.cell? ((Addr.add ⟨b, off, spot⟩ (i * 7)).add j) = cs'[j]? := by
      intro i hi
      obtain ⟨cs', h1, h2⟩ := hc i hi
      obtain ⟨ds, r, z⟩ := openGateGrant h2
      exact ⟨ds, cs', r, z, (World.cells?_some h1).2.2⟩
    have hspot : spot = none := by
      obtain ⟨ds, cs', r, _, h1⟩ := first 0 (by omega)
      have hl := r.len
      have := h1 0 (by omega)
      obtain ⟨c, cs2, rfl⟩ : ∃ c cs2, cs' = c :: cs2 := by cases cs' with | nil => simp at hl | cons c cs2 => exact ⟨c, cs2, rfl⟩
      simp [Addr.add] at this
      simpa using World.cell?_spot this
    subst hspot
    obtain ⟨es, vs, r, z, hr⟩ := Raw.of_each (b := b) (off := off) (sh := shGateGrant) len fun i hi => by
      obtain ⟨ds, cs', r, z, h1⟩ := first i (by omega)
      refine ⟨ds, cs', r, z, fun j v hv => ?_⟩
      have hj : j < 7 := by have := (List.getElem?_eq_some_iff.1 hv).1; have := r.len; simp at this; omega
      have := h1 j hj
      rw [uadd_none, uadd_none, hv] at this
      exact this
    obtain ⟨ds, cs', r0, _, h1⟩ := first 0 (by omega)
    have hb : b < W.heap.size := by
      have hl := r0.len
      have := h1 0 (by omega)
      obtain ⟨c, cs2, rfl⟩ : ∃ c cs2, cs' = c :: cs2 := by cases cs' with | nil => simp at hl | cons c cs2 => exact ⟨c, cs2, rfl⟩
      rw [uadd_none, uadd_none] at this
      exact ucell_lt this
    exact ⟨len, es, .row _ _ b off len cap vs es hb ⟨by omega, by omega⟩ hr r .nil, z⟩
theorem ocellsHallHouse : Tryz.prog.cellsOf 25 = 2 := by kernel_rfl
theorem openHallHouse {H : Type} {enc : TypeId × Value → H} {W : World} {base : Nat} {sp : Nat → Bool} {held : Bool} {fuel : Nat} {cs : List Value} {x : DataW H × List MemPlace} (h : DataW.trod enc Tryz.prog W base sp held fuel 25 cs = some x) : ∃ ds, Raw W shHallHouse ds cs ∧ szd ds := by
  obtain ⟨xs, n, _, _, hlen, hxs, hall⟩ := DataW.trod_struct Tryz.underlying25 h
  rw [ocellsHallHouse] at hlen
  obtain ⟨c0, c1, rfl⟩ := ulist2 hlen
  obtain ⟨y0, y1, rfl⟩ := ulist2 (l := xs) (by simpa using hxs)
  have a0 := hall 0 _ rfl
  have a1 := hall 1 _ rfl
  simp [ocellsGateTeamS, ocellsGateGrantS] at a0 a1
  obtain ⟨n0, d0, r0, z0⟩ := openGateTeamS a0
  obtain ⟨n1, d1, r1, z1⟩ := openGateGrantS a1
  refine ⟨_, segRawHallHouse_mk r0 r1, ?_⟩
  simp only [szd, and_true]
  exact ⟨z0, z1⟩
end Go.Proofs.YtfkkohfjkofgnaaGreat
