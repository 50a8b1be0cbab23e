/-
  What reads as an object, or a service, lies in memory so.
-/
import Derived.ProofKit
import Derived.OpenShut
import Derived.ShutString
import Derived.ChangeOld
import Derived.SliceStrings
import Derived.Deep.Slices
import Derived.Test.YtiiahpegdpbkgaaOSh
namespace Go.Proofs.Ytiiahpegdpbkgaa
open Go.ChangeShapes Go.WideShapes Go.ChangeAt Go.RowKit Go.Deep

theorem ocells9 : Try.prog.cellsOf 9 = 1 := by kernel_rfl
theorem ocells3 : Try.prog.cellsOf 3 = 1 := by kernel_rfl
theorem ocells4 : Try.prog.cellsOf 4 = 1 := by kernel_rfl
theorem ucell_lt {w : World} {a : Addr} {v : Value} (h : w.cell? a = some v) : a.block < w.heap.size := by
  by_cases hb : a.block < w.heap.size
  · exact hb
  · exfalso
    have : w.heap[a.block]? = none := by simp; omega
    simp [World.cell?, this] at h
theorem uadd_none (b off i : Nat) : (Addr.add ⟨b, off, none⟩ i) = ⟨b, off + i, none⟩ := by
  unfold Addr.add; split <;> simp_all
theorem uownL : ownKnob Try.prog.godebug = none := by kernel_rfl
theorem ulaidL : laidOutB Try.prog = true := by kernel_rfl
theorem ulist7 {α : Type} {l : List α} (h : l.length = 7) : ∃ c0 c1 c2 c3 c4 c5 c6, l = [c0, c1, c2, c3, c4, c5, c6] := by
  match l, h with
  | [c0, c1, c2, c3, c4, c5, c6], _ => exact ⟨c0, c1, c2, c3, c4, c5, c6, rfl⟩
theorem ulist13 {α : Type} {l : List α} (h : l.length = 13) : ∃ c0 c1 c2 c3 c4 c5 c6 c7 c8 c9 c10 c11 c12, l = [c0, c1, c2, c3, c4, c5, c6, c7, c8, c9, c10, c11, c12] := by
  match l, h with
  | [c0, c1, c2, c3, c4, c5, c6, c7, c8, c9, c10, c11, c12], _ => exact ⟨c0, c1, c2, c3, c4, c5, c6, c7, c8, c9, c10, c11, c12, rfl⟩
theorem Try.ounT1 : Try.prog.underlying 22 = some (.slice 9) := by kernel_rfl
theorem ocellsStringS : Try.prog.cellsOf 22 = 1 := by kernel_rfl
theorem openT1 {H : Type} {enc : TypeId × Value → H} {W : World} {base : Nat} {sp : Nat → Bool} {held : Bool} {fuel : Nat} {cs : List Value} {x : DataW H × List MemPlace} (h : DataW.trod enc Try.prog W base sp held fuel 9 cs = some x) : ∃ ds, Raw W [.s] ds cs ∧ szd ds := by
  obtain ⟨a, rfl, _, s0⟩ := DataW.trod_string Try.underlying9 h
  exact ⟨[.s a], .s a .nil, by simp only [szd, and_true]; exact s0⟩
theorem openStringS {H : Type} {enc : TypeId × Value → H} {W : World} {base : Nat} {sp : Nat → Bool} {held : Bool} {fuel : Nat} {v : Value} {x : DataW H × List MemPlace} (h : DataW.trod enc Try.prog W base sp held fuel 22 [v] = some x) : ∃ n es, Raw W [.row 9 [.s]] [.row n es] [v] ∧ szd es := by
  rcases open_slice Try.ounT1 h with ⟨hcs, _⟩ | ⟨a, len, cap, m, n, D, Pl, hcs, _, hl, hm, hmm, _, hc⟩
  · simp only [List.cons.injEq, and_true] at hcs
    subst hcs
    exact ⟨0, [], .emp _ _ none 0 .nil, by simp [szd]⟩
  · simp only [List.cons.injEq, and_true] at hcs
    subst hcs
    rw [ocells9] at hc
    have hle : len ≤ m := by rw [hmm]; split <;> omega
    by_cases h0 : len = 0
    · subst h0; exact ⟨0, [], .emp _ _ (some a) cap .nil, by simp [szd]⟩
    obtain ⟨b, off, spot⟩ := a
    have first : ∀ i, i < m → ∃ ds cs', Raw W [.s] ds cs' ∧ szd ds ∧ ∀ j, j < 1 → W.cell? ((Addr.add ⟨b, off, spot⟩ (i * 1)).add j) = cs'[j]? := by
      intro i hi
      obtain ⟨cs', h1, h2⟩ := hc i hi
      obtain ⟨ds, r, z⟩ := openT1 h2
      exact ⟨ds, cs', r, z, (World.cells?_some h1).2.2⟩
    have hspot : spot = none := by
      obtain ⟨ds, cs', r, _, h1⟩ := first 0 (by omega)
      have hl := r.len
      have := h1 0 (by omega)
      obtain ⟨c, cs2, rfl⟩ : ∃ c cs2, cs' = c :: cs2 := by cases cs' with | nil => simp at hl | cons c cs2 => exact ⟨c, cs2, rfl⟩
      simp [Addr.add] at this
      simpa using World.cell?_spot this
    subst hspot
    obtain ⟨es, vs, r, z, hr⟩ := Raw.of_each (b := b) (off := off) (sh := [.s]) len fun i hi => by
      obtain ⟨ds, cs', r, z, h1⟩ := first i (by omega)
      refine ⟨ds, cs', r, z, fun j v hv => ?_⟩
      have hj : j < 1 := by have := (List.getElem?_eq_some_iff.1 hv).1; have := r.len; simp at this; omega
      have := h1 j hj
      rw [uadd_none, uadd_none, hv] at this
      exact this
    obtain ⟨ds, cs', r0, _, h1⟩ := first 0 (by omega)
    have hb : b < W.heap.size := by
      have hl := r0.len
      have := h1 0 (by omega)
      obtain ⟨c, cs2, rfl⟩ : ∃ c cs2, cs' = c :: cs2 := by cases cs' with | nil => simp at hl | cons c cs2 => exact ⟨c, cs2, rfl⟩
      rw [uadd_none, uadd_none] at this
      exact ucell_lt this
    exact ⟨len, es, .row _ _ b off len cap vs es hb ⟨by omega, by omega⟩ hr r .nil, z⟩
theorem ocellsGateObject : Try.prog.cellsOf 24 = 7 := by kernel_rfl
theorem openGateObject {H : Type} {enc : TypeId × Value → H} {W : World} {base : Nat} {sp : Nat → Bool} {held : Bool} {fuel : Nat} {cs : List Value} {x : DataW H × List MemPlace} (h : DataW.trod enc Try.prog W base sp held fuel 24 cs = some x) : ∃ ds, Raw W shGateObject ds cs ∧ szd ds := by
  obtain ⟨xs, n, _, _, hlen, hxs, hall⟩ := DataW.trod_struct Try.underlying24 h
  rw [ocellsGateObject] at hlen
  obtain ⟨c0, c1, c2, c3, c4, c5, c6, rfl⟩ := ulist7 hlen
  obtain ⟨y0, y1, y2, y3, y4, y5, y6, rfl⟩ := ulist7 (l := xs) (by simpa using hxs)
  have a0 := hall 0 _ rfl
  have a1 := hall 1 _ rfl
  have a2 := hall 2 _ rfl
  have a3 := hall 3 _ rfl
  have a4 := hall 4 _ rfl
  have a5 := hall 5 _ rfl
  have a6 := hall 6 _ rfl
  simp [ocells9, ocellsStringS, ocells4, ocells3] at a0 a1 a2 a3 a4 a5 a6
  obtain ⟨k0, e0, _, s0⟩ := DataW.trod_string Try.underlying9 a0
  simp only [List.cons.injEq, and_true] at e0
  subst e0
  obtain ⟨k1, e1, _, s1⟩ := DataW.trod_string Try.underlying9 a1
  simp only [List.cons.injEq, and_true] at e1
  subst e1
  obtain ⟨k2, e2, _, s2⟩ := DataW.trod_string Try.underlying9 a2
  simp only [List.cons.injEq, and_true] at e2
  subst e2
  obtain ⟨n3, d3, r3, z3⟩ := openStringS a3
  obtain ⟨k4, e4, _⟩ := DataW.trod_bool Try.underlying4 a4
  simp only [List.cons.injEq, and_true] at e4
  subst e4
  obtain ⟨n5, d5, r5, z5⟩ := openStringS a5
  obtain ⟨k6, e6, _, s6⟩ := DataW.trod_int Try.underlying3 a6
  simp only [List.cons.injEq, and_true] at e6
  subst e6
  refine ⟨_, segRawGateObject_mk k0 k1 k2 r3 k4 r5 k6, ?_⟩
  simp only [szd, and_true]
  exact ⟨s0, s1, s2, z3, z5⟩
theorem ocellsStewService : Try.prog.cellsOf 26 = 13 := by kernel_rfl
theorem openStewService {H : Type} {enc : TypeId × Value → H} {W : World} {base : Nat} {sp : Nat → Bool} {held : Bool} {fuel : Nat} {cs : List Value} {x : DataW H × List MemPlace} (h : DataW.trod enc Try.prog W base sp held fuel 26 cs = some x) : ∃ ds, Raw W shStewService ds cs ∧ szd ds := by
  obtain ⟨xs, n, _, _, hlen, hxs, hall⟩ := DataW.trod_struct Try.underlying26 h
  rw [ocellsStewService] at hlen
  obtain ⟨c0, c1, c2, c3, c4, c5, c6, c7, c8, c9, c10, c11, c12, rfl⟩ := ulist13 hlen
  obtain ⟨y0, y1, y2, y3, y4, y5, y6, y7, y8, y9, y10, y11, y12, rfl⟩ := ulist13 (l := xs) (by simpa using hxs)
  have a0 := hall 0 _ rfl
  have a1 := hall 1 _ rfl
  have a2 := hall 2 _ rfl
  have a3 := hall 3 _ rfl
  have a4 := hall 4 _ rfl
  have a5 := hall 5 _ rfl
  have a6 := hall 6 _ rfl
  have a7 := hall 7 _ rfl
  have a8 := hall 8 _ rfl
  have a9 := hall 9 _ rfl
  have a10 := hall 10 _ rfl
  have a11 := hall 11 _ rfl
  have a12 := hall 12 _ rfl
  simp [ocells9, ocells3, ocells4] at a0 a1 a2 a3 a4 a5 a6 a7 a8 a9 a10 a11 a12
  obtain ⟨k0, e0, _, s0⟩ := DataW.trod_string Try.underlying9 a0
  simp only [List.cons.injEq, and_true] at e0
  subst e0
  obtain ⟨k1, e1, _, s1⟩ := DataW.trod_int Try.underlying3 a1
  simp only [List.cons.injEq, and_true] at e1
  subst e1
  obtain ⟨k2, e2, _⟩ := DataW.trod_bool Try.underlying4 a2
  simp only [List.cons.injEq, and_true] at e2
  subst e2
  obtain ⟨k3, e3, _, s3⟩ := DataW.trod_int Try.underlying3 a3
  simp only [List.cons.injEq, and_true] at e3
  subst e3
  obtain ⟨k4, e4, _, s4⟩ := DataW.trod_int Try.underlying3 a4
  simp only [List.cons.injEq, and_true] at e4
  subst e4
  obtain ⟨k5, e5, _, s5⟩ := DataW.trod_int Try.underlying3 a5
  simp only [List.cons.injEq, and_true] at e5
  subst e5
  obtain ⟨k6, e6, _, s6⟩ := DataW.trod_int Try.underlying3 a6
  simp only [List.cons.injEq, and_true] at e6
  subst e6
  obtain ⟨k7, e7, _, s7⟩ := DataW.trod_int Try.underlying3 a7
  simp only [List.cons.injEq, and_true] at e7
  subst e7
  obtain ⟨k8, e8, _, s8⟩ := DataW.trod_int Try.underlying3 a8
  simp only [List.cons.injEq, and_true] at e8
  subst e8
  obtain ⟨k9, e9, _, s9⟩ := DataW.trod_int Try.underlying3 a9
  simp only [List.cons.injEq, and_true] at e9
  subst e9
  obtain ⟨k10, e10, _, s10⟩ := DataW.trod_int Try.underlying3 a10
  simp only [List.cons.injEq, and_true] at e10
  subst e10
  obtain ⟨k11, e11, _, s11⟩ := DataW.trod_int Try.underlying3 a11
  simp only [List.cons.injEq, and_true] at e11
  subst e11
  obtain ⟨k12, e12, _, s12⟩ := DataW.trod_int Try.underlying3 a12
  simp only [List.cons.injEq, and_true] at e12
  subst e12
  refine ⟨_, segRawStewService_mk k0 k1 k2 k3 k4 k5 k6 k7 k8 k9 k10 k11 k12, ?_⟩
  simp only [szd, and_true]
  exact s0
end Go.Proofs.Ytiiahpegdpbkgaa
