/-
  What reads as slots, disks and messages lies in memory as the walks ask it.
-/
import Derived.ProofKit
import Derived.OpenShut
import Derived.ShutString
import Derived.ChangeOld
import Derived.SliceStrings
import Derived.Deep.Slices
import Derived.Test.YtejhknclhdbgfaaMemRd
namespace Go.Proofs.Ytejhknclhdbgfaa
open Go.ChangeShapes Go.WideShapes Go.ChangeAt Go.RowKit Go.Deep

theorem cells9 : Try.prog.cellsOf 9 = 1 := by kernel_rfl
theorem cells3 : Try.prog.cellsOf 3 = 1 := by kernel_rfl
theorem cells4 : Try.prog.cellsOf 4 = 1 := by kernel_rfl

theorem cell_lt {w : World} {a : Addr} {v : Value} (h : w.cell? a = some v) : a.block < w.heap.size := by
  by_cases hb : a.block < w.heap.size
  · exact hb
  · exfalso
    have : w.heap[a.block]? = none := by simp; omega
    simp [World.cell?, this] at h
theorem add_none (b off i : Nat) : (Addr.add ⟨b, off, none⟩ i) = ⟨b, off + i, none⟩ := by
  unfold Addr.add; split <;> simp_all
theorem list_pick {α : Type} (d : α) {n : Nat} {p : Nat → α → Prop} (h : ∀ i, i < n → ∃ x, p i x) : ∃ l : List α, l.length = n ∧ ∀ i, i < n → p i (l.getD i d) := by
  induction n with
  | zero => exact ⟨[], rfl, fun i hi => absurd hi (Nat.not_lt_zero i)⟩
  | succ n ih =>
    obtain ⟨l, hl, hp⟩ := ih (fun i hi => h i (by omega))
    obtain ⟨x, hx⟩ := h n (by omega)
    refine ⟨l ++ [x], by simp [hl], fun i hi => ?_⟩
    by_cases e : i < n
    · have : (l ++ [x]).getD i d = l.getD i d := by simp [List.getElem?_append_left (show i < l.length by omega)]
      rw [this]; exact hp i e
    · obtain rfl : i = n := by omega
      have : (l ++ [x]).getD i d = x := by simp [← hl]
      rw [this]; exact hx

theorem ownL : ownKnob Try.prog.godebug = none := by kernel_rfl
theorem laidOutL : laidOutB Try.prog = true := by kernel_rfl

theorem listB2 {α : Type} {l : List α} (h : l.length = 2) : ∃ c0 c1, l = [c0, c1] := by
  match l, h with
  | [c0, c1], _ => exact ⟨c0, c1, rfl⟩
theorem listB3 {α : Type} {l : List α} (h : l.length = 3) : ∃ c0 c1 c2, l = [c0, c1, c2] := by
  match l, h with
  | [c0, c1, c2], _ => exact ⟨c0, c1, c2, rfl⟩
theorem listB8 {α : Type} {l : List α} (h : l.length = 8) : ∃ c0 c1 c2 c3 c4 c5 c6 c7, l = [c0, c1, c2, c3, c4, c5, c6, c7] := by
  match l, h with
  | [c0, c1, c2, c3, c4, c5, c6, c7], _ => exact ⟨c0, c1, c2, c3, c4, c5, c6, c7, rfl⟩

theorem cellsRs : Try.prog.cellsOf 74 = 2 := by kernel_rfl
theorem Try.underlying22' : Try.prog.underlying 22 = some (.slice 74) := by kernel_rfl

theorem open_Rs {H : Type} {enc : TypeId × Value → H} {W : World} {base : Nat} {sp : Nat → Bool} {held : Bool} {fuel : Nat} {cs : List Value} {x : DataW H × List MemPlace} (h : DataW.trod enc Try.prog W base sp held fuel 74 cs = some x) :
    ∃ m : Rs, cs = [.int .i64 m.bal, .string m.txt] ∧ m.sized := by
  obtain ⟨xs, n, _, _, hlen, hxs, hall⟩ := DataW.trod_struct Try.underlying74 h
  rw [cellsRs] at hlen
  obtain ⟨c0, c1, rfl⟩ := listB2 hlen
  obtain ⟨y0, y1, rfl⟩ := listB2 (l := xs) (by simpa using hxs)
  have a0 := hall 0 _ rfl
  have a1 := hall 1 _ rfl
  simp [cells9, cells3] at a0 a1
  obtain ⟨k0, e0, _, _⟩ := DataW.trod_int Try.underlying3 a0
  obtain ⟨k1, e1, _, s1⟩ := DataW.trod_string Try.underlying9 a1
  simp only [List.cons.injEq, and_true] at e0 e1
  subst e0 e1
  exact ⟨⟨k0, k1⟩, rfl, s1⟩

theorem open_Rss {H : Type} {enc : TypeId × Value → H} {W : World} {base : Nat} {sp : Nat → Bool} {held : Bool} {fuel : Nat} {v : Value} {x : DataW H × List MemPlace} (h : DataW.trod enc Try.prog W base sp held fuel 22 [v] = some x) : ∃ ms, RssAt W v ms := by
  rcases open_slice Try.underlying22' h with ⟨hcs, _⟩ | ⟨a, len, cap, m, n, D, Pl, hcs, _, hl, hm, hmm, _, hc⟩
  · simp only [List.cons.injEq, and_true] at hcs
    exact ⟨[], Or.inl ⟨none, 0, hcs, rfl⟩⟩
  · simp only [List.cons.injEq, and_true] at hcs
    rw [cellsRs] at hc
    have hle : len ≤ m := by rw [hmm]; split <;> omega
    by_cases h0 : len = 0
    · subst h0; exact ⟨[], Or.inl ⟨some a, cap, hcs, rfl⟩⟩
    · obtain ⟨b, off, spot⟩ := a
      have first : ∀ i, i < m → ∃ cs', (∀ j, j < 2 → W.cell? ((Addr.add ⟨b, off, spot⟩ (i * 2)).add j) = cs'[j]?) ∧ DataW.trod enc Try.prog W base sp held n 74 cs' = some (D i, Pl i) := by
        intro i hi
        obtain ⟨cs', h1, h2⟩ := hc i hi
        exact ⟨cs', (World.cells?_some h1).2.2, h2⟩
      have hspot : spot = none := by
        obtain ⟨cs', h1, h2⟩ := first 0 (by omega)
        obtain ⟨md, rfl, hs⟩ := open_Rs h2
        have := h1 0 (by omega)
        simp [Addr.add] at this
        simpa using World.cell?_spot this
      subst hspot
      have each : ∀ i, i < len → ∃ md : Rs, RsIs W b (off + i * 2) md := by
        intro i hi
        obtain ⟨cs', h1, h2⟩ := first i (by omega)
        obtain ⟨md, rfl, hs⟩ := open_Rs h2
        rw [add_none] at h1
        have g : ∀ j, j < 2 → W.cell? ⟨b, off + i * 2 + j, none⟩ = [Value.int .i64 md.bal, Value.string md.txt][j]? := by
          intro j hj
          have := h1 j hj
          rw [add_none] at this
          exact this
        exact ⟨md, g 0 (by omega), g 1 (by omega), hs⟩
      obtain ⟨ms, hfl, hfs⟩ := list_pick Rs.none each
      have h00 := (hfs 0 (by omega)).c0
      refine ⟨ms, Or.inr ⟨b, off, cap, by rw [hfl]; exact hcs, cell_lt h00, by omega, fun i hi => ?_⟩⟩
      exact hfs i (by omega)

theorem cellsRD : Try.prog.cellsOf 24 = 3 := by kernel_rfl
theorem cellsRD_0 : Try.prog.cellsOf 22 = 1 := by kernel_rfl
theorem open_rdisk {H : Type} {enc : TypeId × Value → H} {W : World} {base : Nat} {sp : Nat → Bool} {held : Bool} {fuel : Nat} {cs : List Value} {x : DataW H × List MemPlace} (h : DataW.trod enc Try.prog W base sp held fuel 24 cs = some x) :
    ∃ (K : Rd) (v0 : Value), cs = [.int .i64 K.prom, .int .i64 K.known, v0] ∧ RdAt W v0 K := by
  obtain ⟨xs, n, _, _, hlen, hxs, hall⟩ := DataW.trod_struct Try.underlying24 h
  rw [cellsRD] at hlen
  obtain ⟨c0, c1, c2, rfl⟩ := listB3 hlen
  obtain ⟨y0, y1, y2, rfl⟩ := listB3 (l := xs) (by simpa using hxs)
  have a0 := hall 0 _ rfl
  have a1 := hall 1 _ rfl
  have a2 := hall 2 _ rfl
  simp [cells3, cellsRD_0] at a0 a1 a2
  obtain ⟨k0, e0, _, _⟩ := DataW.trod_int Try.underlying3 a0
  obtain ⟨k1, e1, _, _⟩ := DataW.trod_int Try.underlying3 a1
  obtain ⟨m2, h2⟩ := open_Rss a2
  simp only [List.cons.injEq, and_true] at e0 e1
  subst e0 e1
  exact ⟨⟨k0, k1, m2⟩, c2, rfl, ⟨h2⟩⟩

end Go.Proofs.Ytejhknclhdbgfaa
