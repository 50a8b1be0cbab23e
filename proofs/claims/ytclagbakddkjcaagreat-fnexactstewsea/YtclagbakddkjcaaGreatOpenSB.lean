/-
  What reads as a steward's book lies in memory as the walks ask it.
-/
import Derived.ProofKit
import Derived.OpenShut
import Derived.ShutString
import Derived.ChangeOld
import Derived.SliceStrings
import Derived.Deep.Slices
import Derived.Test.YtclagbakddkjcaaGreatMemSB
namespace Go.Proofs.YtclagbakddkjcaaGreat
open Go.ChangeShapes Go.WideShapes Go.ChangeAt Go.RowKit Go.Deep

theorem cells9 : Tryz.prog.cellsOf 9 = 1 := by kernel_rfl
theorem cells3 : Tryz.prog.cellsOf 3 = 1 := by kernel_rfl
theorem cells4 : Tryz.prog.cellsOf 4 = 1 := by kernel_rfl

theorem cell_lt {w : World} {a : Addr} {v : Value} (h : w.cell? a = some v) : a.block < w.heap.size := by
  by_cases hb : a.block < w.heap.size
  · exact hb
  · exfalso
    have : w.heap[a.block]? = none := by simp; omega
    simp [World.cell?, this] at h
theorem add_none (b off i : Nat) : (Addr.add ⟨b, off, none⟩ i) = ⟨b, off + i, none⟩ := by
  unfold Addr.add; split <;> simp_all
theorem list_pick {α : Type} (d : α) {n : Nat} {p : Nat → α → Prop} (h : ∀ i, i < n → ∃ x, p i x) : ∃ l : List α, l.length = n ∧ ∀ i, i < n → p i (l.getD i d) := by
  induction n with
  | zero => exact ⟨[], rfl, fun i hi => absurd hi (Nat.not_lt_zero i)⟩
  | succ n ih =>
    obtain ⟨l, hl, hp⟩ := ih (fun i hi => h i (by omega))
    obtain ⟨x, hx⟩ := h n (by omega)
    refine ⟨l ++ [x], by simp [hl], fun i hi => ?_⟩
    by_cases e : i < n
    · have : (l ++ [x]).getD i d = l.getD i d := by simp [List.getElem?_append_left (show i < l.length by omega)]
      rw [this]; exact hp i e
    · obtain rfl : i = n := by omega
      have : (l ++ [x]).getD i d = x := by simp [← hl]
      rw [this]; exact hx

theorem ownL : ownKnob Tryz.prog.godebug = none := by kernel_rfl
theorem laidOutL : laidOutB Tryz.prog = true := by kernel_rfl

theorem listB13 {α : Type} {l : List α} (h : l.length = 13) : ∃ c0 c1 c2 c3 c4 c5 c6 c7 c8 c9 c10 c11 c12, l = [c0, c1, c2, c3, c4, c5, c6, c7, c8, c9, c10, c11, c12] := by
  match l, h with
  | [c0, c1, c2, c3, c4, c5, c6, c7, c8, c9, c10, c11, c12], _ => exact ⟨c0, c1, c2, c3, c4, c5, c6, c7, c8, c9, c10, c11, c12, rfl⟩
theorem listB7 {α : Type} {l : List α} (h : l.length = 7) : ∃ c0 c1 c2 c3 c4 c5 c6, l = [c0, c1, c2, c3, c4, c5, c6] := by
  match l, h with
  | [c0, c1, c2, c3, c4, c5, c6], _ => exact ⟨c0, c1, c2, c3, c4, c5, c6, rfl⟩
theorem listB4 {α : Type} {l : List α} (h : l.length = 4) : ∃ c0 c1 c2 c3, l = [c0, c1, c2, c3] := by
  match l, h with
  | [c0, c1, c2, c3], _ => exact ⟨c0, c1, c2, c3, rfl⟩
theorem listB2 {α : Type} {l : List α} (h : l.length = 2) : ∃ c0 c1, l = [c0, c1] := by
  match l, h with
  | [c0, c1], _ => exact ⟨c0, c1, rfl⟩

theorem cellsSv : Tryz.prog.cellsOf 28 = 13 := by kernel_rfl
theorem Tryz.underlying22' : Tryz.prog.underlying 22 = some (.slice 28) := by kernel_rfl

theorem open_Sv {H : Type} {enc : TypeId × Value → H} {W : World} {base : Nat} {sp : Nat → Bool} {held : Bool} {fuel : Nat} {cs : List Value} {x : DataW H × List MemPlace} (h : DataW.trod enc Tryz.prog W base sp held fuel 28 cs = some x) :
    ∃ m : Sv, cs = [.string m.nm, .int .i64 m.ver, .bool m.gone, .int .i64 m.image, .int .i64 m.want, .int .i64 m.down, .int .i64 m.over, .int .i64 m.next, .int .i64 m.per, .int .i64 m.least, .int .i64 m.most, .int .i64 m.load, .int .i64 m.cool] ∧ m.sized := by
  obtain ⟨xs, n, _, _, hlen, hxs, hall⟩ := DataW.trod_struct Tryz.underlying28 h
  rw [cellsSv] at hlen
  obtain ⟨c0, c1, c2, c3, c4, c5, c6, c7, c8, c9, c10, c11, c12, rfl⟩ := listB13 hlen
  obtain ⟨y0, y1, y2, y3, y4, y5, y6, y7, y8, y9, y10, y11, y12, rfl⟩ := listB13 (l := xs) (by simpa using hxs)
  have a0 := hall 0 _ rfl
  have a1 := hall 1 _ rfl
  have a2 := hall 2 _ rfl
  have a3 := hall 3 _ rfl
  have a4 := hall 4 _ rfl
  have a5 := hall 5 _ rfl
  have a6 := hall 6 _ rfl
  have a7 := hall 7 _ rfl
  have a8 := hall 8 _ rfl
  have a9 := hall 9 _ rfl
  have a10 := hall 10 _ rfl
  have a11 := hall 11 _ rfl
  have a12 := hall 12 _ rfl
  simp [cells9, cells3, cells4] at a0 a1 a2 a3 a4 a5 a6 a7 a8 a9 a10 a11 a12
  obtain ⟨k0, e0, _, s0⟩ := DataW.trod_string Tryz.underlying9 a0
  obtain ⟨k1, e1, _, _⟩ := DataW.trod_int Tryz.underlying3 a1
  obtain ⟨k2, e2, _⟩ := DataW.trod_bool Tryz.underlying4 a2
  obtain ⟨k3, e3, _, _⟩ := DataW.trod_int Tryz.underlying3 a3
  obtain ⟨k4, e4, _, _⟩ := DataW.trod_int Tryz.underlying3 a4
  obtain ⟨k5, e5, _, _⟩ := DataW.trod_int Tryz.underlying3 a5
  obtain ⟨k6, e6, _, _⟩ := DataW.trod_int Tryz.underlying3 a6
  obtain ⟨k7, e7, _, _⟩ := DataW.trod_int Tryz.underlying3 a7
  obtain ⟨k8, e8, _, _⟩ := DataW.trod_int Tryz.underlying3 a8
  obtain ⟨k9, e9, _, _⟩ := DataW.trod_int Tryz.underlying3 a9
  obtain ⟨k10, e10, _, _⟩ := DataW.trod_int Tryz.underlying3 a10
  obtain ⟨k11, e11, _, _⟩ := DataW.trod_int Tryz.underlying3 a11
  obtain ⟨k12, e12, _, _⟩ := DataW.trod_int Tryz.underlying3 a12
  simp only [List.cons.injEq, and_true] at e0 e1 e2 e3 e4 e5 e6 e7 e8 e9 e10 e11 e12
  subst e0 e1 e2 e3 e4 e5 e6 e7 e8 e9 e10 e11 e12
  exact ⟨⟨k0, k1, k2, k3, k4, k5, k6, k7, k8, k9, k10, k11, k12⟩, rfl, s0⟩

theorem open_Svs {H : Type} {enc : TypeId × Value → H} {W : World} {base : Nat} {sp : Nat → Bool} {held : Bool} {fuel : Nat} {v : Value} {x : DataW H × List MemPlace} (h : DataW.trod enc Tryz.prog W base sp held fuel 22 [v] = some x) : ∃ ms, SvsAt W v ms := by
  rcases open_slice Tryz.underlying22' h with ⟨hcs, _⟩ | ⟨a, len, cap, m, n, D, Pl, hcs, _, hl, hm, hmm, _, hc⟩
  · simp only [List.cons.injEq, and_true] at hcs
    exact ⟨[], Or.inl ⟨none, 0, hcs, rfl⟩⟩
  · simp only [List.cons.injEq, and_true] at hcs
    rw [cellsSv] at hc
    have hle : len ≤ m := by rw [hmm]; split <;> omega
    by_cases h0 : len = 0
    · subst h0; exact ⟨[], Or.inl ⟨some a, cap, hcs, rfl⟩⟩
    · obtain ⟨b, off, spot⟩ := a
      have first : ∀ i, i < m → ∃ cs', (∀ j, j < 13 → W.cell? ((Addr.add ⟨b, off, spot⟩ (i * 13)).add j) = cs'[j]?) ∧ DataW.trod enc Tryz.prog W base sp held n 28 cs' = some (D i, Pl i) := by
        intro i hi
        obtain ⟨cs', h1, h2⟩ := hc i hi
        exact ⟨cs', (World.cells?_some h1).2.2, h2⟩
      have hspot : spot = none := by
        obtain ⟨cs', h1, h2⟩ := first 0 (by omega)
        obtain ⟨md, rfl, hs⟩ := open_Sv h2
        have := h1 0 (by omega)
        simp [Addr.add] at this
        simpa using World.cell?_spot this
      subst hspot
      have each : ∀ i, i < len → ∃ md : Sv, SvIs W b (off + i * 13) md := by
        intro i hi
        obtain ⟨cs', h1, h2⟩ := first i (by omega)
        obtain ⟨md, rfl, hs⟩ := open_Sv h2
        rw [add_none] at h1
        have g : ∀ j, j < 13 → W.cell? ⟨b, off + i * 13 + j, none⟩ = [Value.string md.nm, Value.int .i64 md.ver, Value.bool md.gone, Value.int .i64 md.image, Value.int .i64 md.want, Value.int .i64 md.down, Value.int .i64 md.over, Value.int .i64 md.next, Value.int .i64 md.per, Value.int .i64 md.least, Value.int .i64 md.most, Value.int .i64 md.load, Value.int .i64 md.cool][j]? := by
          intro j hj
          have := h1 j hj
          rw [add_none] at this
          exact this
        exact ⟨md, g 0 (by omega), g 1 (by omega), g 2 (by omega), g 3 (by omega), g 4 (by omega), g 5 (by omega), g 6 (by omega), g 7 (by omega), g 8 (by omega), g 9 (by omega), g 10 (by omega), g 11 (by omega), g 12 (by omega), hs⟩
      obtain ⟨ms, hfl, hfs⟩ := list_pick Sv.none each
      have h00 := (hfs 0 (by omega)).c0
      refine ⟨ms, Or.inr ⟨b, off, cap, by rw [hfl]; exact hcs, cell_lt h00, by omega, fun i hi => ?_⟩⟩
      exact hfs i (by omega)

theorem cellsCp : Tryz.prog.cellsOf 73 = 7 := by kernel_rfl
theorem Tryz.underlying23' : Tryz.prog.underlying 23 = some (.slice 73) := by kernel_rfl

theorem open_Cp {H : Type} {enc : TypeId × Value → H} {W : World} {base : Nat} {sp : Nat → Bool} {held : Bool} {fuel : Nat} {cs : List Value} {x : DataW H × List MemPlace} (h : DataW.trod enc Tryz.prog W base sp held fuel 73 cs = some x) :
    ∃ m : Cp, cs = [.string m.svc, .int .i64 m.num, .int .i64 m.ver, .int .i64 m.image, .int .i64 m.state, .bool m.ending, .string m.berth] ∧ m.sized := by
  obtain ⟨xs, n, _, _, hlen, hxs, hall⟩ := DataW.trod_struct Tryz.underlying73 h
  rw [cellsCp] at hlen
  obtain ⟨c0, c1, c2, c3, c4, c5, c6, rfl⟩ := listB7 hlen
  obtain ⟨y0, y1, y2, y3, y4, y5, y6, rfl⟩ := listB7 (l := xs) (by simpa using hxs)
  have a0 := hall 0 _ rfl
  have a1 := hall 1 _ rfl
  have a2 := hall 2 _ rfl
  have a3 := hall 3 _ rfl
  have a4 := hall 4 _ rfl
  have a5 := hall 5 _ rfl
  have a6 := hall 6 _ rfl
  simp [cells9, cells3, cells4] at a0 a1 a2 a3 a4 a5 a6
  obtain ⟨k0, e0, _, s0⟩ := DataW.trod_string Tryz.underlying9 a0
  obtain ⟨k1, e1, _, _⟩ := DataW.trod_int Tryz.underlying3 a1
  obtain ⟨k2, e2, _, _⟩ := DataW.trod_int Tryz.underlying3 a2
  obtain ⟨k3, e3, _, _⟩ := DataW.trod_int Tryz.underlying3 a3
  obtain ⟨k4, e4, _, _⟩ := DataW.trod_int Tryz.underlying3 a4
  obtain ⟨k5, e5, _⟩ := DataW.trod_bool Tryz.underlying4 a5
  obtain ⟨k6, e6, _, s6⟩ := DataW.trod_string Tryz.underlying9 a6
  simp only [List.cons.injEq, and_true] at e0 e1 e2 e3 e4 e5 e6
  subst e0 e1 e2 e3 e4 e5 e6
  exact ⟨⟨k0, k1, k2, k3, k4, k5, k6⟩, rfl, s0, s6⟩

theorem open_Cps {H : Type} {enc : TypeId × Value → H} {W : World} {base : Nat} {sp : Nat → Bool} {held : Bool} {fuel : Nat} {v : Value} {x : DataW H × List MemPlace} (h : DataW.trod enc Tryz.prog W base sp held fuel 23 [v] = some x) : ∃ ms, CpsAt W v ms := by
  rcases open_slice Tryz.underlying23' h with ⟨hcs, _⟩ | ⟨a, len, cap, m, n, D, Pl, hcs, _, hl, hm, hmm, _, hc⟩
  · simp only [List.cons.injEq, and_true] at hcs
    exact ⟨[], Or.inl ⟨none, 0, hcs, rfl⟩⟩
  · simp only [List.cons.injEq, and_true] at hcs
    rw [cellsCp] at hc
    have hle : len ≤ m := by rw [hmm]; split <;> omega
    by_cases h0 : len = 0
    · subst h0; exact ⟨[], Or.inl ⟨some a, cap, hcs, rfl⟩⟩
    · obtain ⟨b, off, spot⟩ := a
      have first : ∀ i, i < m → ∃ cs', (∀ j, j < 7 → W.cell? ((Addr.add ⟨b, off, spot⟩ (i * 7)).add j) = cs'[j]?) ∧ DataW.trod enc Tryz.prog W base sp held n 73 cs' = some (D i, Pl i) := by
        intro i hi
        obtain ⟨cs', h1, h2⟩ := hc i hi
        exact ⟨cs', (World.cells?_some h1).2.2, h2⟩
      have hspot : spot = none := by
        obtain ⟨cs', h1, h2⟩ := first 0 (by omega)
        obtain ⟨md, rfl, hs⟩ := open_Cp h2
        have := h1 0 (by omega)
        simp [Addr.add] at this
        simpa using World.cell?_spot this
      subst hspot
      have each : ∀ i, i < len → ∃ md : Cp, CpIs W b (off + i * 7) md := by
        intro i hi
        obtain ⟨cs', h1, h2⟩ := first i (by omega)
        obtain ⟨md, rfl, hs⟩ := open_Cp h2
        rw [add_none] at h1
        have g : ∀ j, j < 7 → W.cell? ⟨b, off + i * 7 + j, none⟩ = [Value.string md.svc, Value.int .i64 md.num, Value.int .i64 md.ver, Value.int .i64 md.image, Value.int .i64 md.state, Value.bool md.ending, Value.string md.berth][j]? := by
          intro j hj
          have := h1 j hj
          rw [add_none] at this
          exact this
        exact ⟨md, g 0 (by omega), g 1 (by omega), g 2 (by omega), g 3 (by omega), g 4 (by omega), g 5 (by omega), g 6 (by omega), hs⟩
      obtain ⟨ms, hfl, hfs⟩ := list_pick Cp.none each
      have h00 := (hfs 0 (by omega)).c0
      refine ⟨ms, Or.inr ⟨b, off, cap, by rw [hfl]; exact hcs, cell_lt h00, by omega, fun i hi => ?_⟩⟩
      exact hfs i (by omega)

theorem cellsBt : Tryz.prog.cellsOf 76 = 2 := by kernel_rfl
theorem Tryz.underlying24' : Tryz.prog.underlying 24 = some (.slice 76) := by kernel_rfl

theorem open_Bt {H : Type} {enc : TypeId × Value → H} {W : World} {base : Nat} {sp : Nat → Bool} {held : Bool} {fuel : Nat} {cs : List Value} {x : DataW H × List MemPlace} (h : DataW.trod enc Tryz.prog W base sp held fuel 76 cs = some x) :
    ∃ m : Bt, cs = [.string m.nm, .bool m.drain] ∧ m.sized := by
  obtain ⟨xs, n, _, _, hlen, hxs, hall⟩ := DataW.trod_struct Tryz.underlying76 h
  rw [cellsBt] at hlen
  obtain ⟨c0, c1, rfl⟩ := listB2 hlen
  obtain ⟨y0, y1, rfl⟩ := listB2 (l := xs) (by simpa using hxs)
  have a0 := hall 0 _ rfl
  have a1 := hall 1 _ rfl
  simp [cells9, cells4] at a0 a1
  obtain ⟨k0, e0, _, s0⟩ := DataW.trod_string Tryz.underlying9 a0
  obtain ⟨k1, e1, _⟩ := DataW.trod_bool Tryz.underlying4 a1
  simp only [List.cons.injEq, and_true] at e0 e1
  subst e0 e1
  exact ⟨⟨k0, k1⟩, rfl, s0⟩

theorem open_Bts {H : Type} {enc : TypeId × Value → H} {W : World} {base : Nat} {sp : Nat → Bool} {held : Bool} {fuel : Nat} {v : Value} {x : DataW H × List MemPlace} (h : DataW.trod enc Tryz.prog W base sp held fuel 24 [v] = some x) : ∃ ms, BtsAt W v ms := by
  rcases open_slice Tryz.underlying24' h with ⟨hcs, _⟩ | ⟨a, len, cap, m, n, D, Pl, hcs, _, hl, hm, hmm, _, hc⟩
  · simp only [List.cons.injEq, and_true] at hcs
    exact ⟨[], Or.inl ⟨none, 0, hcs, rfl⟩⟩
  · simp only [List.cons.injEq, and_true] at hcs
    rw [cellsBt] at hc
    have hle : len ≤ m := by rw [hmm]; split <;> omega
    by_cases h0 : len = 0
    · subst h0; exact ⟨[], Or.inl ⟨some a, cap, hcs, rfl⟩⟩
    · obtain ⟨b, off, spot⟩ := a
      have first : ∀ i, i < m → ∃ cs', (∀ j, j < 2 → W.cell? ((Addr.add ⟨b, off, spot⟩ (i * 2)).add j) = cs'[j]?) ∧ DataW.trod enc Tryz.prog W base sp held n 76 cs' = some (D i, Pl i) := by
        intro i hi
        obtain ⟨cs', h1, h2⟩ := hc i hi
        exact ⟨cs', (World.cells?_some h1).2.2, h2⟩
      have hspot : spot = none := by
        obtain ⟨cs', h1, h2⟩ := first 0 (by omega)
        obtain ⟨md, rfl, hs⟩ := open_Bt h2
        have := h1 0 (by omega)
        simp [Addr.add] at this
        simpa using World.cell?_spot this
      subst hspot
      have each : ∀ i, i < len → ∃ md : Bt, BtIs W b (off + i * 2) md := by
        intro i hi
        obtain ⟨cs', h1, h2⟩ := first i (by omega)
        obtain ⟨md, rfl, hs⟩ := open_Bt h2
        rw [add_none] at h1
        have g : ∀ j, j < 2 → W.cell? ⟨b, off + i * 2 + j, none⟩ = [Value.string md.nm, Value.bool md.drain][j]? := by
          intro j hj
          have := h1 j hj
          rw [add_none] at this
          exact this
        exact ⟨md, g 0 (by omega), g 1 (by omega), hs⟩
      obtain ⟨ms, hfl, hfs⟩ := list_pick Bt.none each
      have h00 := (hfs 0 (by omega)).c0
      refine ⟨ms, Or.inr ⟨b, off, cap, by rw [hfl]; exact hcs, cell_lt h00, by omega, fun i hi => ?_⟩⟩
      exact hfs i (by omega)

theorem cellsSB : Tryz.prog.cellsOf 26 = 4 := by kernel_rfl
theorem cellsSB0 : Tryz.prog.cellsOf 22 = 1 := by kernel_rfl
theorem cellsSB1 : Tryz.prog.cellsOf 23 = 1 := by kernel_rfl
theorem cellsSB2 : Tryz.prog.cellsOf 24 = 1 := by kernel_rfl

theorem open_sbook {H : Type} {enc : TypeId × Value → H} {W : World} {base : Nat} {sp : Nat → Bool} {held : Bool} {fuel : Nat} {cs : List Value} {x : DataW H × List MemPlace} (h : DataW.trod enc Tryz.prog W base sp held fuel 26 cs = some x) :
    ∃ (K : SBk) (v0 v1 v2 : Value), cs = [.int .i64 K.now, v0, v1, v2] ∧ SBkAt W v0 v1 v2 K := by
  obtain ⟨xs, n, _, _, hlen, hxs, hall⟩ := DataW.trod_struct Tryz.underlying26 h
  rw [cellsSB] at hlen
  obtain ⟨c0, c1, c2, c3, rfl⟩ := listB4 hlen
  obtain ⟨y0, y1, y2, y3, rfl⟩ := listB4 (l := xs) (by simpa using hxs)
  have a0 := hall 0 _ rfl
  have a1 := hall 1 _ rfl
  have a2 := hall 2 _ rfl
  have a3 := hall 3 _ rfl
  simp [cells3, cellsSB0, cellsSB1, cellsSB2] at a0 a1 a2 a3
  obtain ⟨k0, e0, _, _⟩ := DataW.trod_int Tryz.underlying3 a0
  obtain ⟨m1, t1⟩ := open_Svs a1
  obtain ⟨m2, t2⟩ := open_Cps a2
  obtain ⟨m3, t3⟩ := open_Bts a3
  simp only [List.cons.injEq, and_true] at e0
  subst e0
  exact ⟨⟨k0, m1, m2, m3⟩, c1, c2, c3, rfl, ⟨t1, t2, t3⟩⟩

end Go.Proofs.YtclagbakddkjcaaGreat
