/-
  What reads as a recorder lies in memory as the walks ask it.
-/
import Derived.Test.YtejhknclhdbgfaaMemRr
import Derived.Test.YtejhknclhdbgfaaOpenRm
namespace Go.Proofs.Ytejhknclhdbgfaa
open Go.ChangeShapes Go.WideShapes Go.ChangeAt Go.RowKit Go.Deep

theorem open_Nus {H : Type} {enc : TypeId × Value → H} {W : World} {base : Nat} {sp : Nat → Bool} {held : Bool} {fuel : Nat} {v : Value} {x : DataW H × List MemPlace} (h : DataW.trod enc Try.prog W base sp held fuel 41 [v] = some x) : ∃ ms, NusAt W v ms := by
  rcases open_slice Try.underNu h with ⟨hcs, _⟩ | ⟨a, len, cap, m, n, D, Pl, hcs, _, hl, hm, hmm, _, hc⟩
  · simp only [List.cons.injEq, and_true] at hcs
    exact ⟨[], Or.inl ⟨none, 0, hcs, rfl⟩⟩
  · simp only [List.cons.injEq, and_true] at hcs
    rw [cells3] at hc
    have hle : len ≤ m := by rw [hmm]; split <;> omega
    by_cases h0 : len = 0
    · subst h0; exact ⟨[], Or.inl ⟨some a, cap, hcs, rfl⟩⟩
    · obtain ⟨b, off, spot⟩ := a
      have first : ∀ i, i < m → ∃ cs', (∀ j, j < 1 → W.cell? ((Addr.add ⟨b, off, spot⟩ (i * 1)).add j) = cs'[j]?) ∧ DataW.trod enc Try.prog W base sp held n 3 cs' = some (D i, Pl i) := by
        intro i hi
        obtain ⟨cs', h1, h2⟩ := hc i hi
        exact ⟨cs', (World.cells?_some h1).2.2, h2⟩
      have hspot : spot = none := by
        obtain ⟨cs', h1, h2⟩ := first 0 (by omega)
        obtain ⟨md, e, _, _⟩ := DataW.trod_int Try.underlying3 h2
        subst e
        have := h1 0 (by omega)
        simp [Addr.add] at this
        simpa using World.cell?_spot this
      subst hspot
      have each : ∀ i, i < len → ∃ md : Int, W.cell? ⟨b, off + i, none⟩ = some (.int .i64 md) := by
        intro i hi
        obtain ⟨cs', h1, h2⟩ := first i (by omega)
        obtain ⟨md, e, _, _⟩ := DataW.trod_int Try.underlying3 h2
        subst e
        have := h1 0 (by omega)
        rw [add_none, add_none, Nat.mul_one, Nat.add_zero] at this
        exact ⟨md, this⟩
      obtain ⟨ms, hfl, hfs⟩ := list_pick 0 each
      have h00 := hfs 0 (by omega)
      refine ⟨ms, Or.inr ⟨b, off, cap, by rw [hfl]; exact hcs, cell_lt h00, by omega, fun i hi => ?_⟩⟩
      exact hfs i (by omega)

theorem open_Txs {H : Type} {enc : TypeId × Value → H} {W : World} {base : Nat} {sp : Nat → Bool} {held : Bool} {fuel : Nat} {v : Value} {x : DataW H × List MemPlace} (h : DataW.trod enc Try.prog W base sp held fuel 40 [v] = some x) : ∃ ms, TxsAt W v ms := by
  rcases open_slice Try.underTx h with ⟨hcs, _⟩ | ⟨a, len, cap, m, n, D, Pl, hcs, _, hl, hm, hmm, _, hc⟩
  · simp only [List.cons.injEq, and_true] at hcs
    exact ⟨[], Or.inl ⟨none, 0, hcs, rfl⟩⟩
  · simp only [List.cons.injEq, and_true] at hcs
    rw [cells9] at hc
    have hle : len ≤ m := by rw [hmm]; split <;> omega
    by_cases h0 : len = 0
    · subst h0; exact ⟨[], Or.inl ⟨some a, cap, hcs, rfl⟩⟩
    · obtain ⟨b, off, spot⟩ := a
      have first : ∀ i, i < m → ∃ cs', (∀ j, j < 1 → W.cell? ((Addr.add ⟨b, off, spot⟩ (i * 1)).add j) = cs'[j]?) ∧ DataW.trod enc Try.prog W base sp held n 9 cs' = some (D i, Pl i) := by
        intro i hi
        obtain ⟨cs', h1, h2⟩ := hc i hi
        exact ⟨cs', (World.cells?_some h1).2.2, h2⟩
      have hspot : spot = none := by
        obtain ⟨cs', h1, h2⟩ := first 0 (by omega)
        obtain ⟨md, e, _, s0⟩ := DataW.trod_string Try.underlying9 h2
        subst e
        have := h1 0 (by omega)
        simp [Addr.add] at this
        simpa using World.cell?_spot this
      subst hspot
      have each : ∀ i, i < len → ∃ md : ByteArray, W.cell? ⟨b, off + i, none⟩ = some (.string md) ∧ md.size ≤ maxLen := by
        intro i hi
        obtain ⟨cs', h1, h2⟩ := first i (by omega)
        obtain ⟨md, e, _, s0⟩ := DataW.trod_string Try.underlying9 h2
        subst e
        have := h1 0 (by omega)
        rw [add_none, add_none, Nat.mul_one, Nat.add_zero] at this
        exact ⟨md, ⟨this, s0⟩⟩
      obtain ⟨ms, hfl, hfs⟩ := list_pick ByteArray.empty each
      have h00 := (hfs 0 (by omega)).1
      refine ⟨ms, Or.inr ⟨b, off, cap, by rw [hfl]; exact hcs, cell_lt h00, by omega, fun i hi => ?_⟩⟩
      exact hfs i (by omega)

theorem cellsRA : Try.prog.cellsOf 111 = 2 := by kernel_rfl
theorem cellsRA_0 : Try.prog.cellsOf 41 = 1 := by kernel_rfl
theorem open_rack {H : Type} {enc : TypeId × Value → H} {W : World} {base : Nat} {sp : Nat → Bool} {held : Bool} {fuel : Nat} {cs : List Value} {x : DataW H × List MemPlace} (h : DataW.trod enc Try.prog W base sp held fuel 111 cs = some x) :
    ∃ (K : Ra) (v0 : Value), cs = [.int .i64 K.ix, v0] ∧ RaAt W v0 K := by
  obtain ⟨xs, n, _, _, hlen, hxs, hall⟩ := DataW.trod_struct Try.underlying111 h
  rw [cellsRA] at hlen
  obtain ⟨c0, c1, rfl⟩ := listB2 hlen
  obtain ⟨y0, y1, rfl⟩ := listB2 (l := xs) (by simpa using hxs)
  have a0 := hall 0 _ rfl
  have a1 := hall 1 _ rfl
  simp [cells3, cellsRA_0] at a0 a1
  obtain ⟨k0, e0, _, _⟩ := DataW.trod_int Try.underlying3 a0
  obtain ⟨m1, h1⟩ := open_Nus a1
  simp only [List.cons.injEq, and_true] at e0
  subst e0
  exact ⟨⟨k0, m1⟩, c1, rfl, ⟨h1⟩⟩

theorem Try.underRmL : Try.prog.underlying 49 = some (.slice 58) := by kernel_rfl
theorem open_Rms {H : Type} {enc : TypeId × Value → H} {W : World} {base : Nat} {sp : Nat → Bool} {held : Bool} {fuel : Nat} {v : Value} {x : DataW H × List MemPlace} (h : DataW.trod enc Try.prog W base sp held fuel 49 [v] = some x) : ∃ ms, RmsAt W v ms := by
  rcases open_slice Try.underRmL h with ⟨hcs, _⟩ | ⟨a, len, cap, m, n, D, Pl, hcs, _, hl, hm, hmm, _, hc⟩
  · simp only [List.cons.injEq, and_true] at hcs
    exact ⟨[], Or.inl ⟨none, 0, hcs, rfl⟩⟩
  · simp only [List.cons.injEq, and_true] at hcs
    rw [cellsRM] at hc
    have hle : len ≤ m := by rw [hmm]; split <;> omega
    by_cases h0 : len = 0
    · subst h0; exact ⟨[], Or.inl ⟨some a, cap, hcs, rfl⟩⟩
    · obtain ⟨b, off, spot⟩ := a
      have first : ∀ i, i < m → ∃ cs', (∀ j, j < 8 → W.cell? ((Addr.add ⟨b, off, spot⟩ (i * 8)).add j) = cs'[j]?) ∧ DataW.trod enc Try.prog W base sp held n 58 cs' = some (D i, Pl i) := by
        intro i hi
        obtain ⟨cs', h1, h2⟩ := hc i hi
        exact ⟨cs', (World.cells?_some h1).2.2, h2⟩
      have hspot : spot = none := by
        obtain ⟨cs', h1, h2⟩ := first 0 (by omega)
        obtain ⟨K, v0, rfl, hs⟩ := open_rmsg h2
        have := h1 0 (by omega)
        simp [Addr.add] at this
        simpa using World.cell?_spot this
      subst hspot
      have each : ∀ i, i < len → ∃ md : Rm, RmC W b (off + i * 8) md := by
        intro i hi
        obtain ⟨cs', h1, h2⟩ := first i (by omega)
        obtain ⟨K, v0, rfl, hs⟩ := open_rmsg h2
        rw [add_none] at h1
        have g : ∀ j, j < 8 → W.cell? ⟨b, off + i * 8 + j, none⟩ = [Value.int .i64 K.kind, Value.int .i64 K.frm, Value.int .i64 K.to_, Value.int .i64 K.bal, Value.int .i64 K.ix, Value.int .i64 K.known, Value.string K.txt, v0][j]? := by
          intro j hj
          have := h1 j hj
          rw [add_none] at this
          exact this
        exact ⟨K, v0, g 0 (by omega), g 1 (by omega), g 2 (by omega), g 3 (by omega), g 4 (by omega), g 5 (by omega), g 6 (by omega), g 7 (by omega), hs⟩
      obtain ⟨ms, hfl, hfs⟩ := list_pick Rm.none each
      obtain ⟨_, h00, _⟩ := hfs 0 (by omega)
      refine ⟨ms, Or.inr ⟨b, off, cap, by rw [hfl]; exact hcs, cell_lt h00, by omega, fun i hi => ?_⟩⟩
      exact hfs i (by omega)

theorem Try.underRaL : Try.prog.underlying 50 = some (.slice 111) := by kernel_rfl
theorem open_Ras {H : Type} {enc : TypeId × Value → H} {W : World} {base : Nat} {sp : Nat → Bool} {held : Bool} {fuel : Nat} {v : Value} {x : DataW H × List MemPlace} (h : DataW.trod enc Try.prog W base sp held fuel 50 [v] = some x) : ∃ ms, RasAt W v ms := by
  rcases open_slice Try.underRaL h with ⟨hcs, _⟩ | ⟨a, len, cap, m, n, D, Pl, hcs, _, hl, hm, hmm, _, hc⟩
  · simp only [List.cons.injEq, and_true] at hcs
    exact ⟨[], Or.inl ⟨none, 0, hcs, rfl⟩⟩
  · simp only [List.cons.injEq, and_true] at hcs
    rw [cellsRA] at hc
    have hle : len ≤ m := by rw [hmm]; split <;> omega
    by_cases h0 : len = 0
    · subst h0; exact ⟨[], Or.inl ⟨some a, cap, hcs, rfl⟩⟩
    · obtain ⟨b, off, spot⟩ := a
      have first : ∀ i, i < m → ∃ cs', (∀ j, j < 2 → W.cell? ((Addr.add ⟨b, off, spot⟩ (i * 2)).add j) = cs'[j]?) ∧ DataW.trod enc Try.prog W base sp held n 111 cs' = some (D i, Pl i) := by
        intro i hi
        obtain ⟨cs', h1, h2⟩ := hc i hi
        exact ⟨cs', (World.cells?_some h1).2.2, h2⟩
      have hspot : spot = none := by
        obtain ⟨cs', h1, h2⟩ := first 0 (by omega)
        obtain ⟨K, v0, rfl, hs⟩ := open_rack h2
        have := h1 0 (by omega)
        simp [Addr.add] at this
        simpa using World.cell?_spot this
      subst hspot
      have each : ∀ i, i < len → ∃ md : Ra, RaC W b (off + i * 2) md := by
        intro i hi
        obtain ⟨cs', h1, h2⟩ := first i (by omega)
        obtain ⟨K, v0, rfl, hs⟩ := open_rack h2
        rw [add_none] at h1
        have g : ∀ j, j < 2 → W.cell? ⟨b, off + i * 2 + j, none⟩ = [Value.int .i64 K.ix, v0][j]? := by
          intro j hj
          have := h1 j hj
          rw [add_none] at this
          exact this
        exact ⟨K, v0, g 0 (by omega), g 1 (by omega), hs⟩
      obtain ⟨ms, hfl, hfs⟩ := list_pick Ra.none each
      obtain ⟨_, h00, _⟩ := hfs 0 (by omega)
      refine ⟨ms, Or.inr ⟨b, off, cap, by rw [hfl]; exact hcs, cell_lt h00, by omega, fun i hi => ?_⟩⟩
      exact hfs i (by omega)

theorem listB18 {α : Type} {l : List α} (h : l.length = 18) : ∃ c0 c1 c2 c3 c4 c5 c6 c7 c8 c9 c10 c11 c12 c13 c14 c15 c16 c17, l = [c0, c1, c2, c3, c4, c5, c6, c7, c8, c9, c10, c11, c12, c13, c14, c15, c16, c17] := by
  match l, h with
  | [c0, c1, c2, c3, c4, c5, c6, c7, c8, c9, c10, c11, c12, c13, c14, c15, c16, c17], _ => exact ⟨c0, c1, c2, c3, c4, c5, c6, c7, c8, c9, c10, c11, c12, c13, c14, c15, c16, c17, rfl⟩
theorem listB14 {α : Type} {l : List α} (h : l.length = 14) : ∃ c0 c1 c2 c3 c4 c5 c6 c7 c8 c9 c10 c11 c12 c13, l = [c0, c1, c2, c3, c4, c5, c6, c7, c8, c9, c10, c11, c12, c13] := by
  match l, h with
  | [c0, c1, c2, c3, c4, c5, c6, c7, c8, c9, c10, c11, c12, c13], _ => exact ⟨c0, c1, c2, c3, c4, c5, c6, c7, c8, c9, c10, c11, c12, c13, rfl⟩
theorem cellsRR : Try.prog.cellsOf 52 = 18 := by kernel_rfl
theorem cellsRR_Rm : Try.prog.cellsOf 49 = 1 := by kernel_rfl
theorem cellsRR_Tx : Try.prog.cellsOf 40 = 1 := by kernel_rfl
theorem cellsRR_Nu : Try.prog.cellsOf 41 = 1 := by kernel_rfl
theorem cellsRR_Rs : Try.prog.cellsOf 22 = 1 := by kernel_rfl
theorem cellsRR_Ra : Try.prog.cellsOf 50 = 1 := by kernel_rfl
theorem open_rec {H : Type} {enc : TypeId × Value → H} {W : World} {base : Nat} {sp : Nat → Bool} {held : Bool} {fuel : Nat} {cs : List Value} {x : DataW H × List MemPlace} (h : DataW.trod enc Try.prog W base sp held fuel 52 cs = some x) :
    ∃ (K : Rr) (v0 v1 v2 v3 v4 v5 v6 : Value), cs = [.int .i64 K.num, .int .i64 K.of_, .bool K.up, .int .i64 K.safe.prom, .int .i64 K.safe.known, v0, .int .i64 K.disk.prom, .int .i64 K.disk.known, v1, v2, v3, .bool K.lead, .bool K.try_, .int .i64 K.bal, v4, v5, v6, .int .i64 K.heard] ∧ RrAt W v0 v1 v2 v3 v4 v5 v6 K := by
  obtain ⟨xs, n, _, _, hlen, hxs, hall⟩ := DataW.trod_struct Try.underlying52 h
  rw [cellsRR] at hlen
  obtain ⟨c0, c1, c2, c3, c4, c5, c6, c7, c8, c9, c10, c11, c12, c13, c14, c15, c16, c17, rfl⟩ := listB18 hlen
  obtain ⟨y0, y1, y2, y3, y4, y5, y6, y7, y8, y9, y10, y11, y12, y13, rfl⟩ := listB14 (l := xs) (by simpa using hxs)
  have a0 := hall 0 _ rfl
  have a1 := hall 1 _ rfl
  have a2 := hall 2 _ rfl
  have a3 := hall 3 _ rfl
  have a4 := hall 4 _ rfl
  have a5 := hall 5 _ rfl
  have a6 := hall 6 _ rfl
  have a7 := hall 7 _ rfl
  have a8 := hall 8 _ rfl
  have a9 := hall 9 _ rfl
  have a10 := hall 10 _ rfl
  have a11 := hall 11 _ rfl
  have a12 := hall 12 _ rfl
  have a13 := hall 13 _ rfl
  simp [cells3, cells4, cellsRD, cellsRR_Rm, cellsRR_Tx, cellsRR_Nu, cellsRR_Rs, cellsRR_Ra] at a0 a1 a2 a3 a4 a5 a6 a7 a8 a9 a10 a11 a12 a13
  obtain ⟨k0, e0, _, _⟩ := DataW.trod_int Try.underlying3 a0
  obtain ⟨k1, e1, _, _⟩ := DataW.trod_int Try.underlying3 a1
  obtain ⟨k2, e2, _⟩ := DataW.trod_bool Try.underlying4 a2
  obtain ⟨k3, u3, e3, h3⟩ := open_rdisk a3
  obtain ⟨k4, u4, e4, h4⟩ := open_rdisk a4
  obtain ⟨m5, h5⟩ := open_Rms a5
  obtain ⟨m6, h6⟩ := open_Txs a6
  obtain ⟨k7, e7, _⟩ := DataW.trod_bool Try.underlying4 a7
  obtain ⟨k8, e8, _⟩ := DataW.trod_bool Try.underlying4 a8
  obtain ⟨k9, e9, _, _⟩ := DataW.trod_int Try.underlying3 a9
  obtain ⟨m10, h10⟩ := open_Nus a10
  obtain ⟨m11, h11⟩ := open_Rss a11
  obtain ⟨m12, h12⟩ := open_Ras a12
  obtain ⟨k13, e13, _, _⟩ := DataW.trod_int Try.underlying3 a13
  simp only [List.cons.injEq, and_true] at e0 e1 e2 e3 e4 e7 e8 e9 e13
  obtain ⟨f3, g3, j3⟩ := e3
  obtain ⟨f4, g4, j4⟩ := e4
  subst e0 e1 e2 f3 g3 j3 f4 g4 j4 e7 e8 e9 e13
  exact ⟨⟨k0, k1, k2, k3, k4, m5, m6, k7, k8, k9, m10, m11, m12, k13⟩, c5, c8, c9, c10, c14, c15, c16, rfl, ⟨h3.l0, h4.l0, h5, h6, h10, h11, h12⟩⟩

end Go.Proofs.Ytejhknclhdbgfaa
