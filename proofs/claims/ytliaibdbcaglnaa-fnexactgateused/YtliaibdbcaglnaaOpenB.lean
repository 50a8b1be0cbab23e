/-
  What reads as a book lies in memory as the walks ask it.
-/
import Derived.Test.YtliaibdbcaglnaaMemB
import Derived.Test.YtliaibdbcaglnaaOpenF
import Derived.Test.YtliaibdbcaglnaaOpenR
namespace Go.Proofs.Ytliaibdbcaglnaa
open Go.ChangeShapes Go.WideShapes Go.ChangeAt Go.RowKit Go.Deep

theorem cellsBook : Try.prog.cellsOf 49 = 7 := by kernel_rfl
theorem cellsBk0 : Try.prog.cellsOf 44 = 1 := by kernel_rfl
theorem cellsBk1 : Try.prog.cellsOf 45 = 1 := by kernel_rfl
theorem cellsBk2 : Try.prog.cellsOf 46 = 1 := by kernel_rfl
theorem cellsBk3 : Try.prog.cellsOf 47 = 1 := by kernel_rfl
theorem cellsOb : Try.prog.cellsOf 29 = 7 := by kernel_rfl
theorem cellsGr : Try.prog.cellsOf 123 = 7 := by kernel_rfl
theorem cellsRl : Try.prog.cellsOf 121 = 4 := by kernel_rfl
theorem cellsLg : Try.prog.cellsOf 126 = 4 := by kernel_rfl
theorem cellsPs : Try.prog.cellsOf 129 = 5 := by kernel_rfl

theorem listB4 {α : Type} {l : List α} (h : l.length = 4) : ∃ c0 c1 c2 c3, l = [c0, c1, c2, c3] := by
  match l, h with
  | [c0, c1, c2, c3], _ => exact ⟨c0, c1, c2, c3, rfl⟩
theorem listB5 {α : Type} {l : List α} (h : l.length = 5) : ∃ c0 c1 c2 c3 c4, l = [c0, c1, c2, c3, c4] := by
  match l, h with
  | [c0, c1, c2, c3, c4], _ => exact ⟨c0, c1, c2, c3, c4, rfl⟩
theorem listB7 {α : Type} {l : List α} (h : l.length = 7) : ∃ c0 c1 c2 c3 c4 c5 c6, l = [c0, c1, c2, c3, c4, c5, c6] := by
  match l, h with
  | [c0, c1, c2, c3, c4, c5, c6], _ => exact ⟨c0, c1, c2, c3, c4, c5, c6, rfl⟩

section
variable {H : Type} {enc : TypeId × Value → H} {W : World} {base : Nat} {sp : Nat → Bool} {held : Bool}

theorem open_Lg {fuel : Nat} {cs : List Value} {x : DataW H × List MemPlace} (h : DataW.trod enc Try.prog W base sp held fuel 126 cs = some x) :
    ∃ m : Lg, cs = [.string m.team, .string m.res, .int .i64 m.most, .int .i64 m.free] ∧ m.sized := by
  obtain ⟨xs, n, _, _, hlen, hxs, hall⟩ := DataW.trod_struct Try.underlying126 h
  rw [cellsLg] at hlen
  obtain ⟨c0, c1, c2, c3, rfl⟩ := listB4 hlen
  obtain ⟨y0, y1, y2, y3, rfl⟩ := listB4 (l := xs) (by simpa using hxs)
  have a0 := hall 0 _ rfl
  have a1 := hall 1 _ rfl
  have a2 := hall 2 _ rfl
  have a3 := hall 3 _ rfl
  simp [cells9, cells3] at a0 a1 a2 a3
  obtain ⟨k0, e0, _, s0⟩ := DataW.trod_string Try.underlying9 a0
  obtain ⟨k1, e1, _, s1⟩ := DataW.trod_string Try.underlying9 a1
  obtain ⟨k2, e2, _, _⟩ := DataW.trod_int Try.underlying3 a2
  obtain ⟨k3, e3, _, _⟩ := DataW.trod_int Try.underlying3 a3
  simp only [List.cons.injEq, and_true] at e0 e1 e2 e3
  subst e0 e1 e2 e3
  exact ⟨⟨k0, k1, k2, k3⟩, rfl, s0, s1⟩

theorem open_Ps {fuel : Nat} {cs : List Value} {x : DataW H × List MemPlace} (h : DataW.trod enc Try.prog W base sp held fuel 129 cs = some x) :
    ∃ m : Ps, cs = [.string m.door, .string m.team, .string m.res, .int .i64 m.amount, .int .i64 m.til] ∧ m.sized := by
  obtain ⟨xs, n, _, _, hlen, hxs, hall⟩ := DataW.trod_struct Try.underlying129 h
  rw [cellsPs] at hlen
  obtain ⟨c0, c1, c2, c3, c4, rfl⟩ := listB5 hlen
  obtain ⟨y0, y1, y2, y3, y4, rfl⟩ := listB5 (l := xs) (by simpa using hxs)
  have a0 := hall 0 _ rfl
  have a1 := hall 1 _ rfl
  have a2 := hall 2 _ rfl
  have a3 := hall 3 _ rfl
  have a4 := hall 4 _ rfl
  simp [cells9, cells3] at a0 a1 a2 a3 a4
  obtain ⟨k0, e0, _, s0⟩ := DataW.trod_string Try.underlying9 a0
  obtain ⟨k1, e1, _, s1⟩ := DataW.trod_string Try.underlying9 a1
  obtain ⟨k2, e2, _, s2⟩ := DataW.trod_string Try.underlying9 a2
  obtain ⟨k3, e3, _, _⟩ := DataW.trod_int Try.underlying3 a3
  obtain ⟨k4, e4, _, _⟩ := DataW.trod_int Try.underlying3 a4
  simp only [List.cons.injEq, and_true] at e0 e1 e2 e3 e4
  subst e0 e1 e2 e3 e4
  exact ⟨⟨k0, k1, k2, k3, k4⟩, rfl, s0, s1, s2⟩

theorem open_Lgs {fuel : Nat} {v : Value} {x : DataW H × List MemPlace} (h : DataW.trod enc Try.prog W base sp held fuel 46 [v] = some x) : ∃ ms, LgsAt W v ms := by
  rcases open_slice Try.underlying46 h with ⟨hcs, _⟩ | ⟨a, len, cap, m, n, D, Pl, hcs, _, hl, hm, hmm, _, hc⟩
  · simp only [List.cons.injEq, and_true] at hcs
    exact ⟨[], Or.inl ⟨none, 0, hcs, rfl⟩⟩
  · simp only [List.cons.injEq, and_true] at hcs
    rw [cellsLg] at hc
    have hle : len ≤ m := by rw [hmm]; split <;> omega
    by_cases h0 : len = 0
    · subst h0; exact ⟨[], Or.inl ⟨some a, cap, hcs, rfl⟩⟩
    · obtain ⟨b, off, spot⟩ := a
      have first : ∀ i, i < m → ∃ cs', (∀ j, j < 4 → W.cell? ((Addr.add ⟨b, off, spot⟩ (i * 4)).add j) = cs'[j]?) ∧ DataW.trod enc Try.prog W base sp held n 126 cs' = some (D i, Pl i) := by
        intro i hi
        obtain ⟨cs', h1, h2⟩ := hc i hi
        exact ⟨cs', (World.cells?_some h1).2.2, h2⟩
      have hspot : spot = none := by
        obtain ⟨cs', h1, h2⟩ := first 0 (by omega)
        obtain ⟨md, rfl, hs⟩ := open_Lg h2
        have := h1 0 (by omega)
        simp [Addr.add] at this
        simpa using World.cell?_spot this
      subst hspot
      have each : ∀ i, i < len → ∃ md : Lg, LgIs W b (off + i * 4) md := by
        intro i hi
        obtain ⟨cs', h1, h2⟩ := first i (by omega)
        obtain ⟨md, rfl, hs⟩ := open_Lg h2
        rw [add_none] at h1
        have g : ∀ j, j < 4 → W.cell? ⟨b, off + i * 4 + j, none⟩ = [Value.string md.team, Value.string md.res, Value.int .i64 md.most, Value.int .i64 md.free][j]? := by
          intro j hj
          have := h1 j hj
          rw [add_none] at this
          exact this
        exact ⟨md, g 0 (by omega), g 1 (by omega), g 2 (by omega), g 3 (by omega), hs⟩
      obtain ⟨ms, hfl, hfs⟩ := list_pick Lg.none each
      have h00 := (hfs 0 (by omega)).c0
      refine ⟨ms, Or.inr ⟨b, off, cap, by rw [hfl]; exact hcs, cell_lt h00, by omega, fun i hi => ?_⟩⟩
      exact hfs i (by omega)

theorem open_Pss {fuel : Nat} {v : Value} {x : DataW H × List MemPlace} (h : DataW.trod enc Try.prog W base sp held fuel 47 [v] = some x) : ∃ ms, PssAt W v ms := by
  rcases open_slice Try.underlying47 h with ⟨hcs, _⟩ | ⟨a, len, cap, m, n, D, Pl, hcs, _, hl, hm, hmm, _, hc⟩
  · simp only [List.cons.injEq, and_true] at hcs
    exact ⟨[], Or.inl ⟨none, 0, hcs, rfl⟩⟩
  · simp only [List.cons.injEq, and_true] at hcs
    rw [cellsPs] at hc
    have hle : len ≤ m := by rw [hmm]; split <;> omega
    by_cases h0 : len = 0
    · subst h0; exact ⟨[], Or.inl ⟨some a, cap, hcs, rfl⟩⟩
    · obtain ⟨b, off, spot⟩ := a
      have first : ∀ i, i < m → ∃ cs', (∀ j, j < 5 → W.cell? ((Addr.add ⟨b, off, spot⟩ (i * 5)).add j) = cs'[j]?) ∧ DataW.trod enc Try.prog W base sp held n 129 cs' = some (D i, Pl i) := by
        intro i hi
        obtain ⟨cs', h1, h2⟩ := hc i hi
        exact ⟨cs', (World.cells?_some h1).2.2, h2⟩
      have hspot : spot = none := by
        obtain ⟨cs', h1, h2⟩ := first 0 (by omega)
        obtain ⟨md, rfl, hs⟩ := open_Ps h2
        have := h1 0 (by omega)
        simp [Addr.add] at this
        simpa using World.cell?_spot this
      subst hspot
      have each : ∀ i, i < len → ∃ md : Ps, PsIs W b (off + i * 5) md := by
        intro i hi
        obtain ⟨cs', h1, h2⟩ := first i (by omega)
        obtain ⟨md, rfl, hs⟩ := open_Ps h2
        rw [add_none] at h1
        have g : ∀ j, j < 5 → W.cell? ⟨b, off + i * 5 + j, none⟩ = [Value.string md.door, Value.string md.team, Value.string md.res, Value.int .i64 md.amount, Value.int .i64 md.til][j]? := by
          intro j hj
          have := h1 j hj
          rw [add_none] at this
          exact this
        exact ⟨md, g 0 (by omega), g 1 (by omega), g 2 (by omega), g 3 (by omega), g 4 (by omega), hs⟩
      obtain ⟨ms, hfl, hfs⟩ := list_pick Ps.none each
      have h00 := (hfs 0 (by omega)).c0
      refine ⟨ms, Or.inr ⟨b, off, cap, by rw [hfl]; exact hcs, cell_lt h00, by omega, fun i hi => ?_⟩⟩
      exact hfs i (by omega)

theorem open_Obs {fuel : Nat} {v : Value} {x : DataW H × List MemPlace} (h : DataW.trod enc Try.prog W base sp held fuel 44 [v] = some x) : ∃ ms, ObsAt W v ms := by
  rcases open_slice Try.underlying44 h with ⟨hcs, _⟩ | ⟨a, len, cap, m, n, D, Pl, hcs, _, hl, hm, hmm, _, hc⟩
  · simp only [List.cons.injEq, and_true] at hcs
    exact ⟨[], Or.inl ⟨none, 0, hcs, rfl⟩⟩
  · simp only [List.cons.injEq, and_true] at hcs
    rw [cellsOb] at hc
    have hle : len ≤ m := by rw [hmm]; split <;> omega
    by_cases h0 : len = 0
    · subst h0; exact ⟨[], Or.inl ⟨some a, cap, hcs, rfl⟩⟩
    · obtain ⟨b, off, spot⟩ := a
      have first : ∀ i, i < m → ∃ cs', (∀ j, j < 7 → W.cell? ((Addr.add ⟨b, off, spot⟩ (i * 7)).add j) = cs'[j]?) ∧ DataW.trod enc Try.prog W base sp held n 29 cs' = some (D i, Pl i) := by
        intro i hi
        obtain ⟨cs', h1, h2⟩ := hc i hi
        exact ⟨cs', (World.cells?_some h1).2.2, h2⟩
      have hspot : spot = none := by
        obtain ⟨cs', h1, h2⟩ := first 0 (by omega)
        obtain ⟨md, u1, u2, rfl, hs, t1, t2⟩ := open_object h2
        have := h1 0 (by omega)
        simp [Addr.add] at this
        simpa using World.cell?_spot this
      subst hspot
      have each : ∀ i, i < len → ∃ md : Ob, ObC W b (off + i * 7) md := by
        intro i hi
        obtain ⟨cs', h1, h2⟩ := first i (by omega)
        obtain ⟨md, u1, u2, rfl, hs, t1, t2⟩ := open_object h2
        rw [add_none] at h1
        have g : ∀ j, j < 7 → W.cell? ⟨b, off + i * 7 + j, none⟩ = [Value.string md.kind, .string md.name, .string md.team, u1, .bool md.ending, u2, .int .i64 md.version][j]? := by
          intro j hj
          have := h1 j hj
          rw [add_none] at this
          exact this
        exact ⟨md, u1, u2, g 0 (by omega), g 1 (by omega), g 2 (by omega), g 3 (by omega), g 4 (by omega), g 5 (by omega), g 6 (by omega), t1, t2, hs⟩
      obtain ⟨ms, hfl, hfs⟩ := list_pick Ob.none each
      obtain ⟨_, _, h00, _⟩ := hfs 0 (by omega)
      refine ⟨ms, Or.inr ⟨b, off, cap, by rw [hfl]; exact hcs, cell_lt h00, by omega, fun i hi => ?_⟩⟩
      exact hfs i (by omega)

theorem open_grant {fuel : Nat} {cs : List Value} {x : DataW H × List MemPlace} (h : DataW.trod enc Try.prog W base sp held fuel 123 cs = some x) :
    ∃ (m : Gr) (ra : Option Addr) (rc : Nat), cs = [Value.int .i64 m.number, .string m.too, .string m.by_, .slice ra m.rule.verbs.length rc, .string m.rule.kind, .string m.rule.team, .string m.rule.pre] ∧ NumsAt W (.slice ra m.rule.verbs.length rc) m.rule.verbs ∧ m.sized := by
  obtain ⟨xs, n, _, _, hlen, hxs, hall⟩ := DataW.trod_struct Try.underlying123 h
  rw [cellsGr] at hlen
  obtain ⟨c0, c1, c2, c3, c4, c5, c6, rfl⟩ := listB7 hlen
  obtain ⟨y0, y1, y2, y3, rfl⟩ := listB4 (l := xs) (by simpa using hxs)
  have a0 := hall 0 _ rfl
  have a1 := hall 1 _ rfl
  have a2 := hall 2 _ rfl
  have a3 := hall 3 _ rfl
  simp [cells9, cells3, cellsRl] at a0 a1 a2 a3
  obtain ⟨k0, e0, _, _⟩ := DataW.trod_int Try.underlying3 a0
  obtain ⟨k1, e1, _, s1⟩ := DataW.trod_string Try.underlying9 a1
  obtain ⟨k2, e2, _, s2⟩ := DataW.trod_string Try.underlying9 a2
  obtain ⟨r, ra, rc, hr, hl, hs, hi⟩ := open_rule a3
  simp only [List.cons.injEq, and_true] at e0 e1 e2 hr
  obtain ⟨rfl, rfl, rfl, rfl⟩ := hr
  subst e0 e1 e2
  exact ⟨⟨k0, k1, k2, r⟩, ra, rc, rfl, hi, s1, s2, hl, hs⟩

theorem open_Grs {fuel : Nat} {v : Value} {x : DataW H × List MemPlace} (h : DataW.trod enc Try.prog W base sp held fuel 45 [v] = some x) : ∃ ms, GrsAt W v ms := by
  rcases open_slice Try.underlying45 h with ⟨hcs, _⟩ | ⟨a, len, cap, m, n, D, Pl, hcs, _, hl, hm, hmm, _, hc⟩
  · simp only [List.cons.injEq, and_true] at hcs
    exact ⟨[], Or.inl ⟨none, 0, hcs, rfl⟩⟩
  · simp only [List.cons.injEq, and_true] at hcs
    rw [cellsGr] at hc
    have hle : len ≤ m := by rw [hmm]; split <;> omega
    by_cases h0 : len = 0
    · subst h0; exact ⟨[], Or.inl ⟨some a, cap, hcs, rfl⟩⟩
    · obtain ⟨b, off, spot⟩ := a
      have first : ∀ i, i < m → ∃ cs', (∀ j, j < 7 → W.cell? ((Addr.add ⟨b, off, spot⟩ (i * 7)).add j) = cs'[j]?) ∧ DataW.trod enc Try.prog W base sp held n 123 cs' = some (D i, Pl i) := by
        intro i hi
        obtain ⟨cs', h1, h2⟩ := hc i hi
        exact ⟨cs', (World.cells?_some h1).2.2, h2⟩
      have hspot : spot = none := by
        obtain ⟨cs', h1, h2⟩ := first 0 (by omega)
        obtain ⟨md, ra, rc, rfl, hi0, hs⟩ := open_grant h2
        have := h1 0 (by omega)
        simp [Addr.add] at this
        simpa using World.cell?_spot this
      subst hspot
      have each : ∀ i, i < len → ∃ md : Gr, GrC W b (off + i * 7) md := by
        intro i hi
        obtain ⟨cs', h1, h2⟩ := first i (by omega)
        obtain ⟨md, ra, rc, rfl, hi0, hs⟩ := open_grant h2
        rw [add_none] at h1
        have g : ∀ j, j < 7 → W.cell? ⟨b, off + i * 7 + j, none⟩ = [Value.int .i64 md.number, .string md.too, .string md.by_, .slice ra md.rule.verbs.length rc, .string md.rule.kind, .string md.rule.team, .string md.rule.pre][j]? := by
          intro j hj
          have := h1 j hj
          rw [add_none] at this
          exact this
        exact ⟨md, ra, rc, g 0 (by omega), g 1 (by omega), g 2 (by omega), g 3 (by omega), g 4 (by omega), g 5 (by omega), g 6 (by omega), hi0, hs⟩
      obtain ⟨ms, hfl, hfs⟩ := list_pick Gr.none each
      obtain ⟨_, _, h00, _⟩ := hfs 0 (by omega)
      refine ⟨ms, Or.inr ⟨b, off, cap, by rw [hfl]; exact hcs, cell_lt h00, by omega, fun i hi => ?_⟩⟩
      exact hfs i (by omega)

theorem open_book {fuel : Nat} {cs : List Value} {x : DataW H × List MemPlace} (h : DataW.trod enc Try.prog W base sp held fuel 49 cs = some x) :
    ∃ (K : Bk) (v0 v1 v2 v3 : Value), cs = [.int .i64 K.now, .int .i64 K.tick, .int .i64 K.given, v0, v1, v2, v3] ∧ BkAt W v0 v1 v2 v3 K := by
  obtain ⟨xs, n, _, _, hlen, hxs, hall⟩ := DataW.trod_struct Try.underlying49 h
  rw [cellsBook] at hlen
  obtain ⟨c0, c1, c2, c3, c4, c5, c6, rfl⟩ := listB7 hlen
  obtain ⟨y0, y1, y2, y3, y4, y5, y6, rfl⟩ := listB7 (l := xs) (by simpa using hxs)
  have a0 := hall 0 _ rfl
  have a1 := hall 1 _ rfl
  have a2 := hall 2 _ rfl
  have a3 := hall 3 _ rfl
  have a4 := hall 4 _ rfl
  have a5 := hall 5 _ rfl
  have a6 := hall 6 _ rfl
  simp [cells3, cellsBk0, cellsBk1, cellsBk2, cellsBk3] at a0 a1 a2 a3 a4 a5 a6
  obtain ⟨k0, e0, _, _⟩ := DataW.trod_int Try.underlying3 a0
  obtain ⟨k1, e1, _, _⟩ := DataW.trod_int Try.underlying3 a1
  obtain ⟨k2, e2, _, _⟩ := DataW.trod_int Try.underlying3 a2
  obtain ⟨os, h0⟩ := open_Obs a3
  obtain ⟨gs, h1⟩ := open_Grs a4
  obtain ⟨ls, h2⟩ := open_Lgs a5
  obtain ⟨ps, h3⟩ := open_Pss a6
  simp only [List.cons.injEq, and_true] at e0 e1 e2
  subst e0 e1 e2
  exact ⟨⟨k0, k1, k2, os, gs, ls, ps⟩, c3, c4, c5, c6, rfl, h0, h1, h2, h3⟩
end
end Go.Proofs.Ytliaibdbcaglnaa
