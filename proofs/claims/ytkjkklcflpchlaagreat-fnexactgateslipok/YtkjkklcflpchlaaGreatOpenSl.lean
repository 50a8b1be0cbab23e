/-
  What reads as a slip lies in memory as the walks ask it.
-/
import Derived.Test.YtkjkklcflpchlaaGreatOpenA
import Derived.Test.YtkjkklcflpchlaaGreatMemSl
import Derived.Test.YtkjkklcflpchlaaGreatOpenT
namespace Go.Proofs.YtkjkklcflpchlaaGreat
open Go.ChangeShapes Go.WideShapes Go.ChangeAt Go.RowKit Go.Deep

theorem cellsSlip : Tryz.prog.cellsOf 51 = 18 := by kernel_rfl
theorem cellsWn : Tryz.prog.cellsOf 123 = 3 := by kernel_rfl
theorem cellsWs : Tryz.prog.cellsOf 49 = 1 := by kernel_rfl

theorem listW3 {α : Type} {l : List α} (h : l.length = 3) : ∃ c0 c1 c2, l = [c0, c1, c2] := by
  match l, h with
  | [c0, c1, c2], _ => exact ⟨c0, c1, c2, rfl⟩
theorem listW4 {α : Type} {l : List α} (h : l.length = 4) : ∃ c0 c1 c2 c3, l = [c0, c1, c2, c3] := by
  match l, h with
  | [c0, c1, c2, c3], _ => exact ⟨c0, c1, c2, c3, rfl⟩
theorem listW18 {α : Type} {l : List α} (h : l.length = 18) : ∃ c0 c1 c2 c3 c4 c5 c6 c7 c8 c9 c10 c11 c12 c13 c14 c15 c16 c17, l = [c0, c1, c2, c3, c4, c5, c6, c7, c8, c9, c10, c11, c12, c13, c14, c15, c16, c17] := by
  match l, h with
  | [c0, c1, c2, c3, c4, c5, c6, c7, c8, c9, c10, c11, c12, c13, c14, c15, c16, c17], _ => exact ⟨c0, c1, c2, c3, c4, c5, c6, c7, c8, c9, c10, c11, c12, c13, c14, c15, c16, c17, rfl⟩

section
variable {H : Type} {enc : TypeId × Value → H} {W : World} {base : Nat} {sp : Nat → Bool} {held : Bool}

theorem open_Wn {fuel : Nat} {cs : List Value} {x : DataW H × List MemPlace} (h : DataW.trod enc Tryz.prog W base sp held fuel 123 cs = some x) :
    ∃ m : Wn, cs = [.string m.kind, .string m.name, .int .i64 m.version] ∧ m.sized := by
  obtain ⟨xs, n, _, _, hlen, hxs, hall⟩ := DataW.trod_struct Tryz.underlying123 h
  rw [cellsWn] at hlen
  obtain ⟨c0, c1, c2, rfl⟩ := listW3 hlen
  obtain ⟨y0, y1, y2, rfl⟩ := listW3 (l := xs) (by simpa using hxs)
  have a0 := hall 0 _ rfl
  have a1 := hall 1 _ rfl
  have a2 := hall 2 _ rfl
  simp [cells9, cells3] at a0 a1 a2
  obtain ⟨k0, e0, _, s0⟩ := DataW.trod_string Tryz.underlying9 a0
  obtain ⟨k1, e1, _, s1⟩ := DataW.trod_string Tryz.underlying9 a1
  obtain ⟨k2, e2, _, _⟩ := DataW.trod_int Tryz.underlying3 a2
  simp only [List.cons.injEq, and_true] at e0 e1 e2
  subst e0 e1 e2
  exact ⟨⟨k0, k1, k2⟩, rfl, s0, s1⟩

theorem open_Wns {fuel : Nat} {v : Value} {x : DataW H × List MemPlace} (h : DataW.trod enc Tryz.prog W base sp held fuel 49 [v] = some x) : ∃ ms, WnsAt W v ms := by
  rcases open_slice Tryz.underlying49 h with ⟨hcs, _⟩ | ⟨a, len, cap, m, n, D, Pl, hcs, _, hl, hm, hmm, _, hc⟩
  · simp only [List.cons.injEq, and_true] at hcs
    exact ⟨[], Or.inl ⟨none, 0, hcs, rfl⟩⟩
  · simp only [List.cons.injEq, and_true] at hcs
    rw [cellsWn] at hc
    have hle : len ≤ m := by rw [hmm]; split <;> omega
    by_cases h0 : len = 0
    · subst h0; exact ⟨[], Or.inl ⟨some a, cap, hcs, rfl⟩⟩
    · obtain ⟨b, off, spot⟩ := a
      have first : ∀ i, i < m → ∃ cs', (∀ j, j < 3 → W.cell? ((Addr.add ⟨b, off, spot⟩ (i * 3)).add j) = cs'[j]?) ∧ DataW.trod enc Tryz.prog W base sp held n 123 cs' = some (D i, Pl i) := by
        intro i hi
        obtain ⟨cs', h1, h2⟩ := hc i hi
        exact ⟨cs', (World.cells?_some h1).2.2, h2⟩
      have hspot : spot = none := by
        obtain ⟨cs', h1, h2⟩ := first 0 (by omega)
        obtain ⟨md, rfl, hs⟩ := open_Wn h2
        have := h1 0 (by omega)
        simp [Addr.add] at this
        simpa using World.cell?_spot this
      subst hspot
      have each : ∀ i, i < len → ∃ md : Wn, WnIs W b (off + i * 3) md := by
        intro i hi
        obtain ⟨cs', h1, h2⟩ := first i (by omega)
        obtain ⟨md, rfl, hs⟩ := open_Wn h2
        rw [add_none] at h1
        have g : ∀ j, j < 3 → W.cell? ⟨b, off + i * 3 + j, none⟩ = [Value.string md.kind, Value.string md.name, Value.int .i64 md.version][j]? := by
          intro j hj
          have := h1 j hj
          rw [add_none] at this
          exact this
        exact ⟨md, g 0 (by omega), g 1 (by omega), g 2 (by omega), hs⟩
      obtain ⟨ms, hfl, hfs⟩ := list_pick Wn.none each
      have h00 := (hfs 0 (by omega)).c0
      refine ⟨ms, Or.inr ⟨b, off, cap, by rw [hfl]; exact hcs, cell_lt h00, by omega, fun i hi => ?_⟩⟩
      exact hfs i (by omega)


theorem open_slip {fuel : Nat} {cs : List Value} {x : DataW H × List MemPlace} (h : DataW.trod enc Tryz.prog W base sp held fuel 51 cs = some x) :
    ∃ (s : Sl) (v1 v2 : Value) (ra : Option Addr) (rc : Nat) (wv : Value), cs = [.string s.door, .string s.ask.who, .int .i64 s.ask.verb, .string s.ask.kind, .string s.ask.name, .string s.ask.team, v1, v2, .int .i64 s.ask.seen, .string s.ask.hold, .string s.ask.to_, .slice ra s.ask.rule.verbs.length rc, .string s.ask.rule.kind, .string s.ask.rule.team, .string s.ask.rule.pre, .int .i64 s.ask.number, .int .i64 s.given, wv] ∧ SlAt W v1 v2 ra rc wv s := by
  obtain ⟨xs, n, _, _, hlen, hxs, hall⟩ := DataW.trod_struct Tryz.underlying51 h
  rw [cellsSlip] at hlen
  obtain ⟨c0, c1, c2, c3, c4, c5, c6, c7, c8, c9, c10, c11, c12, c13, c14, c15, c16, c17, rfl⟩ := listW18 hlen
  obtain ⟨y0, y1, y2, y3, rfl⟩ := listW4 (l := xs) (by simpa using hxs)
  have a0 := hall 0 _ rfl
  have a1 := hall 1 _ rfl
  have a2 := hall 2 _ rfl
  have a3 := hall 3 _ rfl
  simp [cells9, cells3, cellsAsk, cellsWs] at a0 a1 a2 a3
  obtain ⟨k0, e0, _, s0⟩ := DataW.trod_string Tryz.underlying9 a0
  obtain ⟨a, v1, v2, ra, rc, hcs, hat⟩ := open_ask a1
  obtain ⟨k2, e2, _, _⟩ := DataW.trod_int Tryz.underlying3 a2
  obtain ⟨ms, hms⟩ := open_Wns a3
  simp only [List.cons.injEq, and_true] at e0 e2
  have e := congrArg (fun l => Value.string k0 :: l ++ [Value.int .i64 k2, c17]) hcs
  subst e0 e2
  exact ⟨⟨k0, a, k2, ms⟩, v1, v2, ra, rc, c17, e, hat, hms, s0⟩
end
end Go.Proofs.YtkjkklcflpchlaaGreat
