/-
  What reads as a list of shapes lies in memory as the walks ask it.
-/
import Derived.Deep.Slices
import Derived.Test.YtkjkklcflpchlaaGreatOpen
import Derived.Test.YtkjkklcflpchlaaGreatMem
namespace Go.Proofs.YtkjkklcflpchlaaGreat
open Go.ChangeShapes Go.WideShapes Go.ChangeAt Go.RowKit Go.Deep

theorem cells63 : Tryz.prog.cellsOf 82 = 2 := by kernel_rfl
theorem cells61 : Tryz.prog.cellsOf 80 = 1 := by kernel_rfl

theorem add_none (b off i : Nat) : (Addr.add ⟨b, off, none⟩ i) = ⟨b, off + i, none⟩ := by
  unfold Addr.add; split
  · rename_i h; subst h; rfl
  · rfl

theorem list_pick {α : Type} (d : α) {n : Nat} {p : Nat → α → Prop} (h : ∀ i, i < n → ∃ x, p i x) : ∃ l : List α, l.length = n ∧ ∀ i, i < n → p i (l.getD i d) := by
  have : Inhabited α := ⟨d⟩
  obtain ⟨f, hf⟩ := choose_lt h
  refine ⟨(List.range n).map f, by simp, fun i hi => ?_⟩
  have e : ((List.range n).map f).getD i d = f i := by simp [hi]
  rw [e]
  exact hf i hi

section
variable {H : Type} {enc : TypeId × Value → H} {W : World} {base : Nat} {sp : Nat → Bool} {held : Bool}

theorem open_fields {fuel : Nat} {v : Value} {x : DataW H × List MemPlace} (h : DataW.trod enc Tryz.prog W base sp held fuel 80 [v] = some x) : ∃ fs, FldsAt W v fs := by
  rcases open_slice Tryz.underlying80 h with ⟨hcs, _⟩ | ⟨a, len, cap, m, n, D, Pl, hcs, _, hl, hm, hmm, _, hc⟩
  · simp only [List.cons.injEq, and_true] at hcs
    exact ⟨[], Or.inl ⟨none, 0, hcs, rfl⟩⟩
  · simp only [List.cons.injEq, and_true] at hcs
    rw [cells24] at hc
    have hle : len ≤ m := by rw [hmm]; split <;> omega
    by_cases h0 : len = 0
    · subst h0; exact ⟨[], Or.inl ⟨some a, cap, hcs, rfl⟩⟩
    · obtain ⟨b, off, spot⟩ := a
      have first : ∀ i, i < m → ∃ cs', (∀ j, j < 11 → W.cell? ((Addr.add ⟨b, off, spot⟩ (i * 11)).add j) = cs'[j]?) ∧ DataW.trod enc Tryz.prog W base sp held n 158 cs' = some (D i, Pl i) := by
        intro i hi
        obtain ⟨cs', h1, h2⟩ := hc i hi
        exact ⟨cs', (World.cells?_some h1).2.2, h2⟩
      have hspot : spot = none := by
        obtain ⟨cs', h1, h2⟩ := first 0 (by omega)
        obtain ⟨nm, kind, least, most, vs, to, role, must, fixed, de, we, ss, rfl, _⟩ := open_field h2
        have := h1 0 (by omega)
        simp [Addr.add] at this
        simpa using World.cell?_spot this
      subst hspot
      have each : ∀ i, i < len → ∃ f : Fld, ∃ vs, FldIs W b (off + i * 11) f vs := by
        intro i hi
        obtain ⟨cs', h1, h2⟩ := first i (by omega)
        obtain ⟨nm, kind, least, most, vs, to, role, must, fixed, de, we, ss, rfl, s0, s5, s9, s10, ht⟩ := open_field h2
        rw [add_none] at h1
        have g : ∀ j, j < 11 → W.cell? ⟨b, off + i * 11 + j, none⟩ = [Value.string nm, .int .i64 kind, .int .i64 least, .int .i64 most, vs, .string to, .int .i64 role, .bool must, .bool fixed, .string de, .string we][j]? := by
          intro j hj
          have := h1 j hj
          rw [add_none] at this
          exact this
        exact ⟨⟨nm, kind, least, most, ss, to, role, must, fixed, de, we⟩, vs, g 0 (by omega), g 1 (by omega), g 2 (by omega), g 3 (by omega), g 4 (by omega), g 5 (by omega), g 6 (by omega), g 7 (by omega), g 8 (by omega), g 9 (by omega), g 10 (by omega), ht, ⟨s0, s5, s9, s10⟩⟩
      obtain ⟨fs, hfl, hfs⟩ := list_pick Fld.none each
      obtain ⟨vs0, h00⟩ := hfs 0 (by omega)
      refine ⟨fs, Or.inr ⟨b, off, cap, by rw [hfl]; exact hcs, cell_lt h00.c0, by omega, fun i hi => ?_⟩⟩
      exact hfs i (by omega)

theorem list2 {α : Type} {l : List α} (h : l.length = 2) : ∃ c0 c1, l = [c0, c1] := by
  match l, h with
  | [c0, c1], _ => exact ⟨c0, c1, rfl⟩

theorem open_shape {fuel : Nat} {cs : List Value} {x : DataW H × List MemPlace} (h : DataW.trod enc Tryz.prog W base sp held fuel 82 cs = some x) :
    ∃ (kind : ByteArray) (v : Value) (fs : List Fld), cs = [.string kind, v] ∧ kind.size ≤ maxLen ∧ FldsAt W v fs := by
  obtain ⟨xs, n, _, _, hlen, hxs, hall⟩ := DataW.trod_struct Tryz.underlying82 h
  rw [cells63] at hlen
  obtain ⟨c0, c1, rfl⟩ := list2 hlen
  obtain ⟨y0, y1, rfl⟩ := list2 (l := xs) (by simpa using hxs)
  have a0 := hall 0 _ rfl
  have a1 := hall 1 _ rfl
  simp [cells9, cells61] at a0 a1
  obtain ⟨kind, e0, _, s0⟩ := DataW.trod_string Tryz.underlying9 a0
  obtain ⟨fs, t1⟩ := open_fields a1
  simp only [List.cons.injEq, and_true] at e0
  subst e0
  exact ⟨kind, c1, fs, rfl, s0, t1⟩

theorem open_shapes {fuel : Nat} {v : Value} {x : DataW H × List MemPlace} (h : DataW.trod enc Tryz.prog W base sp held fuel 22 [v] = some x) : ∃ ss, ShpsAt W v ss := by
  rcases open_slice Tryz.underlying22 h with ⟨hcs, _⟩ | ⟨a, len, cap, m, n, D, Pl, hcs, _, hl, hm, hmm, _, hc⟩
  · simp only [List.cons.injEq, and_true] at hcs
    exact ⟨[], Or.inl ⟨none, 0, hcs, rfl⟩⟩
  · simp only [List.cons.injEq, and_true] at hcs
    rw [cells63] at hc
    have hle : len ≤ m := by rw [hmm]; split <;> omega
    by_cases h0 : len = 0
    · subst h0; exact ⟨[], Or.inl ⟨some a, cap, hcs, rfl⟩⟩
    · obtain ⟨b, off, spot⟩ := a
      have first : ∀ i, i < m → ∃ cs', (∀ j, j < 2 → W.cell? ((Addr.add ⟨b, off, spot⟩ (i * 2)).add j) = cs'[j]?) ∧ DataW.trod enc Tryz.prog W base sp held n 82 cs' = some (D i, Pl i) := by
        intro i hi
        obtain ⟨cs', h1, h2⟩ := hc i hi
        exact ⟨cs', (World.cells?_some h1).2.2, h2⟩
      have hspot : spot = none := by
        obtain ⟨cs', h1, h2⟩ := first 0 (by omega)
        obtain ⟨kind, v', fs, rfl, _⟩ := open_shape h2
        have := h1 0 (by omega)
        simp [Addr.add] at this
        simpa using World.cell?_spot this
      subst hspot
      have each : ∀ i, i < len → ∃ s : Shp, ∃ x, ShpIs W b (off + i * 2) s x := by
        intro i hi
        obtain ⟨cs', h1, h2⟩ := first i (by omega)
        obtain ⟨kind, v', fs, rfl, s0, ht⟩ := open_shape h2
        rw [add_none] at h1
        have g : ∀ j, j < 2 → W.cell? ⟨b, off + i * 2 + j, none⟩ = [Value.string kind, v'][j]? := by
          intro j hj
          have := h1 j hj
          rw [add_none] at this
          exact this
        exact ⟨⟨kind, fs⟩, v', g 0 (by omega), g 1 (by omega), ht, s0⟩
      obtain ⟨ss, hfl, hfs⟩ := list_pick Shp.none each
      obtain ⟨vs0, h00⟩ := hfs 0 (by omega)
      refine ⟨ss, Or.inr ⟨b, off, cap, by rw [hfl]; exact hcs, cell_lt h00.c0, by omega, fun i hi => ?_⟩⟩
      exact hfs i (by omega)
end
end Go.Proofs.YtkjkklcflpchlaaGreat
