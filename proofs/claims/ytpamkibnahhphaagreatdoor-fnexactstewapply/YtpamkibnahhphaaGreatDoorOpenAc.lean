/-
  What reads as an act lies in memory as the walks ask it.
-/
import Derived.Test.YtpamkibnahhphaaGreatDoorOpenSB
import Derived.Test.YtpamkibnahhphaaGreatDoorMemAc
namespace Go.Proofs.YtpamkibnahhphaaGreatDoor
open Go.ChangeShapes Go.WideShapes Go.ChangeAt Go.RowKit Go.Deep

theorem listB8 {α : Type} {l : List α} (h : l.length = 8) : ∃ c0 c1 c2 c3 c4 c5 c6 c7, l = [c0, c1, c2, c3, c4, c5, c6, c7] := by
  match l, h with
  | [c0, c1, c2, c3, c4, c5, c6, c7], _ => exact ⟨c0, c1, c2, c3, c4, c5, c6, c7, rfl⟩

theorem cellsEn : Tryz.prog.cellsOf 105 = 2 := by kernel_rfl
theorem Tryz.underlying27' : Tryz.prog.underlying 27 = some (.slice 105) := by kernel_rfl

theorem open_En {H : Type} {enc : TypeId × Value → H} {W : World} {base : Nat} {sp : Nat → Bool} {held : Bool} {fuel : Nat} {cs : List Value} {x : DataW H × List MemPlace} (h : DataW.trod enc Tryz.prog W base sp held fuel 105 cs = some x) :
    ∃ m : En, cs = [.int .i64 m.num, .int .i64 m.seen] ∧ m.sized := by
  obtain ⟨xs, n, _, _, hlen, hxs, hall⟩ := DataW.trod_struct Tryz.underlying105 h
  rw [cellsEn] at hlen
  obtain ⟨c0, c1, rfl⟩ := listB2 hlen
  obtain ⟨y0, y1, rfl⟩ := listB2 (l := xs) (by simpa using hxs)
  have a0 := hall 0 _ rfl
  have a1 := hall 1 _ rfl
  simp [cells3] at a0 a1
  obtain ⟨k0, e0, _, _⟩ := DataW.trod_int Tryz.underlying3 a0
  obtain ⟨k1, e1, _, _⟩ := DataW.trod_int Tryz.underlying3 a1
  simp only [List.cons.injEq, and_true] at e0 e1
  subst e0 e1
  exact ⟨⟨k0, k1⟩, rfl, trivial⟩

theorem open_Ens {H : Type} {enc : TypeId × Value → H} {W : World} {base : Nat} {sp : Nat → Bool} {held : Bool} {fuel : Nat} {v : Value} {x : DataW H × List MemPlace} (h : DataW.trod enc Tryz.prog W base sp held fuel 27 [v] = some x) : ∃ ms, EnsAt W v ms := by
  rcases open_slice Tryz.underlying27' h with ⟨hcs, _⟩ | ⟨a, len, cap, m, n, D, Pl, hcs, _, hl, hm, hmm, _, hc⟩
  · simp only [List.cons.injEq, and_true] at hcs
    exact ⟨[], Or.inl ⟨none, 0, hcs, rfl⟩⟩
  · simp only [List.cons.injEq, and_true] at hcs
    rw [cellsEn] at hc
    have hle : len ≤ m := by rw [hmm]; split <;> omega
    by_cases h0 : len = 0
    · subst h0; exact ⟨[], Or.inl ⟨some a, cap, hcs, rfl⟩⟩
    · obtain ⟨b, off, spot⟩ := a
      have first : ∀ i, i < m → ∃ cs', (∀ j, j < 2 → W.cell? ((Addr.add ⟨b, off, spot⟩ (i * 2)).add j) = cs'[j]?) ∧ DataW.trod enc Tryz.prog W base sp held n 105 cs' = some (D i, Pl i) := by
        intro i hi
        obtain ⟨cs', h1, h2⟩ := hc i hi
        exact ⟨cs', (World.cells?_some h1).2.2, h2⟩
      have hspot : spot = none := by
        obtain ⟨cs', h1, h2⟩ := first 0 (by omega)
        obtain ⟨md, rfl, hs⟩ := open_En h2
        have := h1 0 (by omega)
        simp [Addr.add] at this
        simpa using World.cell?_spot this
      subst hspot
      have each : ∀ i, i < len → ∃ md : En, EnIs W b (off + i * 2) md := by
        intro i hi
        obtain ⟨cs', h1, h2⟩ := first i (by omega)
        obtain ⟨md, rfl, hs⟩ := open_En h2
        rw [add_none] at h1
        have g : ∀ j, j < 2 → W.cell? ⟨b, off + i * 2 + j, none⟩ = [Value.int .i64 md.num, Value.int .i64 md.seen][j]? := by
          intro j hj
          have := h1 j hj
          rw [add_none] at this
          exact this
        exact ⟨md, g 0 (by omega), g 1 (by omega), hs⟩
      obtain ⟨ms, hfl, hfs⟩ := list_pick En.none each
      have h00 := (hfs 0 (by omega)).c0
      refine ⟨ms, Or.inr ⟨b, off, cap, by rw [hfl]; exact hcs, cell_lt h00, by omega, fun i hi => ?_⟩⟩
      exact hfs i (by omega)

theorem cellsAc : Tryz.prog.cellsOf 29 = 8 := by kernel_rfl
theorem cellsAcE : Tryz.prog.cellsOf 27 = 1 := by kernel_rfl

theorem open_act {H : Type} {enc : TypeId × Value → H} {W : World} {base : Nat} {sp : Nat → Bool} {held : Bool} {fuel : Nat} {cs : List Value} {x : DataW H × List MemPlace} (h : DataW.trod enc Tryz.prog W base sp held fuel 29 cs = some x) :
    ∃ (X : Ac) (v : Value), cs = [.string X.svc, .int .i64 X.seen, .int .i64 X.create, .int .i64 X.want, .int .i64 X.cool, .bool X.scale, v, .bool X.drop] ∧ AcAt W v X := by
  obtain ⟨xs, n, _, _, hlen, hxs, hall⟩ := DataW.trod_struct Tryz.underlying29 h
  rw [cellsAc] at hlen
  obtain ⟨c0, c1, c2, c3, c4, c5, c6, c7, rfl⟩ := listB8 hlen
  obtain ⟨y0, y1, y2, y3, y4, y5, y6, y7, rfl⟩ := listB8 (l := xs) (by simpa using hxs)
  have a0 := hall 0 _ rfl
  have a1 := hall 1 _ rfl
  have a2 := hall 2 _ rfl
  have a3 := hall 3 _ rfl
  have a4 := hall 4 _ rfl
  have a5 := hall 5 _ rfl
  have a6 := hall 6 _ rfl
  have a7 := hall 7 _ rfl
  simp [cells3, cells4, cells9, cellsAcE] at a0 a1 a2 a3 a4 a5 a6 a7
  obtain ⟨k0, e0, _, s0⟩ := DataW.trod_string Tryz.underlying9 a0
  obtain ⟨k1, e1, _, _⟩ := DataW.trod_int Tryz.underlying3 a1
  obtain ⟨k2, e2, _, _⟩ := DataW.trod_int Tryz.underlying3 a2
  obtain ⟨k3, e3, _, _⟩ := DataW.trod_int Tryz.underlying3 a3
  obtain ⟨k4, e4, _, _⟩ := DataW.trod_int Tryz.underlying3 a4
  obtain ⟨k5, e5, _⟩ := DataW.trod_bool Tryz.underlying4 a5
  obtain ⟨m6, t6⟩ := open_Ens a6
  obtain ⟨k7, e7, _⟩ := DataW.trod_bool Tryz.underlying4 a7
  simp only [List.cons.injEq, and_true] at e0 e1 e2 e3 e4 e5 e7
  subst e0 e1 e2 e3 e4 e5 e7
  exact ⟨⟨k0, k1, k2, k3, k4, k5, m6, k7⟩, c6, rfl, ⟨s0, t6⟩⟩

end Go.Proofs.YtpamkibnahhphaaGreatDoor
