/-
  Own rows, read as lists.
-/
import Derived.Test.YtamhfnlogldpaaaStM
namespace Go.Proofs.Ytamhfnlogldpaaa
open Go.RowKit Go.Deep

theorem flat_at {α : Type} (d : α) (f : α → List Value) (n : Nat) (hf : ∀ x, (f x).length = n) : ∀ (l : List α) (i k : Nat), i < l.length → k < n → (l.flatMap f)[i * n + k]? = (f (l.getD i d))[k]?
  | [], _, _, hi, _ => by simp at hi
  | x :: xs, 0, k, _, hk => by
    rw [List.flatMap_cons, List.getElem?_append_left (by rw [hf]; omega)]
    simp
  | x :: xs, i + 1, k, hi, hk => by
    have e : (i + 1) * n + k = n + (i * n + k) := by rw [Nat.add_mul]; omega
    rw [List.flatMap_cons, List.getElem?_append_right (by rw [hf]; omega), hf]
    have e2 : (i + 1) * n + k - n = i * n + k := by omega
    rw [e2, flat_at d f n hf xs i k (by simpa using hi) hk]
    simp
theorem owns_cells {w : World} {lo : Nat} {e : TypeId} {size : Nat} {v : Value} {n : Nat} {xs : List Value} (h : w.ownsRow lo e size v n xs) (hn : 0 < n) : ∃ g c, v = .slice (some ⟨g, 0, none⟩) n c ∧ lo ≤ g ∧ g < w.heap.size ∧ ∀ j u, xs[j]? = some u → w.cell? ⟨g, j, none⟩ = some u := by
  rcases h.2 with ⟨_, h0⟩ | ⟨g, cap, cur, hv, hb, hg, _⟩
  · omega
  · have hlt : g < w.heap.size := by
      rcases Nat.lt_or_ge g w.heap.size with q | q
      · exact q
      · rw [Array.getElem?_eq_none q] at hg; cases hg
    refine ⟨g, cap, hv, hb, hlt, fun j u hu => ?_⟩
    have := h.cells (g := g) (by rw [hv]; rfl) j u hu
    rw [addN, Nat.zero_add] at this
    exact this
theorem owns_Svs {w : World} {lo : Nat} {v : Value} {ms : List Sv} (h : w.ownsRow lo 46 13 v ms.length (ms.flatMap SvC)) (hs : ∀ i, i < ms.length → (ms.getD i Sv.none).sized) (hm : ms.length ≤ maxLen) : ∃ a c, v = .slice a ms.length c ∧ SvsV w a ms := by
  by_cases h0 : ms.length = 0
  · obtain ⟨a, c, rfl⟩ := owns_is h
    exact ⟨a, c, rfl, hm, fun i hi => by omega⟩
  · obtain ⟨g, c, rfl, _, hg, hc⟩ := owns_cells h (by omega)
    refine ⟨_, c, rfl, hm, fun i hi => ⟨g, 0, rfl, hg, ?_⟩⟩
    have x := fun k (hk : k < 13) u (hu : (SvC (ms.getD i Sv.none))[k]? = some u) => hc (i * 13 + k) u ((flat_at Sv.none SvC 13 SvC_len ms i k hi hk).trans hu)
    rw [Nat.zero_add]
    exact ⟨x 0 (by omega) _ rfl, x 1 (by omega) _ rfl, x 2 (by omega) _ rfl, x 3 (by omega) _ rfl, x 4 (by omega) _ rfl, x 5 (by omega) _ rfl, x 6 (by omega) _ rfl, x 7 (by omega) _ rfl, x 8 (by omega) _ rfl, x 9 (by omega) _ rfl, x 10 (by omega) _ rfl, x 11 (by omega) _ rfl, x 12 (by omega) _ rfl, hs i hi⟩
theorem owns_Cps {w : World} {lo : Nat} {v : Value} {ms : List Cp} (h : w.ownsRow lo 63 7 v ms.length (ms.flatMap CpC)) (hs : ∀ i, i < ms.length → (ms.getD i Cp.none).sized) (hm : ms.length ≤ maxLen) : ∃ a c, v = .slice a ms.length c ∧ CpsV w a ms := by
  by_cases h0 : ms.length = 0
  · obtain ⟨a, c, rfl⟩ := owns_is h
    exact ⟨a, c, rfl, hm, fun i hi => by omega⟩
  · obtain ⟨g, c, rfl, _, hg, hc⟩ := owns_cells h (by omega)
    refine ⟨_, c, rfl, hm, fun i hi => ⟨g, 0, rfl, hg, ?_⟩⟩
    have x := fun k (hk : k < 7) u (hu : (CpC (ms.getD i Cp.none))[k]? = some u) => hc (i * 7 + k) u ((flat_at Cp.none CpC 7 CpC_len ms i k hi hk).trans hu)
    rw [Nat.zero_add]
    exact ⟨x 0 (by omega) _ rfl, x 1 (by omega) _ rfl, x 2 (by omega) _ rfl, x 3 (by omega) _ rfl, x 4 (by omega) _ rfl, x 5 (by omega) _ rfl, x 6 (by omega) _ rfl, hs i hi⟩
theorem owns_Bts {w : World} {lo : Nat} {v : Value} {ms : List Bt} (h : w.ownsRow lo 78 2 v ms.length (ms.flatMap BtC)) (hs : ∀ i, i < ms.length → (ms.getD i Bt.none).sized) (hm : ms.length ≤ maxLen) : ∃ a c, v = .slice a ms.length c ∧ BtsV w a ms := by
  by_cases h0 : ms.length = 0
  · obtain ⟨a, c, rfl⟩ := owns_is h
    exact ⟨a, c, rfl, hm, fun i hi => by omega⟩
  · obtain ⟨g, c, rfl, _, hg, hc⟩ := owns_cells h (by omega)
    refine ⟨_, c, rfl, hm, fun i hi => ⟨g, 0, rfl, hg, ?_⟩⟩
    have x := fun k (hk : k < 2) u (hu : (BtC (ms.getD i Bt.none))[k]? = some u) => hc (i * 2 + k) u ((flat_at Bt.none BtC 2 BtC_len ms i k hi hk).trans hu)
    rw [Nat.zero_add]
    exact ⟨x 0 (by omega) _ rfl, x 1 (by omega) _ rfl, hs i hi⟩

end Go.Proofs.Ytamhfnlogldpaaa
