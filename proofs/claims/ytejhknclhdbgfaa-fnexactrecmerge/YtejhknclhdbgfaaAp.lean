/-
  An append onto an empty row; the cells of a list.
-/
import Derived.Deep.AppendSrc
import Derived.Laws.AppendOwn
import Derived.Test.YtejhknclhdbgfaaPut
namespace Go.Proofs.Ytejhknclhdbgfaa
open Go.RowKit Go.Deep

theorem app_new {P : Program} (base : Nat) (t ty e : TypeId) (size bytes : Nat) (z : Value) (ht : P.underlying t = some (.slice e)) (hinf : (P.info? e).map (fun i => (i.zero, i.size, i.bytes)) = some (some z, size, bytes)) (hzs : z.cells.size = size)
    (W : World) (g : Nat) (hg : W.heap[g]? = some (.cells #[] e (0, 0))) (hgb : base ≤ g) (a : Option Addr) (m c : Nat) (news : List Value) (hl : news.length = m * size)
    (hnews : ∀ ad, a = some ad → ∀ j u, news[j]? = some u → W.cell? (ad.add j) = some u) (hnone : a = none → m = 0) (h1 : ∀ u ∈ news, u.oneCell' = true) (hm : m ≤ 1048576) (hb : bytes ≤ 1000) (hbase : base ≤ W.heap.size) :
    ∃ v' W', (Builtin.append_ #[t, t] ty #[.slice (some ⟨g, 0, none⟩) 0 0, .slice a m c]).run P W = .ok v' W' ∧ W'.ownsRow base e size v' m news ∧ Below W.heap.size W W' := by
  obtain ⟨i, hi, ei⟩ := Option.map_eq_some_iff.1 hinf
  simp only [Prod.mk.injEq] at ei
  obtain ⟨hz, hs, hby⟩ := ei
  subst hs hby
  by_cases h0 : m = 0
  · subst h0
    obtain rfl : news = [] := List.eq_nil_of_length_eq_zero (by simpa using hl)
    have hsrc : Src P i.size t (.slice a 0 c) 0 [] W := by
      cases a with
      | none => exact Src.ofNil W ht c
      | some ad => exact Src.ofSlice W ht ad 0 c [] (by simp) (fun j u h => by simp at h) (fun u h => by cases h)
    have hr := run_append_room_src (P := P) W t t ty e i ht hi g 0 0 0 (.slice a 0 c) 0 [] hsrc (by omega) (fun j h => by simp at h) (fun j h => by simp at h)
    exact ⟨_, _, hr, ⟨by simp, .inr ⟨g, 0, #[], by simp, hgb, hg, by omega, by decide, by simp, by simp⟩⟩, Below.refl _ _⟩
  · obtain ⟨ad, rfl⟩ : ∃ ad, a = some ad := by
      cases a with
      | none => exact absurd (hnone rfl) h0
      | some ad => exact ⟨ad, rfl⟩
    have hmb : m * i.bytes ≤ 1048576 * 1000 := Nat.mul_le_mul hm hb
    have hr := run_append_grow (P := P) W t ty e i z ht hi hz ⟨g, 0, none⟩ 0 0 [] (by simp) (fun j v h => by simp at h) ad m c news hl (hnews ad rfl) (by omega) (by omega) (growslice_fits (by omega) (by rw [Nat.zero_add]; omega))
    rw [Nat.zero_add] at hr
    have hge := grownCap_ge W m 0 e
    refine ⟨_, _, hr, ⟨hl, .inr ⟨W.heap.size, _, _, rfl, hbase, heap_alloc_new W.drew _, hge, grownCap_le_maxLen W m 0 e (by unfold maxLen; omega), ?_, ?_⟩⟩, blw_alloc (Below.drew (Below.refl _ _)) _⟩
    · rw [Array.size_append, Array.size_append, size_zeroCells, hzs]
      simp only [List.size_toArray, List.length_nil, Nat.zero_add, hl]
      rw [← Nat.add_mul]
      congr 1
      omega
    · rw [← hl]
      simp

theorem flat_get {α : Type} (d : α) (f : α → List Value) (n : Nat) (hf : ∀ x, (f x).length = n) (Q : Nat → Value → Prop) : ∀ (l : List α) (o : Nat), (∀ i, i < l.length → ∀ k v, (f (l.getD i d))[k]? = some v → Q (o + i * n + k) v) → ∀ j u, (l.flatMap f)[j]? = some u → Q (o + j) u
  | [], _, _, j, u, hu => by simp at hu
  | x :: xs, o, h, j, u, hu => by
    rw [List.flatMap_cons] at hu
    by_cases hj : j < n
    · rw [List.getElem?_append_left (by rw [hf]; exact hj)] at hu
      have := h 0 (by simp) j u (by simpa using hu)
      simpa using this
    · rw [List.getElem?_append_right (by rw [hf]; omega), hf] at hu
      have := flat_get d f n hf Q xs (o + n) (fun i hi k v hv => by
        have := h (i + 1) (by simpa using hi) k v (by simpa using hv)
        rw [Nat.add_mul] at this
        have e : o + n + i * n + k = o + (i * n + 1 * n) + k := by omega
        rw [e]; exact this) (j - n) u hu
      have e : o + n + (j - n) = o + j := by omega
      rw [e] at this
      exact this
theorem flat_len {α : Type} (f : α → List Value) (n : Nat) (hf : ∀ x, (f x).length = n) : ∀ l : List α, (l.flatMap f).length = l.length * n
  | [] => by simp
  | x :: xs => by rw [List.flatMap_cons, List.length_append, hf, flat_len f n hf xs, List.length_cons, Nat.add_mul]; omega
theorem owns_on {w w' : World} {lo : Nat} {e : TypeId} {size : Nat} {v : Value} {n : Nat} {xs : List Value} (h : w.ownsRow lo e size v n xs) (hb : Below w.heap.size w w') : w'.ownsRow lo e size v n xs := by
  refine ⟨h.1, h.2.imp id ?_⟩
  rintro ⟨g, cap, cur, h1, h2, h3, h4⟩
  have hlt : g < w.heap.size := by
    rcases Nat.lt_or_ge g w.heap.size with q | q
    · exact q
    · rw [Array.getElem?_eq_none q] at h3; cases h3
  exact ⟨g, cap, cur, h1, h2, (hb.block g hlt).trans h3, h4⟩
theorem owns_sc {w : World} {lo p : Nat} {e : TypeId} {size : Nat} {v : Value} {n : Nat} {xs : List Value} (h : w.ownsRow lo e size v n xs) (hp : p < lo) (o : Nat) (x : Value) : (w.setCell ⟨p, o, none⟩ x).ownsRow lo e size v n xs := by
  refine ⟨h.1, h.2.imp id ?_⟩
  rintro ⟨g, cap, cur, h1, h2, h3, h4⟩
  exact ⟨g, cap, cur, h1, h2, (Below.heap_setCell w ⟨p, o, none⟩ x g (by show g ≠ p; omega)).trans h3, h4⟩

/-- An empty row of the region's own. -/
def Emp (w : World) (lo : Nat) (e : TypeId) (u : Value) : Prop := ∃ g, u = .slice (some ⟨g, 0, none⟩) 0 0 ∧ lo ≤ g ∧ w.heap[g]? = some (.cells #[] e (0, 0))
theorem Emp.on {w w' : World} {lo : Nat} {e : TypeId} {u : Value} (h : Emp w lo e u) (hb : Below w.heap.size w w') : Emp w' lo e u := by
  obtain ⟨g, h1, h2, h3⟩ := h
  have hlt : g < w.heap.size := by
    rcases Nat.lt_or_ge g w.heap.size with q | q
    · exact q
    · rw [Array.getElem?_eq_none q] at h3; cases h3
  exact ⟨g, h1, h2, (hb.block g hlt).trans h3⟩
theorem Emp.sc {w : World} {lo p : Nat} {e : TypeId} {u : Value} (h : Emp w lo e u) (hp : p < lo) (o : Nat) (x : Value) : Emp (w.setCell ⟨p, o, none⟩ x) lo e u := by
  obtain ⟨g, h1, h2, h3⟩ := h
  exact ⟨g, h1, h2, (Below.heap_setCell w ⟨p, o, none⟩ x g (by show g ≠ p; omega)).trans h3⟩

theorem exec_append {P : Program} {o : Oper} {a : Act} {W W' : World} {v x v' : Value} (s y : Operand) (t : TypeId) (hop : o.op = Op.call { callee := Callee.builtin Builtin.append, args := #[s, y], argTypes := #[t, t] }) (hs : a.eval s = v) (hx : a.eval y = x)
    (hrun : (Builtin.append_ #[t, t] o.type #[v, x]).run P W = .ok v' W') : (execOp a.eval o).run P W = .ok (.value v') W' := by
  simp [execOp, hop, resolve, invoke, builtin, hs, hx, hrun, Result.andThen]

end Go.Proofs.Ytejhknclhdbgfaa
