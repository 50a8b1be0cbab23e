/-
  Rows of one's own: what is in them.
-/
import Derived.Laws.Rows
import Derived.Deep.AppendLies
import Derived.RangeFuncRecord
import Derived.Test.YtejhknclhdbgfaaAp
import Derived.Test.YtejhknclhdbgfaaLBx
namespace Go.Proofs.Ytejhknclhdbgfaa
open Go.RowKit Go.Deep

theorem addN (b off i : Nat) : (Addr.add ⟨b, off, none⟩ i) = ⟨b, off + i, none⟩ := by
  unfold Addr.add; split <;> simp_all
theorem owns_is {w : World} {lo : Nat} {e : TypeId} {size : Nat} {v : Value} {n : Nat} {xs : List Value} (h : w.ownsRow lo e size v n xs) : ∃ a c, v = .slice a n c := by
  rcases h.2 with ⟨rfl, rfl⟩ | ⟨g, cap, cur, rfl, _⟩
  · exact ⟨_, _, rfl⟩
  · exact ⟨_, _, rfl⟩

theorem flat_at {α : Type} (d : α) (f : α → List Value) (n : Nat) (hf : ∀ x, (f x).length = n) : ∀ (l : List α) (i k : Nat), i < l.length → k < n → (l.flatMap f)[i * n + k]? = (f (l.getD i d))[k]?
  | [], _, _, hi, _ => by simp at hi
  | x :: xs, 0, k, _, hk => by
    rw [List.flatMap_cons, List.getElem?_append_left (by rw [hf]; omega)]
    simp
  | x :: xs, i + 1, k, hi, hk => by
    have e : (i + 1) * n + k = n + (i * n + k) := by rw [Nat.add_mul]; omega
    rw [List.flatMap_cons, List.getElem?_append_right (by rw [hf]; omega), hf]
    have e2 : (i + 1) * n + k - n = i * n + k := by omega
    rw [e2, flat_at d f n hf xs i k (by simpa using hi) hk]
    simp
theorem owns_cells {w : World} {lo : Nat} {e : TypeId} {size : Nat} {v : Value} {n : Nat} {xs : List Value} (h : w.ownsRow lo e size v n xs) (hn : 0 < n) : ∃ g c, v = .slice (some ⟨g, 0, none⟩) n c ∧ lo ≤ g ∧ g < w.heap.size ∧ ∀ j u, xs[j]? = some u → w.cell? ⟨g, j, none⟩ = some u := by
  rcases h.2 with ⟨_, h0⟩ | ⟨g, cap, cur, hv, hb, hg, _⟩
  · omega
  · have hlt : g < w.heap.size := by
      rcases Nat.lt_or_ge g w.heap.size with q | q
      · exact q
      · rw [Array.getElem?_eq_none q] at hg; cases hg
    refine ⟨g, cap, hv, hb, hlt, fun j u hu => ?_⟩
    have := h.cells (g := g) (by rw [hv]; rfl) j u hu
    rw [addN, Nat.zero_add] at this
    exact this
theorem owns_set {w : World} {lo g : Nat} {e : TypeId} {size n c : Nat} {xs : List Value} (h : w.ownsRow lo e size (.slice (some ⟨g, 0, none⟩) n c) n xs) (j : Nat) (x : Value) :
    (w.setCell ⟨g, j, none⟩ x).ownsRow lo e size (.slice (some ⟨g, 0, none⟩) n c) n (xs.set j x) := by
  refine ⟨by rw [List.length_set]; exact h.1, ?_⟩
  rcases h.2 with ⟨hv, _⟩ | ⟨g', cap, cur, hv, hb, hg, hc, hcm, hs, ht⟩
  · cases hv
  · have e1 : g = g' := by injection hv with a _ _; injection a with a; injection a
    have e2 : c = cap := by injection hv
    subst e1 e2
    refine .inr ⟨g, c, _, rfl, hb, heap_setCell_same w g j cur e x hg, hc, hcm, by simpa using hs, ?_⟩
    rw [Array.toList_setIfInBounds, ← ht, List.take_set]

theorem flat_set {α : Type} (d : α) (f : α → List Value) (n : Nat) (hf : ∀ x, (f x).length = n) (k : Nat) (hk : k < n) (x : Value) : ∀ (l : List α) (i : Nat) (m : α), i < l.length → f m = (f (l.getD i d)).set k x → (l.flatMap f).set (i * n + k) x = (l.set i m).flatMap f
  | [], _, _, hi, _ => by simp at hi
  | y :: ys, 0, m, _, hm => by
    rw [List.set_cons_zero, List.flatMap_cons, List.flatMap_cons, List.set_append_left _ _ (by rw [hf]; omega), hm]
    simp
  | y :: ys, i + 1, m, hi, hm => by
    have e2 : (i + 1) * n + k - n = i * n + k := by rw [Nat.add_mul]; omega
    rw [List.set_cons_succ, List.flatMap_cons, List.flatMap_cons, List.set_append_right _ _ (by rw [hf, Nat.add_mul]; omega), hf, e2, flat_set d f n hf k hk x ys i m (by simpa using hi) (by simpa using hm)]

theorem wpList_append_run {P : Program} {ops : Array Oper} {rest : List Oper} {o : Oper} {a : Act} {W W' : World} {Q : Exit → Act → World → Prop} (hgd : o.guard = none) (s x : Operand) (t : TypeId) (ho : o.op = .call { callee := .builtin .append, args := #[s, x], argTypes := #[t, t] }) {v u v' : Value} (hs : a.eval s = v) (hx : a.eval x = u)
    (hr : (Builtin.append_ #[t, t] o.type #[v, u]).run P W = .ok v' W') (h : wpList P ops Q rest (a.put o.dst v') W') : wpList P ops Q (o :: rest) a W :=
  wpList_plain hgd fun _ hK => by
    unfold Oper.wp
    rw [exec_append s x t ho hs hx hr]
    exact hK _ _ h
theorem owns_scn {W : World} {lo e size n p : Nat} {v : Value} {xs : List Value} (h : W.ownsRow lo e size v n xs) (hp : ∀ g, v.ownBlock = some g → g ≠ p) (o : Nat) (x : Value) : (W.setCell ⟨p, o, none⟩ x).ownsRow lo e size v n xs := by
  refine ⟨h.1, ?_⟩
  rcases h.2 with q | ⟨g, cap, cur, q1, q2, q3, q4⟩
  · exact Or.inl q
  · exact Or.inr ⟨g, cap, cur, q1, q2, (Below.heap_setCell W ⟨p, o, none⟩ x g (hp g (by rw [q1]; rfl))).trans q3, q4⟩

end Go.Proofs.Ytejhknclhdbgfaa
