/-
  The law of covering: rules that are put behind one another.
-/
import Derived.Test.YtfmidkdpclfffaaDoorSome
import Derived.Test.YtfmidkdpclfffaaDoorDrK
namespace Go.Proofs.YtfmidkdpclfffaaDoor
open Go.RowKit Go.Deep

theorem step_append_own {P : Program} {ops : Array Oper} {o : Oper} {a : Act} {w : World} {K : Act → World → Prop} {Q : Exit → Act → World → Prop} {E : Prop}
    (hg : o.guard = none) (s x : Operand) (t : TypeId) (hop : o.op = Op.call { callee := Callee.builtin Builtin.append, args := #[s, x], argTypes := #[t, t] })
    (base : Nat) (e : TypeId) (i : TypeInfo) (z : Value) (size bytes : Nat) (h1 : P.underlying t = some (.slice e)) (h2 : P.info? e = some i) (h3 : i.zero = some z) (h4 : i.size = size) (h5 : i.bytes = bytes) (h6 : z.cells.size = size) (h7 : 0 < size)
    (v : Value) (n : Nat) (xs : List Value) (hs : a.eval s = v) (hown : w.ownsRow base e size v n xs)
    (ad : Addr) (m c : Nat) (news : List Value) (hx : a.eval x = .slice (some ad) m c) (hn : news.length = m * size) (hc : ∀ j u, news[j]? = some u → w.cell? (ad.add j) = some u) (h1c : ∀ u ∈ news, u.oneCell' = true)
    (b1 : n + m ≤ maxLen) (b2 : (n + m) * bytes ≤ 140737488355328) (hbase : base ≤ w.heap.size)
    (hK : ∀ v' w', w'.ownsRow base e size v' (n + m) (xs ++ news) → w.grownBy w' v.ownBlock → (v' = .slice none 0 0 ↔ v = .slice none 0 0 ∧ m = 0) → K (a.put o.dst v') w') :
    if Region.wanted o (yielded ops a.tmps) = true then Oper.wp P o a w K Q else E := by
  have hw : Region.wanted o (yielded ops a.tmps) = true := by simp [Region.wanted, hg]
  rw [if_pos hw]
  obtain ⟨v', w', hrun, r1, r2, r3⟩ := run_append_own (P := P) w base t o.type e i z size bytes h1 h2 h3 h4 h5 h6 h7 v n xs hown ad m c news hn hc h1c b1 b2 hbase
  unfold Oper.wp
  simp [execOp, hop, resolve, invoke, builtin, hs, hx, hrun, Result.andThen]
  exact hK v' w' r1 r2 r3

theorem list_pick2 {α : Type} (d : α) (p : Nat → α → Prop) : ∀ n, (∀ i, i < n → ∃ x, p i x) → ∃ l : List α, l.length = n ∧ ∀ i (h : i < l.length), p i l[i]
  | 0, _ => ⟨[], rfl, fun i hi => by simp at hi⟩
  | n + 1, h => by
    obtain ⟨l, hl, hp⟩ := list_pick2 d p n fun i hi => h i (by omega)
    obtain ⟨x, hx⟩ := h n (by omega)
    refine ⟨l ++ [x], by simp [hl], fun i hi => ?_⟩
    by_cases e : i < l.length
    · rw [List.getElem_append_left e]; exact hp i e
    · have : i = l.length := by simp at hi; omega
      subst this
      rw [List.getElem_append_right (by omega)]
      simpa [hl] using hx

theorem ruls_list {W : World} {g : Nat} {rs : List Rul} (h : RulsIn W g rs) : ∃ L : List RX, (L.map fun x => x.2.2) = rs ∧ L.length = rs.length ∧ (∀ j u, (cellsR L)[j]? = some u → W.cell? ⟨g, j, none⟩ = some u) ∧ ∀ x ∈ L, IntsIn W x.1 x.2.2.verbs ∧ x.2.2.sized := by
  obtain ⟨L, hl, hp⟩ := list_pick2 (0, 0, Rul.none) (fun i (x : RX) => x.2.2 = rs.getD i Rul.none ∧ W.cell? ⟨g, i * 4, none⟩ = some (.slice (some ⟨x.1, 0, none⟩) x.2.2.verbs.length x.2.1) ∧ W.cell? ⟨g, i * 4 + 1, none⟩ = some (.string x.2.2.kind) ∧ W.cell? ⟨g, i * 4 + 2, none⟩ = some (.string x.2.2.team) ∧ W.cell? ⟨g, i * 4 + 3, none⟩ = some (.string x.2.2.pre) ∧ IntsIn W x.1 x.2.2.verbs ∧ x.2.2.sized) rs.length fun i hi => by
    obtain ⟨b, c, c0, c1, c2, c3, hi', hs⟩ := h.at_ i hi
    exact ⟨(b, c, rs.getD i Rul.none), rfl, c0, c1, c2, c3, hi', hs⟩
  refine ⟨L, ?_, hl, ?_, fun x hx => ?_⟩
  · apply List.ext_getElem (by simp [hl])
    intro i h1 h2
    have := (hp i (by simpa using h1)).1
    simp only [List.getElem_map]
    rw [this]
    simp [h2]
  · intro j u hj
    have hlen : (cellsR L).length = L.length * 4 := by
      unfold cellsR
      clear hp hl hj
      induction L with
      | nil => rfl
      | cons x xs ih => simp [ih]; omega
    have hjl : j < L.length * 4 := by rw [← hlen]; exact (List.getElem?_eq_some_iff.1 hj).1
    obtain ⟨g0, g1, g2, g3⟩ := cellsR_at L (j / 4) (by omega)
    obtain ⟨_, c0, c1, c2, c3, _⟩ := hp (j / 4) (by omega)
    have hm : j % 4 = 0 ∨ j % 4 = 1 ∨ j % 4 = 2 ∨ j % 4 = 3 := by omega
    rcases hm with e | e | e | e
    · have e2 : j / 4 * 4 = j := by omega
      rw [e2] at g0 c0
      rw [hj] at g0; injection g0 with g0; rw [g0]; exact c0
    · have e2 : j / 4 * 4 + 1 = j := by omega
      rw [e2] at g1 c1
      rw [hj] at g1; injection g1 with g1; rw [g1]; exact c1
    · have e2 : j / 4 * 4 + 2 = j := by omega
      rw [e2] at g2 c2
      rw [hj] at g2; injection g2 with g2; rw [g2]; exact c2
    · have e2 : j / 4 * 4 + 3 = j := by omega
      rw [e2] at g3 c3
      rw [hj] at g3; injection g3 with g3; rw [g3]; exact c3
  · obtain ⟨i, hi, rfl⟩ := List.getElem_of_mem hx
    exact (hp i hi).2.2.2.2.2

end Go.Proofs.YtfmidkdpclfffaaDoor
