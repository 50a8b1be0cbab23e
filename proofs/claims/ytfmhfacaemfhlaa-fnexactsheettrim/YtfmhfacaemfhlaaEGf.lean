/-
  Sheets: a block's place, the lines of a key: the specification.
-/
import Derived.Test.YtfmhfacaemfhlaaEPg
import Derived.Test.YtfmhfacaemfhlaaECl
import Derived.Test.YtfmhfacaemfhlaaEFd
import Derived.Test.YtfmhfacaemfhlaaUB
namespace Go.Proofs.Ytfmhfacaemfhlaa
open Go.RowKit Go.Deep

/-- A row of one's own whose elements were there before. -/
structure Sv (wa W : World) (t : TypeId) (sh : List Sh) (v : Value) (n : Nat) (es : List Dt) (xs : List Value) : Prop where
  row : W.ownsRow wa.heap.size t sh.length v n xs
  raw : Raw wa (reps n sh) es xs
theorem Sv.later {wa W W' : World} {t : TypeId} {sh : List Sh} {v : Value} {n : Nat} {es : List Dt} {xs : List Value} (h : Sv wa W t sh v n es xs) (hb : Below W.heap.size W W') : Sv wa W' t sh v n es xs := ⟨owns_lt_later h.row hb, h.raw⟩
theorem Sv.emp {wa W : World} {g : Nat} {t : TypeId} (sh : List Sh) (hg : W.heap[g]? = some (.cells #[] t (0, 0))) (hl : wa.heap.size ≤ g) : Sv wa W t sh (.slice (some ⟨g, 0, none⟩) 0 0) 0 [] [] := ⟨(Gr.emp sh hg hl).row, .nil⟩
theorem Sv.shape {wa W : World} {t : TypeId} {sh : List Sh} {v : Value} {n : Nat} {es : List Dt} {xs : List Value} (h : Sv wa W t sh v n es xs) : ∃ a c, v = .slice a n c := by
  rcases h.row.2 with ⟨e, rfl⟩ | ⟨_, _, _, e, _⟩
  · exact ⟨_, _, e⟩
  · exact ⟨_, _, e⟩
theorem Sv.done {wa W : World} {t : TypeId} {sh : List Sh} {v : Value} {n : Nat} {es : List Dt} {xs : List Value} (h : Sv wa W t sh v n es xs) (hb : Below wa.heap.size wa W) : Raw W [.row t sh] [.row n es] [v] := by
  rcases h.row.2 with ⟨rfl, rfl⟩ | ⟨g, cap, cur, rfl, q2, q3, q4, q5, q6, q7⟩
  · have hr := h.raw
    rw [reps_zero] at hr
    cases hr
    exact .emp _ _ none 0 .nil
  · refine .row t sh g 0 n cap xs es (Array.getElem?_eq_some_iff.1 q3).1 ⟨Nat.le_trans q4 q5, q4⟩ ?_ (h.raw.later hb) .nil
    intro j x hx
    rw [← q7] at hx
    have hl : j < n * sh.length := by have := (List.getElem?_eq_some_iff.1 hx).1; rw [List.length_take] at this; omega
    rw [List.getElem?_take_of_lt hl] at hx
    rw [Nat.zero_add]
    simp only [World.cell?, q3]
    simpa using hx
theorem Sv.below {wa W W' : World} {t : TypeId} {sh : List Sh} {v : Value} {n : Nat} {es : List Dt} {xs : List Value} (h : Sv wa W t sh v n es xs) (hb : Below wa.heap.size wa W) (hg : W.grownBy W' v.ownBlock) : Below wa.heap.size wa W' :=
  blw_grown hb hg fun _ hb => (owns_blk_lt h.row hb).1
/-- One line more. -/
theorem sv_push {wa w : World} {ops : Array Oper} {rest : List Oper} {o : Oper} {a : Act} {Q : Exit → Act → World → Prop} (hgd : o.guard = none) (s x : Operand)
    (ho : o.op = .call { callee := .builtin .append, args := #[s, x], argTypes := #[38, 38] }) (v : Value) (n : Nat) (es : List Dt) (xs : List Value) (hs : a.eval s = v) (hown : Sv wa w 48 shSheetLine v n es xs)
    (B c : Nat) (e : List Dt) (cs : List Value) (hx : a.eval x = .slice (some ⟨B, 0, none⟩) 1 c) (hr : Raw wa shSheetLine e cs) (hnews : ∀ j u, cs[j]? = some u → w.cell? ((⟨B, 0, none⟩ : Addr).add j) = some u)
    (h63 : n ≤ 8388608) (hlo : wa.heap.size ≤ w.heap.size)
    (h : ∀ g cap w', Sv wa w' 48 shSheetLine (.slice (some ⟨g, 0, none⟩) (n + 1) cap) (n + 1) (es ++ e) (xs ++ cs) → w.grownBy w' v.ownBlock → wpList Try.prog ops Q rest (a.put o.dst (.slice (some ⟨g, 0, none⟩) (n + 1) cap)) w') : wpList Try.prog ops Q (o :: rest) a w := by
  obtain ⟨i0, hi, hz0, hz1, hz2⟩ := uinfo Try.info_line
  refine wpList_append_lies w hgd s x 38 ho wa.heap.size 48 i0 _ 2 40 Try.under_lines hi hz0 hz1 hz2 rfl (by omega) v n xs hs hown.row ⟨B, 0, none⟩ 1 c cs hx (by rw [hr.len]; rfl) hnews
    (fun u hu => hr.one u hu) (by decide) (by unfold maxLen; omega) (by omega) hlo _ rfl fun g cap w' q1 q2 _ _ => h g cap w' ⟨q1, ?_⟩ q2
  rw [reps_snoc]
  exact hown.raw.app hr

end Go.Proofs.Ytfmhfacaemfhlaa
