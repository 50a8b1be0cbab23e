/-
  Rows of acts, each with a row of ends of its own.
-/
import Derived.Test.YtamhfnlogldpaaaGreatStCo
import Derived.Test.YtamhfnlogldpaaaGreatStR
namespace Go.Proofs.YtamhfnlogldpaaaGreat
open Go.RowKit Go.Deep

def Ac.none : Ac := ⟨ByteArray.empty, 0, 0, 0, 0, false, [], false⟩
def AcC (a : Ac) (e : Value) : List Value := [.string a.svc, .int .i64 a.seen, .int .i64 a.create, .int .i64 a.want, .int .i64 a.cool, .bool a.scale, e, .bool a.drop]
def acsC (L : List Ac) (es : List Value) : List Value := (List.zipWith AcC L es).flatten
theorem acsC_snoc {L : List Ac} {es : List Value} (h : es.length = L.length) (a : Ac) (e : Value) : acsC (L ++ [a]) (es ++ [e]) = acsC L es ++ AcC a e := by
  unfold acsC
  rw [List.zipWith_append h.symm, List.flatten_append]
  simp
/-- A row of acts of one's own: its rows of ends lie apart. -/
structure AcsR (W : World) (lo : Nat) (v : Value) (L : List Ac) (es : List Value) : Prop where
  len : es.length = L.length
  row : W.ownsRow lo 47 8 v L.length (acsC L es)
  ends : ∀ i, i < L.length → W.ownsRow lo 114 2 (es.getD i undef) (L.getD i Ac.none).ends.length ((L.getD i Ac.none).ends.flatMap EnC)
  apart : ∀ i j, i < j → j < L.length → ∀ g, (es.getD i undef).ownBlock = some g → (es.getD j undef).ownBlock ≠ some g
theorem AcsR.later {W W' : World} {lo : Nat} {v : Value} {L : List Ac} {es : List Value} (h : AcsR W lo v L es) (hb : Below W.heap.size W W') : AcsR W' lo v L es :=
  ⟨h.len, owns_later h.row hb, fun i hi => owns_later (h.ends i hi) hb, h.apart⟩
theorem AcsR.base {W : World} {lo lo' : Nat} {v : Value} {L : List Ac} {es : List Value} (h : AcsR W lo v L es) (hl : lo' ≤ lo) : AcsR W lo' v L es :=
  ⟨h.len, owns_base h.row hl, fun i hi => owns_base (h.ends i hi) hl, h.apart⟩
theorem AcsR.nil (W : World) (lo : Nat) : AcsR W lo (.slice none 0 0) [] [] :=
  ⟨rfl, owns_nil _ _ _ _, fun i hi => absurd hi (Nat.not_lt_zero i), fun _ j _ hj => absurd hj (Nat.not_lt_zero j)⟩
theorem owns_blk {W : World} {lo e size m : Nat} {v : Value} {xs : List Value} (h : W.ownsRow lo e size v m xs) {g : Nat} (hg : v.ownBlock = some g) : lo ≤ g ∧ ∃ cs : Array Value, W.heap[g]? = some (.cells cs e) := by
  rcases h.2 with ⟨q, _⟩ | ⟨g', cap, cur, q1, q2, q3, _⟩
  · rw [q] at hg; cases hg
  · rw [q1] at hg; injection hg with hg; subst hg; exact ⟨q2, cur, q3⟩
/-- A row behind a change of another's block. -/
theorem owns_grown {W W' : World} {lo e size m : Nat} {v : Value} {xs : List Value} {row : Option Nat} (h : W.ownsRow lo e size v m xs) (hg : W.grownBy W' row) (hn : ∀ g, v.ownBlock = some g → row ≠ some g) : W'.ownsRow lo e size v m xs := by
  refine ⟨h.1, ?_⟩
  rcases h.2 with q | ⟨g, cap, cur, q1, q2, q3, q4⟩
  · exact Or.inl q
  · exact Or.inr ⟨g, cap, cur, q1, q2, (hg.block g (Array.getElem?_eq_some_iff.1 q3).1 (fun e => hn g (by rw [q1]; rfl) e.symm)).trans q3, q4⟩
theorem blk_type {W : World} {lo lo' e e' size size' m m' : Nat} {v v' : Value} {xs xs' : List Value} (h : W.ownsRow lo e size v m xs) (h' : W.ownsRow lo' e' size' v' m' xs') (hne : e ≠ e') {g : Nat} (hg : v.ownBlock = some g) : v'.ownBlock ≠ some g := fun hg' => by
  obtain ⟨_, cs, q⟩ := owns_blk h hg
  obtain ⟨_, cs', q'⟩ := owns_blk h' hg'
  rw [q] at q'
  injection q' with q'
  injection q' with _ q' _
  exact hne q'
theorem ownBlk_nil {v : Value} (h : v = undef) : v.ownBlock = none := by rw [h]; rfl
/-- One more act. -/
theorem AcsR.push {W w2 w3 : World} {lo : Nat} {v v' : Value} {L : List Ac} {es : List Value} {a : Ac} {e : Value} (h : AcsR W lo v L es) (hb : Below W.heap.size W w2) (he : w2.ownsRow W.heap.size 114 2 e a.ends.length (a.ends.flatMap EnC)) (hlo : lo ≤ W.heap.size)
    (hown : w3.ownsRow lo 47 8 v' (L.length + 1) (acsC L es ++ AcC a e)) (hgrow : w2.grownBy w3 v.ownBlock) : AcsR w3 lo v' (L ++ [a]) (es ++ [e]) := by
  have h2 := h.later hb
  have hty : (114 : Nat) ≠ 47 := by decide
  have hne : ∀ g, e.ownBlock = some g → v.ownBlock ≠ some g := fun g hg => blk_type he h2.row hty hg
  have gl : ∀ i, i < L.length → (es ++ [e]).getD i undef = es.getD i undef := fun i hi => by simp [List.getElem?_append_left (show i < es.length by rw [h.len]; exact hi)]
  have gll : ∀ i, i < L.length → (L ++ [a]).getD i Ac.none = L.getD i Ac.none := fun i hi => by simp [List.getElem?_append_left hi]
  have ge : (es ++ [e]).getD L.length undef = e := by rw [← h.len]; simp
  have ga : (L ++ [a]).getD L.length Ac.none = a := by simp
  refine ⟨by simp [h.len], ?_, fun i hi => ?_, fun i j hij hj g hg => ?_⟩
  · rw [acsC_snoc h.len]; simpa using hown
  · by_cases hl : i < L.length
    · rw [gl i hl, gll i hl]
      exact owns_grown (h2.ends i hl) hgrow (fun g hg => blk_type (h2.ends i hl) h2.row hty hg)
    · have : i = L.length := by simp at hi; omega
      subst this
      rw [ge, ga]
      exact owns_base (owns_grown he hgrow hne) hlo
  · have hi' : i < L.length := by simp at hj; omega
    rw [gl i hi'] at hg
    by_cases hl : j < L.length
    · rw [gl j hl]; exact h.apart i j hij hl g hg
    · have : j = L.length := by simp at hj; omega
      subst this
      rw [ge]
      intro hg'
      obtain ⟨h1, _⟩ := owns_blk he hg'
      obtain ⟨_, cs, h3⟩ := owns_blk (h.ends i hi') hg
      have := (Array.getElem?_eq_some_iff.1 h3).1
      omega

end Go.Proofs.YtamhfnlogldpaaaGreat
