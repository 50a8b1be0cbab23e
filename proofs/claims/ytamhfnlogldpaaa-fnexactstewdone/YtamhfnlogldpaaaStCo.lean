/-
  Stewards: what is kept while an act is filled.
-/
import Derived.Test.YtamhfnlogldpaaaMemSB
import Derived.Test.YtamhfnlogldpaaaMemEn
import Derived.Test.YtamhfnlogldpaaaStT
namespace Go.Proofs.Ytamhfnlogldpaaa
open Go.RowKit Go.Deep

theorem hidA {p : Prop} (h : p) : Hid p := h

structure BoxA (W : World) (p : Nat) (v0 v1 v2 v3 v4 v5 v6 v7 : Value) : Prop where
  lt : p < W.heap.size
  x0 : W.cell? ⟨p, 0, none⟩ = some v0
  x1 : W.cell? ⟨p, 1, none⟩ = some v1
  x2 : W.cell? ⟨p, 2, none⟩ = some v2
  x3 : W.cell? ⟨p, 3, none⟩ = some v3
  x4 : W.cell? ⟨p, 4, none⟩ = some v4
  x5 : W.cell? ⟨p, 5, none⟩ = some v5
  x6 : W.cell? ⟨p, 6, none⟩ = some v6
  x7 : W.cell? ⟨p, 7, none⟩ = some v7
theorem BoxA.later {W W' : World} {p : Nat} {v0 v1 v2 v3 v4 v5 v6 v7 : Value} (h : BoxA W p v0 v1 v2 v3 v4 v5 v6 v7) (hb : Below W.heap.size W W') : BoxA W' p v0 v1 v2 v3 v4 v5 v6 v7 := by
  have c : ∀ j, W'.cell? ⟨p, j, none⟩ = W.cell? ⟨p, j, none⟩ := fun j => hb.cell (p := ⟨p, j, none⟩) h.lt
  exact ⟨Nat.lt_of_lt_of_le h.lt hb.size, (c 0).trans h.x0, (c 1).trans h.x1, (c 2).trans h.x2, (c 3).trans h.x3, (c 4).trans h.x4, (c 5).trans h.x5, (c 6).trans h.x6, (c 7).trans h.x7⟩
theorem BoxA.new' (W : World) (p : Nat) (v0 v1 v2 v3 v4 v5 v6 v7 : Value) (t : TypeId) (hp : p = W.heap.size) : BoxA (W.alloc (.cells #[v0, v1, v2, v3, v4, v5, v6, v7] t)) p v0 v1 v2 v3 v4 v5 v6 v7 := by
  subst hp
  have c : ∀ j, (W.alloc (.cells #[v0, v1, v2, v3, v4, v5, v6, v7] t)).cell? ⟨W.heap.size, j, none⟩ = (#[v0, v1, v2, v3, v4, v5, v6, v7])[j]? := fun j => World.cell?_alloc_at _ _ _ _ rfl
  exact ⟨by simp, c 0, c 1, c 2, c 3, c 4, c 5, c 6, c 7⟩
theorem BoxA.past {W : World} {p : Nat} {v0 v1 v2 v3 v4 v5 v6 v7 : Value} (h : BoxA W p v0 v1 v2 v3 v4 v5 v6 v7) (o : Obj) : BoxA (W.alloc o) p v0 v1 v2 v3 v4 v5 v6 v7 := h.later (blw_alloc (Below.refl _ _) o)

structure Ac where
  svc : ByteArray
  seen : Int
  create : Int
  want : Int
  cool : Int
  scale : Bool
  ends : List En
  drop : Bool
structure AcAt (w : World) (v : Value) (X : Ac) : Prop where
  sized : X.svc.size ≤ maxLen
  e : EnsAt w v X.ends
def Ac.small (X : Ac) : Prop := X.ends.length ≤ 1048576
theorem AcAt.later {w w' : World} {v : Value} {X : Ac} (h : AcAt w v X) (hb : Below w.heap.size w w') : AcAt w' v X := ⟨h.sized, h.e.later hb⟩

end Go.Proofs.Ytamhfnlogldpaaa

namespace Go.Proofs.Ytamhfnlogldpaaa
open Go.RowKit Go.Deep

/-- An act's variable and the result's. -/
structure AV (W : World) (p q : Nat) (cs : List Value) : Prop where
  a : OwnBlk W p 143 8
  r : OwnBlk W q 143 8
  ne : p ≠ q
  len : cs.length = 8
  cel : ∀ j, j < 8 → W.cell? ⟨p, j, none⟩ = cs[j]?
theorem AV.later {W W' : World} {p q : Nat} {cs : List Value} (h : AV W p q cs) (hb : Below W.heap.size W W') : AV W' p q cs :=
  ⟨h.a.later hb, h.r.later hb, h.ne, h.len, fun j hj => (hb.cell (p := ⟨p, j, none⟩) h.a.lt).trans (h.cel j hj)⟩
theorem AV.sc {W : World} {p q : Nat} {cs : List Value} (h : AV W p q cs) (j : Nat) (hj : j < 8) (u : Value) : AV (W.setCell ⟨p, j, none⟩ u) p q (cs.set j u) := by
  refine ⟨h.a.setCell _ _, h.r.sc_other h.ne.symm _ _, h.ne, by rw [List.length_set]; exact h.len, fun i hi => ?_⟩
  by_cases e : i = j
  · subst e
    rw [sc_eq h.a i hj u, List.getElem?_set_self (by rw [h.len]; exact hj)]
  · rw [sc_ne _ _ _ _ _ _ (Or.inr e), h.cel i hi, List.getElem?_set_ne (fun e' => e e'.symm)]
theorem AV.range {W : World} {p q : Nat} {cs : List Value} (h : AV W p q cs) : W.rangeAt p 0 cs := fun j v hv => by
  have hj : j < 8 := by rw [← h.len]; exact (List.getElem?_eq_some_iff.1 hv).1
  rw [Nat.zero_add, h.cel j hj]; exact hv
theorem AV.at_ {W : World} {p q : Nat} {cs : List Value} (h : AV W p q cs) (j : Nat) (v : Value) (hv : cs[j]? = some v) (hj : j < 8) : W.cell? ⟨p, j, none⟩ = some v := (h.cel j hj).trans hv

theorem setCells_below {u W : World} {q : Nat} (h : Below u.heap.size u W) (hq : u.heap.size ≤ q) : ∀ (o : Nat) (vs : List Value), Below u.heap.size u (W.setCells q o vs) := by
  intro o vs
  induction vs generalizing o W with
  | nil => exact h
  | cons x vs ih => rw [World.setCells]; exact ih (h.setCell (p := ⟨q, o, none⟩) hq x) (o + 1)

/-- What a scaler asks: the want, the cool, whether it scales. -/
def scal (s : Sv) : Int × Int × Bool :=
  if s.want < s.least then (s.least, 0, true)
  else if s.most < s.want then (s.most, 0, true)
  else if s.want < desired s then (desired s, 0, true)
  else if desired s < s.want then (if 3 ≤ s.cool then (s.want - 1, 0, true) else (s.want, s.cool + 1, true))
  else if s.cool = 0 then (0, 0, false) else (s.want, 0, true)
def scalAc (s : Sv) : Ac := ⟨s.nm, s.ver, 0, (scal s).1, (scal s).2.1, (scal s).2.2, [], false⟩

end Go.Proofs.Ytamhfnlogldpaaa

namespace Go.Proofs.Ytamhfnlogldpaaa
open Go.RowKit Go.Deep

/-- What is kept while an act is filled: the book's box, the service's, the act and the result. -/
structure CIk (w W : World) (v0 v1 v2 v3 : Value) (s : Sv) (cs : List Value) : Prop where
  bel : Below w.heap.size w W
  bk : Box4 W w.heap.size v0 v1 v2 v3
  sv : Box13 W (w.heap.size + 1) (.string s.nm) (.int .i64 s.ver) (.bool s.gone) (.int .i64 s.image) (.int .i64 s.want) (.int .i64 s.down) (.int .i64 s.over) (.int .i64 s.next) (.int .i64 s.per) (.int .i64 s.least) (.int .i64 s.most) (.int .i64 s.load) (.int .i64 s.cool)
  av : AV W (w.heap.size + 2) (w.heap.size + 3) cs
theorem CIk.later {w W W' : World} {v0 v1 v2 v3 : Value} {s : Sv} {cs : List Value} (h : CIk w W v0 v1 v2 v3 s cs) (hb : Below W.heap.size W W') : CIk w W' v0 v1 v2 v3 s cs :=
  ⟨blw_trans h.bel hb, h.bk.later hb, h.sv.later hb, h.av.later hb⟩
theorem owns_stc {W : World} {lo e size m : Nat} {v : Value} {xs : List Value} (h : W.ownsRow lo e size v m xs) {B : Nat} (hB : B < lo) (j : Nat) (u : Value) : (W.setCell ⟨B, j, none⟩ u).ownsRow lo e size v m xs := by
  refine ⟨h.1, ?_⟩
  rcases h.2 with q | ⟨g, cap, cur, q1, q2, q3, q4⟩
  · exact Or.inl q
  · exact Or.inr ⟨g, cap, cur, q1, q2, by rw [Below.heap_setCell W ⟨B, j, none⟩ u g (by show g ≠ B; omega)]; exact q3, q4⟩
theorem owns_scs {lo e size m : Nat} {v : Value} {xs : List Value} {B : Nat} (hB : B < lo) : ∀ (us : List Value) (W : World) (o : Nat), W.ownsRow lo e size v m xs → (W.setCells B o us).ownsRow lo e size v m xs
  | [], _, _, h => h
  | u :: us, W, o, h => by rw [World.setCells]; exact owns_scs hB us _ (o + 1) (owns_stc h hB o u)
theorem owns_nil (W : World) (lo e size : Nat) : W.ownsRow lo e size (.slice none 0 0) 0 [] := ⟨by simp, Or.inl ⟨rfl, rfl⟩⟩
theorem own_one {W : World} {lo e c : Nat} {a : Option Addr} {x y : Value} (h : W.ownsRow lo e 2 (.slice a 1 c) 1 [x, y]) : ∃ g, a = some ⟨g, 0, none⟩ ∧ g < W.heap.size ∧ lo ≤ g ∧ W.cell? ⟨g, 0, none⟩ = some x := by
  rcases h.2 with ⟨_, h0⟩ | ⟨g, cap, cur, hv, hb, hg, hn, hm, hs, ht⟩
  · omega
  · injection hv with hv _ _
    subst hv
    refine ⟨g, rfl, (Array.getElem?_eq_some_iff.1 hg).1, hb, ?_⟩
    have q : ([x, y] : List Value)[0]? = cur.toList[0]? := by rw [← ht, List.getElem?_take, if_pos (by omega)]
    simp only [World.cell?, hg]
    simpa using q.symm
def baseAc (s : Sv) : Ac := ⟨s.nm, s.ver, 0, 0, 0, false, [], false⟩

end Go.Proofs.Ytamhfnlogldpaaa
