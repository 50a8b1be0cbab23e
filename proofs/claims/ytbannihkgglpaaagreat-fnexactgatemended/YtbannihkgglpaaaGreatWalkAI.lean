/-
  What is kept while values are filled.
-/
import Derived.Test.YtbannihkgglpaaaGreatWalkAH
namespace Go.Proofs.YtbannihkgglpaaaGreat
open Go.RowKit Go.Deep

/-- While values are filled: the object lies in block X, its lists from w's end on, the place of the answer behind w's end. -/
structure FInv (w wr : World) (X mid : Nat) (o : Ob) (vals : List ByteArray) (v1 v2 : Value) : Prop where
  bel : Below w.heap.size w wr
  own : OwnBlk wr (w.heap.size + 1) 30 7
  lt : X < wr.heap.size
  x0 : wr.cell? ⟨X, 0, none⟩ = some (.string o.kind)
  x1 : wr.cell? ⟨X, 1, none⟩ = some (.string o.name)
  x2 : wr.cell? ⟨X, 2, none⟩ = some (.string o.team)
  x3 : wr.cell? ⟨X, 3, none⟩ = some (v1)
  x4 : wr.cell? ⟨X, 4, none⟩ = some (.bool o.ending)
  x5 : wr.cell? ⟨X, 5, none⟩ = some (v2)
  x6 : wr.cell? ⟨X, 6, none⟩ = some (.int .i64 o.version)
  c1 : CT wr (w.heap.size + 2) mid v1 vals
  c2 : CT wr mid X v2 o.holds
  m1 : w.heap.size + 2 ≤ mid
  m2 : mid ≤ X

theorem FInv.later {w wr wr' : World} {X mid : Nat} {o : Ob} {vals : List ByteArray} {v1 v2 : Value} (h : FInv w wr X mid o vals v1 v2) (hb : Below wr.heap.size wr wr') : FInv w wr' X mid o vals v1 v2 := by
  have c : ∀ j, wr'.cell? ⟨X, j, none⟩ = wr.cell? ⟨X, j, none⟩ := fun j => hb.cell (p := ⟨X, j, none⟩) h.lt
  exact ⟨blw_trans h.bel hb, h.own.later hb, Nat.lt_of_lt_of_le h.lt hb.size, (c 0).trans h.x0, (c 1).trans h.x1, (c 2).trans h.x2, (c 3).trans h.x3, (c 4).trans h.x4, (c 5).trans h.x5, (c 6).trans h.x6, h.c1.later hb, h.c2.later hb, h.m1, h.m2⟩

theorem FInv.put {w wr : World} {X mid : Nat} {o : Ob} {vs : List ByteArray} {fs : List Fld} {q g cap : Nat} {v2 : Value} (h : FInv w wr X mid o (fillTo vs fs q) (.slice (some ⟨g, 0, none⟩) vs.length cap) v2) (hq : q < vs.length) (he : (vs.getD q ByteArray.empty).toList.isEmpty = true) :
    FInv w (wr.setCell ⟨g, q, none⟩ (.string (fs.getD q Fld.none).de)) X mid o (fillTo vs fs (q + 1)) (.slice (some ⟨g, 0, none⟩) vs.length cap) v2 := by
  obtain ⟨g1, g2, _, _, _, _⟩ := h.c1.row
  have m1 := h.m1
  have m2 := h.m2
  have c : ∀ j, (wr.setCell ⟨g, q, none⟩ (.string (fs.getD q Fld.none).de)).cell? ⟨X, j, none⟩ = wr.cell? ⟨X, j, none⟩ := fun j => sc_ne _ _ _ _ _ _ (Or.inl (by omega))
  exact ⟨h.bel.setCell (p := ⟨g, q, none⟩) (by show w.heap.size ≤ g; omega) _, h.own.sc_other (by omega) _ _, by rw [sc_size']; exact h.lt, (c 0).trans h.x0, (c 1).trans h.x1, (c 2).trans h.x2, (c 3).trans h.x3, (c 4).trans h.x4, (c 5).trans h.x5, (c 6).trans h.x6, h.c1.set hq he, h.c2.sc (Or.inl (by omega)) _ _, m1, m2⟩

theorem FInv.keep {w wr : World} {X mid : Nat} {o : Ob} {vs : List ByteArray} {fs : List Fld} {q : Nat} {v1 v2 : Value} (h : FInv w wr X mid o (fillTo vs fs q) v1 v2) (hq : q < vs.length) (he : (vs.getD q ByteArray.empty).toList.isEmpty = false) :
    FInv w wr X mid o (fillTo vs fs (q + 1)) v1 v2 :=
  ⟨h.bel, h.own, h.lt, h.x0, h.x1, h.x2, h.x3, h.x4, h.x5, h.x6, h.c1.keep hq he, h.c2, h.m1, h.m2⟩

theorem CT.puts {lo hi R : Nat} {v : Value} {ss : List ByteArray} (o : Nat) (hR : R < lo ∨ hi ≤ R) : ∀ (vs : List Value) (w : World) (j : Nat), CT w lo hi v ss → CT (puts w R o j vs) lo hi v ss
  | [], _, _, h => h
  | x :: vs, _, _, h => CT.puts o hR vs _ _ (h.sc hR _ x)

theorem FInv.out {w W : World} {X mid : Nat} {o : Ob} {vals : List ByteArray} {v1 v2 : Value} (h : FInv w W X mid o vals v1 v2) (L : List Value) (hL : L.length = 7) :
    (∀ j, j < 7 → (puts W (w.heap.size + 1) 0 0 L).cell? ⟨w.heap.size + 1, 0 + (0 + j), none⟩ = L[j]?) ∧ w.heap.size + 1 < (puts W (w.heap.size + 1) 0 0 L).heap.size ∧ CT (puts W (w.heap.size + 1) 0 0 L) w.heap.size mid v1 vals ∧ CT (puts W (w.heap.size + 1) 0 0 L) mid (puts W (w.heap.size + 1) 0 0 L).heap.size v2 o.holds ∧ w.heap.size ≤ mid ∧ mid ≤ (puts W (w.heap.size + 1) 0 0 L).heap.size ∧ Below w.heap.size w (puts W (w.heap.size + 1) 0 0 L) := by
  have m1 := h.m1
  have m2 := h.m2
  have l := h.lt
  rw [puts_size]
  refine ⟨fun j hj => puts_at 0 L W 0 h.own (by omega) j (by omega), h.own.lt, (CT.puts 0 (Or.inl (by omega)) L W 0 h.c1).mono (by omega) (Nat.le_refl _), (CT.puts 0 (Or.inl (by omega)) L W 0 h.c2).mono (Nat.le_refl _) (by omega), by omega, by omega, puts_below (a := w) 0 (B := w.heap.size + 1) (by omega) L W 0 h.bel⟩

theorem FInv.outA {w W : World} {X mid : Nat} {o : Ob} {vals : List ByteArray} {v1 v2 : Value} (h : FInv w W X mid o vals v1 v2) (L : List Value) (hL : L.length = 7) (x : Obj) :
    (∀ j, j < 7 → ((puts W (w.heap.size + 1) 0 0 L).alloc x).cell? ⟨w.heap.size + 1, 0 + (0 + j), none⟩ = L[j]?) ∧ CT ((puts W (w.heap.size + 1) 0 0 L).alloc x) w.heap.size mid v1 vals ∧ CT ((puts W (w.heap.size + 1) 0 0 L).alloc x) mid ((puts W (w.heap.size + 1) 0 0 L).alloc x).heap.size v2 o.holds ∧ w.heap.size ≤ mid ∧ mid ≤ ((puts W (w.heap.size + 1) 0 0 L).alloc x).heap.size ∧ Below w.heap.size w ((puts W (w.heap.size + 1) 0 0 L).alloc x) := by
  obtain ⟨h1, h2, h3, h4, h5, h6, h7⟩ := h.out L hL
  have hb : Below (puts W (w.heap.size + 1) 0 0 L).heap.size (puts W (w.heap.size + 1) 0 0 L) ((puts W (w.heap.size + 1) 0 0 L).alloc x) := blw_alloc (Below.refl _ _) x
  exact ⟨fun j hj => (World.cell?_alloc_past _ _ _ h2).trans (h1 j hj), h3.later hb, (h4.later hb).mono (Nat.le_refl _) hb.size, h5, Nat.le_trans h6 hb.size, blw_trans h7 hb⟩
end Go.Proofs.YtbannihkgglpaaaGreat
