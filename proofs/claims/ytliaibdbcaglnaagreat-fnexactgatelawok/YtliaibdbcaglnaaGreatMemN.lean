/-
  Mendings as they lie in memory.
-/
import Derived.Test.YtliaibdbcaglnaaGreatMemM
import Derived.Test.YtliaibdbcaglnaaGreatWalkMD
import Derived.Test.YtliaibdbcaglnaaGreatWalkV
namespace Go.Proofs.YtliaibdbcaglnaaGreat
open Go.RowKit Go.Deep

structure Need where
  place : Nat
  anyth : Bool
  is_ : ByteArray

structure Mng where
  field : Nat
  needs : List Need
  put : ByteArray
  frm : Nat

def Mng.none : Mng := ⟨0, [], ByteArray.empty, 0⟩

def needCells (n : Need) : List Value := [.int .i64 (n.place : Nat), .bool n.anyth, .string n.is_]
def needsCells (ns : List Need) : List Value := ns.flatMap needCells

theorem needsCells_len : ∀ ns : List Need, (needsCells ns).length = ns.length * 3
  | [] => rfl
  | n :: ns => by
    have := needsCells_len ns
    unfold needsCells at this ⊢
    rw [List.flatMap_cons, List.length_append, this, List.length_cons]
    simp [needCells]; omega

theorem needsCells_at : ∀ (ns : List Need) (i j : Nat), i < ns.length → j < 3 → (needsCells ns)[i * 3 + j]? = (needCells (ns.getD i ⟨0, false, ByteArray.empty⟩))[j]?
  | [], i, _, h, _ => absurd h (Nat.not_lt_zero i)
  | n :: ns, 0, j, _, hj => by
    unfold needsCells
    rw [List.flatMap_cons, Nat.zero_mul, Nat.zero_add, List.getElem?_append_left (by simp [needCells]; omega)]
    rfl
  | n :: ns, i + 1, j, h, hj => by
    have := needsCells_at ns i j (by simpa using h) hj
    unfold needsCells at this ⊢
    rw [List.flatMap_cons, List.getElem?_append_right (by simp [needCells]; omega)]
    rw [show (i + 1) * 3 + j - (needCells n).length = i * 3 + j by simp [needCells]; omega, this]
    simp

/-- The needs of a mending in a block of the call's own. -/
def NeedsOwn (w : World) (lo : Nat) (v : Value) (ns : List Need) : Prop := w.ownsRow lo 187 3 v ns.length (needsCells ns)

theorem owns_low {w : World} {lo lo' : Nat} {e : TypeId} {size : Nat} {v : Value} {n : Nat} {xs : List Value} (h : w.ownsRow lo e size v n xs) (hl : lo' ≤ lo) : w.ownsRow lo' e size v n xs := by
  refine ⟨h.1, ?_⟩
  rcases h.2 with hn | ⟨g, cap, cur, rfl, hb, rest⟩
  · exact Or.inl hn
  · exact Or.inr ⟨g, cap, cur, rfl, by omega, rest⟩

theorem owns_ne {w : World} {lo : Nat} {e : TypeId} {size : Nat} {v : Value} {n : Nat} {xs : List Value} (h : w.ownsRow lo e size v n xs) {k : Nat} {t : TypeId} {m : Nat} (ho : OwnBlk w k t m) (ht : t ≠ e) : some k ≠ v.ownBlock := by
  intro hk
  rcases h.2 with ⟨rfl, _⟩ | ⟨g, cap, cur, rfl, _, hg, _⟩
  · cases hk
  · injection hk with hk
    subst hk
    obtain ⟨cs, h1, _⟩ := ho
    have hg' : w.heap[k]? = some (.cells cur e (0, 0)) := hg
    rw [h1] at hg'
    injection hg' with hq
    injection hq with _ q2 _
    exact ht q2

theorem OwnBlk.grown {w w' : World} {row : Option Nat} {b : Nat} {t : TypeId} {m : Nat} (h : OwnBlk w b t m) (hg : w.grownBy w' row) (hne : some b ≠ row) : OwnBlk w' b t m := by
  have hl := h.lt
  obtain ⟨cs, h1, h2⟩ := h
  exact ⟨cs, by rw [hg.block b hl hne]; exact h1, h2⟩

theorem grown_cell {w w' : World} {row : Option Nat} {b o : Nat} (hl : b < w.heap.size) (hg : w.grownBy w' row) (hne : some b ≠ row) : w'.cell? ⟨b, o, none⟩ = w.cell? ⟨b, o, none⟩ :=
  World.cell?_of_block (a := ⟨b, o, none⟩) (hg.block b hl hne)

theorem owns_sc' {w : World} {lo : Nat} {e : TypeId} {size : Nat} {v : Value} {n : Nat} {xs : List Value} (h : w.ownsRow lo e size v n xs) {B : Nat} (hB : some B ≠ v.ownBlock) (o : Nat) (x : Value) : (w.setCell ⟨B, o, none⟩ x).ownsRow lo e size v n xs := by
  refine ⟨h.1, ?_⟩
  rcases h.2 with hn | ⟨g, cap, cur, rfl, hb, hg, rest⟩
  · exact Or.inl hn
  · refine Or.inr ⟨g, cap, cur, rfl, hb, ?_, rest⟩
    rw [Below.heap_setCell w ⟨B, o, none⟩ x g (by show g ≠ B; intro e; subst e; exact hB rfl)]
    exact hg

theorem owns_grown {w w' : World} {lo : Nat} {e e' : TypeId} {size : Nat} {v v' : Value} {n : Nat} {xs : List Value} {lo' size' n' : Nat} {xs' : List Value} (h : w.ownsRow lo e size v n xs) (h' : w.ownsRow lo' e' size' v' n' xs') (hne : e ≠ e') (hg : w.grownBy w' v'.ownBlock) : w'.ownsRow lo e size v n xs := by
  refine h.kept hg ?_
  rcases h.2 with ⟨rfl, _⟩ | ⟨g, cap, cur, rfl, _, hgg, _, _, hs, _⟩
  · exact Or.inl rfl
  · exact Or.inr (owns_ne h' (k := g) (t := e) (m := cur.size) ⟨cur, hgg, rfl⟩ hne)

/-- What is kept while a mending is made. -/
structure MInv (w0 wr : World) (B : Nat) (m : Mnd) (x : Mng) (v : Value) : Prop where
  bel : Below w0.heap.size w0 wr
  box : OwnBlk wr w0.heap.size 91 6
  cells : MndIs wr w0.heap.size 0 m
  res : OwnBlk wr (w0.heap.size + 1) 185 4
  lt : w0.heap.size + 1 < B
  own : OwnBlk wr B 185 4
  c0 : wr.cell? ⟨B, 0, none⟩ = some (.int .i64 (x.field : Nat))
  c1 : wr.cell? ⟨B, 1, none⟩ = some v
  c2 : wr.cell? ⟨B, 2, none⟩ = some (.string x.put)
  c3 : wr.cell? ⟨B, 3, none⟩ = some (.int .i64 (x.frm : Nat))
  needs : NeedsOwn wr (w0.heap.size + 2) v x.needs

theorem MInv.later {w0 wr w' : World} {B : Nat} {m : Mnd} {x : Mng} {v : Value} (h : MInv w0 wr B m x v) (hb : Below wr.heap.size wr w') : MInv w0 w' B m x v := by
  have hl := h.own.lt
  have c : ∀ o, w'.cell? ⟨B, o, none⟩ = wr.cell? ⟨B, o, none⟩ := fun o => hb.cell (p := ⟨B, o, none⟩) hl
  exact ⟨blw_trans h.bel hb, h.box.later hb, h.cells.later hb h.box.lt, h.res.later hb, h.lt, h.own.later hb, (c _).trans h.c0, (c _).trans h.c1, (c _).trans h.c2, (c _).trans h.c3, owns_later h.needs hb⟩

theorem MInv.setFrm {w0 wr : World} {B : Nat} {m : Mnd} {x : Mng} {v : Value} (h : MInv w0 wr B m x v) (k : Nat) : MInv w0 (wr.setCell ⟨B, 3, none⟩ (.int .i64 (k : Nat))) B m ⟨x.field, x.needs, x.put, k⟩ v := by
  have hl := h.lt
  have c : ∀ b o, (b ≠ B ∨ o ≠ 3) → (wr.setCell ⟨B, 3, none⟩ (.int .i64 (k : Nat))).cell? ⟨b, o, none⟩ = wr.cell? ⟨b, o, none⟩ := fun b o hb => sc_ne _ _ _ _ _ _ hb
  have q := h.cells
  exact ⟨h.bel.setCell (p := ⟨B, 3, none⟩) (by show _ ≤ B; omega) _, h.box.sc_other (by omega) _ _, ⟨(c _ _ (by omega)).trans q.c0, (c _ _ (by omega)).trans q.c1, (c _ _ (by omega)).trans q.c2, (c _ _ (by omega)).trans q.c3, (c _ _ (by omega)).trans q.c4, (c _ _ (by omega)).trans q.c5, q.sized⟩, h.res.sc_other (by omega) _ _, h.lt, h.own.setCell _ _, (c _ _ (by omega)).trans h.c0, (c _ _ (by omega)).trans h.c1, (c _ _ (by omega)).trans h.c2, sc_eq h.own 3 (by omega) _, owns_sc' h.needs (owns_ne h.needs h.own (by decide)) _ _⟩

/-- Behind an append, ahead of the store: the cells are as they were. -/
theorem MInv.mid {w0 wr w1 w2 : World} {B : Nat} {m : Mnd} {x : Mng} {v : Value} (h : MInv w0 wr B m x v) (hb : Below wr.heap.size wr w1) (hg : w1.grownBy w2 v.ownBlock) : OwnBlk w2 B 185 4 ∧ w2.cell? ⟨B, 1, none⟩ = some v := by
  have h1 := h.later hb
  have hne := owns_ne h1.needs h1.own (by decide)
  exact ⟨h1.own.grown hg hne, (grown_cell h1.own.lt hg hne).trans h1.c1⟩

theorem MInv.add {w0 wr w1 w2 : World} {B : Nat} {m : Mnd} {x : Mng} {v v' : Value} {nd : Need} (h : MInv w0 wr B m x v) (hb : Below wr.heap.size wr w1) (ho : w2.ownsRow (w0.heap.size + 2) 187 3 v' (x.needs.length + 1) (needsCells x.needs ++ needCells nd)) (hg : w1.grownBy w2 v.ownBlock) :
    MInv w0 (w2.setCell ⟨B, 1, none⟩ v') B m ⟨x.field, x.needs ++ [nd], x.put, x.frm⟩ v' := by
  have h1 := h.later hb
  have nB := owns_ne h1.needs h1.own (by decide)
  have nx := owns_ne h1.needs h1.box (by decide)
  have nr := owns_ne h1.needs h1.res (by decide)
  have hl := h.lt
  have oB := h1.own.grown hg nB
  have c : ∀ o, o ≠ 1 → (w2.setCell ⟨B, 1, none⟩ v').cell? ⟨B, o, none⟩ = w1.cell? ⟨B, o, none⟩ := fun o ho => (sc_ne _ _ _ _ _ _ (by omega)).trans (grown_cell h1.own.lt hg nB)
  have d : ∀ o, (w2.setCell ⟨B, 1, none⟩ v').cell? ⟨w0.heap.size, o, none⟩ = w1.cell? ⟨w0.heap.size, o, none⟩ := fun o => (sc_ne _ _ _ _ _ _ (by omega)).trans (grown_cell h1.box.lt hg nx)
  have hr : ∀ k, v.ownBlock = some k → w0.heap.size ≤ k := fun k hk => by have := (World.ownsRow.lt h1.needs k hk).1; omega
  have hbel : Below w0.heap.size w0 w2 := Below.grown h1.bel hg h1.bel.size hr
  have q := h1.cells
  refine ⟨hbel.setCell (p := ⟨B, 1, none⟩) (by show _ ≤ B; omega) _, (h1.box.grown hg nx).sc_other (by omega) _ _, ⟨(d _).trans q.c0, (d _).trans q.c1, (d _).trans q.c2, (d _).trans q.c3, (d _).trans q.c4, (d _).trans q.c5, q.sized⟩, (h1.res.grown hg nr).sc_other (by omega) _ _, hl, oB.setCell _ _, (c _ (by omega)).trans h1.c0, sc_eq oB 1 (by omega) _, (c _ (by omega)).trans h1.c2, (c _ (by omega)).trans h1.c3, ?_⟩
  have := owns_sc' ho (owns_ne ho oB (by decide)) 1 v'
  unfold NeedsOwn needsCells at *
  rw [List.length_append, List.flatMap_append]
  simpa using this

end Go.Proofs.YtliaibdbcaglnaaGreat
