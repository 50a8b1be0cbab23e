/-
  A block of the call's own.
-/
import Derived.Test.YtjjobbalifjdkaaProg
import Derived.RowKit
import Derived.WalkKit
import Derived.Deep.OwnRows
import Derived.Deep.RegionWith
import Derived.BigQuiet
import Derived.Deep.QuietTactic
namespace Go.Proofs.Ytjjobbalifjdkaa
open Go.RowKit Go.Deep

theorem blw_alloc {a w : World} (h : Below a.heap.size a w) (o : Obj) : Below a.heap.size a (w.alloc o) := h.alloc h.size o
theorem blw_trans {a w w' : World} (h : Below a.heap.size a w) (k : Below w.heap.size w w') : Below a.heap.size a w' := h.trans (k.mono h.size)
theorem blw_drewN {a w : World} (h : Below a.heap.size a w) (n : Nat) : Below a.heap.size a (w.drewN n) := ⟨h.os, h.tape, h.output, h.size, h.block⟩

/-- A block of the call's own: m cells. -/
def OwnBlk (w : World) (B : Nat) (t : TypeId) (m : Nat) : Prop := ∃ cs, w.heap[B]? = some (.cells cs t (0, 0)) ∧ cs.size = m

theorem OwnBlk.lt {w : World} {B : Nat} {t : TypeId} {m : Nat} (h : OwnBlk w B t m) : B < w.heap.size := by
  obtain ⟨cs, h1, _⟩ := h
  by_cases hb : B < w.heap.size
  · exact hb
  · rw [Array.getElem?_eq_none (by omega)] at h1; cases h1
theorem OwnBlk.cell {w : World} {B : Nat} {t : TypeId} {m : Nat} (h : OwnBlk w B t m) (o : Nat) (ho : o < m) : ∃ v, w.cell? ⟨B, o, none⟩ = some v := by
  obtain ⟨cs, h1, h2⟩ := h
  refine ⟨cs[o]'(by omega), ?_⟩
  simp [World.cell?, h1, Array.getElem?_eq_getElem (show o < cs.size by omega)]
theorem OwnBlk.frozen {w : World} {B : Nat} {t : TypeId} {m : Nat} (h : OwnBlk w B t m) (o : Nat) : w.frozen? ⟨B, o, none⟩ = false := by
  obtain ⟨cs, h1, h2⟩ := h
  simp [World.frozen?, h1]
theorem OwnBlk.later {w w' : World} {B : Nat} {t : TypeId} {m : Nat} (h : OwnBlk w B t m) (hb : Below w.heap.size w w') : OwnBlk w' B t m := by
  have hl := h.lt
  obtain ⟨cs, h1, h2⟩ := h
  exact ⟨cs, by rw [hb.block B hl]; exact h1, h2⟩
theorem OwnBlk.setCell {w : World} {B : Nat} {t : TypeId} {m : Nat} (h : OwnBlk w B t m) (o : Nat) (v : Value) : OwnBlk (w.setCell ⟨B, o, none⟩ v) B t m := by
  obtain ⟨cs, h1, h2⟩ := h
  refine ⟨cs.setIfInBounds o v, ?_, by simpa using h2⟩
  simp [World.setCell, Array.getElem?_modify, h1]
theorem OwnBlk.alloc (w : World) (cs : Array Value) (t : TypeId) (m : Nat) (h : cs.size = m) : OwnBlk (w.alloc (.cells cs t)) w.heap.size t m := ⟨cs, by show (w.heap.push _)[w.heap.size]? = _; simp, h⟩

theorem sc_ne (w : World) (B o : Nat) (v : Value) (b' o' : Nat) (h : b' ≠ B ∨ o' ≠ o) : (w.setCell ⟨B, o, none⟩ v).cell? ⟨b', o', none⟩ = w.cell? ⟨b', o', none⟩ := by
  by_cases hb : b' = B
  · subst hb
    have ho : o ≠ o' := fun e => by rcases h with h | h; exact h rfl; exact h e.symm
    simp only [World.cell?, World.setCell, Array.getElem?_modify, if_pos]
    cases w.heap[b']? with
    | none => rfl
    | some x => cases x <;> simp [ho]
  · simp only [World.cell?, World.setCell, Array.getElem?_modify]
    rw [if_neg (fun e => hb e.symm)]

theorem sc_eq {w : World} {B : Nat} {t : TypeId} {m : Nat} (h : OwnBlk w B t m) (o : Nat) (ho : o < m) (v : Value) : (w.setCell ⟨B, o, none⟩ v).cell? ⟨B, o, none⟩ = some v := by
  obtain ⟨cs, h1, h2⟩ := h
  simp [World.cell?, World.setCell, Array.getElem?_modify, h1, h2, ho]


theorem OwnBlk.sc_other {w : World} {b B : Nat} {t : TypeId} {m : Nat} (h : OwnBlk w b t m) (hne : b ≠ B) (o : Nat) (v : Value) : OwnBlk (w.setCell ⟨B, o, none⟩ v) b t m := by
  obtain ⟨cs, h1, h2⟩ := h
  refine ⟨cs, ?_, h2⟩
  rw [Below.heap_setCell w ⟨B, o, none⟩ v b hne]
  exact h1
theorem OwnBlk.kind {w : World} {b : Nat} {t t' : TypeId} {m m' : Nat} (h : OwnBlk w b t m) (h' : OwnBlk w b t' m') : t = t' := by
  obtain ⟨cs, h1, _⟩ := h
  obtain ⟨cs', h1', _⟩ := h'
  rw [h1] at h1'
  injection h1' with e
  injection e with _ e2 _
theorem OwnBlk.past {w : World} {b : Nat} {t : TypeId} {m : Nat} (h : OwnBlk w b t m) (o : Obj) : OwnBlk (w.alloc o) b t m := h.later (blw_alloc (Below.refl _ _) o)

/- Values put into it one behind the other. -/

def puts (w : World) (B o j : Nat) : List Value → World
  | [] => w
  | v :: vs => puts (w.setCell ⟨B, o + j, none⟩ v) B o (j + 1) vs

theorem puts_size (B o : Nat) : ∀ (vs : List Value) (w : World) (j : Nat), (puts w B o j vs).heap.size = w.heap.size
  | [], _, _ => rfl
  | v :: vs, w, j => by rw [puts, puts_size B o vs]; simp [World.setCell]

theorem puts_own {B : Nat} {t : TypeId} {m : Nat} (o : Nat) : ∀ (vs : List Value) (w : World) (j : Nat), OwnBlk w B t m → OwnBlk (puts w B o j vs) B t m
  | [], _, _, h => h
  | v :: vs, _, _, h => puts_own o vs _ _ (h.setCell _ v)

theorem puts_below {a : World} {B : Nat} (o : Nat) (hB : a.heap.size ≤ B) : ∀ (vs : List Value) (w : World) (j : Nat), Below a.heap.size a w → Below a.heap.size a (puts w B o j vs)
  | [], _, _, h => h
  | v :: vs, _, _, h => puts_below o hB vs _ _ (h.setCell (p := ⟨B, _, none⟩) hB v)

theorem puts_other (B o b' o' : Nat) : ∀ (vs : List Value) (w : World) (j : Nat), (b' ≠ B ∨ o' < o + j ∨ o + j + vs.length ≤ o') → (puts w B o j vs).cell? ⟨b', o', none⟩ = w.cell? ⟨b', o', none⟩
  | [], _, _, _ => rfl
  | v :: vs, w, j, h => by
    rw [List.length_cons] at h
    rw [puts, puts_other B o b' o' vs _ (j + 1) (by omega)]
    exact sc_ne _ _ _ _ _ _ (by omega)

theorem puts_at {B : Nat} {t : TypeId} {m : Nat} (o : Nat) : ∀ (vs : List Value) (w : World) (j : Nat), OwnBlk w B t m → o + j + vs.length ≤ m → ∀ i, i < vs.length → (puts w B o j vs).cell? ⟨B, o + (j + i), none⟩ = vs[i]?
  | [], _, _, _, _, i, hi => absurd hi (Nat.not_lt_zero i)
  | v :: vs, w, j, h, hm, i, hi => by
    rw [List.length_cons] at hm hi
    cases i with
    | zero =>
      rw [puts, puts_other B o B (o + (j + 0)) vs _ (j + 1) (by omega)]
      exact sc_eq h (o + j) (by omega) v
    | succ i =>
      have := puts_at o vs _ (j + 1) (h.setCell (o + j) v) (by omega) i (by omega)
      rw [puts, show o + (j + (i + 1)) = o + (j + 1 + i) by omega, this]
      simp

theorem own_puts_other {b B : Nat} {t : TypeId} {m : Nat} (o : Nat) (hne : b ≠ B) : ∀ (vs : List Value) (w : World) (j : Nat), OwnBlk w b t m → OwnBlk (puts w B o j vs) b t m
  | [], _, _, h => h
  | v :: vs, _, _, h => own_puts_other o hne vs _ _ (h.sc_other hne _ v)

def szP (A : Prop) (left r : Int) : Prop := -1 ≤ r ∧ r ≤ left ∧ (0 ≤ r → A)

end Go.Proofs.Ytjjobbalifjdkaa
