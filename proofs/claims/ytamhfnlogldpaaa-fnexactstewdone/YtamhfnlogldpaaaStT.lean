/-
  Stewards: the first of some copies to end, by the specification.
-/
import Derived.Deep.RegionHeldLaw
import Derived.Deep.AppendLies
import Derived.RegionTactic
import Derived.StillTailTactics
import Derived.Test.YtamhfnlogldpaaaStF
import Derived.Test.YtamhfnlogldpaaaMemEn
import Derived.Test.YtamhfnlogldpaaaPut
import Derived.Test.YtamhfnlogldpaaaStH
import Derived.Test.YtamhfnlogldpaaaLet
namespace Go.Proofs.Ytamhfnlogldpaaa
open Go.RowKit Go.Deep

theorem take_one {α : Type} (d : α) : ∀ (L : List α) (k : Nat), k < L.length → L.take (k + 1) = L.take k ++ [L.getD k d]
  | [], k, h => by simp at h
  | x :: xs, 0, _ => by simp
  | x :: xs, k + 1, h => by
    have e := take_one d xs k (by simpa using h)
    rw [List.take_succ_cons, e, List.take_succ_cons, List.cons_append]
    simp
theorem own_get {W : World} {lo : Nat} {a : Option Addr} {c : Nat} {L : List Nat} (h : W.ownsRow lo 3 1 (.slice a L.length c) L.length (nums L)) {j : Nat} (hj : j < L.length) :
    ∃ g, a = some ⟨g, 0, none⟩ ∧ g < W.heap.size ∧ lo ≤ g ∧ W.cell? ⟨g, j, none⟩ = some (.int .i64 ((L.getD j 0 : Nat) : Int)) := by
  rcases h.2 with ⟨_, h0⟩ | ⟨g, cap, cur, hv, hb, hg, hn, hm, hs, ht⟩
  · omega
  · injection hv with hv _ _
    subst hv
    refine ⟨g, rfl, (Array.getElem?_eq_some_iff.1 hg).1, hb, ?_⟩
    have q : (nums L)[j]? = cur.toList[j]? := by rw [← ht, List.getElem?_take, if_pos (by omega)]
    rw [nums_at hj] at q
    simp only [World.cell?, hg]
    simpa using q.symm
theorem getD_in {L : List Nat} {j : Nat} (h : j < L.length) : L.getD j 0 ∈ L := by
  have e : L.getD j 0 = L[j] := by simp [h]
  rw [e]; exact List.getElem_mem h

def EnC (m : En) : List Value := [.int .i64 m.num, .int .i64 m.seen]
def endOf (c : Cp) : En := ⟨c.num, c.ver⟩
/-- Some copies as ends. -/
def endsOf (K : SBk) (L : List Nat) : List En := L.map fun z => endOf (K.cps.getD z Cp.none)

end Go.Proofs.Ytamhfnlogldpaaa

namespace Go.Proofs.Ytamhfnlogldpaaa
open Go.RowKit Go.Deep

theorem filt_take (p : Nat → Bool) {L : List Nat} {k : Nat} (h : k < L.length) : (L.take (k + 1)).filter p = (L.take k).filter p ++ (if p (L.getD k 0) then [L.getD k 0] else []) := by
  rw [take_one 0 L k h, List.filter_append]
  congr 1
  generalize L.getD k 0 = z
  cases hp : p z <;> simp [List.filter, hp]
theorem filt_len (p : Nat → Bool) (L : List Nat) (k : Nat) : ((L.take k).filter p).length ≤ k := by
  have := List.length_filter_le p (L.take k)
  have := List.length_take_le k L
  omega
/-- Those of some copies that may end. -/
def mayP (K : SBk) (z : Nat) : Bool := mayEnd K (K.cps.getD z Cp.none).svc (K.cps.getD z Cp.none).num
def mayOf (K : SBk) (L : List Nat) : List Nat := L.filter (mayP K)

end Go.Proofs.Ytamhfnlogldpaaa

namespace Go.Proofs.Ytamhfnlogldpaaa
open Go.RowKit Go.Deep

theorem BelX.grow {p : Nat} {v W W' : World} {row : Option Nat} (h : BelX p v W) (hg : W.grownBy W' row) (hr : ∀ q, row = some q → q = p ∨ v.heap.size ≤ q) : BelX p v W' :=
  ⟨hg.os.trans h.os, hg.tape.trans h.tape, hg.output.trans h.output, Nat.le_trans h.size hg.size, fun q hq hn => (hg.block q (Nat.lt_of_lt_of_le hq h.size) (fun e => by
    rcases hr q e.symm with h1 | h1
    · exact hn h1
    · omega)).trans (h.block q hq hn)⟩

theorem Box4.bx {p b : Nat} {v W : World} {v0 v1 v2 v3 : Value} (h : Box4 v b v0 v1 v2 v3) (hx : BelX p v W) (hn : b ≠ p) : Box4 W b v0 v1 v2 v3 :=
  ⟨Nat.lt_of_lt_of_le h.lt hx.size, (hx.cell h.lt hn _).trans h.x0, (hx.cell h.lt hn _).trans h.x1, (hx.cell h.lt hn _).trans h.x2, (hx.cell h.lt hn _).trans h.x3⟩
theorem Box13.bx {p b : Nat} {v W : World} {v0 v1 v2 v3 v4 v5 v6 v7 v8 v9 v10 v11 v12 : Value} (h : Box13 v b v0 v1 v2 v3 v4 v5 v6 v7 v8 v9 v10 v11 v12) (hx : BelX p v W) (hn : b ≠ p) : Box13 W b v0 v1 v2 v3 v4 v5 v6 v7 v8 v9 v10 v11 v12 :=
  ⟨Nat.lt_of_lt_of_le h.lt hx.size, (hx.cell h.lt hn _).trans h.x0, (hx.cell h.lt hn _).trans h.x1, (hx.cell h.lt hn _).trans h.x2, (hx.cell h.lt hn _).trans h.x3, (hx.cell h.lt hn _).trans h.x4, (hx.cell h.lt hn _).trans h.x5, (hx.cell h.lt hn _).trans h.x6, (hx.cell h.lt hn _).trans h.x7, (hx.cell h.lt hn _).trans h.x8, (hx.cell h.lt hn _).trans h.x9, (hx.cell h.lt hn _).trans h.x10, (hx.cell h.lt hn _).trans h.x11, (hx.cell h.lt hn _).trans h.x12⟩

/-- Old, drained, failed. -/
def pick16 (K : SBk) (s : Sv) (which : Int) (c : Cp) : Bool := if which = 2 then (c.image != s.image) else if which = 6 then drains K c else (c.state == 4)
def pickP (K : SBk) (s : Sv) (which : Int) (z : Nat) : Bool := pick16 K s which (K.cps.getD z Cp.none)
def someOf (K : SBk) (s : Sv) (which : Int) : List Nat := (liveOf K s.nm).filter (pickP K s which)

end Go.Proofs.Ytamhfnlogldpaaa

namespace Go.Proofs.Ytamhfnlogldpaaa
open Go.RowKit Go.Deep

/-- A copy is to end sooner than another one. -/
def sooner (K : SBk) (x y : Cp) (im : Int) : Bool :=
  if ((x.state != 3) != (y.state != 3)) then (x.state != 3)
  else if ((x.image != im) != (y.image != im)) then (x.image != im)
  else if (drains K x != drains K y) then drains K x
  else decide (y.num < x.num)

end Go.Proofs.Ytamhfnlogldpaaa

namespace Go.Proofs.Ytamhfnlogldpaaa
open Go.RowKit Go.Deep

theorem region_tl {P : Program} {id : Nat} {Q : Exit → Act → World → Prop} {a : Act} {w : World} {l : List Oper} (n : Nat) (hm : P.follows .mixedOrders = true) (hB : Region.lexTailB .any l.toArray n = true)
    (h : ∀ W, W = w.drew → wpStill P l.toArray W (fun a' => wpList P l.toArray Q (l.drop n) a' W) (l.take n) a) : (Code.region id l.toArray true).wp P Q a w :=
  wp_region_still_tail n hm hB (h _ rfl)

/-- The first to end of the first j + 1 of some copies. -/
def bestTo (K : SBk) (im : Int) (L : List Nat) : Nat → Cp
  | 0 => K.cps.getD (L.getD 0 0) Cp.none
  | j + 1 => if sooner K (K.cps.getD (L.getD (j + 1) 0) Cp.none) (bestTo K im L j) im then K.cps.getD (L.getD (j + 1) 0) Cp.none else bestTo K im L j
def firstOf (K : SBk) (im : Int) (L : List Nat) : List En := if L.length = 0 then [] else [endOf (bestTo K im L (L.length - 1))]

end Go.Proofs.Ytamhfnlogldpaaa
