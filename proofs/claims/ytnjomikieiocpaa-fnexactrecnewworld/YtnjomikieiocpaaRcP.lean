/-
  Recorders: plain functions; lists of any room.
-/
import Derived.Test.YtnjomikieiocpaaMemRd
namespace Go.Proofs.Ytnjomikieiocpaa
open Go.RowKit Go.Deep

theorem hid {p : Prop} (h : p) : Hid p := h

namespace Pl
def less (a b : ByteArray) : Bool := Op.bytesLess a.toList b.toList
theorem to_succ (p : Nat → Bool) (k : Nat) : (List.range (k + 1)).all p = ((List.range k).all p && p k) := by
  rw [List.range_succ, List.all_append]; simp
theorem to_false (p : Nat → Bool) (n k : Nat) (h : k < n) (hp : p k = false) : (List.range n).all p = false := by
  rw [List.all_eq_false]
  exact ⟨k, List.mem_range.2 h, by simp [hp]⟩
end Pl

/-- All below k. -/
def allTo (p : Nat → Bool) : Nat → Bool
  | 0 => true
  | n + 1 => allTo p n && p n
theorem allTo_false {p : Nat → Bool} {k : Nat} (hp : p k = false) : ∀ n, k < n → allTo p n = false
  | 0, h => absurd h (Nat.not_lt_zero _)
  | n + 1, h => by
    rw [allTo]
    by_cases e : k = n
    · subst e; simp [hp]
    · rw [allTo_false hp n (by omega)]; rfl
theorem allTo_iff (p : Nat → Bool) : ∀ n, allTo p n = true ↔ ∀ i, i < n → p i = true
  | 0 => by simp [allTo]
  | n + 1 => by
    rw [allTo, Bool.and_eq_true, allTo_iff p n]
    constructor
    · intro h i hi
      by_cases e : i = n
      · subst e; exact h.2
      · exact h.1 i (by omega)
    · intro h
      exact ⟨fun i hi => h i (by omega), h n (by omega)⟩
theorem allTo_congr {p q : Nat → Bool} : ∀ {n : Nat}, (∀ i, i < n → p i = q i) → allTo p n = allTo q n
  | 0, _ => rfl
  | n + 1, h => by rw [allTo, allTo, allTo_congr (n := n) (fun i hi => h i (by omega)), h n (by omega)]

/-- The first below k that p holds of; -1, if there is none. -/
def firstTo (p : Nat → Bool) : Nat → Int
  | 0 => -1
  | n + 1 => if 0 ≤ firstTo p n then firstTo p n else if p n then (n : Int) else -1
theorem firstTo_cases (p : Nat → Bool) : ∀ n, firstTo p n = -1 ∧ (∀ i, i < n → p i = false) ∨ ∃ k : Nat, k < n ∧ firstTo p n = k ∧ p k = true ∧ ∀ i, i < k → p i = false
  | 0 => Or.inl ⟨rfl, fun i hi => absurd hi (Nat.not_lt_zero i)⟩
  | n + 1 => by
    rcases firstTo_cases p n with ⟨h, hn⟩ | ⟨k, hk, h, hp, hn⟩
    · by_cases e : p n = true
      · refine Or.inr ⟨n, by omega, ?_, e, hn⟩
        rw [firstTo, h]; simp [e]
      · refine Or.inl ⟨?_, fun i hi => ?_⟩
        · rw [firstTo, h]; simp [e]
        · by_cases q : i = n
          · subst q; simpa using e
          · exact hn i (by omega)
    · refine Or.inr ⟨k, by omega, ?_, hp, hn⟩
      rw [firstTo, h, if_pos (by omega)]
theorem firstTo_none {p : Nat → Bool} {n : Nat} (h : ∀ i, i < n → p i = false) : firstTo p n = -1 := by
  rcases firstTo_cases p n with ⟨e, _⟩ | ⟨k, hk, _, hp, _⟩
  · exact e
  · rw [h k hk] at hp; cases hp
theorem firstTo_hit {p : Nat → Bool} {n k : Nat} (hk : k < n) (hp : p k = true) (h : ∀ i, i < k → p i = false) : firstTo p n = k := by
  rcases firstTo_cases p n with ⟨_, hn⟩ | ⟨j, hj, e, hq, hn⟩
  · rw [hn k hk] at hp; cases hp
  · rw [e]
    rcases Nat.lt_trichotomy j k with q | q | q
    · rw [h j q] at hq; cases hq
    · rw [q]
    · rw [hn k q] at hp; cases hp

def inB (n lo hi : Int) : Bool := decide (lo ≤ n) && decide (n ≤ hi)
def same (a b : ByteArray) : Bool := a.toList == b.toList

/-- A slot that is ok. -/
def slotOk (s : Rs) : Bool := inB s.bal 0 1000000 && decide (s.txt.size ≤ 160) && !(decide (s.bal = 0) && !s.txt.toList.isEmpty)
def slotsOk (l : List Rs) : Bool := decide (l.length ≤ 120) && allTo (fun i => slotOk (l.getD i Rs.none)) l.length
/-- A slot as a disk wants it. -/
def dslot (d : Rd) (i : Nat) : Bool := decide ((d.slots.getD i Rs.none).bal ≤ d.prom) && !(decide ((i : Int) < d.known) && decide ((d.slots.getD i Rs.none).bal = 0))
def diskOk (d : Rd) : Bool := inB d.prom 0 1000000 && slotsOk d.slots && inB d.known 0 d.slots.length && allTo (dslot d) d.slots.length
/-- Two rows of slots merged. -/
def merge (a b : List Rs) : List Rs := (List.range (max a.length b.length)).map fun i => if a.length ≤ i then b.getD i Rs.none else if i < b.length && decide ((a.getD i Rs.none).bal < (b.getD i Rs.none).bal) then b.getD i Rs.none else a.getD i Rs.none

/-- Lists that lie anywhere, of any room. -/
structure RssV (w : World) (a : Option Addr) (ms : List Rs) : Prop where
  len : ms.length ≤ maxLen
  at_ : ∀ i, i < ms.length → ∃ b off, a = some ⟨b, off, none⟩ ∧ b < w.heap.size ∧ RsIs w b (off + i * 2) (ms.getD i Rs.none)
theorem RssV.later {w w' : World} {a : Option Addr} {ms : List Rs} (h : RssV w a ms) (hb : Below w.heap.size w w') : RssV w' a ms :=
  ⟨h.len, fun i hi => by obtain ⟨b, off, e, hl, hf⟩ := h.at_ i hi; exact ⟨b, off, e, Nat.lt_of_lt_of_le hl hb.size, hf.later hb hl⟩⟩
theorem RssIn.v {w : World} {B : Nat} {ms : List Rs} (h : RssIn w B ms) : RssV w (some ⟨B, 0, none⟩) ms :=
  ⟨by have := h.len; unfold maxLen; omega, fun i hi => ⟨B, 0, rfl, h.lt, by rw [Nat.zero_add]; exact h.at_ i hi⟩⟩
theorem RdIn.v {w : World} {b0 : Nat} {K : Rd} (h : RdIn w b0 K) : RssV w (some ⟨b0, 0, none⟩) K.slots := h.l0.v

end Go.Proofs.Ytnjomikieiocpaa
