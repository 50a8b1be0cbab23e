/-
  Stewards: plain functions; lists of any room.
-/
import Derived.Test.YtclagbakddkjcaaGreatMemSB
namespace Go.Proofs.YtclagbakddkjcaaGreat
open Go.RowKit Go.Deep

theorem hid {p : Prop} (h : p) : Hid p := h

namespace Pl
def less (a b : ByteArray) : Bool := Op.bytesLess a.toList b.toList
theorem to_succ (p : Nat → Bool) (k : Nat) : (List.range (k + 1)).all p = ((List.range k).all p && p k) := by
  rw [List.range_succ, List.all_append]; simp
theorem to_false (p : Nat → Bool) (n k : Nat) (h : k < n) (hp : p k = false) : (List.range n).all p = false := by
  rw [List.all_eq_false]
  exact ⟨k, List.mem_range.2 h, by simp [hp]⟩
end Pl

/-- All below k. -/
def allTo (p : Nat → Bool) : Nat → Bool
  | 0 => true
  | n + 1 => allTo p n && p n
theorem allTo_false {p : Nat → Bool} {k : Nat} (hp : p k = false) : ∀ n, k < n → allTo p n = false
  | 0, h => absurd h (Nat.not_lt_zero _)
  | n + 1, h => by
    rw [allTo]
    by_cases e : k = n
    · subst e; simp [hp]
    · rw [allTo_false hp n (by omega)]; rfl
theorem allTo_iff (p : Nat → Bool) : ∀ n, allTo p n = true ↔ ∀ i, i < n → p i = true
  | 0 => by simp [allTo]
  | n + 1 => by
    rw [allTo, Bool.and_eq_true, allTo_iff p n]
    constructor
    · intro h i hi
      by_cases e : i = n
      · subst e; exact h.2
      · exact h.1 i (by omega)
    · intro h
      exact ⟨fun i hi => h i (by omega), h n (by omega)⟩
theorem allTo_congr {p q : Nat → Bool} : ∀ {n : Nat}, (∀ i, i < n → p i = q i) → allTo p n = allTo q n
  | 0, _ => rfl
  | n + 1, h => by rw [allTo, allTo, allTo_congr (n := n) (fun i hi => h i (by omega)), h n (by omega)]

/-- The first below k that p holds of; -1, if there is none. -/
def firstTo (p : Nat → Bool) : Nat → Int
  | 0 => -1
  | n + 1 => if 0 ≤ firstTo p n then firstTo p n else if p n then (n : Int) else -1
theorem firstTo_cases (p : Nat → Bool) : ∀ n, firstTo p n = -1 ∧ (∀ i, i < n → p i = false) ∨ ∃ k : Nat, k < n ∧ firstTo p n = k ∧ p k = true ∧ ∀ i, i < k → p i = false
  | 0 => Or.inl ⟨rfl, fun i hi => absurd hi (Nat.not_lt_zero i)⟩
  | n + 1 => by
    rcases firstTo_cases p n with ⟨h, hn⟩ | ⟨k, hk, h, hp, hn⟩
    · by_cases e : p n = true
      · refine Or.inr ⟨n, by omega, ?_, e, hn⟩
        rw [firstTo, h]; simp [e]
      · refine Or.inl ⟨?_, fun i hi => ?_⟩
        · rw [firstTo, h]; simp [e]
        · by_cases q : i = n
          · subst q; simpa using e
          · exact hn i (by omega)
    · refine Or.inr ⟨k, by omega, ?_, hp, hn⟩
      rw [firstTo, h, if_pos (by omega)]
theorem firstTo_none {p : Nat → Bool} {n : Nat} (h : ∀ i, i < n → p i = false) : firstTo p n = -1 := by
  rcases firstTo_cases p n with ⟨e, _⟩ | ⟨k, hk, _, hp, _⟩
  · exact e
  · rw [h k hk] at hp; cases hp
theorem firstTo_hit {p : Nat → Bool} {n k : Nat} (hk : k < n) (hp : p k = true) (h : ∀ i, i < k → p i = false) : firstTo p n = k := by
  rcases firstTo_cases p n with ⟨_, hn⟩ | ⟨j, hj, e, hq, hn⟩
  · rw [hn k hk] at hp; cases hp
  · rw [e]
    rcases Nat.lt_trichotomy j k with q | q | q
    · rw [h j q] at hq; cases hq
    · rw [q]
    · rw [hn k q] at hp; cases hp

def inB (n lo hi : Int) : Bool := decide (lo ≤ n) && decide (n ≤ hi)
def snmOk (s : ByteArray) : Bool := decide (1 ≤ s.size) && decide (s.size ≤ 20) && Pl.nameBytes s
def same (a b : ByteArray) : Bool := a.toList == b.toList

def svOk (s : Sv) (now : Int) : Bool :=
  snmOk s.nm && inB s.ver 1 now && inB s.image 1 1000000 && inB s.next 1 1000000 && inB s.want 0 10 && inB s.down 0 10 && inB s.over 0 10 && !decide (s.down + s.over = 0) &&
  (if s.per = 0 then decide (s.least = 0) && decide (s.most = 0) && decide (s.load = 0) && decide (s.cool = 0)
   else inB s.per 0 1000000 && inB s.load 0 1000000 && inB s.least 0 10 && inB s.most s.least 10 && inB s.cool 0 3)
def svIx (l : List Sv) (nm : ByteArray) : Int := firstTo (fun i => same (l.getD i Sv.none).nm nm) l.length
def btIx (l : List Bt) (nm : ByteArray) : Int := firstTo (fun i => same (l.getD i Bt.none).nm nm) l.length
def cpIx (l : List Cp) (nm : ByteArray) (num : Int) : Int := firstTo (fun i => same (l.getD i Cp.none).svc nm && ((l.getD i Cp.none).num == num)) l.length
def svGet (l : List Sv) (i : Int) : Sv := l.getD i.toNat Sv.none
def btGet (l : List Bt) (i : Int) : Bt := l.getD i.toNat Bt.none
def cpGet (l : List Cp) (i : Int) : Cp := l.getD i.toNat Cp.none
def ahead (a b : Cp) : Bool := Pl.less a.svc b.svc || (same a.svc b.svc && decide (a.num < b.num))
def cpOk (K : SBk) (c : Cp) : Bool :=
  decide (0 ≤ svIx K.svcs c.svc) && inB c.num 1 ((svGet K.svcs (svIx K.svcs c.svc)).next - 1) && inB c.ver 1 K.now && inB c.image 1 1000000 && inB c.state 1 4 &&
  (if c.state = 1 then same c.berth ByteArray.empty else decide (0 ≤ btIx K.bts c.berth))
def svsOk (K : SBk) : Bool := allTo (fun i => svOk (K.svcs.getD i Sv.none) K.now && (decide (i = 0) || Pl.less (K.svcs.getD (i - 1) Sv.none).nm (K.svcs.getD i Sv.none).nm)) K.svcs.length
def btsOk (K : SBk) : Bool := allTo (fun i => snmOk (K.bts.getD i Bt.none).nm && (decide (i = 0) || Pl.less (K.bts.getD (i - 1) Bt.none).nm (K.bts.getD i Bt.none).nm)) K.bts.length
def cpsOk (K : SBk) : Bool := allTo (fun i => cpOk K (K.cps.getD i Cp.none) && (decide (i = 0) || ahead (K.cps.getD (i - 1) Cp.none) (K.cps.getD i Cp.none))) K.cps.length
def sbOk (K : SBk) : Bool := inB K.now 0 1000000 && decide (K.svcs.length ≤ 8) && decide (K.cps.length ≤ 200) && decide (K.bts.length ≤ 6) && svsOk K && btsOk K && cpsOk K

/-- Lists that lie anywhere, of any room. -/
structure SvsV (w : World) (a : Option Addr) (ms : List Sv) : Prop where
  len : ms.length ≤ maxLen
  at_ : ∀ i, i < ms.length → ∃ b off, a = some ⟨b, off, none⟩ ∧ b < w.heap.size ∧ SvIs w b (off + i * 13) (ms.getD i Sv.none)
structure CpsV (w : World) (a : Option Addr) (ms : List Cp) : Prop where
  len : ms.length ≤ maxLen
  at_ : ∀ i, i < ms.length → ∃ b off, a = some ⟨b, off, none⟩ ∧ b < w.heap.size ∧ CpIs w b (off + i * 7) (ms.getD i Cp.none)
structure BtsV (w : World) (a : Option Addr) (ms : List Bt) : Prop where
  len : ms.length ≤ maxLen
  at_ : ∀ i, i < ms.length → ∃ b off, a = some ⟨b, off, none⟩ ∧ b < w.heap.size ∧ BtIs w b (off + i * 2) (ms.getD i Bt.none)
theorem SvsV.later {w w' : World} {a : Option Addr} {ms : List Sv} (h : SvsV w a ms) (hb : Below w.heap.size w w') : SvsV w' a ms :=
  ⟨h.len, fun i hi => by obtain ⟨b, off, e, hl, hf⟩ := h.at_ i hi; exact ⟨b, off, e, Nat.lt_of_lt_of_le hl hb.size, hf.later hb hl⟩⟩
theorem CpsV.later {w w' : World} {a : Option Addr} {ms : List Cp} (h : CpsV w a ms) (hb : Below w.heap.size w w') : CpsV w' a ms :=
  ⟨h.len, fun i hi => by obtain ⟨b, off, e, hl, hf⟩ := h.at_ i hi; exact ⟨b, off, e, Nat.lt_of_lt_of_le hl hb.size, hf.later hb hl⟩⟩
theorem BtsV.later {w w' : World} {a : Option Addr} {ms : List Bt} (h : BtsV w a ms) (hb : Below w.heap.size w w') : BtsV w' a ms :=
  ⟨h.len, fun i hi => by obtain ⟨b, off, e, hl, hf⟩ := h.at_ i hi; exact ⟨b, off, e, Nat.lt_of_lt_of_le hl hb.size, hf.later hb hl⟩⟩
theorem SvsIn.v {w : World} {B : Nat} {ms : List Sv} (h : SvsIn w B ms) : SvsV w (some ⟨B, 0, none⟩) ms :=
  ⟨by have := h.len; unfold maxLen; omega, fun i hi => ⟨B, 0, rfl, h.lt, by rw [Nat.zero_add]; exact h.at_ i hi⟩⟩
theorem CpsIn.v {w : World} {B : Nat} {ms : List Cp} (h : CpsIn w B ms) : CpsV w (some ⟨B, 0, none⟩) ms :=
  ⟨by have := h.len; unfold maxLen; omega, fun i hi => ⟨B, 0, rfl, h.lt, by rw [Nat.zero_add]; exact h.at_ i hi⟩⟩
theorem BtsIn.v {w : World} {B : Nat} {ms : List Bt} (h : BtsIn w B ms) : BtsV w (some ⟨B, 0, none⟩) ms :=
  ⟨by have := h.len; unfold maxLen; omega, fun i hi => ⟨B, 0, rfl, h.lt, by rw [Nat.zero_add]; exact h.at_ i hi⟩⟩

structure SBkV (w : World) (a0 a1 a2 : Option Addr) (K : SBk) : Prop where
  s : SvsV w a0 K.svcs
  c : CpsV w a1 K.cps
  b : BtsV w a2 K.bts
theorem SBkV.later {w w' : World} {a0 a1 a2 : Option Addr} {K : SBk} (h : SBkV w a0 a1 a2 K) (hb : Below w.heap.size w w') : SBkV w' a0 a1 a2 K := ⟨h.s.later hb, h.c.later hb, h.b.later hb⟩
theorem SBkIn.v {w : World} {b0 b1 b2 : Nat} {K : SBk} (h : SBkIn w b0 b1 b2 K) : SBkV w (some ⟨b0, 0, none⟩) (some ⟨b1, 0, none⟩) (some ⟨b2, 0, none⟩) K := ⟨h.l0.v, h.l1.v, h.l2.v⟩

end Go.Proofs.YtclagbakddkjcaaGreat
