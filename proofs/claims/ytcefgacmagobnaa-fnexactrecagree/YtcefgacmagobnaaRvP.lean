/-
  Recorders: what makes a recorder valid: plain; lists of any room.
-/
import Derived.Test.YtcefgacmagobnaaMemRr
import Derived.Test.YtcefgacmagobnaaRcB
namespace Go.Proofs.Ytcefgacmagobnaa
open Go.RowKit Go.Deep

def numAt (l : List Nu) (of : Int) (i : Nat) : Bool := inB (l.getD i 0) 1 of && (decide (i = 0) || decide (l.getD (i - 1) 0 < l.getD i 0))
def numsOk (l : List Nu) (of : Int) : Bool := allTo (numAt l of) l.length
def wishAt (l : List Tx) (i : Nat) : Bool := decide (1 ≤ (l.getD i ByteArray.empty).size) && decide ((l.getD i ByteArray.empty).size ≤ 160) && allTo (fun k => !same (l.getD k ByteArray.empty) (l.getD i ByteArray.empty)) i
def wishesOk (l : List Tx) : Bool := decide (l.length ≤ 20) && allTo (wishAt l) l.length
def ackAt (l : List Ra) (of : Int) (i : Nat) : Bool := inB (l.getD i Ra.none).ix 1 120 && numsOk (l.getD i Ra.none).frs of && (decide (i = 0) || decide ((l.getD (i - 1) Ra.none).ix < (l.getD i Ra.none).ix))
def acksOk (l : List Ra) (of : Int) : Bool := allTo (ackAt l of) l.length
def quietB (K : Rr) : Bool := !K.lead && !K.try_ && decide (K.bal = 0) && decide (K.yes.length + K.best.length + K.acks.length = 0)
def heldAt (K : Rr) (i : Nat) : Bool := msgOk (K.held.getD i Rm.none) K.of_ && decide ((K.held.getD i Rm.none).frm = K.num)
def roleOk (K : Rr) : Bool := if K.lead || K.try_ then inB K.bal 1 K.disk.prom && !(K.try_ && decide (0 < K.acks.length)) && !(K.lead && decide (0 < K.yes.length + K.best.length)) else quietB K
def recOk (K : Rr) : Bool := inB K.of_ 1 5 && inB K.num 1 K.of_ && diskOk K.safe && diskOk K.disk && decide (K.held.length ≤ 400) && wishesOk K.wish && inB K.heard 0 1000000 && allTo (heldAt K) K.held.length && numsOk K.yes K.of_ && slotsOk K.best && acksOk K.acks K.of_ && !(K.lead && K.try_) && roleOk K && (K.up || (quietB K && decide ((K.held.length : Int) + K.wish.length + K.heard = 0)))

structure NusV (w : World) (a : Option Addr) (l : List Nu) : Prop where
  len : l.length ≤ 1048576
  at_ : ∀ i, i < l.length → ∃ b off, a = some ⟨b, off, none⟩ ∧ b < w.heap.size ∧ w.cell? ⟨b, off + i, none⟩ = some (.int .i64 (l.getD i 0))
structure TxsV (w : World) (a : Option Addr) (l : List Tx) : Prop where
  len : l.length ≤ 1048576
  at_ : ∀ i, i < l.length → ∃ b off, a = some ⟨b, off, none⟩ ∧ b < w.heap.size ∧ w.cell? ⟨b, off + i, none⟩ = some (.string (l.getD i ByteArray.empty)) ∧ (l.getD i ByteArray.empty).size ≤ maxLen
structure RasV (w : World) (a : Option Addr) (l : List Ra) : Prop where
  len : l.length ≤ 1048576
  at_ : ∀ i, i < l.length → ∃ b off a0 c0, a = some ⟨b, off, none⟩ ∧ b < w.heap.size ∧ w.cell? ⟨b, off + i * 2, none⟩ = some (.int .i64 (l.getD i Ra.none).ix) ∧ w.cell? ⟨b, off + i * 2 + 1, none⟩ = some (.slice a0 (l.getD i Ra.none).frs.length c0) ∧ NusV w a0 (l.getD i Ra.none).frs
def RmCells (w : World) (b o : Nat) (m : Rm) (a0 : Option Addr) (c0 : Nat) : Prop := w.cell? ⟨b, o, none⟩ = some (.int .i64 m.kind) ∧ w.cell? ⟨b, o + 1, none⟩ = some (.int .i64 m.frm) ∧ w.cell? ⟨b, o + 2, none⟩ = some (.int .i64 m.to_) ∧ w.cell? ⟨b, o + 3, none⟩ = some (.int .i64 m.bal) ∧ w.cell? ⟨b, o + 4, none⟩ = some (.int .i64 m.ix) ∧ w.cell? ⟨b, o + 5, none⟩ = some (.int .i64 m.known) ∧ w.cell? ⟨b, o + 6, none⟩ = some (.string m.txt) ∧ w.cell? ⟨b, o + 7, none⟩ = some (.slice a0 m.slots.length c0)
structure RmsV (w : World) (a : Option Addr) (l : List Rm) : Prop where
  len : l.length ≤ 1048576
  at_ : ∀ i, i < l.length → ∃ b off a0 c0, a = some ⟨b, off, none⟩ ∧ b < w.heap.size ∧ RmCells w b (off + i * 8) (l.getD i Rm.none) a0 c0 ∧ RssV w a0 (l.getD i Rm.none).slots
theorem NusV.later {w w' : World} {a : Option Addr} {l : List Nu} (h : NusV w a l) (hb : Below w.heap.size w w') : NusV w' a l :=
  ⟨h.len, fun i hi => by obtain ⟨b, off, e, hl, hc⟩ := h.at_ i hi; exact ⟨b, off, e, Nat.lt_of_lt_of_le hl hb.size, (hb.cell (p := ⟨b, off + i, none⟩) hl).trans hc⟩⟩
theorem TxsV.later {w w' : World} {a : Option Addr} {l : List Tx} (h : TxsV w a l) (hb : Below w.heap.size w w') : TxsV w' a l :=
  ⟨h.len, fun i hi => by obtain ⟨b, off, e, hl, hc, hs⟩ := h.at_ i hi; exact ⟨b, off, e, Nat.lt_of_lt_of_le hl hb.size, (hb.cell (p := ⟨b, off + i, none⟩) hl).trans hc, hs⟩⟩
theorem RasV.later {w w' : World} {a : Option Addr} {l : List Ra} (h : RasV w a l) (hb : Below w.heap.size w w') : RasV w' a l :=
  ⟨h.len, fun i hi => by
    obtain ⟨b, off, a0, c0, e, hl, q0, q1, hn⟩ := h.at_ i hi
    have c : ∀ j, w'.cell? ⟨b, j, none⟩ = w.cell? ⟨b, j, none⟩ := fun j => hb.cell (p := ⟨b, j, none⟩) hl
    exact ⟨b, off, a0, c0, e, Nat.lt_of_lt_of_le hl hb.size, (c _).trans q0, (c _).trans q1, hn.later hb⟩⟩
theorem RmsV.later {w w' : World} {a : Option Addr} {l : List Rm} (h : RmsV w a l) (hb : Below w.heap.size w w') : RmsV w' a l :=
  ⟨h.len, fun i hi => by
    obtain ⟨b, off, a0, c0, e, hl, ⟨q0, q1, q2, q3, q4, q5, q6, q7⟩, hn⟩ := h.at_ i hi
    have c : ∀ j, w'.cell? ⟨b, j, none⟩ = w.cell? ⟨b, j, none⟩ := fun j => hb.cell (p := ⟨b, j, none⟩) hl
    exact ⟨b, off, a0, c0, e, Nat.lt_of_lt_of_le hl hb.size, ⟨(c _).trans q0, (c _).trans q1, (c _).trans q2, (c _).trans q3, (c _).trans q4, (c _).trans q5, (c _).trans q6, (c _).trans q7⟩, hn.later hb⟩⟩
theorem NusIn.v {w : World} {B : Nat} {l : List Nu} (h : NusIn w B l) : NusV w (some ⟨B, 0, none⟩) l :=
  ⟨h.len, fun i hi => ⟨B, 0, rfl, h.lt, by rw [Nat.zero_add]; exact h.at_ i hi⟩⟩
theorem TxsIn.v {w : World} {B : Nat} {l : List Tx} (h : TxsIn w B l) : TxsV w (some ⟨B, 0, none⟩) l :=
  ⟨h.len, fun i hi => ⟨B, 0, rfl, h.lt, by rw [Nat.zero_add]; exact (h.at_ i hi).1, (h.at_ i hi).2⟩⟩
theorem RasIn.v {w : World} {B : Nat} {l : List Ra} (h : RasIn w B l) : RasV w (some ⟨B, 0, none⟩) l :=
  ⟨h.len, fun i hi => by
    obtain ⟨b0, _, q0, q1, hn⟩ := h.at_ i hi
    exact ⟨B, 0, _, _, rfl, h.lt, by rw [Nat.zero_add]; exact q0, by rw [Nat.zero_add]; exact q1, hn.l0.v⟩⟩
theorem RmsIn.v {w : World} {B : Nat} {l : List Rm} (h : RmsIn w B l) : RmsV w (some ⟨B, 0, none⟩) l :=
  ⟨h.len, fun i hi => by
    obtain ⟨b0, _, q0, q1, q2, q3, q4, q5, q6, q7, hn⟩ := h.at_ i hi
    exact ⟨B, 0, _, _, rfl, h.lt, by rw [Nat.zero_add]; exact ⟨q0, q1, q2, q3, q4, q5, q6, q7⟩, hn.l0.v⟩⟩

/-- A recorder whose lists lie anywhere, of any room. -/
structure RrV (w : World) (a0 a1 a2 a3 a4 a5 a6 : Option Addr) (K : Rr) : Prop where
  l0 : RssV w a0 K.safe.slots
  l1 : RssV w a1 K.disk.slots
  l2 : RmsV w a2 K.held
  l3 : TxsV w a3 K.wish
  l4 : NusV w a4 K.yes
  l5 : RssV w a5 K.best
  l6 : RasV w a6 K.acks
  s5 : K.best.length ≤ 1048576
theorem RrV.later {w w' : World} {a0 a1 a2 a3 a4 a5 a6 : Option Addr} {K : Rr} (h : RrV w a0 a1 a2 a3 a4 a5 a6 K) (hb : Below w.heap.size w w') : RrV w' a0 a1 a2 a3 a4 a5 a6 K := ⟨h.l0.later hb, h.l1.later hb, h.l2.later hb, h.l3.later hb, h.l4.later hb, h.l5.later hb, h.l6.later hb, h.s5⟩
theorem RrIn.v {w : World} {b0 b1 b2 b3 b4 b5 b6 : Nat} {K : Rr} (h : RrIn w b0 b1 b2 b3 b4 b5 b6 K) : RrV w (some ⟨b0, 0, none⟩) (some ⟨b1, 0, none⟩) (some ⟨b2, 0, none⟩) (some ⟨b3, 0, none⟩) (some ⟨b4, 0, none⟩) (some ⟨b5, 0, none⟩) (some ⟨b6, 0, none⟩) K := ⟨h.l0.v, h.l1.v, h.l2.v, h.l3.v, h.l4.v, h.l5.v, h.l6.v, h.l5.len⟩

end Go.Proofs.Ytcefgacmagobnaa
