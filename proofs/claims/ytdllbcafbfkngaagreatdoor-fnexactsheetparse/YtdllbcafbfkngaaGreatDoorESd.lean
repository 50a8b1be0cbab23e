/-
  Sheets: lines, blocks and sheets as data, and in memory.
-/
import Derived.Test.YtdllbcafbfkngaaGreatDoorEPn
import Derived.Test.YtdllbcafbfkngaaGreatDoorESs
import Derived.Test.YtdllbcafbfkngaaGreatDoorETx
namespace Go.Proofs.YtdllbcafbfkngaaGreatDoor.Pl

def txLt (a b : ByteArray) : Bool := Op.bytesLess a.toList b.toList
def txEq (a b : ByteArray) : Bool := a.toList == b.toList
def txNo : ByteArray := ⟨#[]⟩
structure Ln where
  key : ByteArray
  ws : List ByteArray
structure Bl where
  kind : ByteArray
  name : ByteArray
  lines : List Ln
def lnNo : Ln := ⟨txNo, []⟩
def blNo : Bl := ⟨txNo, txNo, []⟩
/-- One list of words is ahead of another. -/
def lessW : List ByteArray → List ByteArray → Bool
  | a :: x, b :: y => if txEq a b then lessW x y else txLt a b
  | x, y => decide (x.length < y.length)
theorem lessW_at {A B : List ByteArray} {k : Nat} (h1 : k < A.length) (h2 : k < B.length) : lessW (A.drop k) (B.drop k) = if txEq (A.getD k txNo) (B.getD k txNo) then lessW (A.drop (k + 1)) (B.drop (k + 1)) else txLt (A.getD k txNo) (B.getD k txNo) := by
  have e1 : A.getD k txNo = A[k] := by simp [h1]
  have e2 : B.getD k txNo = B[k] := by simp [h2]
  rw [List.drop_eq_getElem_cons h1, List.drop_eq_getElem_cons h2, lessW, e1, e2]
theorem lessW_end {A B : List ByteArray} {k : Nat} (hk1 : k ≤ A.length) (hk2 : k ≤ B.length) (h : A.length ≤ k ∨ B.length ≤ k) : lessW (A.drop k) (B.drop k) = decide (A.length < B.length) := by
  rcases h with h | h
  · have e : A.drop k = [] := List.drop_of_length_le h
    rw [e, lessW]
    · rw [List.length_drop, Bool.eq_iff_iff]; simp; omega
    · intro _ _ _ _ h; cases h
  · have e : B.drop k = [] := List.drop_of_length_le h
    rw [e, lessW]
    · rw [List.length_drop, Bool.eq_iff_iff]; simp; omega
    · intro _ _ _ _ _ h; cases h
def wordsEq (a b : List ByteArray) : Bool := !lessW a b && !lessW b a
def ruPos (kind key : ByteArray) : Int := ixI (ruIx (rulesOf kind) key)
def lineLess (kind : ByteArray) (a b : Ln) : Bool := decide (ruPos kind a.key < ruPos kind b.key) || ((ruPos kind a.key == ruPos kind b.key) && lessW a.ws b.ws)
def keyCnt (l : List Ln) (key : ByteArray) : Nat := l.countP fun x => txEq x.key key
def ahead (a b : Bl) : Bool := txLt a.kind b.kind || (txEq a.kind b.kind && txLt a.name b.name)
end Go.Proofs.YtdllbcafbfkngaaGreatDoor.Pl

namespace Go.Proofs.YtdllbcafbfkngaaGreatDoor
open Go.RowKit Go.Deep

def lnD (x : Pl.Ln) : List Dt := [.s x.key, .row x.ws.length (txD x.ws)]
def lnsD (l : List Pl.Ln) : Dt := .row l.length (l.flatMap lnD)
def blD (b : Pl.Bl) : List Dt := [.s b.kind, .s b.name, lnsD b.lines]
def blsD (s : List Pl.Bl) : Dt := .row s.length (s.flatMap blD)
theorem lnD_len (x : Pl.Ln) : (lnD x).length = 2 := rfl
theorem blD_len (x : Pl.Bl) : (blD x).length = 3 := rfl
abbrev shTxs : List Sh := [.row 9 [.s]]
abbrev shLns : List Sh := [.row 62 shSheetLine]
abbrev shBls : List Sh := [.row 37 shSheetBlock]
/-- A list of texts that is read. -/
theorem txs_open {W : World} {ws : List ByteArray} {v : Value} (h : Raw W shTxs [.row ws.length (txD ws)] [v]) : (ws.length = 0 ∧ ∃ a c, v = .slice a 0 c) ∨ ∃ p o c, v = .slice (some ⟨p, o, none⟩) ws.length c ∧ p < W.heap.size ∧ ws.length ≤ maxLen ∧ ∀ k, k < ws.length → W.cell? ⟨p, o + k, none⟩ = some (.string (ws.getD k Pl.txNo)) := by
  rcases h.slice with ⟨e0, _, a, c, e⟩ | ⟨p, o, c, hv, hp, hml, vs, hr, hR⟩
  · exact Or.inl ⟨e0, a, c, e⟩
  · refine Or.inr ⟨p, o, c, hv, hp, hml.1, fun k hk => ?_⟩
    obtain ⟨ve, hE, hg⟩ := hR.el hk hr
    have e : el ([Sh.s] : List Sh).length k (txD ws) = [.s (ws.getD k Pl.txNo)] := el_map1 Pl.txNo Dt.s ws k hk
    rw [e] at hE
    obtain rfl := rawT1 hE
    have := rA_get hg 0 _ rfl
    simpa using this
/-- A list of lines that is read. -/
theorem lns_open {W : World} {l : List Pl.Ln} {v : Value} (h : Raw W shLns [lnsD l] [v]) : (l.length = 0 ∧ ∃ a c, v = .slice a 0 c) ∨ ∃ p o c, v = .slice (some ⟨p, o, none⟩) l.length c ∧ p < W.heap.size ∧ l.length ≤ maxLen ∧ ∀ k, k < l.length → ∃ a c', W.rangeAt p (o + k * 2) [.string (l.getD k Pl.lnNo).key, .slice a (l.getD k Pl.lnNo).ws.length c'] ∧ Raw W shTxs [.row (l.getD k Pl.lnNo).ws.length (txD (l.getD k Pl.lnNo).ws)] [.slice a (l.getD k Pl.lnNo).ws.length c'] := by
  rcases h.slice with ⟨e0, _, a, c, e⟩ | ⟨p, o, c, hv, hp, hml, vs, hr, hR⟩
  · exact Or.inl ⟨e0, a, c, e⟩
  · refine Or.inr ⟨p, o, c, hv, hp, hml.1, fun k hk => ?_⟩
    obtain ⟨ve, hE, hg⟩ := hR.el hk hr
    have e : el shSheetLine.length k (l.flatMap lnD) = lnD (l.getD k Pl.lnNo) := el_flat Pl.lnNo lnD 2 lnD_len l k hk
    rw [e] at hE
    obtain ⟨v1, hc, r1⟩ := rawSheetLine hE
    subst hc
    obtain ⟨a1, c1, h1⟩ := r1.len0
    subst h1
    exact ⟨a1, c1, hg, r1⟩
/-- A list of blocks that is read. -/
theorem bls_open {W : World} {s : List Pl.Bl} {v : Value} (h : Raw W shBls [blsD s] [v]) : (s.length = 0 ∧ ∃ a c, v = .slice a 0 c) ∨ ∃ p o c, v = .slice (some ⟨p, o, none⟩) s.length c ∧ p < W.heap.size ∧ s.length ≤ maxLen ∧ ∀ k, k < s.length → ∃ a c', W.rangeAt p (o + k * 3) [.string (s.getD k Pl.blNo).kind, .string (s.getD k Pl.blNo).name, .slice a (s.getD k Pl.blNo).lines.length c'] ∧ Raw W shLns [lnsD (s.getD k Pl.blNo).lines] [.slice a (s.getD k Pl.blNo).lines.length c'] := by
  rcases h.slice with ⟨e0, _, a, c, e⟩ | ⟨p, o, c, hv, hp, hml, vs, hr, hR⟩
  · exact Or.inl ⟨e0, a, c, e⟩
  · refine Or.inr ⟨p, o, c, hv, hp, hml.1, fun k hk => ?_⟩
    obtain ⟨ve, hE, hg⟩ := hR.el hk hr
    have e : el shSheetBlock.length k (s.flatMap blD) = blD (s.getD k Pl.blNo) := el_flat Pl.blNo blD 3 blD_len s k hk
    rw [e] at hE
    obtain ⟨v1, hc, r1⟩ := rawSheetBlock hE
    subst hc
    obtain ⟨a1, c1, h1⟩ := r1.len0
    subst h1
    exact ⟨a1, c1, hg, r1⟩

end Go.Proofs.YtdllbcafbfkngaaGreatDoor
