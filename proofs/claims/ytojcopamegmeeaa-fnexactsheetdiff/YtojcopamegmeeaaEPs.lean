/-
  Sheets: lines, blocks, sheets: plain.
-/
import Derived.Test.YtojcopamegmeeaaEPn
namespace Go.Proofs.Ytojcopamegmeeaa.Pl

def txLt (a b : ByteArray) : Bool := Op.bytesLess a.toList b.toList
def txEq (a b : ByteArray) : Bool := a.toList == b.toList
def txNo : ByteArray := ⟨#[]⟩
structure Ln where
  key : ByteArray
  ws : List ByteArray
structure Bl where
  kind : ByteArray
  name : ByteArray
  lines : List Ln
def lnNo : Ln := ⟨txNo, []⟩
def blNo : Bl := ⟨txNo, txNo, []⟩
/-- One list of words is ahead of another. -/
def lessW : List ByteArray → List ByteArray → Bool
  | a :: x, b :: y => if txEq a b then lessW x y else txLt a b
  | x, y => decide (x.length < y.length)
theorem lessW_at {A B : List ByteArray} {k : Nat} (h1 : k < A.length) (h2 : k < B.length) : lessW (A.drop k) (B.drop k) = if txEq (A.getD k txNo) (B.getD k txNo) then lessW (A.drop (k + 1)) (B.drop (k + 1)) else txLt (A.getD k txNo) (B.getD k txNo) := by
  have e1 : A.getD k txNo = A[k] := by simp [h1]
  have e2 : B.getD k txNo = B[k] := by simp [h2]
  rw [List.drop_eq_getElem_cons h1, List.drop_eq_getElem_cons h2, lessW, e1, e2]
theorem lessW_end {A B : List ByteArray} {k : Nat} (hk1 : k ≤ A.length) (hk2 : k ≤ B.length) (h : A.length ≤ k ∨ B.length ≤ k) : lessW (A.drop k) (B.drop k) = decide (A.length < B.length) := by
  rcases h with h | h
  · have e : A.drop k = [] := List.drop_of_length_le h
    rw [e, lessW]
    · rw [List.length_drop, Bool.eq_iff_iff]; simp; omega
    · intro _ _ _ _ h; cases h
  · have e : B.drop k = [] := List.drop_of_length_le h
    rw [e, lessW]
    · rw [List.length_drop, Bool.eq_iff_iff]; simp; omega
    · intro _ _ _ _ _ h; cases h
def wordsEq (a b : List ByteArray) : Bool := !lessW a b && !lessW b a
def ruPos (kind key : ByteArray) : Int := ixI (ruIx (rulesOf kind) key)
def lineLess (kind : ByteArray) (a b : Ln) : Bool := decide (ruPos kind a.key < ruPos kind b.key) || ((ruPos kind a.key == ruPos kind b.key) && lessW a.ws b.ws)
def manyOf (kind key : ByteArray) : Bool := match ruIx (rulesOf kind) key with
  | none => false
  | some j => ((rulesOf kind).getD j ruNo).many
def keyCnt (l : List Ln) (key : ByteArray) : Nat := l.countP fun x => txEq x.key key
def cntOk (many : Bool) (n : Nat) : Bool := !((!many && decide (1 < n)) || decide (10 < n))
def lineOkAt (kind : ByteArray) (l : List Ln) (i : Nat) : Bool := sheetFits kind (l.getD i lnNo).key (l.getD i lnNo).ws && (decide (i = 0) || lineLess kind (l.getD (i - 1) lnNo) (l.getD i lnNo)) && cntOk (manyOf kind (l.getD i lnNo).key) (keyCnt (l.take (i + 1)) (l.getD i lnNo).key)
def linesOk (kind : ByteArray) (l : List Ln) : Bool := (List.range l.length).all (lineOkAt kind l)
def ahead (a b : Bl) : Bool := txLt a.kind b.kind || (txEq a.kind b.kind && txLt a.name b.name)
def blockOkAt (s : List Bl) (i : Nat) : Bool := !decide ((rulesOf (s.getD i blNo).kind).length = 0) && nameOk20 (s.getD i blNo).name && linesOk (s.getD i blNo).kind (s.getD i blNo).lines && (decide (i = 0) || ahead (s.getD (i - 1) blNo) (s.getD i blNo))
def validS (s : List Bl) : Bool := decide (s.length ≤ 60) && (List.range s.length).all (blockOkAt s)
theorem rall_step {p : Nat → Bool} {k : Nat} (h : (List.range k).all p = true) (hk : p k = true) : (List.range (k + 1)).all p = true := by
  rw [List.range_succ, List.all_append, h]; simp [hk]
theorem rall_false {p : Nat → Bool} {k n : Nat} (hk : k < n) (h : p k = false) : (List.range n).all p = false := by
  rw [List.all_eq_false]; exact ⟨k, List.mem_range.2 hk, by simp [h]⟩

end Go.Proofs.Ytojcopamegmeeaa.Pl
