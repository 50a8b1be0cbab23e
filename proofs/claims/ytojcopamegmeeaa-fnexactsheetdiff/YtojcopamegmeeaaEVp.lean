/-
  Sheets: differences: plain.
-/
import Derived.Test.YtojcopamegmeeaaEOp
namespace Go.Proofs.Ytojcopamegmeeaa
open Go.RowKit Go.Deep

namespace Pl
structure Ch where
  what : Int
  kind : ByteArray
  name : ByteArray
  key : ByteArray
  lines : List Ln
def chNo : Ch := ⟨0, txNo, txNo, txNo, []⟩
/-- Two lists of lines alike. -/
def sameLns : List Ln → List Ln → Bool
  | [], [] => true
  | a :: x, b :: y => (a.key.toList == b.key.toList) && wordsEq a.ws b.ws && sameLns x y
  | _, _ => false
theorem same_len : ∀ a b : List Ln, a.length ≠ b.length → sameLns a b = false
  | [], [], h => by simp at h
  | [], _ :: _, _ => rfl
  | _ :: _, [], _ => rfl
  | a :: x, b :: y, h => by rw [sameLns, same_len x y (by simpa using h), Bool.and_false]
theorem same_at {a b : List Ln} {k : Nat} (h1 : k < a.length) (h2 : k < b.length) : sameLns (a.drop k) (b.drop k) = (((a.getD k lnNo).key.toList == (b.getD k lnNo).key.toList) && wordsEq (a.getD k lnNo).ws (b.getD k lnNo).ws && sameLns (a.drop (k + 1)) (b.drop (k + 1))) := by
  have e1 : a.getD k lnNo = a[k] := by simp [h1]
  have e2 : b.getD k lnNo = b[k] := by simp [h2]
  rw [List.drop_eq_getElem_cons h1, List.drop_eq_getElem_cons h2, sameLns, e1, e2]
/-- The change of a key. -/
def keyCh (a b : Bl) (r : Ru) : List Ch := if sameLns (linesOf a.lines r.key) (linesOf b.lines r.key) then [] else [⟨if (linesOf b.lines r.key).length = 0 then 4 else 3, a.kind, a.name, r.key, linesOf b.lines r.key⟩]
def diffBl (a b : Bl) : List Ch := (rulesOf a.kind).flatMap (keyCh a b)
def goneCh (b : Bl) : Ch := ⟨1, b.kind, b.name, txNo, []⟩
def newCh (b : Bl) : Ch := ⟨2, b.kind, b.name, txNo, b.lines⟩
def diffOne (a : List Bl) (y : Bl) : List Ch := match findB a y.kind y.name with
  | none => [newCh y]
  | some k => diffBl (a.getD k blNo) y
def diffOut (a b : List Bl) : List Ch := if validS a && validS b then (a.filter (noIn b)).map goneCh ++ b.flatMap (diffOne a) else []
end Pl
def chD (c : Pl.Ch) : List Dt := [.i c.what, .s c.kind, .s c.name, .s c.key, lnsD c.lines]
def chsD (l : List Pl.Ch) : Dt := .row l.length (l.flatMap chD)
theorem chD_len (c : Pl.Ch) : (chD c).length = 5 := rfl

end Go.Proofs.Ytojcopamegmeeaa
