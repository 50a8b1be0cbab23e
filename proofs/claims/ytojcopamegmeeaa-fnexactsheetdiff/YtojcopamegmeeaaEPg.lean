/-
  Sheets: a block's place, the lines of a key, what is said or meant: plain.
-/
import Derived.Test.YtojcopamegmeeaaEPp
namespace Go.Proofs.Ytojcopamegmeeaa.Pl

def isB (kind name : ByteArray) (b : Bl) : Bool := (b.kind.toList == kind.toList) && (b.name.toList == name.toList)
def findF (kind name : ByteArray) : List Bl → Nat → Option Nat
  | [], _ => none
  | b :: l, j => if isB kind name b then some j else findF kind name l (j + 1)
def findB (l : List Bl) (kind name : ByteArray) : Option Nat := findF kind name l 0
theorem findB_hit {l : List Bl} {kind name : ByteArray} {k : Nat} (hk : k < l.length) (h : findB l kind name = findF kind name (l.drop k) k) (hb : isB kind name (l.getD k blNo) = true) : findB l kind name = some k := by
  have e : l.getD k blNo = l[k] := by simp [hk]
  rw [h, List.drop_eq_getElem_cons hk, findF, ← e, if_pos hb]
theorem findB_miss {l : List Bl} {kind name : ByteArray} {k : Nat} (hk : k < l.length) (h : findB l kind name = findF kind name (l.drop k) k) (hb : isB kind name (l.getD k blNo) = false) : findB l kind name = findF kind name (l.drop (k + 1)) (k + 1) := by
  have e : l.getD k blNo = l[k] := by simp [hk]
  rw [h, List.drop_eq_getElem_cons hk, findF, ← e, hb]; rfl
theorem findB_end {l : List Bl} {kind name : ByteArray} (h : findB l kind name = findF kind name (l.drop l.length) l.length) : findB l kind name = none := by
  rw [h, List.drop_length, findF]
theorem findF_lt {kind name : ByteArray} : ∀ (l : List Bl) (j k : Nat), findF kind name l j = some k → j ≤ k ∧ k < j + l.length
  | [], _, _, h => by simp [findF] at h
  | b :: l, j, k, h => by
    rw [findF] at h
    split at h
    · injection h with h; subst h; simp
    · have := findF_lt l (j + 1) k h
      simp only [List.length_cons]; omega
theorem findB_lt {l : List Bl} {kind name : ByteArray} {k : Nat} (h : findB l kind name = some k) : k < l.length := by have := findF_lt l 0 k h; omega
/-- The lines of a key. -/
def linesOf (l : List Ln) (key : ByteArray) : List Ln := l.filter fun x => x.key.toList == key.toList
theorem linesOf_step {l : List Ln} {key : ByteArray} {k : Nat} (hk : k < l.length) : linesOf (l.take (k + 1)) key = if (l.getD k lnNo).key.toList == key.toList then linesOf (l.take k) key ++ [l.getD k lnNo] else linesOf (l.take k) key := by
  rw [take_snocD lnNo l k hk, linesOf, linesOf, List.filter_append, List.filter_cons, List.filter_nil]
  split <;> simp
theorem linesOf_len (l : List Ln) (key : ByteArray) : (linesOf l key).length ≤ l.length := List.length_filter_le _ _
/-- What is said, or what is meant. -/
def getOut (s : List Bl) (kind name key : ByteArray) : List Ln × Bool :=
  match validS s, findB s kind name, ruIx (rulesOf kind) key with
  | true, some k, some r =>
    let out := linesOf (s.getD k blNo).lines key
    (if decide (out.length = 0) && !((rulesOf kind).getD r ruNo).many then [⟨key, ((rulesOf kind).getD r ruNo).dflt⟩] else out, true)
  | _, _, _ => ([], false)

end Go.Proofs.Ytojcopamegmeeaa.Pl
