/-
  Sheets: a block's place, the lines of a key, what is said or meant: plain.
-/
import Derived.Test.YtikacjpbnoihjaaEPs
namespace Go.Proofs.Ytikacjpbnoihjaa.Pl

def lineW (ws : List ByteArray) : List UInt8 := ws.flatMap fun w => 32 :: wordL w.data.toList
def lineT (x : Ln) : List UInt8 := x.key.data.toList ++ lineW x.ws
def linesT (l : List Ln) : List UInt8 := l.flatMap fun x => [32, 32] ++ lineT x ++ [10]
def blockT (b : Bl) : List UInt8 := b.kind.data.toList ++ [32] ++ b.name.data.toList ++ [10] ++ linesT b.lines ++ [101, 110, 100, 10]
def sheetT (s : List Bl) : List UInt8 := s.flatMap blockT
def lineCnt (s : List Bl) : Nat := (s.map fun b => b.lines.length + 2).sum
def printOut (s : List Bl) : ByteArray := if validS s && decide ((sheetT s).length ≤ 20000) && decide (lineCnt s ≤ 400) then ⟨(sheetT s).toArray⟩ else ⟨#[]⟩
/-- What texts weigh. -/
def wtx (ws : List ByteArray) : Nat := (ws.map fun w => w.size + 1).sum
def wln (x : Ln) : Nat := x.key.size + wtx x.ws
def wbl (b : Bl) : Nat := b.kind.size + b.name.size + (b.lines.map fun x => wln x + 1).sum
def wsh (s : List Bl) : Nat := (s.map fun b => wbl b + 1).sum
theorem wordL_len (l : List UInt8) : (wordL l).length ≤ 3 * l.length + 2 := by
  unfold wordL
  split
  · omega
  · simp only [List.length_cons, List.length_append, List.length_nil]
    have := esc_len l
    omega
theorem lineW_len : ∀ ws : List ByteArray, (lineW ws).length ≤ 3 * wtx ws
  | [] => by simp [lineW, wtx]
  | w :: ws => by
    have h := lineW_len ws
    have hw := wordL_len w.data.toList
    rw [len_data] at hw
    simp only [lineW, wtx, List.flatMap_cons, List.length_append, List.length_cons, List.map_cons, List.sum_cons] at h ⊢
    omega
theorem lineT_len (x : Ln) : (lineT x).length ≤ 3 * wln x := by
  unfold lineT wln
  rw [List.length_append, len_data]
  have := lineW_len x.ws
  omega
theorem linesT_len : ∀ l : List Ln, (linesT l).length ≤ 3 * (l.map fun x => wln x + 1).sum
  | [] => by simp [linesT]
  | x :: l => by
    have h := linesT_len l
    have hx := lineT_len x
    simp only [linesT, List.flatMap_cons, List.length_append, List.length_cons, List.length_nil, List.map_cons, List.sum_cons] at h ⊢
    omega
theorem blockT_len (b : Bl) : (blockT b).length ≤ 6 * (wbl b + 1) := by
  have := linesT_len b.lines
  unfold blockT wbl
  simp only [List.length_append, len_data, List.length_cons, List.length_nil]
  omega
theorem sheetT_len : ∀ s : List Bl, (sheetT s).length ≤ 6 * wsh s
  | [] => by simp [sheetT, wsh]
  | b :: s => by
    have h := sheetT_len s
    have hb := blockT_len b
    simp only [sheetT, wsh, List.flatMap_cons, List.length_append, List.map_cons, List.sum_cons] at h ⊢
    omega
theorem sum_take_le {α : Type} (f : α → Nat) : ∀ (l : List α) (k : Nat), ((l.take k).map f).sum ≤ (l.map f).sum
  | [], k => by simp
  | x :: l, 0 => by simp
  | x :: l, k + 1 => by rw [List.take_succ_cons, List.map_cons, List.map_cons, List.sum_cons, List.sum_cons]; have := sum_take_le f l k; omega
theorem sum_mem_le {α : Type} (f : α → Nat) : ∀ (l : List α) (x : α), x ∈ l → f x ≤ (l.map f).sum
  | y :: l, x, h => by
    rw [List.map_cons, List.sum_cons]
    rcases List.mem_cons.1 h with rfl | q
    · omega
    · have := sum_mem_le f l x q; omega
theorem take_snocD {α : Type} (d : α) (l : List α) (k : Nat) (h : k < l.length) : l.take (k + 1) = l.take k ++ [l.getD k d] := by
  have e : l.getD k d = l[k] := by simp [h]
  rw [List.take_succ_eq_append_getElem h, e]

end Go.Proofs.Ytikacjpbnoihjaa.Pl

namespace Go.Proofs.Ytikacjpbnoihjaa.Pl

def isB (kind name : ByteArray) (b : Bl) : Bool := (b.kind.toList == kind.toList) && (b.name.toList == name.toList)
def findF (kind name : ByteArray) : List Bl → Nat → Option Nat
  | [], _ => none
  | b :: l, j => if isB kind name b then some j else findF kind name l (j + 1)
def findB (l : List Bl) (kind name : ByteArray) : Option Nat := findF kind name l 0
theorem findB_hit {l : List Bl} {kind name : ByteArray} {k : Nat} (hk : k < l.length) (h : findB l kind name = findF kind name (l.drop k) k) (hb : isB kind name (l.getD k blNo) = true) : findB l kind name = some k := by
  have e : l.getD k blNo = l[k] := by simp [hk]
  rw [h, List.drop_eq_getElem_cons hk, findF, ← e, if_pos hb]
theorem findB_miss {l : List Bl} {kind name : ByteArray} {k : Nat} (hk : k < l.length) (h : findB l kind name = findF kind name (l.drop k) k) (hb : isB kind name (l.getD k blNo) = false) : findB l kind name = findF kind name (l.drop (k + 1)) (k + 1) := by
  have e : l.getD k blNo = l[k] := by simp [hk]
  rw [h, List.drop_eq_getElem_cons hk, findF, ← e, hb]; rfl
theorem findB_end {l : List Bl} {kind name : ByteArray} (h : findB l kind name = findF kind name (l.drop l.length) l.length) : findB l kind name = none := by
  rw [h, List.drop_length, findF]
theorem findF_lt {kind name : ByteArray} : ∀ (l : List Bl) (j k : Nat), findF kind name l j = some k → j ≤ k ∧ k < j + l.length
  | [], _, _, h => by simp [findF] at h
  | b :: l, j, k, h => by
    rw [findF] at h
    split at h
    · injection h with h; subst h; simp
    · have := findF_lt l (j + 1) k h
      simp only [List.length_cons]; omega
theorem findB_lt {l : List Bl} {kind name : ByteArray} {k : Nat} (h : findB l kind name = some k) : k < l.length := by have := findF_lt l 0 k h; omega
/-- The lines of a key. -/
def linesOf (l : List Ln) (key : ByteArray) : List Ln := l.filter fun x => x.key.toList == key.toList
theorem linesOf_step {l : List Ln} {key : ByteArray} {k : Nat} (hk : k < l.length) : linesOf (l.take (k + 1)) key = if (l.getD k lnNo).key.toList == key.toList then linesOf (l.take k) key ++ [l.getD k lnNo] else linesOf (l.take k) key := by
  rw [take_snocD lnNo l k hk, linesOf, linesOf, List.filter_append, List.filter_cons, List.filter_nil]
  split <;> simp
theorem linesOf_len (l : List Ln) (key : ByteArray) : (linesOf l key).length ≤ l.length := List.length_filter_le _ _
/-- What is said, or what is meant. -/
def getOut (s : List Bl) (kind name key : ByteArray) : List Ln × Bool :=
  match validS s, findB s kind name, ruIx (rulesOf kind) key with
  | true, some k, some r =>
    let out := linesOf (s.getD k blNo).lines key
    (if decide (out.length = 0) && !((rulesOf kind).getD r ruNo).many then [⟨key, ((rulesOf kind).getD r ruNo).dflt⟩] else out, true)
  | _, _, _ => ([], false)

end Go.Proofs.Ytikacjpbnoihjaa.Pl
