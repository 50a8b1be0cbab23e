/-
  Sheets: how they are written: plain.
-/
import Derived.Test.YtojcopamegmeeaaEPs
namespace Go.Proofs.Ytojcopamegmeeaa.Pl

def lineW (ws : List ByteArray) : List UInt8 := ws.flatMap fun w => 32 :: wordL w.data.toList
def lineT (x : Ln) : List UInt8 := x.key.data.toList ++ lineW x.ws
def linesT (l : List Ln) : List UInt8 := l.flatMap fun x => [32, 32] ++ lineT x ++ [10]
def blockT (b : Bl) : List UInt8 := b.kind.data.toList ++ [32] ++ b.name.data.toList ++ [10] ++ linesT b.lines ++ [101, 110, 100, 10]
def sheetT (s : List Bl) : List UInt8 := s.flatMap blockT
def lineCnt (s : List Bl) : Nat := (s.map fun b => b.lines.length + 2).sum
def printOut (s : List Bl) : ByteArray := if validS s && decide ((sheetT s).length ≤ 20000) && decide (lineCnt s ≤ 400) then ⟨(sheetT s).toArray⟩ else ⟨#[]⟩
/-- What texts weigh. -/
def wtx (ws : List ByteArray) : Nat := (ws.map fun w => w.size + 1).sum
def wln (x : Ln) : Nat := x.key.size + wtx x.ws
def wbl (b : Bl) : Nat := b.kind.size + b.name.size + (b.lines.map fun x => wln x + 1).sum
def wsh (s : List Bl) : Nat := (s.map fun b => wbl b + 1).sum
theorem wordL_len (l : List UInt8) : (wordL l).length ≤ 3 * l.length + 2 := by
  unfold wordL
  split
  · omega
  · simp only [List.length_cons, List.length_append, List.length_nil]
    have := esc_len l
    omega
theorem lineW_len : ∀ ws : List ByteArray, (lineW ws).length ≤ 3 * wtx ws
  | [] => by simp [lineW, wtx]
  | w :: ws => by
    have h := lineW_len ws
    have hw := wordL_len w.data.toList
    rw [len_data] at hw
    simp only [lineW, wtx, List.flatMap_cons, List.length_append, List.length_cons, List.map_cons, List.sum_cons] at h ⊢
    omega
theorem lineT_len (x : Ln) : (lineT x).length ≤ 3 * wln x := by
  unfold lineT wln
  rw [List.length_append, len_data]
  have := lineW_len x.ws
  omega
theorem linesT_len : ∀ l : List Ln, (linesT l).length ≤ 3 * (l.map fun x => wln x + 1).sum
  | [] => by simp [linesT]
  | x :: l => by
    have h := linesT_len l
    have hx := lineT_len x
    simp only [linesT, List.flatMap_cons, List.length_append, List.length_cons, List.length_nil, List.map_cons, List.sum_cons] at h ⊢
    omega
theorem blockT_len (b : Bl) : (blockT b).length ≤ 6 * (wbl b + 1) := by
  have := linesT_len b.lines
  unfold blockT wbl
  simp only [List.length_append, len_data, List.length_cons, List.length_nil]
  omega
theorem sheetT_len : ∀ s : List Bl, (sheetT s).length ≤ 6 * wsh s
  | [] => by simp [sheetT, wsh]
  | b :: s => by
    have h := sheetT_len s
    have hb := blockT_len b
    simp only [sheetT, wsh, List.flatMap_cons, List.length_append, List.map_cons, List.sum_cons] at h ⊢
    omega
theorem sum_take_le {α : Type} (f : α → Nat) : ∀ (l : List α) (k : Nat), ((l.take k).map f).sum ≤ (l.map f).sum
  | [], k => by simp
  | x :: l, 0 => by simp
  | x :: l, k + 1 => by rw [List.take_succ_cons, List.map_cons, List.map_cons, List.sum_cons, List.sum_cons]; have := sum_take_le f l k; omega
theorem sum_mem_le {α : Type} (f : α → Nat) : ∀ (l : List α) (x : α), x ∈ l → f x ≤ (l.map f).sum
  | y :: l, x, h => by
    rw [List.map_cons, List.sum_cons]
    rcases List.mem_cons.1 h with rfl | q
    · omega
    · have := sum_mem_le f l x q; omega
theorem take_snocD {α : Type} (d : α) (l : List α) (k : Nat) (h : k < l.length) : l.take (k + 1) = l.take k ++ [l.getD k d] := by
  have e : l.getD k d = l[k] := by simp [h]
  rw [List.take_succ_eq_append_getElem h, e]

end Go.Proofs.Ytojcopamegmeeaa.Pl
