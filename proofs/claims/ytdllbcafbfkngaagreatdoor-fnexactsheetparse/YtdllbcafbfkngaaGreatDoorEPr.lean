/-
  Sheets: texts cut at spaces: plain.
-/
import Derived.Test.YtdllbcafbfkngaaGreatDoorEPw
namespace Go.Proofs.YtdllbcafbfkngaaGreatDoor.Pl

def splA (acc : List UInt8) : List UInt8 → List (List UInt8)
  | [] => [acc]
  | c :: l => if c.toNat = 32 then acc :: splA [] l else splA (acc ++ [c]) l
def splL (s : ByteArray) : List ByteArray := (splA [] s.data.toList).map fun x => ⟨x.toArray⟩
/-- The rest of a text that is cut, from k on, the last cut having been at f. -/
def splR (s : ByteArray) (f k : Nat) : List ByteArray := (splA ((s.data.toList.drop f).take (k - f)) (s.data.toList.drop k)).map fun x => ⟨x.toArray⟩
theorem splR_start (s : ByteArray) : splR s 0 0 = splL s := by simp [splR, splL]
theorem splR_cut (s : ByteArray) (f k : Nat) (h : k < s.size) (hc : s[k].toNat = 32) : splR s f k = s.extract f k :: splR s (k + 1) (k + 1) := by
  rw [splR, drop_at s k h, splA, if_pos hc, List.map_cons, ← ext_list, back, splR]
  simp
theorem splR_on (s : ByteArray) (f k : Nat) (hf : f ≤ k) (h : k < s.size) (hc : s[k].toNat ≠ 32) : splR s f k = splR s f (k + 1) := by
  rw [splR, drop_at s k h, splA, if_neg hc, splR]
  congr 2
  have e : k + 1 - f = (k - f) + 1 := by omega
  have hl : k - f < (s.data.toList.drop f).length := by rw [drop_len]; omega
  rw [e, List.take_succ_eq_append_getElem hl]
  congr 2
  rw [List.getElem_drop]
  have : f + (k - f) = k := by omega
  simp only [this]; rfl
theorem splR_end (s : ByteArray) (f : Nat) : splR s f s.size = [s.extract f s.size] := by
  have e : s.data.toList.drop s.size = [] := List.drop_of_length_le (by rw [len_data]; exact Nat.le_refl _)
  rw [splR, e, splA, List.map_cons, List.map_nil, ← ext_list, back]

end Go.Proofs.YtdllbcafbfkngaaGreatDoor.Pl
