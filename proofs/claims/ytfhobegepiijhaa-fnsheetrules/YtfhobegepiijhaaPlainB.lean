/-
  Plain facts on decimals.
-/
import Derived.Test.YtfhobegepiijhaaPlain
namespace Go.Proofs.Ytfhobegepiijhaa.Pl

theorem decVal_snoc (l : List UInt8) (c : UInt8) : decVal (l ++ [c]) = decVal l * 10 + ((c.toNat : Int) - 48) := by
  simp [decVal, List.foldl_append]

theorem decVal_take (s : ByteArray) (k : Nat) (h : k < s.size) : decVal (s.data.toList.take (k + 1)) = decVal (s.data.toList.take k) * 10 + ((s[k].toNat : Int) - 48) := by
  rw [take_snoc s k h, decVal_snoc]

/-- The number of up to k digits lies below ten to the k. -/
theorem decVal_bd (s : ByteArray) (k : Nat) (hk : k ≤ s.size) (h : (s.data.toList.take k).all digit = true) :
    0 ≤ decVal (s.data.toList.take k) ∧ decVal (s.data.toList.take k) + 1 ≤ ((10 ^ k : Nat) : Int) := by
  induction k with
  | zero => simp [decVal]
  | succ k ih =>
    have hlt : k < s.size := by omega
    rw [all_snoc _ _ _ hlt] at h
    simp only [Bool.and_eq_true] at h
    obtain ⟨ha, hb⟩ := h
    have ih' := ih (by omega) ha
    rw [decVal_take s k hlt, Nat.pow_succ]
    simp only [digit, Bool.and_eq_true, decide_eq_true_eq] at hb
    omega

theorem decVal_small (s : ByteArray) (k : Nat) (hk : k ≤ s.size) (h7 : k ≤ 7) (h : (s.data.toList.take k).all digit = true) :
    0 ≤ decVal (s.data.toList.take k) ∧ decVal (s.data.toList.take k) ≤ 9999999 := by
  have hb := decVal_bd s k hk h
  have : 10 ^ k ≤ 10 ^ 7 := Nat.pow_le_pow_right (by omega) h7
  omega

theorem head_eq (s : ByteArray) (h : 0 < s.size) : s.data.toList.headD 0 = s[0] := by
  have : s.data.toList ≠ [] := by
    intro e
    have : s.size = 0 := by
      have := congrArg List.length e
      simpa using this
    omega
  rw [List.headD_eq_head?_getD, List.head?_eq_some_head this]
  simp [List.head_eq_getElem]
  rfl

theorem lead_of (s : ByteArray) (h : 0 < s.size) : lead s = (decide (1 < s.size) && (s[0] == 48)) := by
  rw [lead, head_eq s h]

def numb (s : ByteArray) : Int := if decOk s then decVal s.data.toList else -1

theorem byte_beq (c d : UInt8) : (c == d) = ((c.toNat : Int) == (d.toNat : Int)) := by
  rw [Bool.eq_iff_iff]
  simp [← UInt8.toNat_inj]
  omega

theorem tl (s : ByteArray) : s.toList = s.data.toList := ByteArray.toList_eq s
theorem len_data (s : ByteArray) : s.data.toList.length = s.size := Array.length_toList
theorem empty_no (s : ByteArray) (h : 1 ≤ s.size) : s.toList.isEmpty = false := by
  rw [tl]
  rw [← len_data] at h
  revert h
  cases s.data.toList with
  | nil => intro h; exact absurd h (by decide)
  | cons a l => intro _; rfl
theorem empty_yes (s : ByteArray) (h : ¬ 1 ≤ s.size) : s.toList.isEmpty = true := by
  rw [tl]
  rw [← len_data] at h
  revert h
  cases s.data.toList with
  | nil => intro _; rfl
  | cons a l => intro h; exact absurd (Nat.succ_le_succ (Nat.zero_le l.length)) h
theorem one_byte (s : ByteArray) (h : s.size = 1) (c : UInt8) (hc : s.data.toList.headD 0 = c) : (s.toList == [c]) = true := by
  rw [tl]
  have h' : s.data.toList.length = 1 := by rw [len_data]; exact h
  obtain ⟨a, ha⟩ := List.length_eq_one_iff.1 h'
  rw [ha] at hc ⊢
  simpa using hc
theorem more_bytes (s : ByteArray) (h : 1 < s.size) (c : UInt8) : (s.toList == [c]) = false := by
  rw [tl, beq_eq_false_iff_ne]
  intro e
  have := congrArg List.length e
  rw [len_data] at this
  have e1 : [c].length = 1 := rfl
  omega
end Go.Proofs.Ytfhobegepiijhaa.Pl
