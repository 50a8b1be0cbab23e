/-
  Sheets: plain functions on bytes: what a bare word is, how a word is written.
-/
import Derived.Test.YtojcopamegmeeaaPlain
namespace Go.Proofs.Ytojcopamegmeeaa.Pl

theorem decVal_snoc (l : List UInt8) (c : UInt8) : decVal (l ++ [c]) = decVal l * 10 + ((c.toNat : Int) - 48) := by
  simp [decVal, List.foldl_append]

theorem decVal_take (s : ByteArray) (k : Nat) (h : k < s.size) : decVal (s.data.toList.take (k + 1)) = decVal (s.data.toList.take k) * 10 + ((s[k].toNat : Int) - 48) := by
  rw [take_snoc s k h, decVal_snoc]

/-- The number of up to k digits lies below ten to the k. -/
theorem decVal_bd (s : ByteArray) (k : Nat) (hk : k ≤ s.size) (h : (s.data.toList.take k).all digit = true) :
    0 ≤ decVal (s.data.toList.take k) ∧ decVal (s.data.toList.take k) + 1 ≤ ((10 ^ k : Nat) : Int) := by
  induction k with
  | zero => simp [decVal]
  | succ k ih =>
    have hlt : k < s.size := by omega
    rw [all_snoc _ _ _ hlt] at h
    simp only [Bool.and_eq_true] at h
    obtain ⟨ha, hb⟩ := h
    have ih' := ih (by omega) ha
    rw [decVal_take s k hlt, Nat.pow_succ]
    simp only [digit, Bool.and_eq_true, decide_eq_true_eq] at hb
    omega

theorem decVal_small (s : ByteArray) (k : Nat) (hk : k ≤ s.size) (h7 : k ≤ 7) (h : (s.data.toList.take k).all digit = true) :
    0 ≤ decVal (s.data.toList.take k) ∧ decVal (s.data.toList.take k) ≤ 9999999 := by
  have hb := decVal_bd s k hk h
  have : 10 ^ k ≤ 10 ^ 7 := Nat.pow_le_pow_right (by omega) h7
  omega

theorem head_eq (s : ByteArray) (h : 0 < s.size) : s.data.toList.headD 0 = s[0] := by
  have : s.data.toList ≠ [] := by
    intro e
    have : s.size = 0 := by
      have := congrArg List.length e
      simpa using this
    omega
  rw [List.headD_eq_head?_getD, List.head?_eq_some_head this]
  simp [List.head_eq_getElem]
  rfl

theorem lead_of (s : ByteArray) (h : 0 < s.size) : lead s = (decide (1 < s.size) && (s[0] == 48)) := by
  rw [lead, head_eq s h]

def numb (s : ByteArray) : Int := if decOk s then decVal s.data.toList else -1

theorem byte_beq (c d : UInt8) : (c == d) = ((c.toNat : Int) == (d.toNat : Int)) := by
  rw [Bool.eq_iff_iff]
  simp [← UInt8.toNat_inj]
  omega

theorem tl (s : ByteArray) : s.toList = s.data.toList := ByteArray.toList_eq s
theorem len_data (s : ByteArray) : s.data.toList.length = s.size := Array.length_toList
theorem empty_no (s : ByteArray) (h : 1 ≤ s.size) : s.toList.isEmpty = false := by
  rw [tl]
  rw [← len_data] at h
  revert h
  cases s.data.toList with
  | nil => intro h; exact absurd h (by decide)
  | cons a l => intro _; rfl
theorem empty_yes (s : ByteArray) (h : ¬ 1 ≤ s.size) : s.toList.isEmpty = true := by
  rw [tl]
  rw [← len_data] at h
  revert h
  cases s.data.toList with
  | nil => intro _; rfl
  | cons a l => intro h; exact absurd (Nat.succ_le_succ (Nat.zero_le l.length)) h
theorem one_byte (s : ByteArray) (h : s.size = 1) (c : UInt8) (hc : s.data.toList.headD 0 = c) : (s.toList == [c]) = true := by
  rw [tl]
  have h' : s.data.toList.length = 1 := by rw [len_data]; exact h
  obtain ⟨a, ha⟩ := List.length_eq_one_iff.1 h'
  rw [ha] at hc ⊢
  simpa using hc
theorem more_bytes (s : ByteArray) (h : 1 < s.size) (c : UInt8) : (s.toList == [c]) = false := by
  rw [tl, beq_eq_false_iff_ne]
  intro e
  have := congrArg List.length e
  rw [len_data] at this
  have e1 : [c].length = 1 := rfl
  omega
end Go.Proofs.Ytojcopamegmeeaa.Pl

namespace Go.Proofs.Ytojcopamegmeeaa.Pl

def bareB (c : UInt8) : Bool := decide (33 ≤ c.toNat) && decide (c.toNat ≤ 126) && (c.toNat != 34) && (c.toNat != 35) && (c.toNat != 92)
def selfB (c : UInt8) : Bool := decide (32 ≤ c.toNat) && decide (c.toNat ≤ 126) && (c.toNat != 34) && (c.toNat != 92)
def hexd (n : Nat) : UInt8 := if n < 10 then UInt8.ofNat (48 + n) else UInt8.ofNat (87 + n)
def escB (c : UInt8) : List UInt8 := if selfB c then [c] else [92, hexd (c.toNat / 16), hexd (c.toNat % 16)]
def bareL (l : List UInt8) : Bool := decide (0 < l.length) && l.all bareB
def wordL (l : List UInt8) : List UInt8 := if bareL l then l else 34 :: (l.flatMap escB ++ [34])
def wordOut (s : ByteArray) : ByteArray := ⟨(wordL s.data.toList).toArray⟩

theorem escB_len (c : UInt8) : (escB c).length ≤ 3 := by unfold escB; split <;> simp
theorem esc_len : ∀ l : List UInt8, (l.flatMap escB).length ≤ 3 * l.length
  | [] => by simp
  | c :: l => by rw [List.flatMap_cons, List.length_append, List.length_cons]; have := escB_len c; have := esc_len l; omega
theorem back (s : ByteArray) : (⟨s.data.toList.toArray⟩ : ByteArray) = s := by simp
theorem ret_str {a b : ByteArray} (h : a = b) : Ending.returned (.string a) = .returned (.string b) := by rw [h]
/-- Bytes as cells. -/
def byV (l : List UInt8) : List Value := l.map fun c => .int .u8 (c.toNat : Int)
theorem byV_app (a b : List UInt8) : byV (a ++ b) = byV a ++ byV b := List.map_append
theorem byV_len (a : List UInt8) : (byV a).length = a.length := List.length_map ..
theorem u8lt (c : UInt8) : c.toNat < 256 := c.toNat_lt

def hexV (c : UInt8) : Int := if 48 ≤ c.toNat ∧ c.toNat ≤ 57 then (c.toNat : Int) - 48 else if 97 ≤ c.toNat ∧ c.toNat ≤ 102 then (c.toNat : Int) - 87 else -1
theorem hexV_bd (c : UInt8) : -1 ≤ hexV c ∧ hexV c ≤ 15 := by unfold hexV; split <;> (try split) <;> omega
/-- What stands behind a quotation mark, and how many bytes it takes. -/
def quoL : List UInt8 → Option (List UInt8 × Nat)
  | [] => none
  | c :: l =>
    if c.toNat = 34 then some ([], 1)
    else if c.toNat = 92 then
      if 2 ≤ l.length ∧ 0 ≤ hexV (l.getD 0 0) ∧ 0 ≤ hexV (l.getD 1 0) then (quoL (l.drop 2)).map (fun p => (UInt8.ofNat (16 * hexV (l.getD 0 0) + hexV (l.getD 1 0)).toNat :: p.1, p.2 + 3)) else none
    else if 32 ≤ c.toNat ∧ c.toNat ≤ 126 then (quoL l).map (fun p => (c :: p.1, p.2 + 1))
    else none
termination_by l => l.length
decreasing_by all_goals simp_all <;> omega
def quoT (l : List UInt8) : List UInt8 × Nat := (quoL l).getD ([], 0)
theorem drop_at (s : ByteArray) (k : Nat) (h : k < s.size) : s.data.toList.drop k = s[k] :: s.data.toList.drop (k + 1) := by
  rw [List.drop_eq_getElem_cons (by rw [len_data]; exact h)]; rfl
theorem quoL_len : ∀ (n : Nat) (l : List UInt8), l.length ≤ n → ∀ x m, quoL l = some (x, m) → x.length + 1 ≤ m ∧ m ≤ l.length
  | 0, [], _, x, m, h => by simp [quoL] at h
  | n + 1, [], _, x, m, h => by simp [quoL] at h
  | n + 1, c :: l, hl, x, m, h => by
    rw [quoL] at h
    simp only [List.length_cons] at hl ⊢
    split at h
    · simp only [Option.some.injEq, Prod.mk.injEq] at h; obtain ⟨rfl, rfl⟩ := h; simp
    · split at h
      · split at h
        · obtain ⟨⟨y, k⟩, h1, h2⟩ := Option.map_eq_some_iff.1 h
          simp only [Prod.mk.injEq] at h2
          obtain ⟨rfl, rfl⟩ := h2
          have := quoL_len n (l.drop 2) (by rw [List.length_drop]; omega) y k h1
          rw [List.length_drop] at this
          simp only [List.length_cons]; omega
        · cases h
      · split at h
        · obtain ⟨⟨y, k⟩, h1, h2⟩ := Option.map_eq_some_iff.1 h
          simp only [Prod.mk.injEq] at h2
          obtain ⟨rfl, rfl⟩ := h2
          have := quoL_len n l (by omega) y k h1
          simp only [List.length_cons]; omega
        · cases h
theorem drop_len (s : ByteArray) (k : Nat) : (s.data.toList.drop k).length = s.size - k := by rw [List.length_drop, len_data]
theorem dropD (s : ByteArray) (k j : Nat) (h : k + j < s.size) : (s.data.toList.drop k).getD j 0 = s[k + j] := by
  have : k + j < s.data.toList.length := by rw [len_data]; exact h
  rw [List.getD_eq_getElem?_getD, List.getElem?_drop, List.getElem?_eq_getElem this]; rfl
theorem quo34 (s : ByteArray) (k : Nat) (h : k < s.size) (h1 : s[k].toNat = 34) : quoL (s.data.toList.drop k) = some ([], 1) := by
  rw [drop_at s k h, quoL, if_pos h1]
theorem quo92n (s : ByteArray) (k : Nat) (h : k < s.size) (h1 : s[k].toNat = 92) (h2 : ¬ k + 2 < s.size) : quoL (s.data.toList.drop k) = none := by
  rw [drop_at s k h, quoL, if_neg (by omega), if_pos h1, if_neg (by rw [drop_len]; omega)]
theorem quo92x (s : ByteArray) (k : Nat) (h : k < s.size) (h1 : s[k].toNat = 92) (h2 : k + 2 < s.size) (hx : hexV s[k + 1] < 0 ∨ hexV s[k + 2] < 0) : quoL (s.data.toList.drop k) = none := by
  have e1 := dropD s (k + 1) 0 (by omega)
  have e2 := dropD s (k + 1) 1 (by omega)
  simp only [Nat.add_zero, Nat.add_assoc] at e1 e2
  rw [drop_at s k h, quoL, if_neg (by omega), if_pos h1, e1, e2, if_neg]
  rintro ⟨_, q1, q2⟩
  have e3 : hexV s[k + (1 + 1)] = hexV s[k + 2] := rfl
  omega
theorem quo92 (s : ByteArray) (k : Nat) (h : k < s.size) (h1 : s[k].toNat = 92) (h2 : k + 2 < s.size) (x1 : 0 ≤ hexV s[k + 1]) (x2 : 0 ≤ hexV s[k + 2]) :
    quoL (s.data.toList.drop k) = (quoL (s.data.toList.drop (k + 3))).map (fun p => (UInt8.ofNat (16 * hexV s[k + 1] + hexV s[k + 2]).toNat :: p.1, p.2 + 3)) := by
  have e1 := dropD s (k + 1) 0 (by omega)
  have e2 := dropD s (k + 1) 1 (by omega)
  simp only [Nat.add_zero, Nat.add_assoc] at e1 e2
  rw [drop_at s k h, quoL, if_neg (by omega), if_pos h1, e1, e2, if_pos ⟨by rw [drop_len]; omega, x1, x2⟩, List.drop_drop]
theorem quoS (s : ByteArray) (k : Nat) (h : k < s.size) (h1 : s[k].toNat ≠ 34) (h2 : s[k].toNat ≠ 92) (h3 : 32 ≤ s[k].toNat ∧ s[k].toNat ≤ 126) :
    quoL (s.data.toList.drop k) = (quoL (s.data.toList.drop (k + 1))).map (fun p => (s[k] :: p.1, p.2 + 1)) := by
  rw [drop_at s k h, quoL, if_neg h1, if_neg h2, if_pos h3]
theorem quoN (s : ByteArray) (k : Nat) (h : k < s.size) (h1 : s[k].toNat ≠ 34) (h2 : s[k].toNat ≠ 92) (h3 : ¬ (32 ≤ s[k].toNat ∧ s[k].toNat ≤ 126)) : quoL (s.data.toList.drop k) = none := by
  rw [drop_at s k h, quoL, if_neg h1, if_neg h2, if_neg h3]
theorem quoE (s : ByteArray) : quoL (s.data.toList.drop s.size) = none := by
  rw [List.drop_of_length_le (by rw [len_data]; exact Nat.le_refl _), quoL]
theorem quoC {l d d' : List UInt8} {O : List UInt8} {k n : Nat} {c : UInt8} (h : quoL l = (quoL d).map fun p => (O ++ p.1, k + p.2)) (h' : quoL d = (quoL d').map fun p => (c :: p.1, p.2 + n)) : quoL l = (quoL d').map fun p => ((O ++ [c]) ++ p.1, (k + n) + p.2) := by
  rw [h, h', Option.map_map]
  congr 1
  funext p
  simp only [Function.comp, Prod.mk.injEq]
  exact ⟨by simp, by omega⟩

end Go.Proofs.Ytojcopamegmeeaa.Pl
