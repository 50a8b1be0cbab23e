/-
  Sheets: the words of a line, as the program goes: plain.
-/
import Derived.Lib.Bytealg
import Derived.Test.YtkhhhogpkcggjaaDoorEPw
namespace Go.Proofs.YtkhhhogpkcggjaaDoor.Pl

def sp (c : UInt8) : Bool := decide (c.toNat = 32)
/-- What is left from where the next word is to begin. -/
def nextT (l : List UInt8) : List UInt8 := match l.dropWhile sp with
  | [] => []
  | c :: r => if c.toNat = 35 then [] else c :: r
theorem dw_head : ∀ (l : List UInt8) (c : UInt8) (r : List UInt8), l.dropWhile sp = c :: r → c.toNat ≠ 32
  | [], c, r, h => by cases h
  | a :: l, c, r, h => by
    rw [List.dropWhile_cons] at h
    split at h
    · exact dw_head l c r h
    · rename_i hn
      injection h with h1 _
      subst h1
      simpa [sp] using hn
theorem dw_len : ∀ l : List UInt8, (l.dropWhile sp).length ≤ l.length
  | [] => Nat.le_refl _
  | a :: l => by
    rw [List.dropWhile_cons]
    split
    · have := dw_len l; simp only [List.length_cons]; omega
    · exact Nat.le_refl _
theorem nextT_len (l : List UInt8) : (nextT l).length ≤ l.length := by
  have := dw_len l
  unfold nextT
  split
  · simp
  · rename_i c r h
    split
    · simp
    · rw [← h]; exact this
theorem nextT_cons {l : List UInt8} {c : UInt8} {r : List UInt8} (h : nextT l = c :: r) : c.toNat ≠ 32 ∧ c.toNat ≠ 35 := by
  unfold nextT at h
  split at h
  · cases h
  · rename_i c' r' h'
    split at h
    · cases h
    · rename_i hn
      injection h with h1 h2
      subst h1
      exact ⟨dw_head l _ _ h', hn⟩
theorem cut_dw : ∀ (l : List UInt8) (m : Nat), cutL (l.dropWhile sp) m = cutL l m
  | [], _ => rfl
  | a :: l, m => by
    rw [List.dropWhile_cons]
    split
    · rename_i h
      rw [cut_dw l m, cutL, if_pos (by simpa [sp] using h)]
    · rfl
theorem cut_next (l : List UInt8) (m : Nat) : cutL (nextT l) m = cutL l m := by
  rw [← cut_dw l m]
  unfold nextT
  split
  · rename_i h; rw [h]
  · rename_i c r h
    rw [h]
    split
    · rename_i h35
      rw [cutL, cutL, if_neg (by omega), if_pos h35]
    · rfl
/-- The byte that the beginning of a text in quotes stands for, and how many bytes stand for it. -/
def readB (c : UInt8) (l : List UInt8) : UInt8 × Nat :=
  if selfB c then (c, 1)
  else if c.toNat = 92 ∧ 2 ≤ l.length ∧ 0 ≤ hexV (l.getD 0 0) ∧ 0 ≤ hexV (l.getD 1 0) then (UInt8.ofNat (16 * hexV (l.getD 0 0) + hexV (l.getD 1 0)).toNat, 3)
  else (0, 0)
theorem quo_read (c : UInt8) (l : List UInt8) (h : c.toNat ≠ 34) : quoL (c :: l) = if (readB c l).2 = 0 then none else (quoL ((c :: l).drop (readB c l).2)).map fun p => ((readB c l).1 :: p.1, p.2 + (readB c l).2) := by
  rw [quoL, if_neg h]
  by_cases hs : selfB c = true
  · have hs' : 32 ≤ c.toNat ∧ c.toNat ≤ 126 ∧ c.toNat ≠ 92 := by
      simp only [selfB, Bool.and_eq_true, decide_eq_true_eq, bne_iff_ne] at hs; exact ⟨hs.1.1.1, hs.1.1.2, hs.2⟩
    have e : readB c l = (c, 1) := by unfold readB; rw [if_pos hs]
    rw [e, if_neg hs'.2.2, if_pos ⟨hs'.1, hs'.2.1⟩]
    simp
  · by_cases h92 : c.toNat = 92
    · rw [if_pos h92]
      by_cases hx : 2 ≤ l.length ∧ 0 ≤ hexV (l.getD 0 0) ∧ 0 ≤ hexV (l.getD 1 0)
      · have e : readB c l = (UInt8.ofNat (16 * hexV (l.getD 0 0) + hexV (l.getD 1 0)).toNat, 3) := by unfold readB; rw [if_neg hs, if_pos ⟨h92, hx⟩]
        rw [e, if_pos hx]
        simp
      · have e : readB c l = (0, 0) := by unfold readB; rw [if_neg hs, if_neg (fun e => hx e.2)]
        rw [e, if_neg hx]
        simp
    · have hs' : ¬ (32 ≤ c.toNat ∧ c.toNat ≤ 126) := by
        simp only [selfB, Bool.and_eq_true, decide_eq_true_eq, bne_iff_ne] at hs
        intro e; exact hs ⟨⟨⟨e.1, e.2⟩, h⟩, h92⟩
      have e : readB c l = (0, 0) := by unfold readB; rw [if_neg hs, if_neg (fun e => h92 e.1)]
      rw [e, if_neg h92, if_neg hs']
      simp
theorem hex_index (c : UInt8) : Lib.indexByte [48, 49, 50, 51, 52, 53, 54, 55, 56, 57, 97, 98, 99, 100, 101, 102] c = hexV c := by
  have key : ∀ n : Fin 256, Lib.indexByte [48, 49, 50, 51, 52, 53, 54, 55, 56, 57, 97, 98, 99, 100, 101, 102] (UInt8.ofNat n.1) = hexV (UInt8.ofNat n.1) := by decide +kernel
  have := key ⟨c.toNat, u8lt c⟩
  simpa using this
theorem ba_of {a : ByteArray} {l : List UInt8} (h : a.data.toList = l) : a = ⟨l.toArray⟩ := by rw [← h, back]
theorem ba_nil {a : ByteArray} (h : a.data.toList = []) : a.size = 0 := by rw [← len_data, h]; rfl
theorem ba_pos {a : ByteArray} {c : UInt8} {r : List UInt8} (h : a.data.toList = c :: r) : 1 ≤ a.size := by rw [← len_data, h]; simp
theorem ba_at {a : ByteArray} {c : UInt8} {r : List UInt8} (h : a.data.toList = c :: r) (h0 : 0 < a.size) : a[0] = c := by
  have : a.data.toList.headD 0 = a[0] := head_eq a h0
  rw [← this, h]; rfl

end Go.Proofs.YtkhhhogpkcggjaaDoor.Pl
