/-
  Plain functions: the first numbered name that is none of some.
-/
import Derived.Lib.ItoaMem
import Derived.Test.YtfmidkdpclfffaaDoorMemR
namespace Go.Proofs.YtfmidkdpclfffaaDoor
open Go.RowKit Go.Deep

def decVal (l : List UInt8) : Nat := l.foldl (fun n c => n * 10 + (c.toNat - 48)) 0

theorem digit_val (d : Nat) (h : d < 10) : (UInt8.ofNat (48 + d)).toNat - 48 = d := by
  rw [UInt8.toNat_ofNat']
  omega

theorem decVal_digits (u : Nat) : decVal (Lib.decDigits u) = u := by
  induction u using Nat.strongRecOn with
  | _ u ih =>
    rw [Lib.decDigits]
    split
    · rename_i h
      simp only [decVal, List.foldl_cons, List.foldl_nil, digit_val u h]; omega
    · rename_i h
      have := ih (u / 10) (by omega)
      unfold decVal at this ⊢
      rw [List.foldl_append, this]
      simp only [List.foldl_cons, List.foldl_nil, digit_val (u % 10) (Nat.mod_lt _ (by decide))]
      omega

theorem decDigits_inj {a b : Nat} (h : Lib.decDigits a = Lib.decDigits b) : a = b := by
  rw [← decVal_digits a, ← decVal_digits b, h]

theorem pigeon {α : Type} [DecidableEq α] (f : Nat → α) (hf : ∀ i j, f i = f j → i = j) : ∀ (m : Nat) (used : List α), used.length ≤ m → ∃ n, n ≤ m ∧ f n ∉ used
  | 0, used, h => ⟨0, Nat.le_refl _, by rw [List.length_eq_zero_iff.1 (Nat.le_zero.1 h)]; simp⟩
  | m + 1, used, h => by
    by_cases hm : f (m + 1) ∈ used
    · have hl : (used.erase (f (m + 1))).length ≤ m := by rw [List.length_erase_of_mem hm]; omega
      obtain ⟨n, hn, hnn⟩ := pigeon f hf m (used.erase (f (m + 1))) hl
      refine ⟨n, by omega, fun hc => hnn ?_⟩
      exact (List.mem_erase_of_ne (fun e => by have := hf _ _ e; omega)).2 hc
    · exact ⟨m + 1, Nat.le_refl _, hm⟩

/-- A letter and a number. -/
def numb (letter : ByteArray) (n : Nat) : ByteArray := letter ++ ⟨(Lib.decDigits n).toArray⟩

theorem numb_list (letter : ByteArray) (n : Nat) : (numb letter n).toList = letter.toList ++ Lib.decDigits n := by
  unfold numb
  rw [Pl.tl, Pl.tl]
  simp [ByteArray.data_append]

theorem numb_inj (letter : ByteArray) (i j : Nat) (h : (numb letter i).toList = (numb letter j).toList) : i = j := by
  rw [numb_list, numb_list] at h
  exact decDigits_inj (List.append_cancel_left h)

def firstNo (p : Nat → Bool) : Nat → Nat → Nat
  | 0, n => n
  | k + 1, n => if p n = true then firstNo p k (n + 1) else n

theorem firstNo_taken (p : Nat → Bool) : ∀ (k n i : Nat), n ≤ i → i < firstNo p k n → p i = true
  | 0, n, i, h1, h2 => by simp only [firstNo] at h2; omega
  | k + 1, n, i, h1, h2 => by
    rw [firstNo] at h2
    by_cases hp : p n = true
    · rw [if_pos hp] at h2
      by_cases hi : i = n
      · rw [hi]; exact hp
      · exact firstNo_taken p k (n + 1) i (by omega) h2
    · rw [if_neg hp] at h2; omega

theorem firstNo_free (p : Nat → Bool) : ∀ (k n : Nat), (∃ i, n ≤ i ∧ i < n + k ∧ p i = false) → p (firstNo p k n) = false ∧ firstNo p k n < n + k
  | 0, n, ⟨i, h1, h2, _⟩ => by omega
  | k + 1, n, ⟨i, h1, h2, h3⟩ => by
    rw [firstNo]
    by_cases hp : p n = true
    · rw [if_pos hp]
      have hi : i ≠ n := fun e => by rw [e, hp] at h3; cases h3
      have := firstNo_free p k (n + 1) ⟨i, by omega, by omega, h3⟩
      exact ⟨this.1, by omega⟩
    · rw [if_neg hp]
      exact ⟨by simpa using hp, by omega⟩

def freshN (letter : ByteArray) (used : List ByteArray) : Nat := firstNo (fun n => Pl.has used (numb letter n)) (used.length + 1) 0

theorem fresh_both (letter : ByteArray) (used : List ByteArray) : Pl.has used (numb letter (freshN letter used)) = false ∧ freshN letter used < used.length + 1 := by
  obtain ⟨n, hn, hnn⟩ := pigeon (fun n => (numb letter n).toList) (numb_inj letter) used.length (used.map (fun x => x.toList)) (by simp)
  have := firstNo_free (fun n => Pl.has used (numb letter n)) (used.length + 1) 0 ⟨n, Nat.zero_le _, by omega, by
    simp only [Pl.has, List.any_eq_false, beq_iff_eq]
    intro x hx e
    exact hnn (List.mem_map.2 ⟨x, hx, e⟩)⟩
  exact ⟨this.1, by have := this.2; unfold freshN; omega⟩
theorem fresh_lt (letter : ByteArray) (used : List ByteArray) : freshN letter used < used.length + 1 := (fresh_both letter used).2
theorem fresh_free (letter : ByteArray) (used : List ByteArray) : Pl.has used (numb letter (freshN letter used)) = false := (fresh_both letter used).1
theorem fresh_taken (letter : ByteArray) (used : List ByteArray) (n : Nat) (h : n < freshN letter used) : Pl.has used (numb letter n) = true :=
  firstNo_taken (fun n => Pl.has used (numb letter n)) (used.length + 1) 0 n (Nat.zero_le _) h

/-- The first numbered name that is none of some. -/
def fresh (letter : ByteArray) (used : List ByteArray) : ByteArray := numb letter (freshN letter used)

theorem fresh_end {letter : ByteArray} {used : List ByteArray} {n : Nat} (hn : n ≤ freshN letter used) (h : Pl.has used (numb letter n) = false) : n = freshN letter used := by
  by_cases hq : n < freshN letter used
  · rw [fresh_taken letter used n hq] at h; cases h
  · omega
theorem fresh_on {letter : ByteArray} {used : List ByteArray} {n : Nat} (hn : n ≤ freshN letter used) (h : Pl.has used (numb letter n) = true) : n + 1 ≤ freshN letter used := by
  by_cases hq : n = freshN letter used
  · rw [hq, fresh_free] at h; cases h
  · omega

def kindsOf (rs : List Rul) : List ByteArray := rs.map (fun r => r.kind)
def namesOf (ts : List Tm) (rs : List Rul) : List ByteArray := rs.map (fun r => r.team) ++ ts.map (fun t => t.nm)

theorem has_kinds (rs : List Rul) (s : ByteArray) : Pl.has (kindsOf rs) s = rs.any (fun r => r.kind.toList == s.toList) := by
  unfold Pl.has kindsOf; rw [List.any_map]; rfl
theorem has_names (ts : List Tm) (rs : List Rul) (s : ByteArray) : Pl.has (namesOf ts rs) s = (isTeam ts s || rs.any (fun r => r.team.toList == s.toList)) := by
  unfold Pl.has namesOf isTeam; rw [List.any_append, List.any_map, List.any_map, Bool.or_comm]; rfl

end Go.Proofs.YtfmidkdpclfffaaDoor
