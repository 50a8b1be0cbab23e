/-
  What most disks have: plain.
-/
import Derived.Test.YtcefgacmagobnaaKXa
namespace Go.Proofs.Ytcefgacmagobnaa
open Go.RowKit Go.Deep


theorem sm_iff (a b : ByteArray) : same a b = true ↔ a = b := by
  unfold same
  rw [beq_iff_eq]
  constructor
  · intro h
    cases a with | mk x => cases b with | mk y =>
    have hx : (ByteArray.mk x).toList = x.toList := ByteArray.toList_eq _ |>.trans rfl
    have hy : (ByteArray.mk y).toList = y.toList := ByteArray.toList_eq _ |>.trans rfl
    rw [hx, hy] at h
    congr 1
    exact Array.toList_inj.1 h
  · rintro rfl; rfl
/-- Two slots are one. -/
def sameS (a b : Rs) : Bool := (a.bal == b.bal) && same a.txt b.txt
theorem sameS_iff (a b : Rs) : sameS a b = true ↔ a = b := by
  unfold sameS
  rw [Bool.and_eq_true, beq_iff_eq, sm_iff]
  constructor
  · rintro ⟨h1, h2⟩; cases a; cases b; simp_all
  · rintro rfl; exact ⟨rfl, rfl⟩
/-- How many below n. -/
def cntP (p : Nat → Bool) : Nat → Nat
  | 0 => 0
  | n + 1 => cntP p n + (if p n then 1 else 0)
theorem cntP_congr {p q : Nat → Bool} : ∀ {n : Nat}, (∀ i, i < n → p i = q i) → cntP p n = cntP q n
  | 0, _ => rfl
  | n + 1, h => by rw [cntP, cntP, cntP_congr (n := n) (fun i hi => h i (by omega)), h n (by omega)]
theorem cntP_le (p : Nat → Bool) : ∀ n, cntP p n ≤ n
  | 0 => Nat.le_refl _
  | n + 1 => by rw [cntP]; have := cntP_le p n; split <;> omega
theorem cntP_mono (p : Nat → Bool) {m : Nat} : ∀ {n : Nat}, m ≤ n → cntP p m ≤ cntP p n
  | 0, h => by rw [Nat.le_zero.1 h]; exact Nat.le_refl _
  | n + 1, h => by
    by_cases e : m = n + 1
    · rw [e]; exact Nat.le_refl _
    · rw [cntP]; have := cntP_mono p (m := m) (n := n) (by omega); omega
theorem cntP_two {p q : Nat → Bool} (h : ∀ i, p i = true → q i = false) : ∀ n, cntP p n + cntP q n ≤ n
  | 0 => Nat.le_refl _
  | n + 1 => by
    rw [cntP, cntP]
    have := cntP_two h n
    have := h n
    cases e : p n <;> cases e2 : q n <;> simp_all <;> omega
theorem cntP_last (p : Nat → Bool) : ∀ n, 0 < cntP p n → ∃ j, j < n ∧ p j = true ∧ cntP p (j + 1) = cntP p n
  | 0, h => absurd h (Nat.lt_irrefl _)
  | n + 1, h => by
    cases e : p n
    · have e1 : cntP p (n + 1) = cntP p n := by rw [cntP, e]; rfl
      obtain ⟨j, hj, hp, hc⟩ := cntP_last p n (by rw [← e1]; exact h)
      exact ⟨j, by omega, hp, by rw [hc, e1]⟩
    · exact ⟨n, by omega, e, rfl⟩

/-- The slot that a recorder's safe disk has for a place. -/
def slotI (l : List Rr) (ix : Int) (i : Nat) : Rs := (l.getD i Rr.nil).safe.slots.getD (ix.toNat - 1) Rs.none
def inI (l : List Rr) (ix : Int) (i : Nat) : Bool := decide (ix ≤ ((l.getD i Rr.nil).safe.slots.length : Int))
def hasI (l : List Rr) (ix : Int) (i : Nat) : Bool := decide (1 ≤ ix) && inI l ix i && !((slotI l ix i).bal == 0)
def cntI (l : List Rr) (ix : Int) (s : Rs) (n : Nat) : Nat := cntP (fun j => hasI l ix j && sameS (slotI l ix j) s) n
/-- As the specification counts: all of them; as the program does: up to this one. -/
def majAt (l : List Rr) (ix : Int) (i : Nat) : Bool := hasI l ix i && decide (l.length < 2 * cntP (fun j => inI l ix j && sameS (slotI l ix j) (slotI l ix i)) l.length)
def majAtP (l : List Rr) (ix : Int) (i : Nat) : Bool := hasI l ix i && decide (l.length < 2 * cntI l ix (slotI l ix i) (i + 1))
def majOf (l : List Rr) (ix : Int) (f : Int) : ByteArray × Bool := if 0 ≤ f then ((slotI l ix f.toNat).txt, true) else (ByteArray.empty, false)
def major (l : List Rr) (ix : Int) : ByteArray × Bool := majOf l ix (firstTo (majAt l ix) l.length)
def majorP (l : List Rr) (ix : Int) : ByteArray × Bool := majOf l ix (firstTo (majAtP l ix) l.length)

theorem in_has {l : List Rr} {ix : Int} {s : Rs} (h1 : 1 ≤ ix) (hs : (s.bal == 0) = false) (j : Nat) : (inI l ix j && sameS (slotI l ix j) s) = (hasI l ix j && sameS (slotI l ix j) s) := by
  unfold hasI
  cases e : sameS (slotI l ix j) s
  · simp
  · rw [sameS_iff] at e
    rw [e, hs]; simp [h1]
theorem majAt_eq (l : List Rr) (ix : Int) (i : Nat) : majAt l ix i = (hasI l ix i && decide (l.length < 2 * cntI l ix (slotI l ix i) l.length)) := by
  unfold majAt
  cases h : hasI l ix i
  · rfl
  · have h1 : 1 ≤ ix ∧ ((slotI l ix i).bal == 0) = false := by
      unfold hasI at h
      simp only [Bool.and_eq_true, decide_eq_true_eq, Bool.not_eq_true'] at h
      exact ⟨h.1.1, h.2⟩
    have : cntP (fun j => inI l ix j && sameS (slotI l ix j) (slotI l ix i)) l.length = cntI l ix (slotI l ix i) l.length := cntP_congr fun j _ => in_has h1.1 h1.2 j
    rw [this]
theorem major_eq (l : List Rr) (ix : Int) : majorP l ix = major l ix := by
  unfold majorP major
  have key : ∀ i, majAtP l ix i = true → i < l.length → majAt l ix i = true := by
    intro i h hi
    rw [majAt_eq]
    unfold majAtP at h
    simp only [Bool.and_eq_true, decide_eq_true_eq] at h ⊢
    refine ⟨h.1, ?_⟩
    have : cntI l ix (slotI l ix i) (i + 1) ≤ cntI l ix (slotI l ix i) l.length := cntP_mono _ (by omega)
    omega
  rcases firstTo_cases (majAtP l ix) l.length with ⟨h, hn⟩ | ⟨i, hi, h, hp, _⟩
  · rcases firstTo_cases (majAt l ix) l.length with ⟨h', _⟩ | ⟨k, hk, h', hp', _⟩
    · rw [h, h']
    · exfalso
      rw [majAt_eq] at hp'
      simp only [Bool.and_eq_true, decide_eq_true_eq] at hp'
      obtain ⟨j, hj, hpj, hc⟩ := cntP_last (fun j => hasI l ix j && sameS (slotI l ix j) (slotI l ix k)) l.length (by have := hp'.2; unfold cntI at this; omega)
      simp only [Bool.and_eq_true] at hpj
      have e := (sameS_iff _ _).1 hpj.2
      have := hn j hj
      unfold majAtP at this
      rw [hpj.1, Bool.true_and, decide_eq_false_iff_not] at this
      apply this
      unfold cntI
      rw [e, hc]
      exact hp'.2
  · rcases firstTo_cases (majAt l ix) l.length with ⟨h', hn'⟩ | ⟨k, hk, h', hp', _⟩
    · exfalso; have := hn' i hi; rw [key i hp hi] at this; cases this
    · rw [h, h']
      have h1 := key i hp hi
      rw [majAt_eq] at h1 hp'
      simp only [Bool.and_eq_true, decide_eq_true_eq] at h1 hp'
      have e : slotI l ix i = slotI l ix k := by
        cases q : sameS (slotI l ix i) (slotI l ix k)
        · exfalso
          have := cntP_two (p := fun j => hasI l ix j && sameS (slotI l ix j) (slotI l ix i)) (q := fun j => hasI l ix j && sameS (slotI l ix j) (slotI l ix k)) (fun j hj => by
            simp only [Bool.and_eq_true] at hj
            have e := (sameS_iff _ _).1 hj.2
            show (_ && sameS (slotI l ix j) (slotI l ix k)) = false
            rw [e, q, Bool.and_false]) l.length
          have a1 := h1.2
          have a2 := hp'.2
          unfold cntI at a1 a2
          omega
        · exact (sameS_iff _ _).1 q
      unfold majOf
      simp [e]
theorem major_out (l : List Rr) (ix : Int) (h : ∀ i, i < l.length → hasI l ix i = false) : major l ix = (ByteArray.empty, false) := by
  unfold major
  rcases firstTo_cases (majAt l ix) l.length with ⟨h', _⟩ | ⟨k, hk, _, hp, _⟩
  · rw [h']; rfl
  · exfalso; rw [majAt_eq, h k hk] at hp; cases hp
end Go.Proofs.Ytcefgacmagobnaa
