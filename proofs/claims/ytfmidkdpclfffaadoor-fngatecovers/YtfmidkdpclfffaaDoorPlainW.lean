/-
  Plain functions: the act that is not covered; the first bit of what is left is the first verb that is not covered.
-/
import Derived.Lib.BitFns
import Derived.Test.YtfmidkdpclfffaaDoorPlainS
import Derived.Test.YtfmidkdpclfffaaDoorPlainV
namespace Go.Proofs.YtfmidkdpclfffaaDoor
open Go.RowKit Go.Deep

def letK : ByteArray := ⟨#[107]⟩
def letT : ByteArray := ⟨#[116]⟩
def uncKind (rs : List Rul) (r : Rul) : ByteArray := if r.kind.toList.isEmpty = true then fresh letK (kindsOf rs) else r.kind
def uncTeam (ts : List Tm) (rs : List Rul) (r : Rul) : ByteArray := if r.team.toList.isEmpty = true then fresh letT (namesOf ts rs) else r.team

theorem lack_at (ts : List Tm) (rs : List Rul) (r : Rul) : ∀ l : List Int, lackOf ts rs r l ≠ 0 → ∃ k, k < l.length ∧ l.getD k 0 = lackOf ts rs r l ∧ covV ts rs r (l.getD k 0) = false ∧ ∀ j, j < k → covV ts rs r (l.getD j 0) = true
  | [], h => absurd rfl h
  | v :: l, h => by
    rw [lackOf] at h ⊢
    by_cases hc : covV ts rs r v = true
    · rw [if_pos hc] at h ⊢
      obtain ⟨k, h1, h2, h3, h4⟩ := lack_at ts rs r l h
      refine ⟨k + 1, by simp; omega, by simpa using h2, by simpa using h3, fun j hj => ?_⟩
      cases j with
      | zero => simpa using hc
      | succ j => have := h4 j (by omega); simpa using this
    · rw [if_neg hc] at h ⊢
      exact ⟨0, by simp, by simp, by simpa using hc, fun j hj => absurd hj (Nat.not_lt_zero j)⟩

theorem verbs_asc {l : List Int} (h : verbsOk l = true) : ∀ k j, j < k → k < l.length → l.getD j 0 < l.getD k 0
  | 0, j, hj, _ => absurd hj (Nat.not_lt_zero j)
  | k + 1, j, hj, hk => by
    have h2 : verbsTo l l.length = true := by simp only [verbsOk, Bool.and_eq_true] at h; exact h.2
    have ha := (verbAt_iff l (k + 1)).1 (verbsTo_at h2 (k + 1) hk)
    have hs : l.getD k 0 < l.getD (k + 1) 0 := by rcases ha.2.2 with e | e; omega; exact e
    by_cases e : j = k
    · rw [e]; exact hs
    · have := verbs_asc h k j (by omega) (by omega)
      omega

theorem miss_bit {ts : List Tm} {rs : List Rul} {r : Rul} (h : allOk ts rs r = true) {v : Int} (hvm : v ∈ r.verbs) : (missOf ts rs r).testBit v.toNat = !covV ts rs r v := by
  simp only [allOk, Bool.and_eq_true, List.all_eq_true] at h
  obtain ⟨⟨ht, hr⟩, hrs⟩ := h
  have hv : verbsOk r.verbs = true := by simp only [ruleOk, Bool.and_eq_true] at hr; exact hr.1.1.1
  have hvr := verbs_in hv v hvm
  have hS : setIf r.verbs = setOf r.verbs := by rw [setIf, if_pos hv]
  unfold missOf
  rw [fold_test, hS, setOf_test]
  have h1 : r.verbs.any (fun x => decide (x.toNat = v.toNat)) = true := by rw [List.any_eq_true]; exact ⟨v, hvm, by simp⟩
  rw [h1, Bool.true_and, covV, List.not_any_eq_all_not]
  rw [Bool.eq_iff_iff, List.all_eq_true, List.all_eq_true]
  constructor
  · intro e q hq; rw [← giveN_test ht (hrs q hq) hvr.1 hvr.2]; exact e q hq
  · intro e q hq; rw [giveN_test ht (hrs q hq) hvr.1 hvr.2]; exact e q hq

theorem miss_from {ts : List Tm} {rs : List Rul} {r : Rul} (h : allOk ts rs r = true) {i : Nat} (hb : (missOf ts rs r).testBit i = true) : ∃ x ∈ r.verbs, x.toNat = i := by
  simp only [allOk, Bool.and_eq_true, List.all_eq_true] at h
  have hv : verbsOk r.verbs = true := by have := h.1.2; simp only [ruleOk, Bool.and_eq_true] at this; exact this.1.1.1
  have hS : setIf r.verbs = setOf r.verbs := by rw [setIf, if_pos hv]
  unfold missOf at hb
  rw [fold_test, hS, setOf_test, Bool.and_eq_true, List.any_eq_true] at hb
  obtain ⟨⟨x, hx, hxi⟩, _⟩ := hb
  exact ⟨x, hx, by simpa using hxi⟩

theorem tz_bits : ∀ S : Fin 64, S.val ≠ 0 → (S.val.testBit (Lib.trailingZeros8 S.val) = true ∧ ∀ i : Fin 8, i.val < Lib.trailingZeros8 S.val → S.val.testBit i.val = false) := by decide +kernel

theorem first_verb {ts : List Tm} {rs : List Rul} {r : Rul} (h : allOk ts rs r = true) (hl : lackOf ts rs r r.verbs ≠ 0) : ((Lib.trailingZeros8 (missOf ts rs r) : Nat) : Int) = lackOf ts rs r r.verbs := by
  have hv : verbsOk r.verbs = true := by
    have h' := h
    simp only [allOk, Bool.and_eq_true] at h'
    have := h'.1.2
    simp only [ruleOk, Bool.and_eq_true] at this
    exact this.1.1.1
  obtain ⟨k, h1, h2, h3, h4⟩ := lack_at ts rs r r.verbs hl
  obtain ⟨v, hvv⟩ : ∃ v, v = lackOf ts rs r r.verbs := ⟨_, rfl⟩
  rw [← hvv] at h2 ⊢
  have e : r.verbs.getD k 0 = r.verbs[k] := by simp [h1]
  have hvm : v ∈ r.verbs := by rw [← h2, e]; exact List.getElem_mem h1
  have hvr := verbs_in hv v hvm
  have b1 : (missOf ts rs r).testBit v.toNat = true := by rw [miss_bit h hvm, ← h2, h3]; rfl
  have b2 : ∀ i, i < v.toNat → (missOf ts rs r).testBit i = false := by
    intro i hi
    cases hb : (missOf ts rs r).testBit i with
    | false => rfl
    | true =>
      exfalso
      obtain ⟨x, hx, hxi⟩ := miss_from h hb
      have hxr := verbs_in hv x hx
      obtain ⟨j, hj, hjx⟩ := List.getElem_of_mem hx
      have ej : r.verbs.getD j 0 = x := by simp [hj, hjx]
      have hjk : j < k := by
        by_cases hc : j < k
        · exact hc
        · by_cases hc2 : j = k
          · rw [hc2, h2] at ej; omega
          · have := verbs_asc hv j k (by omega) hj
            rw [h2, ej] at this; omega
      have := h4 j hjk
      rw [ej] at this
      rw [← hxi, miss_bit h hx, this] at hb
      cases hb
  have hm : missOf ts rs r < 64 := by have := missTo_small ts rs r rs.length; rw [missTo_all _ _ _ _ (Nat.le_refl _)] at this; exact this
  have hm0 : missOf ts rs r ≠ 0 := by intro e0; rw [e0, Nat.zero_testBit] at b1; cases b1
  obtain ⟨t1, t2⟩ := tz_bits ⟨missOf ts rs r, hm⟩ hm0
  by_cases hlt : Lib.trailingZeros8 (missOf ts rs r) < v.toNat
  · have := b2 _ hlt
    rw [this] at t1; cases t1
  · by_cases hgt : v.toNat < Lib.trailingZeros8 (missOf ts rs r)
    · have := t2 ⟨v.toNat, by omega⟩ hgt
      rw [b1] at this; cases this
    · omega

end Go.Proofs.YtfmidkdpclfffaaDoor
