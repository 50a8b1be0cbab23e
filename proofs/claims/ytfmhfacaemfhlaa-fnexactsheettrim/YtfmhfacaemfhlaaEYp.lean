/-
  Sheets that are valid: blocks and lines ascend; the place of a block: plain.
-/
import Derived.Test.YtfmhfacaemfhlaaEPj
import Derived.Test.YtfmhfacaemfhlaaEPt
import Derived.Test.YtfmhfacaemfhlaaEPg
namespace Go.Proofs.Ytfmhfacaemfhlaa
open Go.RowKit Go.Deep

/-- An order, and the comparison that tells it. -/
structure Tot {α : Type} (lt : α → α → Bool) (cmp : α → α → Int) : Prop where
  neg : ∀ a b, cmp a b < 0 ↔ lt a b = true
  tr : ∀ a b c, lt a b = true → lt b c = true → lt a c = true
  tri : ∀ a b, lt a b = false → cmp a b ≠ 0 → lt b a = true
  eqr : ∀ a b c, cmp b c = 0 → lt a b = true → lt a c = true
/-- How many are ahead of it. -/
def plOf {α : Type} (lt : α → α → Bool) (l : List α) (t : α) : Nat := (l.takeWhile (fun y => lt y t)).length
theorem pl_le {α : Type} (lt : α → α → Bool) (l : List α) (t : α) : plOf lt l t ≤ l.length := by
  unfold plOf
  have := (List.takeWhile_prefix (l := l) (fun y => lt y t)).length_le
  exact this
theorem tw_true {α : Type} (d : α) (p : α → Bool) : ∀ (l : List α) (i : Nat), i < (l.takeWhile p).length → p (l.getD i d) = true
  | [], i, h => by simp at h
  | y :: l, i, h => by
    rw [List.takeWhile_cons] at h
    split at h
    · rename_i hy
      cases i with
      | zero => exact hy
      | succ i =>
        rw [List.length_cons] at h
        have := tw_true d p l i (by omega)
        simpa using this
    · simp at h
theorem tw_false {α : Type} (d : α) (p : α → Bool) : ∀ (l : List α), (l.takeWhile p).length < l.length → p (l.getD (l.takeWhile p).length d) = false
  | [], h => by simp at h
  | y :: l, h => by
    rw [List.takeWhile_cons] at h ⊢
    split
    · rename_i hy
      rw [if_pos hy] at h
      have := tw_false d p l (by simpa using h)
      simpa using this
    · rename_i hy
      simpa using hy
theorem pw_at {α : Type} {R : α → α → Prop} {l : List α} (d : α) (h : l.Pairwise R) {i j : Nat} (hij : i < j) (hj : j < l.length) : R (l.getD i d) (l.getD j d) := by
  have hi : i < l.length := by omega
  have e1 : l.getD i d = l[i] := by simp [hi]
  have e2 : l.getD j d = l[j] := by simp [hj]
  rw [e1, e2]
  exact List.pairwise_iff_getElem.1 h i j hi hj hij
theorem pl_head {α : Type} {lt : α → α → Bool} {cmp : α → α → Int} (T : Tot lt cmp) (d : α) (l : List α) (t : α) : ∀ i, i < plOf lt l t → cmp (l.getD i d) t < 0 := fun i hi => (T.neg _ _).2 (tw_true d (fun y => lt y t) l i hi)
theorem pl_tail {α : Type} {lt : α → α → Bool} {cmp : α → α → Int} (T : Tot lt cmp) (d : α) {l : List α} (h : l.Pairwise fun a b => lt a b = true) (t : α) : ∀ i, plOf lt l t ≤ i → i < l.length → 0 ≤ cmp (l.getD i d) t := fun i hi hl => by
  have hf := tw_false d (fun y => lt y t) l (Nat.lt_of_le_of_lt hi hl)
  by_cases e : cmp (l.getD i d) t < 0
  · have h1 := (T.neg _ _).1 e
    exfalso
    by_cases q : plOf lt l t = i
    · subst q
      unfold plOf at h1
      rw [hf] at h1; cases h1
    · have h2 := pw_at d h (i := plOf lt l t) (j := i) (by omega) hl
      have h3 := T.tr _ _ _ h2 h1
      unfold plOf at h3
      rw [hf] at h3; cases h3
  · omega
theorem pl_found {α : Type} {lt : α → α → Bool} {cmp : α → α → Int} (T : Tot lt cmp) (d : α) {l : List α} (h : l.Pairwise fun a b => lt a b = true) (t : α) : (∃ y ∈ l, cmp y t = 0) ↔ (plOf lt l t < l.length ∧ cmp (l.getD (plOf lt l t) d) t = 0) := by
  constructor
  · rintro ⟨y, hy, e⟩
    obtain ⟨i, hi, rfl⟩ := List.getElem_of_mem hy
    have eg : l.getD i d = l[i] := by simp [hi]
    have h1 : plOf lt l t ≤ i := by
      refine Nat.le_of_not_lt fun q => ?_
      have := pl_head T d l t i q
      rw [eg, e] at this; omega
    have h2 : i = plOf lt l t := by
      refine Nat.le_antisymm (Nat.le_of_not_lt fun q => ?_) h1
      have h3 := pw_at d h q hi
      rw [eg] at h3
      have h4 := T.eqr _ _ _ e h3
      have hf := tw_false d (fun y => lt y t) l (by show plOf lt l t < _; omega)
      unfold plOf at h4
      rw [hf] at h4; cases h4
    rw [← h2]
    exact ⟨hi, by rw [eg]; exact e⟩
  · rintro ⟨h1, h2⟩
    have eg : l.getD (plOf lt l t) d = l[plOf lt l t] := by simp [h1]
    exact ⟨_, List.getElem_mem h1, by rw [← eg]; exact h2⟩
theorem put_split {α : Type} (lt : α → α → Bool) (l : List α) (t : α) : Pl.putAt (fun y => lt y t) l t = l.take (plOf lt l t) ++ t :: l.drop (plOf lt l t) := by
  have e := List.takeWhile_append_dropWhile (p := fun y => lt y t) (l := l)
  have h1 : l.take (plOf lt l t) = l.takeWhile (fun y => lt y t) := by
    have q := List.take_left (l₁ := l.takeWhile (fun y => lt y t)) (l₂ := l.dropWhile (fun y => lt y t))
    rw [e] at q; exact q
  have h2 : l.drop (plOf lt l t) = l.dropWhile (fun y => lt y t) := by
    have q := List.drop_left (l₁ := l.takeWhile (fun y => lt y t)) (l₂ := l.dropWhile (fun y => lt y t))
    rw [e] at q; exact q
  rw [h1, h2]; rfl
theorem pl_pair {α : Type} {lt : α → α → Bool} {cmp : α → α → Int} (T : Tot lt cmp) (d : α) {l : List α} (h : l.Pairwise fun a b => lt a b = true) (t : α) (hn : ¬ (plOf lt l t < l.length ∧ cmp (l.getD (plOf lt l t) d) t = 0)) : (l.take (plOf lt l t) ++ t :: l.drop (plOf lt l t)).Pairwise fun a b => lt a b = true := by
  have hnf : ∀ y ∈ l, cmp y t ≠ 0 := fun y hy e => hn ((pl_found T d h t).1 ⟨y, hy, e⟩)
  rw [List.pairwise_append]
  refine ⟨h.sublist (List.take_sublist _ _), ?_, fun a ha b hb => ?_⟩
  · rw [List.pairwise_cons]
    refine ⟨fun b hb => ?_, h.sublist (List.drop_sublist _ _)⟩
    obtain ⟨i, hi, rfl⟩ := List.getElem_of_mem hb
    rw [List.length_drop] at hi
    have hl : plOf lt l t + i < l.length := by omega
    rw [List.getElem_drop]
    have h1 := pl_tail T d h t (plOf lt l t + i) (Nat.le_add_right _ _) hl
    have eg : l.getD (plOf lt l t + i) d = l[plOf lt l t + i] := by simp [hl]
    rw [eg] at h1
    refine T.tri _ _ ?_ (hnf _ (List.getElem_mem hl))
    cases hq : lt l[plOf lt l t + i] t
    · rfl
    · have := (T.neg _ _).2 hq; omega
  · obtain ⟨i, hi, rfl⟩ := List.getElem_of_mem ha
    rw [List.length_take] at hi
    have hl : i < l.length := by omega
    rw [List.getElem_take]
    have h1 := (T.neg _ _).1 (pl_head T d l t i (by omega))
    have eg : l.getD i d = l[i] := by simp [hl]
    rw [eg] at h1
    rcases List.mem_cons.1 hb with rfl | q
    · exact h1
    · obtain ⟨j, hj, rfl⟩ := List.getElem_of_mem q
      rw [List.length_drop] at hj
      rw [List.getElem_drop]
      exact List.pairwise_iff_getElem.1 h i (plOf lt l t + j) hl (by omega) (by omega)

theorem bl_trans : ∀ a b c : List UInt8, Op.bytesLess a b = true → Op.bytesLess b c = true → Op.bytesLess a c = true
  | _, _, [], _, h => by unfold Op.bytesLess at h; cases h
  | _, [], _ :: _, h, _ => by unfold Op.bytesLess at h; cases h
  | [], _ :: _, _ :: _, _, _ => by unfold Op.bytesLess; rfl
  | x :: a, y :: b, z :: c, h1, h2 => by
    unfold Op.bytesLess at h1 h2 ⊢
    simp only [Bool.or_eq_true, Bool.and_eq_true, decide_eq_true_iff, beq_iff_eq] at h1 h2 ⊢
    rcases h1 with h1 | ⟨e1, h1⟩
    · rcases h2 with h2 | ⟨e2, _⟩
      · exact Or.inl (UInt8.lt_trans h1 h2)
      · exact Or.inl (e2 ▸ h1)
    · rcases h2 with h2 | ⟨e2, h2⟩
      · exact Or.inl (e1 ▸ h2)
      · exact Or.inr ⟨e1.trans e2, bl_trans a b c h1 h2⟩
theorem bl_tri : ∀ a b : List UInt8, Op.bytesLess a b = false → (a == b) = false → Op.bytesLess b a = true
  | [], [], _, h => by simp at h
  | [], _ :: _, h, _ => by unfold Op.bytesLess at h; cases h
  | _ :: _, [], _, _ => by unfold Op.bytesLess; rfl
  | x :: a, y :: b, h1, h2 => by
    unfold Op.bytesLess at h1 ⊢
    simp only [Bool.or_eq_false_iff, Bool.and_eq_false_iff, decide_eq_false_iff_not, Bool.or_eq_true, Bool.and_eq_true, decide_eq_true_iff, beq_iff_eq] at h1 ⊢
    by_cases e : x = y
    · subst e
      refine Or.inr ⟨rfl, bl_tri a b ?_ ?_⟩
      · rcases h1.2 with q | q
        · simp at q
        · exact q
      · rw [beq_eq_false_iff_ne] at h2 ⊢
        exact fun q => h2 (by rw [q])
    · refine Or.inl ?_
      have h3 := h1.1
      rw [UInt8.lt_iff_toNat_lt] at h3 ⊢
      have : x.toNat ≠ y.toNat := fun q => e (UInt8.toNat_inj.1 q)
      omega
theorem totKey : Tot Pl.txLt keyCmp where
  neg := keyCmp_neg
  tr := fun a b c => bl_trans _ _ _
  tri := fun a b h hc => bl_tri _ _ h (by
    cases q : (a.toList == b.toList)
    · rfl
    · exact absurd ((keyCmp_zero a b).2 q) hc)
  eqr := fun a b c h hl => by rw [← tx_eq ((keyCmp_zero b c).1 h)]; exact hl
/-- First by one, then by the other. -/
theorem Tot.lex {α β γ : Type} {lt1 : β → β → Bool} {c1 : β → β → Int} {lt2 : γ → γ → Bool} {c2 : γ → γ → Int} (f : α → β) (g : α → γ) (T1 : Tot lt1 c1) (T2 : Tot lt2 c2) (i1 : ∀ a b c, c1 a b = 0 → lt1 b c = true → lt1 a c = true) (s1 : ∀ a b, c1 a b = 0 → c1 b a = 0) (t1 : ∀ a b c, c1 a b = 0 → c1 b c = 0 → c1 a c = 0)
    (lt : α → α → Bool) (cmp : α → α → Int) (hc : ∀ a b, cmp a b = pick2 (c1 (f a) (f b)) (c2 (g a) (g b))) (hn : ∀ a b, cmp a b < 0 ↔ lt a b = true) : Tot lt cmp := by
  have key : ∀ a b, lt a b = true ↔ (lt1 (f a) (f b) = true ∨ (c1 (f a) (f b) = 0 ∧ lt2 (g a) (g b) = true)) := fun a b => by
    rw [← hn, hc]
    unfold pick2
    by_cases h : c1 (f a) (f b) = 0
    · rw [if_pos h]
      have h0 : ¬ lt1 (f a) (f b) = true := fun q => by have := (T1.neg _ _).2 q; omega
      constructor
      · exact fun q => Or.inr ⟨h, (T2.neg _ _).1 q⟩
      · rintro (q | ⟨_, q⟩)
        · exact absurd q h0
        · exact (T2.neg _ _).2 q
    · rw [if_neg h]
      constructor
      · exact fun q => Or.inl ((T1.neg _ _).1 q)
      · rintro (q | ⟨q, _⟩)
        · exact (T1.neg _ _).2 q
        · exact absurd q h
  have zero : ∀ a b, cmp a b = 0 ↔ (c1 (f a) (f b) = 0 ∧ c2 (g a) (g b) = 0) := fun a b => by
    rw [hc]; unfold pick2
    by_cases h : c1 (f a) (f b) = 0
    · rw [if_pos h]; simp [h]
    · rw [if_neg h]; simp [h]
  refine ⟨hn, fun a b c h1 h2 => ?_, fun a b h1 h2 => ?_, fun a b c h1 h2 => ?_⟩
  · rw [key] at h1 h2 ⊢
    rcases h1 with h1 | ⟨e1, h1⟩
    · rcases h2 with h2 | ⟨e2, _⟩
      · exact Or.inl (T1.tr _ _ _ h1 h2)
      · exact Or.inl (T1.eqr _ _ _ e2 h1)
    · rcases h2 with h2 | ⟨e2, h2⟩
      · exact Or.inl (i1 _ _ _ e1 h2)
      · exact Or.inr ⟨t1 _ _ _ e1 e2, T2.tr _ _ _ h1 h2⟩
  · rw [key]
    have hnk : ¬ (lt1 (f a) (f b) = true ∨ (c1 (f a) (f b) = 0 ∧ lt2 (g a) (g b) = true)) := fun q => by rw [(key a b).2 q] at h1; cases h1
    by_cases e : c1 (f a) (f b) = 0
    · refine Or.inr ⟨s1 _ _ e, T2.tri _ _ ?_ (fun q => h2 ((zero a b).2 ⟨e, q⟩))⟩
      cases q : lt2 (g a) (g b)
      · rfl
      · exact absurd (Or.inr ⟨e, q⟩) hnk
    · refine Or.inl (T1.tri _ _ ?_ e)
      cases q : lt1 (f a) (f b)
      · rfl
      · exact absurd (Or.inl q) hnk
  · obtain ⟨e1, e2⟩ := (zero b c).1 h1
    rw [key] at h2 ⊢
    rcases h2 with h2 | ⟨q1, q2⟩
    · exact Or.inl (T1.eqr _ _ _ e1 h2)
    · exact Or.inr ⟨t1 _ _ _ q1 e1, T2.eqr _ _ _ e2 q2⟩
theorem key_sym {a b : ByteArray} (h : keyCmp a b = 0) : keyCmp b a = 0 := by
  have := tx_eq ((keyCmp_zero a b).1 h)
  subst this; exact h
theorem key_tr {a b c : ByteArray} (h : keyCmp a b = 0) (k : keyCmp b c = 0) : keyCmp a c = 0 := by
  have := tx_eq ((keyCmp_zero a b).1 h)
  subst this; exact k
theorem totBl : Tot Pl.ahead cmpBl :=
  Tot.lex Pl.Bl.kind Pl.Bl.name totKey totKey (fun a b c h k => by rw [tx_eq ((keyCmp_zero a b).1 h)]; exact k) (fun _ _ => key_sym) (fun _ _ _ => key_tr) _ _ (fun _ _ => rfl) (fun a b => by rw [← cmpBl_neg, decide_eq_true_iff])
theorem cmpW_zero : ∀ A B : List ByteArray, cmpW A B = 0 ↔ A = B
  | [], [] => by unfold cmpW; simp
  | [], _ :: _ => by unfold cmpW; simp
  | _ :: _, [] => by unfold cmpW; simp
  | a :: x, b :: y => by
    unfold cmpW
    by_cases h : keyCmp a b = 0
    · have e := tx_eq ((keyCmp_zero a b).1 h)
      subst e
      rw [if_pos h, cmpW_zero x y]; simp
    · rw [if_neg h]
      constructor
      · exact fun q => absurd q h
      · intro q
        injection q with q1 _
        subst q1
        exact absurd ((keyCmp_zero a a).2 (by unfold Pl.txEq; simp)) h
theorem lessW_tr : ∀ A B C : List ByteArray, cmpW A B < 0 → cmpW B C < 0 → cmpW A C < 0
  | _, [], [], _, h => by unfold cmpW at h; omega
  | [], _, _ :: _, _, _ => by unfold cmpW; omega
  | _ :: _, [], _, h, _ => by unfold cmpW at h; omega
  | [], _ :: _, [], _, h => by unfold cmpW at h; omega
  | _ :: _, _ :: _, [], _, h => by unfold cmpW at h; omega
  | a :: x, b :: y, c :: z, h1, h2 => by
    unfold cmpW at h1 h2 ⊢
    by_cases e1 : keyCmp a b = 0
    · have q1 := tx_eq ((keyCmp_zero a b).1 e1)
      subst q1
      rw [if_pos e1] at h1
      by_cases e2 : keyCmp a c = 0
      · rw [if_pos e2] at h2 ⊢
        exact lessW_tr x y z h1 h2
      · rw [if_neg e2] at h2 ⊢
        exact h2
    · rw [if_neg e1] at h1
      by_cases e2 : keyCmp b c = 0
      · have q2 := tx_eq ((keyCmp_zero b c).1 e2)
        subst q2
        rw [if_neg e1]; exact h1
      · rw [if_neg e2] at h2
        have h3 := totKey.tr a b c ((totKey.neg _ _).1 h1) ((totKey.neg _ _).1 h2)
        have h4 := (totKey.neg _ _).2 h3
        rw [if_neg (by omega)]; exact h4
theorem lessW_tri : ∀ A B : List ByteArray, ¬ cmpW A B < 0 → cmpW A B ≠ 0 → cmpW B A < 0
  | [], [], _, h => by unfold cmpW at h; omega
  | [], _ :: _, h, _ => by unfold cmpW at h; omega
  | _ :: _, [], _, _ => by unfold cmpW; omega
  | a :: x, b :: y, h1, h2 => by
    unfold cmpW at h1 h2 ⊢
    by_cases e1 : keyCmp a b = 0
    · rw [if_pos e1] at h1 h2
      rw [if_pos (key_sym e1)]
      exact lessW_tri x y h1 h2
    · rw [if_neg e1] at h1 h2
      have h3 : Pl.txLt a b = false := by
        cases q : Pl.txLt a b
        · rfl
        · exact absurd ((totKey.neg _ _).2 q) h1
      have h4 := (totKey.neg _ _).2 (totKey.tri a b h3 e1)
      rw [if_neg (by omega)]; exact h4
theorem totW : Tot Pl.lessW cmpW where
  neg := cmpW_neg
  tr := fun a b c h k => (cmpW_neg _ _).1 (lessW_tr a b c ((cmpW_neg _ _).2 h) ((cmpW_neg _ _).2 k))
  tri := fun a b h k => (cmpW_neg _ _).1 (lessW_tri a b (fun q => by rw [(cmpW_neg _ _).1 q] at h; cases h) k)
  eqr := fun a b c h k => by rw [← (cmpW_zero b c).1 h]; exact k
theorem totNum : Tot (fun a b : Int => decide (a < b)) numCmp where
  neg := fun a b => by rw [numCmp_neg, decide_eq_true_iff]
  tr := fun a b c h k => by rw [decide_eq_true_iff] at h k ⊢; omega
  tri := fun a b h k => by
    rw [decide_eq_false_iff_not] at h
    rw [decide_eq_true_iff]
    have : a ≠ b := fun e => k ((numCmp_zero a b).2 e)
    omega
  eqr := fun a b c h k => by rw [← (numCmp_zero b c).1 h]; exact k
theorem totLn (kind : ByteArray) : Tot (Pl.lineLess kind) (cmpLn (Pl.rulesOf kind)) :=
  Tot.lex (fun x : Pl.Ln => Pl.ixI (Pl.ruIx (Pl.rulesOf kind) x.key)) Pl.Ln.ws totNum totW (fun a b c h k => by rw [(numCmp_zero a b).1 h]; exact k) (fun a b h => by rw [(numCmp_zero a b).1 h]; exact (numCmp_zero b b).2 rfl) (fun a b c h k => by rw [(numCmp_zero a b).1 h]; exact k) _ _ (fun _ _ => rfl) (fun a b => by rw [← cmpLn_neg, decide_eq_true_iff])

end Go.Proofs.Ytfmhfacaemfhlaa

namespace Go.Proofs.Ytfmhfacaemfhlaa
open Go.RowKit Go.Deep

theorem chain_pair {α : Type} (R : α → α → Prop) (tr : ∀ a b c, R a b → R b c → R a c) (l : List α) (d : α) (h : ∀ i, 0 < i → i < l.length → R (l.getD (i - 1) d) (l.getD i d)) : l.Pairwise R := by
  rw [List.pairwise_iff_getElem]
  have key : ∀ (m i : Nat) (hi : i + m + 1 < l.length), R (l[i]'(by omega)) (l[i + m + 1]'hi) := by
    intro m
    induction m with
    | zero =>
      intro i hi
      have := h (i + 1) (by omega) (by omega)
      have e1 : l.getD i d = l[i]'(by omega) := by simp [show i < l.length by omega]
      have e2 : l.getD (i + 1) d = l[i + 1]'(by omega) := by simp [show i + 1 < l.length by omega]
      rw [Nat.add_sub_cancel, e1, e2] at this
      exact this
    | succ m ih =>
      intro i hi
      have h1 := ih i (by omega)
      have h2 := h (i + m + 2) (by omega) (by omega)
      have e1 : l.getD (i + m + 2 - 1) d = l[i + m + 1]'(by omega) := by simp [show i + m + 1 < l.length by omega]
      have e2 : l.getD (i + m + 2) d = l[i + m + 2]'(by omega) := by simp [show i + m + 2 < l.length by omega]
      rw [e1, e2] at h2
      exact tr _ _ _ h1 h2
  intro i j hi hj hij
  obtain ⟨m, rfl⟩ : ∃ m, j = i + m + 1 := ⟨j - i - 1, by omega⟩
  exact key m i hj
theorem valid_at {s : List Pl.Bl} (h : Pl.validS s = true) {i : Nat} (hi : i < s.length) : Pl.blockOkAt s i = true := by
  unfold Pl.validS at h
  rw [Bool.and_eq_true, List.all_eq_true] at h
  exact h.2 i (List.mem_range.2 hi)
theorem valid_le {s : List Pl.Bl} (h : Pl.validS s = true) : s.length ≤ 60 := by
  unfold Pl.validS at h
  rw [Bool.and_eq_true, decide_eq_true_iff] at h
  exact h.1
theorem valid_pair {s : List Pl.Bl} (h : Pl.validS s = true) : s.Pairwise fun a b => Pl.ahead a b = true := by
  refine chain_pair _ totBl.tr s Pl.blNo fun i h0 hi => ?_
  have := valid_at h hi
  unfold Pl.blockOkAt at this
  rw [Bool.and_eq_true, Bool.or_eq_true] at this
  rcases this.2 with q | q
  · rw [decide_eq_true_iff] at q; omega
  · exact q
theorem valid_lines {s : List Pl.Bl} (h : Pl.validS s = true) : ∀ b ∈ s, Pl.linesOk b.kind b.lines = true := fun b hb => by
  obtain ⟨i, hi, rfl⟩ := List.getElem_of_mem hb
  have := valid_at h hi
  have e : s.getD i Pl.blNo = s[i] := by simp [hi]
  unfold Pl.blockOkAt at this
  rw [e, Bool.and_eq_true, Bool.and_eq_true] at this
  exact this.1.2
theorem lines_at {kind : ByteArray} {l : List Pl.Ln} (h : Pl.linesOk kind l = true) {i : Nat} (hi : i < l.length) : Pl.lineOkAt kind l i = true := by
  unfold Pl.linesOk at h
  rw [List.all_eq_true] at h
  exact h i (List.mem_range.2 hi)
theorem lines_pair {kind : ByteArray} {l : List Pl.Ln} (h : Pl.linesOk kind l = true) : l.Pairwise fun a b => Pl.lineLess kind a b = true := by
  refine chain_pair _ (totLn kind).tr l Pl.lnNo fun i h0 hi => ?_
  have := lines_at h hi
  unfold Pl.lineOkAt at this
  rw [Bool.and_eq_true, Bool.and_eq_true, Bool.or_eq_true] at this
  rcases this.1.2 with q | q
  · rw [decide_eq_true_iff] at q; omega
  · exact q
theorem lines_fit {kind : ByteArray} {l : List Pl.Ln} (h : Pl.linesOk kind l = true) : ∀ x ∈ l, Pl.sheetFits kind x.key x.ws = true := fun x hx => by
  obtain ⟨i, hi, rfl⟩ := List.getElem_of_mem hx
  have := lines_at h hi
  have e : l.getD i Pl.lnNo = l[i] := by simp [hi]
  unfold Pl.lineOkAt at this
  rw [e, Bool.and_eq_true, Bool.and_eq_true] at this
  exact this.1.1
theorem cmpBl_isB (b : Pl.Bl) (kind name : ByteArray) : cmpBl b ⟨kind, name, []⟩ = 0 ↔ Pl.isB kind name b = true := by
  unfold cmpBl pick2 Pl.isB
  rw [Bool.and_eq_true]
  show _ ↔ Pl.txEq b.kind kind = true ∧ Pl.txEq b.name name = true
  rw [← keyCmp_zero, ← keyCmp_zero]
  split
  · rename_i h; simp [h]
  · rename_i h
    constructor
    · exact fun q => absurd q h
    · exact fun q => absurd q.1 h
theorem findF_at {kind name : ByteArray} : ∀ (l : List Pl.Bl) (j q : Nat) (hq : q < l.length), Pl.isB kind name l[q] = true → (∀ i (hi : i < q), Pl.isB kind name (l[i]'(by omega)) = false) → Pl.findF kind name l j = some (j + q)
  | b :: l, j, 0, _, h, _ => by rw [Pl.findF]; rw [List.getElem_cons_zero] at h; rw [if_pos h]; rfl
  | b :: l, j, q + 1, hq, h, hb => by
    have h0 := hb 0 (by omega)
    rw [List.getElem_cons_zero] at h0
    rw [Pl.findF, h0]
    rw [List.getElem_cons_succ] at h
    have := findF_at l (j + 1) q (by simpa using hq) h (fun i hi => by have := hb (i + 1) (by omega); rw [List.getElem_cons_succ] at this; exact this)
    simp only [Bool.false_eq_true, if_false]
    rw [this]; congr 1; omega
theorem findF_no {kind name : ByteArray} : ∀ (l : List Pl.Bl) (j : Nat), (∀ b ∈ l, Pl.isB kind name b = false) → Pl.findF kind name l j = none
  | [], _, _ => by rw [Pl.findF]
  | b :: l, j, h => by
    rw [Pl.findF, h b (by simp), findF_no l (j + 1) (fun b hb => h b (by simp [hb]))]; rfl
/-- What the program looks for is what the specification finds. -/
theorem find_pl {s : List Pl.Bl} (h : s.Pairwise fun a b => Pl.ahead a b = true) (kind name : ByteArray) : Pl.findB s kind name = if (decide (plOf Pl.ahead s ⟨kind, name, []⟩ < s.length) && decide (cmpBl (s.getD (plOf Pl.ahead s ⟨kind, name, []⟩) Pl.blNo) ⟨kind, name, []⟩ = 0)) = true then some (plOf Pl.ahead s ⟨kind, name, []⟩) else none := by
  obtain ⟨q, hq⟩ : ∃ q, q = plOf Pl.ahead s ⟨kind, name, []⟩ := ⟨_, rfl⟩
  have hf := pl_found totBl Pl.blNo h ⟨kind, name, []⟩
  have hh := pl_head totBl Pl.blNo s ⟨kind, name, []⟩
  rw [← hq] at hf hh ⊢
  by_cases c : q < s.length ∧ cmpBl (s.getD q Pl.blNo) ⟨kind, name, []⟩ = 0
  · rw [if_pos (by rw [Bool.and_eq_true, decide_eq_true_iff, decide_eq_true_iff]; exact c)]
    have e : s.getD q Pl.blNo = s[q]'c.1 := by simp [c.1]
    have := findF_at (kind := kind) (name := name) s 0 q c.1 ((cmpBl_isB _ _ _).1 (by rw [← e]; exact c.2)) (fun i hi => by
      have e2 : s.getD i Pl.blNo = s[i]'(by omega) := by simp [show i < s.length by omega]
      have h3 := hh i hi
      rw [e2] at h3
      cases hb : Pl.isB kind name (s[i]'(by omega))
      · rfl
      · have := (cmpBl_isB _ _ _).2 hb; omega)
    rw [Nat.zero_add] at this
    exact this
  · rw [if_neg (by rw [Bool.and_eq_true, decide_eq_true_iff, decide_eq_true_iff]; exact c)]
    refine findF_no s 0 fun b hb => ?_
    cases hb2 : Pl.isB kind name b
    · rfl
    · exact absurd (hf.1 ⟨b, hb, (cmpBl_isB _ _ _).2 hb2⟩) c

end Go.Proofs.Ytfmhfacaemfhlaa
