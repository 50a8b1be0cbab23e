/-
  The reader of sheets: what lies in memory between blocks and within one.
-/
import Derived.Test.YtdllbcafbfkngaaGreatDoorEPx
import Derived.Test.YtdllbcafbfkngaaGreatDoorEXc
import Derived.Test.YtdllbcafbfkngaaGreatDoorEXb
namespace Go.Proofs.YtdllbcafbfkngaaGreatDoor
open Go.RowKit Go.Deep

/-- An order, and the comparison that tells it. -/
structure Tot {α : Type} (lt : α → α → Bool) (cmp : α → α → Int) : Prop where
  neg : ∀ a b, cmp a b < 0 ↔ lt a b = true
  tr : ∀ a b c, lt a b = true → lt b c = true → lt a c = true
  tri : ∀ a b, lt a b = false → cmp a b ≠ 0 → lt b a = true
  eqr : ∀ a b c, cmp b c = 0 → lt a b = true → lt a c = true
/-- How many are ahead of it. -/
def plOf {α : Type} (lt : α → α → Bool) (l : List α) (t : α) : Nat := (l.takeWhile (fun y => lt y t)).length
theorem pl_le {α : Type} (lt : α → α → Bool) (l : List α) (t : α) : plOf lt l t ≤ l.length := by
  unfold plOf
  have := (List.takeWhile_prefix (l := l) (fun y => lt y t)).length_le
  exact this
theorem tw_true {α : Type} (d : α) (p : α → Bool) : ∀ (l : List α) (i : Nat), i < (l.takeWhile p).length → p (l.getD i d) = true
  | [], i, h => by simp at h
  | y :: l, i, h => by
    rw [List.takeWhile_cons] at h
    split at h
    · rename_i hy
      cases i with
      | zero => exact hy
      | succ i =>
        rw [List.length_cons] at h
        have := tw_true d p l i (by omega)
        simpa using this
    · simp at h
theorem tw_false {α : Type} (d : α) (p : α → Bool) : ∀ (l : List α), (l.takeWhile p).length < l.length → p (l.getD (l.takeWhile p).length d) = false
  | [], h => by simp at h
  | y :: l, h => by
    rw [List.takeWhile_cons] at h ⊢
    split
    · rename_i hy
      rw [if_pos hy] at h
      have := tw_false d p l (by simpa using h)
      simpa using this
    · rename_i hy
      simpa using hy
theorem pw_at {α : Type} {R : α → α → Prop} {l : List α} (d : α) (h : l.Pairwise R) {i j : Nat} (hij : i < j) (hj : j < l.length) : R (l.getD i d) (l.getD j d) := by
  have hi : i < l.length := by omega
  have e1 : l.getD i d = l[i] := by simp [hi]
  have e2 : l.getD j d = l[j] := by simp [hj]
  rw [e1, e2]
  exact List.pairwise_iff_getElem.1 h i j hi hj hij
theorem pl_head {α : Type} {lt : α → α → Bool} {cmp : α → α → Int} (T : Tot lt cmp) (d : α) (l : List α) (t : α) : ∀ i, i < plOf lt l t → cmp (l.getD i d) t < 0 := fun i hi => (T.neg _ _).2 (tw_true d (fun y => lt y t) l i hi)
theorem pl_tail {α : Type} {lt : α → α → Bool} {cmp : α → α → Int} (T : Tot lt cmp) (d : α) {l : List α} (h : l.Pairwise fun a b => lt a b = true) (t : α) : ∀ i, plOf lt l t ≤ i → i < l.length → 0 ≤ cmp (l.getD i d) t := fun i hi hl => by
  have hf := tw_false d (fun y => lt y t) l (Nat.lt_of_le_of_lt hi hl)
  by_cases e : cmp (l.getD i d) t < 0
  · have h1 := (T.neg _ _).1 e
    exfalso
    by_cases q : plOf lt l t = i
    · subst q
      unfold plOf at h1
      rw [hf] at h1; cases h1
    · have h2 := pw_at d h (i := plOf lt l t) (j := i) (by omega) hl
      have h3 := T.tr _ _ _ h2 h1
      unfold plOf at h3
      rw [hf] at h3; cases h3
  · omega
theorem pl_found {α : Type} {lt : α → α → Bool} {cmp : α → α → Int} (T : Tot lt cmp) (d : α) {l : List α} (h : l.Pairwise fun a b => lt a b = true) (t : α) : (∃ y ∈ l, cmp y t = 0) ↔ (plOf lt l t < l.length ∧ cmp (l.getD (plOf lt l t) d) t = 0) := by
  constructor
  · rintro ⟨y, hy, e⟩
    obtain ⟨i, hi, rfl⟩ := List.getElem_of_mem hy
    have eg : l.getD i d = l[i] := by simp [hi]
    have h1 : plOf lt l t ≤ i := by
      refine Nat.le_of_not_lt fun q => ?_
      have := pl_head T d l t i q
      rw [eg, e] at this; omega
    have h2 : i = plOf lt l t := by
      refine Nat.le_antisymm (Nat.le_of_not_lt fun q => ?_) h1
      have h3 := pw_at d h q hi
      rw [eg] at h3
      have h4 := T.eqr _ _ _ e h3
      have hf := tw_false d (fun y => lt y t) l (by show plOf lt l t < _; omega)
      unfold plOf at h4
      rw [hf] at h4; cases h4
    rw [← h2]
    exact ⟨hi, by rw [eg]; exact e⟩
  · rintro ⟨h1, h2⟩
    have eg : l.getD (plOf lt l t) d = l[plOf lt l t] := by simp [h1]
    exact ⟨_, List.getElem_mem h1, by rw [← eg]; exact h2⟩
theorem put_split {α : Type} (lt : α → α → Bool) (l : List α) (t : α) : Pl.putAt (fun y => lt y t) l t = l.take (plOf lt l t) ++ t :: l.drop (plOf lt l t) := by
  have e := List.takeWhile_append_dropWhile (p := fun y => lt y t) (l := l)
  have h1 : l.take (plOf lt l t) = l.takeWhile (fun y => lt y t) := by
    have q := List.take_left (l₁ := l.takeWhile (fun y => lt y t)) (l₂ := l.dropWhile (fun y => lt y t))
    rw [e] at q; exact q
  have h2 : l.drop (plOf lt l t) = l.dropWhile (fun y => lt y t) := by
    have q := List.drop_left (l₁ := l.takeWhile (fun y => lt y t)) (l₂ := l.dropWhile (fun y => lt y t))
    rw [e] at q; exact q
  rw [h1, h2]; rfl
theorem pl_pair {α : Type} {lt : α → α → Bool} {cmp : α → α → Int} (T : Tot lt cmp) (d : α) {l : List α} (h : l.Pairwise fun a b => lt a b = true) (t : α) (hn : ¬ (plOf lt l t < l.length ∧ cmp (l.getD (plOf lt l t) d) t = 0)) : (l.take (plOf lt l t) ++ t :: l.drop (plOf lt l t)).Pairwise fun a b => lt a b = true := by
  have hnf : ∀ y ∈ l, cmp y t ≠ 0 := fun y hy e => hn ((pl_found T d h t).1 ⟨y, hy, e⟩)
  rw [List.pairwise_append]
  refine ⟨h.sublist (List.take_sublist _ _), ?_, fun a ha b hb => ?_⟩
  · rw [List.pairwise_cons]
    refine ⟨fun b hb => ?_, h.sublist (List.drop_sublist _ _)⟩
    obtain ⟨i, hi, rfl⟩ := List.getElem_of_mem hb
    rw [List.length_drop] at hi
    have hl : plOf lt l t + i < l.length := by omega
    rw [List.getElem_drop]
    have h1 := pl_tail T d h t (plOf lt l t + i) (Nat.le_add_right _ _) hl
    have eg : l.getD (plOf lt l t + i) d = l[plOf lt l t + i] := by simp [hl]
    rw [eg] at h1
    refine T.tri _ _ ?_ (hnf _ (List.getElem_mem hl))
    cases hq : lt l[plOf lt l t + i] t
    · rfl
    · have := (T.neg _ _).2 hq; omega
  · obtain ⟨i, hi, rfl⟩ := List.getElem_of_mem ha
    rw [List.length_take] at hi
    have hl : i < l.length := by omega
    rw [List.getElem_take]
    have h1 := (T.neg _ _).1 (pl_head T d l t i (by omega))
    have eg : l.getD i d = l[i] := by simp [hl]
    rw [eg] at h1
    rcases List.mem_cons.1 hb with rfl | q
    · exact h1
    · obtain ⟨j, hj, rfl⟩ := List.getElem_of_mem q
      rw [List.length_drop] at hj
      rw [List.getElem_drop]
      exact List.pairwise_iff_getElem.1 h i (plOf lt l t + j) hl (by omega) (by omega)

theorem bl_trans : ∀ a b c : List UInt8, Op.bytesLess a b = true → Op.bytesLess b c = true → Op.bytesLess a c = true
  | _, _, [], _, h => by unfold Op.bytesLess at h; cases h
  | _, [], _ :: _, h, _ => by unfold Op.bytesLess at h; cases h
  | [], _ :: _, _ :: _, _, _ => by unfold Op.bytesLess; rfl
  | x :: a, y :: b, z :: c, h1, h2 => by
    unfold Op.bytesLess at h1 h2 ⊢
    simp only [Bool.or_eq_true, Bool.and_eq_true, decide_eq_true_iff, beq_iff_eq] at h1 h2 ⊢
    rcases h1 with h1 | ⟨e1, h1⟩
    · rcases h2 with h2 | ⟨e2, _⟩
      · exact Or.inl (UInt8.lt_trans h1 h2)
      · exact Or.inl (e2 ▸ h1)
    · rcases h2 with h2 | ⟨e2, h2⟩
      · exact Or.inl (e1 ▸ h2)
      · exact Or.inr ⟨e1.trans e2, bl_trans a b c h1 h2⟩
theorem bl_tri : ∀ a b : List UInt8, Op.bytesLess a b = false → (a == b) = false → Op.bytesLess b a = true
  | [], [], _, h => by simp at h
  | [], _ :: _, h, _ => by unfold Op.bytesLess at h; cases h
  | _ :: _, [], _, _ => by unfold Op.bytesLess; rfl
  | x :: a, y :: b, h1, h2 => by
    unfold Op.bytesLess at h1 ⊢
    simp only [Bool.or_eq_false_iff, Bool.and_eq_false_iff, decide_eq_false_iff_not, Bool.or_eq_true, Bool.and_eq_true, decide_eq_true_iff, beq_iff_eq] at h1 ⊢
    by_cases e : x = y
    · subst e
      refine Or.inr ⟨rfl, bl_tri a b ?_ ?_⟩
      · rcases h1.2 with q | q
        · simp at q
        · exact q
      · rw [beq_eq_false_iff_ne] at h2 ⊢
        exact fun q => h2 (by rw [q])
    · refine Or.inl ?_
      have h3 := h1.1
      rw [UInt8.lt_iff_toNat_lt] at h3 ⊢
      have : x.toNat ≠ y.toNat := fun q => e (UInt8.toNat_inj.1 q)
      omega
theorem totKey : Tot Pl.txLt keyCmp where
  neg := keyCmp_neg
  tr := fun a b c => bl_trans _ _ _
  tri := fun a b h hc => bl_tri _ _ h (by
    cases q : (a.toList == b.toList)
    · rfl
    · exact absurd ((keyCmp_zero a b).2 q) hc)
  eqr := fun a b c h hl => by rw [← tx_eq ((keyCmp_zero b c).1 h)]; exact hl
/-- First by one, then by the other. -/
theorem Tot.lex {α β γ : Type} {lt1 : β → β → Bool} {c1 : β → β → Int} {lt2 : γ → γ → Bool} {c2 : γ → γ → Int} (f : α → β) (g : α → γ) (T1 : Tot lt1 c1) (T2 : Tot lt2 c2) (i1 : ∀ a b c, c1 a b = 0 → lt1 b c = true → lt1 a c = true) (s1 : ∀ a b, c1 a b = 0 → c1 b a = 0) (t1 : ∀ a b c, c1 a b = 0 → c1 b c = 0 → c1 a c = 0)
    (lt : α → α → Bool) (cmp : α → α → Int) (hc : ∀ a b, cmp a b = pick2 (c1 (f a) (f b)) (c2 (g a) (g b))) (hn : ∀ a b, cmp a b < 0 ↔ lt a b = true) : Tot lt cmp := by
  have key : ∀ a b, lt a b = true ↔ (lt1 (f a) (f b) = true ∨ (c1 (f a) (f b) = 0 ∧ lt2 (g a) (g b) = true)) := fun a b => by
    rw [← hn, hc]
    unfold pick2
    by_cases h : c1 (f a) (f b) = 0
    · rw [if_pos h]
      have h0 : ¬ lt1 (f a) (f b) = true := fun q => by have := (T1.neg _ _).2 q; omega
      constructor
      · exact fun q => Or.inr ⟨h, (T2.neg _ _).1 q⟩
      · rintro (q | ⟨_, q⟩)
        · exact absurd q h0
        · exact (T2.neg _ _).2 q
    · rw [if_neg h]
      constructor
      · exact fun q => Or.inl ((T1.neg _ _).1 q)
      · rintro (q | ⟨q, _⟩)
        · exact (T1.neg _ _).2 q
        · exact absurd q h
  have zero : ∀ a b, cmp a b = 0 ↔ (c1 (f a) (f b) = 0 ∧ c2 (g a) (g b) = 0) := fun a b => by
    rw [hc]; unfold pick2
    by_cases h : c1 (f a) (f b) = 0
    · rw [if_pos h]; simp [h]
    · rw [if_neg h]; simp [h]
  refine ⟨hn, fun a b c h1 h2 => ?_, fun a b h1 h2 => ?_, fun a b c h1 h2 => ?_⟩
  · rw [key] at h1 h2 ⊢
    rcases h1 with h1 | ⟨e1, h1⟩
    · rcases h2 with h2 | ⟨e2, _⟩
      · exact Or.inl (T1.tr _ _ _ h1 h2)
      · exact Or.inl (T1.eqr _ _ _ e2 h1)
    · rcases h2 with h2 | ⟨e2, h2⟩
      · exact Or.inl (i1 _ _ _ e1 h2)
      · exact Or.inr ⟨t1 _ _ _ e1 e2, T2.tr _ _ _ h1 h2⟩
  · rw [key]
    have hnk : ¬ (lt1 (f a) (f b) = true ∨ (c1 (f a) (f b) = 0 ∧ lt2 (g a) (g b) = true)) := fun q => by rw [(key a b).2 q] at h1; cases h1
    by_cases e : c1 (f a) (f b) = 0
    · refine Or.inr ⟨s1 _ _ e, T2.tri _ _ ?_ (fun q => h2 ((zero a b).2 ⟨e, q⟩))⟩
      cases q : lt2 (g a) (g b)
      · rfl
      · exact absurd (Or.inr ⟨e, q⟩) hnk
    · refine Or.inl (T1.tri _ _ ?_ e)
      cases q : lt1 (f a) (f b)
      · rfl
      · exact absurd (Or.inl q) hnk
  · obtain ⟨e1, e2⟩ := (zero b c).1 h1
    rw [key] at h2 ⊢
    rcases h2 with h2 | ⟨q1, q2⟩
    · exact Or.inl (T1.eqr _ _ _ e1 h2)
    · exact Or.inr ⟨t1 _ _ _ q1 e1, T2.eqr _ _ _ e2 q2⟩
theorem key_sym {a b : ByteArray} (h : keyCmp a b = 0) : keyCmp b a = 0 := by
  have := tx_eq ((keyCmp_zero a b).1 h)
  subst this; exact h
theorem key_tr {a b c : ByteArray} (h : keyCmp a b = 0) (k : keyCmp b c = 0) : keyCmp a c = 0 := by
  have := tx_eq ((keyCmp_zero a b).1 h)
  subst this; exact k
theorem totBl : Tot Pl.ahead cmpBl :=
  Tot.lex Pl.Bl.kind Pl.Bl.name totKey totKey (fun a b c h k => by rw [tx_eq ((keyCmp_zero a b).1 h)]; exact k) (fun _ _ => key_sym) (fun _ _ _ => key_tr) _ _ (fun _ _ => rfl) (fun a b => by rw [← cmpBl_neg, decide_eq_true_iff])
theorem cmpW_zero : ∀ A B : List ByteArray, cmpW A B = 0 ↔ A = B
  | [], [] => by unfold cmpW; simp
  | [], _ :: _ => by unfold cmpW; simp
  | _ :: _, [] => by unfold cmpW; simp
  | a :: x, b :: y => by
    unfold cmpW
    by_cases h : keyCmp a b = 0
    · have e := tx_eq ((keyCmp_zero a b).1 h)
      subst e
      rw [if_pos h, cmpW_zero x y]; simp
    · rw [if_neg h]
      constructor
      · exact fun q => absurd q h
      · intro q
        injection q with q1 _
        subst q1
        exact absurd ((keyCmp_zero a a).2 (by unfold Pl.txEq; simp)) h
theorem lessW_tr : ∀ A B C : List ByteArray, cmpW A B < 0 → cmpW B C < 0 → cmpW A C < 0
  | _, [], [], _, h => by unfold cmpW at h; omega
  | [], _, _ :: _, _, _ => by unfold cmpW; omega
  | _ :: _, [], _, h, _ => by unfold cmpW at h; omega
  | [], _ :: _, [], _, h => by unfold cmpW at h; omega
  | _ :: _, _ :: _, [], _, h => by unfold cmpW at h; omega
  | a :: x, b :: y, c :: z, h1, h2 => by
    unfold cmpW at h1 h2 ⊢
    by_cases e1 : keyCmp a b = 0
    · have q1 := tx_eq ((keyCmp_zero a b).1 e1)
      subst q1
      rw [if_pos e1] at h1
      by_cases e2 : keyCmp a c = 0
      · rw [if_pos e2] at h2 ⊢
        exact lessW_tr x y z h1 h2
      · rw [if_neg e2] at h2 ⊢
        exact h2
    · rw [if_neg e1] at h1
      by_cases e2 : keyCmp b c = 0
      · have q2 := tx_eq ((keyCmp_zero b c).1 e2)
        subst q2
        rw [if_neg e1]; exact h1
      · rw [if_neg e2] at h2
        have h3 := totKey.tr a b c ((totKey.neg _ _).1 h1) ((totKey.neg _ _).1 h2)
        have h4 := (totKey.neg _ _).2 h3
        rw [if_neg (by omega)]; exact h4
theorem lessW_tri : ∀ A B : List ByteArray, ¬ cmpW A B < 0 → cmpW A B ≠ 0 → cmpW B A < 0
  | [], [], _, h => by unfold cmpW at h; omega
  | [], _ :: _, h, _ => by unfold cmpW at h; omega
  | _ :: _, [], _, _ => by unfold cmpW; omega
  | a :: x, b :: y, h1, h2 => by
    unfold cmpW at h1 h2 ⊢
    by_cases e1 : keyCmp a b = 0
    · rw [if_pos e1] at h1 h2
      rw [if_pos (key_sym e1)]
      exact lessW_tri x y h1 h2
    · rw [if_neg e1] at h1 h2
      have h3 : Pl.txLt a b = false := by
        cases q : Pl.txLt a b
        · rfl
        · exact absurd ((totKey.neg _ _).2 q) h1
      have h4 := (totKey.neg _ _).2 (totKey.tri a b h3 e1)
      rw [if_neg (by omega)]; exact h4
theorem totW : Tot Pl.lessW cmpW where
  neg := cmpW_neg
  tr := fun a b c h k => (cmpW_neg _ _).1 (lessW_tr a b c ((cmpW_neg _ _).2 h) ((cmpW_neg _ _).2 k))
  tri := fun a b h k => (cmpW_neg _ _).1 (lessW_tri a b (fun q => by rw [(cmpW_neg _ _).1 q] at h; cases h) k)
  eqr := fun a b c h k => by rw [← (cmpW_zero b c).1 h]; exact k
theorem totNum : Tot (fun a b : Int => decide (a < b)) numCmp where
  neg := fun a b => by rw [numCmp_neg, decide_eq_true_iff]
  tr := fun a b c h k => by rw [decide_eq_true_iff] at h k ⊢; omega
  tri := fun a b h k => by
    rw [decide_eq_false_iff_not] at h
    rw [decide_eq_true_iff]
    have : a ≠ b := fun e => k ((numCmp_zero a b).2 e)
    omega
  eqr := fun a b c h k => by rw [← (numCmp_zero b c).1 h]; exact k
theorem totLn (kind : ByteArray) : Tot (Pl.lineLess kind) (cmpLn (Pl.rulesOf kind)) :=
  Tot.lex (fun x : Pl.Ln => Pl.ixI (Pl.ruIx (Pl.rulesOf kind) x.key)) Pl.Ln.ws totNum totW (fun a b c h k => by rw [(numCmp_zero a b).1 h]; exact k) (fun a b h => by rw [(numCmp_zero a b).1 h]; exact (numCmp_zero b b).2 rfl) (fun a b c h k => by rw [(numCmp_zero a b).1 h]; exact k) _ _ (fun _ _ => rfl) (fun a b => by rw [← cmpLn_neg, decide_eq_true_iff])

end Go.Proofs.YtdllbcafbfkngaaGreatDoor

namespace Go.Proofs.YtdllbcafbfkngaaGreatDoor
open Go.RowKit Go.Deep

theorem ag_eq {α : Type} {lt : α → α → Bool} {cmp : α → α → Int} (T : Tot lt cmp) (d : α) {l : List α} (h : l.Pairwise fun a b => lt a b = true) (t : α) (p : α → Bool) (hp : ∀ y ∈ l, p y = true ↔ cmp y t = 0) : (decide (plOf lt l t < l.length) && decide (cmp (l.getD (plOf lt l t) d) t = 0)) = l.any p := by
  rw [Bool.eq_iff_iff, Bool.and_eq_true, decide_eq_true_iff, decide_eq_true_iff, ← pl_found T d h t, List.any_eq_true]
  exact ⟨fun ⟨y, hy, e⟩ => ⟨y, hy, (hp y hy).2 e⟩, fun ⟨y, hy, e⟩ => ⟨y, hy, (hp y hy).1 e⟩⟩
theorem find_any (kind name : ByteArray) : ∀ (l : List Pl.Bl) (i : Nat), (Pl.findF kind name l i).isSome = l.any (Pl.isB kind name)
  | [], _ => rfl
  | b :: l, i => by
    unfold Pl.findF
    rw [List.any_cons]
    cases Pl.isB kind name b
    · simpa using find_any kind name l (i + 1)
    · rfl
theorem pick2_zero (x y : Int) : pick2 x y = 0 ↔ (x = 0 ∧ y = 0) := by
  unfold pick2
  by_cases h : x = 0
  · rw [if_pos h]; simp [h]
  · rw [if_neg h]; simp [h]
theorem isB_iff (kind name : ByteArray) (y : Pl.Bl) : Pl.isB kind name y = true ↔ cmpBl y ⟨kind, name, []⟩ = 0 := by
  unfold cmpBl
  rw [pick2_zero, keyCmp_zero, keyCmp_zero, ← Bool.and_eq_true]
  exact Iff.rfl
theorem begin_eq {A : List Pl.Bl} (h : A.Pairwise fun a b => Pl.ahead a b = true) (h60 : A.length ≤ 60) (ws : List ByteArray) (ag : Bool) (hag : ag = (decide (plOf Pl.ahead A ⟨ws.getD 0 Pl.txNo, ws.getD 1 Pl.txNo, []⟩ < A.length) && decide (cmpBl (A.getD (plOf Pl.ahead A ⟨ws.getD 0 Pl.txNo, ws.getD 1 Pl.txNo, []⟩) Pl.blNo) ⟨ws.getD 0 Pl.txNo, ws.getD 1 Pl.txNo, []⟩ = 0))) : bgC A ws ag = Pl.beginC A ws := by
  rw [ag_eq totBl Pl.blNo h _ (Pl.isB (ws.getD 0 Pl.txNo) (ws.getD 1 Pl.txNo)) (fun y _ => isB_iff _ _ y), ← find_any _ _ A 0] at hag
  unfold bgC Pl.beginC
  rw [hag]
  have e : (A.length = 60) = (60 ≤ A.length) := by rw [eq_iff_iff]; omega
  simp only [e]
  rfl
theorem ruIxF_at (key : ByteArray) : ∀ (l : List Pl.Ru) (i k : Nat), Pl.ruIxF key l i = some k → i ≤ k ∧ ((l.getD (k - i) Pl.ruNo).key.toList == key.toList) = true
  | [], _, _, h => by cases h
  | r :: l, i, k, h => by
    unfold Pl.ruIxF at h
    split at h
    · rename_i e
      injection h with h
      subst h
      rw [Nat.sub_self]
      exact ⟨Nat.le_refl _, e⟩
    · obtain ⟨h1, h2⟩ := ruIxF_at key l (i + 1) k h
      refine ⟨by omega, ?_⟩
      rw [show k - i = (k - (i + 1)) + 1 by omega, List.getD_cons_succ]
      exact h2
theorem ixI_inj {a b : Option Nat} (h : Pl.ixI a = Pl.ixI b) : a = b := by
  cases a with
  | none =>
    cases b with
    | none => rfl
    | some n => exfalso; have q : (-1 : Int) = (n : Int) := h; omega
  | some m =>
    cases b with
    | none => exfalso; have q : (m : Int) = (-1 : Int) := h; omega
    | some n => have q : (m : Int) = (n : Int) := h; rw [show m = n by omega]
theorem ru_key {l : List Pl.Ru} {a b : ByteArray} (h : Pl.ruIx l a = Pl.ruIx l b) (hs : (Pl.ruIx l b).isSome = true) : a = b := by
  obtain ⟨j, hj⟩ := Option.isSome_iff_exists.1 hs
  have h1 := (ruIxF_at b l 0 j hj).2
  have h2 := (ruIxF_at a l 0 j (h.trans hj)).2
  exact (tl_inj h2).symm.trans (tl_inj h1)
theorem same_iff {l : List Pl.Ru} (x : Pl.Ln) (hs : (Pl.ruIx l x.key).isSome = true) (y : Pl.Ln) : ((y.key.toList == x.key.toList) && Pl.wordsEq y.ws x.ws) = true ↔ cmpLn l y x = 0 := by
  unfold cmpLn
  rw [pick2_zero, numCmp_zero, Bool.and_eq_true]
  have hw : Pl.wordsEq y.ws x.ws = true ↔ cmpW y.ws x.ws = 0 := by
    unfold Pl.wordsEq
    rw [Bool.and_eq_true, Bool.not_eq_true', Bool.not_eq_true']
    constructor
    · rintro ⟨h1, h2⟩
      by_cases e : cmpW y.ws x.ws = 0
      · exact e
      · have := totW.tri _ _ h1 e
        rw [h2] at this; cases this
    · intro e
      have e' := (cmpW_zero _ _).1 e
      rw [e']
      have hf : Pl.lessW x.ws x.ws = false := by
        cases q : Pl.lessW x.ws x.ws
        · rfl
        · have := (totW.neg _ _).2 q
          rw [(cmpW_zero x.ws x.ws).2 rfl] at this; omega
      exact ⟨hf, hf⟩
  rw [hw]
  constructor
  · rintro ⟨h1, h2⟩
    rw [tl_inj h1]
    exact ⟨rfl, h2⟩
  · rintro ⟨h1, h2⟩
    refine ⟨?_, h2⟩
    rw [ru_key (ixI_inj h1) hs]; simp
theorem add_eq {b : Pl.Bl} (h : b.lines.Pairwise fun a c => Pl.lineLess b.kind a c = true) (h10 : ∀ key, Pl.keyCnt b.lines key ≤ 10) (ws : List ByteArray) (ag : Bool) (hag : ag = (decide (plOf (Pl.lineLess b.kind) b.lines (Pl.insLn ws) < b.lines.length) && decide (cmpLn (Pl.rulesOf b.kind) (b.lines.getD (plOf (Pl.lineLess b.kind) b.lines (Pl.insLn ws)) Pl.lnNo) (Pl.insLn ws) = 0))) :
    adC (Pl.rulesOf b.kind) (Pl.keyCnt b.lines (Pl.insLn ws).key) (Pl.insLn ws) ag = Pl.insideC b ws := by
  unfold adC Pl.insideC
  cases hix : Pl.ruIx (Pl.rulesOf b.kind) (Pl.insLn ws).key with
  | none => rfl
  | some j =>
    have hs : (Pl.ruIx (Pl.rulesOf b.kind) (Pl.insLn ws).key).isSome = true := by rw [hix]; rfl
    rw [ag_eq (totLn b.kind) Pl.lnNo h _ (fun y => (y.key.toList == (Pl.insLn ws).key.toList) && Pl.wordsEq y.ws (Pl.insLn ws).ws) (fun y _ => same_iff _ hs y)] at hag
    have e1 : decide (0 < Pl.sameCnt b.lines (Pl.insLn ws)) = ag := by
      rw [hag, Bool.eq_iff_iff, decide_eq_true_iff]
      unfold Pl.sameCnt
      rw [List.countP_pos_iff, List.any_eq_true]
    have e2 : Pl.manyL (Pl.rulesOf b.kind) (Pl.insLn ws).key = ((Pl.rulesOf b.kind).getD j Pl.ruNo).many := by unfold Pl.manyL; rw [hix]
    have e3 : Pl.fitsL (Pl.rulesOf b.kind) (Pl.insLn ws).key (Pl.insLn ws).ws = Pl.sheetFits b.kind (Pl.insLn ws).key (Pl.insLn ws).ws := rfl
    have e4 : (Pl.keyCnt b.lines (Pl.insLn ws).key = 10) = (10 ≤ Pl.keyCnt b.lines (Pl.insLn ws).key) := by
      rw [eq_iff_iff]
      have := h10 (Pl.insLn ws).key
      omega
    simp only [Option.isSome_some, Bool.true_eq_false, if_false, e1, e2, e3, e4]
/-- Lines that count for nothing. -/
theorem pf_blank (st : Pl.PS) (ls : List ByteArray) : ∀ (n i : Nat), i + n ≤ ls.length → Pl.blank ls i (i + n) → Pl.parseFrom st (ls.drop i) i = Pl.parseFrom st (ls.drop (i + n)) (i + n)
  | 0, _, _, _ => rfl
  | n + 1, i, hl, hb => by
    have h0 := hb i (Nat.le_refl _) (by omega)
    rw [Pl.drop_line ls i (by omega), Pl.parseFrom]
    have e1 : Pl.stepC st (ls.getD i Pl.txNo) = 0 := by unfold Pl.stepC; rw [h0]; rfl
    have e2 : Pl.stepS st (ls.getD i Pl.txNo) = st := by unfold Pl.stepS; rw [h0]; rfl
    rw [if_pos e1, e2, pf_blank st ls n (i + 1) (by omega) (fun m h1 h2 => hb m (by omega) (by omega)), show i + 1 + n = i + (n + 1) by omega]
theorem pf_line (st : Pl.PS) (ls : List ByteArray) (j : Nat) (hj : j < ls.length) : Pl.parseFrom st (ls.drop j) j = if Pl.stepC st (ls.getD j Pl.txNo) = 0 then Pl.parseFrom (Pl.stepS st (ls.getD j Pl.txNo)) (ls.drop (j + 1)) (j + 1) else ([], j + 1, Pl.stepC st (ls.getD j Pl.txNo)) := by
  rw [Pl.drop_line ls j hj, Pl.parseFrom]
theorem step_bad {x : ByteArray} (h : Pl.cutBad x = true) (st : Pl.PS) : Pl.stepC st x = 1 := by
  unfold Pl.cutBad at h
  unfold Pl.stepC
  cases hc : Pl.cutL x.data.toList 0 with
  | none => rfl
  | some ws => rw [hc] at h; cases h
theorem step_ok {x : ByteArray} (h : Pl.cutBad x = false) (st : Pl.PS) : Pl.stepC st x = Pl.wordsC st (Pl.cutWs x) ∧ Pl.stepS st x = Pl.wordsS st (Pl.cutWs x) := by
  unfold Pl.cutBad at h
  unfold Pl.stepC Pl.stepS Pl.cutWs
  cases hc : Pl.cutL x.data.toList 0 with
  | none => rw [hc] at h; cases h
  | some ws => exact ⟨rfl, rfl⟩
theorem put_key (kind : ByteArray) (L : List Pl.Ln) (x : Pl.Ln) (key : ByteArray) : Pl.keyCnt (Pl.putLn kind L x) key = Pl.keyCnt L key + if Pl.txEq x.key key then 1 else 0 := by
  unfold Pl.putLn
  rw [put_split]
  unfold Pl.keyCnt
  rw [List.countP_append, List.countP_cons]
  have e : List.countP (fun x => Pl.txEq x.key key) L = List.countP (fun x => Pl.txEq x.key key) (L.take (plOf (Pl.lineLess kind) L x)) + List.countP (fun x => Pl.txEq x.key key) (L.drop (plOf (Pl.lineLess kind) L x)) := by
    rw [← List.countP_append, List.take_append_drop]
  rw [e]; omega

end Go.Proofs.YtdllbcafbfkngaaGreatDoor

namespace Go.Proofs.YtdllbcafbfkngaaGreatDoor
open Go.RowKit Go.Deep

/-- A list in memory, in two pieces. -/
theorem rep_split {α : Type} (f : α → List Dt) (sh : List Sh) (hf : ∀ x, (f x).length = sh.length) {W : World} {F : List Nat} {l : List α} {cs : List Value} (h : Rep W false (reps l.length sh) F (l.flatMap f) cs) (k : Nat) (hk : k ≤ l.length) :
    ∃ F1 F2, F = F1 ++ F2 ∧ Rep W false (reps k sh) F1 ((l.take k).flatMap f) (cs.take (k * sh.length)) ∧ Rep W false (reps (l.length - k) sh) F2 ((l.drop k).flatMap f) (cs.drop (k * sh.length)) := by
  have e : l.length = k + (l.length - k) := by omega
  rw [e, reps_add] at h
  obtain ⟨F1, F2, d1, d2, c1, c2, rfl, hd, rfl, h1, h2⟩ := Rep.cut _ h
  have hl1 : d1.length = ((l.take k).flatMap f).length := by
    rw [h1.raw.typ.len, reps_len, flat_len2 f _ hf, List.length_take, Nat.min_eq_left hk]
  have hcat : (l.take k).flatMap f ++ (l.drop k).flatMap f = d1 ++ d2 := by rw [← List.flatMap_append, List.take_append_drop]; exact hd
  obtain ⟨e1, e2⟩ := List.append_inj hcat hl1.symm
  have hc : c1.length = k * sh.length := by rw [h1.raw.len, reps_len]
  refine ⟨F1, F2, rfl, ?_, ?_⟩
  · rw [e1, List.take_left' hc]; exact h1
  · rw [e2, List.drop_left' hc]; exact h2

/-- Between blocks. -/
def ClM (rb : Nat) (A : List Pl.Bl) (bv : Value) (W : World) : Prop :=
  ∃ cs F, W.ownsRow (rb + 1) 37 3 bv A.length cs ∧ Rep W false (reps A.length shSheetBlock) F (A.flatMap blD) cs ∧ F.Nodup ∧ (∀ b ∈ F, rb + 1 ≤ b) ∧ ∀ g, bv.ownBlock = some g → g ∉ F

/-- A block is open. -/
def OpM (rb : Nat) (A : List Pl.Bl) (cur : Pl.Bl) (pl g q : Nat) (W : World) : Prop :=
  ∃ ca cb l1 lq cl FA FL FB, W.ownsRow (rb + 1) 37 3 (.slice (some ⟨g, 0, none⟩) (A.length + 1) q) (A.length + 1) (ca ++ [.string cur.kind, .string cur.name, .slice l1 cur.lines.length lq] ++ cb) ∧ ca.length = pl * 3 ∧
    W.ownsRow (rb + 1) 62 2 (.slice l1 cur.lines.length lq) cur.lines.length cl ∧ Rep W false (reps pl shSheetBlock) FA ((A.take pl).flatMap blD) ca ∧ Rep W false (reps cur.lines.length shSheetLine) FL (cur.lines.flatMap lnD) cl ∧ Rep W false (reps (A.length - pl) shSheetBlock) FB ((A.drop pl).flatMap blD) cb ∧
    (FA ++ (FL ++ FB)).Nodup ∧ ∀ b ∈ FA ++ (FL ++ FB), rb + 1 ≤ b ∧ b ≠ g ∧ (Value.slice l1 cur.lines.length lq).ownBlock ≠ some b

theorem ClM.frm {rb : Nat} {A : List Pl.Bl} {bv : Value} {W W' : World} (h : ClM rb A bv W) (k : Frm (fun b => b = rb) W W') : ClM rb A bv W' := by
  obtain ⟨cs, F, h1, h2, h3, h4, h5⟩ := h
  refine ⟨cs, F, owns_frm h1 k fun g hg e => ?_, h2.frm k fun b hb e => ?_, h3, h4, h5⟩
  · have := (owns_lo h1 hg).1
    omega
  · have := h4 b hb
    omega

theorem OpM.frm {rb : Nat} {A : List Pl.Bl} {cur : Pl.Bl} {pl g q : Nat} {W W' : World} (h : OpM rb A cur pl g q W) (k : Frm (fun b => b = rb) W W') : OpM rb A cur pl g q W' := by
  obtain ⟨ca, cb, l1, lq, cl, FA, FL, FB, h1, h2, h3, h4, h5, h6, h7, h8⟩ := h
  refine ⟨ca, cb, l1, lq, cl, FA, FL, FB, owns_frm h1 k fun g hg e => ?_, h2, owns_frm h3 k fun g hg e => ?_, h4.frm k fun b hb e => ?_, h5.frm k fun b hb e => ?_, h6.frm k fun b hb e => ?_, h7, h8⟩
  · have := (owns_lo h1 hg).1
    omega
  · have := (owns_lo h3 hg).1
    omega
  · have := (h8 b (by simp [hb])).1
    omega
  · have := (h8 b (by simp [hb])).1
    omega
  · have := (h8 b (by simp [hb])).1
    omega

/-- A block begins. -/
theorem op_begin {rb : Nat} {A : List Pl.Bl} {p1 : Option Addr} {q : Nat} {cs : List Value} {F : List Nat} {W W' : World} {k n : ByteArray} {pl g' q' : Nat}
    (hrep : Rep W false (reps A.length shSheetBlock) F (A.flatMap blD) cs) (hnd : F.Nodup) (hlo : ∀ b ∈ F, rb + 1 ≤ b) (hg : ∀ g, (Value.slice p1 A.length q).ownBlock = some g → g ∉ F) (hpl : pl ≤ A.length)
    (ho' : W'.ownsRow (rb + 1) 37 3 (.slice (some ⟨g', 0, none⟩) (A.length + 1) q') (A.length + 1) (cs.take (pl * 3) ++ [.string k, .string n, .slice none 0 0] ++ cs.drop (pl * 3)))
    (hf : Frm (fun b => b = rb ∨ (Value.slice p1 A.length q).ownBlock = some b) W W') (hg' : p1 = some ⟨g', 0, none⟩ ∨ W.heap.size ≤ g') : OpM rb A ⟨k, n, []⟩ pl g' q' W' := by
  have hrl : cs.length = A.length * 3 := by rw [hrep.raw.len, reps_len]; rfl
  have hrep' : Rep W' false (reps A.length shSheetBlock) F (A.flatMap blD) cs := hrep.frm hf fun b hb e => by
    rcases e with e | e
    · have := hlo b hb
      omega
    · exact hg b e hb
  have hgF : ∀ b ∈ F, b ≠ g' := fun b hb e => by
    subst e
    rcases hg' with e | e
    · exact hg b (by rw [e]; rfl) hb
    · have := hrep.lt b hb
      omega
  obtain ⟨F1, F2, rfl, r1, r2⟩ := rep_split blD shSheetBlock (fun _ => rfl) hrep' pl hpl
  refine ⟨_, _, none, 0, [], F1, [], F2, ho', ?_, ⟨rfl, .inl ⟨rfl, rfl⟩⟩, r1, .nil, r2, by simpa using hnd, fun b hb => ⟨hlo b (by simpa using hb), hgF b (by simpa using hb), by intro e; cases e⟩⟩
  rw [List.length_take]
  have : pl * 3 ≤ A.length * 3 := Nat.mul_le_mul_right 3 hpl
  omega

/-- A block ends. -/
theorem op_end {rb : Nat} {A : List Pl.Bl} {cur : Pl.Bl} {pl g q : Nat} {W : World} (h : OpM rb A cur pl g q W) (hpl : pl ≤ A.length) (hlen : cur.lines.length ≤ maxLen) : ClM rb (A.take pl ++ cur :: A.drop pl) (.slice (some ⟨g, 0, none⟩) (A.length + 1) q) W := by
  obtain ⟨ca, cb, l1, lq, cl, FA, FL, FB, h1, h2, h3, h4, h5, h6, h7, h8⟩ := h
  have hndL : FL.Nodup := (List.nodup_append.1 (List.nodup_append.1 h7).2.1).1
  obtain ⟨G, r, n1, n2, n3⟩ := owns_repX (sh := shSheetLine) h3 h5 (fun e => by rw [List.eq_nil_of_length_eq_zero e]; rfl) hlen hndL (fun b hb => (h8 b (by simp [hb])).1) (fun b e hb => (h8 b (by simp [hb])).2.2 e)
  have hG : ∀ b ∈ G, rb + 1 ≤ b ∧ b ≠ g ∧ b ∉ FA ∧ b ∉ FB := fun b hb => by
    rcases n3 b hb with e | e
    · obtain ⟨i1, i2, i3⟩ := List.nodup_append.1 h7
      obtain ⟨j1, j2, j3⟩ := List.nodup_append.1 i2
      exact ⟨n2 b hb, (h8 b (by simp [e])).2.1, fun q => i3 b q b (by simp [e]) rfl, fun q => j3 b e b q rfl⟩
    · exact ⟨n2 b hb, fun q => owns_apart h1 h3 (by decide) (g := g) rfl (by rw [← q]; exact e), fun q => (h8 b (by simp [q])).2.2 e, fun q => (h8 b (by simp [q])).2.2 e⟩
  have hlen1 : (A.take pl ++ cur :: A.drop pl).length = A.length + 1 := by
    rw [List.length_append, List.length_cons, List.length_take, List.length_drop]
    omega
  have hb := repSheetBlock_mk cur.kind cur.name r
  have hall := h4.app (hb.app h6)
  have hreps : reps (A.length + 1) shSheetBlock = reps pl shSheetBlock ++ (shSheetBlock ++ reps (A.length - pl) shSheetBlock) := by
    rw [← reps_succ, ← reps_add]
    congr 1
    omega
  refine ⟨_, FA ++ (G ++ [] ++ FB), by rw [hlen1]; exact h1, ?_, ?_, ?_, ?_⟩
  · rw [hlen1, hreps, List.flatMap_append, List.flatMap_cons, List.append_assoc ca]
    exact hall
  · rw [List.append_nil]
    obtain ⟨i1, i2, i3⟩ := List.nodup_append.1 h7
    obtain ⟨j1, j2, j3⟩ := List.nodup_append.1 i2
    refine List.nodup_append.2 ⟨i1, List.nodup_append.2 ⟨n1, j2, fun a ha b hb e => (hG a ha).2.2.2 (e ▸ hb)⟩, fun a ha b hb e => ?_⟩
    rcases List.mem_append.1 hb with q | q
    · exact (hG b q).2.2.1 (e ▸ ha)
    · exact i3 a ha b (by simp [q]) e
  · intro b hb
    rw [List.append_nil] at hb
    rcases List.mem_append.1 hb with q | q
    · exact (h8 b (by simp [q])).1
    · rcases List.mem_append.1 q with q | q
      · exact (hG b q).1
      · exact (h8 b (by simp [q])).1
  · intro b hb hq
    injection hb with hb
    have hb' : g = b := hb
    subst hb'
    rw [List.append_nil] at hq
    rcases List.mem_append.1 hq with q | q
    · exact (h8 _ (by simp [q])).2.1 rfl
    · rcases List.mem_append.1 q with q | q
      · exact (hG _ q).2.1 rfl
      · exact (h8 _ (by simp [q])).2.1 rfl

/-- A list of texts less its first. -/
theorem tail_rep {w : World} {ws : List ByteArray} {p o c m : Nat} {F : List Nat} (h : Rep w false shTxs F [.row ws.length (txD ws)] [.slice (some ⟨p, o, none⟩) (m + 1) c]) (hm : ws.length = m + 1) :
    ∃ F', Rep w false shTxs F' [.row m (txD (ws.drop 1))] [.slice (if c = 1 then some ⟨p, o, none⟩ else some ⟨p, o + 1, none⟩) m (c - 1)] ∧ (F.Nodup → F'.Nodup) ∧ ∀ b ∈ F', b ∈ F := by
  obtain ⟨x, l, rfl⟩ : ∃ x l, ws = x :: l := by
    cases ws with
    | nil => simp at hm
    | cons x l => exact ⟨x, l, rfl⟩
  have hl : l.length = m := by simpa using hm
  rw [hm] at h
  unfold shTxs at h ⊢
  cases h with
  | row _ _ _ _ _ _ u mm vs es G ho hmm ht hn hr he h' =>
    cases h'
    rw [reps_succ] at he
    cases he with
    | s _ he2 =>
      by_cases hc : c = 1
      · have hm0 : m = 0 := by omega
        have hl0 : l = [] := List.eq_nil_of_length_eq_zero (by omega)
        subst hl0
        subst hm0
        subst hc
        exact ⟨[], .emp _ _ _ rfl .nil, fun _ => List.nodup_nil, fun b hb => by cases hb⟩
      · rw [if_neg hc]
        rename_i cs2
        have hr2 : w.rangeAt p (o + 1) cs2 := (rA_cut (x := [.string x]) (y := cs2) hr).2
        refine ⟨p :: (G ++ []), .row _ _ p (o + 1) m (c - 1) u mm cs2 (txD l) G ho ?_ (by simp) ⟨by omega, by omega⟩ hr2 he2 .nil, id, fun b hb => hb⟩
        simp only [List.length_singleton, Nat.mul_one] at hmm ⊢
        omega

/-- A line is taken into the block that is open. -/
theorem op_add {rb : Nat} {A : List Pl.Bl} {kind name : ByteArray} {L : List Pl.Ln} {pl g q : Nat} {ca cb : List Value} {l1 : Option Addr} {lq : Nat} {cl : List Value} {FA FL FB : List Nat} {W W' : World} {x : Pl.Ln} {ta : Option Addr} {tc pi g' q' : Nat} {FW : List Nat} {N : Nat}
    (hca : ca.length = pl * 3) (hA : Rep W false (reps pl shSheetBlock) FA ((A.take pl).flatMap blD) ca) (hL : Rep W false (reps L.length shSheetLine) FL (L.flatMap lnD) cl) (hB : Rep W false (reps (A.length - pl) shSheetBlock) FB ((A.drop pl).flatMap blD) cb)
    (hnd : (FA ++ (FL ++ FB)).Nodup) (hlo : ∀ b ∈ FA ++ (FL ++ FB), rb + 1 ≤ b ∧ b ≠ g ∧ (Value.slice l1 L.length lq).ownBlock ≠ some b) (hpi : pi ≤ L.length)
    (hw : Rep W false shTxs FW [.row x.ws.length (txD x.ws)] [.slice ta x.ws.length tc]) (hwn : FW.Nodup) (hwN : ∀ b ∈ FW, N ≤ b) (hN : ∀ b ∈ FA ++ (FL ++ FB), b < N) (hgN : g < N) (hlN : ∀ b, (Value.slice l1 L.length lq).ownBlock = some b → b < N) (hrN : rb < N)
    (ho' : W'.ownsRow (rb + 1) 37 3 (.slice (some ⟨g, 0, none⟩) (A.length + 1) q) (A.length + 1) (ca ++ [.string kind, .string name, .slice (some ⟨g', 0, none⟩) (L.length + 1) q'] ++ cb))
    (hl' : W'.ownsRow (rb + 1) 62 2 (.slice (some ⟨g', 0, none⟩) (L.length + 1) q') (L.length + 1) (cl.take (pi * 2) ++ [.string x.key, .slice ta x.ws.length tc] ++ cl.drop (pi * 2)))
    (hf : Frm (fun b => b = g ∨ (Value.slice l1 L.length lq).ownBlock = some b) W W') (hg' : l1 = some ⟨g', 0, none⟩ ∨ W.heap.size ≤ g') :
    OpM rb A ⟨kind, name, L.take pi ++ x :: L.drop pi⟩ pl g q W' := by
  have hk : ∀ b ∈ FA ++ (FL ++ FB), ¬ (b = g ∨ (Value.slice l1 L.length lq).ownBlock = some b) := fun b hb e => by
    rcases e with e | e
    · exact (hlo b hb).2.1 e
    · exact (hlo b hb).2.2 e
  have hkw : ∀ b ∈ FW, ¬ (b = g ∨ (Value.slice l1 L.length lq).ownBlock = some b) := fun b hb e => by
    have := hwN b hb
    rcases e with e | e
    · omega
    · have := hlN b e
      omega
  have hltA : ∀ b ∈ FA ++ (FL ++ FB), b < W.heap.size := fun b hb => by
    rcases List.mem_append.1 hb with e | e
    · exact hA.lt b e
    · rcases List.mem_append.1 e with e | e
      · exact hL.lt b e
      · exact hB.lt b e
  have hgA : ∀ b ∈ FA ++ (FL ++ FB), b ≠ g' := fun b hb e => by
    subst e
    rcases hg' with e | e
    · exact (hlo b hb).2.2 (by rw [e]; rfl)
    · have := hltA b hb
      omega
  have hgW : ∀ b ∈ FW, b ≠ g' := fun b hb e => by
    subst e
    rcases hg' with e | e
    · have h1 := hlN b (by rw [e]; rfl)
      have h2 := hwN b hb
      omega
    · have := hw.lt b hb
      omega
  have hA' := hA.frm hf fun b hb => hk b (by simp [hb])
  have hB' := hB.frm hf fun b hb => hk b (by simp [hb])
  have hL' := hL.frm hf fun b hb => hk b (by simp [hb])
  have hw' := hw.frm hf hkw
  obtain ⟨F1, F2, rfl, r1, r2⟩ := rep_split lnD shSheetLine (fun _ => rfl) hL' pi hpi
  have hlen1 : (L.take pi ++ x :: L.drop pi).length = L.length + 1 := by
    rw [List.length_append, List.length_cons, List.length_take, List.length_drop]
    omega
  have hb := repSheetLine_mk x.key hw'
  have hall := r1.app (hb.app r2)
  have hreps : reps (L.length + 1) shSheetLine = reps pi shSheetLine ++ (shSheetLine ++ reps (L.length - pi) shSheetLine) := by
    rw [← reps_succ, ← reps_add]
    congr 1
    omega
  have hmem : ∀ b, b ∈ FA ++ ((F1 ++ (FW ++ [] ++ F2)) ++ FB) → b ∈ FA ++ (F1 ++ F2 ++ FB) ∨ b ∈ FW := fun b hb => by
    simp only [List.mem_append, List.append_nil] at hb ⊢
    rcases hb with h | (h | h | h) | h
    · exact .inl (.inl h)
    · exact .inl (.inr (.inl (.inl h)))
    · exact .inr h
    · exact .inl (.inr (.inl (.inr h)))
    · exact .inl (.inr (.inr h))
  refine ⟨ca, cb, some ⟨g', 0, none⟩, q', _, FA, F1 ++ (FW ++ [] ++ F2), FB, by rw [hlen1]; exact ho', hca, by rw [hlen1]; exact hl', hA', ?_, hB', ?_, fun b hb => ?_⟩
  · simp only [hlen1]
    rw [hreps, List.flatMap_append, List.flatMap_cons, List.append_assoc (List.take (pi * 2) cl)]
    exact hall
  · have hd : ∀ a ∈ FW, ∀ b ∈ FA ++ (F1 ++ F2 ++ FB), a ≠ b := fun a ha b hb e => by
      have := hwN a ha
      have := hN b hb
      omega
    simp only [List.append_nil, List.nodup_append, List.mem_append] at hnd hd ⊢
    obtain ⟨n1, ⟨⟨n2, n3, n4⟩, n5, n6⟩, n7⟩ := hnd
    refine ⟨n1, ⟨⟨n2, ⟨hwn, n3, fun a ha b hb => hd a ha b (.inr (.inl (.inr hb)))⟩, fun a ha b hb => ?_⟩, n5, fun a ha b hb => ?_⟩, fun a ha b hb => ?_⟩
    · rcases hb with h | h
      · exact fun e => hd b h a (.inr (.inl (.inl ha))) e.symm
      · exact n4 a ha b h
    · rcases ha with h | h | h
      · exact n6 a (.inl h) b hb
      · exact hd a h b (.inr (.inr hb))
      · exact n6 a (.inr h) b hb
    · rcases hb with (h | h | h) | h
      · exact n7 a ha b (.inl (.inl h))
      · exact fun e => hd b h a (.inl ha) e.symm
      · exact n7 a ha b (.inl (.inr h))
      · exact n7 a ha b (.inr h)
  · rcases hmem b hb with h | h
    · exact ⟨(hlo b h).1, (hlo b h).2.1, fun e => hgA b h (by injection e with e; exact e.symm)⟩
    · have h1 := hwN b h
      exact ⟨by omega, by omega, fun e => hgW b h (by injection e with e; exact e.symm)⟩

end Go.Proofs.YtdllbcafbfkngaaGreatDoor
