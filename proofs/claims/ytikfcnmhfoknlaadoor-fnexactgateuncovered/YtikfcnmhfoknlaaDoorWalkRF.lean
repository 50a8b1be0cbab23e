/-
  Walks: what a rule allows: the program; a set has what a row has.
-/
import Derived.Test.YtikfcnmhfoknlaaDoorWalkRE
import Derived.Test.YtikfcnmhfoknlaaDoorWalkUD
namespace Go.Proofs.YtikfcnmhfoknlaaDoor
open Go.RowKit Go.Deep

theorem fold_or (i : Nat) : ∀ (l : List Nat) (a : Nat), (l.foldl (· ||| ·) a).testBit i = (a.testBit i || l.any (fun x => x.testBit i))
  | [], a => by simp
  | x :: l, a => by rw [List.foldl_cons, fold_or i l, Nat.testBit_or, List.any_cons, Bool.or_assoc]

theorem bit_test (v : Int) (i : Nat) : (bit v).testBit i = decide (v.toNat = i) := by
  unfold bit
  rw [Nat.one_shiftLeft, Nat.testBit_two_pow]

theorem setOf_test (l : List Int) (i : Nat) : (setOf l).testBit i = l.any (fun x => decide (x.toNat = i)) := by
  unfold setOf
  rw [fold_or, Nat.zero_testBit, Bool.false_or, List.any_map]
  congr 1
  funext x
  exact bit_test x i

theorem verbs_in {l : List Int} (h : verbsOk l = true) : ∀ x ∈ l, 1 ≤ x ∧ x ≤ 5 := by
  intro x hx
  obtain ⟨i, hi, rfl⟩ := List.getElem_of_mem hx
  have h2 : verbsTo l l.length = true := by simp only [verbsOk, Bool.and_eq_true] at h; exact h.2
  have := (verbAt_iff l i).1 (verbsTo_at h2 i hi)
  have e : l.getD i 0 = l[i] := by simp [hi]
  rw [e] at this
  exact ⟨this.1, this.2.1⟩

theorem has_set {l : List Int} (h : verbsOk l = true) (v : Int) : hasBit (setOf l) v = hasVerb l v := by
  have hr := verbs_in h
  rw [hasBit, setOf_test, hasVerb, Bool.eq_iff_iff]
  simp only [Bool.and_eq_true, decide_eq_true_eq, List.any_eq_true, beq_iff_eq]
  constructor
  · rintro ⟨⟨h1, h5⟩, x, hx, e⟩
    have := hr x hx
    exact ⟨x, hx, by omega⟩
  · rintro ⟨x, hx, rfl⟩
    have := hr x hx
    exact ⟨⟨this.1, this.2⟩, x, hx, rfl⟩

end Go.Proofs.YtikfcnmhfoknlaaDoor
