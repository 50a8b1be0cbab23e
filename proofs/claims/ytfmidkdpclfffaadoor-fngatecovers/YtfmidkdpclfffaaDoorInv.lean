/-
  A region that draws its order, by an invariant of what has come up: whatever order is picked.
-/
import Derived.Orders
import Derived.Test.YtfmidkdpclfffaaDoorOwn
namespace Go.Proofs.YtfmidkdpclfffaaDoor
open Go.RowKit Go.Deep

/-- How many operations have not come up. -/
def left (listed : Array Bool) : Nat := listed.toList.countP (fun b => !b)

theorem left_set {listed : Array Bool} {i : Nat} (h : listed.getD i true = false) : left (listed.setIfInBounds i true) + 1 = left listed := by
  have hlt : i < listed.size := by
    rcases Nat.lt_or_ge i listed.size with h' | h'
    · exact h'
    · simp [Array.getElem?_eq_none h'] at h
  have hv : listed[i] = false := by simpa [hlt] using h
  unfold left
  rw [Array.toList_setIfInBounds]
  have hl : i < listed.toList.length := by simpa using hlt
  have hv' : listed.toList[i] = false := by simpa using hv
  generalize listed.toList = l at hl hv'
  clear h hv hlt
  induction l generalizing i with
  | nil => simp at hl
  | cons b l ih =>
    cases i with
    | zero =>
      simp only [List.getElem_cons_zero] at hv'
      subst hv'
      simp
    | succ i =>
      simp only [List.set_cons_succ, List.countP_cons]
      have := ih (i := i) (by simpa using hl) (by simpa using hv')
      omega

theorem left_zero {listed : Array Bool} (h : left listed = 0) (i : Nat) : listed.getD i true = true := by
  unfold left at h
  rw [List.countP_eq_zero] at h
  by_cases hi : i < listed.size
  · have := h (listed[i]) (by simp)
    simpa [hi] using this
  · simp [Array.getElem?_eq_none (by omega : listed.size ≤ i)]

section
variable {P : Program} {ops : Array Oper} {md : Region.Mode} {Q : Exit → Act → World → Prop}

theorem ready_none {listed : Array Bool} (h : left listed = 0) : Region.ready md ops listed = [] := by
  rw [List.eq_nil_iff_forall_not_mem]
  intro j hj
  have := (mem_ready.1 hj).1
  rw [left_zero h j] at this
  cases this

/-- An invariant of what has come up. -/
theorem wpAny_inv (I : Array Bool → Act → World → Prop)
    (hstep : ∀ listed a w i, I listed a w → i ∈ Region.ready md ops listed → wpOp P ops Q i (fun a' w' => I (listed.setIfInBounds i true) a' w') a w)
    (hend : ∀ listed a w, I listed a w → Region.ready md ops listed = [] → Q .normal a w) :
    ∀ (fuel : Nat) (listed : Array Bool) (a : Act) (w : World), I listed a w → left listed ≤ fuel → wpAny P md ops Q fuel listed a w
  | 0, listed, a, w, h, hf => ⟨ready_none (Nat.le_zero.1 hf), hend _ _ _ h (ready_none (Nat.le_zero.1 hf))⟩
  | fuel + 1, listed, a, w, h, hf => ⟨fun h0 => hend _ _ _ h h0, fun i hi => wpOp_mono (fun a' w' h' => wpAny_inv I hstep hend fuel _ a' w' h' (by have := left_set (mem_ready.1 hi).1; omega)) (hstep _ _ _ _ h hi)⟩
end

end Go.Proofs.YtfmidkdpclfffaaDoor
