/-
  RecValid by the program, whole.
-/
import Derived.Test.YtejhknclhdbgfaaRvR
import Derived.Test.YtejhknclhdbgfaaRnI
namespace Go.Proofs.Ytejhknclhdbgfaa
open Go.RowKit Go.Deep

theorem LBox.part {W : World} {p : Nat} {cs : List Value} (h : LBox W p cs) (o : Nat) (xs : List Value) (hx : ∀ j v, xs[j]? = some v → cs[o + j]? = some v) : W.rangeAt p o xs := fun j v hv => by
  have := h.at_ (o + j) v (hx j v hv)
  rwa [Nat.zero_add] at this

/-- What the role asks. -/
def suitsK (K : Rr) : Bool := if K.lead then (if K.try_ then false else leadsS K) else if K.try_ then triesS K else quietS K

theorem b0 (n : Nat) : ((n : Int) == 0) = decide (n = 0) := by
  rw [Bool.eq_iff_iff]; simp
theorem recOk_eq (K : Rr) : (newOk K.num K.of_ && diskOk K.safe && diskOk K.disk && (decide (K.held.length ≤ 400) && allTo (heldAt K) K.held.length) && wishesOk K.wish && inB K.heard 0 1000000 && numsOk K.yes K.of_ && slotsM K.best 1000000 && acksOk K.acks K.of_ && !(K.lead && K.try_) && suitsK K && (K.up || mayDown K)) = recOk K := by
  rw [slotsM_eq]
  unfold recOk newOk suitsK roleOk quietB mayDown leadsS triesS quietS
  simp only [b0]
  by_cases hh : 0 ≤ K.heard
  · have e : decide ((K.held.length : Int) + K.wish.length + K.heard = 0) = (decide (K.held.length = 0) && decide (K.wish.length = 0) && (K.heard == 0)) := by
      rw [Bool.eq_iff_iff]; simp only [Bool.and_eq_true, decide_eq_true_eq, beq_iff_eq]; omega
    have e2 : decide (K.yes.length + K.best.length + K.acks.length = 0) = (decide (K.yes.length = 0) && decide (K.best.length = 0) && decide (K.acks.length = 0)) := by
      rw [Bool.eq_iff_iff]; simp only [Bool.and_eq_true, decide_eq_true_eq]; omega
    have e3 : decide (0 < K.yes.length + K.best.length) = !(decide (K.yes.length = 0) && decide (K.best.length = 0)) := by
      rw [Bool.eq_iff_iff]; simp only [decide_eq_true_eq, Bool.not_eq_true', Bool.and_eq_false_iff, decide_eq_false_iff_not]; omega
    have e4 : decide (0 < K.acks.length) = !decide (K.acks.length = 0) := by
      rw [Bool.eq_iff_iff]; simp only [decide_eq_true_eq, Bool.not_eq_true', decide_eq_false_iff_not]; omega
    have e5 : decide (K.bal = 0) = (K.bal == 0) := by
      rw [Bool.eq_iff_iff]; simp only [decide_eq_true_eq, beq_iff_eq]
    rw [e, e2, e3, e4, e5]
    generalize inB K.num 1 K.of_ = t0
    generalize inB K.of_ 1 5 = t1
    generalize diskOk K.safe = t2
    generalize diskOk K.disk = t3
    generalize decide (K.held.length ≤ 400) = t4
    generalize allTo (heldAt K) K.held.length = t5
    generalize wishesOk K.wish = t6
    generalize inB K.heard 0 1000000 = t7
    generalize numsOk K.yes K.of_ = t8
    generalize slotsOk K.best = t9
    generalize acksOk K.acks K.of_ = t10
    generalize inB K.bal 1 K.disk.prom = t11
    generalize decide (K.yes.length = 0) = t12
    generalize decide (K.best.length = 0) = t13
    generalize decide (K.acks.length = 0) = t14
    generalize (K.bal == 0) = t15
    generalize decide (K.held.length = 0) = t16
    generalize decide (K.wish.length = 0) = t17
    generalize (K.heard == 0) = t18
    cases K.lead <;> cases K.try_ <;> cases K.up <;> simp <;> ac_rfl
  · have : inB K.heard 0 1000000 = false := by unfold inB; simp [hh]
    rw [this]
    simp

end Go.Proofs.Ytejhknclhdbgfaa
