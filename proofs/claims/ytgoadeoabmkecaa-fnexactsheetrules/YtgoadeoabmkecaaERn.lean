/-
  Sheets: how many marks the rules bear.
-/
import Derived.Test.YtgoadeoabmkecaaERu
namespace Go.Proofs.Ytgoadeoabmkecaa
open Go.RowKit Go.Deep

theorem cntL_tx : ∀ l : List ByteArray, cntL (txD l) = l.length
  | [] => by simp [txD, cntL]
  | x :: l => by show cntL (.s x :: txD l) = _; rw [cntL, cntL_tx l, List.length_cons]; omega
theorem rules_cnt (s : ByteArray) : cntL ((Pl.rulesOf s).flatMap ruD) ≤ 1000000000 := by
  unfold Pl.rulesOf
  split
  · simp [Pl.kTeamR, ruD, cntL, cntL_tx]
  · split
    · simp [Pl.kBerthR, ruD, cntL, cntL_tx]
    · split
      · simp [Pl.kServiceR, ruD, cntL, cntL_tx]
      · simp [cntL]

end Go.Proofs.Ytgoadeoabmkecaa
