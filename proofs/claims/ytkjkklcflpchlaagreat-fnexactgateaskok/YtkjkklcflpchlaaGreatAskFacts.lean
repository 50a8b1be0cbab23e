/-
  The law of GateAskOk: facts of its row.
-/
import Derived.JoinedOf
import Derived.Test.YtkjkklcflpchlaaGreatRows
namespace Go.Proofs.YtkjkklcflpchlaaGreat

theorem askOk_named : Tryz.pinned.checked.prog.funcNamed Rows.fnExactGateAskOkRow.func = some 3 := by kernel_rfl
theorem askOk_closed : joinedFacts Tryz.pinned.checked.prog 3 Tryz.f3 Rows.fnExactGateAskOkSpec Rows.fnExactGateAskOkRow = true := by kernel_rfl
theorem askOk_inst : Tryz.f3.isInstance Tryz.pinned.checked.prog Rows.fnExactGateAskOkRow.origin Rows.fnExactGateAskOkRow.targs := of_decide_eq_true (by kernel_rfl)
theorem askOk_wrap : Tryz.f3.isWrapper Tryz.pinned.checked.prog Rows.fnExactGateAskOkRow.wrapper Rows.fnExactGateAskOkRow.mainSum := by
  unfold Func.isWrapper
  first | (rw [if_pos (by decide +kernel)]; kernel_rfl) | (rw [if_neg (by decide +kernel)]; exact ⟨rfl, rfl⟩)

end Go.Proofs.YtkjkklcflpchlaaGreat
