/-
  The law of GateSlipOk: facts of its row.
-/
import Derived.JoinedOf
import Derived.Test.YtkjkklcflpchlaaGreatRows
namespace Go.Proofs.YtkjkklcflpchlaaGreat

theorem slipOk_named : Tryz.pinned.checked.prog.funcNamed Rows.fnExactGateSlipOkRow.func = some 4 := by kernel_rfl
theorem slipOk_closed : joinedFacts Tryz.pinned.checked.prog 4 Tryz.f4 Rows.fnExactGateSlipOkSpec Rows.fnExactGateSlipOkRow = true := by kernel_rfl
theorem slipOk_inst : Tryz.f4.isInstance Tryz.pinned.checked.prog Rows.fnExactGateSlipOkRow.origin Rows.fnExactGateSlipOkRow.targs := of_decide_eq_true (by kernel_rfl)
theorem slipOk_wrap : Tryz.f4.isWrapper Tryz.pinned.checked.prog Rows.fnExactGateSlipOkRow.wrapper Rows.fnExactGateSlipOkRow.mainSum := by
  unfold Func.isWrapper
  first | (rw [if_pos (by decide +kernel)]; kernel_rfl) | (rw [if_neg (by decide +kernel)]; exact ⟨rfl, rfl⟩)

end Go.Proofs.YtkjkklcflpchlaaGreat
