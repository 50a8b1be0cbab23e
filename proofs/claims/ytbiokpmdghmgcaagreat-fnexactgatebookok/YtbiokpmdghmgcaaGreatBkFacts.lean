import Derived.JoinedOf
import Derived.Test.YtbiokpmdghmgcaaGreatRows
import Derived.Test.YtbiokpmdghmgcaaGreatBl
namespace Go.Proofs.YtbiokpmdghmgcaaGreat
theorem qK:Tryz.pinned.checked.prog.funcNamed Rows.fnExactGateBookOkRow.func=some 3:=by kernel_rfl
theorem pg:joinedFacts Tryz.pinned.checked.prog 3 Tryz.f3 Rows.fnExactGateBookOkSpec Rows.fnExactGateBookOkRow=true:=by kernel_rfl
theorem rY:Tryz.f3.isInstance Tryz.pinned.checked.prog Rows.fnExactGateBookOkRow.origin Rows.fnExactGateBookOkRow.targs:=of_decide_eq_true (by kernel_rfl)
theorem rf:Tryz.f3.isWrapper Tryz.pinned.checked.prog Rows.fnExactGateBookOkRow.wrapper Rows.fnExactGateBookOkRow.mainSum:=by
 unfold Func.isWrapper
 first|(rw[if_pos (by decide+kernel)];kernel_rfl)|(rw[if_neg (by decide+kernel)];exact⟨rfl,rfl⟩)
end Go.Proofs.YtbiokpmdghmgcaaGreat
