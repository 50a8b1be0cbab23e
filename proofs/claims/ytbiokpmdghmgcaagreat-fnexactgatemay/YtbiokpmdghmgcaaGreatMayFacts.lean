import Derived.JoinedOf
import Derived.Test.YtbiokpmdghmgcaaGreatRows
import Derived.Test.YtbiokpmdghmgcaaGreatBl
namespace Go.Proofs.YtbiokpmdghmgcaaGreat
theorem xQ:Tryz.pinned.checked.prog.funcNamed Rows.fnExactGateMayRow.func=some 4:=by kernel_rfl
theorem uX:joinedFacts Tryz.pinned.checked.prog 4 Tryz.f4 Rows.fnExactGateMaySpec Rows.fnExactGateMayRow=true:=by kernel_rfl
theorem Af:Tryz.f4.isInstance Tryz.pinned.checked.prog Rows.fnExactGateMayRow.origin Rows.fnExactGateMayRow.targs:=of_decide_eq_true (by kernel_rfl)
theorem AD:Tryz.f4.isWrapper Tryz.pinned.checked.prog Rows.fnExactGateMayRow.wrapper Rows.fnExactGateMayRow.mainSum:=by
 unfold Func.isWrapper
 first|(rw[if_pos (by decide+kernel)];kernel_rfl)|(rw[if_neg (by decide+kernel)];exact⟨rfl,rfl⟩)
end Go.Proofs.YtbiokpmdghmgcaaGreat
