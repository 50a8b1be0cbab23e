/-
  Recorders: slots and disks that are ok, by the specification.
-/
import Derived.Test.YtnjomikieiocpaaClr
namespace Go.Proofs.Ytnjomikieiocpaa
open Go.RowKit Go.Deep

set_option maxHeartbeats 400000 in
theorem l21InS (n lo hi : Int) (w : World) :
    Calls Try.prog 9 #[.int .i64 n, .int .i64 lo, .int .i64 hi] w fun e w' => e = .returned (.bool (inB n lo hi)) ∧ w = w' := by
  unfold inB
  by_cases h : lo ≤ n
  · go_enter Try.func9, Try.ntmps9
    go_wp2
    go_ret
    exact ⟨Pl.ret_bool (by simp [h]), rfl⟩
  · go_enter Try.func9, Try.ntmps9
    go_wp2
    go_ret
    exact ⟨Pl.ret_bool (by rw [Bool.eq_iff_iff]; simp; omega), rfl⟩

end Go.Proofs.Ytnjomikieiocpaa
