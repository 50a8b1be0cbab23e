/-
  Walks: equality of acts.
-/
import Derived.Test.YtikfcnmhfoknlaaDoorOwn
import Derived.Test.YtikfcnmhfoknlaaDoorPlain
namespace Go.Proofs.YtikfcnmhfoknlaaDoor
open Go.RowKit Go.Deep

set_option maxHeartbeats 1000000 in
theorem eqAct (v : Int) (k t n : ByteArray) (w : World) :
    Calls Tryd.prog 12 #[.agg #[.int .i64 v, .string k, .string t, .string n], .agg #[.int .i64 v, .string k, .string t, .string n]] w fun e w' => e = .returned (.bool true) ∧ Below w.heap.size w w' := by
  go_enter Tryd.func12, Tryd.ntmps12
  go_wp2
  go_ret
  exact ⟨rfl, blw_alloc (blw_alloc (Below.refl _ _) _) _⟩

end Go.Proofs.YtikfcnmhfoknlaaDoor
