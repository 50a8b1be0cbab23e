/-
  Sheets: bare bytes, digits, how a word is written: the specification.
-/
import Derived.Test.YtkhhhogpkcggjaaDoorProg
import Derived.RowKit
import Derived.WalkKit
import Derived.WalkSpells
import Derived.WalkLawsBesides
import Derived.Laws.IdiomStrings
import Derived.Deep.RegionHeldLaw
import Derived.Test.YtkhhhogpkcggjaaDoorEPl
import Derived.Test.YtkhhhogpkcggjaaDoorUG
namespace Go.Proofs.YtkhhhogpkcggjaaDoor
open Go.RowKit Go.Deep

set_option maxHeartbeats 1000000 in
theorem l37Bare_any (c : UInt8) (w : World) :
    Calls Tryd.prog 20 #[.int .u8 c.toNat] w fun e w' => e = .returned (.bool (Pl.bareB c)) ∧ w = w' := by
  go_enter Tryd.func20, Tryd.ntmps20
  go_wp2
  all_goals go_ret
  all_goals exact ⟨Pl.ret_bool (by rw [Bool.eq_iff_iff]; simp [Pl.bareB] at *; omega), rfl⟩

end Go.Proofs.YtkhhhogpkcggjaaDoor
