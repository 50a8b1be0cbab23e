/-
  Sheets: bare bytes, digits, how a word is written: the specification.
-/
import Derived.Test.YtfhobegepiijhaaProg
import Derived.RowKit
import Derived.WalkKit
import Derived.WalkSpells
import Derived.WalkLawsBesides
import Derived.Laws.IdiomStrings
import Derived.Deep.RegionHeldLaw
import Derived.Test.YtfhobegepiijhaaEPl
import Derived.Test.YtfhobegepiijhaaUG
namespace Go.Proofs.Ytfhobegepiijhaa
open Go.RowKit Go.Deep

set_option maxHeartbeats 1000000 in
theorem l37In_any (n lo hi : Int) (w : World) :
    Calls Try.prog 34 #[.int .i64 n, .int .i64 lo, .int .i64 hi] w fun e w' => e = .returned (.bool (decide (lo ≤ n) && decide (n ≤ hi))) ∧ w = w' := by
  by_cases h : lo ≤ n
  all_goals
    go_enter Try.func34, Try.ntmps34
    go_wp2
    go_ret
    exact ⟨Pl.ret_bool (by rw [Bool.eq_iff_iff]; simp; try omega), rfl⟩

end Go.Proofs.Ytfhobegepiijhaa
