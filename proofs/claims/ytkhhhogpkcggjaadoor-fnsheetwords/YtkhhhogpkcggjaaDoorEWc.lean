/-
  Sheets: hexadecimal digits: the specification.
-/
import Derived.Test.YtkhhhogpkcggjaaDoorEBy
namespace Go.Proofs.YtkhhhogpkcggjaaDoor
open Go.RowKit Go.Deep

set_option maxHeartbeats 1000000 in
theorem l37Hex_any (c : UInt8) (w : World) :
    Calls Tryd.prog 24 #[.int .u8 c.toNat] w fun e w' => e = .returned (.int .i64 (Pl.hexV c)) ∧ w = w' := by
  have h8 := Pl.u8lt c
  by_cases h1 : 48 ≤ c.toNat ∧ c.toNat ≤ 57
  · have HE : Hid ((c.toNat : Int) - 48 = Pl.hexV c) := by show _ = _; rw [Pl.hexV, if_pos h1]
    obtain ⟨a1, a2⟩ := h1
    go_enter Tryd.func24, Tryd.ntmps24
    go_wp2
    go_ret
    exact ⟨Pl.ret_int (by first | exact HE.out | (rw [← HE.out]; go_num)), rfl⟩
  by_cases h2 : 97 ≤ c.toNat ∧ c.toNat ≤ 102
  · have HE : Hid ((c.toNat : Int) - 87 = Pl.hexV c) := by show _ = _; rw [Pl.hexV, if_neg h1, if_pos h2]
    obtain ⟨a1, a2⟩ := h2
    have a3 : ¬ c.toNat ≤ 57 := by omega
    go_enter Tryd.func24, Tryd.ntmps24
    go_wp2
    go_ret
    exact ⟨Pl.ret_int (by first | exact HE.out | (rw [← HE.out]; go_num)), rfl⟩
  have HE : Hid (-1 = Pl.hexV c) := by show _ = _; rw [Pl.hexV, if_neg h1, if_neg h2]
  by_cases b1 : 48 ≤ c.toNat
  all_goals by_cases b2 : 97 ≤ c.toNat
  all_goals first | (exfalso; omega) | skip
  all_goals
    (try have b3 : ¬ c.toNat ≤ 57 := by omega)
    (try have b4 : ¬ c.toNat ≤ 102 := by omega)
    clear h1 h2
    go_enter Tryd.func24, Tryd.ntmps24
    go_wp2
    go_ret
    exact ⟨Pl.ret_int HE.out, rfl⟩

end Go.Proofs.YtkhhhogpkcggjaaDoor
