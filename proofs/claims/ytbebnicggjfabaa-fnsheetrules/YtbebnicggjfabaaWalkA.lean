/-
  Walks over functions of texts alone: names and bytes.
-/
import Derived.Test.YtbebnicggjfabaaProg
import Derived.RowKit
import Derived.WalkKit
import Derived.WalkSpells
import Derived.WalkLawsBesides
import Derived.Test.YtbebnicggjfabaaPlain
namespace Go.Proofs.Ytbebnicggjfabaa
open Go.RowKit

set_option maxHeartbeats 1000000 in
theorem nameBytes_any (s : ByteArray) (w : World) (hs : s.size ≤ maxLen) :
    Calls Try.prog 37 #[.string s] w fun e w' => e = .returned (.bool (Pl.nameBytes s)) ∧ w = w' := by
  unfold maxLen at hs
  go_enter Try.func37, Try.ntmps37
  go_wp2
  go_loop [7] (fun i => ∃ k : Nat, k ≤ s.size ∧ i = .int .i64 k ∧ (s.data.toList.take k).all Pl.nameByte = true) (fun i => s.size - (intOf i).toNat)
  case atStart => exact ⟨0, Nat.zero_le _, rfl, rfl⟩
  case round =>
    obtain ⟨k, hk, rfl, hall⟩ := hrel
    have HA : Hid ((s.data.toList.take k).all Pl.nameByte = true) := hall
    clear hall
    by_cases hlt : k < s.size
    · go_wp2
      all_goals simp only [Bool.not_eq_eq_eq_not, Bool.not_true, Bool.not_false, beq_iff_eq, beq_eq_false_iff_ne, decide_eq_true_eq, decide_eq_false_iff_not] at *
      all_goals first
        | (go_ret
           have hn : Pl.nameByte s[k] = false := by rw [Bool.eq_false_iff]; simp [Pl.nameByte]; omega
           exact ⟨Pl.ret_bool (Pl.all_false _ s k hlt hn).symm, rfl⟩)
        | (have hn : Pl.nameByte s[k] = true := by simp [Pl.nameByte]; omega
           go_round
           case rel => exact ⟨k + 1, by omega, by go_num, by rw [Pl.all_snoc _ _ _ hlt, HA.out, hn]; rfl⟩
           case measure => simp [intOf]; omega)
    · have HF : Hid (Pl.nameBytes s = true) := by
        show Pl.nameBytes s = true
        have := Pl.all_whole Pl.nameByte s k (by omega)
        simp only [Pl.nameBytes, ← this, HA.out]
      go_wp2
      go_ret
      exact ⟨Pl.ret_bool HF.out.symm, rfl⟩

end Go.Proofs.Ytbebnicggjfabaa
