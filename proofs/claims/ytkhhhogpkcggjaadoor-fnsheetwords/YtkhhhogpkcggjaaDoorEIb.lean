/-
  Sheets: bytes that stand for themselves, bare words: the program.
-/
import Derived.Test.YtkhhhogpkcggjaaDoorEBy
import Derived.Test.YtkhhhogpkcggjaaDoorEPw
namespace Go.Proofs.YtkhhhogpkcggjaaDoor
open Go.RowKit Go.Deep

set_option maxHeartbeats 1000000 in
theorem sheetIsPlainI (c : UInt8) (w : World) :
    Calls Tryd.prog 26 #[.int .u8 c.toNat] w fun e w' => e = .returned (.bool (Pl.selfB c)) ∧ w = w' := by
  go_enter Tryd.func26, Tryd.ntmps26
  go_wp2
  all_goals go_ret
  all_goals exact ⟨Pl.ret_bool (by rw [Bool.eq_iff_iff]; simp [Pl.selfB] at *; omega), rfl⟩

set_option maxHeartbeats 1000000 in
theorem sheetIsBareI (c : UInt8) (w : World) :
    Calls Tryd.prog 31 #[.int .u8 c.toNat] w fun e w' => e = .returned (.bool (Pl.bareB c)) ∧ w = w' := by
  have HE : Hid (Pl.bareB c = (Pl.selfB c && (c.toNat != 32) && (c.toNat != 35))) := by
    show _ = _
    rw [Bool.eq_iff_iff]; simp [Pl.bareB, Pl.selfB]; omega
  obtain ⟨B, hB⟩ : ∃ B, B = Pl.selfB c := ⟨_, rfl⟩
  have HC : Hid (Calls Tryd.prog 26 #[.int .u8 c.toNat] w fun e w' => e = .returned (.bool B) ∧ w = w') := by
    rw [hB]; exact sheetIsPlainI c w
  rw [← hB] at HE
  clear hB
  go_enter Tryd.func31, Tryd.ntmps31
  cases B
  all_goals go_wp2_with (go_at_call 26; refine HC.out.mono ?_; rintro e w' ⟨rfl, rfl⟩)
  all_goals go_ret
  all_goals exact ⟨Pl.ret_bool (by rw [HE.out, Bool.eq_iff_iff]; simp at *; try omega), rfl⟩

set_option maxRecDepth 8000 in
set_option maxHeartbeats 4000000 in
theorem bareScanI (s : ByteArray) (w : World) (hs : s.size ≤ 1048576) :
    Calls Tryd.prog 25 #[.agg #[], .string s] w fun e w' => ∃ p, p ≤ s.size ∧ s.data.toList.takeWhile Pl.bareB = s.data.toList.take p ∧ e = .returned (.tuple #[.string (s.extract 0 p), .string (s.extract p s.size), .bool (decide (0 < p))]) ∧ Below w.heap.size w w' := by
  go_enter Tryd.func25, Tryd.ntmps25
  go_wp2
  go_loop [7] (fun i => ∃ k : Nat, k ≤ s.size ∧ i = .int .i64 k ∧ Hid (∀ j (h : j < s.size), j < k → Pl.bareB s[j] = true)) (fun i => s.size - (intOf i).toNat)
  case atStart => exact ⟨0, Nat.zero_le _, rfl, fun j _ h => by omega⟩
  case round =>
    obtain ⟨k, hk, rfl, HA⟩ := hrel
    by_cases hlt : k < s.size
    · obtain ⟨c, hc⟩ : ∃ c, c = Pl.bareB s[k] := ⟨_, rfl⟩
      have HK := uh hc
      have HC : Hid (∀ w, Calls Tryd.prog 31 #[.int .u8 s[k].toNat] w fun e w' => e = .returned (.bool c) ∧ w = w') := by
        rw [hc]; exact fun w => sheetIsBareI _ w
      clear hc
      cases c
      · go_wp2_with (go_at_call 31; refine (HC.out _).mono ?_; rintro e w' ⟨rfl, rfl⟩)
        have HT : Hid (s.data.toList.takeWhile Pl.bareB = s.data.toList.take k) := Pl.tw_stop _ _ (by rw [Pl.len_data]; exact hk) (fun i hi hij => HA.out i (by rw [Pl.len_data] at hi; exact hi) hij) (fun hh => HK.out.symm)
        clear HA HK HC
        go_region
        all_goals go_wp2
        all_goals go_ret3
        all_goals refine ⟨k, hk, HT.out, rfl, ?_⟩
        all_goals repeat (first | exact Below.refl _ _ | refine blw_alloc ?_ _ | refine Below.drew ?_)
      · go_wp2_with (go_at_call 31; refine (HC.out _).mono ?_; rintro e w' ⟨rfl, rfl⟩)
        go_round
        case rel => exact ⟨k + 1, by omega, by go_num, fun j h hj => by rcases Nat.lt_succ_iff_lt_or_eq.1 hj with q | rfl; exact HA.out j h q; exact HK.out.symm⟩
        case measure => simp [intOf]; omega
    · have HT : Hid (s.data.toList.takeWhile Pl.bareB = s.data.toList.take k) := Pl.tw_stop _ _ (by rw [Pl.len_data]; exact hk) (fun i hi hij => HA.out i (by rw [Pl.len_data] at hi; exact hi) hij) (fun hh => absurd (show k < s.size by rw [Pl.len_data] at hh; exact hh) hlt)
      clear HA
      go_wp2
      go_region
      all_goals go_wp2
      all_goals go_ret3
      all_goals refine ⟨k, hk, HT.out, rfl, ?_⟩
      all_goals repeat (first | exact Below.refl _ _ | refine blw_alloc ?_ _ | refine Below.drew ?_)

end Go.Proofs.YtkhhhogpkcggjaaDoor
