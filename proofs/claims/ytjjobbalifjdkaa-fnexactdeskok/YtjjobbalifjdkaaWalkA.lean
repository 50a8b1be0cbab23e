/-
  Walks over functions of texts alone: names and bytes.
-/
import Derived.Test.YtjjobbalifjdkaaProg
import Derived.RowKit
import Derived.WalkKit
import Derived.WalkSpells
import Derived.WalkLawsBesides
import Derived.Test.YtjjobbalifjdkaaPlain
namespace Go.Proofs.Ytjjobbalifjdkaa
open Go.RowKit

set_option maxHeartbeats 400000 in
theorem l1In_any (n lo hi : Int) (w : World) :
    Calls Try.prog 11 #[.int .i64 n, .int .i64 lo, .int .i64 hi] w fun e w' => e = .returned (.bool (decide (lo ≤ n) && decide (n ≤ hi))) ∧ w = w' := by
  by_cases h : lo ≤ n
  · go_enter Try.func11, Try.ntmps11
    go_wp2
    go_ret
    exact ⟨Pl.ret_bool (by simp [h]), rfl⟩
  · go_enter Try.func11, Try.ntmps11
    go_wp2
    go_ret
    exact ⟨Pl.ret_bool (by rw [Bool.eq_iff_iff]; simp; omega), rfl⟩

set_option maxHeartbeats 400000 in
theorem l1Byte_any (c : UInt8) (w : World) :
    Calls Try.prog 12 #[.int .u8 c.toNat] w fun e w' => e = .returned (.bool (Pl.nameByte c)) ∧ w = w' := by
  go_enter Try.func12, Try.ntmps12
  go_wp2
  all_goals go_ret
  all_goals exact ⟨Pl.ret_bool (by rw [Bool.eq_iff_iff]; simp [Pl.nameByte]; omega), rfl⟩

set_option maxHeartbeats 400000 in
theorem l1NameOk_any (s : ByteArray) (w : World) (hs : s.size ≤ maxLen) :
    Calls Try.prog 8 #[.string s] w fun e w' => e = .returned (.bool (Pl.nameOk s)) ∧ w = w' := by
  unfold maxLen at hs
  by_cases hin : 1 ≤ s.size ∧ s.size ≤ 16
  · obtain ⟨h1, h2⟩ := hin
    have hb : (decide ((1 : Int) ≤ (s.size : Int)) && decide ((s.size : Int) ≤ 16)) = true := by simp; omega
    go_enter Try.func8, Try.ntmps8
    go_wp2_with (go_at_call 11; refine (l1In_any _ _ _ _).mono ?_; rintro e w' ⟨rfl, rfl⟩)
    go_loop [3] (fun i => ∃ k : Nat, k ≤ s.size ∧ i = .int .i64 k ∧ (s.data.toList.take k).all Pl.nameByte = true) (fun i => s.size - (intOf i).toNat)
    case atStart => exact ⟨0, Nat.zero_le _, rfl, rfl⟩
    case round =>
      obtain ⟨k, hk, rfl, hall⟩ := hrel
      have HA : Hid ((s.data.toList.take k).all Pl.nameByte = true) := hall
      clear hall
      by_cases hlt : k < s.size
      · by_cases hn : Pl.nameByte s[k] = true
        · go_wp2_with (go_at_call 12; refine (l1Byte_any _ _).mono ?_; rintro e w' ⟨rfl, rfl⟩)
          go_round
          case rel => exact ⟨k + 1, by omega, by go_num, by rw [Pl.all_snoc _ _ _ hlt, HA.out, hn]; rfl⟩
          case measure => simp [intOf]; omega
        · have hn' : Pl.nameByte s[k] = false := by simpa using hn
          have HF : Hid (Pl.nameOk s = false) := by show Pl.nameOk s = false; simp [Pl.nameOk, Pl.nameBytes, Pl.all_false _ s k hlt hn']
          go_wp2_with (go_at_call 12; refine (l1Byte_any _ _).mono ?_; rintro e w' ⟨rfl, rfl⟩)
          go_ret
          exact ⟨Pl.ret_bool HF.out.symm, rfl⟩
      · have HF : Hid (Pl.nameOk s = true) := by
          show Pl.nameOk s = true
          have := Pl.all_whole Pl.nameByte s k (by omega)
          simp only [Pl.nameOk, Pl.nameBytes, ← this, HA.out]
          simp; omega
        go_wp2
        go_ret
        exact ⟨Pl.ret_bool HF.out.symm, rfl⟩
  · have HF : Hid (Pl.nameOk s = false) := by
      show Pl.nameOk s = false
      have : (decide (1 ≤ s.size) && decide (s.size ≤ 16)) = false := by
        rw [Bool.eq_false_iff]; simp; omega
      simp [Pl.nameOk, this]
    have hb : (decide ((1 : Int) ≤ (s.size : Int)) && decide ((s.size : Int) ≤ 16)) = false := by
      rw [Bool.eq_false_iff]; simp; omega
    clear hin
    go_enter Try.func8, Try.ntmps8
    go_wp2_with (go_at_call 11; refine (l1In_any _ _ _ _).mono ?_; rintro e w' ⟨rfl, rfl⟩)
    go_ret
    exact ⟨Pl.ret_bool HF.out.symm, rfl⟩

set_option maxHeartbeats 1000000 in
theorem nameBytes_any (s : ByteArray) (w : World) (hs : s.size ≤ maxLen) :
    Calls Try.prog 13 #[.string s] w fun e w' => e = .returned (.bool (Pl.nameBytes s)) ∧ w = w' := by
  unfold maxLen at hs
  go_enter Try.func13, Try.ntmps13
  go_wp2
  go_loop [7] (fun i => ∃ k : Nat, k ≤ s.size ∧ i = .int .i64 k ∧ (s.data.toList.take k).all Pl.nameByte = true) (fun i => s.size - (intOf i).toNat)
  case atStart => exact ⟨0, Nat.zero_le _, rfl, rfl⟩
  case round =>
    obtain ⟨k, hk, rfl, hall⟩ := hrel
    have HA : Hid ((s.data.toList.take k).all Pl.nameByte = true) := hall
    clear hall
    by_cases hlt : k < s.size
    · go_wp2
      all_goals simp only [Bool.not_eq_eq_eq_not, Bool.not_true, Bool.not_false, beq_iff_eq, beq_eq_false_iff_ne, decide_eq_true_eq, decide_eq_false_iff_not] at *
      all_goals first
        | (go_ret
           have hn : Pl.nameByte s[k] = false := by rw [Bool.eq_false_iff]; simp [Pl.nameByte]; omega
           exact ⟨Pl.ret_bool (Pl.all_false _ s k hlt hn).symm, rfl⟩)
        | (have hn : Pl.nameByte s[k] = true := by simp [Pl.nameByte]; omega
           go_round
           case rel => exact ⟨k + 1, by omega, by go_num, by rw [Pl.all_snoc _ _ _ hlt, HA.out, hn]; rfl⟩
           case measure => simp [intOf]; omega)
    · have HF : Hid (Pl.nameBytes s = true) := by
        show Pl.nameBytes s = true
        have := Pl.all_whole Pl.nameByte s k (by omega)
        simp only [Pl.nameBytes, ← this, HA.out]
      go_wp2
      go_ret
      exact ⟨Pl.ret_bool HF.out.symm, rfl⟩

set_option maxHeartbeats 400000 in
theorem isName_any (s : ByteArray) (w : World) (hs : s.size ≤ maxLen) :
    Calls Try.prog 10 #[.string s] w fun e w' => e = .returned (.bool (Pl.nameOk s)) ∧ w = w' := by
  have hs' := hs
  unfold maxLen at hs
  by_cases h1 : 1 ≤ s.size
  · by_cases h2 : s.size ≤ 16
    · have HF : Hid (Pl.nameOk s = Pl.nameBytes s) := by show Pl.nameOk s = Pl.nameBytes s; simp [Pl.nameOk, h1, h2]
      go_enter Try.func10, Try.ntmps10
      go_wp2_with (go_at_call 13; refine (nameBytes_any _ _ hs').mono ?_; rintro e w' ⟨rfl, rfl⟩)
      go_ret
      exact ⟨Pl.ret_bool HF.out.symm, rfl⟩
    · have HF : Hid (Pl.nameOk s = false) := by show Pl.nameOk s = false; simp [Pl.nameOk, h2]
      go_enter Try.func10, Try.ntmps10
      go_wp2
      go_ret
      exact ⟨Pl.ret_bool HF.out.symm, rfl⟩
  · have HF : Hid (Pl.nameOk s = false) := by show Pl.nameOk s = false; simp [Pl.nameOk, h1]
    go_enter Try.func10, Try.ntmps10
    go_wp2
    go_ret
    exact ⟨Pl.ret_bool HF.out.symm, rfl⟩

end Go.Proofs.Ytjjobbalifjdkaa
