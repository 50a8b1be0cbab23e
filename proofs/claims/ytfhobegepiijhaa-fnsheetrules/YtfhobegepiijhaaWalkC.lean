/-
  Walks over gateDecimal.
-/
import Derived.Test.YtfhobegepiijhaaProg
import Derived.RowKit
import Derived.WalkKit
import Derived.WalkSpells
import Derived.WalkLawsBesides
import Derived.Test.YtfhobegepiijhaaPlain
import Derived.Test.YtfhobegepiijhaaPlainB
namespace Go.Proofs.Ytfhobegepiijhaa
open Go.RowKit

set_option maxHeartbeats 1000000 in
theorem nameBytes_any (s : ByteArray) (w : World) (hs : s.size ≤ maxLen) :
    Calls Try.prog 39 #[.string s] w fun e w' => e = .returned (.bool (Pl.nameBytes s)) ∧ w = w' := by
  unfold maxLen at hs
  go_enter Try.func39, Try.ntmps39
  go_wp2
  go_loop [7] (fun i => ∃ k : Nat, k ≤ s.size ∧ i = .int .i64 k ∧ (s.data.toList.take k).all Pl.nameByte = true) (fun i => s.size - (intOf i).toNat)
  case atStart => exact ⟨0, Nat.zero_le _, rfl, rfl⟩
  case round =>
    obtain ⟨k, hk, rfl, hall⟩ := hrel
    have HA : Hid ((s.data.toList.take k).all Pl.nameByte = true) := hall
    clear hall
    by_cases hlt : k < s.size
    · go_wp2
      all_goals simp only [Bool.not_eq_eq_eq_not, Bool.not_true, Bool.not_false, beq_iff_eq, beq_eq_false_iff_ne, decide_eq_true_eq, decide_eq_false_iff_not] at *
      all_goals first
        | (go_ret
           have hn : Pl.nameByte s[k] = false := by rw [Bool.eq_false_iff]; simp [Pl.nameByte]; omega
           exact ⟨Pl.ret_bool (Pl.all_false _ s k hlt hn).symm, rfl⟩)
        | (have hn : Pl.nameByte s[k] = true := by simp [Pl.nameByte]; omega
           go_round
           case rel => exact ⟨k + 1, by omega, by go_num, by rw [Pl.all_snoc _ _ _ hlt, HA.out, hn]; rfl⟩
           case measure => simp [intOf]; omega)
    · have HF : Hid (Pl.nameBytes s = true) := by
        show Pl.nameBytes s = true
        have := Pl.all_whole Pl.nameByte s k (by omega)
        simp only [Pl.nameBytes, ← this, HA.out]
      go_wp2
      go_ret
      exact ⟨Pl.ret_bool HF.out.symm, rfl⟩

end Go.Proofs.Ytfhobegepiijhaa

namespace Go.Proofs.Ytfhobegepiijhaa
open Go.RowKit

theorem ret_dec {a b : Int} {c d : Bool} (h : a = b) (g : c = d) : Ending.returned (.tuple #[.int .i64 a, .bool c]) = .returned (.tuple #[.int .i64 b, .bool d]) := by rw [h, g]

def decOut (s : ByteArray) : Int := if Pl.decOk s then Pl.decVal s.data.toList else 0

set_option maxHeartbeats 1000000 in
theorem decimal_loop (s : ByteArray) (w : World) (h1 : 1 ≤ s.size) (h7 : s.size ≤ 7) (hl : Pl.lead s = false) :
    Calls Try.prog 36 #[.string s] w fun e w' => e = .returned (.tuple #[.int .i64 (decOut s), .bool (Pl.decOk s)]) ∧ w = w' := by
  have hemp := Pl.empty_no s h1
  have HN : Hid (Pl.lead s = false) := hl
  have HB : Hid ((s[0].toNat : Int) = 48 → (s.toList == [48]) = true) := by
    intro h0
    rw [Pl.lead_of s (by omega), Pl.byte_beq] at hl
    have hne : ¬ 1 < s.size := by
      intro h2
      simp [h2] at hl
      omega
    refine Pl.one_byte s (by omega) 48 ?_
    rw [Pl.head_eq s (by omega)]
    have : s[0].toNat = 48 := by omega
    exact UInt8.toNat_inj.1 (by simpa using this)
  clear hl
  have hd7 : decide ((7 : Int) < (s.size : Int)) = false := by simp; omega
  have H0 : Hid ((((s[0].toNat : Int) == 48) = true ∧ (s.toList == [48]) = true) ∨ ((s[0].toNat : Int) == 48) = false) := by
    by_cases h0 : (s[0].toNat : Int) = 48
    · exact Or.inl ⟨by simp [h0], HB.out h0⟩
    · exact Or.inr (by simp [h0])
  clear HB
  rcases H0.out with ⟨h0b, hb⟩ | h0b
  all_goals
    clear H0
    go_enter Try.func36, Try.ntmps36
    go_wp2
    go_loop [4, 24] (fun n i => ∃ k : Nat, k ≤ s.size ∧ i = .int .i64 k ∧ n = .int .i64 (Pl.decVal (s.data.toList.take k)) ∧ (s.data.toList.take k).all Pl.digit = true) (fun _ i => s.size - (intOf i).toNat)
    case atStart => exact ⟨0, Nat.zero_le _, rfl, rfl, rfl⟩
    case round =>
      obtain ⟨k, hk, rfl, rfl, hall⟩ := hrel
      have hbd := Pl.decVal_small s k hk (by omega) hall
      obtain ⟨b1, b2⟩ := hbd
      have HA : Hid ((s.data.toList.take k).all Pl.digit = true) := hall
      clear hall
      by_cases hlt : k < s.size
      · have HS : Hid (Pl.decVal (s.data.toList.take (k + 1)) = Pl.decVal (s.data.toList.take k) * 10 + ((s[k].toNat : Int) - 48)) := Pl.decVal_take s k hlt
        by_cases hd : 48 ≤ (s[k].toNat : Int) ∧ (s[k].toNat : Int) ≤ 57
        · obtain ⟨d1, d2⟩ := hd
          go_wp2
          go_round
          case rel => exact ⟨k + 1, by omega, by go_num, by rw [HS.out], by rw [Pl.all_snoc _ _ _ hlt, HA.out]; simp [Pl.digit]; omega⟩
          case measure => simp [intOf]; omega
        · have HF : Hid (Pl.decOk s = false) := by
            show Pl.decOk s = false
            have : s.data.toList.all Pl.digit = false := Pl.all_false _ s k hlt (by rw [Bool.eq_false_iff]; simp [Pl.digit]; omega)
            simp [Pl.decOk, this]
          by_cases hd1 : 48 ≤ (s[k].toNat : Int)
          all_goals
            go_wp2
            go_ret2
            exact ⟨ret_dec (by simp [decOut, HF.out]) HF.out.symm, rfl⟩
      · have HF : Hid (Pl.decOk s = true ∧ Pl.decVal s.data.toList = Pl.decVal (s.data.toList.take k)) := by
          show Pl.decOk s = true ∧ Pl.decVal s.data.toList = Pl.decVal (s.data.toList.take k)
          have e : s.data.toList.take k = s.data.toList := List.take_of_length_le (by simp; omega)
          have ha := HA.out
          rw [e] at ha ⊢
          refine ⟨?_, rfl⟩
          simp [Pl.decOk, ha, HN.out]
          omega
        go_wp2
        go_ret2
        exact ⟨ret_dec (by simp [decOut, HF.out.1, HF.out.2]) HF.out.1.symm, rfl⟩

set_option maxHeartbeats 1000000 in
theorem decimal_any (s : ByteArray) (w : World) (hs : s.size ≤ maxLen) :
    Calls Try.prog 36 #[.string s] w fun e w' => e = .returned (.tuple #[.int .i64 (decOut s), .bool (Pl.decOk s)]) ∧ w = w' := by
  unfold maxLen at hs
  by_cases h1 : 1 ≤ s.size
  · have hemp := Pl.empty_no s h1
    by_cases h7 : s.size ≤ 7
    · cases hl : Pl.lead s
      · exact decimal_loop s w h1 h7 hl
      · have HF : Hid (Pl.decOk s = false) := by show Pl.decOk s = false; simp [Pl.decOk, hl]
        have hd7 : decide ((7 : Int) < (s.size : Int)) = false := by simp; omega
        rw [Pl.lead_of s (by omega), Pl.byte_beq] at hl
        simp only [Bool.and_eq_true, decide_eq_true_eq] at hl
        obtain ⟨h2, h0⟩ := hl
        have h0' : ((s[0].toNat : Int) == 48) = true := h0
        have hb := Pl.more_bytes s h2 48
        clear h0
        go_enter Try.func36, Try.ntmps36
        go_wp2
        go_ret2
        exact ⟨ret_dec (by simp [decOut, HF.out]) HF.out.symm, rfl⟩
    · have HF : Hid (Pl.decOk s = false) := by show Pl.decOk s = false; simp [Pl.decOk, h7]
      have hd7 : decide ((7 : Int) < (s.size : Int)) = true := by simp; omega
      go_enter Try.func36, Try.ntmps36
      go_wp2
      go_ret2
      exact ⟨ret_dec (by simp [decOut, HF.out]) HF.out.symm, rfl⟩
  · have HF : Hid (Pl.decOk s = false) := by show Pl.decOk s = false; simp [Pl.decOk, h1]
    have hemp := Pl.empty_yes s h1
    go_enter Try.func36, Try.ntmps36
    go_wp2
    go_ret2
    exact ⟨ret_dec (by simp [decOut, HF.out]) HF.out.symm, rfl⟩
end Go.Proofs.Ytfhobegepiijhaa
