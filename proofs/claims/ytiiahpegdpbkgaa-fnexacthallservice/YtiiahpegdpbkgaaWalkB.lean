/-
  Walks over decimals.
-/
import Derived.Test.YtiiahpegdpbkgaaWalkA
import Derived.Test.YtiiahpegdpbkgaaPlainB
namespace Go.Proofs.Ytiiahpegdpbkgaa
open Go.RowKit

set_option maxHeartbeats 1000000 in
theorem l1Number_loop (s : ByteArray) (w : World) (h1 : 1 ≤ s.size) (h7 : s.size ≤ 7) (hl : Pl.lead s = false) :
    Calls Try.prog 18 #[.string s] w fun e w' => e = .returned (.int .i64 (Pl.numb s)) ∧ w = w' := by
  have hb : (decide ((1 : Int) ≤ (s.size : Int)) && decide ((s.size : Int) ≤ 7)) = true := by simp; omega
  have HN : Hid (Pl.lead s = false) := hl
  rw [Pl.lead_of s (by omega), Pl.byte_beq] at hl
  have HL : Hid ((decide (1 < s.size) && ((s[0].toNat : Int) == 48)) = false) := hl
  clear hl
  by_cases h2 : 1 < s.size
  all_goals
    try have h0 : ((s[0].toNat : Int) == 48) = false := by simpa [h2] using HL.out
    go_enter Try.func18, Try.ntmps18
    go_wp2_with (go_at_call 19; refine (l1In_any _ _ _ _).mono ?_; rintro e w' ⟨rfl, rfl⟩)
    go_loop [3, 4] (fun n i => ∃ k : Nat, k ≤ s.size ∧ i = .int .i64 k ∧ n = .int .i64 (Pl.decVal (s.data.toList.take k)) ∧ (s.data.toList.take k).all Pl.digit = true) (fun _ i => s.size - (intOf i).toNat)
    case atStart => exact ⟨0, Nat.zero_le _, rfl, rfl, rfl⟩
    case round =>
      obtain ⟨k, hk, rfl, rfl, hall⟩ := hrel
      have hbd := Pl.decVal_small s k hk (by omega) hall
      obtain ⟨b1, b2⟩ := hbd
      have HA : Hid ((s.data.toList.take k).all Pl.digit = true) := hall
      clear hall
      by_cases hlt : k < s.size
      · have HS : Hid (Pl.decVal (s.data.toList.take (k + 1)) = Pl.decVal (s.data.toList.take k) * 10 + ((s[k].toNat : Int) - 48)) := Pl.decVal_take s k hlt
        by_cases hd : 48 ≤ (s[k].toNat : Int) ∧ (s[k].toNat : Int) ≤ 57
        · obtain ⟨d1, d2⟩ := hd
          go_wp2
          go_round
          case rel => exact ⟨k + 1, by omega, by go_num, by rw [HS.out]; go_num, by rw [Pl.all_snoc _ _ _ hlt, HA.out]; simp [Pl.digit]; omega⟩
          case measure => simp [intOf]; omega
        · have HF : Hid (Pl.numb s = -1) := by
            show Pl.numb s = -1
            have : s.data.toList.all Pl.digit = false := Pl.all_false _ s k hlt (by rw [Bool.eq_false_iff]; simp [Pl.digit]; omega)
            simp [Pl.numb, Pl.decOk, this]
          by_cases hd1 : 48 ≤ (s[k].toNat : Int)
          all_goals
            go_wp2
            go_ret
            exact ⟨Pl.ret_int HF.out.symm, rfl⟩
      · have HF : Hid (Pl.numb s = Pl.decVal (s.data.toList.take k)) := by
          show Pl.numb s = Pl.decVal (s.data.toList.take k)
          have e : s.data.toList.take k = s.data.toList := List.take_of_length_le (by simp; omega)
          have ha := HA.out
          rw [e] at ha ⊢
          simp [Pl.numb, Pl.decOk, ha, HN.out]
          omega
        go_wp2
        go_ret
        exact ⟨Pl.ret_int HF.out.symm, rfl⟩

set_option maxHeartbeats 1000000 in
theorem l1Number_any (s : ByteArray) (w : World) (hs : s.size ≤ maxLen) :
    Calls Try.prog 18 #[.string s] w fun e w' => e = .returned (.int .i64 (Pl.numb s)) ∧ w = w' := by
  unfold maxLen at hs
  by_cases hin : 1 ≤ s.size ∧ s.size ≤ 7
  · obtain ⟨h1, h7⟩ := hin
    cases hl : Pl.lead s
    · exact l1Number_loop s w h1 h7 hl
    · have HF : Hid (Pl.numb s = -1) := by show Pl.numb s = -1; simp [Pl.numb, Pl.decOk, hl]
      have hb : (decide ((1 : Int) ≤ (s.size : Int)) && decide ((s.size : Int) ≤ 7)) = true := by simp; omega
      rw [Pl.lead_of s (by omega), Pl.byte_beq] at hl
      simp only [Bool.and_eq_true, decide_eq_true_eq] at hl
      obtain ⟨h2, h0⟩ := hl
      have h0' : ((s[0].toNat : Int) == 48) = true := h0
      clear h0
      go_enter Try.func18, Try.ntmps18
      go_wp2_with (go_at_call 19; refine (l1In_any _ _ _ _).mono ?_; rintro e w' ⟨rfl, rfl⟩)
      go_ret
      exact ⟨Pl.ret_int HF.out.symm, rfl⟩
  · have HF : Hid (Pl.numb s = -1) := by
      show Pl.numb s = -1
      have : (decide (1 ≤ s.size) && decide (s.size ≤ 7)) = false := by
        rw [Bool.eq_false_iff]; simp; omega
      simp [Pl.numb, Pl.decOk, this]
    have hb : (decide ((1 : Int) ≤ (s.size : Int)) && decide ((s.size : Int) ≤ 7)) = false := by
      rw [Bool.eq_false_iff]; simp; omega
    clear hin
    go_enter Try.func18, Try.ntmps18
    go_wp2_with (go_at_call 19; refine (l1In_any _ _ _ _).mono ?_; rintro e w' ⟨rfl, rfl⟩)
    go_ret
    exact ⟨Pl.ret_int HF.out.symm, rfl⟩

end Go.Proofs.Ytiiahpegdpbkgaa
