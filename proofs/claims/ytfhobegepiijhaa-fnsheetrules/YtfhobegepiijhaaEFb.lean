/-
  Sheets: numbers, what a word of a type is: the specification.
-/
import Derived.Test.YtfhobegepiijhaaEFa
namespace Go.Proofs.Ytfhobegepiijhaa
open Go.RowKit Go.Deep

set_option maxHeartbeats 4000000 in
theorem l38NumberOkS (s : ByteArray) (w : World) (hs : s.size ≤ maxLen) :
    Calls Try.prog 26 #[.string s] w fun e w' => e = .returned (.bool (Pl.numOk s)) ∧ Below w.heap.size w w' := by
  unfold maxLen at hs
  by_cases hin : 1 ≤ s.size ∧ s.size ≤ 7
  · obtain ⟨h1, h7⟩ := hin
    have hb : (decide ((1 : Int) ≤ (s.size : Int)) && decide ((s.size : Int) ≤ 7)) = true := by simp; omega
    go_enter Try.func26, Try.ntmps26
    go_wp2_with (go_at_call 34; refine (l37In_any _ _ _ _).mono ?_; rintro e w' ⟨rfl, rfl⟩)
    go_loop [3, 4] (fun n i => ∃ k : Nat, k ≤ s.size ∧ i = .int .i64 k ∧ n = .int .i64 (Pl.decVal (s.data.toList.take k)) ∧ (s.data.toList.take k).all Pl.digit = true) (fun _ i => s.size - (intOf i).toNat)
    case atStart => exact ⟨0, Nat.zero_le _, rfl, rfl, rfl⟩
    case round =>
      obtain ⟨k, hk, rfl, rfl, hall⟩ := hrel
      have hbd := Pl.decVal_small s k hk (by omega) hall
      obtain ⟨b1, b2⟩ := hbd
      have HA : Hid ((s.data.toList.take k).all Pl.digit = true) := hall
      clear hall
      by_cases hlt : k < s.size
      · have HS : Hid (Pl.decVal (s.data.toList.take (k + 1)) = Pl.decVal (s.data.toList.take k) * 10 + ((s[k].toNat : Int) - 48)) := Pl.decVal_take s k hlt
        by_cases hd : 48 ≤ (s[k].toNat : Int) ∧ (s[k].toNat : Int) ≤ 57
        · obtain ⟨d1, d2⟩ := hd
          have d3 : ¬ (s[k].toNat : Int) < 48 := by omega
          have d4 : ¬ (57 : Int) < (s[k].toNat : Int) := by omega
          go_wp2
          go_round
          case rel => exact ⟨k + 1, by omega, by go_num, by first | (rw [HS.out]; go_num) | rw [HS.out], by rw [Pl.all_snoc _ _ _ hlt, HA.out]; simp [Pl.digit]; omega⟩
          case measure => simp [intOf]; omega
        · have HF : Hid (Pl.numOk s = false) := by
            show Pl.numOk s = false
            have : s.data.toList.all Pl.digit = false := Pl.all_false _ s k hlt (by rw [Bool.eq_false_iff]; simp [Pl.digit]; omega)
            simp [Pl.numOk, Pl.decOk, this]
          by_cases hd1 : (s[k].toNat : Int) < 48
          · go_wp2
            go_ret
            exact ⟨Pl.ret_bool HF.out.symm, Below.refl _ _⟩
          · have hd2 : (57 : Int) < (s[k].toNat : Int) := by omega
            go_wp2
            go_ret
            exact ⟨Pl.ret_bool HF.out.symm, Below.refl _ _⟩
      · have e : s.data.toList.take k = s.data.toList := List.take_of_length_le (by simp; omega)
        rw [e] at HA b1 b2
        rw [e]
        have HEQ := uh (Pl.num_eq s h1 HA.out)
        have HOK : Hid (Pl.numOk s = ((!Pl.lead s) && decide (Pl.decVal s.data.toList ≤ 1000000))) := by
          show _ = _
          simp [Pl.numOk, Pl.decOk, HA.out, h1, h7]
        obtain ⟨v, hv⟩ : ∃ v, v = (Pl.decVal s.data.toList).toNat := ⟨_, rfl⟩
        have hvv : Pl.decVal s.data.toList = (v : Int) := by omega
        rw [hvv] at HOK HEQ
        rw [hvv]
        have hv2 : v ≤ 1000000000 := by omega
        have HC := uh (fun W => l38Dec v hv2 W)
        obtain ⟨L, hL⟩ : ∃ L, L = Pl.lead s := ⟨_, rfl⟩
        rw [← hL] at HOK HEQ
        have hT : ((⟨(Lib.decDigits v).toArray⟩ : ByteArray).toList == s.toList) = !L := by
          rw [Pl.tl, Pl.tl]; simpa using HEQ.out
        obtain ⟨D, hD⟩ : ∃ D : ByteArray, D = ⟨(Lib.decDigits v).toArray⟩ := ⟨_, rfl⟩
        rw [← hD] at HC hT
        clear hD hL hvv hv e b1 b2 HA HEQ
        cases L
        · have hT2 : (D.toList == s.toList) = true := hT
          clear hT
          go_wp2_with (go_at_call 35; refine (HC.out _).mono ?_; rintro e w' ⟨rfl, hbl⟩)
          go_ret
          exact ⟨Pl.ret_bool (by rw [HOK.out]; simp), hbl⟩
        · have hT2 : (D.toList == s.toList) = false := hT
          clear hT
          have HF : Hid (Pl.numOk s = false) := by show _ = _; rw [HOK.out]; rfl
          go_wp2_with (go_at_call 35; refine (HC.out _).mono ?_; rintro e w' ⟨rfl, hbl⟩)
          go_ret
          exact ⟨Pl.ret_bool HF.out.symm, hbl⟩
  · have HF : Hid (Pl.numOk s = false) := by
      show Pl.numOk s = false
      have : (decide (1 ≤ s.size) && decide (s.size ≤ 7)) = false := by
        rw [Bool.eq_false_iff]; simp; omega
      simp [Pl.numOk, Pl.decOk, this]
    have hb : (decide ((1 : Int) ≤ (s.size : Int)) && decide ((s.size : Int) ≤ 7)) = false := by
      rw [Bool.eq_false_iff]; simp; omega
    clear hin
    go_enter Try.func26, Try.ntmps26
    go_wp2_with (go_at_call 34; refine (l37In_any _ _ _ _).mono ?_; rintro e w' ⟨rfl, rfl⟩)
    go_ret
    exact ⟨Pl.ret_bool HF.out.symm, Below.refl _ _⟩

end Go.Proofs.Ytfhobegepiijhaa
