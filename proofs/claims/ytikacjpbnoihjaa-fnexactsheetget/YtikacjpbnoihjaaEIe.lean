/-
  Sheets: what a word is: the program.
-/
import Derived.Test.YtikacjpbnoihjaaProg
import Derived.RowKit
import Derived.WalkKit
import Derived.WalkSpells
import Derived.WalkLawsBesides
import Derived.Test.YtikacjpbnoihjaaPlain
import Derived.Test.YtikacjpbnoihjaaEPn
import Derived.Test.YtikacjpbnoihjaaEWa
import Derived.Test.YtikacjpbnoihjaaEPl
namespace Go.Proofs.Ytikacjpbnoihjaa
open Go.RowKit

set_option maxHeartbeats 1000000 in
theorem nameBytes_any (s : ByteArray) (w : World) (hs : s.size ≤ maxLen) :
    Calls Try.prog 58 #[.string s] w fun e w' => e = .returned (.bool (Pl.nameBytes s)) ∧ w = w' := by
  unfold maxLen at hs
  go_enter Try.func58, Try.ntmps58
  go_wp2
  go_loop [7] (fun i => ∃ k : Nat, k ≤ s.size ∧ i = .int .i64 k ∧ (s.data.toList.take k).all Pl.nameByte = true) (fun i => s.size - (intOf i).toNat)
  case atStart => exact ⟨0, Nat.zero_le _, rfl, rfl⟩
  case round =>
    obtain ⟨k, hk, rfl, hall⟩ := hrel
    have HA : Hid ((s.data.toList.take k).all Pl.nameByte = true) := hall
    clear hall
    by_cases hlt : k < s.size
    · go_wp2
      all_goals simp only [Bool.not_eq_eq_eq_not, Bool.not_true, Bool.not_false, beq_iff_eq, beq_eq_false_iff_ne, decide_eq_true_eq, decide_eq_false_iff_not] at *
      all_goals first
        | (go_ret
           have hn : Pl.nameByte s[k] = false := by rw [Bool.eq_false_iff]; simp [Pl.nameByte]; omega
           exact ⟨Pl.ret_bool (Pl.all_false _ s k hlt hn).symm, rfl⟩)
        | (have hn : Pl.nameByte s[k] = true := by simp [Pl.nameByte]; omega
           go_round
           case rel => exact ⟨k + 1, by omega, by go_num, by rw [Pl.all_snoc _ _ _ hlt, HA.out, hn]; rfl⟩
           case measure => simp [intOf]; omega)
    · have HF : Hid (Pl.nameBytes s = true) := by
        show Pl.nameBytes s = true
        have := Pl.all_whole Pl.nameByte s k (by omega)
        simp only [Pl.nameBytes, ← this, HA.out]
      go_wp2
      go_ret
      exact ⟨Pl.ret_bool HF.out.symm, rfl⟩

end Go.Proofs.Ytikacjpbnoihjaa

namespace Go.Proofs.Ytikacjpbnoihjaa
open Go.RowKit

theorem ret_dec {a b : Int} {c d : Bool} (h : a = b) (g : c = d) : Ending.returned (.tuple #[.int .i64 a, .bool c]) = .returned (.tuple #[.int .i64 b, .bool d]) := by rw [h, g]

def decOut (s : ByteArray) : Int := if Pl.decOk s then Pl.decVal s.data.toList else 0

set_option maxHeartbeats 1000000 in
theorem decimal_loop (s : ByteArray) (w : World) (h1 : 1 ≤ s.size) (h7 : s.size ≤ 7) (hl : Pl.lead s = false) :
    Calls Try.prog 82 #[.string s] w fun e w' => e = .returned (.tuple #[.int .i64 (decOut s), .bool (Pl.decOk s)]) ∧ w = w' := by
  have hemp := Pl.empty_no s h1
  have HN : Hid (Pl.lead s = false) := hl
  have HB : Hid ((s[0].toNat : Int) = 48 → (s.toList == [48]) = true) := by
    intro h0
    rw [Pl.lead_of s (by omega), Pl.byte_beq] at hl
    have hne : ¬ 1 < s.size := by
      intro h2
      simp [h2] at hl
      omega
    refine Pl.one_byte s (by omega) 48 ?_
    rw [Pl.head_eq s (by omega)]
    have : s[0].toNat = 48 := by omega
    exact UInt8.toNat_inj.1 (by simpa using this)
  clear hl
  have hd7 : decide ((7 : Int) < (s.size : Int)) = false := by simp; omega
  have H0 : Hid ((((s[0].toNat : Int) == 48) = true ∧ (s.toList == [48]) = true) ∨ ((s[0].toNat : Int) == 48) = false) := by
    by_cases h0 : (s[0].toNat : Int) = 48
    · exact Or.inl ⟨by simp [h0], HB.out h0⟩
    · exact Or.inr (by simp [h0])
  clear HB
  rcases H0.out with ⟨h0b, hb⟩ | h0b
  all_goals
    clear H0
    go_enter Try.func82, Try.ntmps82
    go_wp2
    go_loop [4, 24] (fun n i => ∃ k : Nat, k ≤ s.size ∧ i = .int .i64 k ∧ n = .int .i64 (Pl.decVal (s.data.toList.take k)) ∧ (s.data.toList.take k).all Pl.digit = true) (fun _ i => s.size - (intOf i).toNat)
    case atStart => exact ⟨0, Nat.zero_le _, rfl, rfl, rfl⟩
    case round =>
      obtain ⟨k, hk, rfl, rfl, hall⟩ := hrel
      have hbd := Pl.decVal_small s k hk (by omega) hall
      obtain ⟨b1, b2⟩ := hbd
      have HA : Hid ((s.data.toList.take k).all Pl.digit = true) := hall
      clear hall
      by_cases hlt : k < s.size
      · have HS : Hid (Pl.decVal (s.data.toList.take (k + 1)) = Pl.decVal (s.data.toList.take k) * 10 + ((s[k].toNat : Int) - 48)) := Pl.decVal_take s k hlt
        by_cases hd : 48 ≤ (s[k].toNat : Int) ∧ (s[k].toNat : Int) ≤ 57
        · obtain ⟨d1, d2⟩ := hd
          go_wp2
          go_round
          case rel => exact ⟨k + 1, by omega, by go_num, by rw [HS.out], by rw [Pl.all_snoc _ _ _ hlt, HA.out]; simp [Pl.digit]; omega⟩
          case measure => simp [intOf]; omega
        · have HF : Hid (Pl.decOk s = false) := by
            show Pl.decOk s = false
            have : s.data.toList.all Pl.digit = false := Pl.all_false _ s k hlt (by rw [Bool.eq_false_iff]; simp [Pl.digit]; omega)
            simp [Pl.decOk, this]
          by_cases hd1 : 48 ≤ (s[k].toNat : Int)
          all_goals
            go_wp2
            go_ret2
            exact ⟨ret_dec (by simp [decOut, HF.out]) HF.out.symm, rfl⟩
      · have HF : Hid (Pl.decOk s = true ∧ Pl.decVal s.data.toList = Pl.decVal (s.data.toList.take k)) := by
          show Pl.decOk s = true ∧ Pl.decVal s.data.toList = Pl.decVal (s.data.toList.take k)
          have e : s.data.toList.take k = s.data.toList := List.take_of_length_le (by simp; omega)
          have ha := HA.out
          rw [e] at ha ⊢
          refine ⟨?_, rfl⟩
          simp [Pl.decOk, ha, HN.out]
          omega
        go_wp2
        go_ret2
        exact ⟨ret_dec (by simp [decOut, HF.out.1, HF.out.2]) HF.out.1.symm, rfl⟩

set_option maxHeartbeats 1000000 in
theorem decimal_any (s : ByteArray) (w : World) (hs : s.size ≤ maxLen) :
    Calls Try.prog 82 #[.string s] w fun e w' => e = .returned (.tuple #[.int .i64 (decOut s), .bool (Pl.decOk s)]) ∧ w = w' := by
  unfold maxLen at hs
  by_cases h1 : 1 ≤ s.size
  · have hemp := Pl.empty_no s h1
    by_cases h7 : s.size ≤ 7
    · cases hl : Pl.lead s
      · exact decimal_loop s w h1 h7 hl
      · have HF : Hid (Pl.decOk s = false) := by show Pl.decOk s = false; simp [Pl.decOk, hl]
        have hd7 : decide ((7 : Int) < (s.size : Int)) = false := by simp; omega
        rw [Pl.lead_of s (by omega), Pl.byte_beq] at hl
        simp only [Bool.and_eq_true, decide_eq_true_eq] at hl
        obtain ⟨h2, h0⟩ := hl
        have h0' : ((s[0].toNat : Int) == 48) = true := h0
        have hb := Pl.more_bytes s h2 48
        clear h0
        go_enter Try.func82, Try.ntmps82
        go_wp2
        go_ret2
        exact ⟨ret_dec (by simp [decOut, HF.out]) HF.out.symm, rfl⟩
    · have HF : Hid (Pl.decOk s = false) := by show Pl.decOk s = false; simp [Pl.decOk, h7]
      have hd7 : decide ((7 : Int) < (s.size : Int)) = true := by simp; omega
      go_enter Try.func82, Try.ntmps82
      go_wp2
      go_ret2
      exact ⟨ret_dec (by simp [decOut, HF.out]) HF.out.symm, rfl⟩
  · have HF : Hid (Pl.decOk s = false) := by show Pl.decOk s = false; simp [Pl.decOk, h1]
    have hemp := Pl.empty_yes s h1
    go_enter Try.func82, Try.ntmps82
    go_wp2
    go_ret2
    exact ⟨ret_dec (by simp [decOut, HF.out]) HF.out.symm, rfl⟩
end Go.Proofs.Ytikacjpbnoihjaa

namespace Go.Proofs.Ytikacjpbnoihjaa
open Go.RowKit Go.Deep

set_option maxHeartbeats 1000000 in
theorem gateWithinE (n lo hi : Int) (w : World) :
    Calls Try.prog 57 #[.int .i64 n, .int .i64 lo, .int .i64 hi] w fun e w' => e = .returned (.bool (decide (lo ≤ n) && decide (n ≤ hi))) ∧ w = w' := by
  by_cases h : lo ≤ n
  all_goals
    go_enter Try.func57, Try.ntmps57
    go_wp2
    go_ret
    exact ⟨Pl.ret_bool (by rw [Bool.eq_iff_iff]; simp; try omega), rfl⟩

set_option maxHeartbeats 1000000 in
theorem sheetIsNumberI (s : ByteArray) (w : World) (hs : s.size ≤ maxLen) :
    Calls Try.prog 78 #[.string s] w fun e w' => e = .returned (.bool (Pl.numOk s)) ∧ w = w' := by
  have HC := uh (decimal_any s w hs)
  have HN : Hid (Pl.numOk s = (Pl.decOk s && decide (decOut s ≤ 1000000))) := by
    show _ = _
    unfold Pl.numOk decOut
    cases Pl.decOk s <;> simp
  obtain ⟨d, hd⟩ : ∃ d, d = decOut s := ⟨_, rfl⟩
  obtain ⟨b, hb⟩ : ∃ b, b = Pl.decOk s := ⟨_, rfl⟩
  rw [← hd, ← hb] at HC HN
  clear hd hb
  go_enter Try.func78, Try.ntmps78
  cases b
  all_goals go_wp2_with (go_at_call 82; refine HC.out.mono ?_; rintro e w' ⟨rfl, rfl⟩)
  all_goals go_ret
  all_goals exact ⟨Pl.ret_bool (by rw [HN.out]; simp), rfl⟩

set_option maxHeartbeats 1000000 in
theorem sheetIsNameI (s : ByteArray) (w : World) (hs : s.size ≤ maxLen) :
    Calls Try.prog 41 #[.string s] w fun e w' => e = .returned (.bool (Pl.nameOk20 s)) ∧ w = w' := by
  have HC := uh (nameBytes_any s w hs)
  have HG := uh (gateWithinE s.size 1 20 w)
  have HN : Hid (Pl.nameOk20 s = ((decide ((1 : Int) ≤ (s.size : Int)) && decide ((s.size : Int) ≤ 20)) && Pl.nameBytes s)) := by
    show _ = _
    unfold Pl.nameOk20
    congr 1
    rw [Bool.eq_iff_iff]; simp; omega
  obtain ⟨b, hb⟩ : ∃ b, b = (decide ((1 : Int) ≤ (s.size : Int)) && decide ((s.size : Int) ≤ 20)) := ⟨_, rfl⟩
  rw [← hb] at HG HN
  clear hb
  unfold maxLen at hs
  go_enter Try.func41, Try.ntmps41
  cases b
  all_goals go_wp2_with (first | (go_at_call 57; refine HG.out.mono ?_; rintro e w' ⟨rfl, rfl⟩) | (go_at_call 58; refine HC.out.mono ?_; rintro e w' ⟨rfl, rfl⟩))
  all_goals go_ret
  all_goals exact ⟨Pl.ret_bool (by rw [HN.out]; simp), rfl⟩

def Pl.minus (s : ByteArray) : Bool := decide (1 ≤ s.size) && (s.data.toList.headD 0 == 45)
theorem Pl.minus_no (s : ByteArray) (h : ¬ 1 ≤ s.size) : Pl.minus s = false := by unfold Pl.minus; simp [h]
theorem Pl.minus_eq (s : ByteArray) (h : 1 ≤ s.size) : ((s.extract 0 1).toList == [45]) = Pl.minus s := by
  unfold Pl.minus
  rw [Pl.tl]
  have e : (s.extract 0 1).data.toList = s.data.toList.take 1 := by simp [ByteArray.data_extract]
  rw [e]
  cases hl : s.data.toList with
  | nil =>
    have := Pl.len_data s
    rw [hl] at this; simp at this; omega
  | cons c l => simp [h]

set_option maxHeartbeats 1000000 in
theorem hasMinusI (s : ByteArray) (w : World) (hs : s.size ≤ maxLen) :
    Calls Try.prog 85 #[.string s, .string { data := #[45] }] w fun e w' => e = .returned (.bool (Pl.minus s)) ∧ w = w' := by
  unfold maxLen at hs
  by_cases h1 : 1 ≤ s.size
  · have HE := uh (Pl.minus_eq s h1)
    have h2 : decide ((1 : Int) ≤ (s.size : Int)) = true := by simp; omega
    go_enter Try.func85, Try.ntmps85
    go_wp2
    go_ret
    exact ⟨Pl.ret_bool HE.out, rfl⟩
  · have HE := uh (Pl.minus_no s h1)
    have h2 : decide ((1 : Int) ≤ (s.size : Int)) = false := by simp; omega
    go_enter Try.func85, Try.ntmps85
    go_wp2
    go_ret
    exact ⟨Pl.ret_bool HE.out.symm, rfl⟩

theorem Pl.minus_size {s : ByteArray} (h : Pl.minus s = true) : 1 ≤ s.size := by
  unfold Pl.minus at h; simp at h; exact h.1
def Pl.rest (s : ByteArray) : ByteArray := if Pl.minus s then s.extract 1 s.size else s
set_option maxHeartbeats 1000000 in
theorem cutMinusL (s : ByteArray) (w : World) (hs : s.size ≤ maxLen) :
    Calls Try.prog 84 #[.string s, .string { data := #[45] }] w fun e w' => e = .returned (.tuple #[.string (Pl.rest s), .bool (Pl.minus s)]) ∧ w = w' := by
  have HC := uh (hasMinusI s w hs)
  unfold maxLen at hs
  cases hm : Pl.minus s
  · rw [hm] at HC
    have HR : Hid (Pl.rest s = s) := by show _ = _; unfold Pl.rest; rw [hm]; rfl
    go_enter Try.func84, Try.ntmps84
    go_wp2_with (go_at_call 85; refine HC.out.mono ?_; rintro e w' ⟨rfl, rfl⟩)
    go_ret2
    rw [HR.out]
    exact ⟨rfl, rfl⟩
  · have h1 := Pl.minus_size hm
    rw [hm] at HC
    have HR : Hid (Pl.rest s = s.extract 1 s.size) := by show _ = _; unfold Pl.rest; rw [hm]; rfl
    go_enter Try.func84, Try.ntmps84
    go_wp2_with (go_at_call 85; refine HC.out.mono ?_; rintro e w' ⟨rfl, rfl⟩)
    go_ret2
    rw [HR.out]
    exact ⟨rfl, rfl⟩
set_option maxHeartbeats 1000000 in
theorem cutMinusI (s : ByteArray) (w : World) (hs : s.size ≤ maxLen) :
    Calls Try.prog 83 #[.string s, .string { data := #[45] }] w fun e w' => e = .returned (.tuple #[.string (Pl.rest s), .bool (Pl.minus s)]) ∧ w = w' := by
  have HC := uh (cutMinusL s w hs)
  go_enter Try.func83, Try.ntmps83
  go_wp2_with (go_at_call 84; refine HC.out.mono ?_; rintro e w' ⟨rfl, rfl⟩)
  go_ret2
  exact ⟨rfl, rfl⟩

theorem Pl.sgn_eq (s : ByteArray) : Pl.sgnOk s = (Pl.numOk (Pl.rest s) && !(Pl.minus s && ((Pl.rest s).toList == [48]))) := by
  unfold Pl.sgnOk Pl.rest
  cases hm : Pl.minus s
  · have : (decide (1 < s.size) && (s.data.toList.headD 0 == 45)) = false := by
      unfold Pl.minus at hm
      rw [Bool.eq_false_iff] at hm ⊢
      intro h
      apply hm
      simp only [Bool.and_eq_true, decide_eq_true_eq] at h ⊢
      exact ⟨by omega, h.2⟩
    rw [this]; simp
  · have h1 := Pl.minus_size hm
    have h45 : (s.data.toList.headD 0 == 45) = true := by unfold Pl.minus at hm; rw [Bool.and_eq_true] at hm; exact hm.2
    have hn : Pl.numOk s = false := by
      unfold Pl.numOk Pl.decOk
      have : s.data.toList.all Pl.digit = false := by
        cases hl : s.data.toList with
        | nil => have := Pl.len_data s; rw [hl] at this; simp at this; omega
        | cons c l =>
          rw [hl] at h45
          simp at h45
          rw [h45]; rfl
      simp [this]
    rw [hn, h45]
    by_cases h2 : 1 < s.size
    · simp [h2, Bool.and_comm]
    · have e0 : (s.extract 1 s.size).size = 0 := by simp [ByteArray.size_extract]; omega
      have hr : Pl.numOk (s.extract 1 s.size) = false := by unfold Pl.numOk Pl.decOk; rw [e0]; simp
      simp [h2, hr]

set_option maxHeartbeats 1000000 in
theorem sheetIsSignedI (s : ByteArray) (w : World) (hs : s.size ≤ maxLen) :
    Calls Try.prog 79 #[.string s] w fun e w' => e = .returned (.bool (Pl.sgnOk s)) ∧ w = w' := by
  have HC := uh (cutMinusI s w hs)
  have hr : (Pl.rest s).size ≤ maxLen := by
    unfold Pl.rest; split
    · simp [ByteArray.size_extract]; omega
    · exact hs
  have HN := uh (sheetIsNumberI (Pl.rest s) w hr)
  have HE := uh (Pl.sgn_eq s)
  obtain ⟨r, hr'⟩ : ∃ r, r = Pl.rest s := ⟨_, rfl⟩
  obtain ⟨m, hm⟩ : ∃ m, m = Pl.minus s := ⟨_, rfl⟩
  obtain ⟨b, hb⟩ : ∃ b, b = Pl.numOk r := ⟨_, rfl⟩
  rw [← hr', ← hm] at HC HE
  rw [← hr', ← hb] at HN
  rw [← hb] at HE
  clear hr' hm hb hr
  go_enter Try.func79, Try.ntmps79
  cases b <;> cases m
  all_goals go_wp2_with (first | (go_at_call 83; refine HC.out.mono ?_; rintro e w' ⟨rfl, rfl⟩) | (go_at_call 78; refine HN.out.mono ?_; rintro e w' ⟨rfl, rfl⟩))
  all_goals go_ret
  all_goals exact ⟨Pl.ret_bool (by rw [HE.out]; simp), rfl⟩

set_option maxRecDepth 8000 in
set_option maxHeartbeats 4000000 in
theorem sheetTypeFitsI (t : Int) (s : ByteArray) (w : World) (hs : s.size ≤ maxLen) (ht : 1 ≤ t ∧ t ≤ 6) :
    Calls Try.prog 72 #[.int .i64 t, .string s] w fun e w' => e = .returned (.bool (Pl.fitsT t s)) ∧ w = w' := by
  have H1 := uh (sheetIsNumberI s w hs)
  have H2 := uh (sheetIsSignedI s w hs)
  have H3 := uh (sheetIsNameI s w hs)
  unfold maxLen at hs
  have hc : t = 1 ∨ t = 2 ∨ t = 3 ∨ t = 4 ∨ t = 5 ∨ t = 6 := by omega
  clear ht
  rcases hc with rfl | rfl | rfl | rfl | rfl | rfl
  · go_enter Try.func72, Try.ntmps72
    go_wp2_with (go_at_call 78; refine H1.out.mono ?_; rintro e w' ⟨rfl, rfl⟩)
    go_ret
    exact ⟨rfl, rfl⟩
  · go_enter Try.func72, Try.ntmps72
    go_wp2_with (go_at_call 79; refine H2.out.mono ?_; rintro e w' ⟨rfl, rfl⟩)
    go_ret
    exact ⟨rfl, rfl⟩
  · go_enter Try.func72, Try.ntmps72
    go_wp2_with (go_at_call 41; refine H3.out.mono ?_; rintro e w' ⟨rfl, rfl⟩)
    go_ret
    exact ⟨rfl, rfl⟩
  · go_enter Try.func72, Try.ntmps72
    go_wp2
    go_ret
    exact ⟨Pl.ret_bool (by show _ = decide (s.size ≤ 200); rw [Bool.eq_iff_iff]; simp; omega), rfl⟩
  · have HF : Hid (Pl.fitsT 5 s = ((s.toList == [121, 101, 115]) || (s.toList == [110, 111]))) := rfl
    cases h1 : (s.toList == [121, 101, 115])
    all_goals
      rw [h1] at HF
      go_enter Try.func72, Try.ntmps72
      go_wp2
      go_ret
      exact ⟨Pl.ret_bool (by rw [HF.out]; simp), rfl⟩
  · have HF : Hid (Pl.fitsT 6 s = ((s.toList == [110, 111, 110, 101]) || (s.toList == [98, 101, 114, 116, 104]) || (s.toList == [122, 111, 110, 101]))) := rfl
    cases h1 : (s.toList == [110, 111, 110, 101]) <;> cases h2 : (s.toList == [98, 101, 114, 116, 104])
    all_goals
      rw [h1, h2] at HF
      go_enter Try.func72, Try.ntmps72
      go_wp2
      go_ret
      exact ⟨Pl.ret_bool (by rw [HF.out]; simp), rfl⟩

end Go.Proofs.Ytikacjpbnoihjaa
