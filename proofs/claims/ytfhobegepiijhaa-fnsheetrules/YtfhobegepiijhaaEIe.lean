/-
  Sheets: what a word is: the program.
-/
import Derived.Test.YtfhobegepiijhaaWalkC
import Derived.Test.YtfhobegepiijhaaEPn
import Derived.Test.YtfhobegepiijhaaEWa
namespace Go.Proofs.Ytfhobegepiijhaa
open Go.RowKit Go.Deep

set_option maxHeartbeats 1000000 in
theorem gateWithinE (n lo hi : Int) (w : World) :
    Calls Try.prog 38 #[.int .i64 n, .int .i64 lo, .int .i64 hi] w fun e w' => e = .returned (.bool (decide (lo ≤ n) && decide (n ≤ hi))) ∧ w = w' := by
  by_cases h : lo ≤ n
  all_goals
    go_enter Try.func38, Try.ntmps38
    go_wp2
    go_ret
    exact ⟨Pl.ret_bool (by rw [Bool.eq_iff_iff]; simp; try omega), rfl⟩

set_option maxHeartbeats 1000000 in
theorem sheetIsNumberI (s : ByteArray) (w : World) (hs : s.size ≤ maxLen) :
    Calls Try.prog 30 #[.string s] w fun e w' => e = .returned (.bool (Pl.numOk s)) ∧ w = w' := by
  have HC := uh (decimal_any s w hs)
  have HN : Hid (Pl.numOk s = (Pl.decOk s && decide (decOut s ≤ 1000000))) := by
    show _ = _
    unfold Pl.numOk decOut
    cases Pl.decOk s <;> simp
  obtain ⟨d, hd⟩ : ∃ d, d = decOut s := ⟨_, rfl⟩
  obtain ⟨b, hb⟩ : ∃ b, b = Pl.decOk s := ⟨_, rfl⟩
  rw [← hd, ← hb] at HC HN
  clear hd hb
  go_enter Try.func30, Try.ntmps30
  cases b
  all_goals go_wp2_with (go_at_call 36; refine HC.out.mono ?_; rintro e w' ⟨rfl, rfl⟩)
  all_goals go_ret
  all_goals exact ⟨Pl.ret_bool (by rw [HN.out]; simp), rfl⟩

set_option maxHeartbeats 1000000 in
theorem sheetIsNameI (s : ByteArray) (w : World) (hs : s.size ≤ maxLen) :
    Calls Try.prog 32 #[.string s] w fun e w' => e = .returned (.bool (Pl.nameOk20 s)) ∧ w = w' := by
  have HC := uh (nameBytes_any s w hs)
  have HG := uh (gateWithinE s.size 1 20 w)
  have HN : Hid (Pl.nameOk20 s = ((decide ((1 : Int) ≤ (s.size : Int)) && decide ((s.size : Int) ≤ 20)) && Pl.nameBytes s)) := by
    show _ = _
    unfold Pl.nameOk20
    congr 1
    rw [Bool.eq_iff_iff]; simp; omega
  obtain ⟨b, hb⟩ : ∃ b, b = (decide ((1 : Int) ≤ (s.size : Int)) && decide ((s.size : Int) ≤ 20)) := ⟨_, rfl⟩
  rw [← hb] at HG HN
  clear hb
  unfold maxLen at hs
  go_enter Try.func32, Try.ntmps32
  cases b
  all_goals go_wp2_with (first | (go_at_call 38; refine HG.out.mono ?_; rintro e w' ⟨rfl, rfl⟩) | (go_at_call 39; refine HC.out.mono ?_; rintro e w' ⟨rfl, rfl⟩))
  all_goals go_ret
  all_goals exact ⟨Pl.ret_bool (by rw [HN.out]; simp), rfl⟩

def Pl.minus (s : ByteArray) : Bool := decide (1 ≤ s.size) && (s.data.toList.headD 0 == 45)
theorem Pl.minus_no (s : ByteArray) (h : ¬ 1 ≤ s.size) : Pl.minus s = false := by unfold Pl.minus; simp [h]
theorem Pl.minus_eq (s : ByteArray) (h : 1 ≤ s.size) : ((s.extract 0 1).toList == [45]) = Pl.minus s := by
  unfold Pl.minus
  rw [Pl.tl]
  have e : (s.extract 0 1).data.toList = s.data.toList.take 1 := by simp [ByteArray.data_extract]
  rw [e]
  cases hl : s.data.toList with
  | nil =>
    have := Pl.len_data s
    rw [hl] at this; simp at this; omega
  | cons c l => simp [h]

set_option maxHeartbeats 1000000 in
theorem hasMinusI (s : ByteArray) (w : World) (hs : s.size ≤ maxLen) :
    Calls Try.prog 41 #[.string s, .string { data := #[45] }] w fun e w' => e = .returned (.bool (Pl.minus s)) ∧ w = w' := by
  unfold maxLen at hs
  by_cases h1 : 1 ≤ s.size
  · have HE := uh (Pl.minus_eq s h1)
    have h2 : decide ((1 : Int) ≤ (s.size : Int)) = true := by simp; omega
    go_enter Try.func41, Try.ntmps41
    go_wp2
    go_ret
    exact ⟨Pl.ret_bool HE.out, rfl⟩
  · have HE := uh (Pl.minus_no s h1)
    have h2 : decide ((1 : Int) ≤ (s.size : Int)) = false := by simp; omega
    go_enter Try.func41, Try.ntmps41
    go_wp2
    go_ret
    exact ⟨Pl.ret_bool HE.out.symm, rfl⟩

theorem Pl.minus_size {s : ByteArray} (h : Pl.minus s = true) : 1 ≤ s.size := by
  unfold Pl.minus at h; simp at h; exact h.1
def Pl.rest (s : ByteArray) : ByteArray := if Pl.minus s then s.extract 1 s.size else s
set_option maxHeartbeats 1000000 in
theorem cutMinusL (s : ByteArray) (w : World) (hs : s.size ≤ maxLen) :
    Calls Try.prog 40 #[.string s, .string { data := #[45] }] w fun e w' => e = .returned (.tuple #[.string (Pl.rest s), .bool (Pl.minus s)]) ∧ w = w' := by
  have HC := uh (hasMinusI s w hs)
  unfold maxLen at hs
  cases hm : Pl.minus s
  · rw [hm] at HC
    have HR : Hid (Pl.rest s = s) := by show _ = _; unfold Pl.rest; rw [hm]; rfl
    go_enter Try.func40, Try.ntmps40
    go_wp2_with (go_at_call 41; refine HC.out.mono ?_; rintro e w' ⟨rfl, rfl⟩)
    go_ret2
    rw [HR.out]
    exact ⟨rfl, rfl⟩
  · have h1 := Pl.minus_size hm
    rw [hm] at HC
    have HR : Hid (Pl.rest s = s.extract 1 s.size) := by show _ = _; unfold Pl.rest; rw [hm]; rfl
    go_enter Try.func40, Try.ntmps40
    go_wp2_with (go_at_call 41; refine HC.out.mono ?_; rintro e w' ⟨rfl, rfl⟩)
    go_ret2
    rw [HR.out]
    exact ⟨rfl, rfl⟩
set_option maxHeartbeats 1000000 in
theorem cutMinusI (s : ByteArray) (w : World) (hs : s.size ≤ maxLen) :
    Calls Try.prog 37 #[.string s, .string { data := #[45] }] w fun e w' => e = .returned (.tuple #[.string (Pl.rest s), .bool (Pl.minus s)]) ∧ w = w' := by
  have HC := uh (cutMinusL s w hs)
  go_enter Try.func37, Try.ntmps37
  go_wp2_with (go_at_call 40; refine HC.out.mono ?_; rintro e w' ⟨rfl, rfl⟩)
  go_ret2
  exact ⟨rfl, rfl⟩

theorem Pl.sgn_eq (s : ByteArray) : Pl.sgnOk s = (Pl.numOk (Pl.rest s) && !(Pl.minus s && ((Pl.rest s).toList == [48]))) := by
  unfold Pl.sgnOk Pl.rest
  cases hm : Pl.minus s
  · have : (decide (1 < s.size) && (s.data.toList.headD 0 == 45)) = false := by
      unfold Pl.minus at hm
      rw [Bool.eq_false_iff] at hm ⊢
      intro h
      apply hm
      simp only [Bool.and_eq_true, decide_eq_true_eq] at h ⊢
      exact ⟨by omega, h.2⟩
    rw [this]; simp
  · have h1 := Pl.minus_size hm
    have h45 : (s.data.toList.headD 0 == 45) = true := by unfold Pl.minus at hm; rw [Bool.and_eq_true] at hm; exact hm.2
    have hn : Pl.numOk s = false := by
      unfold Pl.numOk Pl.decOk
      have : s.data.toList.all Pl.digit = false := by
        cases hl : s.data.toList with
        | nil => have := Pl.len_data s; rw [hl] at this; simp at this; omega
        | cons c l =>
          rw [hl] at h45
          simp at h45
          rw [h45]; rfl
      simp [this]
    rw [hn, h45]
    by_cases h2 : 1 < s.size
    · simp [h2, Bool.and_comm]
    · have e0 : (s.extract 1 s.size).size = 0 := by simp [ByteArray.size_extract]; omega
      have hr : Pl.numOk (s.extract 1 s.size) = false := by unfold Pl.numOk Pl.decOk; rw [e0]; simp
      simp [h2, hr]

set_option maxHeartbeats 1000000 in
theorem sheetIsSignedI (s : ByteArray) (w : World) (hs : s.size ≤ maxLen) :
    Calls Try.prog 31 #[.string s] w fun e w' => e = .returned (.bool (Pl.sgnOk s)) ∧ w = w' := by
  have HC := uh (cutMinusI s w hs)
  have hr : (Pl.rest s).size ≤ maxLen := by
    unfold Pl.rest; split
    · simp [ByteArray.size_extract]; omega
    · exact hs
  have HN := uh (sheetIsNumberI (Pl.rest s) w hr)
  have HE := uh (Pl.sgn_eq s)
  obtain ⟨r, hr'⟩ : ∃ r, r = Pl.rest s := ⟨_, rfl⟩
  obtain ⟨m, hm⟩ : ∃ m, m = Pl.minus s := ⟨_, rfl⟩
  obtain ⟨b, hb⟩ : ∃ b, b = Pl.numOk r := ⟨_, rfl⟩
  rw [← hr', ← hm] at HC HE
  rw [← hr', ← hb] at HN
  rw [← hb] at HE
  clear hr' hm hb hr
  go_enter Try.func31, Try.ntmps31
  cases b <;> cases m
  all_goals go_wp2_with (first | (go_at_call 37; refine HC.out.mono ?_; rintro e w' ⟨rfl, rfl⟩) | (go_at_call 30; refine HN.out.mono ?_; rintro e w' ⟨rfl, rfl⟩))
  all_goals go_ret
  all_goals exact ⟨Pl.ret_bool (by rw [HE.out]; simp), rfl⟩

set_option maxRecDepth 8000 in
set_option maxHeartbeats 4000000 in
theorem sheetTypeFitsI (t : Int) (s : ByteArray) (w : World) (hs : s.size ≤ maxLen) (ht : 1 ≤ t ∧ t ≤ 6) :
    Calls Try.prog 23 #[.int .i64 t, .string s] w fun e w' => e = .returned (.bool (Pl.fitsT t s)) ∧ w = w' := by
  have H1 := uh (sheetIsNumberI s w hs)
  have H2 := uh (sheetIsSignedI s w hs)
  have H3 := uh (sheetIsNameI s w hs)
  unfold maxLen at hs
  have hc : t = 1 ∨ t = 2 ∨ t = 3 ∨ t = 4 ∨ t = 5 ∨ t = 6 := by omega
  clear ht
  rcases hc with rfl | rfl | rfl | rfl | rfl | rfl
  · go_enter Try.func23, Try.ntmps23
    go_wp2_with (go_at_call 30; refine H1.out.mono ?_; rintro e w' ⟨rfl, rfl⟩)
    go_ret
    exact ⟨rfl, rfl⟩
  · go_enter Try.func23, Try.ntmps23
    go_wp2_with (go_at_call 31; refine H2.out.mono ?_; rintro e w' ⟨rfl, rfl⟩)
    go_ret
    exact ⟨rfl, rfl⟩
  · go_enter Try.func23, Try.ntmps23
    go_wp2_with (go_at_call 32; refine H3.out.mono ?_; rintro e w' ⟨rfl, rfl⟩)
    go_ret
    exact ⟨rfl, rfl⟩
  · go_enter Try.func23, Try.ntmps23
    go_wp2
    go_ret
    exact ⟨Pl.ret_bool (by show _ = decide (s.size ≤ 200); rw [Bool.eq_iff_iff]; simp; omega), rfl⟩
  · have HF : Hid (Pl.fitsT 5 s = ((s.toList == [121, 101, 115]) || (s.toList == [110, 111]))) := rfl
    cases h1 : (s.toList == [121, 101, 115])
    all_goals
      rw [h1] at HF
      go_enter Try.func23, Try.ntmps23
      go_wp2
      go_ret
      exact ⟨Pl.ret_bool (by rw [HF.out]; simp), rfl⟩
  · have HF : Hid (Pl.fitsT 6 s = ((s.toList == [110, 111, 110, 101]) || (s.toList == [98, 101, 114, 116, 104]) || (s.toList == [122, 111, 110, 101]))) := rfl
    cases h1 : (s.toList == [110, 111, 110, 101]) <;> cases h2 : (s.toList == [98, 101, 114, 116, 104])
    all_goals
      rw [h1, h2] at HF
      go_enter Try.func23, Try.ntmps23
      go_wp2
      go_ret
      exact ⟨Pl.ret_bool (by rw [HF.out]; simp), rfl⟩

end Go.Proofs.Ytfhobegepiijhaa
