/-
  Sheets: what a word of a type is: the specification.
-/
import Derived.Test.YtfhobegepiijhaaEFb
namespace Go.Proofs.Ytfhobegepiijhaa
open Go.RowKit Go.Deep

theorem head45 (s : ByteArray) (h : 0 < s.size) : (s.data.toList.headD 0 == 45) = ((s[0].toNat : Int) == 45) := by
  rw [Pl.head_eq s h, Pl.byte_beq]; rfl
set_option maxHeartbeats 4000000 in
theorem l38FitsSg (s : ByteArray) (w : World) (hs : s.size ≤ maxLen) :
    Calls Try.prog 21 #[.int .i64 2, .string s] w fun e w' => e = .returned (.bool (Pl.fitsT 2 s)) ∧ Below w.heap.size w w' := by
  have HF : Hid (Pl.fitsT 2 s = Pl.sgnOk s) := by show _ = _; unfold Pl.fitsT; rw [if_neg (by decide), if_pos rfl]
  have HC1 := uh (fun W => l38NumberOkS s W hs)
  have hxs : (s.extract 1 s.size).size ≤ maxLen := by rw [ByteArray.size_extract]; omega
  have HC2 := uh (fun W => l38NumberOkS (s.extract 1 s.size) W hxs)
  have HSG : Hid (Pl.sgnOk s = (Pl.numOk s || (decide (1 < s.size) && (s.data.toList.headD 0 == 45) && !((s.extract 1 s.size).toList == [48]) && Pl.numOk (s.extract 1 s.size)))) := rfl
  unfold maxLen at hs
  obtain ⟨n1, hn1⟩ : ∃ n, n = Pl.numOk s := ⟨_, rfl⟩
  obtain ⟨n2, hn2⟩ : ∃ n, n = Pl.numOk (s.extract 1 s.size) := ⟨_, rfl⟩
  rw [← hn1] at HC1 HSG
  rw [← hn2] at HC2 HSG
  clear hn1 hn2 hxs
  cases n1
  rotate_left
  · go_enter Try.func21, Try.ntmps21
    go_wp2_with (go_at_call 26; refine (HC1.out _).mono ?_; rintro e w' ⟨rfl, hb⟩)
    go_ret
    exact ⟨Pl.ret_bool (by rw [HF.out, HSG.out]; rfl), hb⟩
  by_cases h1 : 1 < s.size
  rotate_left
  · go_enter Try.func21, Try.ntmps21
    go_wp2_with (go_at_call 26; refine (HC1.out _).mono ?_; rintro e w' ⟨rfl, hb⟩)
    go_ret
    exact ⟨Pl.ret_bool (by rw [HF.out, HSG.out]; simp [h1]), hb⟩
  have HH := uh (head45 s (by omega))
  obtain ⟨X, hX⟩ : ∃ X, X = s.extract 1 s.size := ⟨_, rfl⟩
  have hXx : s.extract 1 s.size = X := hX.symm
  rw [hXx] at HC2 HSG
  clear hX
  cases h45 : ((s[0].toNat : Int) == 45)
  · go_enter Try.func21, Try.ntmps21
    go_wp2_with (go_at_call 26; refine (HC1.out _).mono ?_; rintro e w' ⟨rfl, hb⟩)
    go_ret
    exact ⟨Pl.ret_bool (by rw [HF.out, HSG.out, HH.out, h45]; simp), hb⟩
  cases h0 : (X.toList == [48])
  rotate_left
  · have h0' : (X.toList != [48]) = false := by rw [bne, h0]; rfl
    go_enter Try.func21, Try.ntmps21
    go_wp2_with (go_at_call 26; refine (HC1.out _).mono ?_; rintro e w' ⟨rfl, hb⟩)
    go_ret
    exact ⟨Pl.ret_bool (by rw [HF.out, HSG.out, h0]; simp), hb⟩
  have h0' : (X.toList != [48]) = true := by rw [bne, h0]; rfl
  go_enter Try.func21, Try.ntmps21
  go_wp2_with fail
  refine (HC1.out _).mono ?_
  rintro e w1 ⟨rfl, hb1⟩
  go_wp2_with fail
  refine (HC2.out _).mono ?_
  rintro e w2 ⟨rfl, hb2⟩
  go_wp2
  go_ret
  exact ⟨Pl.ret_bool (by rw [HF.out, HSG.out, HH.out, h45, h0]; simp [h1]), blw_trans hb1 hb2⟩

set_option maxHeartbeats 4000000 in
theorem l38FitsS (t : Int) (s : ByteArray) (w : World) (hs : s.size ≤ maxLen) :
    Calls Try.prog 21 #[.int .i64 t, .string s] w fun e w' => e = .returned (.bool (Pl.fitsT t s)) ∧ Below w.heap.size w w' := by
  by_cases t2 : t = 2
  · subst t2; exact l38FitsSg s w hs
  have e2 : (t == 2) = false := by simpa using t2
  by_cases t1 : t = 1
  · subst t1
    have HF : Hid (Pl.numOk s = Pl.fitsT 1 s) := by show _ = _; unfold Pl.fitsT; rw [if_pos rfl]
    clear e2
    go_enter Try.func21, Try.ntmps21
    go_wp2_with (go_at_call 26; refine (l38NumberOkS _ _ hs).mono ?_; rintro e w' ⟨rfl, hb⟩)
    go_ret
    exact ⟨Pl.ret_bool HF.out, hb⟩
  have e1 : (t == 1) = false := by simpa using t1
  by_cases t3 : t = 3
  · subst t3
    have HF : Hid (Pl.nameOk20 s = Pl.fitsT 3 s) := by show _ = _; unfold Pl.fitsT; rw [if_neg (by decide), if_neg (by decide), if_pos rfl]
    clear e1 e2
    go_enter Try.func21, Try.ntmps21
    go_wp2_with (go_at_call 27; refine (l38NameOkS _ _ hs).mono ?_; rintro e w' ⟨rfl, rfl⟩)
    go_ret
    exact ⟨Pl.ret_bool HF.out, Below.refl _ _⟩
  have e3 : (t == 3) = false := by simpa using t3
  by_cases t5 : t = 5
  · subst t5
    have HF : Hid (((s.toList == [121, 101, 115]) || (s.toList == [110, 111])) = Pl.fitsT 5 s) := by show _ = _; unfold Pl.fitsT; rw [if_neg (by decide), if_neg (by decide), if_neg (by decide), if_pos rfl]
    clear e1 e2 e3
    cases y : (s.toList == [121, 101, 115])
    all_goals
      rw [y] at HF
      go_enter Try.func21, Try.ntmps21
      go_wp2
      go_ret
      exact ⟨Pl.ret_bool (by first | exact HF.out | (rw [← HF.out]; simp)), Below.refl _ _⟩
  have e5 : (t == 5) = false := by simpa using t5
  by_cases t6 : t = 6
  · subst t6
    have HF : Hid (((s.toList == [110, 111, 110, 101]) || (s.toList == [98, 101, 114, 116, 104]) || (s.toList == [122, 111, 110, 101])) = Pl.fitsT 6 s) := by show _ = _; unfold Pl.fitsT; rw [if_neg (by decide), if_neg (by decide), if_neg (by decide), if_neg (by decide), if_pos rfl]
    clear e1 e2 e3 e5
    cases y1 : (s.toList == [110, 111, 110, 101])
    all_goals cases y2 : (s.toList == [98, 101, 114, 116, 104])
    all_goals
      rw [y1, y2] at HF
      go_enter Try.func21, Try.ntmps21
      go_wp2
      go_ret
      exact ⟨Pl.ret_bool (by first | exact HF.out | (rw [← HF.out]; simp)), Below.refl _ _⟩
  have e6 : (t == 6) = false := by simpa using t6
  have HF : Hid (decide (s.size ≤ 200) = Pl.fitsT t s) := by show _ = _; unfold Pl.fitsT; rw [if_neg t1, if_neg t2, if_neg t3, if_neg t5, if_neg t6]
  unfold maxLen at hs
  clear t1 t2 t3 t5 t6
  go_enter Try.func21, Try.ntmps21
  go_wp2
  go_ret
  exact ⟨Pl.ret_bool (by rw [← HF.out, Bool.eq_iff_iff]; simp <;> omega), Below.refl _ _⟩

end Go.Proofs.Ytfhobegepiijhaa
