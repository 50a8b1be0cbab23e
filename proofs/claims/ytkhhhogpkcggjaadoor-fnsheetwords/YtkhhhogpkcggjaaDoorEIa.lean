/-
  Sheets: where the next word begins, what stands behind one: the program.
-/
import Derived.Test.YtkhhhogpkcggjaaDoorEIb
import Derived.Test.YtkhhhogpkcggjaaDoorEPi
namespace Go.Proofs.YtkhhhogpkcggjaaDoor
open Go.RowKit Go.Deep

set_option maxHeartbeats 4000000 in
theorem trimByteI (s : ByteArray) (w : World) :
    Calls Tryd.prog 27 #[.string s, .int .u8 32] w fun e w' => ∃ x : ByteArray, e = .returned (.string x) ∧ x.data.toList = s.data.toList.dropWhile Pl.sp ∧ x.size ≤ s.size ∧ w = w' := by
  go_enter Tryd.func27, Tryd.ntmps27
  go_wp2
  go_loop [0] (fun v => ∃ x : ByteArray, v = .string x ∧ x.size ≤ s.size ∧ Hid (x.data.toList.dropWhile Pl.sp = s.data.toList.dropWhile Pl.sp)) (fun v => match v with | .string x => x.size | _ => 0)
  case atStart => exact ⟨s, rfl, Nat.le_refl _, rfl⟩
  case round =>
    obtain ⟨x, rfl, hx, HI⟩ := hrel
    by_cases h1 : 1 ≤ x.size
    · have d0 : decide ((0 : Int) < (x.size : Int)) = true := by simp; omega
      have hdr := Pl.drop_at x 0 (by omega)
      rw [List.drop_zero] at hdr
      by_cases h32 : x[0].toNat = 32
      · have d1 : ((x[0].toNat : Int) == 32) = true := by simp; omega
        have HN : Hid ((x.extract 1 x.size).data.toList.dropWhile Pl.sp = s.data.toList.dropWhile Pl.sp) := by
          show _ = _
          rw [← HI.out, Pl.ext_end, hdr, List.dropWhile_cons, if_pos (by simpa [Pl.sp] using h32)]; rfl
        clear hdr h32
        go_wp2
        go_round
        case rel => exact ⟨_, rfl, by simp [ByteArray.size_extract]; omega, HN⟩
        case measure => simp [ByteArray.size_extract]; omega
      · have d1 : ((x[0].toNat : Int) == 32) = false := by simp; omega
        have HN : Hid (x.data.toList = s.data.toList.dropWhile Pl.sp) := by
          show _ = _
          rw [← HI.out, hdr, List.dropWhile_cons, if_neg (by simpa [Pl.sp] using h32)]
        clear hdr h32
        go_wp2
        go_ret
        exact ⟨x, rfl, HN.out, hx, rfl⟩
    · have d0 : decide ((0 : Int) < (x.size : Int)) = false := by rw [decide_eq_false_iff_not]; omega
      have HN : Hid (x.data.toList = s.data.toList.dropWhile Pl.sp) := by
        show _ = _
        have e : x.data.toList = [] := List.eq_nil_of_length_eq_zero (by rw [Pl.len_data]; omega)
        rw [← HI.out, e]; rfl
      go_wp2
      go_ret
      exact ⟨x, rfl, HN.out, hx, rfl⟩

set_option maxRecDepth 8000 in
set_option maxHeartbeats 4000000 in
theorem trimLeftI (s : ByteArray) (w : World) :
    Calls Tryd.prog 23 #[.string s, .string { data := #[32] }] w fun e w' => ∃ x : ByteArray, e = .returned (.string x) ∧ x.data.toList = s.data.toList.dropWhile Pl.sp ∧ x.size ≤ s.size ∧ w = w' := by
  by_cases h1 : 1 ≤ s.size
  · have h0 := Pl.empty_no s h1
    have HC := uh (trimByteI s w)
    go_enter Tryd.func23, Tryd.ntmps23
    go_wp2_with (go_at_call 27; refine HC.out.mono ?_; rintro e w' ⟨x, rfl, hx, hz, rfl⟩)
    go_ret
    exact ⟨x, rfl, hx, hz, rfl⟩
  · have h0 := Pl.empty_yes s h1
    go_enter Tryd.func23, Tryd.ntmps23
    go_wp2
    go_ret
    refine ⟨s, rfl, ?_, Nat.le_refl _, rfl⟩
    have e : s.data.toList = [] := List.eq_nil_of_length_eq_zero (by rw [Pl.len_data]; omega)
    rw [e]; rfl

set_option maxHeartbeats 4000000 in
theorem nextWordI (s : ByteArray) (w : World) :
    Calls Tryd.prog 16 #[.string s] w fun e w' => ∃ x : ByteArray, e = .returned (.string x) ∧ x.data.toList = Pl.nextT s.data.toList ∧ x.size ≤ s.size ∧ w = w' := by
  have HC := uh (trimLeftI s w)
  go_enter Tryd.func16, Tryd.ntmps16
  go_wp2_with fail
  refine HC.out.mono ?_
  rintro e w' ⟨x, rfl, hx, hz, rfl⟩
  have HX := uh hx
  clear hx HC
  by_cases h1 : 1 ≤ x.size
  · have h0 := Pl.empty_no x h1
    have hdr := Pl.drop_at x 0 (by omega)
    rw [List.drop_zero] at hdr
    by_cases h35 : x[0].toNat = 35
    · have d1 : ((x[0].toNat : Int) == 35) = true := by simp; omega
      have HN : Hid (([] : List UInt8) = Pl.nextT s.data.toList) := by
        show _ = _
        unfold Pl.nextT
        rw [← HX.out, hdr]
        simp [h35]
      clear hdr h35
      go_wp2
      go_ret
      exact ⟨_, rfl, HN.out, by show 0 ≤ _; omega, rfl⟩
    · have d1 : ((x[0].toNat : Int) == 35) = false := by simp; omega
      have HN : Hid (x.data.toList = Pl.nextT s.data.toList) := by
        show _ = _
        unfold Pl.nextT
        rw [← HX.out, hdr]
        simp [h35]
      clear hdr h35
      go_wp2
      go_ret
      exact ⟨_, rfl, HN.out, hz, rfl⟩
  · have h0 := Pl.empty_yes x h1
    have HN : Hid (x.data.toList = Pl.nextT s.data.toList) := by
      show _ = _
      have e : x.data.toList = [] := List.eq_nil_of_length_eq_zero (by rw [Pl.len_data]; omega)
      unfold Pl.nextT
      rw [← HX.out, e]
    go_wp2
    go_ret
    exact ⟨_, rfl, HN.out, hz, rfl⟩

set_option maxHeartbeats 4000000 in
theorem partedI (s : ByteArray) (w : World) :
    Calls Tryd.prog 18 #[.string s] w fun e w' => e = .returned (.bool (Pl.behind s.data.toList)) ∧ w = w' := by
  by_cases h1 : 1 ≤ s.size
  · have h0 := Pl.empty_no s h1
    have hdr := Pl.drop_at s 0 (by omega)
    rw [List.drop_zero] at hdr
    have HB : Hid (Pl.behind s.data.toList = (((s[0].toNat : Int) == 32) || ((s[0].toNat : Int) == 35))) := by
      show _ = _
      rw [hdr]
      show (decide (s[0].toNat = 32) || decide (s[0].toNat = 35)) = _
      rw [Bool.eq_iff_iff]; simp; omega
    clear hdr
    cases h32 : ((s[0].toNat : Int) == 32)
    all_goals
      rw [h32] at HB
      go_enter Tryd.func18, Tryd.ntmps18
      go_wp2
      go_ret
      exact ⟨Pl.ret_bool (by rw [HB.out]; simp), rfl⟩
  · have h0 := Pl.empty_yes s h1
    have e : s.data.toList = [] := List.eq_nil_of_length_eq_zero (by rw [Pl.len_data]; omega)
    go_enter Tryd.func18, Tryd.ntmps18
    go_wp2
    go_ret
    exact ⟨Pl.ret_bool (by rw [e]; rfl), rfl⟩

set_option maxHeartbeats 4000000 in
theorem scannerOfI (s : ByteArray) (w : World) (h1 : 1 ≤ s.size) :
    Calls Tryd.prog 17 #[.string s] w fun e w' => e = .returned (if s[0].toNat = 34 then .iface 52 (.agg #[]) else .iface 53 (.agg #[])) ∧ w = w' := by
  by_cases h34 : s[0].toNat = 34
  · have d1 : ((s[0].toNat : Int) == 34) = true := by simp; omega
    rw [if_pos h34]
    clear h34
    go_enter Tryd.func17, Tryd.ntmps17
    go_wp2
    go_ret
    exact ⟨rfl, rfl⟩
  · have d1 : ((s[0].toNat : Int) == 34) = false := by simp; omega
    rw [if_neg h34]
    clear h34
    go_enter Tryd.func17, Tryd.ntmps17
    go_wp2
    go_ret
    exact ⟨rfl, rfl⟩

end Go.Proofs.YtkhhhogpkcggjaaDoor
