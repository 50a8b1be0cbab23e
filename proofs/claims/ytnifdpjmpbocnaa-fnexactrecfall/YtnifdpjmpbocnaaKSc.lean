/-
  Sizes of recorders.
-/
import Derived.Test.YtnifdpjmpbocnaaKSb
namespace Go.Proofs.Ytnifdpjmpbocnaa
open Go.RowKit Go.Deep

set_option maxRecDepth 8000 in
set_option maxHeartbeats 8000000 in
theorem szRecDisk (ds : List Dt) (cs : List Value) (left : Int) (w : World) (h0 : 0 ≤ left) (h1 : left ≤ 1048576) (h : Raw w shRecDisk ds cs) (hz : szd ds) :
    Calls Try.prog 17 #[.agg cs.toArray, .int .i64 left] w fun e w' => e = .returned (.int .i64 (if ((wtL ds : Nat) : Int) ≤ left then left - ((wtL ds : Nat) : Int) else -1)) ∧ Below w.heap.size w w' := by
  obtain ⟨a0, a1, n2, e2, v2, rfl, hcs, r2⟩ := segRawRecDisk h
  have R2 := uh r2
  have HCS := uh hcs
  simp only [szd] at hz
  have Z2 := uh hz.1
  obtain ⟨R, hR⟩ : ∃ R : Int, R = if ((wtL (.i a0 :: .i a1 :: .row n2 e2 :: []) : Nat) : Int) ≤ left then left - ((wtL (.i a0 :: .i a1 :: .row n2 e2 :: []) : Nat) : Int) else -1 := ⟨_, rfl⟩
  rw [← hR]
  simp only [wtL] at hR
  have HRR := uh hR
  clear hR
  obtain ⟨wa, hwa⟩ : ∃ wa, wa = w.alloc (.cells cs.toArray 26) := ⟨_, rfl⟩
  have HB : Hid (Below w.heap.size w wa) := by show Below _ _ _; rw [hwa]; exact blw_alloc (Below.refl _ _) _
  have HX : Hid (LBox wa w.heap.size cs) := by show LBox _ _ _; rw [hwa]; exact LBox.new w cs.toArray _ _ rfl
  clear hcs hz h r2
  go_enter Try.func17, Try.ntmps17
  go_upto_region 1 with fail
  rw [← hwa]
  clear hwa
  have hbz := HX.out.lt
  have hbx := boxRecDisk  (by have := HX.out.at_; rw [HCS.out] at this; exact this)
  have gc := hbx.2.2
  clear hbx
  obtain ⟨m2, hm2⟩ : ∃ m2 : Int, m2 = if ((n2 + wtL e2 : Nat) : Int) ≤ left then left - ((n2 + wtL e2 : Nat) : Int) else -1 := ⟨_, rfl⟩
  obtain ⟨va2, vc2, hva⟩ := R2.out.len0
  subst hva
  have HC := uh (szRecSlotS n2 e2 (.slice va2 n2 vc2) left wa (by omega) (by omega) (R2.out.later HB.out) Z2.out)
  rw [← hm2] at HC
  have M2 := uh hm2
  clear hm2
  go_wp2_with fail
  refine HC.out.mono ?_
  rintro e x2 ⟨rfl, hb⟩
  replace HB := uh (blw_trans HB.out hb)
  replace HX := uh (HX.out.later hb)
  clear hb gc hbz HC
  by_cases hl2 : m2 < 0
  · have HE : Hid (-1 = R) := by
      show _ = _; have h2 := M2.out
      split at h2
      · omega
      · rw [HRR.out, if_neg (by omega)]
    go_wp2
    go_ret
    exact ⟨Pl.ret_int HE.out, HB.out⟩
  have MM2 : Hid (m2 = left - ((n2 + wtL e2 : Nat) : Int)) := by
    show _ = _; have h2 := M2.out
    split at h2
    · exact h2
    · omega
  have hhi2 : m2 ≤ 1048576 := by have := MM2.out; omega
  have HE : Hid (m2 = R) := by show _ = _; have := MM2.out; rw [HRR.out, if_pos (by omega)]; omega
  go_wp2
  go_ret
  exact ⟨Pl.ret_int HE.out, HB.out⟩
set_option maxRecDepth 8000 in
set_option maxHeartbeats 8000000 in
theorem szRecorder (ds : List Dt) (cs : List Value) (left : Int) (w : World) (h0 : 0 ≤ left) (h1 : left ≤ 1048576) (h : Raw w shRecorder ds cs) (hz : szd ds) :
    Calls Try.prog 7 #[.agg cs.toArray, .int .i64 left] w fun e w' => e = .returned (.int .i64 (if ((wtL ds : Nat) : Int) ≤ left then left - ((wtL ds : Nat) : Int) else -1)) ∧ Below w.heap.size w w' := by
  obtain ⟨a0, a1, a2, d3, c3, d4, c4, n5, e5, v5, n6, e6, v6, a7, a8, a9, n10, e10, v10, n11, e11, v11, n12, e12, v12, a13, rfl, hcs, r3, r4, r5, r6, r10, r11, r12⟩ := segRawRecorder h
  have L3 : Hid (c3.length = 3) := r3.len
  have R3 := uh r3
  have L4 : Hid (c4.length = 3) := r4.len
  have R4 := uh r4
  have R5 := uh r5
  have R6 := uh r6
  have R10 := uh r10
  have R11 := uh r11
  have R12 := uh r12
  have HCS := uh hcs
  simp only [szd, szd_app] at hz
  have Z3 := uh hz.1
  have Z4 := uh hz.2.1
  have Z5 := uh hz.2.2.1
  have Z6 := uh hz.2.2.2.1
  have Z10 := uh hz.2.2.2.2.1
  have Z11 := uh hz.2.2.2.2.2.1
  have Z12 := uh hz.2.2.2.2.2.2.1
  obtain ⟨R, hR⟩ : ∃ R : Int, R = if ((wtL (.i a0 :: .i a1 :: .b a2 :: (d3 ++ ((d4 ++ (.row n5 e5 :: .row n6 e6 :: .b a7 :: .b a8 :: .i a9 :: .row n10 e10 :: .row n11 e11 :: .row n12 e12 :: .i a13 :: []))))) : Nat) : Int) ≤ left then left - ((wtL (.i a0 :: .i a1 :: .b a2 :: (d3 ++ ((d4 ++ (.row n5 e5 :: .row n6 e6 :: .b a7 :: .b a8 :: .i a9 :: .row n10 e10 :: .row n11 e11 :: .row n12 e12 :: .i a13 :: []))))) : Nat) : Int) else -1 := ⟨_, rfl⟩
  rw [← hR]
  simp only [wtL, wtL_app] at hR
  have HRR := uh hR
  clear hR
  obtain ⟨wa, hwa⟩ : ∃ wa, wa = w.alloc (.cells cs.toArray 32) := ⟨_, rfl⟩
  have HB : Hid (Below w.heap.size w wa) := by show Below _ _ _; rw [hwa]; exact blw_alloc (Below.refl _ _) _
  have HX : Hid (LBox wa w.heap.size cs) := by show LBox _ _ _; rw [hwa]; exact LBox.new w cs.toArray _ _ rfl
  clear hcs hz h r3 r4 r5 r6 r10 r11 r12
  go_enter Try.func7, Try.ntmps7
  go_upto_region 1 with fail
  rw [← hwa]
  clear hwa
  have hbz := HX.out.lt
  have hbx := boxRecorder L3.out L4.out (by have := HX.out.at_; rw [HCS.out] at this; exact this)
  have gc := hbx.2.2.2.1
  clear hbx
  obtain ⟨m3, hm3⟩ : ∃ m3 : Int, m3 = if ((wtL d3 : Nat) : Int) ≤ left then left - ((wtL d3 : Nat) : Int) else -1 := ⟨_, rfl⟩
  have HC := uh (szRecDisk d3 c3 left wa (by omega) (by omega) (R3.out.later HB.out) Z3.out)
  rw [← hm3] at HC
  have M3 := uh hm3
  clear hm3
  go_wp2_with (refine wpList_load_mid rfl 26 _ rfl w.heap.size 3 rfl c3 _ gc Try.underlying26 rfl (by rw [L3.out]; kernel_rfl) ?_)
  refine HC.out.mono ?_
  rintro e x3 ⟨rfl, hb⟩
  replace HB := uh (blw_trans HB.out hb)
  replace HX := uh (HX.out.later hb)
  clear hb gc hbz HC
  by_cases hl3 : m3 < 0
  · have HE : Hid (-1 = R) := by
      show _ = _; have h2 := M3.out
      split at h2
      · omega
      · rw [HRR.out, if_neg (by omega)]
    go_wp2
    go_ret
    exact ⟨Pl.ret_int HE.out, HB.out⟩
  have MM3 : Hid (m3 = left - ((wtL d3 : Nat) : Int)) := by
    show _ = _; have h2 := M3.out
    split at h2
    · exact h2
    · omega
  have hhi3 : m3 ≤ 1048576 := by have := MM3.out; omega
  have hbz := HX.out.lt
  have hbx := boxRecorder L3.out L4.out (by have := HX.out.at_; rw [HCS.out] at this; exact this)
  have gc := hbx.2.2.2.2.1
  clear hbx
  obtain ⟨m4, hm4⟩ : ∃ m4 : Int, m4 = if ((wtL d4 : Nat) : Int) ≤ m3 then m3 - ((wtL d4 : Nat) : Int) else -1 := ⟨_, rfl⟩
  have HC := uh (szRecDisk d4 c4 m3 x3 (by omega) (by omega) (R4.out.later HB.out) Z4.out)
  rw [← hm4] at HC
  have M4 := uh hm4
  clear hm4
  go_wp2_with (refine wpList_load_mid rfl 26 _ rfl w.heap.size 6 rfl c4 _ gc Try.underlying26 rfl (by rw [L4.out]; kernel_rfl) ?_)
  refine HC.out.mono ?_
  rintro e x4 ⟨rfl, hb⟩
  replace HB := uh (blw_trans HB.out hb)
  replace HX := uh (HX.out.later hb)
  clear hb gc hbz HC
  by_cases hl4 : m4 < 0
  · have HE : Hid (-1 = R) := by
      show _ = _; have := MM3.out; have h2 := M4.out
      split at h2
      · omega
      · rw [HRR.out, if_neg (by omega)]
    go_wp2
    go_ret
    exact ⟨Pl.ret_int HE.out, HB.out⟩
  have MM4 : Hid (m4 = m3 - ((wtL d4 : Nat) : Int)) := by
    show _ = _; have h2 := M4.out
    split at h2
    · exact h2
    · omega
  have hhi4 : m4 ≤ 1048576 := by have := MM4.out; omega
  have hbz := HX.out.lt
  have hbx := boxRecorder L3.out L4.out (by have := HX.out.at_; rw [HCS.out] at this; exact this)
  have gc := hbx.2.2.2.2.2.1
  clear hbx
  obtain ⟨m5, hm5⟩ : ∃ m5 : Int, m5 = if ((n5 + wtL e5 : Nat) : Int) ≤ m4 then m4 - ((n5 + wtL e5 : Nat) : Int) else -1 := ⟨_, rfl⟩
  obtain ⟨va5, vc5, hva⟩ := R5.out.len0
  subst hva
  have HC := uh (szRecMessageS n5 e5 (.slice va5 n5 vc5) m4 x4 (by omega) (by omega) (R5.out.later HB.out) Z5.out)
  rw [← hm5] at HC
  have M5 := uh hm5
  clear hm5
  go_wp2_with fail
  refine HC.out.mono ?_
  rintro e x5 ⟨rfl, hb⟩
  replace HB := uh (blw_trans HB.out hb)
  replace HX := uh (HX.out.later hb)
  clear hb gc hbz HC
  by_cases hl5 : m5 < 0
  · have HE : Hid (-1 = R) := by
      show _ = _; have := MM3.out; have := MM4.out; have h2 := M5.out
      split at h2
      · omega
      · rw [HRR.out, if_neg (by omega)]
    go_wp2
    go_ret
    exact ⟨Pl.ret_int HE.out, HB.out⟩
  have MM5 : Hid (m5 = m4 - ((n5 + wtL e5 : Nat) : Int)) := by
    show _ = _; have h2 := M5.out
    split at h2
    · exact h2
    · omega
  have hhi5 : m5 ≤ 1048576 := by have := MM5.out; omega
  have hbz := HX.out.lt
  have hbx := boxRecorder L3.out L4.out (by have := HX.out.at_; rw [HCS.out] at this; exact this)
  have gc := hbx.2.2.2.2.2.2.1
  clear hbx
  obtain ⟨m6, hm6⟩ : ∃ m6 : Int, m6 = if ((n6 + wtL e6 : Nat) : Int) ≤ m5 then m5 - ((n6 + wtL e6 : Nat) : Int) else -1 := ⟨_, rfl⟩
  obtain ⟨va6, vc6, hva⟩ := R6.out.len0
  subst hva
  have HC := uh (szStringS n6 e6 (.slice va6 n6 vc6) m5 x5 (by omega) (by omega) (R6.out.later HB.out) Z6.out)
  rw [← hm6] at HC
  have M6 := uh hm6
  clear hm6
  go_wp2_with fail
  refine HC.out.mono ?_
  rintro e x6 ⟨rfl, hb⟩
  replace HB := uh (blw_trans HB.out hb)
  replace HX := uh (HX.out.later hb)
  clear hb gc hbz HC
  by_cases hl6 : m6 < 0
  · have HE : Hid (-1 = R) := by
      show _ = _; have := MM3.out; have := MM4.out; have := MM5.out; have h2 := M6.out
      split at h2
      · omega
      · rw [HRR.out, if_neg (by omega)]
    go_wp2
    go_ret
    exact ⟨Pl.ret_int HE.out, HB.out⟩
  have MM6 : Hid (m6 = m5 - ((n6 + wtL e6 : Nat) : Int)) := by
    show _ = _; have h2 := M6.out
    split at h2
    · exact h2
    · omega
  have hhi6 : m6 ≤ 1048576 := by have := MM6.out; omega
  have hbz := HX.out.lt
  have hbx := boxRecorder L3.out L4.out (by have := HX.out.at_; rw [HCS.out] at this; exact this)
  have gc := hbx.2.2.2.2.2.2.2.2.2.2.1
  clear hbx
  obtain ⟨m10, hm10⟩ : ∃ m10 : Int, m10 = if ((n10 + wtL e10 : Nat) : Int) ≤ m6 then m6 - ((n10 + wtL e10 : Nat) : Int) else -1 := ⟨_, rfl⟩
  obtain ⟨va10, vc10, hva⟩ := R10.out.len0
  subst hva
  have HC := uh (szIntS n10 e10 (.slice va10 n10 vc10) m6 x6 (by omega) (by omega) (R10.out.later HB.out) Z10.out)
  rw [← hm10] at HC
  have M10 := uh hm10
  clear hm10
  go_wp2_with fail
  refine HC.out.mono ?_
  rintro e x10 ⟨rfl, hb⟩
  replace HB := uh (blw_trans HB.out hb)
  replace HX := uh (HX.out.later hb)
  clear hb gc hbz HC
  by_cases hl10 : m10 < 0
  · have HE : Hid (-1 = R) := by
      show _ = _; have := MM3.out; have := MM4.out; have := MM5.out; have := MM6.out; have h2 := M10.out
      split at h2
      · omega
      · rw [HRR.out, if_neg (by omega)]
    go_wp2
    go_ret
    exact ⟨Pl.ret_int HE.out, HB.out⟩
  have MM10 : Hid (m10 = m6 - ((n10 + wtL e10 : Nat) : Int)) := by
    show _ = _; have h2 := M10.out
    split at h2
    · exact h2
    · omega
  have hhi10 : m10 ≤ 1048576 := by have := MM10.out; omega
  have hbz := HX.out.lt
  have hbx := boxRecorder L3.out L4.out (by have := HX.out.at_; rw [HCS.out] at this; exact this)
  have gc := hbx.2.2.2.2.2.2.2.2.2.2.2.1
  clear hbx
  obtain ⟨m11, hm11⟩ : ∃ m11 : Int, m11 = if ((n11 + wtL e11 : Nat) : Int) ≤ m10 then m10 - ((n11 + wtL e11 : Nat) : Int) else -1 := ⟨_, rfl⟩
  obtain ⟨va11, vc11, hva⟩ := R11.out.len0
  subst hva
  have HC := uh (szRecSlotS n11 e11 (.slice va11 n11 vc11) m10 x10 (by omega) (by omega) (R11.out.later HB.out) Z11.out)
  rw [← hm11] at HC
  have M11 := uh hm11
  clear hm11
  go_wp2_with fail
  refine HC.out.mono ?_
  rintro e x11 ⟨rfl, hb⟩
  replace HB := uh (blw_trans HB.out hb)
  replace HX := uh (HX.out.later hb)
  clear hb gc hbz HC
  by_cases hl11 : m11 < 0
  · have HE : Hid (-1 = R) := by
      show _ = _; have := MM3.out; have := MM4.out; have := MM5.out; have := MM6.out; have := MM10.out; have h2 := M11.out
      split at h2
      · omega
      · rw [HRR.out, if_neg (by omega)]
    go_wp2
    go_ret
    exact ⟨Pl.ret_int HE.out, HB.out⟩
  have MM11 : Hid (m11 = m10 - ((n11 + wtL e11 : Nat) : Int)) := by
    show _ = _; have h2 := M11.out
    split at h2
    · exact h2
    · omega
  have hhi11 : m11 ≤ 1048576 := by have := MM11.out; omega
  have hbz := HX.out.lt
  have hbx := boxRecorder L3.out L4.out (by have := HX.out.at_; rw [HCS.out] at this; exact this)
  have gc := hbx.2.2.2.2.2.2.2.2.2.2.2.2.1
  clear hbx
  obtain ⟨m12, hm12⟩ : ∃ m12 : Int, m12 = if ((n12 + wtL e12 : Nat) : Int) ≤ m11 then m11 - ((n12 + wtL e12 : Nat) : Int) else -1 := ⟨_, rfl⟩
  obtain ⟨va12, vc12, hva⟩ := R12.out.len0
  subst hva
  have HC := uh (szRecAckS n12 e12 (.slice va12 n12 vc12) m11 x11 (by omega) (by omega) (R12.out.later HB.out) Z12.out)
  rw [← hm12] at HC
  have M12 := uh hm12
  clear hm12
  go_wp2_with fail
  refine HC.out.mono ?_
  rintro e x12 ⟨rfl, hb⟩
  replace HB := uh (blw_trans HB.out hb)
  replace HX := uh (HX.out.later hb)
  clear hb gc hbz HC
  by_cases hl12 : m12 < 0
  · have HE : Hid (-1 = R) := by
      show _ = _; have := MM3.out; have := MM4.out; have := MM5.out; have := MM6.out; have := MM10.out; have := MM11.out; have h2 := M12.out
      split at h2
      · omega
      · rw [HRR.out, if_neg (by omega)]
    go_wp2
    go_ret
    exact ⟨Pl.ret_int HE.out, HB.out⟩
  have MM12 : Hid (m12 = m11 - ((n12 + wtL e12 : Nat) : Int)) := by
    show _ = _; have h2 := M12.out
    split at h2
    · exact h2
    · omega
  have hhi12 : m12 ≤ 1048576 := by have := MM12.out; omega
  have HE : Hid (m12 = R) := by show _ = _; have := MM3.out; have := MM4.out; have := MM5.out; have := MM6.out; have := MM10.out; have := MM11.out; have := MM12.out; rw [HRR.out, if_pos (by omega)]; omega
  go_wp2
  go_ret
  exact ⟨Pl.ret_int HE.out, HB.out⟩
end Go.Proofs.Ytnifdpjmpbocnaa
