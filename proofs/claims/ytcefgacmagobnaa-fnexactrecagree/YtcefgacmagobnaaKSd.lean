/-
  Sizes of worlds.
-/
import Derived.Test.YtcefgacmagobnaaKSb
import Derived.Test.YtcefgacmagobnaaKShw
namespace Go.Proofs.Ytcefgacmagobnaa
open Go.RowKit Go.Deep

set_option maxRecDepth 8000 in
set_option maxHeartbeats 8000000 in
theorem szRecDisk (ds : List Dt) (cs : List Value) (left : Int) (w : World) (h0 : 0 ≤ left) (h1 : left ≤ 1048576) (h : Raw w shRecDisk ds cs) (hz : szd ds) :
    Calls Try.prog 71 #[.agg cs.toArray, .int .i64 left] w fun e w' => e = .returned (.int .i64 (if ((wtL ds : Nat) : Int) ≤ left then left - ((wtL ds : Nat) : Int) else -1)) ∧ Below w.heap.size w w' := by
  obtain ⟨a0, a1, n2, e2, v2, rfl, hcs, r2⟩ := segRawRecDisk h
  have R2 := uh r2
  have HCS := uh hcs
  simp only [szd] at hz
  have Z2 := uh hz.1
  obtain ⟨R, hR⟩ : ∃ R : Int, R = if ((wtL (.i a0 :: .i a1 :: .row n2 e2 :: []) : Nat) : Int) ≤ left then left - ((wtL (.i a0 :: .i a1 :: .row n2 e2 :: []) : Nat) : Int) else -1 := ⟨_, rfl⟩
  rw [← hR]
  simp only [wtL] at hR
  have HRR := uh hR
  clear hR
  obtain ⟨wa, hwa⟩ : ∃ wa, wa = w.alloc (.cells cs.toArray 80) := ⟨_, rfl⟩
  have HB : Hid (Below w.heap.size w wa) := by show Below _ _ _; rw [hwa]; exact blw_alloc (Below.refl _ _) _
  have HX : Hid (LBox wa w.heap.size cs) := by show LBox _ _ _; rw [hwa]; exact LBox.new w cs.toArray _ _ rfl
  clear hcs hz h r2
  go_enter Try.func71, Try.ntmps71
  go_upto_region 1 with fail
  rw [← hwa]
  clear hwa
  have hbz := HX.out.lt
  have hbx := boxRecDisk  (by have := HX.out.at_; rw [HCS.out] at this; exact this)
  have gc := hbx.2.2
  clear hbx
  obtain ⟨m2, hm2⟩ : ∃ m2 : Int, m2 = if ((n2 + wtL e2 : Nat) : Int) ≤ left then left - ((n2 + wtL e2 : Nat) : Int) else -1 := ⟨_, rfl⟩
  obtain ⟨va2, vc2, hva⟩ := R2.out.len0
  subst hva
  have HC := uh (szRecSlotS n2 e2 (.slice va2 n2 vc2) left wa (by omega) (by omega) (R2.out.later HB.out) Z2.out)
  rw [← hm2] at HC
  have M2 := uh hm2
  clear hm2
  go_wp2_with fail
  refine HC.out.mono ?_
  rintro e x2 ⟨rfl, hb⟩
  replace HB := uh (blw_trans HB.out hb)
  replace HX := uh (HX.out.later hb)
  clear hb gc hbz HC
  by_cases hl2 : m2 < 0
  · have HE : Hid (-1 = R) := by
      show _ = _; have h2 := M2.out
      split at h2
      · omega
      · rw [HRR.out, if_neg (by omega)]
    go_wp2
    go_ret
    exact ⟨Pl.ret_int HE.out, HB.out⟩
  have MM2 : Hid (m2 = left - ((n2 + wtL e2 : Nat) : Int)) := by
    show _ = _; have h2 := M2.out
    split at h2
    · exact h2
    · omega
  have hhi2 : m2 ≤ 1048576 := by have := MM2.out; omega
  have HE : Hid (m2 = R) := by show _ = _; have := MM2.out; rw [HRR.out, if_pos (by omega)]; omega
  go_wp2
  go_ret
  exact ⟨Pl.ret_int HE.out, HB.out⟩
set_option maxRecDepth 8000 in
set_option maxHeartbeats 8000000 in
theorem szRecorder (ds : List Dt) (cs : List Value) (left : Int) (w : World) (h0 : 0 ≤ left) (h1 : left ≤ 1048576) (h : Raw w shRecorder ds cs) (hz : szd ds) :
    Calls Try.prog 40 #[.agg cs.toArray, .int .i64 left] w fun e w' => e = .returned (.int .i64 (if ((wtL ds : Nat) : Int) ≤ left then left - ((wtL ds : Nat) : Int) else -1)) ∧ Below w.heap.size w w' := by
  obtain ⟨a0, a1, a2, d3, c3, d4, c4, n5, e5, v5, n6, e6, v6, a7, a8, a9, n10, e10, v10, n11, e11, v11, n12, e12, v12, a13, rfl, hcs, r3, r4, r5, r6, r10, r11, r12⟩ := segRawRecorder h
  have L3 : Hid (c3.length = 3) := r3.len
  have R3 := uh r3
  have L4 : Hid (c4.length = 3) := r4.len
  have R4 := uh r4
  have R5 := uh r5
  have R6 := uh r6
  have R10 := uh r10
  have R11 := uh r11
  have R12 := uh r12
  have HCS := uh hcs
  simp only [szd, szd_app] at hz
  have Z3 := uh hz.1
  have Z4 := uh hz.2.1
  have Z5 := uh hz.2.2.1
  have Z6 := uh hz.2.2.2.1
  have Z10 := uh hz.2.2.2.2.1
  have Z11 := uh hz.2.2.2.2.2.1
  have Z12 := uh hz.2.2.2.2.2.2.1
  obtain ⟨R, hR⟩ : ∃ R : Int, R = if ((wtL (.i a0 :: .i a1 :: .b a2 :: (d3 ++ ((d4 ++ (.row n5 e5 :: .row n6 e6 :: .b a7 :: .b a8 :: .i a9 :: .row n10 e10 :: .row n11 e11 :: .row n12 e12 :: .i a13 :: []))))) : Nat) : Int) ≤ left then left - ((wtL (.i a0 :: .i a1 :: .b a2 :: (d3 ++ ((d4 ++ (.row n5 e5 :: .row n6 e6 :: .b a7 :: .b a8 :: .i a9 :: .row n10 e10 :: .row n11 e11 :: .row n12 e12 :: .i a13 :: []))))) : Nat) : Int) else -1 := ⟨_, rfl⟩
  rw [← hR]
  simp only [wtL, wtL_app] at hR
  have HRR := uh hR
  clear hR
  obtain ⟨wa, hwa⟩ : ∃ wa, wa = w.alloc (.cells cs.toArray 83) := ⟨_, rfl⟩
  have HB : Hid (Below w.heap.size w wa) := by show Below _ _ _; rw [hwa]; exact blw_alloc (Below.refl _ _) _
  have HX : Hid (LBox wa w.heap.size cs) := by show LBox _ _ _; rw [hwa]; exact LBox.new w cs.toArray _ _ rfl
  clear hcs hz h r3 r4 r5 r6 r10 r11 r12
  go_enter Try.func40, Try.ntmps40
  go_upto_region 1 with fail
  rw [← hwa]
  clear hwa
  have hbz := HX.out.lt
  have hbx := boxRecorder L3.out L4.out (by have := HX.out.at_; rw [HCS.out] at this; exact this)
  have gc := hbx.2.2.2.1
  clear hbx
  obtain ⟨m3, hm3⟩ : ∃ m3 : Int, m3 = if ((wtL d3 : Nat) : Int) ≤ left then left - ((wtL d3 : Nat) : Int) else -1 := ⟨_, rfl⟩
  have HC := uh (szRecDisk d3 c3 left wa (by omega) (by omega) (R3.out.later HB.out) Z3.out)
  rw [← hm3] at HC
  have M3 := uh hm3
  clear hm3
  go_wp2_with (refine wpList_load_mid rfl 80 _ rfl w.heap.size 3 rfl c3 _ gc Try.underlying80 rfl (by rw [L3.out]; kernel_rfl) ?_)
  refine HC.out.mono ?_
  rintro e x3 ⟨rfl, hb⟩
  replace HB := uh (blw_trans HB.out hb)
  replace HX := uh (HX.out.later hb)
  clear hb gc hbz HC
  by_cases hl3 : m3 < 0
  · have HE : Hid (-1 = R) := by
      show _ = _; have h2 := M3.out
      split at h2
      · omega
      · rw [HRR.out, if_neg (by omega)]
    go_wp2
    go_ret
    exact ⟨Pl.ret_int HE.out, HB.out⟩
  have MM3 : Hid (m3 = left - ((wtL d3 : Nat) : Int)) := by
    show _ = _; have h2 := M3.out
    split at h2
    · exact h2
    · omega
  have hhi3 : m3 ≤ 1048576 := by have := MM3.out; omega
  have hbz := HX.out.lt
  have hbx := boxRecorder L3.out L4.out (by have := HX.out.at_; rw [HCS.out] at this; exact this)
  have gc := hbx.2.2.2.2.1
  clear hbx
  obtain ⟨m4, hm4⟩ : ∃ m4 : Int, m4 = if ((wtL d4 : Nat) : Int) ≤ m3 then m3 - ((wtL d4 : Nat) : Int) else -1 := ⟨_, rfl⟩
  have HC := uh (szRecDisk d4 c4 m3 x3 (by omega) (by omega) (R4.out.later HB.out) Z4.out)
  rw [← hm4] at HC
  have M4 := uh hm4
  clear hm4
  go_wp2_with (refine wpList_load_mid rfl 80 _ rfl w.heap.size 6 rfl c4 _ gc Try.underlying80 rfl (by rw [L4.out]; kernel_rfl) ?_)
  refine HC.out.mono ?_
  rintro e x4 ⟨rfl, hb⟩
  replace HB := uh (blw_trans HB.out hb)
  replace HX := uh (HX.out.later hb)
  clear hb gc hbz HC
  by_cases hl4 : m4 < 0
  · have HE : Hid (-1 = R) := by
      show _ = _; have := MM3.out; have h2 := M4.out
      split at h2
      · omega
      · rw [HRR.out, if_neg (by omega)]
    go_wp2
    go_ret
    exact ⟨Pl.ret_int HE.out, HB.out⟩
  have MM4 : Hid (m4 = m3 - ((wtL d4 : Nat) : Int)) := by
    show _ = _; have h2 := M4.out
    split at h2
    · exact h2
    · omega
  have hhi4 : m4 ≤ 1048576 := by have := MM4.out; omega
  have hbz := HX.out.lt
  have hbx := boxRecorder L3.out L4.out (by have := HX.out.at_; rw [HCS.out] at this; exact this)
  have gc := hbx.2.2.2.2.2.1
  clear hbx
  obtain ⟨m5, hm5⟩ : ∃ m5 : Int, m5 = if ((n5 + wtL e5 : Nat) : Int) ≤ m4 then m4 - ((n5 + wtL e5 : Nat) : Int) else -1 := ⟨_, rfl⟩
  obtain ⟨va5, vc5, hva⟩ := R5.out.len0
  subst hva
  have HC := uh (szRecMessageS n5 e5 (.slice va5 n5 vc5) m4 x4 (by omega) (by omega) (R5.out.later HB.out) Z5.out)
  rw [← hm5] at HC
  have M5 := uh hm5
  clear hm5
  go_wp2_with fail
  refine HC.out.mono ?_
  rintro e x5 ⟨rfl, hb⟩
  replace HB := uh (blw_trans HB.out hb)
  replace HX := uh (HX.out.later hb)
  clear hb gc hbz HC
  by_cases hl5 : m5 < 0
  · have HE : Hid (-1 = R) := by
      show _ = _; have := MM3.out; have := MM4.out; have h2 := M5.out
      split at h2
      · omega
      · rw [HRR.out, if_neg (by omega)]
    go_wp2
    go_ret
    exact ⟨Pl.ret_int HE.out, HB.out⟩
  have MM5 : Hid (m5 = m4 - ((n5 + wtL e5 : Nat) : Int)) := by
    show _ = _; have h2 := M5.out
    split at h2
    · exact h2
    · omega
  have hhi5 : m5 ≤ 1048576 := by have := MM5.out; omega
  have hbz := HX.out.lt
  have hbx := boxRecorder L3.out L4.out (by have := HX.out.at_; rw [HCS.out] at this; exact this)
  have gc := hbx.2.2.2.2.2.2.1
  clear hbx
  obtain ⟨m6, hm6⟩ : ∃ m6 : Int, m6 = if ((n6 + wtL e6 : Nat) : Int) ≤ m5 then m5 - ((n6 + wtL e6 : Nat) : Int) else -1 := ⟨_, rfl⟩
  obtain ⟨va6, vc6, hva⟩ := R6.out.len0
  subst hva
  have HC := uh (szStringS n6 e6 (.slice va6 n6 vc6) m5 x5 (by omega) (by omega) (R6.out.later HB.out) Z6.out)
  rw [← hm6] at HC
  have M6 := uh hm6
  clear hm6
  go_wp2_with fail
  refine HC.out.mono ?_
  rintro e x6 ⟨rfl, hb⟩
  replace HB := uh (blw_trans HB.out hb)
  replace HX := uh (HX.out.later hb)
  clear hb gc hbz HC
  by_cases hl6 : m6 < 0
  · have HE : Hid (-1 = R) := by
      show _ = _; have := MM3.out; have := MM4.out; have := MM5.out; have h2 := M6.out
      split at h2
      · omega
      · rw [HRR.out, if_neg (by omega)]
    go_wp2
    go_ret
    exact ⟨Pl.ret_int HE.out, HB.out⟩
  have MM6 : Hid (m6 = m5 - ((n6 + wtL e6 : Nat) : Int)) := by
    show _ = _; have h2 := M6.out
    split at h2
    · exact h2
    · omega
  have hhi6 : m6 ≤ 1048576 := by have := MM6.out; omega
  have hbz := HX.out.lt
  have hbx := boxRecorder L3.out L4.out (by have := HX.out.at_; rw [HCS.out] at this; exact this)
  have gc := hbx.2.2.2.2.2.2.2.2.2.2.1
  clear hbx
  obtain ⟨m10, hm10⟩ : ∃ m10 : Int, m10 = if ((n10 + wtL e10 : Nat) : Int) ≤ m6 then m6 - ((n10 + wtL e10 : Nat) : Int) else -1 := ⟨_, rfl⟩
  obtain ⟨va10, vc10, hva⟩ := R10.out.len0
  subst hva
  have HC := uh (szIntS n10 e10 (.slice va10 n10 vc10) m6 x6 (by omega) (by omega) (R10.out.later HB.out) Z10.out)
  rw [← hm10] at HC
  have M10 := uh hm10
  clear hm10
  go_wp2_with fail
  refine HC.out.mono ?_
  rintro e x10 ⟨rfl, hb⟩
  replace HB := uh (blw_trans HB.out hb)
  replace HX := uh (HX.out.later hb)
  clear hb gc hbz HC
  by_cases hl10 : m10 < 0
  · have HE : Hid (-1 = R) := by
      show _ = _; have := MM3.out; have := MM4.out; have := MM5.out; have := MM6.out; have h2 := M10.out
      split at h2
      · omega
      · rw [HRR.out, if_neg (by omega)]
    go_wp2
    go_ret
    exact ⟨Pl.ret_int HE.out, HB.out⟩
  have MM10 : Hid (m10 = m6 - ((n10 + wtL e10 : Nat) : Int)) := by
    show _ = _; have h2 := M10.out
    split at h2
    · exact h2
    · omega
  have hhi10 : m10 ≤ 1048576 := by have := MM10.out; omega
  have hbz := HX.out.lt
  have hbx := boxRecorder L3.out L4.out (by have := HX.out.at_; rw [HCS.out] at this; exact this)
  have gc := hbx.2.2.2.2.2.2.2.2.2.2.2.1
  clear hbx
  obtain ⟨m11, hm11⟩ : ∃ m11 : Int, m11 = if ((n11 + wtL e11 : Nat) : Int) ≤ m10 then m10 - ((n11 + wtL e11 : Nat) : Int) else -1 := ⟨_, rfl⟩
  obtain ⟨va11, vc11, hva⟩ := R11.out.len0
  subst hva
  have HC := uh (szRecSlotS n11 e11 (.slice va11 n11 vc11) m10 x10 (by omega) (by omega) (R11.out.later HB.out) Z11.out)
  rw [← hm11] at HC
  have M11 := uh hm11
  clear hm11
  go_wp2_with fail
  refine HC.out.mono ?_
  rintro e x11 ⟨rfl, hb⟩
  replace HB := uh (blw_trans HB.out hb)
  replace HX := uh (HX.out.later hb)
  clear hb gc hbz HC
  by_cases hl11 : m11 < 0
  · have HE : Hid (-1 = R) := by
      show _ = _; have := MM3.out; have := MM4.out; have := MM5.out; have := MM6.out; have := MM10.out; have h2 := M11.out
      split at h2
      · omega
      · rw [HRR.out, if_neg (by omega)]
    go_wp2
    go_ret
    exact ⟨Pl.ret_int HE.out, HB.out⟩
  have MM11 : Hid (m11 = m10 - ((n11 + wtL e11 : Nat) : Int)) := by
    show _ = _; have h2 := M11.out
    split at h2
    · exact h2
    · omega
  have hhi11 : m11 ≤ 1048576 := by have := MM11.out; omega
  have hbz := HX.out.lt
  have hbx := boxRecorder L3.out L4.out (by have := HX.out.at_; rw [HCS.out] at this; exact this)
  have gc := hbx.2.2.2.2.2.2.2.2.2.2.2.2.1
  clear hbx
  obtain ⟨m12, hm12⟩ : ∃ m12 : Int, m12 = if ((n12 + wtL e12 : Nat) : Int) ≤ m11 then m11 - ((n12 + wtL e12 : Nat) : Int) else -1 := ⟨_, rfl⟩
  obtain ⟨va12, vc12, hva⟩ := R12.out.len0
  subst hva
  have HC := uh (szRecAckS n12 e12 (.slice va12 n12 vc12) m11 x11 (by omega) (by omega) (R12.out.later HB.out) Z12.out)
  rw [← hm12] at HC
  have M12 := uh hm12
  clear hm12
  go_wp2_with fail
  refine HC.out.mono ?_
  rintro e x12 ⟨rfl, hb⟩
  replace HB := uh (blw_trans HB.out hb)
  replace HX := uh (HX.out.later hb)
  clear hb gc hbz HC
  by_cases hl12 : m12 < 0
  · have HE : Hid (-1 = R) := by
      show _ = _; have := MM3.out; have := MM4.out; have := MM5.out; have := MM6.out; have := MM10.out; have := MM11.out; have h2 := M12.out
      split at h2
      · omega
      · rw [HRR.out, if_neg (by omega)]
    go_wp2
    go_ret
    exact ⟨Pl.ret_int HE.out, HB.out⟩
  have MM12 : Hid (m12 = m11 - ((n12 + wtL e12 : Nat) : Int)) := by
    show _ = _; have h2 := M12.out
    split at h2
    · exact h2
    · omega
  have hhi12 : m12 ≤ 1048576 := by have := MM12.out; omega
  have HE : Hid (m12 = R) := by show _ = _; have := MM3.out; have := MM4.out; have := MM5.out; have := MM6.out; have := MM10.out; have := MM11.out; have := MM12.out; rw [HRR.out, if_pos (by omega)]; omega
  go_wp2
  go_ret
  exact ⟨Pl.ret_int HE.out, HB.out⟩
end Go.Proofs.Ytcefgacmagobnaa

namespace Go.Proofs.Ytcefgacmagobnaa
open Go.RowKit Go.Deep

set_option maxRecDepth 8000 in
set_option maxHeartbeats 8000000 in
theorem szRecFix (ds : List Dt) (cs : List Value) (left : Int) (w : World) (h0 : 0 ≤ left) (h1 : left ≤ 1048576) (h : Raw w shRecFix ds cs) (hz : szd ds) :
    Calls Try.prog 42 #[.agg cs.toArray, .int .i64 left] w fun e w' => e = .returned (.int .i64 (if ((wtL ds : Nat) : Int) ≤ left then left - ((wtL ds : Nat) : Int) else -1)) ∧ Below w.heap.size w w' := by
  obtain ⟨a0, a1, rfl, hcs⟩ := segRawRecFix h
  have HCS := uh hcs
  simp only [szd] at hz
  have Z1 := uh hz.1
  obtain ⟨R, hR⟩ : ∃ R : Int, R = if ((wtL (.i a0 :: .s a1 :: []) : Nat) : Int) ≤ left then left - ((wtL (.i a0 :: .s a1 :: []) : Nat) : Int) else -1 := ⟨_, rfl⟩
  rw [← hR]
  simp only [wtL] at hR
  have HRR := uh hR
  clear hR
  obtain ⟨wa, hwa⟩ : ∃ wa, wa = w.alloc (.cells cs.toArray 88) := ⟨_, rfl⟩
  have HB : Hid (Below w.heap.size w wa) := by show Below _ _ _; rw [hwa]; exact blw_alloc (Below.refl _ _) _
  have HX : Hid (LBox wa w.heap.size cs) := by show LBox _ _ _; rw [hwa]; exact LBox.new w cs.toArray _ _ rfl
  clear hcs hz h
  go_enter Try.func42, Try.ntmps42
  go_upto_region 1 with fail
  rw [← hwa]
  clear hwa
  have hbz := HX.out.lt
  have hbx := boxRecFix  (by have := HX.out.at_; rw [HCS.out] at this; exact this)
  have gc := hbx.2
  clear hbx
  have hsz1 : a1.size ≤ 9223372036854775807 := Z1.out
  obtain ⟨m1, hm1⟩ : ∃ m1 : Int, m1 = left - (a1.size : Int) := ⟨_, rfl⟩
  have M1 := uh hm1
  have hmc1 : left - (a1.size : Int) = m1 := hm1.symm
  clear hm1
  by_cases hl1 : m1 < 0
  · have HE : Hid (-1 = R) := by show _ = _; have := M1.out; rw [HRR.out, if_neg (by omega)]
    go_wp2
    go_ret
    exact ⟨Pl.ret_int HE.out, HB.out⟩
  have hlo1 : 0 ≤ m1 := by omega
  have hhi1 : m1 ≤ 1048576 := by have := M1.out; omega
  have HE : Hid (m1 = R) := by show _ = _; have := M1.out; rw [HRR.out, if_pos (by omega)]; omega
  go_wp2
  go_ret
  exact ⟨Pl.ret_int HE.out, HB.out⟩
set_option maxRecDepth 8000 in
set_option maxHeartbeats 8000000 in
theorem szRecFixS (n : Nat) (es : List Dt) (v : Value) (left : Int) (w : World) (h0 : 0 ≤ left) (h1 : left ≤ 1048576) (h : Raw w [.row 57 shRecFix] [.row n es] [v]) (hz : szd es) :
    Calls Try.prog 17 #[v, .int .i64 left] w fun e w' => e = .returned (.int .i64 (if ((n + wtL es : Nat) : Int) ≤ left then left - ((n + wtL es : Nat) : Int) else -1)) ∧ Below w.heap.size w w' := by
  obtain ⟨R, hR⟩ : ∃ R : Int, R = if ((n + wtL es : Nat) : Int) ≤ left then left - ((n + wtL es : Nat) : Int) else -1 := ⟨_, rfl⟩
  rw [← hR]
  have HRR := uh hR
  clear hR
  obtain ⟨a, c, hv⟩ := h.len0
  have HH := uh h
  have HZ := uh hz
  clear hz h
  have hn : n ≤ 9223372036854775807 := by rcases HH.out.slice with ⟨e, _⟩ | ⟨_, _, _, _, _, e, _⟩; omega; exact e.1
  subst hv
  go_enter Try.func17, Try.ntmps17
  by_cases hl : left - (n : Int) < 0
  · have HE : Hid (-1 = R) := by show _ = _; rw [HRR.out, if_neg (by omega)]
    go_wp2
    go_ret
    exact ⟨Pl.ret_int HE.out, Below.refl _ _⟩
  go_wp2
  go_loopw [1, 5] (fun l i wr => ∃ (q : Nat) (m : Int), q ≤ n ∧ i = .int .i64 q ∧ l = .int .i64 m ∧ m = left - n - wtL (es.take (q * 2)) ∧ 0 ≤ m ∧ Below w.heap.size w wr) (fun _ i _ => n - (intOf i).toNat)
  case atStart => exact ⟨0, left - n, Nat.zero_le _, rfl, rfl, by simp [wtL], by omega, Below.refl _ _⟩
  case round =>
    obtain ⟨q, m, hq, rfl, rfl, hm, hm0, hB⟩ := hrel
    have HM := uh hm
    have HB := uh hB
    have hm1 : m ≤ 1048576 := by omega
    clear hm hB
    by_cases hlt : q < n
    · have hr := (HH.out.later HB.out).slice
      rcases hr with ⟨e0, _⟩ | ⟨p, o, c2, hv, hp, _, vs, hr, hR⟩
      · omega
      injection hv with e1 _ e3
      subst e1
      subst e3
      obtain ⟨ve, hE, hg⟩ := hR.el hlt hr
      have hq0 : (0 : Int) ≤ (q : Int) := by omega
      have hq3 : (q : Int) < (n : Int) := by omega
      have hwn : wtL (es.take ((q + 1) * 2)) = wtL (es.take (q * 2)) + wtL (el 2 q es) := wt_next 2 q es
      have hwl : wtL (es.take ((q + 1) * 2)) ≤ wtL es := wt_le _ _
      have hze : szd (el 2 q es) := szd_el HZ.out
      obtain ⟨d, hd⟩ : ∃ d, d = el 2 q es := ⟨_, rfl⟩
      rw [← hd] at hwn hze
      have hE1 : Raw wr shRecFix d ve := by rw [hd]; exact hE
      have HW := uh (And.intro hwn hwl)
      clear hwn hwl hE hd hR
      have hg2 : wr.rangeAt p (o + q * 2) ve := hg
      have HL := uh hE1.len
      have HX := uh (szRecFix d ve m wr hm0 hm1 hE1 hze)
      clear hg hE1 hze hr
      obtain ⟨m2, hm2⟩ : ∃ m2 : Int, m2 = if ((wtL d : Nat) : Int) ≤ m then m - ((wtL d : Nat) : Int) else -1 := ⟨_, rfl⟩
      rw [← hm2] at HX
      have HM2 := uh hm2
      clear hm2
      go_wp2_with (refine wpList_load_mid rfl 88 _ rfl p (o + q * 2) rfl ve _ hg2 Try.underlying88 rfl (by rw [HL.out]; kernel_rfl) ?_)
      refine HX.out.mono ?_
      rintro e w2 ⟨rfl, hb⟩
      replace HB := uh (blw_trans HB.out hb)
      clear hb hg2 HX
      by_cases hl2 : m2 < 0
      · have HE : Hid (-1 = R) := by
          show _ = _; have := HW.out; have := HM.out; have h2 := HM2.out
          split at h2
          · omega
          · rw [HRR.out, if_neg (by omega)]
        go_wp2
        go_ret
        exact ⟨Pl.ret_int HE.out, HB.out⟩
      · have HE : Hid (m2 = left - n - wtL (es.take ((q + 1) * 2))) := by
          show _ = _; have := HW.out; have := HM.out; have h2 := HM2.out
          split at h2
          · omega
          · omega
        go_wp2
        go_roundw
        case rel => exact ⟨q + 1, _, by omega, by go_num, rfl, HE.out, by omega, HB.out⟩
        case measure => simp [intOf]; omega
    · obtain rfl : q = n := by omega
      have el_ : es.length = q * 2 := by obtain ⟨_, _, _, e, t, _⟩ := HH.out.typ.c_r; injection e with e1 e2; injection e1 with e3 e4; subst e3; subst e4; exact t.rows
      have HE : Hid (m = R) := by
        show _ = _; have h2 := HM.out; rw [← el_, List.take_length] at h2
        rw [HRR.out, if_pos (by omega)]; omega
      clear el_
      go_wp2
      go_ret
      exact ⟨Pl.ret_int HE.out, HB.out⟩
set_option maxRecDepth 8000 in
set_option maxHeartbeats 8000000 in
theorem szRecorderS (n : Nat) (es : List Dt) (v : Value) (left : Int) (w : World) (h0 : 0 ≤ left) (h1 : left ≤ 1048576) (h : Raw w [.row 52 shRecorder] [.row n es] [v]) (hz : szd es) :
    Calls Try.prog 15 #[v, .int .i64 left] w fun e w' => e = .returned (.int .i64 (if ((n + wtL es : Nat) : Int) ≤ left then left - ((n + wtL es : Nat) : Int) else -1)) ∧ Below w.heap.size w w' := by
  obtain ⟨R, hR⟩ : ∃ R : Int, R = if ((n + wtL es : Nat) : Int) ≤ left then left - ((n + wtL es : Nat) : Int) else -1 := ⟨_, rfl⟩
  rw [← hR]
  have HRR := uh hR
  clear hR
  obtain ⟨a, c, hv⟩ := h.len0
  have HH := uh h
  have HZ := uh hz
  clear hz h
  have hn : n ≤ 9223372036854775807 := by rcases HH.out.slice with ⟨e, _⟩ | ⟨_, _, _, _, _, e, _⟩; omega; exact e.1
  subst hv
  go_enter Try.func15, Try.ntmps15
  by_cases hl : left - (n : Int) < 0
  · have HE : Hid (-1 = R) := by show _ = _; rw [HRR.out, if_neg (by omega)]
    go_wp2
    go_ret
    exact ⟨Pl.ret_int HE.out, Below.refl _ _⟩
  go_wp2
  go_loopw [1, 5] (fun l i wr => ∃ (q : Nat) (m : Int), q ≤ n ∧ i = .int .i64 q ∧ l = .int .i64 m ∧ m = left - n - wtL (es.take (q * 18)) ∧ 0 ≤ m ∧ Below w.heap.size w wr) (fun _ i _ => n - (intOf i).toNat)
  case atStart => exact ⟨0, left - n, Nat.zero_le _, rfl, rfl, by simp [wtL], by omega, Below.refl _ _⟩
  case round =>
    obtain ⟨q, m, hq, rfl, rfl, hm, hm0, hB⟩ := hrel
    have HM := uh hm
    have HB := uh hB
    have hm1 : m ≤ 1048576 := by omega
    clear hm hB
    by_cases hlt : q < n
    · have hr := (HH.out.later HB.out).slice
      rcases hr with ⟨e0, _⟩ | ⟨p, o, c2, hv, hp, _, vs, hr, hR⟩
      · omega
      injection hv with e1 _ e3
      subst e1
      subst e3
      obtain ⟨ve, hE, hg⟩ := hR.el hlt hr
      have hq0 : (0 : Int) ≤ (q : Int) := by omega
      have hq3 : (q : Int) < (n : Int) := by omega
      have hwn : wtL (es.take ((q + 1) * 18)) = wtL (es.take (q * 18)) + wtL (el 18 q es) := wt_next 18 q es
      have hwl : wtL (es.take ((q + 1) * 18)) ≤ wtL es := wt_le _ _
      have hze : szd (el 18 q es) := szd_el HZ.out
      obtain ⟨d, hd⟩ : ∃ d, d = el 18 q es := ⟨_, rfl⟩
      rw [← hd] at hwn hze
      have hE1 : Raw wr shRecorder d ve := by rw [hd]; exact hE
      have HW := uh (And.intro hwn hwl)
      clear hwn hwl hE hd hR
      have hg2 : wr.rangeAt p (o + q * 18) ve := hg
      have HL := uh hE1.len
      have HX := uh (szRecorder d ve m wr hm0 hm1 hE1 hze)
      clear hg hE1 hze hr
      obtain ⟨m2, hm2⟩ : ∃ m2 : Int, m2 = if ((wtL d : Nat) : Int) ≤ m then m - ((wtL d : Nat) : Int) else -1 := ⟨_, rfl⟩
      rw [← hm2] at HX
      have HM2 := uh hm2
      clear hm2
      go_wp2_with (refine wpList_load_mid rfl 83 _ rfl p (o + q * 18) rfl ve _ hg2 Try.underlying83 rfl (by rw [HL.out]; kernel_rfl) ?_)
      refine HX.out.mono ?_
      rintro e w2 ⟨rfl, hb⟩
      replace HB := uh (blw_trans HB.out hb)
      clear hb hg2 HX
      by_cases hl2 : m2 < 0
      · have HE : Hid (-1 = R) := by
          show _ = _; have := HW.out; have := HM.out; have h2 := HM2.out
          split at h2
          · omega
          · rw [HRR.out, if_neg (by omega)]
        go_wp2
        go_ret
        exact ⟨Pl.ret_int HE.out, HB.out⟩
      · have HE : Hid (m2 = left - n - wtL (es.take ((q + 1) * 18))) := by
          show _ = _; have := HW.out; have := HM.out; have h2 := HM2.out
          split at h2
          · omega
          · omega
        go_wp2
        go_roundw
        case rel => exact ⟨q + 1, _, by omega, by go_num, rfl, HE.out, by omega, HB.out⟩
        case measure => simp [intOf]; omega
    · obtain rfl : q = n := by omega
      have el_ : es.length = q * 18 := by obtain ⟨_, _, _, e, t, _⟩ := HH.out.typ.c_r; injection e with e1 e2; injection e1 with e3 e4; subst e3; subst e4; exact t.rows
      have HE : Hid (m = R) := by
        show _ = _; have h2 := HM.out; rw [← el_, List.take_length] at h2
        rw [HRR.out, if_pos (by omega)]; omega
      clear el_
      go_wp2
      go_ret
      exact ⟨Pl.ret_int HE.out, HB.out⟩
set_option maxRecDepth 8000 in
set_option maxHeartbeats 8000000 in
theorem szRecWorld (ds : List Dt) (cs : List Value) (left : Int) (w : World) (h0 : 0 ≤ left) (h1 : left ≤ 1048576) (h : Raw w shRecWorld ds cs) (hz : szd ds) :
    Calls Try.prog 6 #[.agg cs.toArray, .int .i64 left] w fun e w' => e = .returned (.int .i64 (if ((wtL ds : Nat) : Int) ≤ left then left - ((wtL ds : Nat) : Int) else -1)) ∧ Below w.heap.size w w' := by
  obtain ⟨n0, e0, v0, n1, e1, v1, n2, e2, v2, rfl, hcs, r0, r1, r2⟩ := segRawRecWorld h
  have R0 := uh r0
  have R1 := uh r1
  have R2 := uh r2
  have HCS := uh hcs
  simp only [szd] at hz
  have Z0 := uh hz.1
  have Z1 := uh hz.2.1
  have Z2 := uh hz.2.2.1
  obtain ⟨R, hR⟩ : ∃ R : Int, R = if ((wtL (.row n0 e0 :: .row n1 e1 :: .row n2 e2 :: []) : Nat) : Int) ≤ left then left - ((wtL (.row n0 e0 :: .row n1 e1 :: .row n2 e2 :: []) : Nat) : Int) else -1 := ⟨_, rfl⟩
  rw [← hR]
  simp only [wtL] at hR
  have HRR := uh hR
  clear hR
  obtain ⟨wa, hwa⟩ : ∃ wa, wa = w.alloc (.cells cs.toArray 26) := ⟨_, rfl⟩
  have HB : Hid (Below w.heap.size w wa) := by show Below _ _ _; rw [hwa]; exact blw_alloc (Below.refl _ _) _
  have HX : Hid (LBox wa w.heap.size cs) := by show LBox _ _ _; rw [hwa]; exact LBox.new w cs.toArray _ _ rfl
  clear hcs hz h r0 r1 r2
  go_enter Try.func6, Try.ntmps6
  go_upto_region 1 with fail
  rw [← hwa]
  clear hwa
  have hbz := HX.out.lt
  have hbx := boxRecWorld  (by have := HX.out.at_; rw [HCS.out] at this; exact this)
  have gc := hbx.1
  clear hbx
  obtain ⟨m0, hm0⟩ : ∃ m0 : Int, m0 = if ((n0 + wtL e0 : Nat) : Int) ≤ left then left - ((n0 + wtL e0 : Nat) : Int) else -1 := ⟨_, rfl⟩
  obtain ⟨va0, vc0, hva⟩ := R0.out.len0
  subst hva
  have HC := uh (szRecorderS n0 e0 (.slice va0 n0 vc0) left wa (by omega) (by omega) (R0.out.later HB.out) Z0.out)
  rw [← hm0] at HC
  have M0 := uh hm0
  clear hm0
  go_wp2_with fail
  refine HC.out.mono ?_
  rintro e x0 ⟨rfl, hb⟩
  replace HB := uh (blw_trans HB.out hb)
  replace HX := uh (HX.out.later hb)
  clear hb gc hbz HC
  by_cases hl0 : m0 < 0
  · have HE : Hid (-1 = R) := by
      show _ = _; have h2 := M0.out
      split at h2
      · omega
      · rw [HRR.out, if_neg (by omega)]
    go_wp2
    go_ret
    exact ⟨Pl.ret_int HE.out, HB.out⟩
  have MM0 : Hid (m0 = left - ((n0 + wtL e0 : Nat) : Int)) := by
    show _ = _; have h2 := M0.out
    split at h2
    · exact h2
    · omega
  have hhi0 : m0 ≤ 1048576 := by have := MM0.out; omega
  have hbz := HX.out.lt
  have hbx := boxRecWorld  (by have := HX.out.at_; rw [HCS.out] at this; exact this)
  have gc := hbx.2.1
  clear hbx
  obtain ⟨m1, hm1⟩ : ∃ m1 : Int, m1 = if ((n1 + wtL e1 : Nat) : Int) ≤ m0 then m0 - ((n1 + wtL e1 : Nat) : Int) else -1 := ⟨_, rfl⟩
  obtain ⟨va1, vc1, hva⟩ := R1.out.len0
  subst hva
  have HC := uh (szRecMessageS n1 e1 (.slice va1 n1 vc1) m0 x0 (by omega) (by omega) (R1.out.later HB.out) Z1.out)
  rw [← hm1] at HC
  have M1 := uh hm1
  clear hm1
  go_wp2_with fail
  refine HC.out.mono ?_
  rintro e x1 ⟨rfl, hb⟩
  replace HB := uh (blw_trans HB.out hb)
  replace HX := uh (HX.out.later hb)
  clear hb gc hbz HC
  by_cases hl1 : m1 < 0
  · have HE : Hid (-1 = R) := by
      show _ = _; have := MM0.out; have h2 := M1.out
      split at h2
      · omega
      · rw [HRR.out, if_neg (by omega)]
    go_wp2
    go_ret
    exact ⟨Pl.ret_int HE.out, HB.out⟩
  have MM1 : Hid (m1 = m0 - ((n1 + wtL e1 : Nat) : Int)) := by
    show _ = _; have h2 := M1.out
    split at h2
    · exact h2
    · omega
  have hhi1 : m1 ≤ 1048576 := by have := MM1.out; omega
  have hbz := HX.out.lt
  have hbx := boxRecWorld  (by have := HX.out.at_; rw [HCS.out] at this; exact this)
  have gc := hbx.2.2
  clear hbx
  obtain ⟨m2, hm2⟩ : ∃ m2 : Int, m2 = if ((n2 + wtL e2 : Nat) : Int) ≤ m1 then m1 - ((n2 + wtL e2 : Nat) : Int) else -1 := ⟨_, rfl⟩
  obtain ⟨va2, vc2, hva⟩ := R2.out.len0
  subst hva
  have HC := uh (szRecFixS n2 e2 (.slice va2 n2 vc2) m1 x1 (by omega) (by omega) (R2.out.later HB.out) Z2.out)
  rw [← hm2] at HC
  have M2 := uh hm2
  clear hm2
  go_wp2_with fail
  refine HC.out.mono ?_
  rintro e x2 ⟨rfl, hb⟩
  replace HB := uh (blw_trans HB.out hb)
  replace HX := uh (HX.out.later hb)
  clear hb gc hbz HC
  by_cases hl2 : m2 < 0
  · have HE : Hid (-1 = R) := by
      show _ = _; have := MM0.out; have := MM1.out; have h2 := M2.out
      split at h2
      · omega
      · rw [HRR.out, if_neg (by omega)]
    go_wp2
    go_ret
    exact ⟨Pl.ret_int HE.out, HB.out⟩
  have MM2 : Hid (m2 = m1 - ((n2 + wtL e2 : Nat) : Int)) := by
    show _ = _; have h2 := M2.out
    split at h2
    · exact h2
    · omega
  have hhi2 : m2 ≤ 1048576 := by have := MM2.out; omega
  have HE : Hid (m2 = R) := by show _ = _; have := MM0.out; have := MM1.out; have := MM2.out; rw [HRR.out, if_pos (by omega)]; omega
  go_wp2
  go_ret
  exact ⟨Pl.ret_int HE.out, HB.out⟩
end Go.Proofs.Ytcefgacmagobnaa
