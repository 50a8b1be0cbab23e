/-
  Sizes of an object and of a service.
-/
import Derived.Test.YtiiahpegdpbkgaaOSh
namespace Go.Proofs.Ytiiahpegdpbkgaa
open Go.RowKit Go.Deep

set_option maxRecDepth 8000 in
set_option maxHeartbeats 8000000 in
theorem szStringS (n : Nat) (es : List Dt) (v : Value) (left : Int) (w : World) (h0 : 0 ≤ left) (h1 : left ≤ 1048576) (h : Raw w [.row 9 [.s]] [.row n es] [v]) (hz : szd es) :
    Calls Try.prog 12 #[v, .int .i64 left] w fun e w' => e = .returned (.int .i64 (if ((n + wtL es : Nat) : Int) ≤ left then left - ((n + wtL es : Nat) : Int) else -1)) ∧ Below w.heap.size w w' := by
  obtain ⟨R, hR⟩ : ∃ R : Int, R = if ((n + wtL es : Nat) : Int) ≤ left then left - ((n + wtL es : Nat) : Int) else -1 := ⟨_, rfl⟩
  rw [← hR]
  have HRR := uh hR
  clear hR
  obtain ⟨a, c, hv⟩ := h.len0
  have HH := uh h
  have HZ := uh hz
  clear hz h
  have hn : n ≤ 9223372036854775807 := by rcases HH.out.slice with ⟨e, _⟩ | ⟨_, _, _, _, _, e, _⟩; omega; exact e.1
  subst hv
  go_enter Try.func12, Try.ntmps12
  by_cases hl : left - (n : Int) < 0
  · have HE : Hid (-1 = R) := by show _ = _; rw [HRR.out, if_neg (by omega)]
    go_wp2
    go_ret
    exact ⟨Pl.ret_int HE.out, Below.refl _ _⟩
  go_wp2
  go_loopw [1, 5] (fun l i wr => ∃ (q : Nat) (m : Int), q ≤ n ∧ i = .int .i64 q ∧ l = .int .i64 m ∧ m = left - n - wtL (es.take (q * 1)) ∧ 0 ≤ m ∧ Below w.heap.size w wr) (fun _ i _ => n - (intOf i).toNat)
  case atStart => exact ⟨0, left - n, Nat.zero_le _, rfl, rfl, by simp [wtL], by omega, Below.refl _ _⟩
  case round =>
    obtain ⟨q, m, hq, rfl, rfl, hm, hm0, hB⟩ := hrel
    have HM := uh hm
    have HB := uh hB
    have hm1 : m ≤ 1048576 := by omega
    clear hm hB
    by_cases hlt : q < n
    · have hr := (HH.out.later HB.out).slice
      rcases hr with ⟨e0, _⟩ | ⟨p, o, c2, hv, hp, _, vs, hr, hR⟩
      · omega
      injection hv with e1 _ e3
      subst e1
      subst e3
      obtain ⟨ve, hE, hg⟩ := hR.el hlt hr
      have hq0 : (0 : Int) ≤ (q : Int) := by omega
      have hq3 : (q : Int) < (n : Int) := by omega
      have hwn : wtL (es.take ((q + 1) * 1)) = wtL (es.take (q * 1)) + wtL (el 1 q es) := wt_next 1 q es
      have hwl : wtL (es.take ((q + 1) * 1)) ≤ wtL es := wt_le _ _
      have hze : szd (el 1 q es) := szd_el HZ.out
      obtain ⟨d, hd⟩ : ∃ d, d = el 1 q es := ⟨_, rfl⟩
      rw [← hd] at hwn hze
      have hE1 : Raw wr [.s] d ve := by rw [hd]; exact hE
      have HW := uh (And.intro hwn hwl)
      clear hwn hwl hE hd hR
      obtain ⟨a0, rfl⟩ := typT1 hE1.typ
      obtain rfl := rawT1 hE1
      have gc : wr.cell? ⟨p, o + q, none⟩ = some (.string a0) := by have := rA_get hg 0 _ rfl; simpa using this
      have hsz : a0.size ≤ 9223372036854775807 := by simp only [szd] at hze; exact hze.1
      have HWT : Hid (wtL [Dt.s a0] = a0.size) := by show _ = _; simp [wtL]
      clear hg hE1 hze hr
      by_cases hl2 : m - (a0.size : Int) < 0
      · have HE : Hid (-1 = R) := by show _ = _; have := HW.out; have := HWT.out; have := HM.out; rw [HRR.out, if_neg (by omega)]
        go_wp2
        go_ret
        exact ⟨Pl.ret_int HE.out, HB.out⟩
      · have HE : Hid (m - (a0.size : Int) = left - n - wtL (es.take ((q + 1) * 1))) := by show _ = _; have := HW.out; have := HWT.out; have := HM.out; omega
        go_wp2
        go_roundw
        case rel => exact ⟨q + 1, _, by omega, by go_num, rfl, HE.out, by omega, HB.out⟩
        case measure => simp [intOf]; omega
    · obtain rfl : q = n := by omega
      have el_ : es.length = q * 1 := by obtain ⟨_, _, _, e, t, _⟩ := HH.out.typ.c_r; injection e with e1 e2; injection e1 with e3 e4; subst e3; subst e4; exact t.rows
      have HE : Hid (m = R) := by
        show _ = _; have h2 := HM.out; rw [← el_, List.take_length] at h2
        rw [HRR.out, if_pos (by omega)]; omega
      clear el_
      go_wp2
      go_ret
      exact ⟨Pl.ret_int HE.out, HB.out⟩
set_option maxRecDepth 8000 in
set_option maxHeartbeats 8000000 in
theorem szGateObject (ds : List Dt) (cs : List Value) (left : Int) (w : World) (h0 : 0 ≤ left) (h1 : left ≤ 1048576) (h : Raw w shGateObject ds cs) (hz : szd ds) :
    Calls Try.prog 4 #[.agg cs.toArray, .int .i64 left] w fun e w' => e = .returned (.int .i64 (if ((wtL ds : Nat) : Int) ≤ left then left - ((wtL ds : Nat) : Int) else -1)) ∧ Below w.heap.size w w' := by
  obtain ⟨a0, a1, a2, n3, e3, v3, a4, n5, e5, v5, a6, rfl, hcs, r3, r5⟩ := segRawGateObject h
  have R3 := uh r3
  have R5 := uh r5
  have HCS := uh hcs
  simp only [szd] at hz
  have Z0 := uh hz.1
  have Z1 := uh hz.2.1
  have Z2 := uh hz.2.2.1
  have Z3 := uh hz.2.2.2.1
  have Z5 := uh hz.2.2.2.2.1
  obtain ⟨R, hR⟩ : ∃ R : Int, R = if ((wtL (.s a0 :: .s a1 :: .s a2 :: .row n3 e3 :: .b a4 :: .row n5 e5 :: .i a6 :: []) : Nat) : Int) ≤ left then left - ((wtL (.s a0 :: .s a1 :: .s a2 :: .row n3 e3 :: .b a4 :: .row n5 e5 :: .i a6 :: []) : Nat) : Int) else -1 := ⟨_, rfl⟩
  rw [← hR]
  simp only [wtL] at hR
  have HRR := uh hR
  clear hR
  obtain ⟨wa, hwa⟩ : ∃ wa, wa = w.alloc (.cells cs.toArray 24) := ⟨_, rfl⟩
  have HB : Hid (Below w.heap.size w wa) := by show Below _ _ _; rw [hwa]; exact blw_alloc (Below.refl _ _) _
  have HX : Hid (LBox wa w.heap.size cs) := by show LBox _ _ _; rw [hwa]; exact LBox.new w cs.toArray _ _ rfl
  clear hcs hz h r3 r5
  go_enter Try.func4, Try.ntmps4
  go_upto_region 1 with fail
  rw [← hwa]
  clear hwa
  have hbz := HX.out.lt
  have hbx := boxGateObject  (by have := HX.out.at_; rw [HCS.out] at this; exact this)
  have gc := hbx.1
  clear hbx
  have hsz0 : a0.size ≤ 9223372036854775807 := Z0.out
  obtain ⟨m0, hm0⟩ : ∃ m0 : Int, m0 = left - (a0.size : Int) := ⟨_, rfl⟩
  have M0 := uh hm0
  have hmc0 : left - (a0.size : Int) = m0 := hm0.symm
  clear hm0
  by_cases hl0 : m0 < 0
  · have HE : Hid (-1 = R) := by show _ = _; have := M0.out; rw [HRR.out, if_neg (by omega)]
    go_wp2
    go_ret
    exact ⟨Pl.ret_int HE.out, HB.out⟩
  have hlo0 : 0 ≤ m0 := by omega
  have hhi0 : m0 ≤ 1048576 := by have := M0.out; omega
  have hbz := HX.out.lt
  have hbx := boxGateObject  (by have := HX.out.at_; rw [HCS.out] at this; exact this)
  have gc := hbx.2.1
  clear hbx
  have hsz1 : a1.size ≤ 9223372036854775807 := Z1.out
  obtain ⟨m1, hm1⟩ : ∃ m1 : Int, m1 = m0 - (a1.size : Int) := ⟨_, rfl⟩
  have M1 := uh hm1
  have hmc1 : m0 - (a1.size : Int) = m1 := hm1.symm
  clear hm1
  by_cases hl1 : m1 < 0
  · have HE : Hid (-1 = R) := by show _ = _; have := M0.out; have := M1.out; rw [HRR.out, if_neg (by omega)]
    go_wp2
    go_ret
    exact ⟨Pl.ret_int HE.out, HB.out⟩
  have hlo1 : 0 ≤ m1 := by omega
  have hhi1 : m1 ≤ 1048576 := by have := M1.out; omega
  have hbz := HX.out.lt
  have hbx := boxGateObject  (by have := HX.out.at_; rw [HCS.out] at this; exact this)
  have gc := hbx.2.2.1
  clear hbx
  have hsz2 : a2.size ≤ 9223372036854775807 := Z2.out
  obtain ⟨m2, hm2⟩ : ∃ m2 : Int, m2 = m1 - (a2.size : Int) := ⟨_, rfl⟩
  have M2 := uh hm2
  have hmc2 : m1 - (a2.size : Int) = m2 := hm2.symm
  clear hm2
  by_cases hl2 : m2 < 0
  · have HE : Hid (-1 = R) := by show _ = _; have := M0.out; have := M1.out; have := M2.out; rw [HRR.out, if_neg (by omega)]
    go_wp2
    go_ret
    exact ⟨Pl.ret_int HE.out, HB.out⟩
  have hlo2 : 0 ≤ m2 := by omega
  have hhi2 : m2 ≤ 1048576 := by have := M2.out; omega
  have hbz := HX.out.lt
  have hbx := boxGateObject  (by have := HX.out.at_; rw [HCS.out] at this; exact this)
  have gc := hbx.2.2.2.1
  clear hbx
  obtain ⟨m3, hm3⟩ : ∃ m3 : Int, m3 = if ((n3 + wtL e3 : Nat) : Int) ≤ m2 then m2 - ((n3 + wtL e3 : Nat) : Int) else -1 := ⟨_, rfl⟩
  obtain ⟨va3, vc3, hva⟩ := R3.out.len0
  subst hva
  have HC := uh (szStringS n3 e3 (.slice va3 n3 vc3) m2 wa (by omega) (by omega) (R3.out.later HB.out) Z3.out)
  rw [← hm3] at HC
  have M3 := uh hm3
  clear hm3
  go_wp2_with fail
  refine HC.out.mono ?_
  rintro e x3 ⟨rfl, hb⟩
  replace HB := uh (blw_trans HB.out hb)
  replace HX := uh (HX.out.later hb)
  clear hb gc hbz HC
  by_cases hl3 : m3 < 0
  · have HE : Hid (-1 = R) := by
      show _ = _; have := M0.out; have := M1.out; have := M2.out; have h2 := M3.out
      split at h2
      · omega
      · rw [HRR.out, if_neg (by omega)]
    go_wp2
    go_ret
    exact ⟨Pl.ret_int HE.out, HB.out⟩
  have MM3 : Hid (m3 = m2 - ((n3 + wtL e3 : Nat) : Int)) := by
    show _ = _; have h2 := M3.out
    split at h2
    · exact h2
    · omega
  have hhi3 : m3 ≤ 1048576 := by have := MM3.out; omega
  have hbz := HX.out.lt
  have hbx := boxGateObject  (by have := HX.out.at_; rw [HCS.out] at this; exact this)
  have gc := hbx.2.2.2.2.2.1
  clear hbx
  obtain ⟨m5, hm5⟩ : ∃ m5 : Int, m5 = if ((n5 + wtL e5 : Nat) : Int) ≤ m3 then m3 - ((n5 + wtL e5 : Nat) : Int) else -1 := ⟨_, rfl⟩
  obtain ⟨va5, vc5, hva⟩ := R5.out.len0
  subst hva
  have HC := uh (szStringS n5 e5 (.slice va5 n5 vc5) m3 x3 (by omega) (by omega) (R5.out.later HB.out) Z5.out)
  rw [← hm5] at HC
  have M5 := uh hm5
  clear hm5
  go_wp2_with fail
  refine HC.out.mono ?_
  rintro e x5 ⟨rfl, hb⟩
  replace HB := uh (blw_trans HB.out hb)
  replace HX := uh (HX.out.later hb)
  clear hb gc hbz HC
  by_cases hl5 : m5 < 0
  · have HE : Hid (-1 = R) := by
      show _ = _; have := M0.out; have := M1.out; have := M2.out; have := MM3.out; have h2 := M5.out
      split at h2
      · omega
      · rw [HRR.out, if_neg (by omega)]
    go_wp2
    go_ret
    exact ⟨Pl.ret_int HE.out, HB.out⟩
  have MM5 : Hid (m5 = m3 - ((n5 + wtL e5 : Nat) : Int)) := by
    show _ = _; have h2 := M5.out
    split at h2
    · exact h2
    · omega
  have hhi5 : m5 ≤ 1048576 := by have := MM5.out; omega
  have HE : Hid (m5 = R) := by show _ = _; have := M0.out; have := M1.out; have := M2.out; have := MM3.out; have := MM5.out; rw [HRR.out, if_pos (by omega)]; omega
  go_wp2
  go_ret
  exact ⟨Pl.ret_int HE.out, HB.out⟩
set_option maxRecDepth 8000 in
set_option maxHeartbeats 8000000 in
theorem szStewService (ds : List Dt) (cs : List Value) (left : Int) (w : World) (h0 : 0 ≤ left) (h1 : left ≤ 1048576) (h : Raw w shStewService ds cs) (hz : szd ds) :
    Calls Try.prog 5 #[.agg cs.toArray, .int .i64 left] w fun e w' => e = .returned (.int .i64 (if ((wtL ds : Nat) : Int) ≤ left then left - ((wtL ds : Nat) : Int) else -1)) ∧ Below w.heap.size w w' := by
  obtain ⟨a0, a1, a2, a3, a4, a5, a6, a7, a8, a9, a10, a11, a12, rfl, hcs⟩ := segRawStewService h
  have HCS := uh hcs
  simp only [szd] at hz
  have Z0 := uh hz.1
  obtain ⟨R, hR⟩ : ∃ R : Int, R = if ((wtL (.s a0 :: .i a1 :: .b a2 :: .i a3 :: .i a4 :: .i a5 :: .i a6 :: .i a7 :: .i a8 :: .i a9 :: .i a10 :: .i a11 :: .i a12 :: []) : Nat) : Int) ≤ left then left - ((wtL (.s a0 :: .i a1 :: .b a2 :: .i a3 :: .i a4 :: .i a5 :: .i a6 :: .i a7 :: .i a8 :: .i a9 :: .i a10 :: .i a11 :: .i a12 :: []) : Nat) : Int) else -1 := ⟨_, rfl⟩
  rw [← hR]
  simp only [wtL] at hR
  have HRR := uh hR
  clear hR
  obtain ⟨wa, hwa⟩ : ∃ wa, wa = w.alloc (.cells cs.toArray 26) := ⟨_, rfl⟩
  have HB : Hid (Below w.heap.size w wa) := by show Below _ _ _; rw [hwa]; exact blw_alloc (Below.refl _ _) _
  have HX : Hid (LBox wa w.heap.size cs) := by show LBox _ _ _; rw [hwa]; exact LBox.new w cs.toArray _ _ rfl
  clear hcs hz h
  go_enter Try.func5, Try.ntmps5
  go_upto_region 1 with fail
  rw [← hwa]
  clear hwa
  have hbz := HX.out.lt
  have hbx := boxStewService  (by have := HX.out.at_; rw [HCS.out] at this; exact this)
  have gc := hbx.1
  clear hbx
  have hsz0 : a0.size ≤ 9223372036854775807 := Z0.out
  obtain ⟨m0, hm0⟩ : ∃ m0 : Int, m0 = left - (a0.size : Int) := ⟨_, rfl⟩
  have M0 := uh hm0
  have hmc0 : left - (a0.size : Int) = m0 := hm0.symm
  clear hm0
  by_cases hl0 : m0 < 0
  · have HE : Hid (-1 = R) := by show _ = _; have := M0.out; rw [HRR.out, if_neg (by omega)]
    go_wp2
    go_ret
    exact ⟨Pl.ret_int HE.out, HB.out⟩
  have hlo0 : 0 ≤ m0 := by omega
  have hhi0 : m0 ≤ 1048576 := by have := M0.out; omega
  have HE : Hid (m0 = R) := by show _ = _; have := M0.out; rw [HRR.out, if_pos (by omega)]; omega
  go_wp2
  go_ret
  exact ⟨Pl.ret_int HE.out, HB.out⟩
end Go.Proofs.Ytiiahpegdpbkgaa
