/-
  The law of SheetDiff.
-/
import Derived.Test.YtojcopamegmeeaaESs
import Derived.Test.YtojcopamegmeeaaEVs
import Derived.Test.YtojcopamegmeeaaUB
import Derived.Test.YtojcopamegmeeaaESt
import Derived.Test.YtojcopamegmeeaaEVe
import Derived.Test.YtojcopamegmeeaaEVm
import Derived.Test.YtojcopamegmeeaaUL
namespace Go.Proofs.Ytojcopamegmeeaa
open Go.RowKit Go.Deep

set_option maxRecDepth 8000 in
set_option maxHeartbeats 8000000 in
theorem szStringS (n : Nat) (es : List Dt) (v : Value) (left : Int) (w : World) (h0 : 0 ≤ left) (h1 : left ≤ 1048576) (h : Raw w [.row 9 [.s]] [.row n es] [v]) (hz : szd es) :
    Calls Try.prog 80 #[v, .int .i64 left] w fun e w' => e = .returned (.int .i64 (if ((n + wtL es : Nat) : Int) ≤ left then left - ((n + wtL es : Nat) : Int) else -1)) ∧ Below w.heap.size w w' := by
  obtain ⟨R, hR⟩ : ∃ R : Int, R = if ((n + wtL es : Nat) : Int) ≤ left then left - ((n + wtL es : Nat) : Int) else -1 := ⟨_, rfl⟩
  rw [← hR]
  have HRR := uh hR
  clear hR
  obtain ⟨a, c, hv⟩ := h.len0
  have HH := uh h
  have HZ := uh hz
  clear hz h
  have hn : n ≤ 9223372036854775807 := by rcases HH.out.slice with ⟨e, _⟩ | ⟨_, _, _, _, _, e, _⟩; omega; exact e.1
  subst hv
  go_enter Try.func80, Try.ntmps80
  by_cases hl : left - (n : Int) < 0
  · have HE : Hid (-1 = R) := by show _ = _; rw [HRR.out, if_neg (by omega)]
    go_wp2
    go_ret
    exact ⟨Pl.ret_int HE.out, Below.refl _ _⟩
  go_wp2
  go_loopw [1, 5] (fun l i wr => ∃ (q : Nat) (m : Int), q ≤ n ∧ i = .int .i64 q ∧ l = .int .i64 m ∧ m = left - n - wtL (es.take (q * 1)) ∧ 0 ≤ m ∧ Below w.heap.size w wr) (fun _ i _ => n - (intOf i).toNat)
  case atStart => exact ⟨0, left - n, Nat.zero_le _, rfl, rfl, by simp [wtL], by omega, Below.refl _ _⟩
  case round =>
    obtain ⟨q, m, hq, rfl, rfl, hm, hm0, hB⟩ := hrel
    have HM := uh hm
    have HB := uh hB
    have hm1 : m ≤ 1048576 := by omega
    clear hm hB
    by_cases hlt : q < n
    · have hr := (HH.out.later HB.out).slice
      rcases hr with ⟨e0, _⟩ | ⟨p, o, c2, hv, hp, _, vs, hr, hR⟩
      · omega
      injection hv with e1 _ e3
      subst e1
      subst e3
      obtain ⟨ve, hE, hg⟩ := hR.el hlt hr
      have hq0 : (0 : Int) ≤ (q : Int) := by omega
      have hq3 : (q : Int) < (n : Int) := by omega
      have hwn : wtL (es.take ((q + 1) * 1)) = wtL (es.take (q * 1)) + wtL (el 1 q es) := wt_next 1 q es
      have hwl : wtL (es.take ((q + 1) * 1)) ≤ wtL es := wt_le _ _
      have hze : szd (el 1 q es) := szd_el HZ.out
      obtain ⟨d, hd⟩ : ∃ d, d = el 1 q es := ⟨_, rfl⟩
      rw [← hd] at hwn hze
      have hE1 : Raw wr [.s] d ve := by rw [hd]; exact hE
      have HW := uh (And.intro hwn hwl)
      clear hwn hwl hE hd hR
      obtain ⟨a0, rfl⟩ := typT1 hE1.typ
      obtain rfl := rawT1 hE1
      have gc : wr.cell? ⟨p, o + q, none⟩ = some (.string a0) := by have := rA_get hg 0 _ rfl; simpa using this
      have hsz : a0.size ≤ 9223372036854775807 := by simp only [szd] at hze; exact hze.1
      have HWT : Hid (wtL [Dt.s a0] = a0.size) := by show _ = _; simp [wtL]
      clear hg hE1 hze hr
      by_cases hl2 : m - (a0.size : Int) < 0
      · have HE : Hid (-1 = R) := by show _ = _; have := HW.out; have := HWT.out; have := HM.out; rw [HRR.out, if_neg (by omega)]
        go_wp2
        go_ret
        exact ⟨Pl.ret_int HE.out, HB.out⟩
      · have HE : Hid (m - (a0.size : Int) = left - n - wtL (es.take ((q + 1) * 1))) := by show _ = _; have := HW.out; have := HWT.out; have := HM.out; omega
        go_wp2
        go_roundw
        case rel => exact ⟨q + 1, _, by omega, by go_num, rfl, HE.out, by omega, HB.out⟩
        case measure => simp [intOf]; omega
    · obtain rfl : q = n := by omega
      have el_ : es.length = q * 1 := by obtain ⟨_, _, _, e, t, _⟩ := HH.out.typ.c_r; injection e with e1 e2; injection e1 with e3 e4; subst e3; subst e4; exact t.rows
      have HE : Hid (m = R) := by
        show _ = _; have h2 := HM.out; rw [← el_, List.take_length] at h2
        rw [HRR.out, if_pos (by omega)]; omega
      clear el_
      go_wp2
      go_ret
      exact ⟨Pl.ret_int HE.out, HB.out⟩
set_option maxRecDepth 8000 in
set_option maxHeartbeats 8000000 in
theorem szSheetLine (ds : List Dt) (cs : List Value) (left : Int) (w : World) (h0 : 0 ≤ left) (h1 : left ≤ 1048576) (h : Raw w shSheetLine ds cs) (hz : szd ds) :
    Calls Try.prog 70 #[.agg cs.toArray, .int .i64 left] w fun e w' => e = .returned (.int .i64 (if ((wtL ds : Nat) : Int) ≤ left then left - ((wtL ds : Nat) : Int) else -1)) ∧ Below w.heap.size w w' := by
  obtain ⟨a0, n1, e1, v1, rfl, hcs, r1⟩ := segRawSheetLine h
  have R1 := uh r1
  have HCS := uh hcs
  simp only [szd] at hz
  have Z0 := uh hz.1
  have Z1 := uh hz.2.1
  obtain ⟨R, hR⟩ : ∃ R : Int, R = if ((wtL (.s a0 :: .row n1 e1 :: []) : Nat) : Int) ≤ left then left - ((wtL (.s a0 :: .row n1 e1 :: []) : Nat) : Int) else -1 := ⟨_, rfl⟩
  rw [← hR]
  simp only [wtL] at hR
  have HRR := uh hR
  clear hR
  obtain ⟨wa, hwa⟩ : ∃ wa, wa = w.alloc (.cells cs.toArray 123) := ⟨_, rfl⟩
  have HB : Hid (Below w.heap.size w wa) := by show Below _ _ _; rw [hwa]; exact blw_alloc (Below.refl _ _) _
  have HX : Hid (LBox wa w.heap.size cs) := by show LBox _ _ _; rw [hwa]; exact LBox.new w cs.toArray _ _ rfl
  clear hcs hz h r1
  go_enter Try.func70, Try.ntmps70
  go_upto_region 1 with fail
  rw [← hwa]
  clear hwa
  have hbz := HX.out.lt
  have hbx := boxSheetLine  (by have := HX.out.at_; rw [HCS.out] at this; exact this)
  have gc := hbx.1
  clear hbx
  have hsz0 : a0.size ≤ 9223372036854775807 := Z0.out
  obtain ⟨m0, hm0⟩ : ∃ m0 : Int, m0 = left - (a0.size : Int) := ⟨_, rfl⟩
  have M0 := uh hm0
  have hmc0 : left - (a0.size : Int) = m0 := hm0.symm
  clear hm0
  by_cases hl0 : m0 < 0
  · have HE : Hid (-1 = R) := by show _ = _; have := M0.out; rw [HRR.out, if_neg (by omega)]
    go_wp2
    go_ret
    exact ⟨Pl.ret_int HE.out, HB.out⟩
  have hlo0 : 0 ≤ m0 := by omega
  have hhi0 : m0 ≤ 1048576 := by have := M0.out; omega
  have hbz := HX.out.lt
  have hbx := boxSheetLine  (by have := HX.out.at_; rw [HCS.out] at this; exact this)
  have gc := hbx.2
  clear hbx
  obtain ⟨m1, hm1⟩ : ∃ m1 : Int, m1 = if ((n1 + wtL e1 : Nat) : Int) ≤ m0 then m0 - ((n1 + wtL e1 : Nat) : Int) else -1 := ⟨_, rfl⟩
  obtain ⟨va1, vc1, hva⟩ := R1.out.len0
  subst hva
  have HC := uh (szStringS n1 e1 (.slice va1 n1 vc1) m0 wa (by omega) (by omega) (R1.out.later HB.out) Z1.out)
  rw [← hm1] at HC
  have M1 := uh hm1
  clear hm1
  go_wp2_with fail
  refine HC.out.mono ?_
  rintro e x1 ⟨rfl, hb⟩
  replace HB := uh (blw_trans HB.out hb)
  replace HX := uh (HX.out.later hb)
  clear hb gc hbz HC
  by_cases hl1 : m1 < 0
  · have HE : Hid (-1 = R) := by
      show _ = _; have := M0.out; have h2 := M1.out
      split at h2
      · omega
      · rw [HRR.out, if_neg (by omega)]
    go_wp2
    go_ret
    exact ⟨Pl.ret_int HE.out, HB.out⟩
  have MM1 : Hid (m1 = m0 - ((n1 + wtL e1 : Nat) : Int)) := by
    show _ = _; have h2 := M1.out
    split at h2
    · exact h2
    · omega
  have hhi1 : m1 ≤ 1048576 := by have := MM1.out; omega
  have HE : Hid (m1 = R) := by show _ = _; have := M0.out; have := MM1.out; rw [HRR.out, if_pos (by omega)]; omega
  go_wp2
  go_ret
  exact ⟨Pl.ret_int HE.out, HB.out⟩
set_option maxRecDepth 8000 in
set_option maxHeartbeats 8000000 in
theorem szSheetLineS (n : Nat) (es : List Dt) (v : Value) (left : Int) (w : World) (h0 : 0 ≤ left) (h1 : left ≤ 1048576) (h : Raw w [.row 69 shSheetLine] [.row n es] [v]) (hz : szd es) :
    Calls Try.prog 47 #[v, .int .i64 left] w fun e w' => e = .returned (.int .i64 (if ((n + wtL es : Nat) : Int) ≤ left then left - ((n + wtL es : Nat) : Int) else -1)) ∧ Below w.heap.size w w' := by
  obtain ⟨R, hR⟩ : ∃ R : Int, R = if ((n + wtL es : Nat) : Int) ≤ left then left - ((n + wtL es : Nat) : Int) else -1 := ⟨_, rfl⟩
  rw [← hR]
  have HRR := uh hR
  clear hR
  obtain ⟨a, c, hv⟩ := h.len0
  have HH := uh h
  have HZ := uh hz
  clear hz h
  have hn : n ≤ 9223372036854775807 := by rcases HH.out.slice with ⟨e, _⟩ | ⟨_, _, _, _, _, e, _⟩; omega; exact e.1
  subst hv
  go_enter Try.func47, Try.ntmps47
  by_cases hl : left - (n : Int) < 0
  · have HE : Hid (-1 = R) := by show _ = _; rw [HRR.out, if_neg (by omega)]
    go_wp2
    go_ret
    exact ⟨Pl.ret_int HE.out, Below.refl _ _⟩
  go_wp2
  go_loopw [1, 5] (fun l i wr => ∃ (q : Nat) (m : Int), q ≤ n ∧ i = .int .i64 q ∧ l = .int .i64 m ∧ m = left - n - wtL (es.take (q * 2)) ∧ 0 ≤ m ∧ Below w.heap.size w wr) (fun _ i _ => n - (intOf i).toNat)
  case atStart => exact ⟨0, left - n, Nat.zero_le _, rfl, rfl, by simp [wtL], by omega, Below.refl _ _⟩
  case round =>
    obtain ⟨q, m, hq, rfl, rfl, hm, hm0, hB⟩ := hrel
    have HM := uh hm
    have HB := uh hB
    have hm1 : m ≤ 1048576 := by omega
    clear hm hB
    by_cases hlt : q < n
    · have hr := (HH.out.later HB.out).slice
      rcases hr with ⟨e0, _⟩ | ⟨p, o, c2, hv, hp, _, vs, hr, hR⟩
      · omega
      injection hv with e1 _ e3
      subst e1
      subst e3
      obtain ⟨ve, hE, hg⟩ := hR.el hlt hr
      have hq0 : (0 : Int) ≤ (q : Int) := by omega
      have hq3 : (q : Int) < (n : Int) := by omega
      have hwn : wtL (es.take ((q + 1) * 2)) = wtL (es.take (q * 2)) + wtL (el 2 q es) := wt_next 2 q es
      have hwl : wtL (es.take ((q + 1) * 2)) ≤ wtL es := wt_le _ _
      have hze : szd (el 2 q es) := szd_el HZ.out
      obtain ⟨d, hd⟩ : ∃ d, d = el 2 q es := ⟨_, rfl⟩
      rw [← hd] at hwn hze
      have hE1 : Raw wr shSheetLine d ve := by rw [hd]; exact hE
      have HW := uh (And.intro hwn hwl)
      clear hwn hwl hE hd hR
      have hg2 : wr.rangeAt p (o + q * 2) ve := hg
      have HL := uh hE1.len
      have HX := uh (szSheetLine d ve m wr hm0 hm1 hE1 hze)
      clear hg hE1 hze hr
      obtain ⟨m2, hm2⟩ : ∃ m2 : Int, m2 = if ((wtL d : Nat) : Int) ≤ m then m - ((wtL d : Nat) : Int) else -1 := ⟨_, rfl⟩
      rw [← hm2] at HX
      have HM2 := uh hm2
      clear hm2
      go_wp2_with (refine wpList_load_mid rfl 123 _ rfl p (o + q * 2) rfl ve _ hg2 Try.underlying123 rfl (by rw [HL.out]; kernel_rfl) ?_)
      refine HX.out.mono ?_
      rintro e w2 ⟨rfl, hb⟩
      replace HB := uh (blw_trans HB.out hb)
      clear hb hg2 HX
      by_cases hl2 : m2 < 0
      · have HE : Hid (-1 = R) := by
          show _ = _; have := HW.out; have := HM.out; have h2 := HM2.out
          split at h2
          · omega
          · rw [HRR.out, if_neg (by omega)]
        go_wp2
        go_ret
        exact ⟨Pl.ret_int HE.out, HB.out⟩
      · have HE : Hid (m2 = left - n - wtL (es.take ((q + 1) * 2))) := by
          show _ = _; have := HW.out; have := HM.out; have h2 := HM2.out
          split at h2
          · omega
          · omega
        go_wp2
        go_roundw
        case rel => exact ⟨q + 1, _, by omega, by go_num, rfl, HE.out, by omega, HB.out⟩
        case measure => simp [intOf]; omega
    · obtain rfl : q = n := by omega
      have el_ : es.length = q * 2 := by obtain ⟨_, _, _, e, t, _⟩ := HH.out.typ.c_r; injection e with e1 e2; injection e1 with e3 e4; subst e3; subst e4; exact t.rows
      have HE : Hid (m = R) := by
        show _ = _; have h2 := HM.out; rw [← el_, List.take_length] at h2
        rw [HRR.out, if_pos (by omega)]; omega
      clear el_
      go_wp2
      go_ret
      exact ⟨Pl.ret_int HE.out, HB.out⟩
set_option maxRecDepth 8000 in
set_option maxHeartbeats 8000000 in
theorem szSheetBlock (ds : List Dt) (cs : List Value) (left : Int) (w : World) (h0 : 0 ≤ left) (h1 : left ≤ 1048576) (h : Raw w shSheetBlock ds cs) (hz : szd ds) :
    Calls Try.prog 27 #[.agg cs.toArray, .int .i64 left] w fun e w' => e = .returned (.int .i64 (if ((wtL ds : Nat) : Int) ≤ left then left - ((wtL ds : Nat) : Int) else -1)) ∧ Below w.heap.size w w' := by
  obtain ⟨a0, a1, n2, e2, v2, rfl, hcs, r2⟩ := segRawSheetBlock h
  have R2 := uh r2
  have HCS := uh hcs
  simp only [szd] at hz
  have Z0 := uh hz.1
  have Z1 := uh hz.2.1
  have Z2 := uh hz.2.2.1
  obtain ⟨R, hR⟩ : ∃ R : Int, R = if ((wtL (.s a0 :: .s a1 :: .row n2 e2 :: []) : Nat) : Int) ≤ left then left - ((wtL (.s a0 :: .s a1 :: .row n2 e2 :: []) : Nat) : Int) else -1 := ⟨_, rfl⟩
  rw [← hR]
  simp only [wtL] at hR
  have HRR := uh hR
  clear hR
  obtain ⟨wa, hwa⟩ : ∃ wa, wa = w.alloc (.cells cs.toArray 61) := ⟨_, rfl⟩
  have HB : Hid (Below w.heap.size w wa) := by show Below _ _ _; rw [hwa]; exact blw_alloc (Below.refl _ _) _
  have HX : Hid (LBox wa w.heap.size cs) := by show LBox _ _ _; rw [hwa]; exact LBox.new w cs.toArray _ _ rfl
  clear hcs hz h r2
  go_enter Try.func27, Try.ntmps27
  go_upto_region 1 with fail
  rw [← hwa]
  clear hwa
  have hbz := HX.out.lt
  have hbx := boxSheetBlock  (by have := HX.out.at_; rw [HCS.out] at this; exact this)
  have gc := hbx.1
  clear hbx
  have hsz0 : a0.size ≤ 9223372036854775807 := Z0.out
  obtain ⟨m0, hm0⟩ : ∃ m0 : Int, m0 = left - (a0.size : Int) := ⟨_, rfl⟩
  have M0 := uh hm0
  have hmc0 : left - (a0.size : Int) = m0 := hm0.symm
  clear hm0
  by_cases hl0 : m0 < 0
  · have HE : Hid (-1 = R) := by show _ = _; have := M0.out; rw [HRR.out, if_neg (by omega)]
    go_wp2
    go_ret
    exact ⟨Pl.ret_int HE.out, HB.out⟩
  have hlo0 : 0 ≤ m0 := by omega
  have hhi0 : m0 ≤ 1048576 := by have := M0.out; omega
  have hbz := HX.out.lt
  have hbx := boxSheetBlock  (by have := HX.out.at_; rw [HCS.out] at this; exact this)
  have gc := hbx.2.1
  clear hbx
  have hsz1 : a1.size ≤ 9223372036854775807 := Z1.out
  obtain ⟨m1, hm1⟩ : ∃ m1 : Int, m1 = m0 - (a1.size : Int) := ⟨_, rfl⟩
  have M1 := uh hm1
  have hmc1 : m0 - (a1.size : Int) = m1 := hm1.symm
  clear hm1
  by_cases hl1 : m1 < 0
  · have HE : Hid (-1 = R) := by show _ = _; have := M0.out; have := M1.out; rw [HRR.out, if_neg (by omega)]
    go_wp2
    go_ret
    exact ⟨Pl.ret_int HE.out, HB.out⟩
  have hlo1 : 0 ≤ m1 := by omega
  have hhi1 : m1 ≤ 1048576 := by have := M1.out; omega
  have hbz := HX.out.lt
  have hbx := boxSheetBlock  (by have := HX.out.at_; rw [HCS.out] at this; exact this)
  have gc := hbx.2.2
  clear hbx
  obtain ⟨m2, hm2⟩ : ∃ m2 : Int, m2 = if ((n2 + wtL e2 : Nat) : Int) ≤ m1 then m1 - ((n2 + wtL e2 : Nat) : Int) else -1 := ⟨_, rfl⟩
  obtain ⟨va2, vc2, hva⟩ := R2.out.len0
  subst hva
  have HC := uh (szSheetLineS n2 e2 (.slice va2 n2 vc2) m1 wa (by omega) (by omega) (R2.out.later HB.out) Z2.out)
  rw [← hm2] at HC
  have M2 := uh hm2
  clear hm2
  go_wp2_with fail
  refine HC.out.mono ?_
  rintro e x2 ⟨rfl, hb⟩
  replace HB := uh (blw_trans HB.out hb)
  replace HX := uh (HX.out.later hb)
  clear hb gc hbz HC
  by_cases hl2 : m2 < 0
  · have HE : Hid (-1 = R) := by
      show _ = _; have := M0.out; have := M1.out; have h2 := M2.out
      split at h2
      · omega
      · rw [HRR.out, if_neg (by omega)]
    go_wp2
    go_ret
    exact ⟨Pl.ret_int HE.out, HB.out⟩
  have MM2 : Hid (m2 = m1 - ((n2 + wtL e2 : Nat) : Int)) := by
    show _ = _; have h2 := M2.out
    split at h2
    · exact h2
    · omega
  have hhi2 : m2 ≤ 1048576 := by have := MM2.out; omega
  have HE : Hid (m2 = R) := by show _ = _; have := M0.out; have := M1.out; have := MM2.out; rw [HRR.out, if_pos (by omega)]; omega
  go_wp2
  go_ret
  exact ⟨Pl.ret_int HE.out, HB.out⟩
set_option maxRecDepth 8000 in
set_option maxHeartbeats 8000000 in
theorem szSheetBlockS (n : Nat) (es : List Dt) (v : Value) (left : Int) (w : World) (h0 : 0 ≤ left) (h1 : left ≤ 1048576) (h : Raw w [.row 42 shSheetBlock] [.row n es] [v]) (hz : szd es) :
    Calls Try.prog 13 #[v, .int .i64 left] w fun e w' => e = .returned (.int .i64 (if ((n + wtL es : Nat) : Int) ≤ left then left - ((n + wtL es : Nat) : Int) else -1)) ∧ Below w.heap.size w w' := by
  obtain ⟨R, hR⟩ : ∃ R : Int, R = if ((n + wtL es : Nat) : Int) ≤ left then left - ((n + wtL es : Nat) : Int) else -1 := ⟨_, rfl⟩
  rw [← hR]
  have HRR := uh hR
  clear hR
  obtain ⟨a, c, hv⟩ := h.len0
  have HH := uh h
  have HZ := uh hz
  clear hz h
  have hn : n ≤ 9223372036854775807 := by rcases HH.out.slice with ⟨e, _⟩ | ⟨_, _, _, _, _, e, _⟩; omega; exact e.1
  subst hv
  go_enter Try.func13, Try.ntmps13
  by_cases hl : left - (n : Int) < 0
  · have HE : Hid (-1 = R) := by show _ = _; rw [HRR.out, if_neg (by omega)]
    go_wp2
    go_ret
    exact ⟨Pl.ret_int HE.out, Below.refl _ _⟩
  go_wp2
  go_loopw [1, 5] (fun l i wr => ∃ (q : Nat) (m : Int), q ≤ n ∧ i = .int .i64 q ∧ l = .int .i64 m ∧ m = left - n - wtL (es.take (q * 3)) ∧ 0 ≤ m ∧ Below w.heap.size w wr) (fun _ i _ => n - (intOf i).toNat)
  case atStart => exact ⟨0, left - n, Nat.zero_le _, rfl, rfl, by simp [wtL], by omega, Below.refl _ _⟩
  case round =>
    obtain ⟨q, m, hq, rfl, rfl, hm, hm0, hB⟩ := hrel
    have HM := uh hm
    have HB := uh hB
    have hm1 : m ≤ 1048576 := by omega
    clear hm hB
    by_cases hlt : q < n
    · have hr := (HH.out.later HB.out).slice
      rcases hr with ⟨e0, _⟩ | ⟨p, o, c2, hv, hp, _, vs, hr, hR⟩
      · omega
      injection hv with e1 _ e3
      subst e1
      subst e3
      obtain ⟨ve, hE, hg⟩ := hR.el hlt hr
      have hq0 : (0 : Int) ≤ (q : Int) := by omega
      have hq3 : (q : Int) < (n : Int) := by omega
      have hwn : wtL (es.take ((q + 1) * 3)) = wtL (es.take (q * 3)) + wtL (el 3 q es) := wt_next 3 q es
      have hwl : wtL (es.take ((q + 1) * 3)) ≤ wtL es := wt_le _ _
      have hze : szd (el 3 q es) := szd_el HZ.out
      obtain ⟨d, hd⟩ : ∃ d, d = el 3 q es := ⟨_, rfl⟩
      rw [← hd] at hwn hze
      have hE1 : Raw wr shSheetBlock d ve := by rw [hd]; exact hE
      have HW := uh (And.intro hwn hwl)
      clear hwn hwl hE hd hR
      have hg2 : wr.rangeAt p (o + q * 3) ve := hg
      have HL := uh hE1.len
      have HX := uh (szSheetBlock d ve m wr hm0 hm1 hE1 hze)
      clear hg hE1 hze hr
      obtain ⟨m2, hm2⟩ : ∃ m2 : Int, m2 = if ((wtL d : Nat) : Int) ≤ m then m - ((wtL d : Nat) : Int) else -1 := ⟨_, rfl⟩
      rw [← hm2] at HX
      have HM2 := uh hm2
      clear hm2
      go_wp2_with (refine wpList_load_mid rfl 61 _ rfl p (o + q * 3) rfl ve _ hg2 Try.underlying61 rfl (by rw [HL.out]; kernel_rfl) ?_)
      refine HX.out.mono ?_
      rintro e w2 ⟨rfl, hb⟩
      replace HB := uh (blw_trans HB.out hb)
      clear hb hg2 HX
      by_cases hl2 : m2 < 0
      · have HE : Hid (-1 = R) := by
          show _ = _; have := HW.out; have := HM.out; have h2 := HM2.out
          split at h2
          · omega
          · rw [HRR.out, if_neg (by omega)]
        go_wp2
        go_ret
        exact ⟨Pl.ret_int HE.out, HB.out⟩
      · have HE : Hid (m2 = left - n - wtL (es.take ((q + 1) * 3))) := by
          show _ = _; have := HW.out; have := HM.out; have h2 := HM2.out
          split at h2
          · omega
          · omega
        go_wp2
        go_roundw
        case rel => exact ⟨q + 1, _, by omega, by go_num, rfl, HE.out, by omega, HB.out⟩
        case measure => simp [intOf]; omega
    · obtain rfl : q = n := by omega
      have el_ : es.length = q * 3 := by obtain ⟨_, _, _, e, t, _⟩ := HH.out.typ.c_r; injection e with e1 e2; injection e1 with e3 e4; subst e3; subst e4; exact t.rows
      have HE : Hid (m = R) := by
        show _ = _; have h2 := HM.out; rw [← el_, List.take_length] at h2
        rw [HRR.out, if_pos (by omega)]; omega
      clear el_
      go_wp2
      go_ret
      exact ⟨Pl.ret_int HE.out, HB.out⟩
set_option maxRecDepth 8000 in
set_option maxHeartbeats 8000000 in
theorem szSheet (ds : List Dt) (cs : List Value) (left : Int) (w : World) (h0 : 0 ≤ left) (h1 : left ≤ 1048576) (h : Raw w shSheet ds cs) (hz : szd ds) :
    Calls Try.prog 4 #[.agg cs.toArray, .int .i64 left] w fun e w' => e = .returned (.int .i64 (if ((wtL ds : Nat) : Int) ≤ left then left - ((wtL ds : Nat) : Int) else -1)) ∧ Below w.heap.size w w' := by
  obtain ⟨n0, e0, v0, rfl, hcs, r0⟩ := segRawSheet h
  have R0 := uh r0
  have HCS := uh hcs
  simp only [szd] at hz
  have Z0 := uh hz.1
  obtain ⟨R, hR⟩ : ∃ R : Int, R = if ((wtL (.row n0 e0 :: []) : Nat) : Int) ≤ left then left - ((wtL (.row n0 e0 :: []) : Nat) : Int) else -1 := ⟨_, rfl⟩
  rw [← hR]
  simp only [wtL] at hR
  have HRR := uh hR
  clear hR
  obtain ⟨wa, hwa⟩ : ∃ wa, wa = w.alloc (.cells cs.toArray 24) := ⟨_, rfl⟩
  have HB : Hid (Below w.heap.size w wa) := by show Below _ _ _; rw [hwa]; exact blw_alloc (Below.refl _ _) _
  have HX : Hid (LBox wa w.heap.size cs) := by show LBox _ _ _; rw [hwa]; exact LBox.new w cs.toArray _ _ rfl
  clear hcs hz h r0
  go_enter Try.func4, Try.ntmps4
  go_upto_region 1 with fail
  rw [← hwa]
  clear hwa
  have hbz := HX.out.lt
  have hbx := boxSheet  (by have := HX.out.at_; rw [HCS.out] at this; exact this)
  have gc := hbx
  clear hbx
  obtain ⟨m0, hm0⟩ : ∃ m0 : Int, m0 = if ((n0 + wtL e0 : Nat) : Int) ≤ left then left - ((n0 + wtL e0 : Nat) : Int) else -1 := ⟨_, rfl⟩
  obtain ⟨va0, vc0, hva⟩ := R0.out.len0
  subst hva
  have HC := uh (szSheetBlockS n0 e0 (.slice va0 n0 vc0) left wa (by omega) (by omega) (R0.out.later HB.out) Z0.out)
  rw [← hm0] at HC
  have M0 := uh hm0
  clear hm0
  go_wp2_with fail
  refine HC.out.mono ?_
  rintro e x0 ⟨rfl, hb⟩
  replace HB := uh (blw_trans HB.out hb)
  replace HX := uh (HX.out.later hb)
  clear hb gc hbz HC
  by_cases hl0 : m0 < 0
  · have HE : Hid (-1 = R) := by
      show _ = _; have h2 := M0.out
      split at h2
      · omega
      · rw [HRR.out, if_neg (by omega)]
    go_wp2
    go_ret
    exact ⟨Pl.ret_int HE.out, HB.out⟩
  have MM0 : Hid (m0 = left - ((n0 + wtL e0 : Nat) : Int)) := by
    show _ = _; have h2 := M0.out
    split at h2
    · exact h2
    · omega
  have hhi0 : m0 ≤ 1048576 := by have := MM0.out; omega
  have HE : Hid (m0 = R) := by show _ = _; have := MM0.out; rw [HRR.out, if_pos (by omega)]; omega
  go_wp2
  go_ret
  exact ⟨Pl.ret_int HE.out, HB.out⟩
end Go.Proofs.Ytojcopamegmeeaa

namespace Go.Proofs.Ytojcopamegmeeaa
open Go.RowKit Go.Deep

set_option maxRecDepth 8000 in
set_option maxHeartbeats 8000000 in
theorem heldStringS (n : Nat) (es : List Dt) (v : Value) (k : Nat) (w : World) (ht : Typ (reps n [.s]) es) (h : Raw w [.row 9 [.s]] [.row n (mkL k es)] [v]) (h1 : 1 ≤ k) (hk : k + cntL es ≤ 4000000000000000000) :
    Calls Try.prog 46 #[v, .int .i64 (k : Int)] w fun e w' => e = .returned (.int .i64 ((k + cntL es : Nat) : Int)) ∧ Below w.heap.size w w' := by
  have HT := uh ht
  clear ht
  rcases h.slice with ⟨rfl, hes, a, c, rfl⟩ | ⟨p, o, c, rfl, hp, hn, vs, hr, hR⟩
  · have he0 : es = [] := List.eq_nil_of_length_eq_zero (by have := HT.out.rows; omega)
    subst he0
    go_enter Try.func46, Try.ntmps46
    go_wp2
    refine wp_loop_rounds 1 ?_
    rw [rounds_succ]
    go_wp2
    go_ret
    exact ⟨by simp [cntL], Below.refl _ _⟩
  · have HR := uh hR; have HRG := uh hr
    have HP := uh hp
    have hn1 : n ≤ 9223372036854775807 := hn.1
    clear hr hR h hn hp
    go_enter Try.func46, Try.ntmps46
    go_wp2
    go_loopw [1, 5] (fun kk i wr => ∃ q : Nat, q ≤ n ∧ i = .int .i64 (q : Int) ∧ kk = .int .i64 ((k + cntL (es.take (q * 1)) : Nat) : Int) ∧ Below w.heap.size w wr) (fun _ i _ => n - (intOf i).toNat)
    case atStart => exact ⟨0, Nat.zero_le _, rfl, by simp [cntL], Below.refl _ _⟩
    case round =>
      obtain ⟨q, hq, rfl, rfl, hM⟩ := hrel
      have HB := uh hM
      clear hM
      by_cases hlt : q < n
      · obtain ⟨ve, hE, hrng⟩ := (HR.out.later HB.out).el hlt (rA_later HRG.out HP.out HB.out)
        have hE1 : Raw wr [.s] (el 1 q (mkL k es)) ve := hE
        rw [show el 1 q (mkL k es) = mkL (k + cntL (es.take (q * 1))) (el 1 q es) from mk_el (sh := [.s]) HT.out hlt] at hE1
        obtain ⟨d, hd⟩ : ∃ d, d = el 1 q es := ⟨_, rfl⟩
        have hte : Typ [.s] d := by rw [hd]; exact HT.out.el hlt
        have hcn : k + cntL (es.take (q * 1)) + cntL d ≤ 4000000000000000000 := by rw [hd]; have := @cnt_el q 1 es; omega
        have hnx : cntL (es.take ((q + 1) * 1)) = cntL (es.take (q * 1)) + cntL d := by rw [hd]; exact cnt_next (sh := [.s]) HT.out hlt
        rw [← hd] at hE1
        clear hE hd
        obtain ⟨kq, hkq⟩ : ∃ kq : Nat, kq = k + cntL (es.take (q * 1)) := ⟨_, rfl⟩
        rw [← hkq] at hcn hE1 ⊢
        have HNX : Hid (k + cntL (es.take ((q + 1) * 1)) = kq + cntL d) := by show _ = _; omega
        obtain ⟨a0, rfl⟩ := typT1 hte
        simp only [mkL] at hE1
        obtain rfl := rawT1 hE1
        have hkq1 : 1 ≤ kq := by omega
        have hkq2 : kq ≤ 4000000000000000000 := by omega
        simp only [cntL] at hcn
        have HCN := uh hcn
        have HPR : Hid (p < wr.heap.size) := Nat.lt_of_lt_of_le HP.out HB.out.size
        have HG : Hid (wr.rangeAt p (o + q) _) := (by show World.rangeAt _ _ _ _; have := hrng; simpa using this)
        clear hcn hE1 hte hkq hnx hrng
        have hm0 : (0 : Int) ≤ (q : Int) := by omega
        have hm3 : (q : Int) < (n : Int) := by omega
        have hbz := HPR.out
        have gc : wr.cell? ⟨p, o + q, none⟩ = some (.string (mt kq)) := rA_get HG.out 0 _ rfl
        have hNE := upst_some wr
        have hbz2 : ∀ px : UPst wr, p < px.W.heap.size := fun px => px.size hbz
        have S1 : ∀ px : UPst wr, px.W.cell? ⟨p, o + q, none⟩ = some (.string (mt kq)) := fun px => px.cell gc hbz
        go_upto_region 4 with fail
        clear gc hbz
        refine uregion wr (Below.refl _ _) (by kernel_rfl) (by kernel_rfl) ?_
        repeat (first
          | go_big_quiet_skip
          | (go_big_quiet_want; go_big_quiet_op; first | go_big_quiet_on | (apply Exists.intro; refine ⟨fun px => ?_, ?_⟩; (focus ((go_at_call 24; refine (markText kq _ (by omega) (by omega)).mono ?_; rintro e w' ⟨he, hb⟩; exact ⟨he, ⟨w', blw_trans px.ok hb⟩, rfl⟩))); go_big_quiet_on)))
        refine wpQuiet_nil ?_
        intro _ hw'
        obtain ⟨z0, hw''⟩ := hw'
        subst hw''
        replace HB := uh (blw_trans HB.out z0.ok)
        replace HG := uh (rA_later HG.out HPR.out z0.ok)
        replace HPR := uh (Nat.lt_of_lt_of_le HPR.out z0.ok.size)
        clear S1 hbz2 hNE
        obtain ⟨k0, hk0⟩ : ∃ k0 : Nat, k0 = kq + 1 := ⟨_, rfl⟩
        have hkc0 : (kq : Int) + 1 = (k0 : Int) := by omega
        have HK0 := uh hk0
        have kb0 : 1 ≤ k0 ∧ k0 ≤ 4000000000000000000 := by have := HCN.out; have := HK0.out; omega
        obtain ⟨kl0, ku0⟩ := kb0
        clear hk0
        have HF : Hid (k0 = k + cntL (es.take ((q + 1) * 1))) := by
          have := HNX.out; simp only [cntL] at this; have := HK0.out; show _ = _; omega
        go_wp2
        go_roundw
        case rel => exact ⟨q + 1, by omega, by go_num, by rw [← HF.out], HB.out⟩
        case measure => simp [intOf]; omega
      · obtain rfl : q = n := by omega
        have el_ : es.length = q * 1 := HT.out.rows
        rw [← el_, List.take_length]
        go_wp2
        go_ret
        exact ⟨rfl, HB.out⟩
set_option maxRecDepth 8000 in
set_option maxHeartbeats 8000000 in
theorem heldSheetLineS (n : Nat) (es : List Dt) (v : Value) (k : Nat) (w : World) (ht : Typ (reps n shSheetLine) es) (h : Raw w [.row 69 shSheetLine] [.row n (mkL k es)] [v]) (h1 : 1 ≤ k) (hk : k + cntL es ≤ 4000000000000000000) :
    Calls Try.prog 26 #[v, .int .i64 (k : Int)] w fun e w' => e = .returned (.int .i64 ((k + cntL es : Nat) : Int)) ∧ Below w.heap.size w w' := by
  have HT := uh ht
  clear ht
  rcases h.slice with ⟨rfl, hes, a, c, rfl⟩ | ⟨p, o, c, rfl, hp, hn, vs, hr, hR⟩
  · have he0 : es = [] := List.eq_nil_of_length_eq_zero (by have := HT.out.rows; omega)
    subst he0
    go_enter Try.func26, Try.ntmps26
    go_wp2
    refine wp_loop_rounds 1 ?_
    rw [rounds_succ]
    go_wp2
    go_ret
    exact ⟨by simp [cntL], Below.refl _ _⟩
  · have HR := uh hR; have HRG := uh hr
    have HP := uh hp
    have hn1 : n ≤ 9223372036854775807 := hn.1
    clear hr hR h hn hp
    go_enter Try.func26, Try.ntmps26
    go_wp2
    go_loopw [1, 5] (fun kk i wr => ∃ q : Nat, q ≤ n ∧ i = .int .i64 (q : Int) ∧ kk = .int .i64 ((k + cntL (es.take (q * 2)) : Nat) : Int) ∧ Below w.heap.size w wr) (fun _ i _ => n - (intOf i).toNat)
    case atStart => exact ⟨0, Nat.zero_le _, rfl, by simp [cntL], Below.refl _ _⟩
    case round =>
      obtain ⟨q, hq, rfl, rfl, hM⟩ := hrel
      have HB := uh hM
      clear hM
      by_cases hlt : q < n
      · obtain ⟨ve, hE, hrng⟩ := (HR.out.later HB.out).el hlt (rA_later HRG.out HP.out HB.out)
        have hE1 : Raw wr shSheetLine (el 2 q (mkL k es)) ve := hE
        rw [show el 2 q (mkL k es) = mkL (k + cntL (es.take (q * 2))) (el 2 q es) from mk_el (sh := shSheetLine) HT.out hlt] at hE1
        obtain ⟨d, hd⟩ : ∃ d, d = el 2 q es := ⟨_, rfl⟩
        have hte : Typ shSheetLine d := by rw [hd]; exact HT.out.el hlt
        have hcn : k + cntL (es.take (q * 2)) + cntL d ≤ 4000000000000000000 := by rw [hd]; have := @cnt_el q 2 es; omega
        have hnx : cntL (es.take ((q + 1) * 2)) = cntL (es.take (q * 2)) + cntL d := by rw [hd]; exact cnt_next (sh := shSheetLine) HT.out hlt
        rw [← hd] at hE1
        clear hE hd
        obtain ⟨kq, hkq⟩ : ∃ kq : Nat, kq = k + cntL (es.take (q * 2)) := ⟨_, rfl⟩
        rw [← hkq] at hcn hE1 ⊢
        have HNX : Hid (k + cntL (es.take ((q + 1) * 2)) = kq + cntL d) := by show _ = _; omega
        obtain ⟨a0, n1, e1, rfl, t1⟩ := typSheetLine hte
        simp only [mkL] at hE1
        obtain ⟨v1, rfl, r1⟩ := rawSheetLine hE1
        have hkq1 : 1 ≤ kq := by omega
        have hkq2 : kq ≤ 4000000000000000000 := by omega
        simp only [cntL] at hcn
        have HCN := uh hcn
        have HPR : Hid (p < wr.heap.size) := Nat.lt_of_lt_of_le HP.out HB.out.size
        have HG : Hid (wr.rangeAt p (o + q * 2) _) := hrng
        have R1 := uh r1
        clear hcn hE1 hte hkq hnx hrng r1
        have hm0 : (0 : Int) ≤ (q : Int) := by omega
        have hm3 : (q : Int) < (n : Int) := by omega
        have hbz := HPR.out
        have gc : wr.cell? ⟨p, o + q * 2, none⟩ = some (.string (mt kq)) := rA_get HG.out 0 _ rfl
        have hNE := upst_some wr
        have hbz2 : ∀ px : UPst wr, p < px.W.heap.size := fun px => px.size hbz
        have S1 : ∀ px : UPst wr, px.W.cell? ⟨p, o + q * 2, none⟩ = some (.string (mt kq)) := fun px => px.cell gc hbz
        go_upto_region 4 with fail
        clear gc hbz
        refine uregion wr (Below.refl _ _) (by kernel_rfl) (by kernel_rfl) ?_
        repeat (first
          | go_big_quiet_skip
          | (go_big_quiet_want; go_big_quiet_op; first | go_big_quiet_on | (apply Exists.intro; refine ⟨fun px => ?_, ?_⟩; (focus ((go_at_call 24; refine (markText kq _ (by omega) (by omega)).mono ?_; rintro e w' ⟨he, hb⟩; exact ⟨he, ⟨w', blw_trans px.ok hb⟩, rfl⟩))); go_big_quiet_on)))
        refine wpQuiet_nil ?_
        intro _ hw'
        obtain ⟨z0, hw''⟩ := hw'
        subst hw''
        replace HB := uh (blw_trans HB.out z0.ok)
        replace HG := uh (rA_later HG.out HPR.out z0.ok)
        replace R1 := uh (R1.out.later z0.ok)
        replace HPR := uh (Nat.lt_of_lt_of_le HPR.out z0.ok.size)
        clear S1 hbz2 hNE
        obtain ⟨k0, hk0⟩ : ∃ k0 : Nat, k0 = kq + 1 := ⟨_, rfl⟩
        have hkc0 : (kq : Int) + 1 = (k0 : Int) := by omega
        have HK0 := uh hk0
        have kb0 : 1 ≤ k0 ∧ k0 ≤ 4000000000000000000 := by have := HCN.out; have := HK0.out; omega
        obtain ⟨kl0, ku0⟩ := kb0
        try rw [← hk0] at HG
        try rw [← hk0] at R1
        clear hk0
        go_upto_region 7 with fail
        clear hkc0
        have hbz := HPR.out
        obtain ⟨va1, vc1, hva⟩ := R1.out.len0
        subst hva
        have gc : z0.W.cell? ⟨p, o + q * 2 + 1, none⟩ = some (.slice va1 n1 vc1) := rA_get HG.out 1 _ rfl
        obtain ⟨k1, hk1⟩ : ∃ k1 : Nat, k1 = k0 + cntL e1 := ⟨_, rfl⟩
        have HK1 := uh hk1
        have kb1 : 1 ≤ k1 ∧ k1 ≤ 4000000000000000000 := by have := HCN.out; have := HK0.out; have := HK1.out; omega
        obtain ⟨kl1, ku1⟩ := kb1
        have kn1 : ¬ (k1 : Int) < 0 := by omega
        clear hk1
        go_wp2_with fail
        refine (heldStringS n1 e1 (.slice va1 n1 vc1) k0 z0.W t1 R1.out (by omega) (by have := HK1.out; omega)).mono ?_
        rintro e x1 ⟨he, hb1⟩
        rw [← HK1.out] at he
        subst he
        replace HB := uh (blw_trans HB.out hb1)
        replace HG := uh (rA_later HG.out HPR.out hb1)
        replace HPR := uh (Nat.lt_of_lt_of_le HPR.out hb1.size)
        clear gc hbz hb1
        have HF : Hid (k1 = k + cntL (es.take ((q + 1) * 2))) := by
          have := HNX.out; simp only [cntL] at this; have := HK0.out; have := HK1.out; show _ = _; omega
        go_wp2
        go_roundw
        case rel => exact ⟨q + 1, by omega, by go_num, by rw [← HF.out], HB.out⟩
        case measure => simp [intOf]; omega
      · obtain rfl : q = n := by omega
        have el_ : es.length = q * 2 := HT.out.rows
        rw [← el_, List.take_length]
        go_wp2
        go_ret
        exact ⟨rfl, HB.out⟩
end Go.Proofs.Ytojcopamegmeeaa

namespace Go.Proofs.Ytojcopamegmeeaa
open Go.RowKit Go.Deep

set_option maxRecDepth 8000 in
set_option maxHeartbeats 8000000 in
theorem heldSheetChangeS (n : Nat) (es : List Dt) (v : Value) (k : Nat) (w : World) (ht : Typ (reps n shSheetChange) es) (h : Raw w [.row 44 shSheetChange] [.row n (mkL k es)] [v]) (h1 : 1 ≤ k) (hk : k + cntL es ≤ 4000000000000000000) :
    Calls Try.prog 12 #[v, .int .i64 (k : Int)] w fun e w' => e = .returned (.int .i64 ((k + cntL es : Nat) : Int)) ∧ Below w.heap.size w w' := by
  have HT := uh ht
  clear ht
  rcases h.slice with ⟨rfl, hes, a, c, rfl⟩ | ⟨p, o, c, rfl, hp, hn, vs, hr, hR⟩
  · have he0 : es = [] := List.eq_nil_of_length_eq_zero (by have := HT.out.rows; omega)
    subst he0
    go_enter Try.func12, Try.ntmps12
    go_wp2
    refine wp_loop_rounds 1 ?_
    rw [rounds_succ]
    go_wp2
    go_ret
    exact ⟨by simp [cntL], Below.refl _ _⟩
  · have HR := uh hR; have HRG := uh hr
    have HP := uh hp
    have hn1 : n ≤ 9223372036854775807 := hn.1
    clear hr hR h hn hp
    go_enter Try.func12, Try.ntmps12
    go_wp2
    go_loopw [1, 5] (fun kk i wr => ∃ q : Nat, q ≤ n ∧ i = .int .i64 (q : Int) ∧ kk = .int .i64 ((k + cntL (es.take (q * 5)) : Nat) : Int) ∧ Below w.heap.size w wr) (fun _ i _ => n - (intOf i).toNat)
    case atStart => exact ⟨0, Nat.zero_le _, rfl, by simp [cntL], Below.refl _ _⟩
    case round =>
      obtain ⟨q, hq, rfl, rfl, hM⟩ := hrel
      have HB := uh hM
      clear hM
      by_cases hlt : q < n
      · obtain ⟨ve, hE, hrng⟩ := (HR.out.later HB.out).el hlt (rA_later HRG.out HP.out HB.out)
        have hE1 : Raw wr shSheetChange (el 5 q (mkL k es)) ve := hE
        rw [show el 5 q (mkL k es) = mkL (k + cntL (es.take (q * 5))) (el 5 q es) from mk_el (sh := shSheetChange) HT.out hlt] at hE1
        obtain ⟨d, hd⟩ : ∃ d, d = el 5 q es := ⟨_, rfl⟩
        have hte : Typ shSheetChange d := by rw [hd]; exact HT.out.el hlt
        have hcn : k + cntL (es.take (q * 5)) + cntL d ≤ 4000000000000000000 := by rw [hd]; have := @cnt_el q 5 es; omega
        have hnx : cntL (es.take ((q + 1) * 5)) = cntL (es.take (q * 5)) + cntL d := by rw [hd]; exact cnt_next (sh := shSheetChange) HT.out hlt
        rw [← hd] at hE1
        clear hE hd
        obtain ⟨kq, hkq⟩ : ∃ kq : Nat, kq = k + cntL (es.take (q * 5)) := ⟨_, rfl⟩
        rw [← hkq] at hcn hE1 ⊢
        have HNX : Hid (k + cntL (es.take ((q + 1) * 5)) = kq + cntL d) := by show _ = _; omega
        obtain ⟨a0, a1, a2, a3, n4, e4, rfl, t4⟩ := typSheetChange hte
        simp only [mkL] at hE1
        obtain ⟨v4, rfl, r4⟩ := rawSheetChange hE1
        have hkq1 : 1 ≤ kq := by omega
        have hkq2 : kq ≤ 4000000000000000000 := by omega
        simp only [cntL] at hcn
        have HCN := uh hcn
        have HPR : Hid (p < wr.heap.size) := Nat.lt_of_lt_of_le HP.out HB.out.size
        have HG : Hid (wr.rangeAt p (o + q * 5) _) := hrng
        have R4 := uh r4
        clear hcn hE1 hte hkq hnx hrng r4
        have hm0 : (0 : Int) ≤ (q : Int) := by omega
        have hm3 : (q : Int) < (n : Int) := by omega
        have hbz := HPR.out
        have gc : wr.cell? ⟨p, o + q * 5, none⟩ = some (.int .i64 (kq : Int)) := rA_get HG.out 0 _ rfl
        go_upto_region 6 with fail
        clear gc hbz
        obtain ⟨k0, hk0⟩ : ∃ k0 : Nat, k0 = kq + 1 := ⟨_, rfl⟩
        have hkc0 : (kq : Int) + 1 = (k0 : Int) := by omega
        have HK0 := uh hk0
        have kb0 : 1 ≤ k0 ∧ k0 ≤ 4000000000000000000 := by have := HCN.out; have := HK0.out; omega
        obtain ⟨kl0, ku0⟩ := kb0
        try rw [← hk0] at HG
        try rw [← hk0] at R4
        clear hk0
        go_upto_region 7 with fail
        clear hkc0
        have hbz := HPR.out
        have gc : wr.cell? ⟨p, o + q * 5 + 1, none⟩ = some (.string (mt k0)) := rA_get HG.out 1 _ rfl
        have hNE := upst_some wr
        have hbz2 : ∀ px : UPst wr, p < px.W.heap.size := fun px => px.size hbz
        have S1 : ∀ px : UPst wr, px.W.cell? ⟨p, o + q * 5 + 1, none⟩ = some (.string (mt k0)) := fun px => px.cell gc hbz
        go_upto_region 7 with fail
        clear gc hbz
        refine uregion wr (Below.refl _ _) (by kernel_rfl) (by kernel_rfl) ?_
        repeat (first
          | go_big_quiet_skip
          | (go_big_quiet_want; go_big_quiet_op; first | go_big_quiet_on | (apply Exists.intro; refine ⟨fun px => ?_, ?_⟩; (focus ((go_at_call 24; refine (markText k0 _ (by omega) (by omega)).mono ?_; rintro e w' ⟨he, hb⟩; exact ⟨he, ⟨w', blw_trans px.ok hb⟩, rfl⟩))); go_big_quiet_on)))
        refine wpQuiet_nil ?_
        intro _ hw'
        obtain ⟨z1, hw''⟩ := hw'
        subst hw''
        replace HB := uh (blw_trans HB.out z1.ok)
        replace HG := uh (rA_later HG.out HPR.out z1.ok)
        replace R4 := uh (R4.out.later z1.ok)
        replace HPR := uh (Nat.lt_of_lt_of_le HPR.out z1.ok.size)
        clear S1 hbz2 hNE
        obtain ⟨k1, hk1⟩ : ∃ k1 : Nat, k1 = k0 + 1 := ⟨_, rfl⟩
        have hkc1 : (k0 : Int) + 1 = (k1 : Int) := by omega
        have HK1 := uh hk1
        have kb1 : 1 ≤ k1 ∧ k1 ≤ 4000000000000000000 := by have := HCN.out; have := HK0.out; have := HK1.out; omega
        obtain ⟨kl1, ku1⟩ := kb1
        try rw [← hk1] at HG
        try rw [← hk1] at R4
        clear hk1
        go_upto_region 10 with fail
        clear hkc1
        have hbz := HPR.out
        have gc : z1.W.cell? ⟨p, o + q * 5 + 2, none⟩ = some (.string (mt k1)) := rA_get HG.out 2 _ rfl
        have hNE := upst_some z1.W
        have hbz2 : ∀ px : UPst z1.W, p < px.W.heap.size := fun px => px.size hbz
        have S1 : ∀ px : UPst z1.W, px.W.cell? ⟨p, o + q * 5 + 2, none⟩ = some (.string (mt k1)) := fun px => px.cell gc hbz
        go_upto_region 10 with fail
        clear gc hbz
        refine uregion z1.W (Below.refl _ _) (by kernel_rfl) (by kernel_rfl) ?_
        repeat (first
          | go_big_quiet_skip
          | (go_big_quiet_want; go_big_quiet_op; first | go_big_quiet_on | (apply Exists.intro; refine ⟨fun px => ?_, ?_⟩; (focus ((go_at_call 24; refine (markText k1 _ (by omega) (by omega)).mono ?_; rintro e w' ⟨he, hb⟩; exact ⟨he, ⟨w', blw_trans px.ok hb⟩, rfl⟩))); go_big_quiet_on)))
        refine wpQuiet_nil ?_
        intro _ hw'
        obtain ⟨z2, hw''⟩ := hw'
        subst hw''
        replace HB := uh (blw_trans HB.out z2.ok)
        replace HG := uh (rA_later HG.out HPR.out z2.ok)
        replace R4 := uh (R4.out.later z2.ok)
        replace HPR := uh (Nat.lt_of_lt_of_le HPR.out z2.ok.size)
        clear S1 hbz2 hNE
        obtain ⟨k2, hk2⟩ : ∃ k2 : Nat, k2 = k1 + 1 := ⟨_, rfl⟩
        have hkc2 : (k1 : Int) + 1 = (k2 : Int) := by omega
        have HK2 := uh hk2
        have kb2 : 1 ≤ k2 ∧ k2 ≤ 4000000000000000000 := by have := HCN.out; have := HK0.out; have := HK1.out; have := HK2.out; omega
        obtain ⟨kl2, ku2⟩ := kb2
        try rw [← hk2] at HG
        try rw [← hk2] at R4
        clear hk2
        go_upto_region 13 with fail
        clear hkc2
        have hbz := HPR.out
        have gc : z2.W.cell? ⟨p, o + q * 5 + 3, none⟩ = some (.string (mt k2)) := rA_get HG.out 3 _ rfl
        have hNE := upst_some z2.W
        have hbz2 : ∀ px : UPst z2.W, p < px.W.heap.size := fun px => px.size hbz
        have S1 : ∀ px : UPst z2.W, px.W.cell? ⟨p, o + q * 5 + 3, none⟩ = some (.string (mt k2)) := fun px => px.cell gc hbz
        go_upto_region 13 with fail
        clear gc hbz
        refine uregion z2.W (Below.refl _ _) (by kernel_rfl) (by kernel_rfl) ?_
        repeat (first
          | go_big_quiet_skip
          | (go_big_quiet_want; go_big_quiet_op; first | go_big_quiet_on | (apply Exists.intro; refine ⟨fun px => ?_, ?_⟩; (focus ((go_at_call 24; refine (markText k2 _ (by omega) (by omega)).mono ?_; rintro e w' ⟨he, hb⟩; exact ⟨he, ⟨w', blw_trans px.ok hb⟩, rfl⟩))); go_big_quiet_on)))
        refine wpQuiet_nil ?_
        intro _ hw'
        obtain ⟨z3, hw''⟩ := hw'
        subst hw''
        replace HB := uh (blw_trans HB.out z3.ok)
        replace HG := uh (rA_later HG.out HPR.out z3.ok)
        replace R4 := uh (R4.out.later z3.ok)
        replace HPR := uh (Nat.lt_of_lt_of_le HPR.out z3.ok.size)
        clear S1 hbz2 hNE
        obtain ⟨k3, hk3⟩ : ∃ k3 : Nat, k3 = k2 + 1 := ⟨_, rfl⟩
        have hkc3 : (k2 : Int) + 1 = (k3 : Int) := by omega
        have HK3 := uh hk3
        have kb3 : 1 ≤ k3 ∧ k3 ≤ 4000000000000000000 := by have := HCN.out; have := HK0.out; have := HK1.out; have := HK2.out; have := HK3.out; omega
        obtain ⟨kl3, ku3⟩ := kb3
        try rw [← hk3] at HG
        try rw [← hk3] at R4
        clear hk3
        go_upto_region 16 with fail
        clear hkc3
        have hbz := HPR.out
        obtain ⟨va4, vc4, hva⟩ := R4.out.len0
        subst hva
        have gc : z3.W.cell? ⟨p, o + q * 5 + 4, none⟩ = some (.slice va4 n4 vc4) := rA_get HG.out 4 _ rfl
        obtain ⟨k4, hk4⟩ : ∃ k4 : Nat, k4 = k3 + cntL e4 := ⟨_, rfl⟩
        have HK4 := uh hk4
        have kb4 : 1 ≤ k4 ∧ k4 ≤ 4000000000000000000 := by have := HCN.out; have := HK0.out; have := HK1.out; have := HK2.out; have := HK3.out; have := HK4.out; omega
        obtain ⟨kl4, ku4⟩ := kb4
        have kn4 : ¬ (k4 : Int) < 0 := by omega
        clear hk4
        go_wp2_with fail
        refine (heldSheetLineS n4 e4 (.slice va4 n4 vc4) k3 z3.W t4 R4.out (by omega) (by have := HK4.out; omega)).mono ?_
        rintro e x4 ⟨he, hb4⟩
        rw [← HK4.out] at he
        subst he
        replace HB := uh (blw_trans HB.out hb4)
        replace HG := uh (rA_later HG.out HPR.out hb4)
        replace HPR := uh (Nat.lt_of_lt_of_le HPR.out hb4.size)
        clear gc hbz hb4
        have HF : Hid (k4 = k + cntL (es.take ((q + 1) * 5))) := by
          have := HNX.out; simp only [cntL] at this; have := HK0.out; have := HK1.out; have := HK2.out; have := HK3.out; have := HK4.out; show _ = _; omega
        go_wp2
        go_roundw
        case rel => exact ⟨q + 1, by omega, by go_num, by rw [← HF.out], HB.out⟩
        case measure => simp [intOf]; omega
      · obtain rfl : q = n := by omega
        have el_ : es.length = q * 5 := HT.out.rows
        rw [← el_, List.take_length]
        go_wp2
        go_ret
        exact ⟨rfl, HB.out⟩
end Go.Proofs.Ytojcopamegmeeaa

namespace Go.Proofs.Ytojcopamegmeeaa
open Go.RowKit Go.Deep


def VTl (X Y : Value) (PA PB PC : Value → World → Prop) : Nat → Value → World → Prop
  | 0, u, _ => u = X
  | 1, u, W => PA u W
  | 2, u, _ => u = Y
  | 3, u, W => PB u W
  | 4, u, W => PC u W
  | 5, u, W => PC u W
  | _, _, _ => True
theorem VTl_mono (X Y : Value) (PA PB PC : Value → World → Prop) (hA : ∀ u W W', Below W.heap.size W W' → PA u W → PA u W') (hB : ∀ u W W', Below W.heap.size W W' → PB u W → PB u W') (hC : ∀ u W W', Below W.heap.size W W' → PC u W → PC u W') : ∀ j u W W', Below W.heap.size W W' → VTl X Y PA PB PC j u W → VTl X Y PA PB PC j u W' := by
  intro j u W W' hb h
  match j with
  | 0 => exact h
  | 1 => exact hA _ _ _ hb h
  | 2 => exact h
  | 3 => exact hB _ _ _ hb h
  | 4 => exact hC _ _ _ hb h
  | 5 => exact hC _ _ _ hb h
  | n + 6 => exact trivial

set_option maxRecDepth 8000 in
set_option maxHeartbeats 16000000 in
theorem lawSheetDiff (ds dm : List Dt) (cs ms : List Value) (N : Nat) (A : List Dt) (w : World) (h : Raw w shSheet ds cs) (h' : Raw w shSheet dm ms) (hz : szd ds) (hz' : szd dm)
    (hS : wtL ds + wtL dm ≤ 1048576 → ∀ (c d : List Value) (F G : List Nat) (W : World), Rep W true shSheet F ds c → Rep W true shSheet G dm d → Calls Try.prog 5 #[.agg c.toArray, .agg d.toArray] W (AnsL [.row 44 shSheetChange] (.row N A) W))
    (hI : wtL ds + wtL dm ≤ 1048576 → ∀ (c d : List Value) (F G : List Nat) (W : World), Rep W true shSheet F ds c → Rep W true shSheet G dm d → Calls Try.prog 7 #[.agg c.toArray, .agg d.toArray] W (AnsL [.row 44 shSheetChange] (.row N A) W))
    (hA : wtL ds + wtL dm ≤ 1048576 → cntL A ≤ 1000000000) (hD : wtL ds + wtL dm ≤ 1048576 → cntT ds ≤ 1000000000) (hD' : wtL ds + wtL dm ≤ 1048576 → cntT dm ≤ 1000000000) :
    Calls Try.prog 3 #[.agg cs.toArray, .agg ms.toArray] w fun e w' => e = .returned (.bool true) ∧ Below w.heap.size w w' := by
  have HR := uh h
  have HR2 := uh h'
  have HZ := uh hz
  have HZ2 := uh hz'
  have HSP := uh hS
  have HIM := uh hI
  have HAN := uh hA
  have HAD := uh hD
  have HAD2 := uh hD'
  have LNX : Hid (cs.length = 1) := h.len
  have LNM : Hid (ms.length = 1) := h'.len
  clear h h' hz hz' hS hI hA hD hD'
  obtain ⟨wa, hwa⟩ : ∃ wa, wa = (w.alloc (.cells cs.toArray 24)).alloc (.cells ms.toArray 24) := ⟨_, rfl⟩
  have HB : Hid (Below w.heap.size w wa) := by show Below _ _ _; rw [hwa]; exact blw_alloc (blw_alloc (Below.refl _ _) _) _
  have HX : Hid (LBox wa w.heap.size cs) := by show LBox _ _ _; rw [hwa]; exact (LBox.new w cs.toArray _ _ rfl).past _
  have HXM : Hid (LBox wa (w.heap.size + 1) ms) := by show LBox _ _ _; rw [hwa]; exact LBox.new (w.alloc (.cells cs.toArray 24)) ms.toArray _ _ (by simp)
  have O0 := uh (HXM.out.lt)
  go_enter Try.func3, Try.ntmps3
  go_upto_region 1 with fail
  rw [← hwa]
  clear hwa
  have hzX := HX.out.lt
  have haX := HX.out.at_
  have hzM := HXM.out.lt
  have haM := HXM.out.at_
  obtain ⟨m, hm⟩ : ∃ m : Int, m = if ((wtL ds : Nat) : Int) ≤ 1048576 then 1048576 - ((wtL ds : Nat) : Int) else -1 := ⟨_, rfl⟩
  have HC := uh (szSheet ds cs 1048576 wa (by omega) (by omega) (HR.out.later HB.out) HZ.out)
  rw [← hm] at HC
  have HM := uh hm
  clear hm
  go_wp2_with (refine wpList_load_mid rfl 24 _ rfl w.heap.size 0 rfl cs _ haX Try.underlying24 rfl (by rw [LNX.out]; kernel_rfl) ?_)
  refine HC.out.mono ?_
  rintro e w0 ⟨rfl, hb⟩
  clear hzX haX hzM haM
  replace HB := uh (blw_trans HB.out hb)
  replace HX := uh (HX.out.later hb)
  replace HXM := uh (HXM.out.later hb)
  have O1 := uh (hb.size)
  clear hb HC
  by_cases hl : m < 0
  · go_wp2
    go_ret
    exact ⟨rfl, HB.out⟩
  have hmq : 0 ≤ m ∧ m = 1048576 - ((wtL ds : Nat) : Int) := by
    have h2 := HM.out
    split at h2
    · omega
    · omega
  have hzX := HX.out.lt
  have haX := HX.out.at_
  have hzM := HXM.out.lt
  have haM := HXM.out.at_
  obtain ⟨m2, hm2⟩ : ∃ m2 : Int, m2 = if ((wtL dm : Nat) : Int) ≤ m then m - ((wtL dm : Nat) : Int) else -1 := ⟨_, rfl⟩
  have HC := uh (szSheet dm ms m w0 (by omega) (by omega) (HR2.out.later HB.out) HZ2.out)
  rw [← hm2] at HC
  have HM2 := uh hm2
  have HMQ := uh hmq
  clear hm2 hmq
  go_wp2_with (refine wpList_load_mid rfl 24 _ rfl (w.heap.size + 1) 0 rfl ms _ haM Try.underlying24 rfl (by rw [LNM.out]; kernel_rfl) ?_)
  refine HC.out.mono ?_
  rintro e w1 ⟨rfl, hb⟩
  clear hzX haX hzM haM
  replace HB := uh (blw_trans HB.out hb)
  replace HX := uh (HX.out.later hb)
  replace HXM := uh (HXM.out.later hb)
  have O2 := uh (hb.size)
  clear hb HC
  by_cases hl2 : m2 < 0
  · go_wp2
    go_ret
    exact ⟨rfl, HB.out⟩
  have HW : Hid (wtL ds + wtL dm ≤ 1048576) := by
    show _ ≤ _; have h2 := HM2.out; have h3 := HMQ.out
    split at h2
    · omega
    · omega
  have HCN : Hid (cntL A ≤ 1000000000) := HAN.out HW.out
  have HCD : Hid (cntT ds ≤ 1000000000) := HAD.out HW.out
  have HCD2 : Hid (cntT dm ≤ 1000000000) := HAD2.out HW.out
  have HWa : Hid (wtL ds ≤ 1048576) := by show _ ≤ _; have := HW.out; omega
  have HWb : Hid (wtL dm ≤ 1048576) := by show _ ≤ _; have := HW.out; omega
  clear HAN HAD HAD2 HM HM2 HMQ
  go_upto_region 8 with fail
  refine RY.region_past w1 (Below.refl _ _) (VTl (.agg cs.toArray) (.agg ms.toArray) (fun u W => ∃ c F, u = .agg c.toArray ∧ Rep W true shSheet F ds c) (fun u W => ∃ c F, u = .agg c.toArray ∧ Rep W true shSheet F dm c) (fun u W => ∃ F, Rep W false [.row 44 shSheetChange] F [.row N A] [u] ∧ F.Nodup ∧ ∀ b ∈ F, w1.heap.size ≤ b)) (VTl_mono _ _ _ _ _ (by rintro u W W' hb ⟨c, F, rfl, h⟩; exact ⟨c, F, rfl, h.later hb⟩) (by rintro u W W' hb ⟨c, F, rfl, h⟩; exact ⟨c, F, rfl, h.later hb⟩) (by rintro u W W' hb ⟨F, h, h2⟩; exact ⟨F, h.later hb, h2⟩)) (by kernel_rfl) (by kernel_rfl) (by kernel_rfl) (by kernel_rfl) ?_ ?_
  · intro i o ho a W hW hk hd
    have z1 := HX.out.later hW
    have z2 := HXM.out.later hW
    match i, ho with
    | 0, ho =>
      injection ho with ho; subst ho
      exact Or.inl ⟨_, W, exec_load_mid 24 _ rfl w.heap.size 0 ((hk 2 rfl).trans rfl) cs _ z1.at_ Try.underlying24 rfl (by rw [LNX.out]; kernel_rfl), Below.refl _ _, rfl⟩
    | 1, ho =>
      injection ho with ho; subst ho
      have e0 : a.tmps[24]?.getD undef = _ := (RY.ev_tmp a 24).trans (hd 0 _ 24 rfl rfl ⟨⟨0, .data⟩, by simp, rfl, rfl⟩)
      refine Or.inr ⟨6, #[.agg cs.toArray], by simp [go_sem, e0], (toSheet ds cs W (HR.out.later (blw_trans HB.out hW)) HWa.out).mono ?_⟩
      rintro e W' ⟨c, F, rfl, hr, _, _, hb⟩
      exact ⟨_, rfl, hb, c, F, rfl, hr⟩
    | 2, ho =>
      injection ho with ho; subst ho
      exact Or.inl ⟨_, W, exec_load_mid 24 _ rfl (w.heap.size + 1) 0 ((hk 3 rfl).trans rfl) ms _ z2.at_ Try.underlying24 rfl (by rw [LNM.out]; kernel_rfl), Below.refl _ _, rfl⟩
    | 3, ho =>
      injection ho with ho; subst ho
      have e0 : a.tmps[26]?.getD undef = _ := (RY.ev_tmp a 26).trans (hd 2 _ 26 rfl rfl ⟨⟨2, .data⟩, by simp, rfl, rfl⟩)
      refine Or.inr ⟨6, #[.agg ms.toArray], by simp [go_sem, e0], (toSheet dm ms W (HR2.out.later (blw_trans HB.out hW)) HWb.out).mono ?_⟩
      rintro e W' ⟨c, F, rfl, hr, _, _, hb⟩
      exact ⟨_, rfl, hb, c, F, rfl, hr⟩
    | 4, ho =>
      injection ho with ho; subst ho
      obtain ⟨c, F, e1, h1⟩ := hd 1 _ 25 rfl rfl ⟨⟨1, .data⟩, by simp, rfl, rfl⟩
      obtain ⟨d, G, e2, h2⟩ := hd 3 _ 27 rfl rfl ⟨⟨3, .data⟩, by simp, rfl, rfl⟩
      have e1 := (RY.ev_tmp a 25).trans e1
      have e2 := (RY.ev_tmp a 27).trans e2
      refine Or.inr ⟨5, #[.agg c.toArray, .agg d.toArray], by simp [go_sem, e1, e2], (HSP.out HW.out c d F G W h1 h2).mono ?_⟩
      rintro e W' ⟨v, F, rfl, hr, nd, fr, hb⟩
      exact ⟨_, rfl, hb, F, hr, nd, fun b hb2 => Nat.le_trans hW.size (fr b hb2)⟩
    | 5, ho =>
      injection ho with ho; subst ho
      obtain ⟨F, h1⟩ := hd 4 _ 28 rfl rfl ⟨⟨4, .data⟩, by simp, rfl, rfl⟩
      exact Or.inl ⟨_, W, by simp only [execOp, Sem.run_pure], Below.refl _ _, F, h1⟩
    | n + 6, ho => simp at ho
  intro w3 vs hb hvs
  obtain ⟨FS, rep, nd, fr⟩ := hvs 5 _ 6 rfl rfl
  simp only [RY.putAll, Act.put, List.setIfInBounds_toArray, List.set_cons_zero, List.set_cons_succ]
  generalize vs 6 = vS at rep ⊢
  generalize vs 24 = s0
  generalize vs 25 = s1
  generalize vs 26 = s2
  generalize vs 27 = s3
  generalize vs 28 = s4
  clear hvs
  replace HB := uh (blw_trans HB.out hb)
  replace HX := uh (HX.out.later hb)
  replace HXM := uh (HXM.out.later hb)
  have O3 := uh (hb.size)
  have FBS : Hid (∀ b ∈ FS, w1.heap.size ≤ b ∧ b < w3.heap.size) := fun b hb => ⟨fr b hb, rep.lt b hb⟩
  have NDS := uh nd
  have RPS := uh rep
  obtain ⟨saS, scS, hva⟩ := rep.raw.len0
  subst hva
  clear rep nd fr hb
  clear HSP
  have hzX := HX.out.lt
  have haX := HX.out.at_
  have hzM := HXM.out.lt
  go_wp2_with (refine wpList_load_mid rfl 24 _ rfl w.heap.size 0 rfl cs _ haX Try.underlying24 rfl (by rw [LNX.out]; kernel_rfl) ?_)
  refine (toSheet ds cs w3 (HR.out.later HB.out) HWa.out).mono ?_
  rintro e w4 ⟨cQ, FQ, rfl, rep, nd, fr, hb⟩
  clear hzX haX hzM
  replace HB := uh (blw_trans HB.out hb)
  replace HX := uh (HX.out.later hb)
  replace HXM := uh (HXM.out.later hb)
  replace RPS := uh (RPS.out.later hb)
  have O4 := uh (hb.size)
  have FBQ : Hid (∀ b ∈ FQ, w3.heap.size ≤ b ∧ b < w4.heap.size) := fun b hb => ⟨fr b hb, rep.lt b hb⟩
  have NDQ := uh nd
  have RPQ := uh rep
  have LNQ : Hid (cQ.length = 1) := rep.len
  obtain ⟨yQ, hy⟩ : ∃ y, y = (w4.alloc (.cells #[.slice none 0 0] 30)).setCells w4.heap.size 0 cQ := ⟨_, rfl⟩
  have hth := nv_there w4 #[.slice none 0 0] 30 cQ (by rw [LNQ.out]; rfl)
  have hone := all_oneCell_toArray rep.raw.one
  have hsz : (Try.prog.info? 30).map (·.size) = some cQ.toArray.size := by rw [List.size_toArray, LNQ.out]; kernel_rfl
  have HXQ : Hid (LBox yQ w4.heap.size cQ) := by show LBox _ _ _; rw [hy]; exact nv_box w4 #[.slice none 0 0] 30 cQ (by rw [LNQ.out]; rfl)
  have hby : Below w4.heap.size w4 yQ := by rw [hy]; exact nv_below w4 #[.slice none 0 0] 30 cQ
  clear rep nd fr hb
  replace HB := uh (blw_trans HB.out hby)
  replace HX := uh (HX.out.later hby)
  replace HXM := uh (HXM.out.later hby)
  replace RPS := uh (RPS.out.later hby)
  replace RPQ := uh (RPQ.out.later hby)
  clear hby
  have O5 := uh (HXQ.out.lt)
  go_upto_region 10 with (refine wpList_store_mid rfl 30 _ _ rfl w4.heap.size 0 cQ.toArray rfl rfl hth hsz hone ?_)
  first | rw [← hy] | (simp only [List.toList_toArray]; rw [← hy])
  clear hy hth hone hsz
  have hzX := HX.out.lt
  have hzM := HXM.out.lt
  have haM := HXM.out.at_
  have hzQ := HXQ.out.lt
  go_wp2_with (refine wpList_load_mid rfl 24 _ rfl (w.heap.size + 1) 0 rfl ms _ haM Try.underlying24 rfl (by rw [LNM.out]; kernel_rfl) ?_)
  refine (toSheet dm ms yQ (HR2.out.later HB.out) HWb.out).mono ?_
  rintro e w5 ⟨cY, FY, rfl, rep, nd, fr, hb⟩
  clear hzX hzM haM hzQ
  replace HB := uh (blw_trans HB.out hb)
  replace HX := uh (HX.out.later hb)
  replace HXM := uh (HXM.out.later hb)
  replace HXQ := uh (HXQ.out.later hb)
  replace RPS := uh (RPS.out.later hb)
  replace RPQ := uh (RPQ.out.later hb)
  have O6 := uh (hb.size)
  have FBY : Hid (∀ b ∈ FY, yQ.heap.size ≤ b ∧ b < w5.heap.size) := fun b hb => ⟨fr b hb, rep.lt b hb⟩
  have NDY := uh nd
  have RPY := uh rep
  have LNY : Hid (cY.length = 1) := rep.len
  obtain ⟨yY, hy⟩ : ∃ y, y = (w5.alloc (.cells #[.slice none 0 0] 30)).setCells w5.heap.size 0 cY := ⟨_, rfl⟩
  have hth := nv_there w5 #[.slice none 0 0] 30 cY (by rw [LNY.out]; rfl)
  have hone := all_oneCell_toArray rep.raw.one
  have hsz : (Try.prog.info? 30).map (·.size) = some cY.toArray.size := by rw [List.size_toArray, LNY.out]; kernel_rfl
  have HXY : Hid (LBox yY w5.heap.size cY) := by show LBox _ _ _; rw [hy]; exact nv_box w5 #[.slice none 0 0] 30 cY (by rw [LNY.out]; rfl)
  have hby : Below w5.heap.size w5 yY := by rw [hy]; exact nv_below w5 #[.slice none 0 0] 30 cY
  clear rep nd fr hb
  replace HB := uh (blw_trans HB.out hby)
  replace HX := uh (HX.out.later hby)
  replace HXM := uh (HXM.out.later hby)
  replace HXQ := uh (HXQ.out.later hby)
  replace RPS := uh (RPS.out.later hby)
  replace RPQ := uh (RPQ.out.later hby)
  replace RPY := uh (RPY.out.later hby)
  clear hby
  have O7 := uh (HXY.out.lt)
  go_upto_region 11 with (refine wpList_store_mid rfl 30 _ _ rfl w5.heap.size 0 cY.toArray rfl rfl hth hsz hone ?_)
  first | rw [← hy] | (simp only [List.toList_toArray]; rw [← hy])
  clear hy hth hone hsz
  have hzX := HX.out.lt
  have hzM := HXM.out.lt
  have hzQ := HXQ.out.lt
  have haQ := HXQ.out.at_
  have hzY := HXY.out.lt
  have haY := HXY.out.at_
  have HC := uh (HIM.out HW.out cQ cY FQ FY yY RPQ.out RPY.out)
  go_wp2_with (first | refine wpList_load_mid rfl 30 _ rfl w4.heap.size 0 rfl cQ _ haQ Try.underlying30 rfl (by rw [LNQ.out]; kernel_rfl) ?_ | refine wpList_load_mid rfl 30 _ rfl w5.heap.size 0 rfl cY _ haY Try.underlying30 rfl (by rw [LNY.out]; kernel_rfl) ?_)
  refine HC.out.mono ?_
  rintro e w6 ⟨vG, FG, rfl, rep, nd, fr, hb⟩
  clear hzX hzM hzQ haQ hzY haY
  clear HC
  replace HB := uh (blw_trans HB.out hb)
  replace HX := uh (HX.out.later hb)
  replace HXM := uh (HXM.out.later hb)
  replace HXQ := uh (HXQ.out.later hb)
  replace HXY := uh (HXY.out.later hb)
  replace RPS := uh (RPS.out.later hb)
  replace RPQ := uh (RPQ.out.later hb)
  replace RPY := uh (RPY.out.later hb)
  have O8 := uh (hb.size)
  have FBG : Hid (∀ b ∈ FG, yY.heap.size ≤ b ∧ b < w6.heap.size) := fun b hb => ⟨fr b hb, rep.lt b hb⟩
  have NDG := uh nd
  have RPG := uh rep
  replace RPQ := uh RPQ.out.loose
  replace RPY := uh RPY.out.loose
  obtain ⟨saG, scG, hva⟩ := rep.raw.len0
  subst hva
  clear rep nd fr hb
  go_upto_region 12 with fail
  have hzX := HX.out.lt
  have hzM := HXM.out.lt
  have hzQ := HXQ.out.lt
  have hzY := HXY.out.lt
  go_wp2_with fail
  refine (eqSheetChangeS N A _ _ w6 RPG.out.raw RPS.out.raw).mono ?_
  rintro e w7 ⟨rfl, hb⟩
  clear hzX hzM hzQ hzY
  replace HB := uh (blw_trans HB.out hb)
  replace HX := uh (HX.out.later hb)
  replace HXM := uh (HXM.out.later hb)
  replace HXQ := uh (HXQ.out.later hb)
  replace HXY := uh (HXY.out.later hb)
  replace RPS := uh (RPS.out.later hb)
  replace RPQ := uh (RPQ.out.later hb)
  replace RPY := uh (RPY.out.later hb)
  replace RPG := uh (RPG.out.later hb)
  have O9 := uh (hb.size)
  clear hb
  go_upto_region 14 with fail
  refine RY.region_past w7 (Below.refl _ _) (VEq (.agg cs.toArray) (.agg cQ.toArray) (fun W e => ∃ c F, e = c.toArray ∧ Rep W true shSheet F ds c)) (VEq_mono (.agg cs.toArray) (.agg cQ.toArray) _ (by rintro W W' e ⟨c, F, rfl, h⟩ hb; exact ⟨c, F, rfl, h.later hb⟩)) (by kernel_rfl) (by kernel_rfl) (by kernel_rfl) (by kernel_rfl) ?_ ?_
  · intro i o ho a W hW hk hd
    have z0 := HXQ.out.later hW
    have z1 := HX.out.later hW
    match i, ho with
    | 0, ho =>
      injection ho with ho; subst ho
      exact Or.inl ⟨_, W, exec_load_mid 30 _ rfl w4.heap.size 0 ((hk 7 rfl).trans rfl) cQ _ z0.at_ Try.underlying30 rfl (by rw [LNQ.out]; kernel_rfl), Below.refl _ _, rfl⟩
    | 1, ho =>
      injection ho with ho; subst ho
      exact Or.inl ⟨_, W, exec_load_mid 24 _ rfl w.heap.size 0 ((hk 2 rfl).trans rfl) cs _ z1.at_ Try.underlying24 rfl (by rw [LNX.out]; kernel_rfl), Below.refl _ _, rfl⟩
    | 2, ho =>
      injection ho with ho; subst ho
      have e0 : a.tmps[41]?.getD undef = _ := (RY.ev_tmp a 41).trans (hd 1 _ 41 rfl rfl ⟨⟨1, .data⟩, by simp, rfl, rfl⟩)
      refine Or.inr ⟨6, #[.agg cs.toArray], by simp [go_sem, e0], (toSheet ds cs W (HR.out.later (blw_trans HB.out hW)) HWa.out).mono ?_⟩
      rintro e W' ⟨c, F, rfl, hr, _, _, hb⟩
      exact ⟨_, rfl, hb, _, rfl, c, F, rfl, hr⟩
    | 3, ho =>
      injection ho with ho; subst ho
      have e0 : a.tmps[40]?.getD undef = _ := (RY.ev_tmp a 40).trans (hd 0 _ 40 rfl rfl ⟨⟨0, .data⟩, by simp, rfl, rfl⟩)
      obtain ⟨b1, e1, c, F, rfl, hr1⟩ := hd 2 _ 42 rfl rfl ⟨⟨2, .data⟩, by simp, rfl, rfl⟩
      have e1 := (RY.ev_tmp a 42).trans e1
      refine Or.inr ⟨9, #[.agg cQ.toArray, .agg c.toArray], by simp [go_sem, e0, e1], (eqSheet ds cQ c W (RPQ.out.raw.later hW) hr1.raw).mono ?_⟩
      rintro e W' ⟨rfl, hb⟩
      exact ⟨_, rfl, hb, rfl⟩
    | 4, ho =>
      injection ho with ho; subst ho
      have e0 : a.tmps[43]?.getD undef = _ := (RY.ev_tmp a 43).trans (hd 3 _ 43 rfl rfl ⟨⟨3, .data⟩, by simp, rfl, rfl⟩)
      exact Or.inl ⟨.bool false, W, by simp [execOp, go_sem, e0], Below.refl _ _, rfl⟩
    | n + 5, ho => simp at ho
  intro w8 vs hb hvs
  have el_ : vs 44 = .bool false := hvs 4 _ 44 rfl rfl
  simp only [RY.putAll, Act.put, List.setIfInBounds_toArray, List.set_cons_zero, List.set_cons_succ]
  rw [el_]
  generalize vs 40 = q0
  generalize vs 41 = q1
  generalize vs 42 = q2
  generalize vs 43 = q3
  clear hvs el_
  replace HB := uh (blw_trans HB.out hb)
  replace HX := uh (HX.out.later hb)
  replace HXM := uh (HXM.out.later hb)
  replace HXQ := uh (HXQ.out.later hb)
  replace HXY := uh (HXY.out.later hb)
  replace RPS := uh (RPS.out.later hb)
  replace RPQ := uh (RPQ.out.later hb)
  replace RPY := uh (RPY.out.later hb)
  replace RPG := uh (RPG.out.later hb)
  have O10 := uh (hb.size)
  clear hb
  go_upto_region 16 with fail
  refine RY.region_past w8 (Below.refl _ _) (VEq (.agg ms.toArray) (.agg cY.toArray) (fun W e => ∃ c F, e = c.toArray ∧ Rep W true shSheet F dm c)) (VEq_mono (.agg ms.toArray) (.agg cY.toArray) _ (by rintro W W' e ⟨c, F, rfl, h⟩ hb; exact ⟨c, F, rfl, h.later hb⟩)) (by kernel_rfl) (by kernel_rfl) (by kernel_rfl) (by kernel_rfl) ?_ ?_
  · intro i o ho a W hW hk hd
    have z0 := HXY.out.later hW
    have z1 := HXM.out.later hW
    match i, ho with
    | 0, ho =>
      injection ho with ho; subst ho
      exact Or.inl ⟨_, W, exec_load_mid 30 _ rfl w5.heap.size 0 ((hk 8 rfl).trans rfl) cY _ z0.at_ Try.underlying30 rfl (by rw [LNY.out]; kernel_rfl), Below.refl _ _, rfl⟩
    | 1, ho =>
      injection ho with ho; subst ho
      exact Or.inl ⟨_, W, exec_load_mid 24 _ rfl (w.heap.size + 1) 0 ((hk 3 rfl).trans rfl) ms _ z1.at_ Try.underlying24 rfl (by rw [LNM.out]; kernel_rfl), Below.refl _ _, rfl⟩
    | 2, ho =>
      injection ho with ho; subst ho
      have e0 : a.tmps[46]?.getD undef = _ := (RY.ev_tmp a 46).trans (hd 1 _ 46 rfl rfl ⟨⟨1, .data⟩, by simp, rfl, rfl⟩)
      refine Or.inr ⟨6, #[.agg ms.toArray], by simp [go_sem, e0], (toSheet dm ms W (HR2.out.later (blw_trans HB.out hW)) HWb.out).mono ?_⟩
      rintro e W' ⟨c, F, rfl, hr, _, _, hb⟩
      exact ⟨_, rfl, hb, _, rfl, c, F, rfl, hr⟩
    | 3, ho =>
      injection ho with ho; subst ho
      have e0 : a.tmps[45]?.getD undef = _ := (RY.ev_tmp a 45).trans (hd 0 _ 45 rfl rfl ⟨⟨0, .data⟩, by simp, rfl, rfl⟩)
      obtain ⟨b1, e1, c, F, rfl, hr1⟩ := hd 2 _ 47 rfl rfl ⟨⟨2, .data⟩, by simp, rfl, rfl⟩
      have e1 := (RY.ev_tmp a 47).trans e1
      refine Or.inr ⟨9, #[.agg cY.toArray, .agg c.toArray], by simp [go_sem, e0, e1], (eqSheet dm cY c W (RPY.out.raw.later hW) hr1.raw).mono ?_⟩
      rintro e W' ⟨rfl, hb⟩
      exact ⟨_, rfl, hb, rfl⟩
    | 4, ho =>
      injection ho with ho; subst ho
      have e0 : a.tmps[48]?.getD undef = _ := (RY.ev_tmp a 48).trans (hd 3 _ 48 rfl rfl ⟨⟨3, .data⟩, by simp, rfl, rfl⟩)
      exact Or.inl ⟨.bool false, W, by simp [execOp, go_sem, e0], Below.refl _ _, rfl⟩
    | n + 5, ho => simp at ho
  intro w9 vs hb hvs
  have el_ : vs 49 = .bool false := hvs 4 _ 49 rfl rfl
  simp only [RY.putAll, Act.put, List.setIfInBounds_toArray, List.set_cons_zero, List.set_cons_succ]
  rw [el_]
  generalize vs 45 = r0
  generalize vs 46 = r1
  generalize vs 47 = r2
  generalize vs 48 = r3
  clear hvs el_
  replace HB := uh (blw_trans HB.out hb)
  replace HX := uh (HX.out.later hb)
  replace HXM := uh (HXM.out.later hb)
  replace HXQ := uh (HXQ.out.later hb)
  replace HXY := uh (HXY.out.later hb)
  replace RPS := uh (RPS.out.later hb)
  replace RPQ := uh (RPQ.out.later hb)
  replace RPY := uh (RPY.out.later hb)
  replace RPG := uh (RPG.out.later hb)
  have O11 := uh (hb.size)
  clear hb
  have hzX := HX.out.lt
  have hzM := HXM.out.lt
  have hzQ := HXQ.out.lt
  have haQ := HXQ.out.at_
  have hzY := HXY.out.lt
  go_wp2_with (refine wpList_load_mid rfl 30 _ rfl w4.heap.size 0 rfl cQ _ haQ Try.underlying30 rfl (by rw [LNQ.out]; kernel_rfl) ?_)
  refine (markSheet FQ ds cQ 1 w9 RPQ.out NDQ.out (by omega) (by have := HCD.out; omega)).mono ?_
  rintro e w10 ⟨he, hb, rr⟩
  clear hzX hzM hzQ haQ hzY
  obtain ⟨k8, hk8⟩ : ∃ k8 : Nat, k8 = 1 + cntT ds := ⟨_, rfl⟩
  rw [← hk8] at he
  subst he
  have HK8 := uh hk8
  clear hk8
  replace HB := uh (hb.below (fun b e => by have := FBQ.out b e; have := O0.out; have := O1.out; have := O2.out; have := O3.out; have := O4.out; have := O5.out; have := O6.out; have := O7.out; have := O8.out; have := O9.out; have := O10.out; have := O11.out; omega) HB.out)
  replace HX := uh (HX.out.mks hb (fun e => by have := FBQ.out _ e; have := O0.out; have := O1.out; have := O2.out; have := O3.out; have := O4.out; have := O5.out; have := O6.out; have := O7.out; have := O8.out; have := O9.out; have := O10.out; have := O11.out; omega))
  replace HXM := uh (HXM.out.mks hb (fun e => by have := FBQ.out _ e; have := O0.out; have := O1.out; have := O2.out; have := O3.out; have := O4.out; have := O5.out; have := O6.out; have := O7.out; have := O8.out; have := O9.out; have := O10.out; have := O11.out; omega))
  replace HXQ := uh (HXQ.out.mks hb (fun e => by have := FBQ.out _ e; have := O0.out; have := O1.out; have := O2.out; have := O3.out; have := O4.out; have := O5.out; have := O6.out; have := O7.out; have := O8.out; have := O9.out; have := O10.out; have := O11.out; omega))
  replace HXY := uh (HXY.out.mks hb (fun e => by have := FBQ.out _ e; have := O0.out; have := O1.out; have := O2.out; have := O3.out; have := O4.out; have := O5.out; have := O6.out; have := O7.out; have := O8.out; have := O9.out; have := O10.out; have := O11.out; omega))
  replace RPS := uh (RPS.out.keep hb (fun b hb e => by have := FBQ.out b e; have := FBS.out b hb; have := O0.out; have := O1.out; have := O2.out; have := O3.out; have := O4.out; have := O5.out; have := O6.out; have := O7.out; have := O8.out; have := O9.out; have := O10.out; have := O11.out; omega))
  replace RPY := uh (RPY.out.keep hb (fun b hb e => by have := FBQ.out b e; have := FBY.out b hb; have := O0.out; have := O1.out; have := O2.out; have := O3.out; have := O4.out; have := O5.out; have := O6.out; have := O7.out; have := O8.out; have := O9.out; have := O10.out; have := O11.out; omega))
  replace RPG := uh (RPG.out.keep hb (fun b hb e => by have := FBQ.out b e; have := FBG.out b hb; have := O0.out; have := O1.out; have := O2.out; have := O3.out; have := O4.out; have := O5.out; have := O6.out; have := O7.out; have := O8.out; have := O9.out; have := O10.out; have := O11.out; omega))
  have O12 := uh (hb.size)
  clear hb rr RPQ NDQ
  have hzX := HX.out.lt
  have hzM := HXM.out.lt
  have hzQ := HXQ.out.lt
  have hzY := HXY.out.lt
  have haY := HXY.out.at_
  go_wp2_with (refine wpList_load_mid rfl 30 _ rfl w5.heap.size 0 rfl cY _ haY Try.underlying30 rfl (by rw [LNY.out]; kernel_rfl) ?_)
  refine (markSheet FY dm cY k8 w10 RPY.out NDY.out (by have := HK8.out; omega) (by have := HK8.out; have := HCD.out; have := HCD2.out; omega)).mono ?_
  rintro e w11 ⟨he, hb, rr⟩
  clear hzX hzM hzQ hzY haY
  obtain ⟨k9, hk9⟩ : ∃ k9 : Nat, k9 = k8 + cntT dm := ⟨_, rfl⟩
  rw [← hk9] at he
  subst he
  have kn9 : ¬ (k9 : Int) < 0 := by omega
  clear hk9
  replace HB := uh (hb.below (fun b e => by have := FBY.out b e; have := O0.out; have := O1.out; have := O2.out; have := O3.out; have := O4.out; have := O5.out; have := O6.out; have := O7.out; have := O8.out; have := O9.out; have := O10.out; have := O11.out; have := O12.out; omega) HB.out)
  replace HX := uh (HX.out.mks hb (fun e => by have := FBY.out _ e; have := O0.out; have := O1.out; have := O2.out; have := O3.out; have := O4.out; have := O5.out; have := O6.out; have := O7.out; have := O8.out; have := O9.out; have := O10.out; have := O11.out; have := O12.out; omega))
  replace HXM := uh (HXM.out.mks hb (fun e => by have := FBY.out _ e; have := O0.out; have := O1.out; have := O2.out; have := O3.out; have := O4.out; have := O5.out; have := O6.out; have := O7.out; have := O8.out; have := O9.out; have := O10.out; have := O11.out; have := O12.out; omega))
  replace HXQ := uh (HXQ.out.mks hb (fun e => by have := FBY.out _ e; have := O0.out; have := O1.out; have := O2.out; have := O3.out; have := O4.out; have := O5.out; have := O6.out; have := O7.out; have := O8.out; have := O9.out; have := O10.out; have := O11.out; have := O12.out; omega))
  replace HXY := uh (HXY.out.mks hb (fun e => by have := FBY.out _ e; have := O0.out; have := O1.out; have := O2.out; have := O3.out; have := O4.out; have := O5.out; have := O6.out; have := O7.out; have := O8.out; have := O9.out; have := O10.out; have := O11.out; have := O12.out; omega))
  replace RPS := uh (RPS.out.keep hb (fun b hb e => by have := FBY.out b e; have := FBS.out b hb; have := O0.out; have := O1.out; have := O2.out; have := O3.out; have := O4.out; have := O5.out; have := O6.out; have := O7.out; have := O8.out; have := O9.out; have := O10.out; have := O11.out; have := O12.out; omega))
  replace RPG := uh (RPG.out.keep hb (fun b hb e => by have := FBY.out b e; have := FBG.out b hb; have := O0.out; have := O1.out; have := O2.out; have := O3.out; have := O4.out; have := O5.out; have := O6.out; have := O7.out; have := O8.out; have := O9.out; have := O10.out; have := O11.out; have := O12.out; omega))
  have O13 := uh (hb.size)
  clear hb rr RPY NDY
  have hzX := HX.out.lt
  have hzM := HXM.out.lt
  have hzQ := HXQ.out.lt
  have hzY := HXY.out.lt
  go_wp2_with fail
  refine (eqSheetChangeS N A _ _ w11 RPG.out.raw RPS.out.raw).mono ?_
  rintro e w12 ⟨rfl, hb⟩
  clear hzX hzM hzQ hzY
  replace HB := uh (blw_trans HB.out hb)
  replace HX := uh (HX.out.later hb)
  replace HXM := uh (HXM.out.later hb)
  replace HXQ := uh (HXQ.out.later hb)
  replace HXY := uh (HXY.out.later hb)
  replace RPS := uh (RPS.out.later hb)
  replace RPG := uh (RPG.out.later hb)
  have O14 := uh (hb.size)
  clear hb
  have hzX := HX.out.lt
  have hzM := HXM.out.lt
  have hzQ := HXQ.out.lt
  have hzY := HXY.out.lt
  go_wp2_with fail
  refine (markSheetChangeS FG N A _ 1 w12 RPG.out NDG.out (by omega) (by have := HCN.out; omega)).mono ?_
  rintro e w13 ⟨he, hb, rr⟩
  clear hzX hzM hzQ hzY
  obtain ⟨k10, hk10⟩ : ∃ k10 : Nat, k10 = 1 + cntL A := ⟨_, rfl⟩
  rw [← hk10] at he
  subst he
  have HK10 := uh hk10
  have kn10 : ¬ (k10 : Int) < 0 := by omega
  clear hk10
  have HTY := uh RPG.out.raw.typ
  replace HB := uh (hb.below (fun b e => by have := FBG.out b e; have := O0.out; have := O1.out; have := O2.out; have := O3.out; have := O4.out; have := O5.out; have := O6.out; have := O7.out; have := O8.out; have := O9.out; have := O10.out; have := O11.out; have := O12.out; have := O13.out; have := O14.out; omega) HB.out)
  replace HX := uh (HX.out.mks hb (fun e => by have := FBG.out _ e; have := O0.out; have := O1.out; have := O2.out; have := O3.out; have := O4.out; have := O5.out; have := O6.out; have := O7.out; have := O8.out; have := O9.out; have := O10.out; have := O11.out; have := O12.out; have := O13.out; have := O14.out; omega))
  replace HXM := uh (HXM.out.mks hb (fun e => by have := FBG.out _ e; have := O0.out; have := O1.out; have := O2.out; have := O3.out; have := O4.out; have := O5.out; have := O6.out; have := O7.out; have := O8.out; have := O9.out; have := O10.out; have := O11.out; have := O12.out; have := O13.out; have := O14.out; omega))
  replace HXQ := uh (HXQ.out.mks hb (fun e => by have := FBG.out _ e; have := O0.out; have := O1.out; have := O2.out; have := O3.out; have := O4.out; have := O5.out; have := O6.out; have := O7.out; have := O8.out; have := O9.out; have := O10.out; have := O11.out; have := O12.out; have := O13.out; have := O14.out; omega))
  replace HXY := uh (HXY.out.mks hb (fun e => by have := FBG.out _ e; have := O0.out; have := O1.out; have := O2.out; have := O3.out; have := O4.out; have := O5.out; have := O6.out; have := O7.out; have := O8.out; have := O9.out; have := O10.out; have := O11.out; have := O12.out; have := O13.out; have := O14.out; omega))
  replace RPS := uh (RPS.out.keep hb (fun b hb e => by have := FBG.out b e; have := FBS.out b hb; have := O0.out; have := O1.out; have := O2.out; have := O3.out; have := O4.out; have := O5.out; have := O6.out; have := O7.out; have := O8.out; have := O9.out; have := O10.out; have := O11.out; have := O12.out; have := O13.out; have := O14.out; omega))
  have O15 := uh (hb.size)
  replace RPG := uh rr
  clear hb rr
  have hzX := HX.out.lt
  have hzM := HXM.out.lt
  have hzQ := HXQ.out.lt
  have hzY := HXY.out.lt
  go_wp2_with fail
  refine (heldSheetChangeS N A _ 1 w13 (by obtain ⟨_, _, _, e, t, _⟩ := HTY.out.c_r; injection e with e1 e2; injection e1 with e3 e4; subst e3; subst e4; exact t) RPG.out.raw (by omega) (by have := HCN.out; omega)).mono ?_
  rintro e w14 ⟨he, hb⟩
  rw [← HK10.out] at he
  subst he
  clear hzX hzM hzQ hzY
  replace HB := uh (blw_trans HB.out hb)
  replace HX := uh (HX.out.later hb)
  replace HXM := uh (HXM.out.later hb)
  replace HXQ := uh (HXQ.out.later hb)
  replace HXY := uh (HXY.out.later hb)
  replace RPS := uh (RPS.out.later hb)
  replace RPG := uh (RPG.out.later hb)
  have O16 := uh (hb.size)
  clear hb
  go_upto_region 31 with fail
  refine RY.region_past w14 (Below.refl _ _) (VTl (.agg cs.toArray) (.agg ms.toArray) (fun u W => ∃ c F, u = .agg c.toArray ∧ Rep W true shSheet F ds c) (fun u W => ∃ c F, u = .agg c.toArray ∧ Rep W true shSheet F dm c) (fun u W => ∃ F, Rep W false [.row 44 shSheetChange] F [.row N A] [u] ∧ F.Nodup ∧ ∀ b ∈ F, w14.heap.size ≤ b)) (VTl_mono _ _ _ _ _ (by rintro u W W' hb ⟨c, F, rfl, h⟩; exact ⟨c, F, rfl, h.later hb⟩) (by rintro u W W' hb ⟨c, F, rfl, h⟩; exact ⟨c, F, rfl, h.later hb⟩) (by rintro u W W' hb ⟨F, h, h2⟩; exact ⟨F, h.later hb, h2⟩)) (by kernel_rfl) (by kernel_rfl) (by kernel_rfl) (by kernel_rfl) ?_ ?_
  · intro i o ho a W hW hk hd
    have z1 := HX.out.later hW
    have z2 := HXM.out.later hW
    match i, ho with
    | 0, ho =>
      injection ho with ho; subst ho
      exact Or.inl ⟨_, W, exec_load_mid 24 _ rfl w.heap.size 0 ((hk 2 rfl).trans rfl) cs _ z1.at_ Try.underlying24 rfl (by rw [LNX.out]; kernel_rfl), Below.refl _ _, rfl⟩
    | 1, ho =>
      injection ho with ho; subst ho
      have e0 : a.tmps[75]?.getD undef = _ := (RY.ev_tmp a 75).trans (hd 0 _ 75 rfl rfl ⟨⟨0, .data⟩, by simp, rfl, rfl⟩)
      refine Or.inr ⟨6, #[.agg cs.toArray], by simp [go_sem, e0], (toSheet ds cs W (HR.out.later (blw_trans HB.out hW)) HWa.out).mono ?_⟩
      rintro e W' ⟨c, F, rfl, hr, _, _, hb⟩
      exact ⟨_, rfl, hb, c, F, rfl, hr⟩
    | 2, ho =>
      injection ho with ho; subst ho
      exact Or.inl ⟨_, W, exec_load_mid 24 _ rfl (w.heap.size + 1) 0 ((hk 3 rfl).trans rfl) ms _ z2.at_ Try.underlying24 rfl (by rw [LNM.out]; kernel_rfl), Below.refl _ _, rfl⟩
    | 3, ho =>
      injection ho with ho; subst ho
      have e0 : a.tmps[77]?.getD undef = _ := (RY.ev_tmp a 77).trans (hd 2 _ 77 rfl rfl ⟨⟨2, .data⟩, by simp, rfl, rfl⟩)
      refine Or.inr ⟨6, #[.agg ms.toArray], by simp [go_sem, e0], (toSheet dm ms W (HR2.out.later (blw_trans HB.out hW)) HWb.out).mono ?_⟩
      rintro e W' ⟨c, F, rfl, hr, _, _, hb⟩
      exact ⟨_, rfl, hb, c, F, rfl, hr⟩
    | 4, ho =>
      injection ho with ho; subst ho
      obtain ⟨c, F, e1, h1⟩ := hd 1 _ 76 rfl rfl ⟨⟨1, .data⟩, by simp, rfl, rfl⟩
      obtain ⟨d, G, e2, h2⟩ := hd 3 _ 78 rfl rfl ⟨⟨3, .data⟩, by simp, rfl, rfl⟩
      have e1 := (RY.ev_tmp a 76).trans e1
      have e2 := (RY.ev_tmp a 78).trans e2
      refine Or.inr ⟨7, #[.agg c.toArray, .agg d.toArray], by simp [go_sem, e1, e2], (HIM.out HW.out c d F G W h1 h2).mono ?_⟩
      rintro e W' ⟨v, F, rfl, hr, nd, fr, hb⟩
      exact ⟨_, rfl, hb, F, hr, nd, fun b hb2 => Nat.le_trans hW.size (fr b hb2)⟩
    | 5, ho =>
      injection ho with ho; subst ho
      obtain ⟨F, h1⟩ := hd 4 _ 79 rfl rfl ⟨⟨4, .data⟩, by simp, rfl, rfl⟩
      exact Or.inl ⟨_, W, by simp only [execOp, Sem.run_pure], Below.refl _ _, F, h1⟩
    | n + 6, ho => simp at ho
  intro w15 vs hb hvs
  obtain ⟨FH, rep, nd, fr⟩ := hvs 5 _ 13 rfl rfl
  simp only [RY.putAll, Act.put, List.setIfInBounds_toArray, List.set_cons_zero, List.set_cons_succ]
  generalize vs 13 = vH at rep ⊢
  generalize vs 75 = t0
  generalize vs 76 = t1
  generalize vs 77 = t2
  generalize vs 78 = t3
  generalize vs 79 = t4
  clear hvs
  replace HB := uh (blw_trans HB.out hb)
  replace HX := uh (HX.out.later hb)
  replace HXM := uh (HXM.out.later hb)
  replace HXQ := uh (HXQ.out.later hb)
  replace HXY := uh (HXY.out.later hb)
  replace RPS := uh (RPS.out.later hb)
  replace RPG := uh (RPG.out.later hb)
  have O17 := uh (hb.size)
  have FBH : Hid (∀ b ∈ FH, w14.heap.size ≤ b ∧ b < w15.heap.size) := fun b hb => ⟨fr b hb, rep.lt b hb⟩
  have NDH := uh nd
  have RPH := uh rep
  obtain ⟨saH, scH, hva⟩ := rep.raw.len0
  subst hva
  clear rep nd fr hb
  clear HIM
  have hzX := HX.out.lt
  have hzM := HXM.out.lt
  have hzQ := HXQ.out.lt
  have hzY := HXY.out.lt
  go_wp2_with fail
  refine (eqSheetChangeS N A _ _ w15 RPH.out.raw RPS.out.raw).mono ?_
  rintro e w16 ⟨rfl, hb⟩
  clear hzX hzM hzQ hzY
  replace HB := uh (blw_trans HB.out hb)
  replace HX := uh (HX.out.later hb)
  replace HXM := uh (HXM.out.later hb)
  replace HXQ := uh (HXQ.out.later hb)
  replace HXY := uh (HXY.out.later hb)
  replace RPS := uh (RPS.out.later hb)
  replace RPG := uh (RPG.out.later hb)
  replace RPH := uh (RPH.out.later hb)
  have O18 := uh (hb.size)
  clear hb
  have hzX := HX.out.lt
  have hzM := HXM.out.lt
  have hzQ := HXQ.out.lt
  have hzY := HXY.out.lt
  go_wp2_with fail
  refine (heldSheetChangeS N A _ 1 w16 (by obtain ⟨_, _, _, e, t, _⟩ := HTY.out.c_r; injection e with e1 e2; injection e1 with e3 e4; subst e3; subst e4; exact t) RPG.out.raw (by omega) (by have := HCN.out; omega)).mono ?_
  rintro e w17 ⟨he, hb⟩
  rw [← HK10.out] at he
  subst he
  clear hzX hzM hzQ hzY
  replace HB := uh (blw_trans HB.out hb)
  replace HX := uh (HX.out.later hb)
  replace HXM := uh (HXM.out.later hb)
  replace HXQ := uh (HXQ.out.later hb)
  replace HXY := uh (HXY.out.later hb)
  replace RPS := uh (RPS.out.later hb)
  replace RPG := uh (RPG.out.later hb)
  replace RPH := uh (RPH.out.later hb)
  have O19 := uh (hb.size)
  clear hb
  go_wp2
  go_ret
  exact ⟨rfl, HB.out⟩

end Go.Proofs.Ytojcopamegmeeaa
