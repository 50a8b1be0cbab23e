/-
  Sizes of sheets.
-/
import Derived.Test.YtfmhfacaemfhlaaESs
namespace Go.Proofs.Ytfmhfacaemfhlaa
open Go.RowKit Go.Deep

set_option maxRecDepth 8000 in
set_option maxHeartbeats 8000000 in
theorem szStringS (n : Nat) (es : List Dt) (v : Value) (left : Int) (w : World) (h0 : 0 ≤ left) (h1 : left ≤ 1048576) (h : Raw w [.row 9 [.s]] [.row n es] [v]) (hz : szd es) :
    Calls Try.prog 85 #[v, .int .i64 left] w fun e w' => e = .returned (.int .i64 (if ((n + wtL es : Nat) : Int) ≤ left then left - ((n + wtL es : Nat) : Int) else -1)) ∧ Below w.heap.size w w' := by
  obtain ⟨R, hR⟩ : ∃ R : Int, R = if ((n + wtL es : Nat) : Int) ≤ left then left - ((n + wtL es : Nat) : Int) else -1 := ⟨_, rfl⟩
  rw [← hR]
  have HRR := uh hR
  clear hR
  obtain ⟨a, c, hv⟩ := h.len0
  have HH := uh h
  have HZ := uh hz
  clear hz h
  have hn : n ≤ 9223372036854775807 := by rcases HH.out.slice with ⟨e, _⟩ | ⟨_, _, _, _, _, e, _⟩; omega; exact e.1
  subst hv
  go_enter Try.func85, Try.ntmps85
  by_cases hl : left - (n : Int) < 0
  · have HE : Hid (-1 = R) := by show _ = _; rw [HRR.out, if_neg (by omega)]
    go_wp2
    go_ret
    exact ⟨Pl.ret_int HE.out, Below.refl _ _⟩
  go_wp2
  go_loopw [1, 5] (fun l i wr => ∃ (q : Nat) (m : Int), q ≤ n ∧ i = .int .i64 q ∧ l = .int .i64 m ∧ m = left - n - wtL (es.take (q * 1)) ∧ 0 ≤ m ∧ Below w.heap.size w wr) (fun _ i _ => n - (intOf i).toNat)
  case atStart => exact ⟨0, left - n, Nat.zero_le _, rfl, rfl, by simp [wtL], by omega, Below.refl _ _⟩
  case round =>
    obtain ⟨q, m, hq, rfl, rfl, hm, hm0, hB⟩ := hrel
    have HM := uh hm
    have HB := uh hB
    have hm1 : m ≤ 1048576 := by omega
    clear hm hB
    by_cases hlt : q < n
    · have hr := (HH.out.later HB.out).slice
      rcases hr with ⟨e0, _⟩ | ⟨p, o, c2, hv, hp, _, vs, hr, hR⟩
      · omega
      injection hv with e1 _ e3
      subst e1
      subst e3
      obtain ⟨ve, hE, hg⟩ := hR.el hlt hr
      have hq0 : (0 : Int) ≤ (q : Int) := by omega
      have hq3 : (q : Int) < (n : Int) := by omega
      have hwn : wtL (es.take ((q + 1) * 1)) = wtL (es.take (q * 1)) + wtL (el 1 q es) := wt_next 1 q es
      have hwl : wtL (es.take ((q + 1) * 1)) ≤ wtL es := wt_le _ _
      have hze : szd (el 1 q es) := szd_el HZ.out
      obtain ⟨d, hd⟩ : ∃ d, d = el 1 q es := ⟨_, rfl⟩
      rw [← hd] at hwn hze
      have hE1 : Raw wr [.s] d ve := by rw [hd]; exact hE
      have HW := uh (And.intro hwn hwl)
      clear hwn hwl hE hd hR
      obtain ⟨a0, rfl⟩ := typT1 hE1.typ
      obtain rfl := rawT1 hE1
      have gc : wr.cell? ⟨p, o + q, none⟩ = some (.string a0) := by have := rA_get hg 0 _ rfl; simpa using this
      have hsz : a0.size ≤ 9223372036854775807 := by simp only [szd] at hze; exact hze.1
      have HWT : Hid (wtL [Dt.s a0] = a0.size) := by show _ = _; simp [wtL]
      clear hg hE1 hze hr
      by_cases hl2 : m - (a0.size : Int) < 0
      · have HE : Hid (-1 = R) := by show _ = _; have := HW.out; have := HWT.out; have := HM.out; rw [HRR.out, if_neg (by omega)]
        go_wp2
        go_ret
        exact ⟨Pl.ret_int HE.out, HB.out⟩
      · have HE : Hid (m - (a0.size : Int) = left - n - wtL (es.take ((q + 1) * 1))) := by show _ = _; have := HW.out; have := HWT.out; have := HM.out; omega
        go_wp2
        go_roundw
        case rel => exact ⟨q + 1, _, by omega, by go_num, rfl, HE.out, by omega, HB.out⟩
        case measure => simp [intOf]; omega
    · obtain rfl : q = n := by omega
      have el_ : es.length = q * 1 := by obtain ⟨_, _, _, e, t, _⟩ := HH.out.typ.c_r; injection e with e1 e2; injection e1 with e3 e4; subst e3; subst e4; exact t.rows
      have HE : Hid (m = R) := by
        show _ = _; have h2 := HM.out; rw [← el_, List.take_length] at h2
        rw [HRR.out, if_pos (by omega)]; omega
      clear el_
      go_wp2
      go_ret
      exact ⟨Pl.ret_int HE.out, HB.out⟩
set_option maxRecDepth 8000 in
set_option maxHeartbeats 8000000 in
theorem szSheetLine (ds : List Dt) (cs : List Value) (left : Int) (w : World) (h0 : 0 ≤ left) (h1 : left ≤ 1048576) (h : Raw w shSheetLine ds cs) (hz : szd ds) :
    Calls Try.prog 71 #[.agg cs.toArray, .int .i64 left] w fun e w' => e = .returned (.int .i64 (if ((wtL ds : Nat) : Int) ≤ left then left - ((wtL ds : Nat) : Int) else -1)) ∧ Below w.heap.size w w' := by
  obtain ⟨a0, n1, e1, v1, rfl, hcs, r1⟩ := segRawSheetLine h
  have R1 := uh r1
  have HCS := uh hcs
  simp only [szd] at hz
  have Z0 := uh hz.1
  have Z1 := uh hz.2.1
  obtain ⟨R, hR⟩ : ∃ R : Int, R = if ((wtL (.s a0 :: .row n1 e1 :: []) : Nat) : Int) ≤ left then left - ((wtL (.s a0 :: .row n1 e1 :: []) : Nat) : Int) else -1 := ⟨_, rfl⟩
  rw [← hR]
  simp only [wtL] at hR
  have HRR := uh hR
  clear hR
  obtain ⟨wa, hwa⟩ : ∃ wa, wa = w.alloc (.cells cs.toArray 99) := ⟨_, rfl⟩
  have HB : Hid (Below w.heap.size w wa) := by show Below _ _ _; rw [hwa]; exact blw_alloc (Below.refl _ _) _
  have HX : Hid (LBox wa w.heap.size cs) := by show LBox _ _ _; rw [hwa]; exact LBox.new w cs.toArray _ _ rfl
  clear hcs hz h r1
  go_enter Try.func71, Try.ntmps71
  go_upto_region 1 with fail
  rw [← hwa]
  clear hwa
  have hbz := HX.out.lt
  have hbx := boxSheetLine  (by have := HX.out.at_; rw [HCS.out] at this; exact this)
  have gc := hbx.1
  clear hbx
  have hsz0 : a0.size ≤ 9223372036854775807 := Z0.out
  obtain ⟨m0, hm0⟩ : ∃ m0 : Int, m0 = left - (a0.size : Int) := ⟨_, rfl⟩
  have M0 := uh hm0
  have hmc0 : left - (a0.size : Int) = m0 := hm0.symm
  clear hm0
  by_cases hl0 : m0 < 0
  · have HE : Hid (-1 = R) := by show _ = _; have := M0.out; rw [HRR.out, if_neg (by omega)]
    go_wp2
    go_ret
    exact ⟨Pl.ret_int HE.out, HB.out⟩
  have hlo0 : 0 ≤ m0 := by omega
  have hhi0 : m0 ≤ 1048576 := by have := M0.out; omega
  have hbz := HX.out.lt
  have hbx := boxSheetLine  (by have := HX.out.at_; rw [HCS.out] at this; exact this)
  have gc := hbx.2
  clear hbx
  obtain ⟨m1, hm1⟩ : ∃ m1 : Int, m1 = if ((n1 + wtL e1 : Nat) : Int) ≤ m0 then m0 - ((n1 + wtL e1 : Nat) : Int) else -1 := ⟨_, rfl⟩
  obtain ⟨va1, vc1, hva⟩ := R1.out.len0
  subst hva
  have HC := uh (szStringS n1 e1 (.slice va1 n1 vc1) m0 wa (by omega) (by omega) (R1.out.later HB.out) Z1.out)
  rw [← hm1] at HC
  have M1 := uh hm1
  clear hm1
  go_wp2_with fail
  refine HC.out.mono ?_
  rintro e x1 ⟨rfl, hb⟩
  replace HB := uh (blw_trans HB.out hb)
  replace HX := uh (HX.out.later hb)
  clear hb gc hbz HC
  by_cases hl1 : m1 < 0
  · have HE : Hid (-1 = R) := by
      show _ = _; have := M0.out; have h2 := M1.out
      split at h2
      · omega
      · rw [HRR.out, if_neg (by omega)]
    go_wp2
    go_ret
    exact ⟨Pl.ret_int HE.out, HB.out⟩
  have MM1 : Hid (m1 = m0 - ((n1 + wtL e1 : Nat) : Int)) := by
    show _ = _; have h2 := M1.out
    split at h2
    · exact h2
    · omega
  have hhi1 : m1 ≤ 1048576 := by have := MM1.out; omega
  have HE : Hid (m1 = R) := by show _ = _; have := M0.out; have := MM1.out; rw [HRR.out, if_pos (by omega)]; omega
  go_wp2
  go_ret
  exact ⟨Pl.ret_int HE.out, HB.out⟩
set_option maxRecDepth 8000 in
set_option maxHeartbeats 8000000 in
theorem szSheetLineS (n : Nat) (es : List Dt) (v : Value) (left : Int) (w : World) (h0 : 0 ≤ left) (h1 : left ≤ 1048576) (h : Raw w [.row 48 shSheetLine] [.row n es] [v]) (hz : szd es) :
    Calls Try.prog 55 #[v, .int .i64 left] w fun e w' => e = .returned (.int .i64 (if ((n + wtL es : Nat) : Int) ≤ left then left - ((n + wtL es : Nat) : Int) else -1)) ∧ Below w.heap.size w w' := by
  obtain ⟨R, hR⟩ : ∃ R : Int, R = if ((n + wtL es : Nat) : Int) ≤ left then left - ((n + wtL es : Nat) : Int) else -1 := ⟨_, rfl⟩
  rw [← hR]
  have HRR := uh hR
  clear hR
  obtain ⟨a, c, hv⟩ := h.len0
  have HH := uh h
  have HZ := uh hz
  clear hz h
  have hn : n ≤ 9223372036854775807 := by rcases HH.out.slice with ⟨e, _⟩ | ⟨_, _, _, _, _, e, _⟩; omega; exact e.1
  subst hv
  go_enter Try.func55, Try.ntmps55
  by_cases hl : left - (n : Int) < 0
  · have HE : Hid (-1 = R) := by show _ = _; rw [HRR.out, if_neg (by omega)]
    go_wp2
    go_ret
    exact ⟨Pl.ret_int HE.out, Below.refl _ _⟩
  go_wp2
  go_loopw [1, 5] (fun l i wr => ∃ (q : Nat) (m : Int), q ≤ n ∧ i = .int .i64 q ∧ l = .int .i64 m ∧ m = left - n - wtL (es.take (q * 2)) ∧ 0 ≤ m ∧ Below w.heap.size w wr) (fun _ i _ => n - (intOf i).toNat)
  case atStart => exact ⟨0, left - n, Nat.zero_le _, rfl, rfl, by simp [wtL], by omega, Below.refl _ _⟩
  case round =>
    obtain ⟨q, m, hq, rfl, rfl, hm, hm0, hB⟩ := hrel
    have HM := uh hm
    have HB := uh hB
    have hm1 : m ≤ 1048576 := by omega
    clear hm hB
    by_cases hlt : q < n
    · have hr := (HH.out.later HB.out).slice
      rcases hr with ⟨e0, _⟩ | ⟨p, o, c2, hv, hp, _, vs, hr, hR⟩
      · omega
      injection hv with e1 _ e3
      subst e1
      subst e3
      obtain ⟨ve, hE, hg⟩ := hR.el hlt hr
      have hq0 : (0 : Int) ≤ (q : Int) := by omega
      have hq3 : (q : Int) < (n : Int) := by omega
      have hwn : wtL (es.take ((q + 1) * 2)) = wtL (es.take (q * 2)) + wtL (el 2 q es) := wt_next 2 q es
      have hwl : wtL (es.take ((q + 1) * 2)) ≤ wtL es := wt_le _ _
      have hze : szd (el 2 q es) := szd_el HZ.out
      obtain ⟨d, hd⟩ : ∃ d, d = el 2 q es := ⟨_, rfl⟩
      rw [← hd] at hwn hze
      have hE1 : Raw wr shSheetLine d ve := by rw [hd]; exact hE
      have HW := uh (And.intro hwn hwl)
      clear hwn hwl hE hd hR
      have hg2 : wr.rangeAt p (o + q * 2) ve := hg
      have HL := uh hE1.len
      have HX := uh (szSheetLine d ve m wr hm0 hm1 hE1 hze)
      clear hg hE1 hze hr
      obtain ⟨m2, hm2⟩ : ∃ m2 : Int, m2 = if ((wtL d : Nat) : Int) ≤ m then m - ((wtL d : Nat) : Int) else -1 := ⟨_, rfl⟩
      rw [← hm2] at HX
      have HM2 := uh hm2
      clear hm2
      go_wp2_with (refine wpList_load_mid rfl 99 _ rfl p (o + q * 2) rfl ve _ hg2 Try.underlying99 rfl (by rw [HL.out]; kernel_rfl) ?_)
      refine HX.out.mono ?_
      rintro e w2 ⟨rfl, hb⟩
      replace HB := uh (blw_trans HB.out hb)
      clear hb hg2 HX
      by_cases hl2 : m2 < 0
      · have HE : Hid (-1 = R) := by
          show _ = _; have := HW.out; have := HM.out; have h2 := HM2.out
          split at h2
          · omega
          · rw [HRR.out, if_neg (by omega)]
        go_wp2
        go_ret
        exact ⟨Pl.ret_int HE.out, HB.out⟩
      · have HE : Hid (m2 = left - n - wtL (es.take ((q + 1) * 2))) := by
          show _ = _; have := HW.out; have := HM.out; have h2 := HM2.out
          split at h2
          · omega
          · omega
        go_wp2
        go_roundw
        case rel => exact ⟨q + 1, _, by omega, by go_num, rfl, HE.out, by omega, HB.out⟩
        case measure => simp [intOf]; omega
    · obtain rfl : q = n := by omega
      have el_ : es.length = q * 2 := by obtain ⟨_, _, _, e, t, _⟩ := HH.out.typ.c_r; injection e with e1 e2; injection e1 with e3 e4; subst e3; subst e4; exact t.rows
      have HE : Hid (m = R) := by
        show _ = _; have h2 := HM.out; rw [← el_, List.take_length] at h2
        rw [HRR.out, if_pos (by omega)]; omega
      clear el_
      go_wp2
      go_ret
      exact ⟨Pl.ret_int HE.out, HB.out⟩
set_option maxRecDepth 8000 in
set_option maxHeartbeats 8000000 in
theorem szSheetBlock (ds : List Dt) (cs : List Value) (left : Int) (w : World) (h0 : 0 ≤ left) (h1 : left ≤ 1048576) (h : Raw w shSheetBlock ds cs) (hz : szd ds) :
    Calls Try.prog 29 #[.agg cs.toArray, .int .i64 left] w fun e w' => e = .returned (.int .i64 (if ((wtL ds : Nat) : Int) ≤ left then left - ((wtL ds : Nat) : Int) else -1)) ∧ Below w.heap.size w w' := by
  obtain ⟨a0, a1, n2, e2, v2, rfl, hcs, r2⟩ := segRawSheetBlock h
  have R2 := uh r2
  have HCS := uh hcs
  simp only [szd] at hz
  have Z0 := uh hz.1
  have Z1 := uh hz.2.1
  have Z2 := uh hz.2.2.1
  obtain ⟨R, hR⟩ : ∃ R : Int, R = if ((wtL (.s a0 :: .s a1 :: .row n2 e2 :: []) : Nat) : Int) ≤ left then left - ((wtL (.s a0 :: .s a1 :: .row n2 e2 :: []) : Nat) : Int) else -1 := ⟨_, rfl⟩
  rw [← hR]
  simp only [wtL] at hR
  have HRR := uh hR
  clear hR
  obtain ⟨wa, hwa⟩ : ∃ wa, wa = w.alloc (.cells cs.toArray 59) := ⟨_, rfl⟩
  have HB : Hid (Below w.heap.size w wa) := by show Below _ _ _; rw [hwa]; exact blw_alloc (Below.refl _ _) _
  have HX : Hid (LBox wa w.heap.size cs) := by show LBox _ _ _; rw [hwa]; exact LBox.new w cs.toArray _ _ rfl
  clear hcs hz h r2
  go_enter Try.func29, Try.ntmps29
  go_upto_region 1 with fail
  rw [← hwa]
  clear hwa
  have hbz := HX.out.lt
  have hbx := boxSheetBlock  (by have := HX.out.at_; rw [HCS.out] at this; exact this)
  have gc := hbx.1
  clear hbx
  have hsz0 : a0.size ≤ 9223372036854775807 := Z0.out
  obtain ⟨m0, hm0⟩ : ∃ m0 : Int, m0 = left - (a0.size : Int) := ⟨_, rfl⟩
  have M0 := uh hm0
  have hmc0 : left - (a0.size : Int) = m0 := hm0.symm
  clear hm0
  by_cases hl0 : m0 < 0
  · have HE : Hid (-1 = R) := by show _ = _; have := M0.out; rw [HRR.out, if_neg (by omega)]
    go_wp2
    go_ret
    exact ⟨Pl.ret_int HE.out, HB.out⟩
  have hlo0 : 0 ≤ m0 := by omega
  have hhi0 : m0 ≤ 1048576 := by have := M0.out; omega
  have hbz := HX.out.lt
  have hbx := boxSheetBlock  (by have := HX.out.at_; rw [HCS.out] at this; exact this)
  have gc := hbx.2.1
  clear hbx
  have hsz1 : a1.size ≤ 9223372036854775807 := Z1.out
  obtain ⟨m1, hm1⟩ : ∃ m1 : Int, m1 = m0 - (a1.size : Int) := ⟨_, rfl⟩
  have M1 := uh hm1
  have hmc1 : m0 - (a1.size : Int) = m1 := hm1.symm
  clear hm1
  by_cases hl1 : m1 < 0
  · have HE : Hid (-1 = R) := by show _ = _; have := M0.out; have := M1.out; rw [HRR.out, if_neg (by omega)]
    go_wp2
    go_ret
    exact ⟨Pl.ret_int HE.out, HB.out⟩
  have hlo1 : 0 ≤ m1 := by omega
  have hhi1 : m1 ≤ 1048576 := by have := M1.out; omega
  have hbz := HX.out.lt
  have hbx := boxSheetBlock  (by have := HX.out.at_; rw [HCS.out] at this; exact this)
  have gc := hbx.2.2
  clear hbx
  obtain ⟨m2, hm2⟩ : ∃ m2 : Int, m2 = if ((n2 + wtL e2 : Nat) : Int) ≤ m1 then m1 - ((n2 + wtL e2 : Nat) : Int) else -1 := ⟨_, rfl⟩
  obtain ⟨va2, vc2, hva⟩ := R2.out.len0
  subst hva
  have HC := uh (szSheetLineS n2 e2 (.slice va2 n2 vc2) m1 wa (by omega) (by omega) (R2.out.later HB.out) Z2.out)
  rw [← hm2] at HC
  have M2 := uh hm2
  clear hm2
  go_wp2_with fail
  refine HC.out.mono ?_
  rintro e x2 ⟨rfl, hb⟩
  replace HB := uh (blw_trans HB.out hb)
  replace HX := uh (HX.out.later hb)
  clear hb gc hbz HC
  by_cases hl2 : m2 < 0
  · have HE : Hid (-1 = R) := by
      show _ = _; have := M0.out; have := M1.out; have h2 := M2.out
      split at h2
      · omega
      · rw [HRR.out, if_neg (by omega)]
    go_wp2
    go_ret
    exact ⟨Pl.ret_int HE.out, HB.out⟩
  have MM2 : Hid (m2 = m1 - ((n2 + wtL e2 : Nat) : Int)) := by
    show _ = _; have h2 := M2.out
    split at h2
    · exact h2
    · omega
  have hhi2 : m2 ≤ 1048576 := by have := MM2.out; omega
  have HE : Hid (m2 = R) := by show _ = _; have := M0.out; have := M1.out; have := MM2.out; rw [HRR.out, if_pos (by omega)]; omega
  go_wp2
  go_ret
  exact ⟨Pl.ret_int HE.out, HB.out⟩
set_option maxRecDepth 8000 in
set_option maxHeartbeats 8000000 in
theorem szSheetBlockS (n : Nat) (es : List Dt) (v : Value) (left : Int) (w : World) (h0 : 0 ≤ left) (h1 : left ≤ 1048576) (h : Raw w [.row 40 shSheetBlock] [.row n es] [v]) (hz : szd es) :
    Calls Try.prog 14 #[v, .int .i64 left] w fun e w' => e = .returned (.int .i64 (if ((n + wtL es : Nat) : Int) ≤ left then left - ((n + wtL es : Nat) : Int) else -1)) ∧ Below w.heap.size w w' := by
  obtain ⟨R, hR⟩ : ∃ R : Int, R = if ((n + wtL es : Nat) : Int) ≤ left then left - ((n + wtL es : Nat) : Int) else -1 := ⟨_, rfl⟩
  rw [← hR]
  have HRR := uh hR
  clear hR
  obtain ⟨a, c, hv⟩ := h.len0
  have HH := uh h
  have HZ := uh hz
  clear hz h
  have hn : n ≤ 9223372036854775807 := by rcases HH.out.slice with ⟨e, _⟩ | ⟨_, _, _, _, _, e, _⟩; omega; exact e.1
  subst hv
  go_enter Try.func14, Try.ntmps14
  by_cases hl : left - (n : Int) < 0
  · have HE : Hid (-1 = R) := by show _ = _; rw [HRR.out, if_neg (by omega)]
    go_wp2
    go_ret
    exact ⟨Pl.ret_int HE.out, Below.refl _ _⟩
  go_wp2
  go_loopw [1, 5] (fun l i wr => ∃ (q : Nat) (m : Int), q ≤ n ∧ i = .int .i64 q ∧ l = .int .i64 m ∧ m = left - n - wtL (es.take (q * 3)) ∧ 0 ≤ m ∧ Below w.heap.size w wr) (fun _ i _ => n - (intOf i).toNat)
  case atStart => exact ⟨0, left - n, Nat.zero_le _, rfl, rfl, by simp [wtL], by omega, Below.refl _ _⟩
  case round =>
    obtain ⟨q, m, hq, rfl, rfl, hm, hm0, hB⟩ := hrel
    have HM := uh hm
    have HB := uh hB
    have hm1 : m ≤ 1048576 := by omega
    clear hm hB
    by_cases hlt : q < n
    · have hr := (HH.out.later HB.out).slice
      rcases hr with ⟨e0, _⟩ | ⟨p, o, c2, hv, hp, _, vs, hr, hR⟩
      · omega
      injection hv with e1 _ e3
      subst e1
      subst e3
      obtain ⟨ve, hE, hg⟩ := hR.el hlt hr
      have hq0 : (0 : Int) ≤ (q : Int) := by omega
      have hq3 : (q : Int) < (n : Int) := by omega
      have hwn : wtL (es.take ((q + 1) * 3)) = wtL (es.take (q * 3)) + wtL (el 3 q es) := wt_next 3 q es
      have hwl : wtL (es.take ((q + 1) * 3)) ≤ wtL es := wt_le _ _
      have hze : szd (el 3 q es) := szd_el HZ.out
      obtain ⟨d, hd⟩ : ∃ d, d = el 3 q es := ⟨_, rfl⟩
      rw [← hd] at hwn hze
      have hE1 : Raw wr shSheetBlock d ve := by rw [hd]; exact hE
      have HW := uh (And.intro hwn hwl)
      clear hwn hwl hE hd hR
      have hg2 : wr.rangeAt p (o + q * 3) ve := hg
      have HL := uh hE1.len
      have HX := uh (szSheetBlock d ve m wr hm0 hm1 hE1 hze)
      clear hg hE1 hze hr
      obtain ⟨m2, hm2⟩ : ∃ m2 : Int, m2 = if ((wtL d : Nat) : Int) ≤ m then m - ((wtL d : Nat) : Int) else -1 := ⟨_, rfl⟩
      rw [← hm2] at HX
      have HM2 := uh hm2
      clear hm2
      go_wp2_with (refine wpList_load_mid rfl 59 _ rfl p (o + q * 3) rfl ve _ hg2 Try.underlying59 rfl (by rw [HL.out]; kernel_rfl) ?_)
      refine HX.out.mono ?_
      rintro e w2 ⟨rfl, hb⟩
      replace HB := uh (blw_trans HB.out hb)
      clear hb hg2 HX
      by_cases hl2 : m2 < 0
      · have HE : Hid (-1 = R) := by
          show _ = _; have := HW.out; have := HM.out; have h2 := HM2.out
          split at h2
          · omega
          · rw [HRR.out, if_neg (by omega)]
        go_wp2
        go_ret
        exact ⟨Pl.ret_int HE.out, HB.out⟩
      · have HE : Hid (m2 = left - n - wtL (es.take ((q + 1) * 3))) := by
          show _ = _; have := HW.out; have := HM.out; have h2 := HM2.out
          split at h2
          · omega
          · omega
        go_wp2
        go_roundw
        case rel => exact ⟨q + 1, _, by omega, by go_num, rfl, HE.out, by omega, HB.out⟩
        case measure => simp [intOf]; omega
    · obtain rfl : q = n := by omega
      have el_ : es.length = q * 3 := by obtain ⟨_, _, _, e, t, _⟩ := HH.out.typ.c_r; injection e with e1 e2; injection e1 with e3 e4; subst e3; subst e4; exact t.rows
      have HE : Hid (m = R) := by
        show _ = _; have h2 := HM.out; rw [← el_, List.take_length] at h2
        rw [HRR.out, if_pos (by omega)]; omega
      clear el_
      go_wp2
      go_ret
      exact ⟨Pl.ret_int HE.out, HB.out⟩
set_option maxRecDepth 8000 in
set_option maxHeartbeats 8000000 in
theorem szSheet (ds : List Dt) (cs : List Value) (left : Int) (w : World) (h0 : 0 ≤ left) (h1 : left ≤ 1048576) (h : Raw w shSheet ds cs) (hz : szd ds) :
    Calls Try.prog 5 #[.agg cs.toArray, .int .i64 left] w fun e w' => e = .returned (.int .i64 (if ((wtL ds : Nat) : Int) ≤ left then left - ((wtL ds : Nat) : Int) else -1)) ∧ Below w.heap.size w w' := by
  obtain ⟨n0, e0, v0, rfl, hcs, r0⟩ := segRawSheet h
  have R0 := uh r0
  have HCS := uh hcs
  simp only [szd] at hz
  have Z0 := uh hz.1
  obtain ⟨R, hR⟩ : ∃ R : Int, R = if ((wtL (.row n0 e0 :: []) : Nat) : Int) ≤ left then left - ((wtL (.row n0 e0 :: []) : Nat) : Int) else -1 := ⟨_, rfl⟩
  rw [← hR]
  simp only [wtL] at hR
  have HRR := uh hR
  clear hR
  obtain ⟨wa, hwa⟩ : ∃ wa, wa = w.alloc (.cells cs.toArray 24) := ⟨_, rfl⟩
  have HB : Hid (Below w.heap.size w wa) := by show Below _ _ _; rw [hwa]; exact blw_alloc (Below.refl _ _) _
  have HX : Hid (LBox wa w.heap.size cs) := by show LBox _ _ _; rw [hwa]; exact LBox.new w cs.toArray _ _ rfl
  clear hcs hz h r0
  go_enter Try.func5, Try.ntmps5
  go_upto_region 1 with fail
  rw [← hwa]
  clear hwa
  have hbz := HX.out.lt
  have hbx := boxSheet  (by have := HX.out.at_; rw [HCS.out] at this; exact this)
  have gc := hbx
  clear hbx
  obtain ⟨m0, hm0⟩ : ∃ m0 : Int, m0 = if ((n0 + wtL e0 : Nat) : Int) ≤ left then left - ((n0 + wtL e0 : Nat) : Int) else -1 := ⟨_, rfl⟩
  obtain ⟨va0, vc0, hva⟩ := R0.out.len0
  subst hva
  have HC := uh (szSheetBlockS n0 e0 (.slice va0 n0 vc0) left wa (by omega) (by omega) (R0.out.later HB.out) Z0.out)
  rw [← hm0] at HC
  have M0 := uh hm0
  clear hm0
  go_wp2_with fail
  refine HC.out.mono ?_
  rintro e x0 ⟨rfl, hb⟩
  replace HB := uh (blw_trans HB.out hb)
  replace HX := uh (HX.out.later hb)
  clear hb gc hbz HC
  by_cases hl0 : m0 < 0
  · have HE : Hid (-1 = R) := by
      show _ = _; have h2 := M0.out
      split at h2
      · omega
      · rw [HRR.out, if_neg (by omega)]
    go_wp2
    go_ret
    exact ⟨Pl.ret_int HE.out, HB.out⟩
  have MM0 : Hid (m0 = left - ((n0 + wtL e0 : Nat) : Int)) := by
    show _ = _; have h2 := M0.out
    split at h2
    · exact h2
    · omega
  have hhi0 : m0 ≤ 1048576 := by have := MM0.out; omega
  have HE : Hid (m0 = R) := by show _ = _; have := MM0.out; rw [HRR.out, if_pos (by omega)]; omega
  go_wp2
  go_ret
  exact ⟨Pl.ret_int HE.out, HB.out⟩
end Go.Proofs.Ytfmhfacaemfhlaa
