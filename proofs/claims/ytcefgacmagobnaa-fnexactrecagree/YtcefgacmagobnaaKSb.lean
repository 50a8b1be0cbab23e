/-
  Sizes of messages and acks.
-/
import Derived.Test.YtcefgacmagobnaaKSh
namespace Go.Proofs.Ytcefgacmagobnaa
open Go.RowKit Go.Deep

set_option maxRecDepth 8000 in
set_option maxHeartbeats 8000000 in
theorem szIntS (n : Nat) (es : List Dt) (v : Value) (left : Int) (w : World) (h0 : 0 ≤ left) (h1 : left ≤ 1048576) (h : Raw w [.row 3 [.i]] [.row n es] [v]) (hz : szd es) :
    Calls Try.prog 73 #[v, .int .i64 left] w fun e w' => e = .returned (.int .i64 (if ((n + wtL es : Nat) : Int) ≤ left then left - ((n + wtL es : Nat) : Int) else -1)) ∧ Below w.heap.size w w' := by
  obtain ⟨R, hR⟩ : ∃ R : Int, R = if ((n + wtL es : Nat) : Int) ≤ left then left - ((n + wtL es : Nat) : Int) else -1 := ⟨_, rfl⟩
  rw [← hR]
  have HRR := uh hR
  clear hR
  obtain ⟨a, c, hv⟩ := h.len0
  have HH := uh h
  have HZ := uh hz
  clear hz h
  have hn : n ≤ 9223372036854775807 := by rcases HH.out.slice with ⟨e, _⟩ | ⟨_, _, _, _, _, e, _⟩; omega; exact e.1
  subst hv
  go_enter Try.func73, Try.ntmps73
  by_cases hl : left - (n : Int) < 0
  · have HE : Hid (-1 = R) := by show _ = _; rw [HRR.out, if_neg (by omega)]
    go_wp2
    go_ret
    exact ⟨Pl.ret_int HE.out, Below.refl _ _⟩
  have hw0 : wtL es = 0 := wt_ints HH.out.typ
  have HE : Hid (left - (n : Int) = R) := by show _ = _; rw [HRR.out, hw0, Nat.add_zero, if_pos (by omega)]
  clear hw0
  go_wp2
  go_ret
  exact ⟨Pl.ret_int HE.out, Below.refl _ _⟩
set_option maxRecDepth 8000 in
set_option maxHeartbeats 8000000 in
theorem szStringS (n : Nat) (es : List Dt) (v : Value) (left : Int) (w : World) (h0 : 0 ≤ left) (h1 : left ≤ 1048576) (h : Raw w [.row 9 [.s]] [.row n es] [v]) (hz : szd es) :
    Calls Try.prog 72 #[v, .int .i64 left] w fun e w' => e = .returned (.int .i64 (if ((n + wtL es : Nat) : Int) ≤ left then left - ((n + wtL es : Nat) : Int) else -1)) ∧ Below w.heap.size w w' := by
  obtain ⟨R, hR⟩ : ∃ R : Int, R = if ((n + wtL es : Nat) : Int) ≤ left then left - ((n + wtL es : Nat) : Int) else -1 := ⟨_, rfl⟩
  rw [← hR]
  have HRR := uh hR
  clear hR
  obtain ⟨a, c, hv⟩ := h.len0
  have HH := uh h
  have HZ := uh hz
  clear hz h
  have hn : n ≤ 9223372036854775807 := by rcases HH.out.slice with ⟨e, _⟩ | ⟨_, _, _, _, _, e, _⟩; omega; exact e.1
  subst hv
  go_enter Try.func72, Try.ntmps72
  by_cases hl : left - (n : Int) < 0
  · have HE : Hid (-1 = R) := by show _ = _; rw [HRR.out, if_neg (by omega)]
    go_wp2
    go_ret
    exact ⟨Pl.ret_int HE.out, Below.refl _ _⟩
  go_wp2
  go_loopw [1, 5] (fun l i wr => ∃ (q : Nat) (m : Int), q ≤ n ∧ i = .int .i64 q ∧ l = .int .i64 m ∧ m = left - n - wtL (es.take (q * 1)) ∧ 0 ≤ m ∧ Below w.heap.size w wr) (fun _ i _ => n - (intOf i).toNat)
  case atStart => exact ⟨0, left - n, Nat.zero_le _, rfl, rfl, by simp [wtL], by omega, Below.refl _ _⟩
  case round =>
    obtain ⟨q, m, hq, rfl, rfl, hm, hm0, hB⟩ := hrel
    have HM := uh hm
    have HB := uh hB
    have hm1 : m ≤ 1048576 := by omega
    clear hm hB
    by_cases hlt : q < n
    · have hr := (HH.out.later HB.out).slice
      rcases hr with ⟨e0, _⟩ | ⟨p, o, c2, hv, hp, _, vs, hr, hR⟩
      · omega
      injection hv with e1 _ e3
      subst e1
      subst e3
      obtain ⟨ve, hE, hg⟩ := hR.el hlt hr
      have hq0 : (0 : Int) ≤ (q : Int) := by omega
      have hq3 : (q : Int) < (n : Int) := by omega
      have hwn : wtL (es.take ((q + 1) * 1)) = wtL (es.take (q * 1)) + wtL (el 1 q es) := wt_next 1 q es
      have hwl : wtL (es.take ((q + 1) * 1)) ≤ wtL es := wt_le _ _
      have hze : szd (el 1 q es) := szd_el HZ.out
      obtain ⟨d, hd⟩ : ∃ d, d = el 1 q es := ⟨_, rfl⟩
      rw [← hd] at hwn hze
      have hE1 : Raw wr [.s] d ve := by rw [hd]; exact hE
      have HW := uh (And.intro hwn hwl)
      clear hwn hwl hE hd hR
      obtain ⟨a0, rfl⟩ := typT1 hE1.typ
      obtain rfl := rawT1 hE1
      have gc : wr.cell? ⟨p, o + q, none⟩ = some (.string a0) := by have := rA_get hg 0 _ rfl; simpa using this
      have hsz : a0.size ≤ 9223372036854775807 := by simp only [szd] at hze; exact hze.1
      have HWT : Hid (wtL [Dt.s a0] = a0.size) := by show _ = _; simp [wtL]
      clear hg hE1 hze hr
      by_cases hl2 : m - (a0.size : Int) < 0
      · have HE : Hid (-1 = R) := by show _ = _; have := HW.out; have := HWT.out; have := HM.out; rw [HRR.out, if_neg (by omega)]
        go_wp2
        go_ret
        exact ⟨Pl.ret_int HE.out, HB.out⟩
      · have HE : Hid (m - (a0.size : Int) = left - n - wtL (es.take ((q + 1) * 1))) := by show _ = _; have := HW.out; have := HWT.out; have := HM.out; omega
        go_wp2
        go_roundw
        case rel => exact ⟨q + 1, _, by omega, by go_num, rfl, HE.out, by omega, HB.out⟩
        case measure => simp [intOf]; omega
    · obtain rfl : q = n := by omega
      have el_ : es.length = q * 1 := by obtain ⟨_, _, _, e, t, _⟩ := HH.out.typ.c_r; injection e with e1 e2; injection e1 with e3 e4; subst e3; subst e4; exact t.rows
      have HE : Hid (m = R) := by
        show _ = _; have h2 := HM.out; rw [← el_, List.take_length] at h2
        rw [HRR.out, if_pos (by omega)]; omega
      clear el_
      go_wp2
      go_ret
      exact ⟨Pl.ret_int HE.out, HB.out⟩
set_option maxRecDepth 8000 in
set_option maxHeartbeats 8000000 in
theorem szRecSlot (ds : List Dt) (cs : List Value) (left : Int) (w : World) (h0 : 0 ≤ left) (h1 : left ≤ 1048576) (h : Raw w shRecSlot ds cs) (hz : szd ds) :
    Calls Try.prog 93 #[.agg cs.toArray, .int .i64 left] w fun e w' => e = .returned (.int .i64 (if ((wtL ds : Nat) : Int) ≤ left then left - ((wtL ds : Nat) : Int) else -1)) ∧ Below w.heap.size w w' := by
  obtain ⟨a0, a1, rfl, hcs⟩ := segRawRecSlot h
  have HCS := uh hcs
  simp only [szd] at hz
  have Z1 := uh hz.1
  obtain ⟨R, hR⟩ : ∃ R : Int, R = if ((wtL (.i a0 :: .s a1 :: []) : Nat) : Int) ≤ left then left - ((wtL (.i a0 :: .s a1 :: []) : Nat) : Int) else -1 := ⟨_, rfl⟩
  rw [← hR]
  simp only [wtL] at hR
  have HRR := uh hR
  clear hR
  obtain ⟨wa, hwa⟩ : ∃ wa, wa = w.alloc (.cells cs.toArray 145) := ⟨_, rfl⟩
  have HB : Hid (Below w.heap.size w wa) := by show Below _ _ _; rw [hwa]; exact blw_alloc (Below.refl _ _) _
  have HX : Hid (LBox wa w.heap.size cs) := by show LBox _ _ _; rw [hwa]; exact LBox.new w cs.toArray _ _ rfl
  clear hcs hz h
  go_enter Try.func93, Try.ntmps93
  go_upto_region 1 with fail
  rw [← hwa]
  clear hwa
  have hbz := HX.out.lt
  have hbx := boxRecSlot  (by have := HX.out.at_; rw [HCS.out] at this; exact this)
  have gc := hbx.2
  clear hbx
  have hsz1 : a1.size ≤ 9223372036854775807 := Z1.out
  obtain ⟨m1, hm1⟩ : ∃ m1 : Int, m1 = left - (a1.size : Int) := ⟨_, rfl⟩
  have M1 := uh hm1
  have hmc1 : left - (a1.size : Int) = m1 := hm1.symm
  clear hm1
  by_cases hl1 : m1 < 0
  · have HE : Hid (-1 = R) := by show _ = _; have := M1.out; rw [HRR.out, if_neg (by omega)]
    go_wp2
    go_ret
    exact ⟨Pl.ret_int HE.out, HB.out⟩
  have hlo1 : 0 ≤ m1 := by omega
  have hhi1 : m1 ≤ 1048576 := by have := M1.out; omega
  have HE : Hid (m1 = R) := by show _ = _; have := M1.out; rw [HRR.out, if_pos (by omega)]; omega
  go_wp2
  go_ret
  exact ⟨Pl.ret_int HE.out, HB.out⟩
set_option maxRecDepth 8000 in
set_option maxHeartbeats 8000000 in
theorem szRecSlotS (n : Nat) (es : List Dt) (v : Value) (left : Int) (w : World) (h0 : 0 ≤ left) (h1 : left ≤ 1048576) (h : Raw w [.row 110 shRecSlot] [.row n es] [v]) (hz : szd es) :
    Calls Try.prog 74 #[v, .int .i64 left] w fun e w' => e = .returned (.int .i64 (if ((n + wtL es : Nat) : Int) ≤ left then left - ((n + wtL es : Nat) : Int) else -1)) ∧ Below w.heap.size w w' := by
  obtain ⟨R, hR⟩ : ∃ R : Int, R = if ((n + wtL es : Nat) : Int) ≤ left then left - ((n + wtL es : Nat) : Int) else -1 := ⟨_, rfl⟩
  rw [← hR]
  have HRR := uh hR
  clear hR
  obtain ⟨a, c, hv⟩ := h.len0
  have HH := uh h
  have HZ := uh hz
  clear hz h
  have hn : n ≤ 9223372036854775807 := by rcases HH.out.slice with ⟨e, _⟩ | ⟨_, _, _, _, _, e, _⟩; omega; exact e.1
  subst hv
  go_enter Try.func74, Try.ntmps74
  by_cases hl : left - (n : Int) < 0
  · have HE : Hid (-1 = R) := by show _ = _; rw [HRR.out, if_neg (by omega)]
    go_wp2
    go_ret
    exact ⟨Pl.ret_int HE.out, Below.refl _ _⟩
  go_wp2
  go_loopw [1, 5] (fun l i wr => ∃ (q : Nat) (m : Int), q ≤ n ∧ i = .int .i64 q ∧ l = .int .i64 m ∧ m = left - n - wtL (es.take (q * 2)) ∧ 0 ≤ m ∧ Below w.heap.size w wr) (fun _ i _ => n - (intOf i).toNat)
  case atStart => exact ⟨0, left - n, Nat.zero_le _, rfl, rfl, by simp [wtL], by omega, Below.refl _ _⟩
  case round =>
    obtain ⟨q, m, hq, rfl, rfl, hm, hm0, hB⟩ := hrel
    have HM := uh hm
    have HB := uh hB
    have hm1 : m ≤ 1048576 := by omega
    clear hm hB
    by_cases hlt : q < n
    · have hr := (HH.out.later HB.out).slice
      rcases hr with ⟨e0, _⟩ | ⟨p, o, c2, hv, hp, _, vs, hr, hR⟩
      · omega
      injection hv with e1 _ e3
      subst e1
      subst e3
      obtain ⟨ve, hE, hg⟩ := hR.el hlt hr
      have hq0 : (0 : Int) ≤ (q : Int) := by omega
      have hq3 : (q : Int) < (n : Int) := by omega
      have hwn : wtL (es.take ((q + 1) * 2)) = wtL (es.take (q * 2)) + wtL (el 2 q es) := wt_next 2 q es
      have hwl : wtL (es.take ((q + 1) * 2)) ≤ wtL es := wt_le _ _
      have hze : szd (el 2 q es) := szd_el HZ.out
      obtain ⟨d, hd⟩ : ∃ d, d = el 2 q es := ⟨_, rfl⟩
      rw [← hd] at hwn hze
      have hE1 : Raw wr shRecSlot d ve := by rw [hd]; exact hE
      have HW := uh (And.intro hwn hwl)
      clear hwn hwl hE hd hR
      have hg2 : wr.rangeAt p (o + q * 2) ve := hg
      have HL := uh hE1.len
      have HX := uh (szRecSlot d ve m wr hm0 hm1 hE1 hze)
      clear hg hE1 hze hr
      obtain ⟨m2, hm2⟩ : ∃ m2 : Int, m2 = if ((wtL d : Nat) : Int) ≤ m then m - ((wtL d : Nat) : Int) else -1 := ⟨_, rfl⟩
      rw [← hm2] at HX
      have HM2 := uh hm2
      clear hm2
      go_wp2_with (refine wpList_load_mid rfl 145 _ rfl p (o + q * 2) rfl ve _ hg2 Try.underlying145 rfl (by rw [HL.out]; kernel_rfl) ?_)
      refine HX.out.mono ?_
      rintro e w2 ⟨rfl, hb⟩
      replace HB := uh (blw_trans HB.out hb)
      clear hb hg2 HX
      by_cases hl2 : m2 < 0
      · have HE : Hid (-1 = R) := by
          show _ = _; have := HW.out; have := HM.out; have h2 := HM2.out
          split at h2
          · omega
          · rw [HRR.out, if_neg (by omega)]
        go_wp2
        go_ret
        exact ⟨Pl.ret_int HE.out, HB.out⟩
      · have HE : Hid (m2 = left - n - wtL (es.take ((q + 1) * 2))) := by
          show _ = _; have := HW.out; have := HM.out; have h2 := HM2.out
          split at h2
          · omega
          · omega
        go_wp2
        go_roundw
        case rel => exact ⟨q + 1, _, by omega, by go_num, rfl, HE.out, by omega, HB.out⟩
        case measure => simp [intOf]; omega
    · obtain rfl : q = n := by omega
      have el_ : es.length = q * 2 := by obtain ⟨_, _, _, e, t, _⟩ := HH.out.typ.c_r; injection e with e1 e2; injection e1 with e3 e4; subst e3; subst e4; exact t.rows
      have HE : Hid (m = R) := by
        show _ = _; have h2 := HM.out; rw [← el_, List.take_length] at h2
        rw [HRR.out, if_pos (by omega)]; omega
      clear el_
      go_wp2
      go_ret
      exact ⟨Pl.ret_int HE.out, HB.out⟩
end Go.Proofs.Ytcefgacmagobnaa

namespace Go.Proofs.Ytcefgacmagobnaa
open Go.RowKit Go.Deep

set_option maxRecDepth 8000 in
set_option maxHeartbeats 8000000 in
theorem szRecMessage (ds : List Dt) (cs : List Value) (left : Int) (w : World) (h0 : 0 ≤ left) (h1 : left ≤ 1048576) (h : Raw w shRecMessage ds cs) (hz : szd ds) :
    Calls Try.prog 41 #[.agg cs.toArray, .int .i64 left] w fun e w' => e = .returned (.int .i64 (if ((wtL ds : Nat) : Int) ≤ left then left - ((wtL ds : Nat) : Int) else -1)) ∧ Below w.heap.size w w' := by
  obtain ⟨a0, a1, a2, a3, a4, a5, a6, n7, e7, v7, rfl, hcs, r7⟩ := segRawRecMessage h
  have R7 := uh r7
  have HCS := uh hcs
  simp only [szd] at hz
  have Z6 := uh hz.1
  have Z7 := uh hz.2.1
  obtain ⟨R, hR⟩ : ∃ R : Int, R = if ((wtL (.i a0 :: .i a1 :: .i a2 :: .i a3 :: .i a4 :: .i a5 :: .s a6 :: .row n7 e7 :: []) : Nat) : Int) ≤ left then left - ((wtL (.i a0 :: .i a1 :: .i a2 :: .i a3 :: .i a4 :: .i a5 :: .s a6 :: .row n7 e7 :: []) : Nat) : Int) else -1 := ⟨_, rfl⟩
  rw [← hR]
  simp only [wtL] at hR
  have HRR := uh hR
  clear hR
  obtain ⟨wa, hwa⟩ : ∃ wa, wa = w.alloc (.cells cs.toArray 86) := ⟨_, rfl⟩
  have HB : Hid (Below w.heap.size w wa) := by show Below _ _ _; rw [hwa]; exact blw_alloc (Below.refl _ _) _
  have HX : Hid (LBox wa w.heap.size cs) := by show LBox _ _ _; rw [hwa]; exact LBox.new w cs.toArray _ _ rfl
  clear hcs hz h r7
  go_enter Try.func41, Try.ntmps41
  go_upto_region 1 with fail
  rw [← hwa]
  clear hwa
  have hbz := HX.out.lt
  have hbx := boxRecMessage  (by have := HX.out.at_; rw [HCS.out] at this; exact this)
  have gc := hbx.2.2.2.2.2.2.1
  clear hbx
  have hsz6 : a6.size ≤ 9223372036854775807 := Z6.out
  obtain ⟨m6, hm6⟩ : ∃ m6 : Int, m6 = left - (a6.size : Int) := ⟨_, rfl⟩
  have M6 := uh hm6
  have hmc6 : left - (a6.size : Int) = m6 := hm6.symm
  clear hm6
  by_cases hl6 : m6 < 0
  · have HE : Hid (-1 = R) := by show _ = _; have := M6.out; rw [HRR.out, if_neg (by omega)]
    go_wp2
    go_ret
    exact ⟨Pl.ret_int HE.out, HB.out⟩
  have hlo6 : 0 ≤ m6 := by omega
  have hhi6 : m6 ≤ 1048576 := by have := M6.out; omega
  have hbz := HX.out.lt
  have hbx := boxRecMessage  (by have := HX.out.at_; rw [HCS.out] at this; exact this)
  have gc := hbx.2.2.2.2.2.2.2
  clear hbx
  obtain ⟨m7, hm7⟩ : ∃ m7 : Int, m7 = if ((n7 + wtL e7 : Nat) : Int) ≤ m6 then m6 - ((n7 + wtL e7 : Nat) : Int) else -1 := ⟨_, rfl⟩
  obtain ⟨va7, vc7, hva⟩ := R7.out.len0
  subst hva
  have HC := uh (szRecSlotS n7 e7 (.slice va7 n7 vc7) m6 wa (by omega) (by omega) (R7.out.later HB.out) Z7.out)
  rw [← hm7] at HC
  have M7 := uh hm7
  clear hm7
  go_wp2_with fail
  refine HC.out.mono ?_
  rintro e x7 ⟨rfl, hb⟩
  replace HB := uh (blw_trans HB.out hb)
  replace HX := uh (HX.out.later hb)
  clear hb gc hbz HC
  by_cases hl7 : m7 < 0
  · have HE : Hid (-1 = R) := by
      show _ = _; have := M6.out; have h2 := M7.out
      split at h2
      · omega
      · rw [HRR.out, if_neg (by omega)]
    go_wp2
    go_ret
    exact ⟨Pl.ret_int HE.out, HB.out⟩
  have MM7 : Hid (m7 = m6 - ((n7 + wtL e7 : Nat) : Int)) := by
    show _ = _; have h2 := M7.out
    split at h2
    · exact h2
    · omega
  have hhi7 : m7 ≤ 1048576 := by have := MM7.out; omega
  have HE : Hid (m7 = R) := by show _ = _; have := M6.out; have := MM7.out; rw [HRR.out, if_pos (by omega)]; omega
  go_wp2
  go_ret
  exact ⟨Pl.ret_int HE.out, HB.out⟩
set_option maxRecDepth 8000 in
set_option maxHeartbeats 8000000 in
theorem szRecMessageS (n : Nat) (es : List Dt) (v : Value) (left : Int) (w : World) (h0 : 0 ≤ left) (h1 : left ≤ 1048576) (h : Raw w [.row 55 shRecMessage] [.row n es] [v]) (hz : szd es) :
    Calls Try.prog 16 #[v, .int .i64 left] w fun e w' => e = .returned (.int .i64 (if ((n + wtL es : Nat) : Int) ≤ left then left - ((n + wtL es : Nat) : Int) else -1)) ∧ Below w.heap.size w w' := by
  obtain ⟨R, hR⟩ : ∃ R : Int, R = if ((n + wtL es : Nat) : Int) ≤ left then left - ((n + wtL es : Nat) : Int) else -1 := ⟨_, rfl⟩
  rw [← hR]
  have HRR := uh hR
  clear hR
  obtain ⟨a, c, hv⟩ := h.len0
  have HH := uh h
  have HZ := uh hz
  clear hz h
  have hn : n ≤ 9223372036854775807 := by rcases HH.out.slice with ⟨e, _⟩ | ⟨_, _, _, _, _, e, _⟩; omega; exact e.1
  subst hv
  go_enter Try.func16, Try.ntmps16
  by_cases hl : left - (n : Int) < 0
  · have HE : Hid (-1 = R) := by show _ = _; rw [HRR.out, if_neg (by omega)]
    go_wp2
    go_ret
    exact ⟨Pl.ret_int HE.out, Below.refl _ _⟩
  go_wp2
  go_loopw [1, 5] (fun l i wr => ∃ (q : Nat) (m : Int), q ≤ n ∧ i = .int .i64 q ∧ l = .int .i64 m ∧ m = left - n - wtL (es.take (q * 8)) ∧ 0 ≤ m ∧ Below w.heap.size w wr) (fun _ i _ => n - (intOf i).toNat)
  case atStart => exact ⟨0, left - n, Nat.zero_le _, rfl, rfl, by simp [wtL], by omega, Below.refl _ _⟩
  case round =>
    obtain ⟨q, m, hq, rfl, rfl, hm, hm0, hB⟩ := hrel
    have HM := uh hm
    have HB := uh hB
    have hm1 : m ≤ 1048576 := by omega
    clear hm hB
    by_cases hlt : q < n
    · have hr := (HH.out.later HB.out).slice
      rcases hr with ⟨e0, _⟩ | ⟨p, o, c2, hv, hp, _, vs, hr, hR⟩
      · omega
      injection hv with e1 _ e3
      subst e1
      subst e3
      obtain ⟨ve, hE, hg⟩ := hR.el hlt hr
      have hq0 : (0 : Int) ≤ (q : Int) := by omega
      have hq3 : (q : Int) < (n : Int) := by omega
      have hwn : wtL (es.take ((q + 1) * 8)) = wtL (es.take (q * 8)) + wtL (el 8 q es) := wt_next 8 q es
      have hwl : wtL (es.take ((q + 1) * 8)) ≤ wtL es := wt_le _ _
      have hze : szd (el 8 q es) := szd_el HZ.out
      obtain ⟨d, hd⟩ : ∃ d, d = el 8 q es := ⟨_, rfl⟩
      rw [← hd] at hwn hze
      have hE1 : Raw wr shRecMessage d ve := by rw [hd]; exact hE
      have HW := uh (And.intro hwn hwl)
      clear hwn hwl hE hd hR
      have hg2 : wr.rangeAt p (o + q * 8) ve := hg
      have HL := uh hE1.len
      have HX := uh (szRecMessage d ve m wr hm0 hm1 hE1 hze)
      clear hg hE1 hze hr
      obtain ⟨m2, hm2⟩ : ∃ m2 : Int, m2 = if ((wtL d : Nat) : Int) ≤ m then m - ((wtL d : Nat) : Int) else -1 := ⟨_, rfl⟩
      rw [← hm2] at HX
      have HM2 := uh hm2
      clear hm2
      go_wp2_with (refine wpList_load_mid rfl 86 _ rfl p (o + q * 8) rfl ve _ hg2 Try.underlying86 rfl (by rw [HL.out]; kernel_rfl) ?_)
      refine HX.out.mono ?_
      rintro e w2 ⟨rfl, hb⟩
      replace HB := uh (blw_trans HB.out hb)
      clear hb hg2 HX
      by_cases hl2 : m2 < 0
      · have HE : Hid (-1 = R) := by
          show _ = _; have := HW.out; have := HM.out; have h2 := HM2.out
          split at h2
          · omega
          · rw [HRR.out, if_neg (by omega)]
        go_wp2
        go_ret
        exact ⟨Pl.ret_int HE.out, HB.out⟩
      · have HE : Hid (m2 = left - n - wtL (es.take ((q + 1) * 8))) := by
          show _ = _; have := HW.out; have := HM.out; have h2 := HM2.out
          split at h2
          · omega
          · omega
        go_wp2
        go_roundw
        case rel => exact ⟨q + 1, _, by omega, by go_num, rfl, HE.out, by omega, HB.out⟩
        case measure => simp [intOf]; omega
    · obtain rfl : q = n := by omega
      have el_ : es.length = q * 8 := by obtain ⟨_, _, _, e, t, _⟩ := HH.out.typ.c_r; injection e with e1 e2; injection e1 with e3 e4; subst e3; subst e4; exact t.rows
      have HE : Hid (m = R) := by
        show _ = _; have h2 := HM.out; rw [← el_, List.take_length] at h2
        rw [HRR.out, if_pos (by omega)]; omega
      clear el_
      go_wp2
      go_ret
      exact ⟨Pl.ret_int HE.out, HB.out⟩
set_option maxRecDepth 8000 in
set_option maxHeartbeats 8000000 in
theorem szRecAck (ds : List Dt) (cs : List Value) (left : Int) (w : World) (h0 : 0 ≤ left) (h1 : left ≤ 1048576) (h : Raw w shRecAck ds cs) (hz : szd ds) :
    Calls Try.prog 94 #[.agg cs.toArray, .int .i64 left] w fun e w' => e = .returned (.int .i64 (if ((wtL ds : Nat) : Int) ≤ left then left - ((wtL ds : Nat) : Int) else -1)) ∧ Below w.heap.size w w' := by
  obtain ⟨a0, n1, e1, v1, rfl, hcs, r1⟩ := segRawRecAck h
  have R1 := uh r1
  have HCS := uh hcs
  simp only [szd] at hz
  have Z1 := uh hz.1
  obtain ⟨R, hR⟩ : ∃ R : Int, R = if ((wtL (.i a0 :: .row n1 e1 :: []) : Nat) : Int) ≤ left then left - ((wtL (.i a0 :: .row n1 e1 :: []) : Nat) : Int) else -1 := ⟨_, rfl⟩
  rw [← hR]
  simp only [wtL] at hR
  have HRR := uh hR
  clear hR
  obtain ⟨wa, hwa⟩ : ∃ wa, wa = w.alloc (.cells cs.toArray 147) := ⟨_, rfl⟩
  have HB : Hid (Below w.heap.size w wa) := by show Below _ _ _; rw [hwa]; exact blw_alloc (Below.refl _ _) _
  have HX : Hid (LBox wa w.heap.size cs) := by show LBox _ _ _; rw [hwa]; exact LBox.new w cs.toArray _ _ rfl
  clear hcs hz h r1
  go_enter Try.func94, Try.ntmps94
  go_upto_region 1 with fail
  rw [← hwa]
  clear hwa
  have hbz := HX.out.lt
  have hbx := boxRecAck  (by have := HX.out.at_; rw [HCS.out] at this; exact this)
  have gc := hbx.2
  clear hbx
  obtain ⟨m1, hm1⟩ : ∃ m1 : Int, m1 = if ((n1 + wtL e1 : Nat) : Int) ≤ left then left - ((n1 + wtL e1 : Nat) : Int) else -1 := ⟨_, rfl⟩
  obtain ⟨va1, vc1, hva⟩ := R1.out.len0
  subst hva
  have HC := uh (szIntS n1 e1 (.slice va1 n1 vc1) left wa (by omega) (by omega) (R1.out.later HB.out) Z1.out)
  rw [← hm1] at HC
  have M1 := uh hm1
  clear hm1
  go_wp2_with fail
  refine HC.out.mono ?_
  rintro e x1 ⟨rfl, hb⟩
  replace HB := uh (blw_trans HB.out hb)
  replace HX := uh (HX.out.later hb)
  clear hb gc hbz HC
  by_cases hl1 : m1 < 0
  · have HE : Hid (-1 = R) := by
      show _ = _; have h2 := M1.out
      split at h2
      · omega
      · rw [HRR.out, if_neg (by omega)]
    go_wp2
    go_ret
    exact ⟨Pl.ret_int HE.out, HB.out⟩
  have MM1 : Hid (m1 = left - ((n1 + wtL e1 : Nat) : Int)) := by
    show _ = _; have h2 := M1.out
    split at h2
    · exact h2
    · omega
  have hhi1 : m1 ≤ 1048576 := by have := MM1.out; omega
  have HE : Hid (m1 = R) := by show _ = _; have := MM1.out; rw [HRR.out, if_pos (by omega)]; omega
  go_wp2
  go_ret
  exact ⟨Pl.ret_int HE.out, HB.out⟩
set_option maxRecDepth 8000 in
set_option maxHeartbeats 8000000 in
theorem szRecAckS (n : Nat) (es : List Dt) (v : Value) (left : Int) (w : World) (h0 : 0 ≤ left) (h1 : left ≤ 1048576) (h : Raw w [.row 122 shRecAck] [.row n es] [v]) (hz : szd es) :
    Calls Try.prog 75 #[v, .int .i64 left] w fun e w' => e = .returned (.int .i64 (if ((n + wtL es : Nat) : Int) ≤ left then left - ((n + wtL es : Nat) : Int) else -1)) ∧ Below w.heap.size w w' := by
  obtain ⟨R, hR⟩ : ∃ R : Int, R = if ((n + wtL es : Nat) : Int) ≤ left then left - ((n + wtL es : Nat) : Int) else -1 := ⟨_, rfl⟩
  rw [← hR]
  have HRR := uh hR
  clear hR
  obtain ⟨a, c, hv⟩ := h.len0
  have HH := uh h
  have HZ := uh hz
  clear hz h
  have hn : n ≤ 9223372036854775807 := by rcases HH.out.slice with ⟨e, _⟩ | ⟨_, _, _, _, _, e, _⟩; omega; exact e.1
  subst hv
  go_enter Try.func75, Try.ntmps75
  by_cases hl : left - (n : Int) < 0
  · have HE : Hid (-1 = R) := by show _ = _; rw [HRR.out, if_neg (by omega)]
    go_wp2
    go_ret
    exact ⟨Pl.ret_int HE.out, Below.refl _ _⟩
  go_wp2
  go_loopw [1, 5] (fun l i wr => ∃ (q : Nat) (m : Int), q ≤ n ∧ i = .int .i64 q ∧ l = .int .i64 m ∧ m = left - n - wtL (es.take (q * 2)) ∧ 0 ≤ m ∧ Below w.heap.size w wr) (fun _ i _ => n - (intOf i).toNat)
  case atStart => exact ⟨0, left - n, Nat.zero_le _, rfl, rfl, by simp [wtL], by omega, Below.refl _ _⟩
  case round =>
    obtain ⟨q, m, hq, rfl, rfl, hm, hm0, hB⟩ := hrel
    have HM := uh hm
    have HB := uh hB
    have hm1 : m ≤ 1048576 := by omega
    clear hm hB
    by_cases hlt : q < n
    · have hr := (HH.out.later HB.out).slice
      rcases hr with ⟨e0, _⟩ | ⟨p, o, c2, hv, hp, _, vs, hr, hR⟩
      · omega
      injection hv with e1 _ e3
      subst e1
      subst e3
      obtain ⟨ve, hE, hg⟩ := hR.el hlt hr
      have hq0 : (0 : Int) ≤ (q : Int) := by omega
      have hq3 : (q : Int) < (n : Int) := by omega
      have hwn : wtL (es.take ((q + 1) * 2)) = wtL (es.take (q * 2)) + wtL (el 2 q es) := wt_next 2 q es
      have hwl : wtL (es.take ((q + 1) * 2)) ≤ wtL es := wt_le _ _
      have hze : szd (el 2 q es) := szd_el HZ.out
      obtain ⟨d, hd⟩ : ∃ d, d = el 2 q es := ⟨_, rfl⟩
      rw [← hd] at hwn hze
      have hE1 : Raw wr shRecAck d ve := by rw [hd]; exact hE
      have HW := uh (And.intro hwn hwl)
      clear hwn hwl hE hd hR
      have hg2 : wr.rangeAt p (o + q * 2) ve := hg
      have HL := uh hE1.len
      have HX := uh (szRecAck d ve m wr hm0 hm1 hE1 hze)
      clear hg hE1 hze hr
      obtain ⟨m2, hm2⟩ : ∃ m2 : Int, m2 = if ((wtL d : Nat) : Int) ≤ m then m - ((wtL d : Nat) : Int) else -1 := ⟨_, rfl⟩
      rw [← hm2] at HX
      have HM2 := uh hm2
      clear hm2
      go_wp2_with (refine wpList_load_mid rfl 147 _ rfl p (o + q * 2) rfl ve _ hg2 Try.underlying147 rfl (by rw [HL.out]; kernel_rfl) ?_)
      refine HX.out.mono ?_
      rintro e w2 ⟨rfl, hb⟩
      replace HB := uh (blw_trans HB.out hb)
      clear hb hg2 HX
      by_cases hl2 : m2 < 0
      · have HE : Hid (-1 = R) := by
          show _ = _; have := HW.out; have := HM.out; have h2 := HM2.out
          split at h2
          · omega
          · rw [HRR.out, if_neg (by omega)]
        go_wp2
        go_ret
        exact ⟨Pl.ret_int HE.out, HB.out⟩
      · have HE : Hid (m2 = left - n - wtL (es.take ((q + 1) * 2))) := by
          show _ = _; have := HW.out; have := HM.out; have h2 := HM2.out
          split at h2
          · omega
          · omega
        go_wp2
        go_roundw
        case rel => exact ⟨q + 1, _, by omega, by go_num, rfl, HE.out, by omega, HB.out⟩
        case measure => simp [intOf]; omega
    · obtain rfl : q = n := by omega
      have el_ : es.length = q * 2 := by obtain ⟨_, _, _, e, t, _⟩ := HH.out.typ.c_r; injection e with e1 e2; injection e1 with e3 e4; subst e3; subst e4; exact t.rows
      have HE : Hid (m = R) := by
        show _ = _; have h2 := HM.out; rw [← el_, List.take_length] at h2
        rw [HRR.out, if_pos (by omega)]; omega
      clear el_
      go_wp2
      go_ret
      exact ⟨Pl.ret_int HE.out, HB.out⟩
end Go.Proofs.Ytcefgacmagobnaa
