/-
  Stewards: services and berths that are ok: the program's.
-/
import Derived.Test.YtfmcdpgeplkcgaaPgB
import Derived.Test.YtfmcdpgeplkcgaaPgC
import Derived.Test.YtfmcdpgeplkcgaaStB
namespace Go.Proofs.Ytfmcdpgeplkcgaa
open Go.RowKit Go.Deep

def svsAll (K : SBk) : Bool := allTo (fun i => svOk (K.svcs.getD i Sv.none) K.now) K.svcs.length

set_option maxRecDepth 8000 in
set_option maxHeartbeats 40000000 in
theorem servicesI (K : SBk) (a0 a1 a2 : Option Addr) (c0 c1 c2 : Nat) (w : World) (h : SBkV w a0 a1 a2 K) :
    Calls Try.prog 30 #[.agg #[.int .i64 K.now, .slice a0 K.svcs.length c0, .slice a1 K.cps.length c1, .slice a2 K.bts.length c2]] w fun e w' => e = .returned (.bool (decide (K.svcs.length ≤ 8) && ascSv K.svcs && svsAll K)) ∧ Below w.heap.size w w' := by
  have HH := hid h
  have hl := h.s.len
  unfold maxLen at hl
  clear h
  obtain ⟨R, hR⟩ : ∃ R, R = (decide (K.svcs.length ≤ 8) && ascSv K.svcs && svsAll K) := ⟨_, rfl⟩
  have HR := hid hR
  rw [← hR]
  clear hR
  obtain ⟨wa, hwa⟩ : ∃ wa, wa = w.alloc (.cells #[.int .i64 K.now, .slice a0 K.svcs.length c0, .slice a1 K.cps.length c1, .slice a2 K.bts.length c2] 37) := ⟨_, rfl⟩
  have HB : Hid (Below w.heap.size w wa) := by show Below _ _ _; rw [hwa]; exact blw_alloc (Below.refl _ _) _
  have HX : Hid (Box4 wa w.heap.size (.int .i64 K.now) (.slice a0 K.svcs.length c0) (.slice a1 K.cps.length c1) (.slice a2 K.bts.length c2)) := by show Box4 _ _ _ _ _ _; rw [hwa]; exact Box4.new' w _ _ _ _ _ _ rfl
  go_enter Try.func30, Try.ntmps30
  go_upto_region 1 with fail
  rw [← hwa]
  clear hwa
  obtain ⟨yz, y0, y1, y2, y3⟩ := HX.out
  rcases (Decidable.em (K.svcs.length ≤ 8)).symm with g0 | g0
  · have HF : Hid (R = false) := by show R = false; rw [HR.out]; simp [g0]
    go_wp2
    go_ret
    exact ⟨Pl.ret_bool HF.out.symm, HB.out⟩
  go_wp2_with fail
  refine (ascSvI a0 c0 K.svcs wa (HH.out.later HB.out).s).mono ?_
  rintro e w1 ⟨rfl, hb1⟩
  have HB1 := hid (blw_trans HB.out hb1)
  have HX1 := hid (HX.out.later hb1)
  clear yz y0 y1 y2 y3 hb1
  obtain ⟨yz, y0, y1, y2, y3⟩ := HX1.out
  cases k0 : ascSv K.svcs
  · have HF : Hid (R = false) := by show R = false; rw [HR.out, k0]; simp
    go_wp2
    go_ret
    exact ⟨Pl.ret_bool HF.out.symm, HB1.out⟩
  have HR2 : Hid (R = svsAll K) := by show R = _; rw [HR.out, k0]; simp [g0]
  clear HR
  go_wp2
  clear yz y0 y1 y2 y3 k0
  go_loopw [18] (fun i wr => ∃ q : Nat, q ≤ K.svcs.length ∧ i = .int .i64 q ∧ allTo (fun i => svOk (K.svcs.getD i Sv.none) K.now) q = true ∧ Below w1.heap.size w1 wr) (fun i _ => K.svcs.length - (intOf i).toNat)
  case atStart => exact ⟨0, Nat.zero_le _, rfl, rfl, Below.refl _ _⟩
  case round =>
    obtain ⟨q, hq, rfl, ha, hW⟩ := hrel
    have HQ := hid ha
    have HB2 := hid (blw_trans HB1.out hW)
    have HX2 := hid (HX1.out.later hW)
    have HWW := hid hW
    clear ha hW
    by_cases hlt : q < K.svcs.length
    · obtain ⟨b, off, ha, hbl, hf⟩ := (HH.out.later HB2.out).s.at_ q hlt
      subst ha
      obtain ⟨x, hx⟩ : ∃ x, x = K.svcs.getD q Sv.none := ⟨_, rfl⟩
      rw [← hx] at hf
      have HSZ := hid hf.sized
      obtain ⟨e0, e1, e2, e3, e4, e5, e6, e7, e8, e9, e10, e11, e12, _⟩ := hf
      have hm0 : (0 : Int) ≤ (q : Int) := by omega
      have hm3 : (q : Int) < (K.svcs.length : Int) := by omega
      have HP : Hid (svOk (K.svcs.getD q Sv.none) K.now = (snmOk x.nm && inB x.ver 1 K.now && wishOk x && loadOk x)) := by show _ = _; rw [← hx]; exact svOk_eq x K.now
      clear hx
      obtain ⟨w2, hw2⟩ : ∃ w2, w2 = wr.alloc (.cells #[.string x.nm, .int .i64 x.ver, .bool x.gone, .int .i64 x.image, .int .i64 x.want, .int .i64 x.down, .int .i64 x.over, .int .i64 x.next, .int .i64 x.per, .int .i64 x.least, .int .i64 x.most, .int .i64 x.load, .int .i64 x.cool] 59) := ⟨_, rfl⟩
      have HW2 : Hid (Below wr.heap.size wr w2) := by show Below _ _ _; rw [hw2]; exact blw_alloc (Below.refl _ _) _
      have HY2 : Hid (Box13 w2 wr.heap.size (.string x.nm) (.int .i64 x.ver) (.bool x.gone) (.int .i64 x.image) (.int .i64 x.want) (.int .i64 x.down) (.int .i64 x.over) (.int .i64 x.next) (.int .i64 x.per) (.int .i64 x.least) (.int .i64 x.most) (.int .i64 x.load) (.int .i64 x.cool)) := by show Box13 _ _ _ _ _ _ _ _ _ _ _ _ _ _ _; rw [hw2]; exact Box13.new' wr _ _ _ _ _ _ _ _ _ _ _ _ _ _ _ rfl
      have HX3 := hid (HX2.out.later HW2.out)
      go_upto_region 6 with fail
      rw [← hw2]
      clear hw2 e0 e1 e2 e3 e4 e5 e6 e7 e8 e9 e10 e11 e12 hbl
      obtain ⟨yz, y0, y1, y2, y3⟩ := HX3.out
      obtain ⟨zz, z0, z1, z2, z3, z4, z5, z6, z7, z8, z9, z10, z11, z12⟩ := HY2.out
      have HNI := hid (isNameI x.nm w2 HSZ.out)
      cases k0 : snmOk x.nm
      · have HF : Hid (R = false) := by
          show R = false
          rw [HR2.out]
          exact allTo_false (k := q) (by rw [HP.out, k0]; rfl) _ hlt
        go_wp2_with (go_at_call 48; refine (HNI.out).mono ?_; rw [k0]; rintro e w' ⟨rfl, rfl⟩)
        go_ret
        exact ⟨Pl.ret_bool HF.out.symm, blw_trans HB2.out HW2.out⟩
      cases k1 : inB x.ver 1 K.now
      · have HF : Hid (R = false) := by
          show R = false
          rw [HR2.out]
          exact allTo_false (k := q) (by rw [HP.out, k0, k1]; rfl) _ hlt
        go_wp2_with (first | (go_at_call 48; refine (HNI.out).mono ?_; rw [k0]; rintro e w' ⟨rfl, rfl⟩) | (go_at_call 45; refine (withinI _ _ _ _).mono ?_; rintro e w' ⟨rfl, rfl⟩))
        go_ret
        exact ⟨Pl.ret_bool HF.out.symm, blw_trans HB2.out HW2.out⟩
      go_wp2_with fail
      refine HNI.out.mono ?_
      rw [k0]
      rintro e w' ⟨rfl, rfl⟩
      go_wp2_with fail
      refine (withinI _ _ _ _).mono ?_
      rintro e w' ⟨rfl, rfl⟩
      go_wp2_with fail
      refine (wishI x _).mono ?_
      rintro e w3 ⟨rfl, hb3⟩
      have HB3 := hid (blw_trans (blw_trans HB2.out HW2.out) hb3)
      have HW3 := hid (blw_trans HW2.out hb3)
      have HY3 := hid (HY2.out.later hb3)
      have HX4 := hid (HX3.out.later hb3)
      clear yz y0 y1 y2 y3 zz z0 z1 z2 z3 z4 z5 z6 z7 z8 z9 z10 z11 z12 hb3 HNI
      obtain ⟨yz, y0, y1, y2, y3⟩ := HX4.out
      obtain ⟨zz, z0, z1, z2, z3, z4, z5, z6, z7, z8, z9, z10, z11, z12⟩ := HY3.out
      cases k2 : wishOk x
      · have HF : Hid (R = false) := by
          show R = false
          rw [HR2.out]
          exact allTo_false (k := q) (by rw [HP.out, k0, k1, k2]; rfl) _ hlt
        go_wp2
        go_ret
        exact ⟨Pl.ret_bool HF.out.symm, HB3.out⟩
      go_wp2_with fail
      refine (loadI x _).mono ?_
      rintro e w4 ⟨rfl, hb4⟩
      have HB4 := hid (blw_trans HB3.out hb4)
      have HW4 := hid (blw_trans HW3.out hb4)
      clear yz y0 y1 y2 y3 zz z0 z1 z2 z3 z4 z5 z6 z7 z8 z9 z10 z11 z12 hb4
      cases k3 : loadOk x
      · have HF : Hid (R = false) := by
          show R = false
          rw [HR2.out]
          exact allTo_false (k := q) (by rw [HP.out, k0, k1, k2, k3]; rfl) _ hlt
        go_wp2
        go_ret
        exact ⟨Pl.ret_bool HF.out.symm, HB4.out⟩
      have HN : Hid (allTo (fun i => svOk (K.svcs.getD i Sv.none) K.now) (q + 1) = true) := allTo_step HQ.out (by rw [HP.out, k0, k1, k2, k3]; rfl)
      go_wp2
      go_roundw
      case rel => exact ⟨q + 1, by omega, by go_num, HN.out, blw_trans HWW.out HW4.out⟩
      case measure => simp [intOf]; omega
    · have HF : Hid (R = true) := by
        show R = true
        rw [HR2.out, svsAll]
        have : q = K.svcs.length := by omega
        rw [← this]; exact HQ.out
      go_wp2
      go_ret
      exact ⟨Pl.ret_bool HF.out.symm, HB2.out⟩

def btsAll (K : SBk) : Bool := allTo (fun i => snmOk (K.bts.getD i Bt.none).nm) K.bts.length

set_option maxRecDepth 8000 in
set_option maxHeartbeats 40000000 in
theorem berthsI (K : SBk) (a0 a1 a2 : Option Addr) (c0 c1 c2 : Nat) (w : World) (h : SBkV w a0 a1 a2 K) :
    Calls Try.prog 31 #[.agg #[.int .i64 K.now, .slice a0 K.svcs.length c0, .slice a1 K.cps.length c1, .slice a2 K.bts.length c2]] w fun e w' => e = .returned (.bool (decide (K.bts.length ≤ 6) && ascBt K.bts && btsAll K)) ∧ Below w.heap.size w w' := by
  have HH := hid h
  have hl := h.b.len
  unfold maxLen at hl
  clear h
  obtain ⟨R, hR⟩ : ∃ R, R = (decide (K.bts.length ≤ 6) && ascBt K.bts && btsAll K) := ⟨_, rfl⟩
  have HR := hid hR
  rw [← hR]
  clear hR
  obtain ⟨wa, hwa⟩ : ∃ wa, wa = w.alloc (.cells #[.int .i64 K.now, .slice a0 K.svcs.length c0, .slice a1 K.cps.length c1, .slice a2 K.bts.length c2] 37) := ⟨_, rfl⟩
  have HB : Hid (Below w.heap.size w wa) := by show Below _ _ _; rw [hwa]; exact blw_alloc (Below.refl _ _) _
  have HX : Hid (Box4 wa w.heap.size (.int .i64 K.now) (.slice a0 K.svcs.length c0) (.slice a1 K.cps.length c1) (.slice a2 K.bts.length c2)) := by show Box4 _ _ _ _ _ _; rw [hwa]; exact Box4.new' w _ _ _ _ _ _ rfl
  go_enter Try.func31, Try.ntmps31
  go_upto_region 1 with fail
  rw [← hwa]
  clear hwa
  obtain ⟨yz, y0, y1, y2, y3⟩ := HX.out
  rcases (Decidable.em (K.bts.length ≤ 6)).symm with g0 | g0
  · have HF : Hid (R = false) := by show R = false; rw [HR.out]; simp [g0]
    go_wp2
    go_ret
    exact ⟨Pl.ret_bool HF.out.symm, HB.out⟩
  go_wp2_with fail
  refine (ascBtI a2 c2 K.bts wa (HH.out.later HB.out).b).mono ?_
  rintro e w1 ⟨rfl, hb1⟩
  have HB1 := hid (blw_trans HB.out hb1)
  have HX1 := hid (HX.out.later hb1)
  clear yz y0 y1 y2 y3 hb1
  obtain ⟨yz, y0, y1, y2, y3⟩ := HX1.out
  cases k0 : ascBt K.bts
  · have HF : Hid (R = false) := by show R = false; rw [HR.out, k0]; simp
    go_wp2
    go_ret
    exact ⟨Pl.ret_bool HF.out.symm, HB1.out⟩
  have HR2 : Hid (R = btsAll K) := by show R = _; rw [HR.out, k0]; simp [g0]
  clear HR
  go_wp2
  clear yz y0 y1 y2 y3 k0
  go_loopw [18] (fun i wr => ∃ q : Nat, q ≤ K.bts.length ∧ i = .int .i64 q ∧ allTo (fun i => snmOk (K.bts.getD i Bt.none).nm) q = true ∧ Below w1.heap.size w1 wr) (fun i _ => K.bts.length - (intOf i).toNat)
  case atStart => exact ⟨0, Nat.zero_le _, rfl, rfl, Below.refl _ _⟩
  case round =>
    obtain ⟨q, hq, rfl, ha, hW⟩ := hrel
    have HQ := hid ha
    have HB2 := hid (blw_trans HB1.out hW)
    have HX2 := hid (HX1.out.later hW)
    have HWW := hid hW
    clear ha hW
    by_cases hlt : q < K.bts.length
    · obtain ⟨b, off, ha, hbl, hf⟩ := (HH.out.later HB2.out).b.at_ q hlt
      subst ha
      obtain ⟨x, hx⟩ : ∃ x, x = K.bts.getD q Bt.none := ⟨_, rfl⟩
      rw [← hx] at hf
      have HSZ := hid hf.sized
      obtain ⟨e0, e1, _⟩ := hf
      have hm0 : (0 : Int) ≤ (q : Int) := by omega
      have hm3 : (q : Int) < (K.bts.length : Int) := by omega
      have HP : Hid (snmOk (K.bts.getD q Bt.none).nm = snmOk x.nm) := by show _ = _; rw [← hx]
      clear hx
      obtain ⟨w2, hw2⟩ : ∃ w2, w2 = wr.alloc (.cells #[.string x.nm, .bool x.drain] 62) := ⟨_, rfl⟩
      have HW2 : Hid (Below wr.heap.size wr w2) := by show Below _ _ _; rw [hw2]; exact blw_alloc (Below.refl _ _) _
      have z0 : w2.cell? ⟨wr.heap.size, 0, none⟩ = some (.string x.nm) := by rw [hw2]; exact World.cell?_alloc_at _ _ _ _ rfl
      have zz : wr.heap.size < w2.heap.size := by rw [hw2]; simp
      go_upto_region 6 with fail
      rw [← hw2]
      clear hw2 e0 e1 hbl
      have HNI := hid (isNameI x.nm w2 HSZ.out)
      cases k0 : snmOk x.nm
      · have HF : Hid (R = false) := by
          show R = false
          rw [HR2.out]
          exact allTo_false (k := q) (by rw [HP.out, k0]) _ hlt
        go_wp2_with (go_at_call 48; refine (HNI.out).mono ?_; rw [k0]; rintro e w' ⟨rfl, rfl⟩)
        go_ret
        exact ⟨Pl.ret_bool HF.out.symm, blw_trans HB2.out HW2.out⟩
      have HN : Hid (allTo (fun i => snmOk (K.bts.getD i Bt.none).nm) (q + 1) = true) := allTo_step HQ.out (by rw [HP.out, k0])
      go_wp2_with (go_at_call 48; refine (HNI.out).mono ?_; rw [k0]; rintro e w' ⟨rfl, rfl⟩)
      go_roundw
      case rel => exact ⟨q + 1, by omega, by go_num, HN.out, blw_trans HWW.out HW2.out⟩
      case measure => simp [intOf]; omega
    · have HF : Hid (R = true) := by
        show R = true
        rw [HR2.out, btsAll]
        have : q = K.bts.length := by omega
        rw [← this]; exact HQ.out
      go_wp2
      go_ret
      exact ⟨Pl.ret_bool HF.out.symm, HB2.out⟩

end Go.Proofs.Ytfmcdpgeplkcgaa
