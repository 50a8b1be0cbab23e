/-
  Stewards: a book that is ok, by the specification.
-/
import Derived.Test.YtclagbakddkjcaaGreatStC
namespace Go.Proofs.YtclagbakddkjcaaGreat
open Go.RowKit Go.Deep

theorem svsOk_next {K : SBk} (h : svsOk K = true) : ∀ i, i < K.svcs.length → 1 ≤ (K.svcs.getD i Sv.none).next ∧ (K.svcs.getD i Sv.none).next ≤ 1000000 := by
  intro i hi
  have q := (allTo_iff _ _).1 h i hi
  simp only [svOk, inB, Bool.and_eq_true, decide_eq_true_eq] at q
  omega

set_option maxHeartbeats 40000000 in
theorem stewValidS (K : SBk) (a0 a1 a2 : Option Addr) (c0 c1 c2 : Nat) (w : World) (h : SBkV w a0 a1 a2 K) :
    Calls Tryz.prog 17 #[.agg #[.int .i64 K.now, .slice a0 K.svcs.length c0, .slice a1 K.cps.length c1, .slice a2 K.bts.length c2]] w fun e w' => e = .returned (.bool (sbOk K)) ∧ Below w.heap.size w w' := by
  have HH : Hid (SBkV w a0 a1 a2 K) := h
  clear h
  obtain ⟨R, hR⟩ : ∃ R, R = sbOk K := ⟨_, rfl⟩
  have HR : Hid (R = (inB K.now 0 1000000 && decide (K.svcs.length ≤ 8) && decide (K.cps.length ≤ 200) && decide (K.bts.length ≤ 6) && svsOk K && btsOk K && cpsOk K)) := hR
  rw [← hR]
  clear hR
  obtain ⟨wa, hwa⟩ : ∃ wa, wa = w.alloc (.cells #[.int .i64 K.now, .slice a0 K.svcs.length c0, .slice a1 K.cps.length c1, .slice a2 K.bts.length c2] 37) := ⟨_, rfl⟩
  have HB : Hid (Below w.heap.size w wa) := by show Below _ _ _; rw [hwa]; exact blw_alloc (Below.refl _ _) _
  have HX : Hid (Box4 wa w.heap.size (.int .i64 K.now) (.slice a0 K.svcs.length c0) (.slice a1 K.cps.length c1) (.slice a2 K.bts.length c2)) := by show Box4 _ _ _ _ _ _; rw [hwa]; exact Box4.new' w _ _ _ _ _ _ rfl
  have hs1 := HH.out.s.len
  have hc1 := HH.out.c.len
  have hb1 := HH.out.b.len
  unfold maxLen at hs1 hc1 hb1
  go_enter Tryz.func17, Tryz.ntmps17
  go_upto_region 1 with fail
  rw [← hwa]
  clear hwa
  obtain ⟨yz, y0, y1, y2, y3⟩ := HX.out
  cases h0 : inB K.now 0 1000000
  · have HF : Hid (R = false) := by show R = false; rw [HR.out]; simp [h0]
    go_wp2_with (go_at_call 18; refine (l12InS _ _ _ _).mono ?_; rintro e w' ⟨rfl, rfl⟩)
    go_ret
    exact ⟨Pl.ret_bool HF.out.symm, HB.out⟩
  rcases (Decidable.em (K.svcs.length ≤ 8)).symm with g0 | g0
  · have HF : Hid (R = false) := by show R = false; rw [HR.out]; simp [h0, g0]
    go_wp2_with (go_at_call 18; refine (l12InS _ _ _ _).mono ?_; rintro e w' ⟨rfl, rfl⟩)
    go_ret
    exact ⟨Pl.ret_bool HF.out.symm, HB.out⟩
  rcases (Decidable.em (K.cps.length ≤ 200)).symm with g1 | g1
  · have HF : Hid (R = false) := by show R = false; rw [HR.out]; simp [h0, g0, g1]
    go_wp2_with (go_at_call 18; refine (l12InS _ _ _ _).mono ?_; rintro e w' ⟨rfl, rfl⟩)
    go_ret
    exact ⟨Pl.ret_bool HF.out.symm, HB.out⟩
  rcases (Decidable.em (K.bts.length ≤ 6)).symm with g2 | g2
  · have HF : Hid (R = false) := by show R = false; rw [HR.out]; simp [h0, g0, g1, g2]
    go_wp2_with (go_at_call 18; refine (l12InS _ _ _ _).mono ?_; rintro e w' ⟨rfl, rfl⟩)
    go_ret
    exact ⟨Pl.ret_bool HF.out.symm, HB.out⟩
  have HS : Hid (R = (svsOk K && btsOk K && cpsOk K)) := by show R = _; rw [HR.out]; simp [h0, g0, g1, g2]
  clear HR
  go_wp2_with (go_at_call 18; refine (l12InS _ _ _ _).mono ?_; rintro e w' ⟨rfl, rfl⟩)
  clear h0 yz y0 y1 y2 y3 hs1 hc1 hb1
  go_loopw [3] (fun i wr => ∃ q : Nat, q ≤ K.svcs.length ∧ i = .int .i64 q ∧ allTo (fun i => (svOk (K.svcs.getD i Sv.none) K.now && (decide (i = 0) || Pl.less (K.svcs.getD (i - 1) Sv.none).nm (K.svcs.getD i Sv.none).nm))) q = true ∧ Below wa.heap.size wa wr) (fun i _ => K.svcs.length - (intOf i).toNat)
  case atStart => exact ⟨0, Nat.zero_le _, rfl, rfl, Below.refl _ _⟩
  case round =>
    obtain ⟨q, hq, rfl, ha, hW⟩ := hrel
    have HQ := hid ha
    have HW := hid hW
    have HB2 := hid (blw_trans HB.out hW)
    have HX2 := hid (HX.out.later hW)
    clear ha hW
    obtain ⟨yz, y0, y1, y2, y3⟩ := HX2.out
    by_cases hlt : q < K.svcs.length
    · have HL := hid ((HH.out.later HB2.out).s)
      obtain ⟨b, off, ha, hbl, hf⟩ := HL.out.at_ q hlt
      subst ha
      obtain ⟨x, hx⟩ : ∃ x, x = K.svcs.getD q Sv.none := ⟨_, rfl⟩
      rw [← hx] at hf
      have HSZ := hid hf.sized
      obtain ⟨e0, e1, e2, e3, e4, e5, e6, e7, e8, e9, e10, e11, e12, _⟩ := hf
      have hNE := pst_some wr
      have hyz : ∀ px : Pst wr, w.heap.size < px.W.heap.size := fun px => px.size yz
      have hbz : ∀ px : Pst wr, b < px.W.heap.size := fun px => px.size hbl
      have Y0 : ∀ px : Pst wr, px.W.cell? ⟨w.heap.size, 0, none⟩ = some (.int .i64 K.now) := fun px => px.cell y0 yz
      have Y1 : ∀ px : Pst wr, px.W.cell? ⟨w.heap.size, 1, none⟩ = some (.slice (some ⟨b, off, none⟩) K.svcs.length c0) := fun px => px.cell y1 yz
      have Y2 : ∀ px : Pst wr, px.W.cell? ⟨w.heap.size, 2, none⟩ = some (.slice a1 K.cps.length c1) := fun px => px.cell y2 yz
      have Y3 : ∀ px : Pst wr, px.W.cell? ⟨w.heap.size, 3, none⟩ = some (.slice a2 K.bts.length c2) := fun px => px.cell y3 yz
      have E0 : ∀ px : Pst wr, px.W.cell? ⟨b, off + q * 13, none⟩ = some (.string x.nm) := fun px => px.cell e0 hbl
      have E1 : ∀ px : Pst wr, px.W.cell? ⟨b, off + q * 13 + 1, none⟩ = some (.int .i64 x.ver) := fun px => px.cell e1 hbl
      have E2 : ∀ px : Pst wr, px.W.cell? ⟨b, off + q * 13 + 2, none⟩ = some (.bool x.gone) := fun px => px.cell e2 hbl
      have E3 : ∀ px : Pst wr, px.W.cell? ⟨b, off + q * 13 + 3, none⟩ = some (.int .i64 x.image) := fun px => px.cell e3 hbl
      have E4 : ∀ px : Pst wr, px.W.cell? ⟨b, off + q * 13 + 4, none⟩ = some (.int .i64 x.want) := fun px => px.cell e4 hbl
      have E5 : ∀ px : Pst wr, px.W.cell? ⟨b, off + q * 13 + 5, none⟩ = some (.int .i64 x.down) := fun px => px.cell e5 hbl
      have E6 : ∀ px : Pst wr, px.W.cell? ⟨b, off + q * 13 + 6, none⟩ = some (.int .i64 x.over) := fun px => px.cell e6 hbl
      have E7 : ∀ px : Pst wr, px.W.cell? ⟨b, off + q * 13 + 7, none⟩ = some (.int .i64 x.next) := fun px => px.cell e7 hbl
      have E8 : ∀ px : Pst wr, px.W.cell? ⟨b, off + q * 13 + 8, none⟩ = some (.int .i64 x.per) := fun px => px.cell e8 hbl
      have E9 : ∀ px : Pst wr, px.W.cell? ⟨b, off + q * 13 + 9, none⟩ = some (.int .i64 x.least) := fun px => px.cell e9 hbl
      have E10 : ∀ px : Pst wr, px.W.cell? ⟨b, off + q * 13 + 10, none⟩ = some (.int .i64 x.most) := fun px => px.cell e10 hbl
      have E11 : ∀ px : Pst wr, px.W.cell? ⟨b, off + q * 13 + 11, none⟩ = some (.int .i64 x.load) := fun px => px.cell e11 hbl
      have E12 : ∀ px : Pst wr, px.W.cell? ⟨b, off + q * 13 + 12, none⟩ = some (.int .i64 x.cool) := fun px => px.cell e12 hbl
      have hm0 : (0 : Int) ≤ (q : Int) := by omega
      have hm3 : (q : Int) < (K.svcs.length : Int) := by omega
      clear e0 e1 e2 e3 e4 e5 e6 e7 e8 e9 e10 e11 e12
      cases k0 : svOk x K.now
      · have HF : Hid (R = false) := by
          show R = false
          rw [HS.out]
          have : svsOk K = false := allTo_false (k := q) (by show (svOk (K.svcs.getD q Sv.none) K.now && (decide (q = 0) || Pl.less (K.svcs.getD (q - 1) Sv.none).nm (K.svcs.getD q Sv.none).nm)) = false; rw [← hx, k0]; rfl) _ hlt
          rw [this]; simp
        clear hx hbl
        go_wp2_with fail
        clear yz y0 y1 y2 y3
        refine region_class wr (Below.refl _ _) (by kernel_rfl) (by kernel_rfl) ?_
        repeat (first
          | go_big_quiet_skip
          | (go_big_quiet_want; go_big_quiet_op; first | go_big_quiet_on | (apply Exists.intro; refine ⟨fun px => ?_, ?_⟩; (focus ((go_at_call 40; refine (l12ServiceS x K.now _ HSZ.out).mono ?_; rintro e w' ⟨he, hb⟩; exact ⟨he, ⟨w', blw_trans px.ok hb⟩, rfl⟩))); go_big_quiet_on)))
        refine wpQuiet_nil ?_
        intro _ hw'
        obtain ⟨x6, hw''⟩ := hw'
        subst hw''
        go_wp2
        go_ret
        exact ⟨Pl.ret_bool HF.out.symm, blw_trans HB2.out x6.ok⟩
      by_cases hz : q = 0
      · subst hz
        simp only [Nat.zero_mul, Nat.add_zero] at E0 E1 E2 E3 E4 E5 E6 E7 E8 E9 E10 E11 E12
        have HN : Hid (allTo (fun i => (svOk (K.svcs.getD i Sv.none) K.now && (decide (i = 0) || Pl.less (K.svcs.getD (i - 1) Sv.none).nm (K.svcs.getD i Sv.none).nm))) (0 + 1) = true) := by show (allTo _ 0 && (svOk (K.svcs.getD 0 Sv.none) K.now && (decide (0 = 0) || Pl.less (K.svcs.getD (0 - 1) Sv.none).nm (K.svcs.getD 0 Sv.none).nm))) = true; rw [← hx, k0]; rfl
        clear hx hbl
        go_wp2_with fail
        clear yz y0 y1 y2 y3
        refine region_class wr (Below.refl _ _) (by kernel_rfl) (by kernel_rfl) ?_
        repeat (first
          | go_big_quiet_skip
          | (go_big_quiet_want; go_big_quiet_op; first | go_big_quiet_on | (apply Exists.intro; refine ⟨fun px => ?_, ?_⟩; (focus ((go_at_call 40; refine (l12ServiceS x K.now _ HSZ.out).mono ?_; rintro e w' ⟨he, hb⟩; exact ⟨he, ⟨w', blw_trans px.ok hb⟩, rfl⟩))); go_big_quiet_on)))
        refine wpQuiet_nil ?_
        intro _ hw'
        obtain ⟨x6, hw''⟩ := hw'
        subst hw''
        go_wp2
        go_roundw
        case rel => exact ⟨0 + 1, by omega, by go_num, HN.out, blw_trans HW.out x6.ok⟩
        case measure => simp [intOf]; omega
      · obtain ⟨m, rfl⟩ : ∃ m, q = m + 1 := ⟨q - 1, by omega⟩
        obtain ⟨b2, off2, ha2, hbl2, hf2⟩ := HL.out.at_ m (by omega)
        injection ha2 with ha2
        injection ha2 with hb2 ho2 _
        subst hb2 ho2
        obtain ⟨x2, hx2⟩ : ∃ x2, x2 = K.svcs.getD m Sv.none := ⟨_, rfl⟩
        rw [← hx2] at hf2
        obtain ⟨d0, d1, d2, d3, d4, d5, d6, d7, d8, d9, d10, d11, d12, _⟩ := hf2
        have D0 : ∀ px : Pst wr, px.W.cell? ⟨b, off + m * 13, none⟩ = some (.string x2.nm) := fun px => px.cell d0 hbl
        clear d0 d1 d2 d3 d4 d5 d6 d7 d8 d9 d10 d11 d12
        have HM : Hid ((svOk (K.svcs.getD (m + 1) Sv.none) K.now && (decide ((m + 1) = 0) || Pl.less (K.svcs.getD ((m + 1) - 1) Sv.none).nm (K.svcs.getD (m + 1) Sv.none).nm)) = Op.bytesLess x2.nm.toList x.nm.toList) := by show (svOk (K.svcs.getD (m + 1) Sv.none) K.now && (decide ((m + 1) = 0) || Pl.less (K.svcs.getD ((m + 1) - 1) Sv.none).nm (K.svcs.getD (m + 1) Sv.none).nm)) = _; rw [Nat.add_sub_cancel, ← hx, ← hx2, k0]; simp [Pl.less]
        have hm6 : (0 : Int) ≤ (m : Int) := by omega
        have hm7 : (m : Int) < (K.svcs.length : Int) := by omega
        have hm8 : ((m : Int) + 1 - 1) = (m : Int) := by omega
        cases k1 : Op.bytesLess x2.nm.toList x.nm.toList
        · have HF : Hid (R = false) := by
            show R = false
            rw [HS.out]
            have : svsOk K = false := allTo_false (k := m + 1) (HM.out.trans k1) _ hlt
            rw [this]; simp
          clear hx hx2 hbl
          go_wp2_with fail
          clear yz y0 y1 y2 y3
          refine region_class wr (Below.refl _ _) (by kernel_rfl) (by kernel_rfl) ?_
          repeat (first
            | go_big_quiet_skip
            | (go_big_quiet_want; go_big_quiet_op; first | go_big_quiet_on | (apply Exists.intro; refine ⟨fun px => ?_, ?_⟩; (focus ((go_at_call 40; refine (l12ServiceS x K.now _ HSZ.out).mono ?_; rintro e w' ⟨he, hb⟩; exact ⟨he, ⟨w', blw_trans px.ok hb⟩, rfl⟩))); go_big_quiet_on)))
          refine wpQuiet_nil ?_
          intro _ hw'
          obtain ⟨x6, hw''⟩ := hw'
          subst hw''
          go_wp2
          go_ret
          exact ⟨Pl.ret_bool HF.out.symm, blw_trans HB2.out x6.ok⟩
        · have HN : Hid (allTo (fun i => (svOk (K.svcs.getD i Sv.none) K.now && (decide (i = 0) || Pl.less (K.svcs.getD (i - 1) Sv.none).nm (K.svcs.getD i Sv.none).nm))) (m + 1 + 1) = true) := by show (allTo _ (m + 1) && (svOk (K.svcs.getD (m + 1) Sv.none) K.now && (decide ((m + 1) = 0) || Pl.less (K.svcs.getD ((m + 1) - 1) Sv.none).nm (K.svcs.getD (m + 1) Sv.none).nm))) = true; rw [HQ.out, HM.out, k1]; rfl
          clear hx hx2 hbl
          go_wp2_with fail
          clear yz y0 y1 y2 y3
          refine region_class wr (Below.refl _ _) (by kernel_rfl) (by kernel_rfl) ?_
          repeat (first
            | go_big_quiet_skip
            | (go_big_quiet_want; go_big_quiet_op; first | go_big_quiet_on | (apply Exists.intro; refine ⟨fun px => ?_, ?_⟩; (focus ((go_at_call 40; refine (l12ServiceS x K.now _ HSZ.out).mono ?_; rintro e w' ⟨he, hb⟩; exact ⟨he, ⟨w', blw_trans px.ok hb⟩, rfl⟩))); go_big_quiet_on)))
          refine wpQuiet_nil ?_
          intro _ hw'
          obtain ⟨x6, hw''⟩ := hw'
          subst hw''
          go_wp2
          go_roundw
          case rel => exact ⟨m + 1 + 1, by omega, by go_num, HN.out, blw_trans HW.out x6.ok⟩
          case measure => simp [intOf]; omega
    · obtain rfl : q = K.svcs.length := by omega
      have HS2 : Hid (R = (btsOk K && cpsOk K)) := by show R = _; rw [HS.out, show svsOk K = true from HQ.out]; rfl
      have HNX := hid (svsOk_next HQ.out)
      have HW0 := HW
      clear HS HQ HX2 HB2 HW
      have HS := HS2
      clear HS2
      go_wp2
      clear yz y0 y1 y2 y3
      go_loopw [4] (fun i wr => ∃ q : Nat, q ≤ K.bts.length ∧ i = .int .i64 q ∧ allTo (fun i => (snmOk (K.bts.getD i Bt.none).nm && (decide (i = 0) || Pl.less (K.bts.getD (i - 1) Bt.none).nm (K.bts.getD i Bt.none).nm))) q = true ∧ Below wa.heap.size wa wr) (fun i _ => K.bts.length - (intOf i).toNat)
      case atStart => exact ⟨0, Nat.zero_le _, rfl, rfl, HW0.out⟩
      case round =>
        obtain ⟨q, hq, rfl, ha, hW⟩ := hrel
        have HQ := hid ha
        have HW := hid hW
        have HB2 := hid (blw_trans HB.out hW)
        have HX2 := hid (HX.out.later hW)
        clear ha hW
        obtain ⟨yz, y0, y1, y2, y3⟩ := HX2.out
        by_cases hlt : q < K.bts.length
        · have HL := hid ((HH.out.later HB2.out).b)
          obtain ⟨b, off, ha, hbl, hf⟩ := HL.out.at_ q hlt
          subst ha
          obtain ⟨x, hx⟩ : ∃ x, x = K.bts.getD q Bt.none := ⟨_, rfl⟩
          rw [← hx] at hf
          have HSZ := hid hf.sized
          obtain ⟨e0, e1, _⟩ := hf
          have hNE := pst_some wr
          have hyz : ∀ px : Pst wr, w.heap.size < px.W.heap.size := fun px => px.size yz
          have hbz : ∀ px : Pst wr, b < px.W.heap.size := fun px => px.size hbl
          have Y0 : ∀ px : Pst wr, px.W.cell? ⟨w.heap.size, 0, none⟩ = some (.int .i64 K.now) := fun px => px.cell y0 yz
          have Y1 : ∀ px : Pst wr, px.W.cell? ⟨w.heap.size, 1, none⟩ = some (.slice a0 K.svcs.length c0) := fun px => px.cell y1 yz
          have Y2 : ∀ px : Pst wr, px.W.cell? ⟨w.heap.size, 2, none⟩ = some (.slice a1 K.cps.length c1) := fun px => px.cell y2 yz
          have Y3 : ∀ px : Pst wr, px.W.cell? ⟨w.heap.size, 3, none⟩ = some (.slice (some ⟨b, off, none⟩) K.bts.length c2) := fun px => px.cell y3 yz
          have E0 : ∀ px : Pst wr, px.W.cell? ⟨b, off + q * 2, none⟩ = some (.string x.nm) := fun px => px.cell e0 hbl
          have E1 : ∀ px : Pst wr, px.W.cell? ⟨b, off + q * 2 + 1, none⟩ = some (.bool x.drain) := fun px => px.cell e1 hbl
          have hm0 : (0 : Int) ≤ (q : Int) := by omega
          have hm3 : (q : Int) < (K.bts.length : Int) := by omega
          clear e0 e1
          cases k0 : snmOk x.nm
          · have HF : Hid (R = false) := by
              show R = false
              rw [HS.out]
              have : btsOk K = false := allTo_false (k := q) (by show (snmOk (K.bts.getD q Bt.none).nm && (decide (q = 0) || Pl.less (K.bts.getD (q - 1) Bt.none).nm (K.bts.getD q Bt.none).nm)) = false; rw [← hx, k0]; rfl) _ hlt
              rw [this]; simp
            clear hx hbl
            go_wp2_with fail
            clear yz y0 y1 y2 y3
            refine region_class wr (Below.refl _ _) (by kernel_rfl) (by kernel_rfl) ?_
            repeat (first
              | go_big_quiet_skip
              | (go_big_quiet_want; go_big_quiet_op; first | go_big_quiet_on | (apply Exists.intro; refine ⟨fun px => ?_, ?_⟩; (focus ((go_at_call 41; refine (l12NameS x.nm _ HSZ.out).mono ?_; rintro e w' ⟨he, hb⟩; exact ⟨he, px, hb.symm⟩))); go_big_quiet_on)))
            refine wpQuiet_nil ?_
            intro _ hw'
            obtain ⟨x6, hw''⟩ := hw'
            subst hw''
            go_wp2
            go_ret
            exact ⟨Pl.ret_bool HF.out.symm, blw_trans HB2.out x6.ok⟩
          by_cases hz : q = 0
          · subst hz
            simp only [Nat.zero_mul, Nat.add_zero] at E0 E1
            have HN : Hid (allTo (fun i => (snmOk (K.bts.getD i Bt.none).nm && (decide (i = 0) || Pl.less (K.bts.getD (i - 1) Bt.none).nm (K.bts.getD i Bt.none).nm))) (0 + 1) = true) := by show (allTo _ 0 && (snmOk (K.bts.getD 0 Bt.none).nm && (decide (0 = 0) || Pl.less (K.bts.getD (0 - 1) Bt.none).nm (K.bts.getD 0 Bt.none).nm))) = true; rw [← hx, k0]; rfl
            clear hx hbl
            go_wp2_with fail
            clear yz y0 y1 y2 y3
            refine region_class wr (Below.refl _ _) (by kernel_rfl) (by kernel_rfl) ?_
            repeat (first
              | go_big_quiet_skip
              | (go_big_quiet_want; go_big_quiet_op; first | go_big_quiet_on | (apply Exists.intro; refine ⟨fun px => ?_, ?_⟩; (focus ((go_at_call 41; refine (l12NameS x.nm _ HSZ.out).mono ?_; rintro e w' ⟨he, hb⟩; exact ⟨he, px, hb.symm⟩))); go_big_quiet_on)))
            refine wpQuiet_nil ?_
            intro _ hw'
            obtain ⟨x6, hw''⟩ := hw'
            subst hw''
            go_wp2
            go_roundw
            case rel => exact ⟨0 + 1, by omega, by go_num, HN.out, blw_trans HW.out x6.ok⟩
            case measure => simp [intOf]; omega
          · obtain ⟨m, rfl⟩ : ∃ m, q = m + 1 := ⟨q - 1, by omega⟩
            obtain ⟨b2, off2, ha2, hbl2, hf2⟩ := HL.out.at_ m (by omega)
            injection ha2 with ha2
            injection ha2 with hb2 ho2 _
            subst hb2 ho2
            obtain ⟨x2, hx2⟩ : ∃ x2, x2 = K.bts.getD m Bt.none := ⟨_, rfl⟩
            rw [← hx2] at hf2
            obtain ⟨d0, d1, _⟩ := hf2
            have D0 : ∀ px : Pst wr, px.W.cell? ⟨b, off + m * 2, none⟩ = some (.string x2.nm) := fun px => px.cell d0 hbl
            clear d0 d1
            have HM : Hid ((snmOk (K.bts.getD (m + 1) Bt.none).nm && (decide ((m + 1) = 0) || Pl.less (K.bts.getD ((m + 1) - 1) Bt.none).nm (K.bts.getD (m + 1) Bt.none).nm)) = Op.bytesLess x2.nm.toList x.nm.toList) := by show (snmOk (K.bts.getD (m + 1) Bt.none).nm && (decide ((m + 1) = 0) || Pl.less (K.bts.getD ((m + 1) - 1) Bt.none).nm (K.bts.getD (m + 1) Bt.none).nm)) = _; rw [Nat.add_sub_cancel, ← hx, ← hx2, k0]; simp [Pl.less]
            have hm6 : (0 : Int) ≤ (m : Int) := by omega
            have hm7 : (m : Int) < (K.bts.length : Int) := by omega
            have hm8 : ((m : Int) + 1 - 1) = (m : Int) := by omega
            cases k1 : Op.bytesLess x2.nm.toList x.nm.toList
            · have HF : Hid (R = false) := by
                show R = false
                rw [HS.out]
                have : btsOk K = false := allTo_false (k := m + 1) (HM.out.trans k1) _ hlt
                rw [this]; simp
              clear hx hx2 hbl
              go_wp2_with fail
              clear yz y0 y1 y2 y3
              refine region_class wr (Below.refl _ _) (by kernel_rfl) (by kernel_rfl) ?_
              repeat (first
                | go_big_quiet_skip
                | (go_big_quiet_want; go_big_quiet_op; first | go_big_quiet_on | (apply Exists.intro; refine ⟨fun px => ?_, ?_⟩; (focus ((go_at_call 41; refine (l12NameS x.nm _ HSZ.out).mono ?_; rintro e w' ⟨he, hb⟩; exact ⟨he, px, hb.symm⟩))); go_big_quiet_on)))
              refine wpQuiet_nil ?_
              intro _ hw'
              obtain ⟨x6, hw''⟩ := hw'
              subst hw''
              go_wp2
              go_ret
              exact ⟨Pl.ret_bool HF.out.symm, blw_trans HB2.out x6.ok⟩
            · have HN : Hid (allTo (fun i => (snmOk (K.bts.getD i Bt.none).nm && (decide (i = 0) || Pl.less (K.bts.getD (i - 1) Bt.none).nm (K.bts.getD i Bt.none).nm))) (m + 1 + 1) = true) := by show (allTo _ (m + 1) && (snmOk (K.bts.getD (m + 1) Bt.none).nm && (decide ((m + 1) = 0) || Pl.less (K.bts.getD ((m + 1) - 1) Bt.none).nm (K.bts.getD (m + 1) Bt.none).nm))) = true; rw [HQ.out, HM.out, k1]; rfl
              clear hx hx2 hbl
              go_wp2_with fail
              clear yz y0 y1 y2 y3
              refine region_class wr (Below.refl _ _) (by kernel_rfl) (by kernel_rfl) ?_
              repeat (first
                | go_big_quiet_skip
                | (go_big_quiet_want; go_big_quiet_op; first | go_big_quiet_on | (apply Exists.intro; refine ⟨fun px => ?_, ?_⟩; (focus ((go_at_call 41; refine (l12NameS x.nm _ HSZ.out).mono ?_; rintro e w' ⟨he, hb⟩; exact ⟨he, px, hb.symm⟩))); go_big_quiet_on)))
              refine wpQuiet_nil ?_
              intro _ hw'
              obtain ⟨x6, hw''⟩ := hw'
              subst hw''
              go_wp2
              go_roundw
              case rel => exact ⟨m + 1 + 1, by omega, by go_num, HN.out, blw_trans HW.out x6.ok⟩
              case measure => simp [intOf]; omega
        · obtain rfl : q = K.bts.length := by omega
          have HS3 : Hid (R = cpsOk K) := by show R = _; rw [HS.out, show btsOk K = true from HQ.out]; rfl
          have HW0 := HW
          clear HS HQ HX2 HB2 HW
          go_wp2
          clear yz y0 y1 y2 y3
          go_loopw [5] (fun i wr => ∃ q : Nat, q ≤ K.cps.length ∧ i = .int .i64 q ∧ allTo (fun i => (cpOk K (K.cps.getD i Cp.none) && (decide (i = 0) || ahead (K.cps.getD (i - 1) Cp.none) (K.cps.getD i Cp.none)))) q = true ∧ Below wa.heap.size wa wr) (fun i _ => K.cps.length - (intOf i).toNat)
          case atStart => exact ⟨0, Nat.zero_le _, rfl, rfl, HW0.out⟩
          case round =>
            obtain ⟨q, hq, rfl, ha, hW⟩ := hrel
            have HQ := hid ha
            have HW := hid hW
            have HB2 := hid (blw_trans HB.out hW)
            have HX2 := hid (HX.out.later hW)
            clear ha hW
            obtain ⟨yz, y0, y1, y2, y3⟩ := HX2.out
            by_cases hlt : q < K.cps.length
            · have HL := hid ((HH.out.later HB2.out).c)
              obtain ⟨b, off, ha, hbl, hf⟩ := HL.out.at_ q hlt
              subst ha
              obtain ⟨x, hx⟩ : ∃ x, x = K.cps.getD q Cp.none := ⟨_, rfl⟩
              rw [← hx] at hf
              have HSZ := hid hf.sized
              obtain ⟨e0, e1, e2, e3, e4, e5, e6, _⟩ := hf
              have hNE := pst_some wr
              have hyz : ∀ px : Pst wr, w.heap.size < px.W.heap.size := fun px => px.size yz
              have hbz : ∀ px : Pst wr, b < px.W.heap.size := fun px => px.size hbl
              have Y0 : ∀ px : Pst wr, px.W.cell? ⟨w.heap.size, 0, none⟩ = some (.int .i64 K.now) := fun px => px.cell y0 yz
              have Y1 : ∀ px : Pst wr, px.W.cell? ⟨w.heap.size, 1, none⟩ = some (.slice a0 K.svcs.length c0) := fun px => px.cell y1 yz
              have Y2 : ∀ px : Pst wr, px.W.cell? ⟨w.heap.size, 2, none⟩ = some (.slice (some ⟨b, off, none⟩) K.cps.length c1) := fun px => px.cell y2 yz
              have Y3 : ∀ px : Pst wr, px.W.cell? ⟨w.heap.size, 3, none⟩ = some (.slice a2 K.bts.length c2) := fun px => px.cell y3 yz
              have E0 : ∀ px : Pst wr, px.W.cell? ⟨b, off + q * 7, none⟩ = some (.string x.svc) := fun px => px.cell e0 hbl
              have E1 : ∀ px : Pst wr, px.W.cell? ⟨b, off + q * 7 + 1, none⟩ = some (.int .i64 x.num) := fun px => px.cell e1 hbl
              have E2 : ∀ px : Pst wr, px.W.cell? ⟨b, off + q * 7 + 2, none⟩ = some (.int .i64 x.ver) := fun px => px.cell e2 hbl
              have E3 : ∀ px : Pst wr, px.W.cell? ⟨b, off + q * 7 + 3, none⟩ = some (.int .i64 x.image) := fun px => px.cell e3 hbl
              have E4 : ∀ px : Pst wr, px.W.cell? ⟨b, off + q * 7 + 4, none⟩ = some (.int .i64 x.state) := fun px => px.cell e4 hbl
              have E5 : ∀ px : Pst wr, px.W.cell? ⟨b, off + q * 7 + 5, none⟩ = some (.bool x.ending) := fun px => px.cell e5 hbl
              have E6 : ∀ px : Pst wr, px.W.cell? ⟨b, off + q * 7 + 6, none⟩ = some (.string x.berth) := fun px => px.cell e6 hbl
              have HV : Hid (∀ px : Pst wr, SBkV px.W a0 (some ⟨b, off, none⟩) a2 K) := fun px => HH.out.later (blw_trans HB2.out px.ok)
              have hm0 : (0 : Int) ≤ (q : Int) := by omega
              have hm3 : (q : Int) < (K.cps.length : Int) := by omega
              clear e0 e1 e2 e3 e4 e5 e6
              cases k0 : cpOk K x
              · have HF : Hid (R = false) := by
                  show R = false
                  rw [HS3.out]
                  have : cpsOk K = false := allTo_false (k := q) (by show (cpOk K (K.cps.getD q Cp.none) && (decide (q = 0) || ahead (K.cps.getD (q - 1) Cp.none) (K.cps.getD q Cp.none))) = false; rw [← hx, k0]; rfl) _ hlt
                  exact this
                clear hx hbl
                go_wp2_with fail
                clear yz y0 y1 y2 y3
                refine region_class wr (Below.refl _ _) (by kernel_rfl) (by kernel_rfl) ?_
                repeat (first
                  | go_big_quiet_skip
                  | (go_big_quiet_want; go_big_quiet_op; first | go_big_quiet_on | (apply Exists.intro; refine ⟨fun px => ?_, ?_⟩; (focus (first | (go_at_call 42; refine (l12CopyS K a0 (some ⟨b, off, none⟩) a2 c0 c1 c2 x _ (HV.out px) HNX.out).mono ?_; rintro e w' ⟨he, hb⟩; exact ⟨he, ⟨w', blw_trans px.ok hb⟩, rfl⟩) | (go_at_call 43; refine (l12AheadS x2 x _).mono ?_; rintro e w' ⟨he, hb⟩; exact ⟨he, ⟨w', blw_trans px.ok hb⟩, rfl⟩))); go_big_quiet_on)))
                refine wpQuiet_nil ?_
                intro _ hw'
                obtain ⟨x6, hw''⟩ := hw'
                subst hw''
                go_wp2
                go_ret
                exact ⟨Pl.ret_bool HF.out.symm, blw_trans HB2.out x6.ok⟩
              by_cases hz : q = 0
              · subst hz
                simp only [Nat.zero_mul, Nat.add_zero] at E0 E1 E2 E3 E4 E5 E6
                have HN : Hid (allTo (fun i => (cpOk K (K.cps.getD i Cp.none) && (decide (i = 0) || ahead (K.cps.getD (i - 1) Cp.none) (K.cps.getD i Cp.none)))) (0 + 1) = true) := by show (allTo _ 0 && (cpOk K (K.cps.getD 0 Cp.none) && (decide (0 = 0) || ahead (K.cps.getD (0 - 1) Cp.none) (K.cps.getD 0 Cp.none)))) = true; rw [← hx, k0]; rfl
                clear hx hbl
                go_wp2_with fail
                clear yz y0 y1 y2 y3
                refine region_class wr (Below.refl _ _) (by kernel_rfl) (by kernel_rfl) ?_
                repeat (first
                  | go_big_quiet_skip
                  | (go_big_quiet_want; go_big_quiet_op; first | go_big_quiet_on | (apply Exists.intro; refine ⟨fun px => ?_, ?_⟩; (focus (first | (go_at_call 42; refine (l12CopyS K a0 (some ⟨b, off, none⟩) a2 c0 c1 c2 x _ (HV.out px) HNX.out).mono ?_; rintro e w' ⟨he, hb⟩; exact ⟨he, ⟨w', blw_trans px.ok hb⟩, rfl⟩) | (go_at_call 43; refine (l12AheadS x2 x _).mono ?_; rintro e w' ⟨he, hb⟩; exact ⟨he, ⟨w', blw_trans px.ok hb⟩, rfl⟩))); go_big_quiet_on)))
                refine wpQuiet_nil ?_
                intro _ hw'
                obtain ⟨x6, hw''⟩ := hw'
                subst hw''
                go_wp2
                go_roundw
                case rel => exact ⟨0 + 1, by omega, by go_num, HN.out, blw_trans HW.out x6.ok⟩
                case measure => simp [intOf]; omega
              · obtain ⟨m, rfl⟩ : ∃ m, q = m + 1 := ⟨q - 1, by omega⟩
                obtain ⟨b2, off2, ha2, hbl2, hf2⟩ := HL.out.at_ m (by omega)
                injection ha2 with ha2
                injection ha2 with hb2 ho2 _
                subst hb2 ho2
                obtain ⟨x2, hx2⟩ : ∃ x2, x2 = K.cps.getD m Cp.none := ⟨_, rfl⟩
                rw [← hx2] at hf2
                obtain ⟨d0, d1, d2, d3, d4, d5, d6, _⟩ := hf2
                have D0 : ∀ px : Pst wr, px.W.cell? ⟨b, off + m * 7, none⟩ = some (.string x2.svc) := fun px => px.cell d0 hbl
                have D1 : ∀ px : Pst wr, px.W.cell? ⟨b, off + m * 7 + 1, none⟩ = some (.int .i64 x2.num) := fun px => px.cell d1 hbl
                have D2 : ∀ px : Pst wr, px.W.cell? ⟨b, off + m * 7 + 2, none⟩ = some (.int .i64 x2.ver) := fun px => px.cell d2 hbl
                have D3 : ∀ px : Pst wr, px.W.cell? ⟨b, off + m * 7 + 3, none⟩ = some (.int .i64 x2.image) := fun px => px.cell d3 hbl
                have D4 : ∀ px : Pst wr, px.W.cell? ⟨b, off + m * 7 + 4, none⟩ = some (.int .i64 x2.state) := fun px => px.cell d4 hbl
                have D5 : ∀ px : Pst wr, px.W.cell? ⟨b, off + m * 7 + 5, none⟩ = some (.bool x2.ending) := fun px => px.cell d5 hbl
                have D6 : ∀ px : Pst wr, px.W.cell? ⟨b, off + m * 7 + 6, none⟩ = some (.string x2.berth) := fun px => px.cell d6 hbl
                clear d0 d1 d2 d3 d4 d5 d6
                have HM : Hid ((cpOk K (K.cps.getD (m + 1) Cp.none) && (decide ((m + 1) = 0) || ahead (K.cps.getD ((m + 1) - 1) Cp.none) (K.cps.getD (m + 1) Cp.none))) = ahead x2 x) := by show (cpOk K (K.cps.getD (m + 1) Cp.none) && (decide ((m + 1) = 0) || ahead (K.cps.getD ((m + 1) - 1) Cp.none) (K.cps.getD (m + 1) Cp.none))) = _; rw [Nat.add_sub_cancel, ← hx, ← hx2, k0]; simp
                have hm6 : (0 : Int) ≤ (m : Int) := by omega
                have hm7 : (m : Int) < (K.cps.length : Int) := by omega
                have hm8 : ((m : Int) + 1 - 1) = (m : Int) := by omega
                cases k1 : ahead x2 x
                · have HF : Hid (R = false) := by
                    show R = false
                    rw [HS3.out]
                    have : cpsOk K = false := allTo_false (k := m + 1) (HM.out.trans k1) _ hlt
                    exact this
                  clear hx hx2 hbl
                  go_wp2_with fail
                  clear yz y0 y1 y2 y3
                  refine region_class wr (Below.refl _ _) (by kernel_rfl) (by kernel_rfl) ?_
                  repeat (first
                    | go_big_quiet_skip
                    | (go_big_quiet_want; go_big_quiet_op; first | go_big_quiet_on | (apply Exists.intro; refine ⟨fun px => ?_, ?_⟩; (focus (first | (go_at_call 42; refine (l12CopyS K a0 (some ⟨b, off, none⟩) a2 c0 c1 c2 x _ (HV.out px) HNX.out).mono ?_; rintro e w' ⟨he, hb⟩; exact ⟨he, ⟨w', blw_trans px.ok hb⟩, rfl⟩) | (go_at_call 43; refine (l12AheadS x2 x _).mono ?_; rintro e w' ⟨he, hb⟩; exact ⟨he, ⟨w', blw_trans px.ok hb⟩, rfl⟩))); go_big_quiet_on)))
                  refine wpQuiet_nil ?_
                  intro _ hw'
                  obtain ⟨x6, hw''⟩ := hw'
                  subst hw''
                  go_wp2
                  go_ret
                  exact ⟨Pl.ret_bool HF.out.symm, blw_trans HB2.out x6.ok⟩
                · have HN : Hid (allTo (fun i => (cpOk K (K.cps.getD i Cp.none) && (decide (i = 0) || ahead (K.cps.getD (i - 1) Cp.none) (K.cps.getD i Cp.none)))) (m + 1 + 1) = true) := by show (allTo _ (m + 1) && (cpOk K (K.cps.getD (m + 1) Cp.none) && (decide ((m + 1) = 0) || ahead (K.cps.getD ((m + 1) - 1) Cp.none) (K.cps.getD (m + 1) Cp.none)))) = true; rw [HQ.out, HM.out, k1]; rfl
                  clear hx hx2 hbl
                  go_wp2_with fail
                  clear yz y0 y1 y2 y3
                  refine region_class wr (Below.refl _ _) (by kernel_rfl) (by kernel_rfl) ?_
                  repeat (first
                    | go_big_quiet_skip
                    | (go_big_quiet_want; go_big_quiet_op; first | go_big_quiet_on | (apply Exists.intro; refine ⟨fun px => ?_, ?_⟩; (focus (first | (go_at_call 42; refine (l12CopyS K a0 (some ⟨b, off, none⟩) a2 c0 c1 c2 x _ (HV.out px) HNX.out).mono ?_; rintro e w' ⟨he, hb⟩; exact ⟨he, ⟨w', blw_trans px.ok hb⟩, rfl⟩) | (go_at_call 43; refine (l12AheadS x2 x _).mono ?_; rintro e w' ⟨he, hb⟩; exact ⟨he, ⟨w', blw_trans px.ok hb⟩, rfl⟩))); go_big_quiet_on)))
                  refine wpQuiet_nil ?_
                  intro _ hw'
                  obtain ⟨x6, hw''⟩ := hw'
                  subst hw''
                  go_wp2
                  go_roundw
                  case rel => exact ⟨m + 1 + 1, by omega, by go_num, HN.out, blw_trans HW.out x6.ok⟩
                  case measure => simp [intOf]; omega
            · obtain rfl : q = K.cps.length := by omega
              have HF : Hid (R = true) := by show R = true; rw [HS3.out]; exact HQ.out
              go_wp2
              go_ret
              exact ⟨Pl.ret_bool HF.out.symm, HB2.out⟩

end Go.Proofs.YtclagbakddkjcaaGreat
