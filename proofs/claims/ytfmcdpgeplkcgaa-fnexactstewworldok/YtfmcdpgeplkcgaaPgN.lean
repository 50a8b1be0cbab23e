/-
  Stewards: copies that are ok: the program's.
-/
import Derived.Test.YtfmcdpgeplkcgaaPgD
import Derived.Test.YtfmcdpgeplkcgaaPgM
import Derived.Test.YtfmcdpgeplkcgaaStC
namespace Go.Proofs.Ytfmcdpgeplkcgaa
open Go.RowKit Go.Deep

def standsOk (K : SBk) (c : Cp) : Bool := inB c.state 1 4 && (if c.state = 1 then same c.berth ByteArray.empty else decide (0 ≤ btIx K.bts c.berth))
theorem cpOk_eq (K : SBk) (c : Cp) : cpOk K c = (decide (0 ≤ svIx K.svcs c.svc) && inB c.num 1 ((svGet K.svcs (svIx K.svcs c.svc)).next - 1) && inB c.ver 1 K.now && inB c.image 1 1000000 && standsOk K c) := by
  unfold cpOk standsOk
  simp only [Bool.and_assoc]

set_option maxHeartbeats 4000000 in
theorem standsI (K : SBk) (c : Cp) (mb : Nat) (w : World) (h : PlAt K w mb) (hn : Nmd K) (hc : c.berth.size ≤ maxLen) :
    Calls Try.prog 56 #[.map (some mb), .agg #[.string c.svc, .int .i64 c.num, .int .i64 c.ver, .int .i64 c.image, .int .i64 c.state, .bool c.ending, .string c.berth]] w fun e w' => e = .returned (.bool (standsOk K c)) ∧ Below w.heap.size w w' := by
  obtain ⟨R, hR⟩ : ∃ R, R = standsOk K c := ⟨_, rfl⟩
  have HR := hid hR
  rw [← hR]
  clear hR
  obtain ⟨wa, hwa⟩ : ∃ wa, wa = w.alloc (.cells #[.string c.svc, .int .i64 c.num, .int .i64 c.ver, .int .i64 c.image, .int .i64 c.state, .bool c.ending, .string c.berth] 65) := ⟨_, rfl⟩
  have HB : Hid (Below w.heap.size w wa) := by show Below _ _ _; rw [hwa]; exact blw_alloc (Below.refl _ _) _
  have HY : Hid (Box7 wa w.heap.size (.string c.svc) (.int .i64 c.num) (.int .i64 c.ver) (.int .i64 c.image) (.int .i64 c.state) (.bool c.ending) (.string c.berth)) := by show Box7 _ _ _ _ _ _ _ _ _; rw [hwa]; exact Box7.new' w _ _ _ _ _ _ _ _ _ rfl
  have HP := hid (h.later HB.out)
  have HL := hid (look_bt HP.out hn c.berth hc)
  clear h hn hc
  go_enter Try.func56, Try.ntmps56
  go_upto_region 1 with fail
  rw [← hwa]
  clear hwa
  obtain ⟨zz, z0, z1, z2, z3, z4, z5, z6⟩ := HY.out
  cases k1 : (c.state == 1)
  · cases k2 : (c.state == 2) <;> cases k3 : (c.state == 3) <;> cases k4 : (c.state == 4)
    all_goals first
      | (exfalso; simp at k2 k3 k4; omega)
      | (have HF : Hid (R = false) := by
           show R = false
           rw [HR.out]
           have q : inB c.state 1 4 = false := by
             rw [Bool.eq_false_iff]; unfold inB; simp at k1 k2 k3 k4 ⊢; omega
           unfold standsOk; rw [q]; rfl
         clear HR HL
         go_wp2
         go_ret
         exact ⟨Pl.ret_bool HF.out.symm, HB.out⟩)
      | (have HF : Hid (R = decide (0 ≤ btIx K.bts c.berth)) := by
           show R = _
           rw [HR.out]
           have q : inB c.state 1 4 = true := by
             unfold inB; simp at k1 k2 k3 k4 ⊢; omega
           have q1 : ¬ c.state = 1 := by simpa using k1
           unfold standsOk; rw [q, if_neg q1]; rfl
         clear HR
         rcases HL.out with ⟨e, hlk⟩ | ⟨i, e, hlk⟩
         · have HG : Hid (R = false) := by show R = false; rw [HF.out, e]; rfl
           clear HF HL e
           go_wp2
           go_ret
           exact ⟨Pl.ret_bool HG.out.symm, HB.out⟩
         · have HG : Hid (R = true) := by show R = true; rw [HF.out]; exact decide_eq_true e
           clear HF HL e
           go_wp2
           go_ret
           exact ⟨Pl.ret_bool HG.out.symm, HB.out⟩)
  · have HF : Hid (R = same c.berth ByteArray.empty) := by
      show R = _
      rw [HR.out]
      have q1 : c.state = 1 := by simpa using k1
      have q : inB c.state 1 4 = true := by rw [q1]; rfl
      unfold standsOk; rw [q, if_pos q1]; rfl
    clear HR HL
    cases k5 : (c.berth.toList == ([] : List UInt8))
    · have HG : Hid (R = false) := by show R = false; rw [HF.out, same_empty]; cases e : c.berth.toList <;> simp_all
      clear HF
      go_wp2
      go_ret
      exact ⟨Pl.ret_bool HG.out.symm, HB.out⟩
    · have HG : Hid (R = true) := by show R = true; rw [HF.out, same_empty]; cases e : c.berth.toList <;> simp_all
      clear HF
      go_wp2
      go_ret
      exact ⟨Pl.ret_bool HG.out.symm, HB.out⟩

def cpsAll (K : SBk) : Bool := allTo (fun i => cpOk K (K.cps.getD i Cp.none)) K.cps.length

set_option maxRecDepth 8000 in
set_option maxHeartbeats 40000000 in
theorem copiesI (K : SBk) (a0 a1 a2 : Option Addr) (c0 c1 c2 : Nat) (w : World) (h : SBkV w a0 a1 a2 K) (hap : Apart K) (hN : ∀ i, i < K.svcs.length → 1 ≤ (K.svcs.getD i Sv.none).next ∧ (K.svcs.getD i Sv.none).next ≤ 1000000) :
    Calls Try.prog 32 #[.agg #[.int .i64 K.now, .slice a0 K.svcs.length c0, .slice a1 K.cps.length c1, .slice a2 K.bts.length c2]] w fun e w' => e = .returned (.bool (decide (K.cps.length ≤ 200) && ascCp K.cps && cpsAll K)) ∧ Below w.heap.size w w' := by
  have HH := hid h
  have HA := hid hap
  have HN := hid hN
  have hl := h.c.len
  have hl0 := h.s.len
  unfold maxLen at hl hl0
  clear h hap hN
  obtain ⟨R, hR⟩ : ∃ R, R = (decide (K.cps.length ≤ 200) && ascCp K.cps && cpsAll K) := ⟨_, rfl⟩
  have HR := hid hR
  rw [← hR]
  clear hR
  obtain ⟨wa, hwa⟩ : ∃ wa, wa = w.alloc (.cells #[.int .i64 K.now, .slice a0 K.svcs.length c0, .slice a1 K.cps.length c1, .slice a2 K.bts.length c2] 37) := ⟨_, rfl⟩
  have HB : Hid (Below w.heap.size w wa) := by show Below _ _ _; rw [hwa]; exact blw_alloc (Below.refl _ _) _
  have HX : Hid (Box4 wa w.heap.size (.int .i64 K.now) (.slice a0 K.svcs.length c0) (.slice a1 K.cps.length c1) (.slice a2 K.bts.length c2)) := by show Box4 _ _ _ _ _ _; rw [hwa]; exact Box4.new' w _ _ _ _ _ _ rfl
  go_enter Try.func32, Try.ntmps32
  go_upto_region 1 with fail
  rw [← hwa]
  clear hwa
  obtain ⟨yz, y0, y1, y2, y3⟩ := HX.out
  rcases (Decidable.em (K.cps.length ≤ 200)).symm with g0 | g0
  · have HF : Hid (R = false) := by show R = false; rw [HR.out]; simp [g0]
    go_wp2
    go_ret
    exact ⟨Pl.ret_bool HF.out.symm, HB.out⟩
  go_wp2_with fail
  refine (ascCpI a1 c1 K.cps wa (HH.out.later HB.out).c).mono ?_
  rintro e w0 ⟨rfl, hb0⟩
  have HB0 := hid (blw_trans HB.out hb0)
  have HX0 := hid (HX.out.later hb0)
  clear yz y0 y1 y2 y3 hb0 HX HB
  obtain ⟨yz, y0, y1, y2, y3⟩ := HX0.out
  cases k0 : ascCp K.cps
  · have HF : Hid (R = false) := by show R = false; rw [HR.out, k0]; simp
    go_wp2
    go_ret
    exact ⟨Pl.ret_bool HF.out.symm, HB0.out⟩
  have HR2 : Hid (R = cpsAll K) := by show R = _; rw [HR.out, k0]; simp [g0]
  clear HR
  go_wp2_with fail
  refine (placesI K a0 a1 a2 c0 c1 c2 w0 (HH.out.later HB0.out) HA.out).mono ?_
  rintro e w1 ⟨mb, rfl, hpl, hb1⟩
  have HB1 := hid (blw_trans HB0.out hb1)
  have HX1 := hid (HX0.out.later hb1)
  have HP1 := hid hpl
  clear yz y0 y1 y2 y3 hb1 HX0 HB0 hpl
  obtain ⟨yz, y0, y1, y2, y3⟩ := HX1.out
  go_wp2
  clear yz y0 y1 y2 y3 k0
  go_loopw [23] (fun i wr => ∃ q : Nat, q ≤ K.cps.length ∧ i = .int .i64 q ∧ allTo (fun i => cpOk K (K.cps.getD i Cp.none)) q = true ∧ Below w1.heap.size w1 wr) (fun i _ => K.cps.length - (intOf i).toNat)
  case atStart => exact ⟨0, Nat.zero_le _, rfl, rfl, Below.refl _ _⟩
  case round =>
    obtain ⟨q, hq, rfl, ha, hW⟩ := hrel
    have HQ := hid ha
    have HB2 := hid (blw_trans HB1.out hW)
    have HX2 := hid (HX1.out.later hW)
    have HP2 := hid (HP1.out.later hW)
    have HWW := hid hW
    clear ha hW
    by_cases hlt : q < K.cps.length
    · obtain ⟨b, off, ha, hbl, hf⟩ := (HH.out.later HB2.out).c.at_ q hlt
      subst ha
      obtain ⟨x, hx⟩ : ∃ x, x = K.cps.getD q Cp.none := ⟨_, rfl⟩
      rw [← hx] at hf
      have HSZ := hid hf.sized
      obtain ⟨e0, e1, e2, e3, e4, e5, e6, _⟩ := hf
      have hm0 : (0 : Int) ≤ (q : Int) := by omega
      have hm3 : (q : Int) < (K.cps.length : Int) := by omega
      have HP : Hid (cpOk K (K.cps.getD q Cp.none) = (decide (0 ≤ svIx K.svcs x.svc) && inB x.num 1 ((svGet K.svcs (svIx K.svcs x.svc)).next - 1) && inB x.ver 1 K.now && inB x.image 1 1000000 && standsOk K x)) := by show _ = _; rw [← hx]; exact cpOk_eq K x
      clear hx
      obtain ⟨w2, hw2⟩ : ∃ w2, w2 = wr.alloc (.cells #[.string x.svc, .int .i64 x.num, .int .i64 x.ver, .int .i64 x.image, .int .i64 x.state, .bool x.ending, .string x.berth] 65) := ⟨_, rfl⟩
      have HW2 : Hid (Below wr.heap.size wr w2) := by show Below _ _ _; rw [hw2]; exact blw_alloc (Below.refl _ _) _
      have HY2 : Hid (Box7 w2 wr.heap.size (.string x.svc) (.int .i64 x.num) (.int .i64 x.ver) (.int .i64 x.image) (.int .i64 x.state) (.bool x.ending) (.string x.berth)) := by show Box7 _ _ _ _ _ _ _ _ _; rw [hw2]; exact Box7.new' wr _ _ _ _ _ _ _ _ _ rfl
      have HX3 := hid (HX2.out.later HW2.out)
      have HP3 := hid (HP2.out.later HW2.out)
      have HB3 := hid (blw_trans HB2.out HW2.out)
      go_upto_region 7 with fail
      rw [← hw2]
      clear hw2 e0 e1 e2 e3 e4 e5 e6 hbl
      obtain ⟨E, hE⟩ : ∃ E, E = wr.heap.size := ⟨_, rfl⟩
      rw [← hE] at HY2 ⊢
      clear hE
      have hNE := pst_some w2
      rcases look_sv HP3.out HH.out.nmd HA.out x.svc HSZ.out.1 with ⟨hix, hlk⟩ | ⟨i, hi, hix, hnm, hlk⟩
      · have HF : Hid (R = false) := by
          show R = false
          rw [HR2.out]
          exact allTo_false (k := q) (by rw [HP.out, hix]; rfl) _ hlt
        clear hix
        obtain ⟨zz, z0, z1, z2, z3, z4, z5, z6⟩ := HY2.out
        go_upto_region 8 with fail
        clear hlk zz z0 z1 z2 z3 z4 z5 z6
        refine region_class w2 (Below.refl _ _) (by kernel_rfl) (by kernel_rfl) ?_
        repeat (first
          | go_big_quiet_skip
          | (go_big_quiet_want; go_big_quiet_op; first | go_big_quiet_on | (apply Exists.intro; refine ⟨fun px => ?_, ?_⟩; (focus (go_at_call 45; refine (withinI _ _ _ _).mono ?_; rintro e w' ⟨he, hb⟩; exact ⟨he, px, hb.symm⟩)); go_big_quiet_on)))
        refine wpQuiet_nil ?_
        intro _ hw'
        obtain ⟨x6, hw''⟩ := hw'
        subst hw''
        go_wp2
        go_ret
        exact ⟨Pl.ret_bool HF.out.symm, blw_trans HB3.out x6.ok⟩
      · clear hnm
        obtain ⟨nx, hnx⟩ : ∃ nx, nx = (K.svcs.getD i Sv.none).next := ⟨_, rfl⟩
        have HP' : Hid (cpOk K (K.cps.getD q Cp.none) = (inB x.num 1 (nx - 1) && inB x.ver 1 K.now && inB x.image 1 1000000 && standsOk K x)) := by
          show _ = _
          rw [HP.out, hix, hnx]
          have e : svGet K.svcs (i : Int) = K.svcs.getD i Sv.none := by unfold svGet; rw [Int.toNat_natCast]
          have e' : decide ((0 : Int) ≤ (i : Int)) = true := decide_eq_true (by omega)
          rw [e, e']; rfl
        clear HP hix
        obtain ⟨hn0, hn1⟩ := HN.out i hi
        rw [← hnx] at hn0 hn1
        obtain ⟨bs, offs, has, hbls, hfs⟩ := (HH.out.later HB3.out).s.at_ i hi
        subst has
        have f7 := hfs.c7
        rw [← hnx] at f7
        clear hfs hnx
        obtain ⟨zz, z0, z1, z2, z3, z4, z5, z6⟩ := HY2.out
        go_upto_region 8 with fail
        clear hlk
        obtain ⟨yz, y0, y1, y2, y3⟩ := HX3.out
        have ZZ : ∀ px : Pst w2, E < px.W.heap.size := fun px => px.size zz
        have Z1 : ∀ px : Pst w2, px.W.cell? ⟨E, 1, none⟩ = some (.int .i64 x.num) := fun px => px.cell z1 zz
        have YZ : ∀ px : Pst w2, w.heap.size < px.W.heap.size := fun px => px.size yz
        have Y1 : ∀ px : Pst w2, px.W.cell? ⟨w.heap.size, 1, none⟩ = some (.slice (some ⟨bs, offs, none⟩) K.svcs.length c0) := fun px => px.cell y1 yz
        have BZ : ∀ px : Pst w2, bs < px.W.heap.size := fun px => px.size hbls
        have F7 : ∀ px : Pst w2, px.W.cell? ⟨bs, offs + i * 13 + 7, none⟩ = some (.int .i64 nx) := fun px => px.cell f7 hbls
        have hi0 : (0 : Int) ≤ (i : Int) := by omega
        have hi3 : (i : Int) < (K.svcs.length : Int) := by omega
        clear zz z0 z1 z2 z3 z4 z5 z6 yz y0 y1 y2 y3 f7 hbls
        cases k1 : inB x.num 1 (nx - 1)
        · have HF : Hid (R = false) := by
            show R = false
            rw [HR2.out]
            exact allTo_false (k := q) (by rw [HP'.out, k1]; rfl) _ hlt
          refine region_class w2 (Below.refl _ _) (by kernel_rfl) (by kernel_rfl) ?_
          repeat (first
            | go_big_quiet_skip
            | (go_big_quiet_want; go_big_quiet_op; first | go_big_quiet_on | (apply Exists.intro; refine ⟨fun px => ?_, ?_⟩; (focus (go_at_call 45; refine (withinI _ _ _ _).mono ?_; rintro e w' ⟨he, hb⟩; exact ⟨he, px, hb.symm⟩)); go_big_quiet_on)))
          refine wpQuiet_nil ?_
          intro _ hw'
          obtain ⟨x6, hw''⟩ := hw'
          subst hw''
          go_wp2
          go_ret
          exact ⟨Pl.ret_bool HF.out.symm, blw_trans HB3.out x6.ok⟩
        refine region_class w2 (Below.refl _ _) (by kernel_rfl) (by kernel_rfl) ?_
        repeat (first
          | go_big_quiet_skip
          | (go_big_quiet_want; go_big_quiet_op; first | go_big_quiet_on | (apply Exists.intro; refine ⟨fun px => ?_, ?_⟩; (focus (go_at_call 45; refine (withinI _ _ _ _).mono ?_; rintro e w' ⟨he, hb⟩; exact ⟨he, px, hb.symm⟩)); go_big_quiet_on)))
        refine wpQuiet_nil ?_
        intro _ hw'
        obtain ⟨x6, hw''⟩ := hw'
        subst hw''
        clear ZZ Z1 YZ Y1 BZ F7 hNE
        obtain ⟨w3, hw3⟩ : ∃ w3, w3 = x6.W := ⟨_, rfl⟩
        have hb3 := x6.ok
        rw [← hw3] at hb3 ⊢
        clear hw3
        have HB4 := hid (blw_trans HB3.out hb3)
        have HY3 := hid (HY2.out.later hb3)
        have HX4 := hid (HX3.out.later hb3)
        have HP4 := hid (HP3.out.later hb3)
        have HW4 := hid (blw_trans (blw_trans HWW.out HW2.out) hb3)
        clear hb3
        obtain ⟨yz, y0, y1, y2, y3⟩ := HX4.out
        obtain ⟨zz, z0, z1, z2, z3, z4, z5, z6⟩ := HY3.out
        cases k2 : inB x.ver 1 K.now
        · have HF : Hid (R = false) := by
            show R = false
            rw [HR2.out]
            exact allTo_false (k := q) (by rw [HP'.out, k1, k2]; rfl) _ hlt
          go_wp2_with (go_at_call 45; refine (withinI _ _ _ _).mono ?_; rintro e w' ⟨rfl, rfl⟩)
          go_ret
          exact ⟨Pl.ret_bool HF.out.symm, HB4.out⟩
        cases k3 : inB x.image 1 1000000
        · have HF : Hid (R = false) := by
            show R = false
            rw [HR2.out]
            exact allTo_false (k := q) (by rw [HP'.out, k1, k2, k3]; rfl) _ hlt
          go_wp2_with (go_at_call 45; refine (withinI _ _ _ _).mono ?_; rintro e w' ⟨rfl, rfl⟩)
          go_ret
          exact ⟨Pl.ret_bool HF.out.symm, HB4.out⟩
        go_wp2_with fail
        refine (withinI _ _ _ _).mono ?_
        rintro e w' ⟨rfl, rfl⟩
        go_wp2_with fail
        refine (withinI _ _ _ _).mono ?_
        rintro e w' ⟨rfl, rfl⟩
        go_wp2_with fail
        refine (standsI K x mb w3 HP4.out HH.out.nmd HSZ.out.2).mono ?_
        rintro e w5 ⟨rfl, hb5⟩
        have HB5 := hid (blw_trans HB4.out hb5)
        have HW5 := hid (blw_trans HW4.out hb5)
        clear yz y0 y1 y2 y3 zz z0 z1 z2 z3 z4 z5 z6 hb5
        cases k4 : standsOk K x
        · have HF : Hid (R = false) := by
            show R = false
            rw [HR2.out]
            exact allTo_false (k := q) (by rw [HP'.out, k1, k2, k3, k4]; rfl) _ hlt
          go_wp2
          go_ret
          exact ⟨Pl.ret_bool HF.out.symm, HB5.out⟩
        have HNx : Hid (allTo (fun i => cpOk K (K.cps.getD i Cp.none)) (q + 1) = true) := allTo_step HQ.out (by rw [HP'.out, k1, k2, k3, k4]; rfl)
        go_wp2
        go_roundw
        case rel => exact ⟨q + 1, by omega, by go_num, HNx.out, HW5.out⟩
        case measure => simp [intOf]; omega
    · have HF : Hid (R = true) := by
        show R = true
        rw [HR2.out, cpsAll]
        have : q = K.cps.length := by omega
        rw [← this]; exact HQ.out
      go_wp2
      go_ret
      exact ⟨Pl.ret_bool HF.out.symm, HB2.out⟩

end Go.Proofs.Ytfmcdpgeplkcgaa
