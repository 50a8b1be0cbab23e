/-
  Stewards: a book that is valid: the program's StewValid.
-/
import Derived.Test.YtclagbakddkjcaaGreatPgD
import Derived.Test.YtclagbakddkjcaaGreatPgM
import Derived.Test.YtclagbakddkjcaaGreatStC
namespace Go.Proofs.YtclagbakddkjcaaGreat
open Go.RowKit Go.Deep

def standsOk (K : SBk) (c : Cp) : Bool := inB c.state 1 4 && (if c.state = 1 then same c.berth ByteArray.empty else decide (0 ≤ btIx K.bts c.berth))
theorem cpOk_eq (K : SBk) (c : Cp) : cpOk K c = (decide (0 ≤ svIx K.svcs c.svc) && inB c.num 1 ((svGet K.svcs (svIx K.svcs c.svc)).next - 1) && inB c.ver 1 K.now && inB c.image 1 1000000 && standsOk K c) := by
  unfold cpOk standsOk
  simp only [Bool.and_assoc]

set_option maxHeartbeats 4000000 in
theorem standsI (K : SBk) (c : Cp) (mb : Nat) (w : World) (h : PlAt K w mb) (hn : Nmd K) (hc : c.berth.size ≤ maxLen) :
    Calls Tryz.prog 78 #[.map (some mb), .agg #[.string c.svc, .int .i64 c.num, .int .i64 c.ver, .int .i64 c.image, .int .i64 c.state, .bool c.ending, .string c.berth]] w fun e w' => e = .returned (.bool (standsOk K c)) ∧ Below w.heap.size w w' := by
  obtain ⟨R, hR⟩ : ∃ R, R = standsOk K c := ⟨_, rfl⟩
  have HR := hid hR
  rw [← hR]
  clear hR
  obtain ⟨wa, hwa⟩ : ∃ wa, wa = w.alloc (.cells #[.string c.svc, .int .i64 c.num, .int .i64 c.ver, .int .i64 c.image, .int .i64 c.state, .bool c.ending, .string c.berth] 81) := ⟨_, rfl⟩
  have HB : Hid (Below w.heap.size w wa) := by show Below _ _ _; rw [hwa]; exact blw_alloc (Below.refl _ _) _
  have HY : Hid (Box7 wa w.heap.size (.string c.svc) (.int .i64 c.num) (.int .i64 c.ver) (.int .i64 c.image) (.int .i64 c.state) (.bool c.ending) (.string c.berth)) := by show Box7 _ _ _ _ _ _ _ _ _; rw [hwa]; exact Box7.new' w _ _ _ _ _ _ _ _ _ rfl
  have HP := hid (h.later HB.out)
  have HL := hid (look_bt HP.out hn c.berth hc)
  clear h hn hc
  go_enter Tryz.func78, Tryz.ntmps78
  go_upto_region 1 with fail
  rw [← hwa]
  clear hwa
  obtain ⟨zz, z0, z1, z2, z3, z4, z5, z6⟩ := HY.out
  cases k1 : (c.state == 1)
  · cases k2 : (c.state == 2) <;> cases k3 : (c.state == 3) <;> cases k4 : (c.state == 4)
    all_goals first
      | (exfalso; simp at k2 k3 k4; omega)
      | (have HF : Hid (R = false) := by
           show R = false
           rw [HR.out]
           have q : inB c.state 1 4 = false := by
             rw [Bool.eq_false_iff]; unfold inB; simp at k1 k2 k3 k4 ⊢; omega
           unfold standsOk; rw [q]; rfl
         clear HR HL
         go_wp2
         go_ret
         exact ⟨Pl.ret_bool HF.out.symm, HB.out⟩)
      | (have HF : Hid (R = decide (0 ≤ btIx K.bts c.berth)) := by
           show R = _
           rw [HR.out]
           have q : inB c.state 1 4 = true := by
             unfold inB; simp at k1 k2 k3 k4 ⊢; omega
           have q1 : ¬ c.state = 1 := by simpa using k1
           unfold standsOk; rw [q, if_neg q1]; rfl
         clear HR
         rcases HL.out with ⟨e, hlk⟩ | ⟨i, e, hlk⟩
         · have HG : Hid (R = false) := by show R = false; rw [HF.out, e]; rfl
           clear HF HL e
           go_wp2
           go_ret
           exact ⟨Pl.ret_bool HG.out.symm, HB.out⟩
         · have HG : Hid (R = true) := by show R = true; rw [HF.out]; exact decide_eq_true e
           clear HF HL e
           go_wp2
           go_ret
           exact ⟨Pl.ret_bool HG.out.symm, HB.out⟩)
  · have HF : Hid (R = same c.berth ByteArray.empty) := by
      show R = _
      rw [HR.out]
      have q1 : c.state = 1 := by simpa using k1
      have q : inB c.state 1 4 = true := by rw [q1]; rfl
      unfold standsOk; rw [q, if_pos q1]; rfl
    clear HR HL
    cases k5 : (c.berth.toList == ([] : List UInt8))
    · have HG : Hid (R = false) := by show R = false; rw [HF.out, same_empty]; cases e : c.berth.toList <;> simp_all
      clear HF
      go_wp2
      go_ret
      exact ⟨Pl.ret_bool HG.out.symm, HB.out⟩
    · have HG : Hid (R = true) := by show R = true; rw [HF.out, same_empty]; cases e : c.berth.toList <;> simp_all
      clear HF
      go_wp2
      go_ret
      exact ⟨Pl.ret_bool HG.out.symm, HB.out⟩

def cpsAll (K : SBk) : Bool := allTo (fun i => cpOk K (K.cps.getD i Cp.none)) K.cps.length

set_option maxRecDepth 8000 in
set_option maxHeartbeats 40000000 in
theorem copiesI (K : SBk) (a0 a1 a2 : Option Addr) (c0 c1 c2 : Nat) (w : World) (h : SBkV w a0 a1 a2 K) (hap : Apart K) (hN : ∀ i, i < K.svcs.length → 1 ≤ (K.svcs.getD i Sv.none).next ∧ (K.svcs.getD i Sv.none).next ≤ 1000000) :
    Calls Tryz.prog 55 #[.agg #[.int .i64 K.now, .slice a0 K.svcs.length c0, .slice a1 K.cps.length c1, .slice a2 K.bts.length c2]] w fun e w' => e = .returned (.bool (decide (K.cps.length ≤ 200) && ascCp K.cps && cpsAll K)) ∧ Below w.heap.size w w' := by
  have HH := hid h
  have HA := hid hap
  have HN := hid hN
  have hl := h.c.len
  have hl0 := h.s.len
  unfold maxLen at hl hl0
  clear h hap hN
  obtain ⟨R, hR⟩ : ∃ R, R = (decide (K.cps.length ≤ 200) && ascCp K.cps && cpsAll K) := ⟨_, rfl⟩
  have HR := hid hR
  rw [← hR]
  clear hR
  obtain ⟨wa, hwa⟩ : ∃ wa, wa = w.alloc (.cells #[.int .i64 K.now, .slice a0 K.svcs.length c0, .slice a1 K.cps.length c1, .slice a2 K.bts.length c2] 37) := ⟨_, rfl⟩
  have HB : Hid (Below w.heap.size w wa) := by show Below _ _ _; rw [hwa]; exact blw_alloc (Below.refl _ _) _
  have HX : Hid (Box4 wa w.heap.size (.int .i64 K.now) (.slice a0 K.svcs.length c0) (.slice a1 K.cps.length c1) (.slice a2 K.bts.length c2)) := by show Box4 _ _ _ _ _ _; rw [hwa]; exact Box4.new' w _ _ _ _ _ _ rfl
  go_enter Tryz.func55, Tryz.ntmps55
  go_upto_region 1 with fail
  rw [← hwa]
  clear hwa
  obtain ⟨yz, y0, y1, y2, y3⟩ := HX.out
  rcases (Decidable.em (K.cps.length ≤ 200)).symm with g0 | g0
  · have HF : Hid (R = false) := by show R = false; rw [HR.out]; simp [g0]
    go_wp2
    go_ret
    exact ⟨Pl.ret_bool HF.out.symm, HB.out⟩
  go_wp2_with fail
  refine (ascCpI a1 c1 K.cps wa (HH.out.later HB.out).c).mono ?_
  rintro e w0 ⟨rfl, hb0⟩
  have HB0 := hid (blw_trans HB.out hb0)
  have HX0 := hid (HX.out.later hb0)
  clear yz y0 y1 y2 y3 hb0 HX HB
  obtain ⟨yz, y0, y1, y2, y3⟩ := HX0.out
  cases k0 : ascCp K.cps
  · have HF : Hid (R = false) := by show R = false; rw [HR.out, k0]; simp
    go_wp2
    go_ret
    exact ⟨Pl.ret_bool HF.out.symm, HB0.out⟩
  have HR2 : Hid (R = cpsAll K) := by show R = _; rw [HR.out, k0]; simp [g0]
  clear HR
  go_wp2_with fail
  refine (placesI K a0 a1 a2 c0 c1 c2 w0 (HH.out.later HB0.out) HA.out).mono ?_
  rintro e w1 ⟨mb, rfl, hpl, hb1⟩
  have HB1 := hid (blw_trans HB0.out hb1)
  have HX1 := hid (HX0.out.later hb1)
  have HP1 := hid hpl
  clear yz y0 y1 y2 y3 hb1 HX0 HB0 hpl
  obtain ⟨yz, y0, y1, y2, y3⟩ := HX1.out
  go_wp2
  clear yz y0 y1 y2 y3 k0
  go_loopw [23] (fun i wr => ∃ q : Nat, q ≤ K.cps.length ∧ i = .int .i64 q ∧ allTo (fun i => cpOk K (K.cps.getD i Cp.none)) q = true ∧ Below w1.heap.size w1 wr) (fun i _ => K.cps.length - (intOf i).toNat)
  case atStart => exact ⟨0, Nat.zero_le _, rfl, rfl, Below.refl _ _⟩
  case round =>
    obtain ⟨q, hq, rfl, ha, hW⟩ := hrel
    have HQ := hid ha
    have HB2 := hid (blw_trans HB1.out hW)
    have HX2 := hid (HX1.out.later hW)
    have HP2 := hid (HP1.out.later hW)
    have HWW := hid hW
    clear ha hW
    by_cases hlt : q < K.cps.length
    · obtain ⟨b, off, ha, hbl, hf⟩ := (HH.out.later HB2.out).c.at_ q hlt
      subst ha
      obtain ⟨x, hx⟩ : ∃ x, x = K.cps.getD q Cp.none := ⟨_, rfl⟩
      rw [← hx] at hf
      have HSZ := hid hf.sized
      obtain ⟨e0, e1, e2, e3, e4, e5, e6, _⟩ := hf
      have hm0 : (0 : Int) ≤ (q : Int) := by omega
      have hm3 : (q : Int) < (K.cps.length : Int) := by omega
      have HP : Hid (cpOk K (K.cps.getD q Cp.none) = (decide (0 ≤ svIx K.svcs x.svc) && inB x.num 1 ((svGet K.svcs (svIx K.svcs x.svc)).next - 1) && inB x.ver 1 K.now && inB x.image 1 1000000 && standsOk K x)) := by show _ = _; rw [← hx]; exact cpOk_eq K x
      clear hx
      obtain ⟨w2, hw2⟩ : ∃ w2, w2 = wr.alloc (.cells #[.string x.svc, .int .i64 x.num, .int .i64 x.ver, .int .i64 x.image, .int .i64 x.state, .bool x.ending, .string x.berth] 81) := ⟨_, rfl⟩
      have HW2 : Hid (Below wr.heap.size wr w2) := by show Below _ _ _; rw [hw2]; exact blw_alloc (Below.refl _ _) _
      have HY2 : Hid (Box7 w2 wr.heap.size (.string x.svc) (.int .i64 x.num) (.int .i64 x.ver) (.int .i64 x.image) (.int .i64 x.state) (.bool x.ending) (.string x.berth)) := by show Box7 _ _ _ _ _ _ _ _ _; rw [hw2]; exact Box7.new' wr _ _ _ _ _ _ _ _ _ rfl
      have HX3 := hid (HX2.out.later HW2.out)
      have HP3 := hid (HP2.out.later HW2.out)
      have HB3 := hid (blw_trans HB2.out HW2.out)
      go_upto_region 7 with fail
      rw [← hw2]
      clear hw2 e0 e1 e2 e3 e4 e5 e6 hbl
      obtain ⟨E, hE⟩ : ∃ E, E = wr.heap.size := ⟨_, rfl⟩
      rw [← hE] at HY2 ⊢
      clear hE
      have hNE := pst_some w2
      rcases look_sv HP3.out HH.out.nmd HA.out x.svc HSZ.out.1 with ⟨hix, hlk⟩ | ⟨i, hi, hix, hnm, hlk⟩
      · have HF : Hid (R = false) := by
          show R = false
          rw [HR2.out]
          exact allTo_false (k := q) (by rw [HP.out, hix]; rfl) _ hlt
        clear hix
        obtain ⟨zz, z0, z1, z2, z3, z4, z5, z6⟩ := HY2.out
        go_upto_region 8 with fail
        clear hlk zz z0 z1 z2 z3 z4 z5 z6
        refine region_class w2 (Below.refl _ _) (by kernel_rfl) (by kernel_rfl) ?_
        repeat (first
          | go_big_quiet_skip
          | (go_big_quiet_want; go_big_quiet_op; first | go_big_quiet_on | (apply Exists.intro; refine ⟨fun px => ?_, ?_⟩; (focus (go_at_call 67; refine (withinI _ _ _ _).mono ?_; rintro e w' ⟨he, hb⟩; exact ⟨he, px, hb.symm⟩)); go_big_quiet_on)))
        refine wpQuiet_nil ?_
        intro _ hw'
        obtain ⟨x6, hw''⟩ := hw'
        subst hw''
        go_wp2
        go_ret
        exact ⟨Pl.ret_bool HF.out.symm, blw_trans HB3.out x6.ok⟩
      · clear hnm
        obtain ⟨nx, hnx⟩ : ∃ nx, nx = (K.svcs.getD i Sv.none).next := ⟨_, rfl⟩
        have HP' : Hid (cpOk K (K.cps.getD q Cp.none) = (inB x.num 1 (nx - 1) && inB x.ver 1 K.now && inB x.image 1 1000000 && standsOk K x)) := by
          show _ = _
          rw [HP.out, hix, hnx]
          have e : svGet K.svcs (i : Int) = K.svcs.getD i Sv.none := by unfold svGet; rw [Int.toNat_natCast]
          have e' : decide ((0 : Int) ≤ (i : Int)) = true := decide_eq_true (by omega)
          rw [e, e']; rfl
        clear HP hix
        obtain ⟨hn0, hn1⟩ := HN.out i hi
        rw [← hnx] at hn0 hn1
        obtain ⟨bs, offs, has, hbls, hfs⟩ := (HH.out.later HB3.out).s.at_ i hi
        subst has
        have f7 := hfs.c7
        rw [← hnx] at f7
        clear hfs hnx
        obtain ⟨zz, z0, z1, z2, z3, z4, z5, z6⟩ := HY2.out
        go_upto_region 8 with fail
        clear hlk
        obtain ⟨yz, y0, y1, y2, y3⟩ := HX3.out
        have ZZ : ∀ px : Pst w2, E < px.W.heap.size := fun px => px.size zz
        have Z1 : ∀ px : Pst w2, px.W.cell? ⟨E, 1, none⟩ = some (.int .i64 x.num) := fun px => px.cell z1 zz
        have YZ : ∀ px : Pst w2, w.heap.size < px.W.heap.size := fun px => px.size yz
        have Y1 : ∀ px : Pst w2, px.W.cell? ⟨w.heap.size, 1, none⟩ = some (.slice (some ⟨bs, offs, none⟩) K.svcs.length c0) := fun px => px.cell y1 yz
        have BZ : ∀ px : Pst w2, bs < px.W.heap.size := fun px => px.size hbls
        have F7 : ∀ px : Pst w2, px.W.cell? ⟨bs, offs + i * 13 + 7, none⟩ = some (.int .i64 nx) := fun px => px.cell f7 hbls
        have hi0 : (0 : Int) ≤ (i : Int) := by omega
        have hi3 : (i : Int) < (K.svcs.length : Int) := by omega
        clear zz z0 z1 z2 z3 z4 z5 z6 yz y0 y1 y2 y3 f7 hbls
        cases k1 : inB x.num 1 (nx - 1)
        · have HF : Hid (R = false) := by
            show R = false
            rw [HR2.out]
            exact allTo_false (k := q) (by rw [HP'.out, k1]; rfl) _ hlt
          refine region_class w2 (Below.refl _ _) (by kernel_rfl) (by kernel_rfl) ?_
          repeat (first
            | go_big_quiet_skip
            | (go_big_quiet_want; go_big_quiet_op; first | go_big_quiet_on | (apply Exists.intro; refine ⟨fun px => ?_, ?_⟩; (focus (go_at_call 67; refine (withinI _ _ _ _).mono ?_; rintro e w' ⟨he, hb⟩; exact ⟨he, px, hb.symm⟩)); go_big_quiet_on)))
          refine wpQuiet_nil ?_
          intro _ hw'
          obtain ⟨x6, hw''⟩ := hw'
          subst hw''
          go_wp2
          go_ret
          exact ⟨Pl.ret_bool HF.out.symm, blw_trans HB3.out x6.ok⟩
        refine region_class w2 (Below.refl _ _) (by kernel_rfl) (by kernel_rfl) ?_
        repeat (first
          | go_big_quiet_skip
          | (go_big_quiet_want; go_big_quiet_op; first | go_big_quiet_on | (apply Exists.intro; refine ⟨fun px => ?_, ?_⟩; (focus (go_at_call 67; refine (withinI _ _ _ _).mono ?_; rintro e w' ⟨he, hb⟩; exact ⟨he, px, hb.symm⟩)); go_big_quiet_on)))
        refine wpQuiet_nil ?_
        intro _ hw'
        obtain ⟨x6, hw''⟩ := hw'
        subst hw''
        clear ZZ Z1 YZ Y1 BZ F7 hNE
        obtain ⟨w3, hw3⟩ : ∃ w3, w3 = x6.W := ⟨_, rfl⟩
        have hb3 := x6.ok
        rw [← hw3] at hb3 ⊢
        clear hw3
        have HB4 := hid (blw_trans HB3.out hb3)
        have HY3 := hid (HY2.out.later hb3)
        have HX4 := hid (HX3.out.later hb3)
        have HP4 := hid (HP3.out.later hb3)
        have HW4 := hid (blw_trans (blw_trans HWW.out HW2.out) hb3)
        clear hb3
        obtain ⟨yz, y0, y1, y2, y3⟩ := HX4.out
        obtain ⟨zz, z0, z1, z2, z3, z4, z5, z6⟩ := HY3.out
        cases k2 : inB x.ver 1 K.now
        · have HF : Hid (R = false) := by
            show R = false
            rw [HR2.out]
            exact allTo_false (k := q) (by rw [HP'.out, k1, k2]; rfl) _ hlt
          go_wp2_with (go_at_call 67; refine (withinI _ _ _ _).mono ?_; rintro e w' ⟨rfl, rfl⟩)
          go_ret
          exact ⟨Pl.ret_bool HF.out.symm, HB4.out⟩
        cases k3 : inB x.image 1 1000000
        · have HF : Hid (R = false) := by
            show R = false
            rw [HR2.out]
            exact allTo_false (k := q) (by rw [HP'.out, k1, k2, k3]; rfl) _ hlt
          go_wp2_with (go_at_call 67; refine (withinI _ _ _ _).mono ?_; rintro e w' ⟨rfl, rfl⟩)
          go_ret
          exact ⟨Pl.ret_bool HF.out.symm, HB4.out⟩
        go_wp2_with fail
        refine (withinI _ _ _ _).mono ?_
        rintro e w' ⟨rfl, rfl⟩
        go_wp2_with fail
        refine (withinI _ _ _ _).mono ?_
        rintro e w' ⟨rfl, rfl⟩
        go_wp2_with fail
        refine (standsI K x mb w3 HP4.out HH.out.nmd HSZ.out.2).mono ?_
        rintro e w5 ⟨rfl, hb5⟩
        have HB5 := hid (blw_trans HB4.out hb5)
        have HW5 := hid (blw_trans HW4.out hb5)
        clear yz y0 y1 y2 y3 zz z0 z1 z2 z3 z4 z5 z6 hb5
        cases k4 : standsOk K x
        · have HF : Hid (R = false) := by
            show R = false
            rw [HR2.out]
            exact allTo_false (k := q) (by rw [HP'.out, k1, k2, k3, k4]; rfl) _ hlt
          go_wp2
          go_ret
          exact ⟨Pl.ret_bool HF.out.symm, HB5.out⟩
        have HNx : Hid (allTo (fun i => cpOk K (K.cps.getD i Cp.none)) (q + 1) = true) := allTo_step HQ.out (by rw [HP'.out, k1, k2, k3, k4]; rfl)
        go_wp2
        go_roundw
        case rel => exact ⟨q + 1, by omega, by go_num, HNx.out, HW5.out⟩
        case measure => simp [intOf]; omega
    · have HF : Hid (R = true) := by
        show R = true
        rw [HR2.out, cpsAll]
        have : q = K.cps.length := by omega
        rw [← this]; exact HQ.out
      go_wp2
      go_ret
      exact ⟨Pl.ret_bool HF.out.symm, HB2.out⟩

end Go.Proofs.YtclagbakddkjcaaGreat

namespace Go.Proofs.YtclagbakddkjcaaGreat
open Go.RowKit Go.Deep

theorem less_irrefl : ∀ l : List UInt8, Op.bytesLess l l = false
  | [] => rfl
  | x :: l => by unfold Op.bytesLess; simp [less_irrefl l]

/-- A comparison that is a strict order, 0 where two are the same. -/
structure LinCmp {α : Type} (c : α → α → Int) : Prop where
  z : ∀ x y, c x y = 0 ↔ x = y
  t : ∀ x y u, c x y < 0 → c y u < 0 → c x u < 0
  f : ∀ x y, 0 < c x y → c y x < 0

theorem bl_trans : ∀ x y u : List UInt8, Op.bytesLess x y = true → Op.bytesLess y u = true → Op.bytesLess x u = true
  | [], [], _, h, _ => by simp [Op.bytesLess] at h
  | _ :: _, [], _, h, _ => by simp [Op.bytesLess] at h
  | [], _ :: _, [], _, h => by simp [Op.bytesLess] at h
  | [], _ :: _, _ :: _, _, _ => rfl
  | _ :: _, _ :: _, [], _, h => by simp [Op.bytesLess] at h
  | a :: x, b :: y, c :: u, h1, h2 => by
    simp only [Op.bytesLess, Bool.or_eq_true, Bool.and_eq_true, decide_eq_true_eq, beq_iff_eq] at h1 h2 ⊢
    rcases h1 with h1 | ⟨h1, h1'⟩ <;> rcases h2 with h2 | ⟨h2, h2'⟩
    · exact Or.inl (UInt8.lt_trans h1 h2)
    · subst h2; exact Or.inl h1
    · subst h1; exact Or.inl h2
    · subst h1 h2; exact Or.inr ⟨rfl, bl_trans x y u h1' h2'⟩

theorem bl_total : ∀ x y : List UInt8, Op.bytesLess x y = false → x ≠ y → Op.bytesLess y x = true
  | [], [], _, h => absurd rfl h
  | _ :: _, [], _, _ => rfl
  | [], _ :: _, h, _ => by simp [Op.bytesLess] at h
  | a :: x, b :: y, h, hne => by
    simp only [Op.bytesLess, Bool.or_eq_false_iff, Bool.and_eq_false_iff, decide_eq_false_iff_not, beq_eq_false_iff_ne] at h
    simp only [Op.bytesLess, Bool.or_eq_true, Bool.and_eq_true, decide_eq_true_eq, beq_iff_eq]
    by_cases e : a = b
    · subst e
      refine Or.inr ⟨rfl, bl_total x y ?_ ?_⟩
      · rcases h.2 with h' | h'
        · exact absurd rfl h'
        · exact h'
      · intro e; subst e; exact hne rfl
    · refine Or.inl ?_
      have h1 := h.1
      rcases Nat.lt_trichotomy a.toNat b.toNat with q | q | q
      · exact absurd (UInt8.lt_iff_toNat_lt.2 q) h1
      · exact absurd (UInt8.toNat_inj.1 q) e
      · exact UInt8.lt_iff_toNat_lt.2 q

def kc (a b : List UInt8) : Int := if Op.bytesLess a b then -1 else if a == b then 0 else 1

theorem kc_neg (a b : List UInt8) : kc a b < 0 ↔ Op.bytesLess a b = true := by
  unfold kc; split
  · simp_all
  · split <;> simp_all

theorem kc_lin : LinCmp kc where
  z x y := by
    unfold kc
    constructor
    · intro h
      split at h
      · cases h
      · split at h
        · rename_i e; simpa using e
        · cases h
    · intro e
      subst e
      rw [less_irrefl]; simp
  t x y u h1 h2 := (kc_neg _ _).2 (bl_trans x y u ((kc_neg _ _).1 h1) ((kc_neg _ _).1 h2))
  f x y h := by
    refine (kc_neg _ _).2 (bl_total x y ?_ ?_)
    · cases e : Op.bytesLess x y
      · rfl
      · have := (kc_neg x y).2 e; omega
    · intro e
      subst e
      unfold kc at h
      rw [less_irrefl] at h; simp at h

def lex {α β : Type} (c : α → α → Int) (d : β → β → Int) (x y : α × β) : Int := if c x.1 y.1 = 0 then d x.2 y.2 else c x.1 y.1

theorem lex_lin {α β : Type} {c : α → α → Int} {d : β → β → Int} (hc : LinCmp c) (hd : LinCmp d) : LinCmp (lex c d) where
  z x y := by
    obtain ⟨a, b⟩ := x
    obtain ⟨a', b'⟩ := y
    unfold lex
    simp only [Prod.mk.injEq]
    split
    · rename_i h
      have := (hc.z _ _).1 h
      rw [hd.z]
      exact ⟨fun h => ⟨this, h⟩, fun h => h.2⟩
    · rename_i h
      exact ⟨fun e => absurd e h, fun e => absurd ((hc.z _ _).2 e.1) h⟩
  t x y u h1 h2 := by
    unfold lex at h1 h2 ⊢
    split at h1
    · rename_i e1
      have e1' := (hc.z _ _).1 e1
      split at h2
      · rename_i e2
        have e2' := (hc.z _ _).1 e2
        rw [if_pos ((hc.z _ _).2 (e1'.trans e2'))]
        exact hd.t _ _ _ h1 h2
      · rename_i e2
        rw [e1', if_neg e2]; exact h2
    · rename_i e1
      split at h2
      · rename_i e2
        have e2' := (hc.z _ _).1 e2
        rw [← e2', if_neg e1]; exact h1
      · have := hc.t _ _ _ h1 h2
        rw [if_neg (by omega)]; exact this
  f x y h := by
    unfold lex at h ⊢
    split at h
    · rename_i e
      have e' := (hc.z _ _).1 e
      rw [if_pos ((hc.z _ _).2 e'.symm)]
      exact hd.f _ _ h
    · have := hc.f _ _ h
      rw [if_neg (by omega)]; exact this

/-- A row of keys in order. -/
theorem row_lt {α : Type} {c : α → α → Int} (hc : LinCmp c) {g : Nat → α} {n : Nat} (h : ∀ i, i < n - 1 → c (g i) (g (i + 1)) < 0) : ∀ i j, i < j → j < n → c (g i) (g j) < 0 := by
  intro i j hij
  induction j with
  | zero => omega
  | succ j ih =>
    intro hj
    by_cases e : i = j
    · subst e; exact h i (by omega)
    · exact hc.t _ _ _ (ih (by omega) (by omega)) (h j (by omega))

theorem row_ge {α : Type} {c : α → α → Int} (hc : LinCmp c) {g : Nat → α} {n : Nat} (h : ∀ i, i < n - 1 → c (g i) (g (i + 1)) < 0) {t : α} {p : Nat} (hp : 0 ≤ c (g p) t) : ∀ i, p ≤ i → i < n → 0 ≤ c (g i) t := by
  intro i hi hn
  by_cases e : p = i
  · subst e; exact hp
  · have h1 := row_lt hc h p i (by omega) hn
    rcases Int.lt_trichotomy (c (g p) t) 0 with q | q | q
    · omega
    · have := (hc.z _ _).1 q
      rw [this] at h1
      rcases Int.lt_trichotomy (c (g i) t) 0 with r | r | r
      · have := hc.t _ _ _ h1 r
        have := (hc.z t t).2 rfl
        omega
      · omega
      · omega
    · have h2 := hc.f _ _ q
      have h3 := hc.t _ _ _ h2 h1
      rcases Int.lt_trichotomy (c (g i) t) 0 with r | r | r
      · have := hc.t _ _ _ h3 r
        have := (hc.z t t).2 rfl
        omega
      · omega
      · omega

theorem row_hit {α : Type} {c : α → α → Int} (hc : LinCmp c) {g : Nat → α} {n : Nat} (h : ∀ i, i < n - 1 → c (g i) (g (i + 1)) < 0) {t : α} {p i : Nat} (hp : ∀ j, j < p → c (g j) t < 0) (hp' : p < n → 0 ≤ c (g p) t) (hi : i < n) (he : g i = t) : p = i := by
  have hz : c (g i) t = 0 := (hc.z _ _).2 he
  rcases Nat.lt_trichotomy p i with q | q | q
  · have h1 := row_lt hc h p i q hi
    rw [he] at h1
    have := hp' (by omega)
    omega
  · exact q
  · have := hp i q; omega


/-- The place of a key: all ahead of it are less. -/
theorem num_lin : LinCmp numCmp where
  z x y := by unfold numCmp; split <;> (try split) <;> omega
  t x y u h1 h2 := by
    unfold numCmp at h1 h2 ⊢
    split at h1 <;> (try split at h1) <;> split at h2 <;> (try split at h2) <;> split <;> (try split) <;> omega
  f x y h := by
    unfold numCmp at h ⊢
    split at h <;> (try split at h) <;> split <;> (try split) <;> omega

theorem cp_lex (a : ByteArray) (n : Int) (b : ByteArray) (m : Int) : cpCmp a n b m = lex kc numCmp (a.toList, n) (b.toList, m) := rfl
theorem key_kc (a b : ByteArray) : keyCmp a b = kc a.toList b.toList := rfl

theorem asc_apart {α : Type} {c : α → α → Int} (hc : LinCmp c) {g : Nat → α} {n : Nat} (h : ∀ i, i < n - 1 → c (g i) (g (i + 1)) < 0) {i j : Nat} (hi : i < n) (hj : j < n) (e : g i = g j) : i = j := by
  rcases Nat.lt_trichotomy i j with q | q | q
  · have := row_lt hc h i j q hj; have := (hc.z _ _).2 e; omega
  · exact q
  · have := row_lt hc h j i q hi; have := (hc.z _ _).2 e.symm; omega

theorem ascSv_iff (l : List Sv) : ascSv l = true ↔ ∀ i, i < l.length - 1 → kc ((fun i => (l.getD i Sv.none).nm.toList) i) ((fun i => (l.getD i Sv.none).nm.toList) (i + 1)) < 0 := by
  unfold ascSv
  rw [allTo_iff]
  exact ⟨fun h i hi => of_decide_eq_true (h i hi), fun h i hi => decide_eq_true (h i hi)⟩
theorem ascBt_iff (l : List Bt) : ascBt l = true ↔ ∀ i, i < l.length - 1 → kc ((fun i => (l.getD i Bt.none).nm.toList) i) ((fun i => (l.getD i Bt.none).nm.toList) (i + 1)) < 0 := by
  unfold ascBt
  rw [allTo_iff]
  exact ⟨fun h i hi => of_decide_eq_true (h i hi), fun h i hi => decide_eq_true (h i hi)⟩
theorem ascCp_iff (l : List Cp) : ascCp l = true ↔ ∀ i, i < l.length - 1 → lex kc numCmp ((fun i => ((l.getD i Cp.none).svc.toList, (l.getD i Cp.none).num)) i) ((fun i => ((l.getD i Cp.none).svc.toList, (l.getD i Cp.none).num)) (i + 1)) < 0 := by
  unfold ascCp
  rw [allTo_iff]
  exact ⟨fun h i hi => of_decide_eq_true (h i hi), fun h i hi => decide_eq_true (h i hi)⟩

theorem apart_of {K : SBk} (h1 : ascSv K.svcs = true) (h2 : ascBt K.bts = true) : Apart K :=
  ⟨fun _ _ hi hj e => asc_apart kc_lin ((ascSv_iff _).1 h1) hi hj (congrArg ByteArray.toList e), fun _ _ hi hj e => asc_apart kc_lin ((ascBt_iff _).1 h2) hi hj (congrArg ByteArray.toList e)⟩
theorem next_of {K : SBk} (h : svsAll K = true) : ∀ i, i < K.svcs.length → 1 ≤ (K.svcs.getD i Sv.none).next ∧ (K.svcs.getD i Sv.none).next ≤ 1000000 := by
  intro i hi
  have q := (allTo_iff _ _).1 h i hi
  simp only [svOk, inB, Bool.and_eq_true, decide_eq_true_eq] at q
  omega

theorem keyCmp_neg (a b : ByteArray) : decide (keyCmp a b < 0) = Pl.less a b := by
  rw [Bool.eq_iff_iff, decide_eq_true_eq]; exact kc_neg _ _
theorem cpCmp_neg (a b : Cp) : decide (cpCmp a.svc a.num b.svc b.num < 0) = ahead a b := by
  rw [Bool.eq_iff_iff, decide_eq_true_eq]
  unfold ahead
  rw [Bool.or_eq_true, Bool.and_eq_true, decide_eq_true_eq]
  rw [cp_lex]
  unfold lex
  show (if kc a.svc.toList b.svc.toList = 0 then numCmp a.num b.num else kc a.svc.toList b.svc.toList) < 0 ↔ Op.bytesLess a.svc.toList b.svc.toList = true ∨ (a.svc.toList == b.svc.toList) = true ∧ a.num < b.num
  split
  · rename_i e
    have e' := (kc_lin.z _ _).1 e
    rw [e', less_irrefl]
    simp only [Bool.false_eq_true, false_or, beq_self_eq_true, true_and]
    unfold numCmp; split <;> (try split) <;> omega
  · rename_i e
    rw [kc_neg]
    constructor
    · exact Or.inl
    · rintro (h | ⟨h, _⟩)
      · exact h
      · exact absurd ((kc_lin.z _ _).2 (by simpa using h)) e

theorem all_both (p : Nat → Bool) (q : Nat → Nat → Bool) : ∀ n, allTo (fun i => p i && (decide (i = 0) || q (i - 1) i)) n = (allTo (fun i => q i (i + 1)) (n - 1) && allTo p n)
  | 0 => rfl
  | n + 1 => by
    rw [allTo, all_both p q n, allTo]
    cases n with
    | zero => simp [allTo]
    | succ m =>
      have e1 : allTo (fun i => q i (i + 1)) (m + 1 + 1 - 1) = (allTo (fun i => q i (i + 1)) m && q m (m + 1)) := rfl
      have e2 : decide (m + 1 = 0) = false := by simp
      have e3 : m + 1 - 1 = m := rfl
      rw [e1, e2, e3, Bool.false_or]
      generalize allTo p (m + 1) = z
      cases allTo (fun i => q i (i + 1)) m <;> cases z <;> cases p (m + 1) <;> cases q m (m + 1) <;> rfl

theorem svsOk_eq (K : SBk) : svsOk K = (ascSv K.svcs && svsAll K) := by
  unfold svsOk ascSv svsAll
  rw [all_both (fun i => svOk (K.svcs.getD i Sv.none) K.now) (fun i j => Pl.less (K.svcs.getD i Sv.none).nm (K.svcs.getD j Sv.none).nm)]
  congr 1
  exact allTo_congr fun i _ => (keyCmp_neg _ _).symm
theorem btsOk_eq (K : SBk) : btsOk K = (ascBt K.bts && btsAll K) := by
  unfold btsOk ascBt btsAll
  rw [all_both (fun i => snmOk (K.bts.getD i Bt.none).nm) (fun i j => Pl.less (K.bts.getD i Bt.none).nm (K.bts.getD j Bt.none).nm)]
  congr 1
  exact allTo_congr fun i _ => (keyCmp_neg _ _).symm
theorem cpsOk_eq (K : SBk) : cpsOk K = (ascCp K.cps && cpsAll K) := by
  unfold cpsOk ascCp cpsAll
  rw [all_both (fun i => cpOk K (K.cps.getD i Cp.none)) (fun i j => ahead (K.cps.getD i Cp.none) (K.cps.getD j Cp.none))]
  congr 1
  exact allTo_congr fun i _ => (cpCmp_neg _ _).symm

/-- The four checks. -/
def chk (K : SBk) : Nat → Bool
  | 0 => inB K.now 0 1000000
  | 1 => decide (K.svcs.length ≤ 8) && ascSv K.svcs && svsAll K
  | 2 => decide (K.bts.length ≤ 6) && ascBt K.bts && btsAll K
  | _ => decide (K.cps.length ≤ 200) && ascCp K.cps && cpsAll K
theorem sbOk_eq (K : SBk) : sbOk K = allTo (chk K) 4 := by
  unfold sbOk
  rw [svsOk_eq, btsOk_eq, cpsOk_eq]
  simp only [allTo, chk, Bool.true_and]
  cases inB K.now 0 1000000 <;> cases decide (K.svcs.length ≤ 8) <;> cases decide (K.bts.length ≤ 6) <;> cases decide (K.cps.length ≤ 200) <;> cases ascSv K.svcs <;> cases svsAll K <;> cases ascBt K.bts <;> cases btsAll K <;> cases ascCp K.cps <;> cases cpsAll K <;> rfl

end Go.Proofs.YtclagbakddkjcaaGreat

namespace Go.Proofs.YtclagbakddkjcaaGreat
open Go.RowKit Go.Deep

set_option maxRecDepth 8000 in
set_option maxHeartbeats 40000000 in
theorem stewValidV (K : SBk) (a0 a1 a2 : Option Addr) (c0 c1 c2 : Nat) (w : World) (h : SBkV w a0 a1 a2 K) :
    Calls Tryz.prog 25 #[.agg #[.int .i64 K.now, .slice a0 K.svcs.length c0, .slice a1 K.cps.length c1, .slice a2 K.bts.length c2]] w fun e w' => e = .returned (.bool (sbOk K)) ∧ Below w.heap.size w w' := by
  have HH := hid h
  clear h
  obtain ⟨R, hR⟩ : ∃ R, R = sbOk K := ⟨_, rfl⟩
  have HR := hid hR
  rw [← hR]
  clear hR
  obtain ⟨wa, hwa⟩ : ∃ wa, wa = w.alloc (.cells #[.int .i64 K.now, .slice a0 K.svcs.length c0, .slice a1 K.cps.length c1, .slice a2 K.bts.length c2] 37) := ⟨_, rfl⟩
  have HB : Hid (Below w.heap.size w wa) := by show Below _ _ _; rw [hwa]; exact blw_alloc (Below.refl _ _) _
  have HX : Hid (Box4 wa w.heap.size (.int .i64 K.now) (.slice a0 K.svcs.length c0) (.slice a1 K.cps.length c1) (.slice a2 K.bts.length c2)) := by show Box4 _ _ _ _ _ _; rw [hwa]; exact Box4.new' w _ _ _ _ _ _ rfl
  go_enter Tryz.func25, Tryz.ntmps25
  go_upto_region 1 with fail
  rw [← hwa]
  clear hwa
  obtain ⟨wb, hwb⟩ : ∃ wb, wb = wa.alloc (.cells #[.func (.func 52) #[] #[], .func (.func 53) #[] #[], .func (.func 54) #[] #[], .func (.func 55) #[] #[]] 52) := ⟨_, rfl⟩
  obtain ⟨E, hE⟩ : ∃ E, E = wa.heap.size := ⟨_, rfl⟩
  have hab : Below wa.heap.size wa wb := by rw [hwb]; exact blw_alloc (Below.refl _ _) _
  have HBb := hid (blw_trans HB.out hab)
  have HXb := hid (HX.out.later hab)
  have HFb : Hid (Box4 wb E (.func (.func 52) #[] #[]) (.func (.func 53) #[] #[]) (.func (.func 54) #[] #[]) (.func (.func 55) #[] #[])) := by show Box4 _ _ _ _ _ _; rw [hwb, hE]; exact Box4.new' wa _ _ _ _ _ _ rfl
  clear hab
  go_wp2
  rw [← hwb, ← hE]
  clear hwb hE
  go_loopw [7] (fun i wr => ∃ q : Nat, q ≤ 4 ∧ i = .int .i64 q ∧ allTo (chk K) q = true ∧ Below wb.heap.size wb wr) (fun i _ => 4 - (intOf i).toNat)
  case atStart => exact ⟨0, Nat.zero_le _, rfl, rfl, Below.refl _ _⟩
  case round =>
    obtain ⟨q, hq, rfl, ha, hW⟩ := hrel
    have HQ := hid ha
    have HB2 := hid (blw_trans HBb.out hW)
    have HX2 := hid (HXb.out.later hW)
    have HF2 := hid (HFb.out.later hW)
    have HWW := hid hW
    clear ha hW
    have hq5 : q = 0 ∨ q = 1 ∨ q = 2 ∨ q = 3 ∨ q = 4 := by omega
    clear hq
    rcases hq5 with rfl | rfl | rfl | rfl | rfl
    · obtain ⟨yz, y0, y1, y2, y3⟩ := HX2.out
      obtain ⟨zz, z0, z1, z2, z3⟩ := HF2.out
      have HE : Hid (∀ b, chk K 0 = b → (b = false → R = false) ∧ (b = true → allTo (chk K) (0 + 1) = true)) := by
        intro b hb
        refine ⟨fun e => ?_, fun e => allTo_step HQ.out (hb.trans e)⟩
        rw [HR.out, sbOk_eq]
        exact allTo_false (k := 0) (hb.trans e) _ (by omega)
      go_wp2_with fail
      refine (nowI K _ _ _ wr).mono ?_
      rintro e w3 ⟨rfl, hb3⟩
      have HB3 := hid (blw_trans HB2.out hb3)
      have HW3 := hid (blw_trans HWW.out hb3)
      obtain ⟨r, hr⟩ : ∃ r, chk K 0 = r := ⟨_, rfl⟩
      have HG := hid (HE.out r hr)
      have hr' := hr
      simp only [chk] at hr'
      rw [hr']
      clear hb3 hr hr' HE yz y0 y1 y2 y3 zz z0 z1 z2 z3
      cases r
      · have HG1 := hid (HG.out.1 rfl)
        clear HG
        go_wp2
        go_ret
        exact ⟨Pl.ret_bool HG1.out.symm, HB3.out⟩
      · have HG1 := hid (HG.out.2 rfl)
        clear HG
        go_wp2
        go_roundw
        case rel => exact ⟨0 + 1, by omega, by go_num, HG1.out, HW3.out⟩
        case measure => simp [intOf]
    · obtain ⟨yz, y0, y1, y2, y3⟩ := HX2.out
      obtain ⟨zz, z0, z1, z2, z3⟩ := HF2.out
      have HE : Hid (∀ b, chk K 1 = b → (b = false → R = false) ∧ (b = true → allTo (chk K) (1 + 1) = true)) := by
        intro b hb
        refine ⟨fun e => ?_, fun e => allTo_step HQ.out (hb.trans e)⟩
        rw [HR.out, sbOk_eq]
        exact allTo_false (k := 1) (hb.trans e) _ (by omega)
      go_wp2_with fail
      refine (servicesI K a0 a1 a2 c0 c1 c2 wr (HH.out.later HB2.out)).mono ?_
      rintro e w3 ⟨rfl, hb3⟩
      have HB3 := hid (blw_trans HB2.out hb3)
      have HW3 := hid (blw_trans HWW.out hb3)
      obtain ⟨r, hr⟩ : ∃ r, chk K 1 = r := ⟨_, rfl⟩
      have HG := hid (HE.out r hr)
      have hr' := hr
      simp only [chk] at hr'
      rw [hr']
      clear hb3 hr hr' HE yz y0 y1 y2 y3 zz z0 z1 z2 z3
      cases r
      · have HG1 := hid (HG.out.1 rfl)
        clear HG
        go_wp2
        go_ret
        exact ⟨Pl.ret_bool HG1.out.symm, HB3.out⟩
      · have HG1 := hid (HG.out.2 rfl)
        clear HG
        go_wp2
        go_roundw
        case rel => exact ⟨1 + 1, by omega, by go_num, HG1.out, HW3.out⟩
        case measure => simp [intOf]
    · obtain ⟨yz, y0, y1, y2, y3⟩ := HX2.out
      obtain ⟨zz, z0, z1, z2, z3⟩ := HF2.out
      have HE : Hid (∀ b, chk K 2 = b → (b = false → R = false) ∧ (b = true → allTo (chk K) (2 + 1) = true)) := by
        intro b hb
        refine ⟨fun e => ?_, fun e => allTo_step HQ.out (hb.trans e)⟩
        rw [HR.out, sbOk_eq]
        exact allTo_false (k := 2) (hb.trans e) _ (by omega)
      go_wp2_with fail
      refine (berthsI K a0 a1 a2 c0 c1 c2 wr (HH.out.later HB2.out)).mono ?_
      rintro e w3 ⟨rfl, hb3⟩
      have HB3 := hid (blw_trans HB2.out hb3)
      have HW3 := hid (blw_trans HWW.out hb3)
      obtain ⟨r, hr⟩ : ∃ r, chk K 2 = r := ⟨_, rfl⟩
      have HG := hid (HE.out r hr)
      have hr' := hr
      simp only [chk] at hr'
      rw [hr']
      clear hb3 hr hr' HE yz y0 y1 y2 y3 zz z0 z1 z2 z3
      cases r
      · have HG1 := hid (HG.out.1 rfl)
        clear HG
        go_wp2
        go_ret
        exact ⟨Pl.ret_bool HG1.out.symm, HB3.out⟩
      · have HG1 := hid (HG.out.2 rfl)
        clear HG
        go_wp2
        go_roundw
        case rel => exact ⟨2 + 1, by omega, by go_num, HG1.out, HW3.out⟩
        case measure => simp [intOf]
    · obtain ⟨yz, y0, y1, y2, y3⟩ := HX2.out
      obtain ⟨zz, z0, z1, z2, z3⟩ := HF2.out
      have HAP : Hid (Apart K ∧ ∀ i, i < K.svcs.length → 1 ≤ (K.svcs.getD i Sv.none).next ∧ (K.svcs.getD i Sv.none).next ≤ 1000000) := by
        have h1 := (allTo_iff _ _).1 HQ.out 1 (by omega)
        have h2 := (allTo_iff _ _).1 HQ.out 2 (by omega)
        simp only [chk, Bool.and_eq_true] at h1 h2
        exact ⟨apart_of h1.1.2 h2.1.2, next_of h1.2⟩
      have HE : Hid (∀ b, chk K 3 = b → (b = false → R = false) ∧ (b = true → allTo (chk K) (3 + 1) = true)) := by
        intro b hb
        refine ⟨fun e => ?_, fun e => allTo_step HQ.out (hb.trans e)⟩
        rw [HR.out, sbOk_eq]
        exact allTo_false (k := 3) (hb.trans e) _ (by omega)
      go_wp2_with fail
      refine (copiesI K a0 a1 a2 c0 c1 c2 wr (HH.out.later HB2.out) HAP.out.1 HAP.out.2).mono ?_
      rintro e w3 ⟨rfl, hb3⟩
      have HB3 := hid (blw_trans HB2.out hb3)
      have HW3 := hid (blw_trans HWW.out hb3)
      obtain ⟨r, hr⟩ : ∃ r, chk K 3 = r := ⟨_, rfl⟩
      have HG := hid (HE.out r hr)
      have hr' := hr
      simp only [chk] at hr'
      rw [hr']
      clear hb3 hr hr' HE yz y0 y1 y2 y3 zz z0 z1 z2 z3
      cases r
      · have HG1 := hid (HG.out.1 rfl)
        clear HG
        go_wp2
        go_ret
        exact ⟨Pl.ret_bool HG1.out.symm, HB3.out⟩
      · have HG1 := hid (HG.out.2 rfl)
        clear HG
        go_wp2
        go_roundw
        case rel => exact ⟨3 + 1, by omega, by go_num, HG1.out, HW3.out⟩
        case measure => simp [intOf]
    · have HF : Hid (R = true) := by show R = true; rw [HR.out, sbOk_eq]; exact HQ.out
      go_wp2
      go_ret
      exact ⟨Pl.ret_bool HF.out.symm, HB2.out⟩

theorem stewValidI (K : SBk) (b0 b1 b2 : Nat) (w : World) (h : SBkIn w b0 b1 b2 K) :
    Calls Tryz.prog 25 #[.agg #[.int .i64 K.now, .slice (some ⟨b0, 0, none⟩) K.svcs.length K.svcs.length, .slice (some ⟨b1, 0, none⟩) K.cps.length K.cps.length, .slice (some ⟨b2, 0, none⟩) K.bts.length K.bts.length]] w fun e w' => e = .returned (.bool (sbOk K)) ∧ Below w.heap.size w w' :=
  stewValidV K _ _ _ _ _ _ w h.v

end Go.Proofs.YtclagbakddkjcaaGreat
