/-
  Stewards: done, by the specification.
-/
import Derived.Test.YtamhfnlogldpaaaStI
namespace Go.Proofs.Ytamhfnlogldpaaa
open Go.RowKit Go.Deep

def Rk.get (r : Rk) (j : Nat) : Int := match j with
  | 0 => r.r0
  | 1 => r.r1
  | 2 => r.r2
  | 3 => r.r3
  | _ => r.r4
def calmS (s : Sv) : Bool := !(decide (0 < s.per) && ((s.want != desired s) || (s.cool != 0)))
def doneB (K : SBk) : Bool := sbOk K && allTo (fun j => (rankOf K).get j == 0) 5 && allTo (fun i => calmS (K.svcs.getD i Sv.none)) K.svcs.length

set_option maxRecDepth 8000 in
set_option maxHeartbeats 40000000 in
theorem stewDoneS (K : SBk) (a0 a1 a2 : Option Addr) (c0 c1 c2 : Nat) (w : World) (h : SBkV w a0 a1 a2 K) :
    Calls Try.prog 6 #[.agg #[.int .i64 K.now, .slice a0 K.svcs.length c0, .slice a1 K.cps.length c1, .slice a2 K.bts.length c2]] w fun e w' => e = .returned (.bool (doneB K)) ∧ Below w.heap.size w w' := by
  have HH : Hid (SBkV w a0 a1 a2 K) := h
  clear h
  obtain ⟨R, hR⟩ : ∃ R, R = doneB K := ⟨_, rfl⟩
  have HR := hid hR
  rw [← hR]
  clear hR
  obtain ⟨wa, hwa⟩ : ∃ wa, wa = w.alloc (.cells #[.int .i64 K.now, .slice a0 K.svcs.length c0, .slice a1 K.cps.length c1, .slice a2 K.bts.length c2] 33) := ⟨_, rfl⟩
  have HB : Hid (Below w.heap.size w wa) := by show Below _ _ _; rw [hwa]; exact blw_alloc (Below.refl _ _) _
  have HX : Hid (Box4 wa w.heap.size (.int .i64 K.now) (.slice a0 K.svcs.length c0) (.slice a1 K.cps.length c1) (.slice a2 K.bts.length c2)) := by show Box4 _ _ _ _ _ _; rw [hwa]; exact Box4.new' w _ _ _ _ _ _ rfl
  go_enter Try.func6, Try.ntmps6
  go_upto_region 1 with fail
  rw [← hwa]
  clear hwa
  obtain ⟨yz, y0, y1, y2, y3⟩ := HX.out
  go_wp2_with fail
  refine (stewValidS K a0 a1 a2 c0 c1 c2 wa (HH.out.later HB.out)).mono ?_
  rintro e w1 ⟨rfl, hb⟩
  have HB1 := hid (blw_trans HB.out hb)
  have HX1 := hid (HX.out.later hb)
  clear yz y0 y1 y2 y3 hb HB HX
  obtain ⟨yz, y0, y1, y2, y3⟩ := HX1.out
  cases hok : sbOk K
  · have HE : Hid (R = false) := by show R = _; rw [HR.out, doneB, hok]; rfl
    clear HR hok
    go_wp2
    go_ret
    exact ⟨Pl.ret_bool HE.out.symm, HB1.out⟩
  have HR2 : Hid (R = (allTo (fun j => (rankOf K).get j == 0) 5 && allTo (fun i => calmS (K.svcs.getD i Sv.none)) K.svcs.length)) := by show R = _; rw [HR.out, doneB, hok]; rfl
  have HSV : Hid (svsOk K = true ∧ K.svcs.length ≤ 8) := by
    show _ ∧ _
    simp only [sbOk, Bool.and_eq_true, decide_eq_true_eq] at hok
    exact ⟨hok.1.1.2, hok.1.1.1.1.1.2⟩
  have hs8 := HSV.out.2
  clear HR hok
  go_wp2_with fail
  refine (stewRankS K a0 a1 a2 c0 c1 c2 w1 (HH.out.later HB1.out)).mono ?_
  rintro e w2 ⟨⟨rfl, hown, hd0, hd1, hd2, hd3, hd4⟩, hb⟩
  obtain ⟨p, hp⟩ : ∃ p, p = w1.heap.size + 1 := ⟨_, rfl⟩
  rw [← hp] at hown hd0 hd1 hd2 hd3 hd4 ⊢
  obtain ⟨r, hr⟩ : ∃ r, r = rankOf K := ⟨_, rfl⟩
  rw [← hr] at HR2 hd0 hd1 hd2 hd3 hd4
  have hpl := hown.lt
  have HG : Hid (∀ j, j < 5 → w2.cell? ⟨p, j, none⟩ = some (.int .i64 (r.get j))) := by
    intro j hj
    match j, hj with
    | 0, _ => exact hd0
    | 1, _ => exact hd1
    | 2, _ => exact hd2
    | 3, _ => exact hd3
    | 4, _ => exact hd4
    | n + 5, hj => omega
  have HB2 := hid (blw_trans HB1.out hb)
  have HX2 := hid (HX1.out.later hb)
  clear yz y0 y1 y2 y3 hb HB1 HX1 hown hd0 hd1 hd2 hd3 hd4 hr hp
  go_wp2
  go_loopw [4] (fun i wr => ∃ j : Nat, j ≤ 5 ∧ i = .int .i64 j ∧ wr = w2 ∧ allTo (fun j => r.get j == 0) j = true) (fun i _ => 5 - (intOf i).toNat)
  case atStart => exact ⟨0, Nat.zero_le _, rfl, rfl, rfl⟩
  case round =>
    obtain ⟨j, hj, rfl, rfl, ha⟩ := hrel
    have HA := hid ha
    clear ha
    by_cases hjl : j < 5
    · have gc := HG.out j hjl
      have hm0 : (0 : Int) ≤ (j : Int) := by omega
      have hm3 : (j : Int) < 5 := by omega
      obtain ⟨u, hu⟩ : ∃ u, u = r.get j := ⟨_, rfl⟩
      rw [← hu] at gc
      by_cases hz : u = 0
      · have HN : Hid (allTo (fun j => r.get j == 0) (j + 1) = true) := by show (allTo _ j && (r.get j == 0)) = true; rw [HA.out, ← hu, hz]; rfl
        subst hz
        clear hu
        go_wp2
        go_roundw
        case rel => exact ⟨j + 1, by omega, by go_num, by first | rfl | trivial, HN.out⟩
        case measure => simp [intOf]; omega
      · have HF : Hid (R = false) := by
          show R = false
          rw [HR2.out, allTo_false (k := j) (by show (r.get j == 0) = false; rw [← hu]; simpa using hz) 5 hjl]
          rfl
        have hz' : (u == 0) = false := by simpa using hz
        have hz2 : (u != 0) = true := by simpa using hz
        clear hu HR2
        go_wp2
        go_ret
        exact ⟨Pl.ret_bool HF.out.symm, HB2.out⟩
    · obtain rfl : j = 5 := by omega
      have HR3 : Hid (R = allTo (fun i => calmS (K.svcs.getD i Sv.none)) K.svcs.length) := by show R = _; rw [HR2.out, HA.out]; rfl
      clear HR2 HA HG hpl
      go_wp2
      go_loopw [5] (fun i wr => ∃ q : Nat, q ≤ K.svcs.length ∧ i = .int .i64 q ∧ allTo (fun i => calmS (K.svcs.getD i Sv.none)) q = true ∧ Below wr.heap.size wr wr ∧ Below w.heap.size w wr ∧ Box4 wr w.heap.size (.int .i64 K.now) (.slice a0 K.svcs.length c0) (.slice a1 K.cps.length c1) (.slice a2 K.bts.length c2)) (fun i _ => K.svcs.length - (intOf i).toNat)
      case atStart => exact ⟨0, Nat.zero_le _, rfl, rfl, Below.refl _ _, HB2.out, HX2.out⟩
      case round =>
        obtain ⟨q, hq, rfl, ha, _, hB, hX⟩ := hrel
        have HA := hid ha
        have HB3 := hid hB
        have HX3 := hid hX
        clear ha hB hX HB2 HX2
        obtain ⟨yz, y0, y1, y2, y3⟩ := HX3.out
        by_cases hlt : q < K.svcs.length
        · obtain ⟨b, off, ha, hbl, hf⟩ := (HH.out.later HB3.out).s.at_ q hlt
          subst ha
          have hok := (allTo_iff _ _).1 HSV.out.1 q hlt
          obtain ⟨x, hx⟩ : ∃ x, x = K.svcs.getD q Sv.none := ⟨_, rfl⟩
          rw [← hx] at hf hok
          have hpr : x.per = 0 ∨ (0 < x.per ∧ x.per ≤ 1000000 ∧ 0 ≤ x.load ∧ x.load ≤ 1000000) := by
            simp only [svOk, inB, Bool.and_eq_true, decide_eq_true_eq] at hok
            by_cases hp0 : x.per = 0
            · exact Or.inl hp0
            · rw [if_neg hp0] at hok
              simp only [Bool.and_eq_true, decide_eq_true_eq] at hok
              exact Or.inr (by omega)
          obtain ⟨e0, e1, e2, e3, e4, e5, e6, e7, e8, e9, e10, e11, e12, _⟩ := hf
          have HNX : Hid (∀ v, calmS x = v → calmS (K.svcs.getD q Sv.none) = v) := fun v hv => by rw [← hx]; exact hv
          clear hx hok
          have hm0 : (0 : Int) ≤ (q : Int) := by omega
          have hm3 : (q : Int) < (K.svcs.length : Int) := by omega
          obtain ⟨w3, hw3⟩ : ∃ w3, w3 = wr.alloc (.cells #[.string x.nm, .int .i64 x.ver, .bool x.gone, .int .i64 x.image, .int .i64 x.want, .int .i64 x.down, .int .i64 x.over, .int .i64 x.next, .int .i64 x.per, .int .i64 x.least, .int .i64 x.most, .int .i64 x.load, .int .i64 x.cool] 46) := ⟨_, rfl⟩
          obtain ⟨p5, hp5⟩ : ∃ p5, p5 = wr.heap.size := ⟨_, rfl⟩
          have hb3 : Below wr.heap.size wr w3 := by rw [hw3]; exact blw_alloc (Below.refl _ _) _
          have HB4 := hid (blw_trans HB3.out hb3)
          have HX4 := hid (HX3.out.later hb3)
          have HS4 : Hid (Box13 w3 p5 (.string x.nm) (.int .i64 x.ver) (.bool x.gone) (.int .i64 x.image) (.int .i64 x.want) (.int .i64 x.down) (.int .i64 x.over) (.int .i64 x.next) (.int .i64 x.per) (.int .i64 x.least) (.int .i64 x.most) (.int .i64 x.load) (.int .i64 x.cool)) := by show Box13 _ _ _ _ _ _ _ _ _ _ _ _ _ _ _ ; rw [hw3]; exact Box13.new' wr _ _ _ _ _ _ _ _ _ _ _ _ _ _ _ hp5
          go_upto_region 13 with fail
          rw [← hw3, ← hp5]
          clear hw3 hp5 hb3 yz y0 y1 y2 y3 hbl e0 e1 e2 e3 e4 e5 e6 e7 e8 e9 e10 e11 e12 HB3 HX3
          obtain ⟨sz, s0, s1, s2, s3, s4, s5, s6, s7, s8, s9, s10, s11, s12⟩ := HS4.out
          have hNE := pst_some w3
          have hsz : ∀ px : Pst w3, p5 < px.W.heap.size := fun px => px.size sz
          have S0 : ∀ px : Pst w3, px.W.cell? ⟨p5, 0, none⟩ = some (.string x.nm) := fun px => px.cell s0 sz
          have S1 : ∀ px : Pst w3, px.W.cell? ⟨p5, 1, none⟩ = some (.int .i64 x.ver) := fun px => px.cell s1 sz
          have S2 : ∀ px : Pst w3, px.W.cell? ⟨p5, 2, none⟩ = some (.bool x.gone) := fun px => px.cell s2 sz
          have S3 : ∀ px : Pst w3, px.W.cell? ⟨p5, 3, none⟩ = some (.int .i64 x.image) := fun px => px.cell s3 sz
          have S4 : ∀ px : Pst w3, px.W.cell? ⟨p5, 4, none⟩ = some (.int .i64 x.want) := fun px => px.cell s4 sz
          have S5 : ∀ px : Pst w3, px.W.cell? ⟨p5, 5, none⟩ = some (.int .i64 x.down) := fun px => px.cell s5 sz
          have S6 : ∀ px : Pst w3, px.W.cell? ⟨p5, 6, none⟩ = some (.int .i64 x.over) := fun px => px.cell s6 sz
          have S7 : ∀ px : Pst w3, px.W.cell? ⟨p5, 7, none⟩ = some (.int .i64 x.next) := fun px => px.cell s7 sz
          have S8 : ∀ px : Pst w3, px.W.cell? ⟨p5, 8, none⟩ = some (.int .i64 x.per) := fun px => px.cell s8 sz
          have S9 : ∀ px : Pst w3, px.W.cell? ⟨p5, 9, none⟩ = some (.int .i64 x.least) := fun px => px.cell s9 sz
          have S10 : ∀ px : Pst w3, px.W.cell? ⟨p5, 10, none⟩ = some (.int .i64 x.most) := fun px => px.cell s10 sz
          have S11 : ∀ px : Pst w3, px.W.cell? ⟨p5, 11, none⟩ = some (.int .i64 x.load) := fun px => px.cell s11 sz
          have S12 : ∀ px : Pst w3, px.W.cell? ⟨p5, 12, none⟩ = some (.int .i64 x.cool) := fun px => px.cell s12 sz
          clear sz s0 s1 s2 s3 s4 s5 s6 s7 s8 s9 s10 s11 s12
          rcases hpr with hp0 | ⟨hp1, hp2, hp3, hp4⟩
          · have HN : Hid (allTo (fun i => calmS (K.svcs.getD i Sv.none)) (q + 1) = true) := by show (allTo _ q && calmS (K.svcs.getD q Sv.none)) = true; rw [HA.out, HNX.out true (by simp [calmS, hp0])]; rfl
            rw [hp0] at S8
            clear HNX
            refine region_class w3 (Below.refl _ _) (by kernel_rfl) (by kernel_rfl) ?_
            repeat (first
              | go_big_quiet_skip
              | (go_big_quiet_want; go_big_quiet_op; first | go_big_quiet_on | (apply Exists.intro; refine ⟨fun px => ?_, ?_⟩; (focus (fail)); go_big_quiet_on)))
            refine wpQuiet_nil ?_
            intro _ hw'
            obtain ⟨x6, hw''⟩ := hw'
            subst hw''
            go_wp2
            go_roundw
            case rel => exact ⟨q + 1, by omega, by go_num, HN.out, Below.refl _ _, blw_trans HB4.out x6.ok, HX4.out.later x6.ok⟩
            case measure => simp [intOf]; omega
          have hpp : ¬ x.per ≤ 0 := by omega
          have hpd : decide (0 < x.per) = true := decide_eq_true hp1
          obtain ⟨dv, hdv⟩ : ∃ dv, dv = desired x := ⟨_, rfl⟩
          have HC : Hid (∀ W, Calls Try.prog 20 #[.agg #[.string x.nm, .int .i64 x.ver, .bool x.gone, .int .i64 x.image, .int .i64 x.want, .int .i64 x.down, .int .i64 x.over, .int .i64 x.next, .int .i64 x.per, .int .i64 x.least, .int .i64 x.most, .int .i64 x.load, .int .i64 x.cool]] W fun e w' => e = .returned (.int .i64 dv) ∧ Below W.heap.size W w') := fun W => by rw [hdv]; exact l16DesiredS x W hp1 hp2 hp3 hp4
          have HDV := hid hdv
          clear hdv hp2 hp3 hp4
          cases k0 : (x.want == dv)
          · have k0' : (x.want != dv) = true := by simp [bne, k0]
            have HF : Hid (R = false) := by show R = false; rw [HR3.out]; exact allTo_false (k := q) (HNX.out false (by simp [calmS, hpd, ← HDV.out, k0'])) _ hlt
            clear HNX
            refine region_class w3 (Below.refl _ _) (by kernel_rfl) (by kernel_rfl) ?_
            repeat (first
              | go_big_quiet_skip
              | (go_big_quiet_want; go_big_quiet_op; first | go_big_quiet_on | (apply Exists.intro; refine ⟨fun px => ?_, ?_⟩; (focus ((go_at_call 20; refine (HC.out _).mono ?_; rintro e w' ⟨he, hb⟩; exact ⟨he, ⟨w', blw_trans px.ok hb⟩, rfl⟩))); go_big_quiet_on)))
            refine wpQuiet_nil ?_
            intro _ hw'
            obtain ⟨x6, hw''⟩ := hw'
            subst hw''
            go_wp2
            go_ret
            exact ⟨Pl.ret_bool HF.out.symm, blw_trans HB4.out x6.ok⟩
          obtain rfl : dv = x.want := by have : x.want = dv := by simpa using k0
                                         exact this.symm
          clear k0
          by_cases k1 : x.cool = 0
          · have HN : Hid (allTo (fun i => calmS (K.svcs.getD i Sv.none)) (q + 1) = true) := by show (allTo _ q && calmS (K.svcs.getD q Sv.none)) = true; rw [HA.out, HNX.out true (by simp [calmS, ← HDV.out, k1])]; rfl
            have k2 : (x.cool == 0) = true := by simpa using k1
            have k3 : (x.cool != 0) = false := by simpa using k1
            clear HNX k1
            refine region_class w3 (Below.refl _ _) (by kernel_rfl) (by kernel_rfl) ?_
            repeat (first
              | go_big_quiet_skip
              | (go_big_quiet_want; go_big_quiet_op; first | go_big_quiet_on | (apply Exists.intro; refine ⟨fun px => ?_, ?_⟩; (focus ((go_at_call 20; refine (HC.out _).mono ?_; rintro e w' ⟨he, hb⟩; exact ⟨he, ⟨w', blw_trans px.ok hb⟩, rfl⟩))); go_big_quiet_on)))
            refine wpQuiet_nil ?_
            intro _ hw'
            obtain ⟨x6, hw''⟩ := hw'
            subst hw''
            go_wp2
            go_roundw
            case rel => exact ⟨q + 1, by omega, by go_num, HN.out, Below.refl _ _, blw_trans HB4.out x6.ok, HX4.out.later x6.ok⟩
            case measure => simp [intOf]; omega
          · have k2 : (x.cool == 0) = false := by simpa using k1
            have k3 : (x.cool != 0) = true := by simpa using k1
            have HF : Hid (R = false) := by show R = false; rw [HR3.out]; exact allTo_false (k := q) (HNX.out false (by simp [calmS, hpd, k3])) _ hlt
            clear HNX
            refine region_class w3 (Below.refl _ _) (by kernel_rfl) (by kernel_rfl) ?_
            repeat (first
              | go_big_quiet_skip
              | (go_big_quiet_want; go_big_quiet_op; first | go_big_quiet_on | (apply Exists.intro; refine ⟨fun px => ?_, ?_⟩; (focus ((go_at_call 20; refine (HC.out _).mono ?_; rintro e w' ⟨he, hb⟩; exact ⟨he, ⟨w', blw_trans px.ok hb⟩, rfl⟩))); go_big_quiet_on)))
            refine wpQuiet_nil ?_
            intro _ hw'
            obtain ⟨x6, hw''⟩ := hw'
            subst hw''
            go_wp2
            go_ret
            exact ⟨Pl.ret_bool HF.out.symm, blw_trans HB4.out x6.ok⟩
        · obtain rfl : q = K.svcs.length := by omega
          have HF : Hid (R = true) := by show R = true; rw [HR3.out]; exact HA.out
          go_wp2
          go_ret
          exact ⟨Pl.ret_bool HF.out.symm, HB3.out⟩

end Go.Proofs.Ytamhfnlogldpaaa
