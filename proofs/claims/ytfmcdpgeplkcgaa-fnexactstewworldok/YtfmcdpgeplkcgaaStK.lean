/-
  Stewards: a world that is ok, by the specification.
-/
import Derived.Test.YtfmcdpgeplkcgaaStD
import Derived.Test.YtfmcdpgeplkcgaaMemSW
namespace Go.Proofs.Ytfmcdpgeplkcgaa
open Go.RowKit Go.Deep

/-- A list of books of any room. -/
structure SBksV (w : World) (a : Option Addr) (l : List SBk) : Prop where
  len : l.length ≤ maxLen
  at_ : ∀ i, i < l.length → ∃ b off a0 a1 a2 c0 c1 c2, a = some ⟨b, off, none⟩ ∧ b < w.heap.size ∧ (w.cell? ⟨b, off + i * 4, none⟩ = some (.int .i64 (l.getD i SBk.none).now) ∧ w.cell? ⟨b, off + i * 4 + 1, none⟩ = some (.slice a0 (l.getD i SBk.none).svcs.length c0) ∧ w.cell? ⟨b, off + i * 4 + 2, none⟩ = some (.slice a1 (l.getD i SBk.none).cps.length c1) ∧ w.cell? ⟨b, off + i * 4 + 3, none⟩ = some (.slice a2 (l.getD i SBk.none).bts.length c2)) ∧ SBkV w a0 a1 a2 (l.getD i SBk.none)
theorem SBksV.later {w w' : World} {a : Option Addr} {l : List SBk} (h : SBksV w a l) (hb : Below w.heap.size w w') : SBksV w' a l := by
  refine ⟨h.len, fun i hi => ?_⟩
  obtain ⟨b, off, a0, a1, a2, c0, c1, c2, e, hl, ⟨q0, q1, q2, q3⟩, hv⟩ := h.at_ i hi
  have c : ∀ j, w'.cell? ⟨b, j, none⟩ = w.cell? ⟨b, j, none⟩ := fun j => hb.cell (p := ⟨b, j, none⟩) hl
  exact ⟨b, off, a0, a1, a2, c0, c1, c2, e, Nat.lt_of_lt_of_le hl hb.size, ⟨(c _).trans q0, (c _).trans q1, (c _).trans q2, (c _).trans q3⟩, hv.later hb⟩
theorem SBksIn.v {w : World} {B : Nat} {l : List SBk} (h : SBksIn w B l) : SBksV w (some ⟨B, 0, none⟩) l := by
  refine ⟨by have := h.len; unfold maxLen; omega, fun i hi => ?_⟩
  obtain ⟨b0, b1, b2, _, q0, q1, q2, q3, hn⟩ := h.at_ i hi
  exact ⟨B, 0, _, _, _, _, _, _, rfl, h.lt, by simp only [Nat.zero_add]; exact ⟨q0, q1, q2, q3⟩, hn.v⟩
structure SWV (w : World) (a0 a1 a2 a3 : Option Addr) (X : SW) : Prop where
  b : SBkV w a0 a1 a2 X.book
  p : SBksV w a3 X.past
theorem SWV.later {w w' : World} {a0 a1 a2 a3 : Option Addr} {X : SW} (h : SWV w a0 a1 a2 a3 X) (hb : Below w.heap.size w w') : SWV w' a0 a1 a2 a3 X := ⟨h.b.later hb, h.p.later hb⟩
theorem SWIn.v {w : World} {b0 b1 b2 b3 : Nat} {X : SW} (h : SWIn w b0 b1 b2 b3 X) : SWV w (some ⟨b0, 0, none⟩) (some ⟨b1, 0, none⟩) (some ⟨b2, 0, none⟩) (some ⟨b3, 0, none⟩) X := ⟨h.b.v, h.p.v⟩

def pastAt (X : SW) (i : Nat) : Bool := sbOk (X.past.getD i SBk.none) && decide ((X.past.getD i SBk.none).now ≤ X.book.now) && (decide (i = 0) || decide ((X.past.getD (i - 1) SBk.none).now ≤ (X.past.getD i SBk.none).now))
def swOk (X : SW) : Bool := sbOk X.book && decide (X.past.length ≤ 8) && allTo (pastAt X) X.past.length

set_option maxRecDepth 8000 in
set_option maxHeartbeats 40000000 in
theorem stewWorldOkS (X : SW) (a0 a1 a2 a3 : Option Addr) (c0 c1 c2 c3 : Nat) (w : World) (h : SWV w a0 a1 a2 a3 X) :
    Calls Try.prog 5 #[.agg #[.slice a3 X.past.length c3, .int .i64 X.book.now, .slice a0 X.book.svcs.length c0, .slice a1 X.book.cps.length c1, .slice a2 X.book.bts.length c2]] w fun e w' => e = .returned (.bool (swOk X)) ∧ Below w.heap.size w w' := by
  have HH := hid h
  have hl := h.p.len
  unfold maxLen at hl
  clear h
  obtain ⟨R, hR⟩ : ∃ R, R = swOk X := ⟨_, rfl⟩
  have HR := hid hR
  rw [← hR]
  clear hR
  obtain ⟨wa, hwa⟩ : ∃ wa, wa = w.alloc (.cells #[.slice a3 X.past.length c3, .int .i64 X.book.now, .slice a0 X.book.svcs.length c0, .slice a1 X.book.cps.length c1, .slice a2 X.book.bts.length c2] 39) := ⟨_, rfl⟩
  have HB : Hid (Below w.heap.size w wa) := by show Below _ _ _; rw [hwa]; exact blw_alloc (Below.refl _ _) _
  have HX : Hid (BoxW wa w.heap.size (.slice a3 X.past.length c3) (.int .i64 X.book.now) (.slice a0 X.book.svcs.length c0) (.slice a1 X.book.cps.length c1) (.slice a2 X.book.bts.length c2)) := by show BoxW _ _ _ _ _ _ _; rw [hwa]; exact BoxW.new' w _ _ _ _ _ _ _ rfl
  go_enter Try.func5, Try.ntmps5
  go_upto_region 1 with fail
  rw [← hwa]
  clear hwa
  obtain ⟨yz, y0, y1, y2, y3, y4⟩ := HX.out
  go_wp2_with fail
  refine (stewValidS X.book a0 a1 a2 c0 c1 c2 wa (HH.out.later HB.out).b).mono ?_
  rintro e w1 ⟨rfl, hb⟩
  have HB1 := hid (blw_trans HB.out hb)
  have HX1 := hid (HX.out.later hb)
  clear yz y0 y1 y2 y3 y4 hb HB HX
  obtain ⟨yz, y0, y1, y2, y3, y4⟩ := HX1.out
  cases hok : sbOk X.book
  · have HE : Hid (R = false) := by show R = _; rw [HR.out, swOk, hok]; rfl
    clear HR hok
    go_wp2
    go_ret
    exact ⟨Pl.ret_bool HE.out.symm, HB1.out⟩
  rcases (Decidable.em (X.past.length ≤ 8)).symm with g0 | g0
  · have HE : Hid (R = false) := by show R = _; rw [HR.out, swOk]; simp [g0]
    clear HR hok
    go_wp2
    go_ret
    exact ⟨Pl.ret_bool HE.out.symm, HB1.out⟩
  have HS : Hid (R = allTo (pastAt X) X.past.length) := by show R = _; rw [HR.out, swOk, hok]; simp [g0]
  clear HR hok
  go_wp2
  clear yz y0 y1 y2 y3 y4
  go_loopw [3] (fun i wr => ∃ q : Nat, q ≤ X.past.length ∧ i = .int .i64 q ∧ allTo (pastAt X) q = true ∧ Below w1.heap.size w1 wr) (fun i _ => X.past.length - (intOf i).toNat)
  case atStart => exact ⟨0, Nat.zero_le _, rfl, rfl, Below.refl _ _⟩
  case round =>
    obtain ⟨q, hq, rfl, ha, hW⟩ := hrel
    have HQ := hid ha
    have HW := hid hW
    have HB2 := hid (blw_trans HB1.out hW)
    have HX2 := hid (HX1.out.later hW)
    clear ha hW
    obtain ⟨yz, y0, y1, y2, y3, y4⟩ := HX2.out
    by_cases hlt : q < X.past.length
    · have HL := hid ((HH.out.later HB2.out).p)
      obtain ⟨b, off, i0, i1, i2, j0, j1, j2, ha, hbl, ⟨e0, e1, e2, e3⟩, hv⟩ := HL.out.at_ q hlt
      subst ha
      have HV := hid hv
      obtain ⟨x, hx⟩ : ∃ x, x = X.past.getD q SBk.none := ⟨_, rfl⟩
      rw [← hx] at e0 e1 e2 e3 HV
      have hNE := pst_some wr
      have hyz : ∀ px : Pst wr, w.heap.size < px.W.heap.size := fun px => px.size yz
      have hbz : ∀ px : Pst wr, b < px.W.heap.size := fun px => px.size hbl
      have Y0 : ∀ px : Pst wr, px.W.cell? ⟨w.heap.size, 0, none⟩ = some (.slice (some ⟨b, off, none⟩) X.past.length c3) := fun px => px.cell y0 yz
      have Y1 : ∀ px : Pst wr, px.W.cell? ⟨w.heap.size, 1, none⟩ = some (.int .i64 X.book.now) := fun px => px.cell y1 yz
      have Y2 : ∀ px : Pst wr, px.W.cell? ⟨w.heap.size, 2, none⟩ = some (.slice a0 X.book.svcs.length c0) := fun px => px.cell y2 yz
      have Y3 : ∀ px : Pst wr, px.W.cell? ⟨w.heap.size, 3, none⟩ = some (.slice a1 X.book.cps.length c1) := fun px => px.cell y3 yz
      have Y4 : ∀ px : Pst wr, px.W.cell? ⟨w.heap.size, 4, none⟩ = some (.slice a2 X.book.bts.length c2) := fun px => px.cell y4 yz
      have E0 : ∀ px : Pst wr, px.W.cell? ⟨b, off + q * 4, none⟩ = some (.int .i64 x.now) := fun px => px.cell e0 hbl
      have E1 : ∀ px : Pst wr, px.W.cell? ⟨b, off + q * 4 + 1, none⟩ = some (.slice i0 x.svcs.length j0) := fun px => px.cell e1 hbl
      have E2 : ∀ px : Pst wr, px.W.cell? ⟨b, off + q * 4 + 2, none⟩ = some (.slice i1 x.cps.length j1) := fun px => px.cell e2 hbl
      have E3 : ∀ px : Pst wr, px.W.cell? ⟨b, off + q * 4 + 3, none⟩ = some (.slice i2 x.bts.length j2) := fun px => px.cell e3 hbl
      have HC : Hid (∀ px : Pst wr, Calls Try.prog 11 #[.agg #[.int .i64 x.now, .slice i0 x.svcs.length j0, .slice i1 x.cps.length j1, .slice i2 x.bts.length j2]] px.W fun e w' => e = .returned (.bool (sbOk x)) ∧ Below px.W.heap.size px.W w') := fun px => stewValidS x i0 i1 i2 j0 j1 j2 px.W (HV.out.later px.ok)
      have hm0 : (0 : Int) ≤ (q : Int) := by omega
      have hm3 : (q : Int) < (X.past.length : Int) := by omega
      clear e0 e1 e2 e3 hv
      obtain ⟨sx, hsx⟩ : ∃ sx, sx = sbOk x := ⟨_, rfl⟩
      rw [← hsx] at HC
      have HPQ : Hid (pastAt X q = (sx && decide (x.now ≤ X.book.now) && (decide (q = 0) || decide ((X.past.getD (q - 1) SBk.none).now ≤ x.now)))) := by show _ = _; rw [pastAt, ← hx, hsx]
      clear hx hsx
      cases sx
      · skip
        have HF : Hid (R = false) := by show R = false; rw [HS.out]; exact allTo_false (k := q) (by rw [HPQ.out]; rfl) _ hlt
        clear hbl
        go_wp2_with fail
        clear yz y0 y1 y2 y3 y4
        refine region_class wr (Below.refl _ _) (by kernel_rfl) (by kernel_rfl) ?_
        repeat (first
          | go_big_quiet_skip
          | (go_big_quiet_want; go_big_quiet_op; first | go_big_quiet_on | (apply Exists.intro; refine ⟨fun px => ?_, ?_⟩; (focus ((go_at_call 11; refine (HC.out px).mono ?_; rintro e w' ⟨he, hb⟩; exact ⟨he, ⟨w', blw_trans px.ok hb⟩, rfl⟩))); go_big_quiet_on)))
        refine wpQuiet_nil ?_
        intro _ hw'
        obtain ⟨x6, hw''⟩ := hw'
        subst hw''
        go_wp2
        go_ret
        exact ⟨Pl.ret_bool HF.out.symm, blw_trans HB2.out x6.ok⟩
      rcases (Decidable.em (x.now ≤ X.book.now)).symm with k1 | k1
      · have k1d : decide (X.book.now < x.now) = true := decide_eq_true (by omega)
        have HF : Hid (R = false) := by show R = false; rw [HS.out]; exact allTo_false (k := q) (by rw [HPQ.out]; simp [k1]) _ hlt
        clear hbl
        go_wp2_with fail
        clear yz y0 y1 y2 y3 y4
        refine region_class wr (Below.refl _ _) (by kernel_rfl) (by kernel_rfl) ?_
        repeat (first
          | go_big_quiet_skip
          | (go_big_quiet_want; go_big_quiet_op; first | go_big_quiet_on | (apply Exists.intro; refine ⟨fun px => ?_, ?_⟩; (focus ((go_at_call 11; refine (HC.out px).mono ?_; rintro e w' ⟨he, hb⟩; exact ⟨he, ⟨w', blw_trans px.ok hb⟩, rfl⟩))); go_big_quiet_on)))
        refine wpQuiet_nil ?_
        intro _ hw'
        obtain ⟨x6, hw''⟩ := hw'
        subst hw''
        go_wp2
        go_ret
        exact ⟨Pl.ret_bool HF.out.symm, blw_trans HB2.out x6.ok⟩
      have k1d : decide (X.book.now < x.now) = false := decide_eq_false (by omega)
      by_cases hz : q = 0
      · subst hz
        simp only [Nat.zero_mul, Nat.add_zero] at E0 E1 E2 E3
        have HN : Hid (allTo (pastAt X) (0 + 1) = true) := by show (allTo _ 0 && pastAt X 0) = true; rw [HPQ.out]; simp [allTo, k1]
        clear hbl
        go_wp2_with fail
        clear yz y0 y1 y2 y3 y4
        refine region_class wr (Below.refl _ _) (by kernel_rfl) (by kernel_rfl) ?_
        repeat (first
          | go_big_quiet_skip
          | (go_big_quiet_want; go_big_quiet_op; first | go_big_quiet_on | (apply Exists.intro; refine ⟨fun px => ?_, ?_⟩; (focus ((go_at_call 11; refine (HC.out px).mono ?_; rintro e w' ⟨he, hb⟩; exact ⟨he, ⟨w', blw_trans px.ok hb⟩, rfl⟩))); go_big_quiet_on)))
        refine wpQuiet_nil ?_
        intro _ hw'
        obtain ⟨x6, hw''⟩ := hw'
        subst hw''
        go_wp2
        go_roundw
        case rel => exact ⟨0 + 1, by omega, by go_num, HN.out, blw_trans HW.out x6.ok⟩
        case measure => simp [intOf]; omega
      · obtain ⟨m, rfl⟩ : ∃ m, q = m + 1 := ⟨q - 1, by omega⟩
        obtain ⟨b2, off2, _, _, _, _, _, _, ha2, hbl2, ⟨d0, _, _, _⟩, _⟩ := HL.out.at_ m (by omega)
        injection ha2 with ha2
        injection ha2 with hb2 ho2 _
        subst hb2 ho2
        obtain ⟨x2, hx2⟩ : ∃ x2, x2 = X.past.getD m SBk.none := ⟨_, rfl⟩
        rw [← hx2] at d0
        have D0 : ∀ px : Pst wr, px.W.cell? ⟨b, off + m * 4, none⟩ = some (.int .i64 x2.now) := fun px => px.cell d0 hbl
        have HPM : Hid (pastAt X (m + 1) = decide (x2.now ≤ x.now)) := by show _ = _; rw [HPQ.out, Nat.add_sub_cancel, ← hx2]; simp [k1]
        have hm6 : (0 : Int) ≤ (m : Int) := by omega
        have hm7 : (m : Int) < (X.past.length : Int) := by omega
        have hm8 : ((m : Int) + 1 - 1) = (m : Int) := by omega
        clear d0 hx2 HPQ
        by_cases k2 : x2.now ≤ x.now
        · have k2d : decide (x.now < x2.now) = false := decide_eq_false (by omega)
          have HN : Hid (allTo (pastAt X) (m + 1 + 1) = true) := by show (allTo _ (m + 1) && pastAt X (m + 1)) = true; rw [HQ.out, HPM.out]; simp [k2]
          clear hbl
          go_wp2_with fail
          clear yz y0 y1 y2 y3 y4
          refine region_class wr (Below.refl _ _) (by kernel_rfl) (by kernel_rfl) ?_
          repeat (first
            | go_big_quiet_skip
            | (go_big_quiet_want; go_big_quiet_op; first | go_big_quiet_on | (apply Exists.intro; refine ⟨fun px => ?_, ?_⟩; (focus ((go_at_call 11; refine (HC.out px).mono ?_; rintro e w' ⟨he, hb⟩; exact ⟨he, ⟨w', blw_trans px.ok hb⟩, rfl⟩))); go_big_quiet_on)))
          refine wpQuiet_nil ?_
          intro _ hw'
          obtain ⟨x6, hw''⟩ := hw'
          subst hw''
          go_wp2
          go_roundw
          case rel => exact ⟨m + 1 + 1, by omega, by go_num, HN.out, blw_trans HW.out x6.ok⟩
          case measure => simp [intOf]; omega
        · have k2d : decide (x.now < x2.now) = true := decide_eq_true (by omega)
          have HF : Hid (R = false) := by show R = false; rw [HS.out]; exact allTo_false (k := m + 1) (by rw [HPM.out]; simp [k2]) _ hlt
          clear hbl
          go_wp2_with fail
          clear yz y0 y1 y2 y3 y4
          refine region_class wr (Below.refl _ _) (by kernel_rfl) (by kernel_rfl) ?_
          repeat (first
            | go_big_quiet_skip
            | (go_big_quiet_want; go_big_quiet_op; first | go_big_quiet_on | (apply Exists.intro; refine ⟨fun px => ?_, ?_⟩; (focus ((go_at_call 11; refine (HC.out px).mono ?_; rintro e w' ⟨he, hb⟩; exact ⟨he, ⟨w', blw_trans px.ok hb⟩, rfl⟩))); go_big_quiet_on)))
          refine wpQuiet_nil ?_
          intro _ hw'
          obtain ⟨x6, hw''⟩ := hw'
          subst hw''
          go_wp2
          go_ret
          exact ⟨Pl.ret_bool HF.out.symm, blw_trans HB2.out x6.ok⟩
    · obtain rfl : q = X.past.length := by omega
      have HF : Hid (R = true) := by show R = true; rw [HS.out]; exact HQ.out
      go_wp2
      go_ret
      exact ⟨Pl.ret_bool HF.out.symm, HB2.out⟩

end Go.Proofs.Ytfmcdpgeplkcgaa
