/-
  Recorders: acks that are ok, a quiet recorder, by the specification.
-/
import Derived.Test.YtejhknclhdbgfaaRvA
namespace Go.Proofs.Ytejhknclhdbgfaa
open Go.RowKit Go.Deep

set_option maxRecDepth 8000 in
set_option maxHeartbeats 8000000 in
theorem l22AcksS (l : List Ra) (of : Int) (a : Option Addr) (c : Nat) (w : World) (h : RasV w a l) :
    Calls Try.prog 68 #[.slice a l.length c, .int .i64 of] w fun e w' => e = .returned (.bool (acksOk l of)) ∧ Below w.heap.size w w' := by
  have HH := hid h
  have hl := h.len
  clear h
  obtain ⟨R, hR⟩ : ∃ R, R = acksOk l of := ⟨_, rfl⟩
  have HS : Hid (R = allTo (ackAt l of) l.length) := hR
  rw [← hR]
  clear hR
  go_enter Try.func68, Try.ntmps68
  go_wp2
  go_loopw [5] (fun i wr => ∃ q : Nat, q ≤ l.length ∧ i = .int .i64 q ∧ allTo (ackAt l of) q = true ∧ Below w.heap.size w wr) (fun i _ => l.length - (intOf i).toNat)
  case atStart => exact ⟨0, Nat.zero_le _, rfl, rfl, Below.refl _ _⟩
  case round =>
    obtain ⟨q, hq, rfl, ha, hW⟩ := hrel
    have HQ := hid ha
    have HB2 := hid hW
    clear ha hW
    by_cases hlt : q < l.length
    · have HL := hid (HH.out.later HB2.out)
      obtain ⟨b, off, a0, c0, ha, hbl, e0, e1, hn⟩ := HL.out.at_ q hlt
      subst ha
      obtain ⟨x, hx⟩ : ∃ x : Ra, x = l.getD q Ra.none := ⟨_, rfl⟩
      rw [← hx] at e0 e1 hn
      have hNE := pst_some wr
      have hbz : ∀ px : Pst wr, b < px.W.heap.size := fun px => px.size hbl
      have E0 : ∀ px : Pst wr, px.W.cell? ⟨b, off + q * 2, none⟩ = some (.int .i64 x.ix) := fun px => px.cell e0 hbl
      have E1 : ∀ px : Pst wr, px.W.cell? ⟨b, off + q * 2 + 1, none⟩ = some (.slice a0 x.frs.length c0) := fun px => px.cell e1 hbl
      obtain ⟨sx, hsx⟩ : ∃ sx, sx = numsOk x.frs of := ⟨_, rfl⟩
      have HC : Hid (∀ px : Pst wr, Calls Try.prog 67 #[.slice a0 x.frs.length c0, .int .i64 of] px.W fun e w' => e = .returned (.bool sx) ∧ Below px.W.heap.size px.W w') := fun px => by rw [hsx]; exact l22NumbersS x.frs of a0 c0 px.W (hn.later px.ok)
      have hm0 : (0 : Int) ≤ (q : Int) := by omega
      have hm3 : (q : Int) < (l.length : Int) := by omega
      have HPQ : Hid (ackAt l of q = (inB x.ix 1 120 && sx && (decide (q = 0) || decide ((l.getD (q - 1) Ra.none).ix < x.ix)))) := by show _ = _; rw [ackAt, ← hx, hsx]
      clear e0 e1 hx hsx hn
      cases hin : inB x.ix 1 120
      · have HF : Hid (R = false) := by show R = false; rw [HS.out]; exact allTo_false (k := q) (by rw [HPQ.out, hin]; rfl) _ hlt
        clear hbl
        go_wp2_with fail
        refine region_class wr (Below.refl _ _) (by kernel_rfl) (by kernel_rfl) ?_
        repeat (first
          | go_big_quiet_skip
          | (go_big_quiet_want; go_big_quiet_op; first | go_big_quiet_on | (apply Exists.intro; refine ⟨fun px => ?_, ?_⟩; (focus (first | (go_at_call 34; refine (l21InS _ _ _ _).mono ?_; rintro e w' ⟨he, hb⟩; exact ⟨he, px, hb.symm⟩) | (go_at_call 67; refine (HC.out px).mono ?_; rintro e w' ⟨he, hb⟩; exact ⟨he, ⟨w', blw_trans px.ok hb⟩, rfl⟩))); go_big_quiet_on)))
        refine wpQuiet_nil ?_
        intro _ hw'
        obtain ⟨x6, hw''⟩ := hw'
        subst hw''
        go_wp2
        go_ret
        exact ⟨Pl.ret_bool HF.out.symm, blw_trans HB2.out x6.ok⟩
      cases sx
      · have HF : Hid (R = false) := by show R = false; rw [HS.out]; exact allTo_false (k := q) (by rw [HPQ.out, hin]; rfl) _ hlt
        clear hbl
        go_wp2_with fail
        refine region_class wr (Below.refl _ _) (by kernel_rfl) (by kernel_rfl) ?_
        repeat (first
          | go_big_quiet_skip
          | (go_big_quiet_want; go_big_quiet_op; first | go_big_quiet_on | (apply Exists.intro; refine ⟨fun px => ?_, ?_⟩; (focus (first | (go_at_call 34; refine (l21InS _ _ _ _).mono ?_; rintro e w' ⟨he, hb⟩; exact ⟨he, px, hb.symm⟩) | (go_at_call 67; refine (HC.out px).mono ?_; rintro e w' ⟨he, hb⟩; exact ⟨he, ⟨w', blw_trans px.ok hb⟩, rfl⟩))); go_big_quiet_on)))
        refine wpQuiet_nil ?_
        intro _ hw'
        obtain ⟨x6, hw''⟩ := hw'
        subst hw''
        go_wp2
        go_ret
        exact ⟨Pl.ret_bool HF.out.symm, blw_trans HB2.out x6.ok⟩
      by_cases hz : q = 0
      · subst hz
        simp only [Nat.zero_mul, Nat.add_zero] at E0 E1
        have HN : Hid (allTo (ackAt l of) (0 + 1) = true) := by show (allTo _ 0 && ackAt l of 0) = true; rw [HPQ.out, hin]; rfl
        clear hbl
        go_wp2_with fail
        refine region_class wr (Below.refl _ _) (by kernel_rfl) (by kernel_rfl) ?_
        repeat (first
          | go_big_quiet_skip
          | (go_big_quiet_want; go_big_quiet_op; first | go_big_quiet_on | (apply Exists.intro; refine ⟨fun px => ?_, ?_⟩; (focus (first | (go_at_call 34; refine (l21InS _ _ _ _).mono ?_; rintro e w' ⟨he, hb⟩; exact ⟨he, px, hb.symm⟩) | (go_at_call 67; refine (HC.out px).mono ?_; rintro e w' ⟨he, hb⟩; exact ⟨he, ⟨w', blw_trans px.ok hb⟩, rfl⟩))); go_big_quiet_on)))
        refine wpQuiet_nil ?_
        intro _ hw'
        obtain ⟨x6, hw''⟩ := hw'
        subst hw''
        go_wp2
        go_roundw
        case rel => exact ⟨0 + 1, by omega, by go_num, HN.out, blw_trans HB2.out x6.ok⟩
        case measure => simp [intOf]; omega
      · obtain ⟨m, rfl⟩ : ∃ m, q = m + 1 := ⟨q - 1, by omega⟩
        obtain ⟨b2, off2, _, _, ha2, hbl2, d0, _, _⟩ := HL.out.at_ m (by omega)
        injection ha2 with ha2
        injection ha2 with hb2 ho2 _
        subst hb2 ho2
        obtain ⟨x2, hx2⟩ : ∃ x2 : Ra, x2 = l.getD m Ra.none := ⟨_, rfl⟩
        rw [← hx2] at d0
        have D0 : ∀ px : Pst wr, px.W.cell? ⟨b, off + m * 2, none⟩ = some (.int .i64 x2.ix) := fun px => px.cell d0 hbl
        have HPM : Hid (ackAt l of (m + 1) = decide (x2.ix < x.ix)) := by show _ = _; rw [HPQ.out, hin, Nat.add_sub_cancel, ← hx2]; simp
        have hm6 : (0 : Int) ≤ (m : Int) := by omega
        have hm7 : (m : Int) < (l.length : Int) := by omega
        have hm8 : ((m : Int) + 1 - 1) = (m : Int) := by omega
        clear d0 hx2 HPQ
        by_cases k2 : x2.ix < x.ix
        · have k2d : decide (x.ix ≤ x2.ix) = false := decide_eq_false (by omega)
          have HN : Hid (allTo (ackAt l of) (m + 1 + 1) = true) := by show (allTo _ (m + 1) && ackAt l of (m + 1)) = true; rw [HQ.out, HPM.out]; simp [k2]
          clear hbl
          go_wp2_with fail
          refine region_class wr (Below.refl _ _) (by kernel_rfl) (by kernel_rfl) ?_
          repeat (first
            | go_big_quiet_skip
            | (go_big_quiet_want; go_big_quiet_op; first | go_big_quiet_on | (apply Exists.intro; refine ⟨fun px => ?_, ?_⟩; (focus (first | (go_at_call 34; refine (l21InS _ _ _ _).mono ?_; rintro e w' ⟨he, hb⟩; exact ⟨he, px, hb.symm⟩) | (go_at_call 67; refine (HC.out px).mono ?_; rintro e w' ⟨he, hb⟩; exact ⟨he, ⟨w', blw_trans px.ok hb⟩, rfl⟩))); go_big_quiet_on)))
          refine wpQuiet_nil ?_
          intro _ hw'
          obtain ⟨x6, hw''⟩ := hw'
          subst hw''
          go_wp2
          go_roundw
          case rel => exact ⟨m + 1 + 1, by omega, by go_num, HN.out, blw_trans HB2.out x6.ok⟩
          case measure => simp [intOf]; omega
        · have k2d : decide (x.ix ≤ x2.ix) = true := decide_eq_true (by omega)
          have HF : Hid (R = false) := by show R = false; rw [HS.out]; exact allTo_false (k := m + 1) (by rw [HPM.out]; simp [k2]) _ hlt
          clear hbl
          go_wp2_with fail
          refine region_class wr (Below.refl _ _) (by kernel_rfl) (by kernel_rfl) ?_
          repeat (first
            | go_big_quiet_skip
            | (go_big_quiet_want; go_big_quiet_op; first | go_big_quiet_on | (apply Exists.intro; refine ⟨fun px => ?_, ?_⟩; (focus (first | (go_at_call 34; refine (l21InS _ _ _ _).mono ?_; rintro e w' ⟨he, hb⟩; exact ⟨he, px, hb.symm⟩) | (go_at_call 67; refine (HC.out px).mono ?_; rintro e w' ⟨he, hb⟩; exact ⟨he, ⟨w', blw_trans px.ok hb⟩, rfl⟩))); go_big_quiet_on)))
          refine wpQuiet_nil ?_
          intro _ hw'
          obtain ⟨x6, hw''⟩ := hw'
          subst hw''
          go_wp2
          go_ret
          exact ⟨Pl.ret_bool HF.out.symm, blw_trans HB2.out x6.ok⟩
    · obtain rfl : q = l.length := by omega
      go_wp2
      go_ret
      exact ⟨Pl.ret_bool (by rw [HS.out, HQ.out]), HB2.out⟩

set_option maxRecDepth 8000 in
set_option maxHeartbeats 8000000 in
theorem l22QuietS (K : Rr) (a0 a1 a2 a3 a4 a5 a6 : Option Addr) (c0 c1 c2 c3 c4 c5 c6 : Nat) (w : World) (h : RrV w a0 a1 a2 a3 a4 a5 a6 K) :
    Calls Try.prog 69 #[.agg #[.int .i64 K.num, .int .i64 K.of_, .bool K.up, .int .i64 K.safe.prom, .int .i64 K.safe.known, .slice a0 K.safe.slots.length c0, .int .i64 K.disk.prom, .int .i64 K.disk.known, .slice a1 K.disk.slots.length c1, .slice a2 K.held.length c2, .slice a3 K.wish.length c3, .bool K.lead, .bool K.try_, .int .i64 K.bal, .slice a4 K.yes.length c4, .slice a5 K.best.length c5, .slice a6 K.acks.length c6, .int .i64 K.heard]] w fun e w' => e = .returned (.bool (quietB K)) ∧ Below w.heap.size w w' := by
  have z4 := h.l4.len
  have z5 := h.s5
  have z6 := h.l6.len
  clear h
  obtain ⟨R, hR⟩ : ∃ R, R = quietB K := ⟨_, rfl⟩
  have HR : Hid (R = (!K.lead && !K.try_ && decide (K.bal = 0) && decide (K.yes.length + K.best.length + K.acks.length = 0))) := hR
  rw [← hR]
  clear hR
  obtain ⟨wa, hwa⟩ : ∃ wa, wa = w.alloc (.cells #[.int .i64 K.num, .int .i64 K.of_, .bool K.up, .int .i64 K.safe.prom, .int .i64 K.safe.known, .slice a0 K.safe.slots.length c0, .int .i64 K.disk.prom, .int .i64 K.disk.known, .slice a1 K.disk.slots.length c1, .slice a2 K.held.length c2, .slice a3 K.wish.length c3, .bool K.lead, .bool K.try_, .int .i64 K.bal, .slice a4 K.yes.length c4, .slice a5 K.best.length c5, .slice a6 K.acks.length c6, .int .i64 K.heard] 44) := ⟨_, rfl⟩
  have HB : Hid (Below w.heap.size w wa) := by show Below _ _ _; rw [hwa]; exact blw_alloc (Below.refl _ _) _
  have HX : Hid (LBox wa w.heap.size [.int .i64 K.num, .int .i64 K.of_, .bool K.up, .int .i64 K.safe.prom, .int .i64 K.safe.known, .slice a0 K.safe.slots.length c0, .int .i64 K.disk.prom, .int .i64 K.disk.known, .slice a1 K.disk.slots.length c1, .slice a2 K.held.length c2, .slice a3 K.wish.length c3, .bool K.lead, .bool K.try_, .int .i64 K.bal, .slice a4 K.yes.length c4, .slice a5 K.best.length c5, .slice a6 K.acks.length c6, .int .i64 K.heard]) := by show LBox _ _ _; rw [hwa]; exact LBox.new w _ _ _ rfl
  go_enter Try.func69, Try.ntmps69
  go_upto_region 1 with fail
  rw [← hwa]
  clear hwa
  have yz := HX.out.lt
  have y11 := HX.out.get 11 (.bool K.lead) rfl
  have y12 := HX.out.get 12 (.bool K.try_) rfl
  have y13 := HX.out.get 13 (.int .i64 K.bal) rfl
  have y14 := HX.out.get 14 (.slice a4 K.yes.length c4) rfl
  have y15 := HX.out.get 15 (.slice a5 K.best.length c5) rfl
  have y16 := HX.out.get 16 (.slice a6 K.acks.length c6) rfl
  cases h1 : K.lead
  · rw [h1] at y11
    cases h2 : K.try_
    · rw [h2] at y12
      by_cases h3 : K.bal = 0
      · have h3b : (K.bal == 0) = true := by simpa using h3
        by_cases h4 : K.yes.length + K.best.length + K.acks.length = 0
        · have h4i : ((K.yes.length : Int) + (K.best.length : Int) + (K.acks.length : Int)) = 0 := by omega
          have HE : Hid (R = true) := by show R = _; rw [HR.out, h1, h2, decide_eq_true h3, decide_eq_true h4]; rfl
          clear HR h1 h2 h3 h4
          go_wp2
          go_ret
          exact ⟨Pl.ret_bool HE.out.symm, HB.out⟩
        · have h4i : ¬ ((K.yes.length : Int) + (K.best.length : Int) + (K.acks.length : Int)) = 0 := by omega
          have h4b : ((K.yes.length : Int) + (K.best.length : Int) + (K.acks.length : Int) == 0) = false := by simpa using h4i
          have HE : Hid (R = false) := by show R = _; rw [HR.out, h1, h2, decide_eq_true h3, decide_eq_false h4]; rfl
          clear HR h1 h2 h3 h4
          go_wp2
          go_ret
          exact ⟨Pl.ret_bool HE.out.symm, HB.out⟩
      · have h3b : (K.bal == 0) = false := by simpa using h3
        have HE : Hid (R = false) := by show R = _; rw [HR.out, h1, h2, decide_eq_false h3]; rfl
        clear HR h1 h2 h3
        go_wp2
        go_ret
        exact ⟨Pl.ret_bool HE.out.symm, HB.out⟩
    · rw [h2] at y12
      have HE : Hid (R = false) := by show R = _; rw [HR.out, h1, h2]; rfl
      clear HR h1 h2
      go_wp2
      go_ret
      exact ⟨Pl.ret_bool HE.out.symm, HB.out⟩
  · rw [h1] at y11
    have HE : Hid (R = false) := by show R = _; rw [HR.out, h1]; rfl
    clear HR h1
    go_wp2
    go_ret
    exact ⟨Pl.ret_bool HE.out.symm, HB.out⟩

end Go.Proofs.Ytejhknclhdbgfaa
