/-
  Recorders: RecValid by the specification, in segments.
-/
import Derived.Test.YtcefgacmagobnaaRvP
namespace Go.Proofs.Ytcefgacmagobnaa
open Go.RowKit Go.Deep

set_option maxRecDepth 8000 in
set_option maxHeartbeats 8000000 in
theorem l22NumbersS (l : List Nu) (of : Int) (a : Option Addr) (c : Nat) (w : World) (h : NusV w a l) :
    Calls Try.prog 45 #[.slice a l.length c, .int .i64 of] w fun e w' => e = .returned (.bool (numsOk l of)) ∧ Below w.heap.size w w' := by
  have HH := hid h
  have hl := h.len
  clear h
  obtain ⟨R, hR⟩ : ∃ R, R = numsOk l of := ⟨_, rfl⟩
  have HS : Hid (R = allTo (numAt l of) l.length) := hR
  rw [← hR]
  clear hR
  go_enter Try.func45, Try.ntmps45
  go_wp2
  go_loopw [5] (fun i wr => ∃ q : Nat, q ≤ l.length ∧ i = .int .i64 q ∧ allTo (numAt l of) q = true ∧ Below w.heap.size w wr) (fun i _ => l.length - (intOf i).toNat)
  case atStart => exact ⟨0, Nat.zero_le _, rfl, rfl, Below.refl _ _⟩
  case round =>
    obtain ⟨q, hq, rfl, ha, hW⟩ := hrel
    have HQ := hid ha
    have HB2 := hid hW
    clear ha hW
    by_cases hlt : q < l.length
    · have HL := hid (HH.out.later HB2.out)
      obtain ⟨b, off, ha, hbl, e0⟩ := HL.out.at_ q hlt
      subst ha
      obtain ⟨x, hx⟩ : ∃ x : Int, x = l.getD q 0 := ⟨_, rfl⟩
      rw [← hx] at e0
      have hNE := pst_some wr
      have hbz : ∀ px : Pst wr, b < px.W.heap.size := fun px => px.size hbl
      have E0 : ∀ px : Pst wr, px.W.cell? ⟨b, off + q, none⟩ = some (.int .i64 x) := fun px => px.cell e0 hbl
      have hm0 : (0 : Int) ≤ (q : Int) := by omega
      have hm3 : (q : Int) < (l.length : Int) := by omega
      have HPQ : Hid (numAt l of q = (inB x 1 of && (decide (q = 0) || decide (l.getD (q - 1) 0 < x)))) := by show _ = _; rw [numAt, ← hx]
      clear e0 hx
      cases hin : inB x 1 of
      · have HF : Hid (R = false) := by show R = false; rw [HS.out]; exact allTo_false (k := q) (by rw [HPQ.out, hin]; rfl) _ hlt
        clear hbl
        go_wp2_with fail
        refine region_class wr (Below.refl _ _) (by kernel_rfl) (by kernel_rfl) ?_
        repeat (first
          | go_big_quiet_skip
          | (go_big_quiet_want; go_big_quiet_op; first | go_big_quiet_on | (apply Exists.intro; refine ⟨fun px => ?_, ?_⟩; (focus ((go_at_call 18; refine (l21InS _ _ _ _).mono ?_; rintro e w' ⟨he, hb⟩; exact ⟨he, px, hb.symm⟩))); go_big_quiet_on)))
        refine wpQuiet_nil ?_
        intro _ hw'
        obtain ⟨x6, hw''⟩ := hw'
        subst hw''
        go_wp2
        go_ret
        exact ⟨Pl.ret_bool HF.out.symm, blw_trans HB2.out x6.ok⟩
      by_cases hz : q = 0
      · subst hz
        simp only [Nat.add_zero] at E0
        have HN : Hid (allTo (numAt l of) (0 + 1) = true) := by show (allTo _ 0 && numAt l of 0) = true; rw [HPQ.out, hin]; rfl
        clear hbl
        go_wp2_with fail
        refine region_class wr (Below.refl _ _) (by kernel_rfl) (by kernel_rfl) ?_
        repeat (first
          | go_big_quiet_skip
          | (go_big_quiet_want; go_big_quiet_op; first | go_big_quiet_on | (apply Exists.intro; refine ⟨fun px => ?_, ?_⟩; (focus ((go_at_call 18; refine (l21InS _ _ _ _).mono ?_; rintro e w' ⟨he, hb⟩; exact ⟨he, px, hb.symm⟩))); go_big_quiet_on)))
        refine wpQuiet_nil ?_
        intro _ hw'
        obtain ⟨x6, hw''⟩ := hw'
        subst hw''
        go_wp2
        go_roundw
        case rel => exact ⟨0 + 1, by omega, by go_num, HN.out, blw_trans HB2.out x6.ok⟩
        case measure => simp [intOf]; omega
      · obtain ⟨m, rfl⟩ : ∃ m, q = m + 1 := ⟨q - 1, by omega⟩
        obtain ⟨b2, off2, ha2, hbl2, d0⟩ := HL.out.at_ m (by omega)
        injection ha2 with ha2
        injection ha2 with hb2 ho2 _
        subst hb2 ho2
        obtain ⟨x2, hx2⟩ : ∃ x2 : Int, x2 = l.getD m 0 := ⟨_, rfl⟩
        rw [← hx2] at d0
        have D0 : ∀ px : Pst wr, px.W.cell? ⟨b, off + m, none⟩ = some (.int .i64 x2) := fun px => px.cell d0 hbl
        have HPM : Hid (numAt l of (m + 1) = decide (x2 < x)) := by show _ = _; rw [HPQ.out, hin, Nat.add_sub_cancel, ← hx2]; simp
        have hm6 : (0 : Int) ≤ (m : Int) := by omega
        have hm7 : (m : Int) < (l.length : Int) := by omega
        have hm8 : ((m : Int) + 1 - 1) = (m : Int) := by omega
        clear d0 hx2 HPQ
        by_cases k2 : x2 < x
        · have k2d : decide (x ≤ x2) = false := decide_eq_false (by omega)
          have HN : Hid (allTo (numAt l of) (m + 1 + 1) = true) := by show (allTo _ (m + 1) && numAt l of (m + 1)) = true; rw [HQ.out, HPM.out]; simp [k2]
          clear hbl
          go_wp2_with fail
          refine region_class wr (Below.refl _ _) (by kernel_rfl) (by kernel_rfl) ?_
          repeat (first
            | go_big_quiet_skip
            | (go_big_quiet_want; go_big_quiet_op; first | go_big_quiet_on | (apply Exists.intro; refine ⟨fun px => ?_, ?_⟩; (focus ((go_at_call 18; refine (l21InS _ _ _ _).mono ?_; rintro e w' ⟨he, hb⟩; exact ⟨he, px, hb.symm⟩))); go_big_quiet_on)))
          refine wpQuiet_nil ?_
          intro _ hw'
          obtain ⟨x6, hw''⟩ := hw'
          subst hw''
          go_wp2
          go_roundw
          case rel => exact ⟨m + 1 + 1, by omega, by go_num, HN.out, blw_trans HB2.out x6.ok⟩
          case measure => simp [intOf]; omega
        · have k2d : decide (x ≤ x2) = true := decide_eq_true (by omega)
          have HF : Hid (R = false) := by show R = false; rw [HS.out]; exact allTo_false (k := m + 1) (by rw [HPM.out]; simp [k2]) _ hlt
          clear hbl
          go_wp2_with fail
          refine region_class wr (Below.refl _ _) (by kernel_rfl) (by kernel_rfl) ?_
          repeat (first
            | go_big_quiet_skip
            | (go_big_quiet_want; go_big_quiet_op; first | go_big_quiet_on | (apply Exists.intro; refine ⟨fun px => ?_, ?_⟩; (focus ((go_at_call 18; refine (l21InS _ _ _ _).mono ?_; rintro e w' ⟨he, hb⟩; exact ⟨he, px, hb.symm⟩))); go_big_quiet_on)))
          refine wpQuiet_nil ?_
          intro _ hw'
          obtain ⟨x6, hw''⟩ := hw'
          subst hw''
          go_wp2
          go_ret
          exact ⟨Pl.ret_bool HF.out.symm, blw_trans HB2.out x6.ok⟩
    · obtain rfl : q = l.length := by omega
      go_wp2
      go_ret
      exact ⟨Pl.ret_bool (by rw [HS.out, HQ.out]), HB2.out⟩

set_option maxRecDepth 8000 in
set_option maxHeartbeats 8000000 in
theorem l22WishesS (l : List Tx) (a : Option Addr) (c : Nat) (w : World) (h : TxsV w a l) :
    Calls Try.prog 44 #[.slice a l.length c] w fun e w' => e = .returned (.bool (wishesOk l)) ∧ Below w.heap.size w w' := by
  have HH := hid h
  have hl := h.len
  clear h
  obtain ⟨R, hR⟩ : ∃ R, R = wishesOk l := ⟨_, rfl⟩
  have HR : Hid (R = (decide (l.length ≤ 20) && allTo (wishAt l) l.length)) := hR
  rw [← hR]
  clear hR
  by_cases h2 : l.length ≤ 20
  · have HS : Hid (R = allTo (wishAt l) l.length) := by show R = _; rw [HR.out, decide_eq_true h2]; rfl
    have h2i : ¬ ((20 : Int) < (l.length : Int)) := by omega
    clear HR
    go_enter Try.func44, Try.ntmps44
    go_wp2
    go_loopw [3] (fun i wr => ∃ q : Nat, q ≤ l.length ∧ i = .int .i64 q ∧ allTo (wishAt l) q = true ∧ Below w.heap.size w wr) (fun i _ => l.length - (intOf i).toNat)
    case atStart => exact ⟨0, Nat.zero_le _, rfl, rfl, Below.refl _ _⟩
    case round =>
      obtain ⟨q, hq, rfl, ha, hW⟩ := hrel
      have HQ := hid ha
      have HB2 := hid hW
      clear ha hW
      by_cases hlt : q < l.length
      · obtain ⟨b, off, ha, hbl, e0, hsz⟩ := (HH.out.later HB2.out).at_ q hlt
        subst ha
        obtain ⟨x, hx⟩ : ∃ x : ByteArray, x = l.getD q ByteArray.empty := ⟨_, rfl⟩
        rw [← hx] at e0 hsz
        unfold maxLen at hsz
        have hm0 : (0 : Int) ≤ (q : Int) := by omega
        have hm3 : (q : Int) < (l.length : Int) := by omega
        have HPQ : Hid (wishAt l q = (decide (1 ≤ x.size) && decide (x.size ≤ 160) && allTo (fun k => !same (l.getD k ByteArray.empty) x) q)) := by show _ = _; rw [wishAt, ← hx]
        have HX := hid hx
        clear hx
        by_cases g1 : 1 ≤ x.size
        · have g1i : ¬ ((x.size : Int) < 1) := by omega
          by_cases g2 : x.size ≤ 160
          · have g2i : ¬ ((160 : Int) < (x.size : Int)) := by omega
            have HPR : Hid (wishAt l q = allTo (fun k => !same (l.getD k ByteArray.empty) x) q) := by show _ = _; rw [HPQ.out, decide_eq_true g1, decide_eq_true g2]; rfl
            clear HPQ g1 g2
            go_wp2
            clear e0 hbl
            go_loopw [4] (fun i wz => ∃ m : Nat, m ≤ q ∧ i = .int .i64 m ∧ allTo (fun k => !same (l.getD k ByteArray.empty) x) m = true ∧ Below w.heap.size w wz) (fun i _ => q - (intOf i).toNat)
            case atStart => exact ⟨0, Nat.zero_le _, rfl, rfl, HB2.out⟩
            case round =>
              obtain ⟨m, hm, rfl, ha, hW⟩ := hrel
              have HM := hid ha
              have HB3 := hid hW
              clear ha hW g1i g2i
              by_cases hmq : m < q
              · have HL := hid (HH.out.later HB3.out)
                obtain ⟨b2, off2, ha2, hbl2, e1, _⟩ := HL.out.at_ q hlt
                injection ha2 with ha2
                injection ha2 with p1 p2 _
                subst p1 p2
                obtain ⟨b3, off3, ha3, hbl3, e2, _⟩ := HL.out.at_ m (by omega)
                injection ha3 with ha3
                injection ha3 with p1 p2 _
                subst p1 p2
                obtain ⟨y, hy⟩ : ∃ y : ByteArray, y = l.getD m ByteArray.empty := ⟨_, rfl⟩
                rw [← HX.out] at e1
                rw [← hy] at e2
                have HY := hid hy
                clear hy
                have hNE := pst_some wr
                have hbz : ∀ px : Pst wr, b < px.W.heap.size := fun px => px.size hbl3
                have E1 : ∀ px : Pst wr, px.W.cell? ⟨b, off + q, none⟩ = some (.string x) := fun px => px.cell e1 hbl3
                have E2 : ∀ px : Pst wr, px.W.cell? ⟨b, off + m, none⟩ = some (.string y) := fun px => px.cell e2 hbl3
                have hm6 : (0 : Int) ≤ (m : Int) := by omega
                have hm7 : (m : Int) < (l.length : Int) := by omega
                have hmq3 : (m : Int) < (q : Int) := by omega
                clear e1 e2 hbl2 hbl3
                cases hs : (y.toList == x.toList)
                · have HN : Hid (allTo (fun k => !same (l.getD k ByteArray.empty) x) (m + 1) = true) := by show (allTo _ m && !same (l.getD m ByteArray.empty) x) = true; rw [HM.out, ← HY.out, show same y x = false from hs]; rfl
                  go_wp2_with fail
                  refine region_class wr (Below.refl _ _) (by kernel_rfl) (by kernel_rfl) ?_
                  repeat (first
                    | go_big_quiet_skip
                    | (go_big_quiet_want; go_big_quiet_op; first | go_big_quiet_on | (apply Exists.intro; refine ⟨fun px => ?_, ?_⟩; (focus (fail)); go_big_quiet_on)))
                  refine wpQuiet_nil ?_
                  intro _ hw'
                  obtain ⟨x6, hw''⟩ := hw'
                  subst hw''
                  go_wp2
                  go_roundw
                  case rel => exact ⟨m + 1, by omega, by go_num, HN.out, blw_trans HB3.out x6.ok⟩
                  case measure => simp [intOf]; omega
                · have HF : Hid (R = false) := by
                    show R = false
                    rw [HS.out]
                    refine allTo_false (k := q) ?_ _ hlt
                    rw [HPR.out]
                    exact allTo_false (k := m) (by show (!same (l.getD m ByteArray.empty) x) = false; rw [← HY.out, show same y x = true from hs]; rfl) _ hmq
                  go_wp2_with fail
                  refine region_class wr (Below.refl _ _) (by kernel_rfl) (by kernel_rfl) ?_
                  repeat (first
                    | go_big_quiet_skip
                    | (go_big_quiet_want; go_big_quiet_op; first | go_big_quiet_on | (apply Exists.intro; refine ⟨fun px => ?_, ?_⟩; (focus (fail)); go_big_quiet_on)))
                  refine wpQuiet_nil ?_
                  intro _ hw'
                  obtain ⟨x6, hw''⟩ := hw'
                  subst hw''
                  go_wp2
                  go_ret
                  exact ⟨Pl.ret_bool HF.out.symm, blw_trans HB3.out x6.ok⟩
              · obtain rfl : m = q := by omega
                have HN : Hid (allTo (wishAt l) (m + 1) = true) := by show (allTo _ m && wishAt l m) = true; rw [HQ.out, HPR.out, HM.out]; rfl
                go_wp2
                go_roundw
                case rel => exact ⟨m + 1, by omega, by go_num, HN.out, HB3.out⟩
                case measure => simp [intOf]; omega
          · have g2i : (160 : Int) < (x.size : Int) := by omega
            have HF : Hid (R = false) := by show R = false; rw [HS.out]; exact allTo_false (k := q) (by rw [HPQ.out, decide_eq_false g2]; simp) _ hlt
            clear g1 g2
            go_wp2
            go_ret
            exact ⟨Pl.ret_bool HF.out.symm, HB2.out⟩
        · have g1i : (x.size : Int) < 1 := by omega
          have HF : Hid (R = false) := by show R = false; rw [HS.out]; exact allTo_false (k := q) (by rw [HPQ.out, decide_eq_false g1]; rfl) _ hlt
          clear g1
          go_wp2
          go_ret
          exact ⟨Pl.ret_bool HF.out.symm, HB2.out⟩
      · obtain rfl : q = l.length := by omega
        go_wp2
        go_ret
        exact ⟨Pl.ret_bool (by rw [HS.out, HQ.out]), HB2.out⟩
  · have h2i : (20 : Int) < (l.length : Int) := by omega
    have HE : Hid (R = false) := by show R = _; rw [HR.out, decide_eq_false h2]; rfl
    go_enter Try.func44, Try.ntmps44
    go_wp2
    go_ret
    exact ⟨Pl.ret_bool HE.out.symm, Below.refl _ _⟩

end Go.Proofs.Ytcefgacmagobnaa

namespace Go.Proofs.Ytcefgacmagobnaa
open Go.RowKit Go.Deep

set_option maxRecDepth 8000 in
set_option maxHeartbeats 8000000 in
theorem l22AcksS (l : List Ra) (of : Int) (a : Option Addr) (c : Nat) (w : World) (h : RasV w a l) :
    Calls Try.prog 47 #[.slice a l.length c, .int .i64 of] w fun e w' => e = .returned (.bool (acksOk l of)) ∧ Below w.heap.size w w' := by
  have HH := hid h
  have hl := h.len
  clear h
  obtain ⟨R, hR⟩ : ∃ R, R = acksOk l of := ⟨_, rfl⟩
  have HS : Hid (R = allTo (ackAt l of) l.length) := hR
  rw [← hR]
  clear hR
  go_enter Try.func47, Try.ntmps47
  go_wp2
  go_loopw [5] (fun i wr => ∃ q : Nat, q ≤ l.length ∧ i = .int .i64 q ∧ allTo (ackAt l of) q = true ∧ Below w.heap.size w wr) (fun i _ => l.length - (intOf i).toNat)
  case atStart => exact ⟨0, Nat.zero_le _, rfl, rfl, Below.refl _ _⟩
  case round =>
    obtain ⟨q, hq, rfl, ha, hW⟩ := hrel
    have HQ := hid ha
    have HB2 := hid hW
    clear ha hW
    by_cases hlt : q < l.length
    · have HL := hid (HH.out.later HB2.out)
      obtain ⟨b, off, a0, c0, ha, hbl, e0, e1, hn⟩ := HL.out.at_ q hlt
      subst ha
      obtain ⟨x, hx⟩ : ∃ x : Ra, x = l.getD q Ra.none := ⟨_, rfl⟩
      rw [← hx] at e0 e1 hn
      have hNE := pst_some wr
      have hbz : ∀ px : Pst wr, b < px.W.heap.size := fun px => px.size hbl
      have E0 : ∀ px : Pst wr, px.W.cell? ⟨b, off + q * 2, none⟩ = some (.int .i64 x.ix) := fun px => px.cell e0 hbl
      have E1 : ∀ px : Pst wr, px.W.cell? ⟨b, off + q * 2 + 1, none⟩ = some (.slice a0 x.frs.length c0) := fun px => px.cell e1 hbl
      obtain ⟨sx, hsx⟩ : ∃ sx, sx = numsOk x.frs of := ⟨_, rfl⟩
      have HC : Hid (∀ px : Pst wr, Calls Try.prog 45 #[.slice a0 x.frs.length c0, .int .i64 of] px.W fun e w' => e = .returned (.bool sx) ∧ Below px.W.heap.size px.W w') := fun px => by rw [hsx]; exact l22NumbersS x.frs of a0 c0 px.W (hn.later px.ok)
      have hm0 : (0 : Int) ≤ (q : Int) := by omega
      have hm3 : (q : Int) < (l.length : Int) := by omega
      have HPQ : Hid (ackAt l of q = (inB x.ix 1 120 && sx && (decide (q = 0) || decide ((l.getD (q - 1) Ra.none).ix < x.ix)))) := by show _ = _; rw [ackAt, ← hx, hsx]
      clear e0 e1 hx hsx hn
      cases hin : inB x.ix 1 120
      · have HF : Hid (R = false) := by show R = false; rw [HS.out]; exact allTo_false (k := q) (by rw [HPQ.out, hin]; rfl) _ hlt
        clear hbl
        go_wp2_with fail
        refine region_class wr (Below.refl _ _) (by kernel_rfl) (by kernel_rfl) ?_
        repeat (first
          | go_big_quiet_skip
          | (go_big_quiet_want; go_big_quiet_op; first | go_big_quiet_on | (apply Exists.intro; refine ⟨fun px => ?_, ?_⟩; (focus (first | (go_at_call 18; refine (l21InS _ _ _ _).mono ?_; rintro e w' ⟨he, hb⟩; exact ⟨he, px, hb.symm⟩) | (go_at_call 45; refine (HC.out px).mono ?_; rintro e w' ⟨he, hb⟩; exact ⟨he, ⟨w', blw_trans px.ok hb⟩, rfl⟩))); go_big_quiet_on)))
        refine wpQuiet_nil ?_
        intro _ hw'
        obtain ⟨x6, hw''⟩ := hw'
        subst hw''
        go_wp2
        go_ret
        exact ⟨Pl.ret_bool HF.out.symm, blw_trans HB2.out x6.ok⟩
      cases sx
      · have HF : Hid (R = false) := by show R = false; rw [HS.out]; exact allTo_false (k := q) (by rw [HPQ.out, hin]; rfl) _ hlt
        clear hbl
        go_wp2_with fail
        refine region_class wr (Below.refl _ _) (by kernel_rfl) (by kernel_rfl) ?_
        repeat (first
          | go_big_quiet_skip
          | (go_big_quiet_want; go_big_quiet_op; first | go_big_quiet_on | (apply Exists.intro; refine ⟨fun px => ?_, ?_⟩; (focus (first | (go_at_call 18; refine (l21InS _ _ _ _).mono ?_; rintro e w' ⟨he, hb⟩; exact ⟨he, px, hb.symm⟩) | (go_at_call 45; refine (HC.out px).mono ?_; rintro e w' ⟨he, hb⟩; exact ⟨he, ⟨w', blw_trans px.ok hb⟩, rfl⟩))); go_big_quiet_on)))
        refine wpQuiet_nil ?_
        intro _ hw'
        obtain ⟨x6, hw''⟩ := hw'
        subst hw''
        go_wp2
        go_ret
        exact ⟨Pl.ret_bool HF.out.symm, blw_trans HB2.out x6.ok⟩
      by_cases hz : q = 0
      · subst hz
        simp only [Nat.zero_mul, Nat.add_zero] at E0 E1
        have HN : Hid (allTo (ackAt l of) (0 + 1) = true) := by show (allTo _ 0 && ackAt l of 0) = true; rw [HPQ.out, hin]; rfl
        clear hbl
        go_wp2_with fail
        refine region_class wr (Below.refl _ _) (by kernel_rfl) (by kernel_rfl) ?_
        repeat (first
          | go_big_quiet_skip
          | (go_big_quiet_want; go_big_quiet_op; first | go_big_quiet_on | (apply Exists.intro; refine ⟨fun px => ?_, ?_⟩; (focus (first | (go_at_call 18; refine (l21InS _ _ _ _).mono ?_; rintro e w' ⟨he, hb⟩; exact ⟨he, px, hb.symm⟩) | (go_at_call 45; refine (HC.out px).mono ?_; rintro e w' ⟨he, hb⟩; exact ⟨he, ⟨w', blw_trans px.ok hb⟩, rfl⟩))); go_big_quiet_on)))
        refine wpQuiet_nil ?_
        intro _ hw'
        obtain ⟨x6, hw''⟩ := hw'
        subst hw''
        go_wp2
        go_roundw
        case rel => exact ⟨0 + 1, by omega, by go_num, HN.out, blw_trans HB2.out x6.ok⟩
        case measure => simp [intOf]; omega
      · obtain ⟨m, rfl⟩ : ∃ m, q = m + 1 := ⟨q - 1, by omega⟩
        obtain ⟨b2, off2, _, _, ha2, hbl2, d0, _, _⟩ := HL.out.at_ m (by omega)
        injection ha2 with ha2
        injection ha2 with hb2 ho2 _
        subst hb2 ho2
        obtain ⟨x2, hx2⟩ : ∃ x2 : Ra, x2 = l.getD m Ra.none := ⟨_, rfl⟩
        rw [← hx2] at d0
        have D0 : ∀ px : Pst wr, px.W.cell? ⟨b, off + m * 2, none⟩ = some (.int .i64 x2.ix) := fun px => px.cell d0 hbl
        have HPM : Hid (ackAt l of (m + 1) = decide (x2.ix < x.ix)) := by show _ = _; rw [HPQ.out, hin, Nat.add_sub_cancel, ← hx2]; simp
        have hm6 : (0 : Int) ≤ (m : Int) := by omega
        have hm7 : (m : Int) < (l.length : Int) := by omega
        have hm8 : ((m : Int) + 1 - 1) = (m : Int) := by omega
        clear d0 hx2 HPQ
        by_cases k2 : x2.ix < x.ix
        · have k2d : decide (x.ix ≤ x2.ix) = false := decide_eq_false (by omega)
          have HN : Hid (allTo (ackAt l of) (m + 1 + 1) = true) := by show (allTo _ (m + 1) && ackAt l of (m + 1)) = true; rw [HQ.out, HPM.out]; simp [k2]
          clear hbl
          go_wp2_with fail
          refine region_class wr (Below.refl _ _) (by kernel_rfl) (by kernel_rfl) ?_
          repeat (first
            | go_big_quiet_skip
            | (go_big_quiet_want; go_big_quiet_op; first | go_big_quiet_on | (apply Exists.intro; refine ⟨fun px => ?_, ?_⟩; (focus (first | (go_at_call 18; refine (l21InS _ _ _ _).mono ?_; rintro e w' ⟨he, hb⟩; exact ⟨he, px, hb.symm⟩) | (go_at_call 45; refine (HC.out px).mono ?_; rintro e w' ⟨he, hb⟩; exact ⟨he, ⟨w', blw_trans px.ok hb⟩, rfl⟩))); go_big_quiet_on)))
          refine wpQuiet_nil ?_
          intro _ hw'
          obtain ⟨x6, hw''⟩ := hw'
          subst hw''
          go_wp2
          go_roundw
          case rel => exact ⟨m + 1 + 1, by omega, by go_num, HN.out, blw_trans HB2.out x6.ok⟩
          case measure => simp [intOf]; omega
        · have k2d : decide (x.ix ≤ x2.ix) = true := decide_eq_true (by omega)
          have HF : Hid (R = false) := by show R = false; rw [HS.out]; exact allTo_false (k := m + 1) (by rw [HPM.out]; simp [k2]) _ hlt
          clear hbl
          go_wp2_with fail
          refine region_class wr (Below.refl _ _) (by kernel_rfl) (by kernel_rfl) ?_
          repeat (first
            | go_big_quiet_skip
            | (go_big_quiet_want; go_big_quiet_op; first | go_big_quiet_on | (apply Exists.intro; refine ⟨fun px => ?_, ?_⟩; (focus (first | (go_at_call 18; refine (l21InS _ _ _ _).mono ?_; rintro e w' ⟨he, hb⟩; exact ⟨he, px, hb.symm⟩) | (go_at_call 45; refine (HC.out px).mono ?_; rintro e w' ⟨he, hb⟩; exact ⟨he, ⟨w', blw_trans px.ok hb⟩, rfl⟩))); go_big_quiet_on)))
          refine wpQuiet_nil ?_
          intro _ hw'
          obtain ⟨x6, hw''⟩ := hw'
          subst hw''
          go_wp2
          go_ret
          exact ⟨Pl.ret_bool HF.out.symm, blw_trans HB2.out x6.ok⟩
    · obtain rfl : q = l.length := by omega
      go_wp2
      go_ret
      exact ⟨Pl.ret_bool (by rw [HS.out, HQ.out]), HB2.out⟩

set_option maxRecDepth 8000 in
set_option maxHeartbeats 8000000 in
theorem l22QuietS (K : Rr) (a0 a1 a2 a3 a4 a5 a6 : Option Addr) (c0 c1 c2 c3 c4 c5 c6 : Nat) (w : World) (h : RrV w a0 a1 a2 a3 a4 a5 a6 K) :
    Calls Try.prog 48 #[.agg #[.int .i64 K.num, .int .i64 K.of_, .bool K.up, .int .i64 K.safe.prom, .int .i64 K.safe.known, .slice a0 K.safe.slots.length c0, .int .i64 K.disk.prom, .int .i64 K.disk.known, .slice a1 K.disk.slots.length c1, .slice a2 K.held.length c2, .slice a3 K.wish.length c3, .bool K.lead, .bool K.try_, .int .i64 K.bal, .slice a4 K.yes.length c4, .slice a5 K.best.length c5, .slice a6 K.acks.length c6, .int .i64 K.heard]] w fun e w' => e = .returned (.bool (quietB K)) ∧ Below w.heap.size w w' := by
  have z4 := h.l4.len
  have z5 := h.s5
  have z6 := h.l6.len
  clear h
  obtain ⟨R, hR⟩ : ∃ R, R = quietB K := ⟨_, rfl⟩
  have HR : Hid (R = (!K.lead && !K.try_ && decide (K.bal = 0) && decide (K.yes.length + K.best.length + K.acks.length = 0))) := hR
  rw [← hR]
  clear hR
  obtain ⟨wa, hwa⟩ : ∃ wa, wa = w.alloc (.cells #[.int .i64 K.num, .int .i64 K.of_, .bool K.up, .int .i64 K.safe.prom, .int .i64 K.safe.known, .slice a0 K.safe.slots.length c0, .int .i64 K.disk.prom, .int .i64 K.disk.known, .slice a1 K.disk.slots.length c1, .slice a2 K.held.length c2, .slice a3 K.wish.length c3, .bool K.lead, .bool K.try_, .int .i64 K.bal, .slice a4 K.yes.length c4, .slice a5 K.best.length c5, .slice a6 K.acks.length c6, .int .i64 K.heard] 52) := ⟨_, rfl⟩
  have HB : Hid (Below w.heap.size w wa) := by show Below _ _ _; rw [hwa]; exact blw_alloc (Below.refl _ _) _
  have HX : Hid (LBox wa w.heap.size [.int .i64 K.num, .int .i64 K.of_, .bool K.up, .int .i64 K.safe.prom, .int .i64 K.safe.known, .slice a0 K.safe.slots.length c0, .int .i64 K.disk.prom, .int .i64 K.disk.known, .slice a1 K.disk.slots.length c1, .slice a2 K.held.length c2, .slice a3 K.wish.length c3, .bool K.lead, .bool K.try_, .int .i64 K.bal, .slice a4 K.yes.length c4, .slice a5 K.best.length c5, .slice a6 K.acks.length c6, .int .i64 K.heard]) := by show LBox _ _ _; rw [hwa]; exact LBox.new w _ _ _ rfl
  go_enter Try.func48, Try.ntmps48
  go_upto_region 1 with fail
  rw [← hwa]
  clear hwa
  have yz := HX.out.lt
  have y11 := HX.out.get 11 (.bool K.lead) rfl
  have y12 := HX.out.get 12 (.bool K.try_) rfl
  have y13 := HX.out.get 13 (.int .i64 K.bal) rfl
  have y14 := HX.out.get 14 (.slice a4 K.yes.length c4) rfl
  have y15 := HX.out.get 15 (.slice a5 K.best.length c5) rfl
  have y16 := HX.out.get 16 (.slice a6 K.acks.length c6) rfl
  cases h1 : K.lead
  · rw [h1] at y11
    cases h2 : K.try_
    · rw [h2] at y12
      by_cases h3 : K.bal = 0
      · have h3b : (K.bal == 0) = true := by simpa using h3
        by_cases h4 : K.yes.length + K.best.length + K.acks.length = 0
        · have h4i : ((K.yes.length : Int) + (K.best.length : Int) + (K.acks.length : Int)) = 0 := by omega
          have HE : Hid (R = true) := by show R = _; rw [HR.out, h1, h2, decide_eq_true h3, decide_eq_true h4]; rfl
          clear HR h1 h2 h3 h4
          go_wp2
          go_ret
          exact ⟨Pl.ret_bool HE.out.symm, HB.out⟩
        · have h4i : ¬ ((K.yes.length : Int) + (K.best.length : Int) + (K.acks.length : Int)) = 0 := by omega
          have h4b : ((K.yes.length : Int) + (K.best.length : Int) + (K.acks.length : Int) == 0) = false := by simpa using h4i
          have HE : Hid (R = false) := by show R = _; rw [HR.out, h1, h2, decide_eq_true h3, decide_eq_false h4]; rfl
          clear HR h1 h2 h3 h4
          go_wp2
          go_ret
          exact ⟨Pl.ret_bool HE.out.symm, HB.out⟩
      · have h3b : (K.bal == 0) = false := by simpa using h3
        have HE : Hid (R = false) := by show R = _; rw [HR.out, h1, h2, decide_eq_false h3]; rfl
        clear HR h1 h2 h3
        go_wp2
        go_ret
        exact ⟨Pl.ret_bool HE.out.symm, HB.out⟩
    · rw [h2] at y12
      have HE : Hid (R = false) := by show R = _; rw [HR.out, h1, h2]; rfl
      clear HR h1 h2
      go_wp2
      go_ret
      exact ⟨Pl.ret_bool HE.out.symm, HB.out⟩
  · rw [h1] at y11
    have HE : Hid (R = false) := by show R = _; rw [HR.out, h1]; rfl
    clear HR h1
    go_wp2
    go_ret
    exact ⟨Pl.ret_bool HE.out.symm, HB.out⟩

end Go.Proofs.Ytcefgacmagobnaa

namespace Go.Proofs.Ytcefgacmagobnaa
open Go.RowKit Go.Deep

noncomputable def sfst : Code → Code
  | .seq a _ => a
  | c => c
noncomputable def ssnd : Code → Code
  | .seq _ b => b
  | c => c
theorem sfst_seq (a b : Code) : sfst (.seq a b) = a := rfl
theorem ssnd_seq (a b : Code) : ssnd (.seq a b) = b := rfl
noncomputable def rv0 : Code := (Try.f19.body).getD .skip
noncomputable def rv1 : Code := ssnd rv0
noncomputable def rv2 : Code := ssnd rv1
noncomputable def rv3 : Code := ssnd rv2
noncomputable def rv4 : Code := ssnd rv3
noncomputable def rv5 : Code := ssnd rv4
theorem rv0_3 : rv0 = .seq (sfst rv0) (.seq (sfst rv1) (.seq (sfst rv2) rv3)) := by kernel_rfl
theorem rv3_4 : rv3 = .seq (sfst rv3) rv4 := by kernel_rfl
theorem rv4_5 : rv4 = .seq (sfst rv4) rv5 := by kernel_rfl

set_option maxRecDepth 8000 in
set_option maxHeartbeats 40000000 in
theorem rvSeg5 (K : Rr) (a0 a1 a2 a3 a4 a5 a6 : Option Addr) (c0 c1 c2 c3 c4 c5 c6 : Nat) (w W : World) (R : Bool) (HB6 : Hid (Below w.heap.size w W)) (HX6 : Hid (LBox W w.heap.size [.int .i64 K.num, .int .i64 K.of_, .bool K.up, .int .i64 K.safe.prom, .int .i64 K.safe.known, .slice a0 K.safe.slots.length c0, .int .i64 K.disk.prom, .int .i64 K.disk.known, .slice a1 K.disk.slots.length c1, .slice a2 K.held.length c2, .slice a3 K.wish.length c3, .bool K.lead, .bool K.try_, .int .i64 K.bal, .slice a4 K.yes.length c4, .slice a5 K.best.length c5, .slice a6 K.acks.length c6, .int .i64 K.heard])) (HV6 : Hid (RrV W a0 a1 a2 a3 a4 a5 a6 K)) (HHD : Hid (0 ≤ K.heard ∧ K.heard ≤ 1000000)) (HR : Hid (R = (K.up || (quietB K && decide ((K.held.length : Int) + K.wish.length + K.heard = 0))))) (u0 u2 u3 u4 u5 u6 u7 u8 u9 u10 u11 u12 u13 u14 u15 u16 u17 u18 u19 u20 u21 u22 u23 u24 u25 u26 u27 u28 u29 u30 u31 u32 u33 u34 u35 u36 u37 u38 u39 u40 u41 u42 u43 u44 u45 u46 u47 u48 u49 u50 u51 u52 u53 u54 u55 u56 u57 u58 u59 u60 u61 u62 u63 u64 u65 u66 u67 u68 u69 u70 u71 u72 u73 u74 u75 u76 u77 u78 u79 u80 u81 u82 u83 u84 u85 u86 u87 u88 u89 u90 u91 u92 u93 u94 u95 u96 u97 u98 u99 u100 u101 u102 u103 u104 u105 u106 u107 u108 u109 u110 u111 u112 u113 u114 u115 u116 u117 u118 u119 u120 u121 u122 u123 u124 u125 u126 u127 u128 u129 u130 u131 u132 u133 u134 u135 u136 u137 u138 u139 u140 u141 u142 u143 u144 u145 u146 u147 u148 u149 u150 u151 u152 u153 u154 u155 u156 u157 u158 u159 : Value) :
    Code.wp Try.prog rv5 (bodyPost Try.prog Try.f19 (fun e w' => e = .returned (.bool R) ∧ Below w.heap.size w w')) { tmps := #[u0, .pointer (some ⟨w.heap.size, 0, none⟩), u2, u3, u4, u5, u6, u7, u8, u9, u10, u11, u12, u13, u14, u15, u16, u17, u18, u19, u20, u21, u22, u23, u24, u25, u26, u27, u28, u29, u30, u31, u32, u33, u34, u35, u36, u37, u38, u39, u40, u41, u42, u43, u44, u45, u46, u47, u48, u49, u50, u51, u52, u53, u54, u55, u56, u57, u58, u59, u60, u61, u62, u63, u64, u65, u66, u67, u68, u69, u70, u71, u72, u73, u74, u75, u76, u77, u78, u79, u80, u81, u82, u83, u84, u85, u86, u87, u88, u89, u90, u91, u92, u93, u94, u95, u96, u97, u98, u99, u100, u101, u102, u103, u104, u105, u106, u107, u108, u109, u110, u111, u112, u113, u114, u115, u116, u117, u118, u119, u120, u121, u122, u123, u124, u125, u126, u127, u128, u129, u130, u131, u132, u133, u134, u135, u136, u137, u138, u139, u140, u141, u142, u143, u144, u145, u146, u147, u148, u149, u150, u151, u152, u153, u154, u155, u156, u157, u158, u159], defers := [] } W := by
  have z2 := HV6.out.l2.len
  have z3 := HV6.out.l3.len
  have z4 := HV6.out.l4.len
  have z5 := HV6.out.s5
  have z6 := HV6.out.l6.len
  have hh := HHD.out
  have y0 := HX6.out.get 0 (.int .i64 K.num) rfl
  have y1 := HX6.out.get 1 (.int .i64 K.of_) rfl
  have y2 := HX6.out.get 2 (.bool K.up) rfl
  have y3 := HX6.out.get 3 (.int .i64 K.safe.prom) rfl
  have y4 := HX6.out.get 4 (.int .i64 K.safe.known) rfl
  have y5 := HX6.out.get 5 (.slice a0 K.safe.slots.length c0) rfl
  have y6 := HX6.out.get 6 (.int .i64 K.disk.prom) rfl
  have y7 := HX6.out.get 7 (.int .i64 K.disk.known) rfl
  have y8 := HX6.out.get 8 (.slice a1 K.disk.slots.length c1) rfl
  have y9 := HX6.out.get 9 (.slice a2 K.held.length c2) rfl
  have y10 := HX6.out.get 10 (.slice a3 K.wish.length c3) rfl
  have y11 := HX6.out.get 11 (.bool K.lead) rfl
  have y12 := HX6.out.get 12 (.bool K.try_) rfl
  have y13 := HX6.out.get 13 (.int .i64 K.bal) rfl
  have y14 := HX6.out.get 14 (.slice a4 K.yes.length c4) rfl
  have y15 := HX6.out.get 15 (.slice a5 K.best.length c5) rfl
  have y16 := HX6.out.get 16 (.slice a6 K.acks.length c6) rfl
  have y17 := HX6.out.get 17 (.int .i64 K.heard) rfl
  have yz := HX6.out.lt
  simp only [rv5, rv4, rv3, rv2, rv1, rv0, Try.f19, Option.getD_some, ssnd_seq]
  have HQC := l22QuietS K a0 a1 a2 a3 a4 a5 a6 c0 c1 c2 c3 c4 c5 c6 W HV6.out
  cases hu : K.up
  · rw [hu] at y2 HQC
    cases hq : quietB K
    · rw [hq] at HQC
      have HE : Hid (R = false) := by show R = _; rw [HR.out, hu, hq]; rfl
      clear HR
      go_wp2_with fail
      refine HQC.mono ?_
      rintro e w9 ⟨rfl, hb⟩
      go_wp2
      go_ret
      exact ⟨Pl.ret_bool HE.out.symm, blw_trans HB6.out hb⟩
    rw [hq] at HQC
    by_cases hs : (K.held.length : Int) + K.wish.length + K.heard = 0
    · have HE : Hid (R = true) := by show R = _; rw [HR.out, hu, hq, decide_eq_true hs]; rfl
      have hsb : ((K.held.length : Int) + (K.wish.length : Int) + K.heard == 0) = true := by simpa using hs
      clear HR hs
      go_wp2_with fail
      refine HQC.mono ?_
      rintro e w9 ⟨rfl, hb⟩
      have HX9 := hid (HX6.out.later hb)
      have x0 := HX9.out.get 0 (.int .i64 K.num) rfl
      have x1 := HX9.out.get 1 (.int .i64 K.of_) rfl
      have x2 := HX9.out.get 2 (.bool K.up) rfl
      have x3 := HX9.out.get 3 (.int .i64 K.safe.prom) rfl
      have x4 := HX9.out.get 4 (.int .i64 K.safe.known) rfl
      have x5 := HX9.out.get 5 (.slice a0 K.safe.slots.length c0) rfl
      have x6 := HX9.out.get 6 (.int .i64 K.disk.prom) rfl
      have x7 := HX9.out.get 7 (.int .i64 K.disk.known) rfl
      have x8 := HX9.out.get 8 (.slice a1 K.disk.slots.length c1) rfl
      have x9 := HX9.out.get 9 (.slice a2 K.held.length c2) rfl
      have x10 := HX9.out.get 10 (.slice a3 K.wish.length c3) rfl
      have x11 := HX9.out.get 11 (.bool K.lead) rfl
      have x12 := HX9.out.get 12 (.bool K.try_) rfl
      have x13 := HX9.out.get 13 (.int .i64 K.bal) rfl
      have x14 := HX9.out.get 14 (.slice a4 K.yes.length c4) rfl
      have x15 := HX9.out.get 15 (.slice a5 K.best.length c5) rfl
      have x16 := HX9.out.get 16 (.slice a6 K.acks.length c6) rfl
      have x17 := HX9.out.get 17 (.int .i64 K.heard) rfl
      have xz := HX9.out.lt
      clear yz y0 y1 y2 y3 y4 y5 y6 y7 y8 y9 y10 y11 y12 y13 y14 y15 y16 y17
      go_wp2
      go_ret
      exact ⟨Pl.ret_bool HE.out.symm, blw_trans HB6.out hb⟩
    · have HE : Hid (R = false) := by show R = _; rw [HR.out, hu, hq, decide_eq_false hs]; rfl
      have hsb : ((K.held.length : Int) + (K.wish.length : Int) + K.heard == 0) = false := by simpa using hs
      clear HR hs
      go_wp2_with fail
      refine HQC.mono ?_
      rintro e w9 ⟨rfl, hb⟩
      have HX9 := hid (HX6.out.later hb)
      have x0 := HX9.out.get 0 (.int .i64 K.num) rfl
      have x1 := HX9.out.get 1 (.int .i64 K.of_) rfl
      have x2 := HX9.out.get 2 (.bool K.up) rfl
      have x3 := HX9.out.get 3 (.int .i64 K.safe.prom) rfl
      have x4 := HX9.out.get 4 (.int .i64 K.safe.known) rfl
      have x5 := HX9.out.get 5 (.slice a0 K.safe.slots.length c0) rfl
      have x6 := HX9.out.get 6 (.int .i64 K.disk.prom) rfl
      have x7 := HX9.out.get 7 (.int .i64 K.disk.known) rfl
      have x8 := HX9.out.get 8 (.slice a1 K.disk.slots.length c1) rfl
      have x9 := HX9.out.get 9 (.slice a2 K.held.length c2) rfl
      have x10 := HX9.out.get 10 (.slice a3 K.wish.length c3) rfl
      have x11 := HX9.out.get 11 (.bool K.lead) rfl
      have x12 := HX9.out.get 12 (.bool K.try_) rfl
      have x13 := HX9.out.get 13 (.int .i64 K.bal) rfl
      have x14 := HX9.out.get 14 (.slice a4 K.yes.length c4) rfl
      have x15 := HX9.out.get 15 (.slice a5 K.best.length c5) rfl
      have x16 := HX9.out.get 16 (.slice a6 K.acks.length c6) rfl
      have x17 := HX9.out.get 17 (.int .i64 K.heard) rfl
      have xz := HX9.out.lt
      clear yz y0 y1 y2 y3 y4 y5 y6 y7 y8 y9 y10 y11 y12 y13 y14 y15 y16 y17
      go_wp2
      go_ret
      exact ⟨Pl.ret_bool HE.out.symm, blw_trans HB6.out hb⟩
  · rw [hu] at y2
    have HE : Hid (R = true) := by show R = _; rw [HR.out, hu]; rfl
    clear HR HQC
    go_wp2
    go_ret
    exact ⟨Pl.ret_bool HE.out.symm, HB6.out⟩

end Go.Proofs.Ytcefgacmagobnaa
