/-
  Recorders: numbers and wishes that are ok, by the specification.
-/
import Derived.Test.YtcefgacmagobnaaRvP
namespace Go.Proofs.Ytcefgacmagobnaa
open Go.RowKit Go.Deep

set_option maxRecDepth 8000 in
set_option maxHeartbeats 8000000 in
theorem l22NumbersS (l : List Nu) (of : Int) (a : Option Addr) (c : Nat) (w : World) (h : NusV w a l) :
    Calls Try.prog 45 #[.slice a l.length c, .int .i64 of] w fun e w' => e = .returned (.bool (numsOk l of)) ∧ Below w.heap.size w w' := by
  have HH := hid h
  have hl := h.len
  clear h
  obtain ⟨R, hR⟩ : ∃ R, R = numsOk l of := ⟨_, rfl⟩
  have HS : Hid (R = allTo (numAt l of) l.length) := hR
  rw [← hR]
  clear hR
  go_enter Try.func45, Try.ntmps45
  go_wp2
  go_loopw [5] (fun i wr => ∃ q : Nat, q ≤ l.length ∧ i = .int .i64 q ∧ allTo (numAt l of) q = true ∧ Below w.heap.size w wr) (fun i _ => l.length - (intOf i).toNat)
  case atStart => exact ⟨0, Nat.zero_le _, rfl, rfl, Below.refl _ _⟩
  case round =>
    obtain ⟨q, hq, rfl, ha, hW⟩ := hrel
    have HQ := hid ha
    have HB2 := hid hW
    clear ha hW
    by_cases hlt : q < l.length
    · have HL := hid (HH.out.later HB2.out)
      obtain ⟨b, off, ha, hbl, e0⟩ := HL.out.at_ q hlt
      subst ha
      obtain ⟨x, hx⟩ : ∃ x : Int, x = l.getD q 0 := ⟨_, rfl⟩
      rw [← hx] at e0
      have hNE := pst_some wr
      have hbz : ∀ px : Pst wr, b < px.W.heap.size := fun px => px.size hbl
      have E0 : ∀ px : Pst wr, px.W.cell? ⟨b, off + q, none⟩ = some (.int .i64 x) := fun px => px.cell e0 hbl
      have hm0 : (0 : Int) ≤ (q : Int) := by omega
      have hm3 : (q : Int) < (l.length : Int) := by omega
      have HPQ : Hid (numAt l of q = (inB x 1 of && (decide (q = 0) || decide (l.getD (q - 1) 0 < x)))) := by show _ = _; rw [numAt, ← hx]
      clear e0 hx
      cases hin : inB x 1 of
      · have HF : Hid (R = false) := by show R = false; rw [HS.out]; exact allTo_false (k := q) (by rw [HPQ.out, hin]; rfl) _ hlt
        clear hbl
        go_wp2_with fail
        refine region_class wr (Below.refl _ _) (by kernel_rfl) (by kernel_rfl) ?_
        repeat (first
          | go_big_quiet_skip
          | (go_big_quiet_want; go_big_quiet_op; first | go_big_quiet_on | (apply Exists.intro; refine ⟨fun px => ?_, ?_⟩; (focus ((go_at_call 18; refine (l21InS _ _ _ _).mono ?_; rintro e w' ⟨he, hb⟩; exact ⟨he, px, hb.symm⟩))); go_big_quiet_on)))
        refine wpQuiet_nil ?_
        intro _ hw'
        obtain ⟨x6, hw''⟩ := hw'
        subst hw''
        go_wp2
        go_ret
        exact ⟨Pl.ret_bool HF.out.symm, blw_trans HB2.out x6.ok⟩
      by_cases hz : q = 0
      · subst hz
        simp only [Nat.add_zero] at E0
        have HN : Hid (allTo (numAt l of) (0 + 1) = true) := by show (allTo _ 0 && numAt l of 0) = true; rw [HPQ.out, hin]; rfl
        clear hbl
        go_wp2_with fail
        refine region_class wr (Below.refl _ _) (by kernel_rfl) (by kernel_rfl) ?_
        repeat (first
          | go_big_quiet_skip
          | (go_big_quiet_want; go_big_quiet_op; first | go_big_quiet_on | (apply Exists.intro; refine ⟨fun px => ?_, ?_⟩; (focus ((go_at_call 18; refine (l21InS _ _ _ _).mono ?_; rintro e w' ⟨he, hb⟩; exact ⟨he, px, hb.symm⟩))); go_big_quiet_on)))
        refine wpQuiet_nil ?_
        intro _ hw'
        obtain ⟨x6, hw''⟩ := hw'
        subst hw''
        go_wp2
        go_roundw
        case rel => exact ⟨0 + 1, by omega, by go_num, HN.out, blw_trans HB2.out x6.ok⟩
        case measure => simp [intOf]; omega
      · obtain ⟨m, rfl⟩ : ∃ m, q = m + 1 := ⟨q - 1, by omega⟩
        obtain ⟨b2, off2, ha2, hbl2, d0⟩ := HL.out.at_ m (by omega)
        injection ha2 with ha2
        injection ha2 with hb2 ho2 _
        subst hb2 ho2
        obtain ⟨x2, hx2⟩ : ∃ x2 : Int, x2 = l.getD m 0 := ⟨_, rfl⟩
        rw [← hx2] at d0
        have D0 : ∀ px : Pst wr, px.W.cell? ⟨b, off + m, none⟩ = some (.int .i64 x2) := fun px => px.cell d0 hbl
        have HPM : Hid (numAt l of (m + 1) = decide (x2 < x)) := by show _ = _; rw [HPQ.out, hin, Nat.add_sub_cancel, ← hx2]; simp
        have hm6 : (0 : Int) ≤ (m : Int) := by omega
        have hm7 : (m : Int) < (l.length : Int) := by omega
        have hm8 : ((m : Int) + 1 - 1) = (m : Int) := by omega
        clear d0 hx2 HPQ
        by_cases k2 : x2 < x
        · have k2d : decide (x ≤ x2) = false := decide_eq_false (by omega)
          have HN : Hid (allTo (numAt l of) (m + 1 + 1) = true) := by show (allTo _ (m + 1) && numAt l of (m + 1)) = true; rw [HQ.out, HPM.out]; simp [k2]
          clear hbl
          go_wp2_with fail
          refine region_class wr (Below.refl _ _) (by kernel_rfl) (by kernel_rfl) ?_
          repeat (first
            | go_big_quiet_skip
            | (go_big_quiet_want; go_big_quiet_op; first | go_big_quiet_on | (apply Exists.intro; refine ⟨fun px => ?_, ?_⟩; (focus ((go_at_call 18; refine (l21InS _ _ _ _).mono ?_; rintro e w' ⟨he, hb⟩; exact ⟨he, px, hb.symm⟩))); go_big_quiet_on)))
          refine wpQuiet_nil ?_
          intro _ hw'
          obtain ⟨x6, hw''⟩ := hw'
          subst hw''
          go_wp2
          go_roundw
          case rel => exact ⟨m + 1 + 1, by omega, by go_num, HN.out, blw_trans HB2.out x6.ok⟩
          case measure => simp [intOf]; omega
        · have k2d : decide (x ≤ x2) = true := decide_eq_true (by omega)
          have HF : Hid (R = false) := by show R = false; rw [HS.out]; exact allTo_false (k := m + 1) (by rw [HPM.out]; simp [k2]) _ hlt
          clear hbl
          go_wp2_with fail
          refine region_class wr (Below.refl _ _) (by kernel_rfl) (by kernel_rfl) ?_
          repeat (first
            | go_big_quiet_skip
            | (go_big_quiet_want; go_big_quiet_op; first | go_big_quiet_on | (apply Exists.intro; refine ⟨fun px => ?_, ?_⟩; (focus ((go_at_call 18; refine (l21InS _ _ _ _).mono ?_; rintro e w' ⟨he, hb⟩; exact ⟨he, px, hb.symm⟩))); go_big_quiet_on)))
          refine wpQuiet_nil ?_
          intro _ hw'
          obtain ⟨x6, hw''⟩ := hw'
          subst hw''
          go_wp2
          go_ret
          exact ⟨Pl.ret_bool HF.out.symm, blw_trans HB2.out x6.ok⟩
    · obtain rfl : q = l.length := by omega
      go_wp2
      go_ret
      exact ⟨Pl.ret_bool (by rw [HS.out, HQ.out]), HB2.out⟩

set_option maxRecDepth 8000 in
set_option maxHeartbeats 8000000 in
theorem l22WishesS (l : List Tx) (a : Option Addr) (c : Nat) (w : World) (h : TxsV w a l) :
    Calls Try.prog 44 #[.slice a l.length c] w fun e w' => e = .returned (.bool (wishesOk l)) ∧ Below w.heap.size w w' := by
  have HH := hid h
  have hl := h.len
  clear h
  obtain ⟨R, hR⟩ : ∃ R, R = wishesOk l := ⟨_, rfl⟩
  have HR : Hid (R = (decide (l.length ≤ 20) && allTo (wishAt l) l.length)) := hR
  rw [← hR]
  clear hR
  by_cases h2 : l.length ≤ 20
  · have HS : Hid (R = allTo (wishAt l) l.length) := by show R = _; rw [HR.out, decide_eq_true h2]; rfl
    have h2i : ¬ ((20 : Int) < (l.length : Int)) := by omega
    clear HR
    go_enter Try.func44, Try.ntmps44
    go_wp2
    go_loopw [3] (fun i wr => ∃ q : Nat, q ≤ l.length ∧ i = .int .i64 q ∧ allTo (wishAt l) q = true ∧ Below w.heap.size w wr) (fun i _ => l.length - (intOf i).toNat)
    case atStart => exact ⟨0, Nat.zero_le _, rfl, rfl, Below.refl _ _⟩
    case round =>
      obtain ⟨q, hq, rfl, ha, hW⟩ := hrel
      have HQ := hid ha
      have HB2 := hid hW
      clear ha hW
      by_cases hlt : q < l.length
      · obtain ⟨b, off, ha, hbl, e0, hsz⟩ := (HH.out.later HB2.out).at_ q hlt
        subst ha
        obtain ⟨x, hx⟩ : ∃ x : ByteArray, x = l.getD q ByteArray.empty := ⟨_, rfl⟩
        rw [← hx] at e0 hsz
        unfold maxLen at hsz
        have hm0 : (0 : Int) ≤ (q : Int) := by omega
        have hm3 : (q : Int) < (l.length : Int) := by omega
        have HPQ : Hid (wishAt l q = (decide (1 ≤ x.size) && decide (x.size ≤ 160) && allTo (fun k => !same (l.getD k ByteArray.empty) x) q)) := by show _ = _; rw [wishAt, ← hx]
        have HX := hid hx
        clear hx
        by_cases g1 : 1 ≤ x.size
        · have g1i : ¬ ((x.size : Int) < 1) := by omega
          by_cases g2 : x.size ≤ 160
          · have g2i : ¬ ((160 : Int) < (x.size : Int)) := by omega
            have HPR : Hid (wishAt l q = allTo (fun k => !same (l.getD k ByteArray.empty) x) q) := by show _ = _; rw [HPQ.out, decide_eq_true g1, decide_eq_true g2]; rfl
            clear HPQ g1 g2
            go_wp2
            clear e0 hbl
            go_loopw [4] (fun i wz => ∃ m : Nat, m ≤ q ∧ i = .int .i64 m ∧ allTo (fun k => !same (l.getD k ByteArray.empty) x) m = true ∧ Below w.heap.size w wz) (fun i _ => q - (intOf i).toNat)
            case atStart => exact ⟨0, Nat.zero_le _, rfl, rfl, HB2.out⟩
            case round =>
              obtain ⟨m, hm, rfl, ha, hW⟩ := hrel
              have HM := hid ha
              have HB3 := hid hW
              clear ha hW g1i g2i
              by_cases hmq : m < q
              · have HL := hid (HH.out.later HB3.out)
                obtain ⟨b2, off2, ha2, hbl2, e1, _⟩ := HL.out.at_ q hlt
                injection ha2 with ha2
                injection ha2 with p1 p2 _
                subst p1 p2
                obtain ⟨b3, off3, ha3, hbl3, e2, _⟩ := HL.out.at_ m (by omega)
                injection ha3 with ha3
                injection ha3 with p1 p2 _
                subst p1 p2
                obtain ⟨y, hy⟩ : ∃ y : ByteArray, y = l.getD m ByteArray.empty := ⟨_, rfl⟩
                rw [← HX.out] at e1
                rw [← hy] at e2
                have HY := hid hy
                clear hy
                have hNE := pst_some wr
                have hbz : ∀ px : Pst wr, b < px.W.heap.size := fun px => px.size hbl3
                have E1 : ∀ px : Pst wr, px.W.cell? ⟨b, off + q, none⟩ = some (.string x) := fun px => px.cell e1 hbl3
                have E2 : ∀ px : Pst wr, px.W.cell? ⟨b, off + m, none⟩ = some (.string y) := fun px => px.cell e2 hbl3
                have hm6 : (0 : Int) ≤ (m : Int) := by omega
                have hm7 : (m : Int) < (l.length : Int) := by omega
                have hmq3 : (m : Int) < (q : Int) := by omega
                clear e1 e2 hbl2 hbl3
                cases hs : (y.toList == x.toList)
                · have HN : Hid (allTo (fun k => !same (l.getD k ByteArray.empty) x) (m + 1) = true) := by show (allTo _ m && !same (l.getD m ByteArray.empty) x) = true; rw [HM.out, ← HY.out, show same y x = false from hs]; rfl
                  go_wp2_with fail
                  refine region_class wr (Below.refl _ _) (by kernel_rfl) (by kernel_rfl) ?_
                  repeat (first
                    | go_big_quiet_skip
                    | (go_big_quiet_want; go_big_quiet_op; first | go_big_quiet_on | (apply Exists.intro; refine ⟨fun px => ?_, ?_⟩; (focus (fail)); go_big_quiet_on)))
                  refine wpQuiet_nil ?_
                  intro _ hw'
                  obtain ⟨x6, hw''⟩ := hw'
                  subst hw''
                  go_wp2
                  go_roundw
                  case rel => exact ⟨m + 1, by omega, by go_num, HN.out, blw_trans HB3.out x6.ok⟩
                  case measure => simp [intOf]; omega
                · have HF : Hid (R = false) := by
                    show R = false
                    rw [HS.out]
                    refine allTo_false (k := q) ?_ _ hlt
                    rw [HPR.out]
                    exact allTo_false (k := m) (by show (!same (l.getD m ByteArray.empty) x) = false; rw [← HY.out, show same y x = true from hs]; rfl) _ hmq
                  go_wp2_with fail
                  refine region_class wr (Below.refl _ _) (by kernel_rfl) (by kernel_rfl) ?_
                  repeat (first
                    | go_big_quiet_skip
                    | (go_big_quiet_want; go_big_quiet_op; first | go_big_quiet_on | (apply Exists.intro; refine ⟨fun px => ?_, ?_⟩; (focus (fail)); go_big_quiet_on)))
                  refine wpQuiet_nil ?_
                  intro _ hw'
                  obtain ⟨x6, hw''⟩ := hw'
                  subst hw''
                  go_wp2
                  go_ret
                  exact ⟨Pl.ret_bool HF.out.symm, blw_trans HB3.out x6.ok⟩
              · obtain rfl : m = q := by omega
                have HN : Hid (allTo (wishAt l) (m + 1) = true) := by show (allTo _ m && wishAt l m) = true; rw [HQ.out, HPR.out, HM.out]; rfl
                go_wp2
                go_roundw
                case rel => exact ⟨m + 1, by omega, by go_num, HN.out, HB3.out⟩
                case measure => simp [intOf]; omega
          · have g2i : (160 : Int) < (x.size : Int) := by omega
            have HF : Hid (R = false) := by show R = false; rw [HS.out]; exact allTo_false (k := q) (by rw [HPQ.out, decide_eq_false g2]; simp) _ hlt
            clear g1 g2
            go_wp2
            go_ret
            exact ⟨Pl.ret_bool HF.out.symm, HB2.out⟩
        · have g1i : (x.size : Int) < 1 := by omega
          have HF : Hid (R = false) := by show R = false; rw [HS.out]; exact allTo_false (k := q) (by rw [HPQ.out, decide_eq_false g1]; rfl) _ hlt
          clear g1
          go_wp2
          go_ret
          exact ⟨Pl.ret_bool HF.out.symm, HB2.out⟩
      · obtain rfl : q = l.length := by omega
        go_wp2
        go_ret
        exact ⟨Pl.ret_bool (by rw [HS.out, HQ.out]), HB2.out⟩
  · have h2i : (20 : Int) < (l.length : Int) := by omega
    have HE : Hid (R = false) := by show R = _; rw [HR.out, decide_eq_false h2]; rfl
    go_enter Try.func44, Try.ntmps44
    go_wp2
    go_ret
    exact ⟨Pl.ret_bool HE.out.symm, Below.refl _ _⟩

end Go.Proofs.Ytcefgacmagobnaa
