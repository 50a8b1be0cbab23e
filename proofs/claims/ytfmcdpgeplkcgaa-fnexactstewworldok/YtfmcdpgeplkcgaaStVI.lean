/-
  Stewards: a book that is valid: the program's StewValid.
-/
import Derived.Test.YtfmcdpgeplkcgaaOrdT
namespace Go.Proofs.Ytfmcdpgeplkcgaa
open Go.RowKit Go.Deep

set_option maxRecDepth 8000 in
set_option maxHeartbeats 40000000 in
theorem stewValidV (K : SBk) (a0 a1 a2 : Option Addr) (c0 c1 c2 : Nat) (w : World) (h : SBkV w a0 a1 a2 K) :
    Calls Try.prog 14 #[.agg #[.int .i64 K.now, .slice a0 K.svcs.length c0, .slice a1 K.cps.length c1, .slice a2 K.bts.length c2]] w fun e w' => e = .returned (.bool (sbOk K)) ∧ Below w.heap.size w w' := by
  have HH := hid h
  clear h
  obtain ⟨R, hR⟩ : ∃ R, R = sbOk K := ⟨_, rfl⟩
  have HR := hid hR
  rw [← hR]
  clear hR
  obtain ⟨wa, hwa⟩ : ∃ wa, wa = w.alloc (.cells #[.int .i64 K.now, .slice a0 K.svcs.length c0, .slice a1 K.cps.length c1, .slice a2 K.bts.length c2] 37) := ⟨_, rfl⟩
  have HB : Hid (Below w.heap.size w wa) := by show Below _ _ _; rw [hwa]; exact blw_alloc (Below.refl _ _) _
  have HX : Hid (Box4 wa w.heap.size (.int .i64 K.now) (.slice a0 K.svcs.length c0) (.slice a1 K.cps.length c1) (.slice a2 K.bts.length c2)) := by show Box4 _ _ _ _ _ _; rw [hwa]; exact Box4.new' w _ _ _ _ _ _ rfl
  go_enter Try.func14, Try.ntmps14
  go_upto_region 1 with fail
  rw [← hwa]
  clear hwa
  obtain ⟨wb, hwb⟩ : ∃ wb, wb = wa.alloc (.cells #[.func (.func 29) #[] #[], .func (.func 30) #[] #[], .func (.func 31) #[] #[], .func (.func 32) #[] #[]] 45) := ⟨_, rfl⟩
  obtain ⟨E, hE⟩ : ∃ E, E = wa.heap.size := ⟨_, rfl⟩
  have hab : Below wa.heap.size wa wb := by rw [hwb]; exact blw_alloc (Below.refl _ _) _
  have HBb := hid (blw_trans HB.out hab)
  have HXb := hid (HX.out.later hab)
  have HFb : Hid (Box4 wb E (.func (.func 29) #[] #[]) (.func (.func 30) #[] #[]) (.func (.func 31) #[] #[]) (.func (.func 32) #[] #[])) := by show Box4 _ _ _ _ _ _; rw [hwb, hE]; exact Box4.new' wa _ _ _ _ _ _ rfl
  clear hab
  go_wp2
  rw [← hwb, ← hE]
  clear hwb hE
  go_loopw [7] (fun i wr => ∃ q : Nat, q ≤ 4 ∧ i = .int .i64 q ∧ allTo (chk K) q = true ∧ Below wb.heap.size wb wr) (fun i _ => 4 - (intOf i).toNat)
  case atStart => exact ⟨0, Nat.zero_le _, rfl, rfl, Below.refl _ _⟩
  case round =>
    obtain ⟨q, hq, rfl, ha, hW⟩ := hrel
    have HQ := hid ha
    have HB2 := hid (blw_trans HBb.out hW)
    have HX2 := hid (HXb.out.later hW)
    have HF2 := hid (HFb.out.later hW)
    have HWW := hid hW
    clear ha hW
    have hq5 : q = 0 ∨ q = 1 ∨ q = 2 ∨ q = 3 ∨ q = 4 := by omega
    clear hq
    rcases hq5 with rfl | rfl | rfl | rfl | rfl
    · obtain ⟨yz, y0, y1, y2, y3⟩ := HX2.out
      obtain ⟨zz, z0, z1, z2, z3⟩ := HF2.out
      have HE : Hid (∀ b, chk K 0 = b → (b = false → R = false) ∧ (b = true → allTo (chk K) (0 + 1) = true)) := by
        intro b hb
        refine ⟨fun e => ?_, fun e => allTo_step HQ.out (hb.trans e)⟩
        rw [HR.out, sbOk_eq]
        exact allTo_false (k := 0) (hb.trans e) _ (by omega)
      go_wp2_with fail
      refine (nowI K _ _ _ wr).mono ?_
      rintro e w3 ⟨rfl, hb3⟩
      have HB3 := hid (blw_trans HB2.out hb3)
      have HW3 := hid (blw_trans HWW.out hb3)
      obtain ⟨r, hr⟩ : ∃ r, chk K 0 = r := ⟨_, rfl⟩
      have HG := hid (HE.out r hr)
      have hr' := hr
      simp only [chk] at hr'
      rw [hr']
      clear hb3 hr hr' HE yz y0 y1 y2 y3 zz z0 z1 z2 z3
      cases r
      · have HG1 := hid (HG.out.1 rfl)
        clear HG
        go_wp2
        go_ret
        exact ⟨Pl.ret_bool HG1.out.symm, HB3.out⟩
      · have HG1 := hid (HG.out.2 rfl)
        clear HG
        go_wp2
        go_roundw
        case rel => exact ⟨0 + 1, by omega, by go_num, HG1.out, HW3.out⟩
        case measure => simp [intOf]
    · obtain ⟨yz, y0, y1, y2, y3⟩ := HX2.out
      obtain ⟨zz, z0, z1, z2, z3⟩ := HF2.out
      have HE : Hid (∀ b, chk K 1 = b → (b = false → R = false) ∧ (b = true → allTo (chk K) (1 + 1) = true)) := by
        intro b hb
        refine ⟨fun e => ?_, fun e => allTo_step HQ.out (hb.trans e)⟩
        rw [HR.out, sbOk_eq]
        exact allTo_false (k := 1) (hb.trans e) _ (by omega)
      go_wp2_with fail
      refine (servicesI K a0 a1 a2 c0 c1 c2 wr (HH.out.later HB2.out)).mono ?_
      rintro e w3 ⟨rfl, hb3⟩
      have HB3 := hid (blw_trans HB2.out hb3)
      have HW3 := hid (blw_trans HWW.out hb3)
      obtain ⟨r, hr⟩ : ∃ r, chk K 1 = r := ⟨_, rfl⟩
      have HG := hid (HE.out r hr)
      have hr' := hr
      simp only [chk] at hr'
      rw [hr']
      clear hb3 hr hr' HE yz y0 y1 y2 y3 zz z0 z1 z2 z3
      cases r
      · have HG1 := hid (HG.out.1 rfl)
        clear HG
        go_wp2
        go_ret
        exact ⟨Pl.ret_bool HG1.out.symm, HB3.out⟩
      · have HG1 := hid (HG.out.2 rfl)
        clear HG
        go_wp2
        go_roundw
        case rel => exact ⟨1 + 1, by omega, by go_num, HG1.out, HW3.out⟩
        case measure => simp [intOf]
    · obtain ⟨yz, y0, y1, y2, y3⟩ := HX2.out
      obtain ⟨zz, z0, z1, z2, z3⟩ := HF2.out
      have HE : Hid (∀ b, chk K 2 = b → (b = false → R = false) ∧ (b = true → allTo (chk K) (2 + 1) = true)) := by
        intro b hb
        refine ⟨fun e => ?_, fun e => allTo_step HQ.out (hb.trans e)⟩
        rw [HR.out, sbOk_eq]
        exact allTo_false (k := 2) (hb.trans e) _ (by omega)
      go_wp2_with fail
      refine (berthsI K a0 a1 a2 c0 c1 c2 wr (HH.out.later HB2.out)).mono ?_
      rintro e w3 ⟨rfl, hb3⟩
      have HB3 := hid (blw_trans HB2.out hb3)
      have HW3 := hid (blw_trans HWW.out hb3)
      obtain ⟨r, hr⟩ : ∃ r, chk K 2 = r := ⟨_, rfl⟩
      have HG := hid (HE.out r hr)
      have hr' := hr
      simp only [chk] at hr'
      rw [hr']
      clear hb3 hr hr' HE yz y0 y1 y2 y3 zz z0 z1 z2 z3
      cases r
      · have HG1 := hid (HG.out.1 rfl)
        clear HG
        go_wp2
        go_ret
        exact ⟨Pl.ret_bool HG1.out.symm, HB3.out⟩
      · have HG1 := hid (HG.out.2 rfl)
        clear HG
        go_wp2
        go_roundw
        case rel => exact ⟨2 + 1, by omega, by go_num, HG1.out, HW3.out⟩
        case measure => simp [intOf]
    · obtain ⟨yz, y0, y1, y2, y3⟩ := HX2.out
      obtain ⟨zz, z0, z1, z2, z3⟩ := HF2.out
      have HAP : Hid (Apart K ∧ ∀ i, i < K.svcs.length → 1 ≤ (K.svcs.getD i Sv.none).next ∧ (K.svcs.getD i Sv.none).next ≤ 1000000) := by
        have h1 := (allTo_iff _ _).1 HQ.out 1 (by omega)
        have h2 := (allTo_iff _ _).1 HQ.out 2 (by omega)
        simp only [chk, Bool.and_eq_true] at h1 h2
        exact ⟨apart_of h1.1.2 h2.1.2, next_of h1.2⟩
      have HE : Hid (∀ b, chk K 3 = b → (b = false → R = false) ∧ (b = true → allTo (chk K) (3 + 1) = true)) := by
        intro b hb
        refine ⟨fun e => ?_, fun e => allTo_step HQ.out (hb.trans e)⟩
        rw [HR.out, sbOk_eq]
        exact allTo_false (k := 3) (hb.trans e) _ (by omega)
      go_wp2_with fail
      refine (copiesI K a0 a1 a2 c0 c1 c2 wr (HH.out.later HB2.out) HAP.out.1 HAP.out.2).mono ?_
      rintro e w3 ⟨rfl, hb3⟩
      have HB3 := hid (blw_trans HB2.out hb3)
      have HW3 := hid (blw_trans HWW.out hb3)
      obtain ⟨r, hr⟩ : ∃ r, chk K 3 = r := ⟨_, rfl⟩
      have HG := hid (HE.out r hr)
      have hr' := hr
      simp only [chk] at hr'
      rw [hr']
      clear hb3 hr hr' HE yz y0 y1 y2 y3 zz z0 z1 z2 z3
      cases r
      · have HG1 := hid (HG.out.1 rfl)
        clear HG
        go_wp2
        go_ret
        exact ⟨Pl.ret_bool HG1.out.symm, HB3.out⟩
      · have HG1 := hid (HG.out.2 rfl)
        clear HG
        go_wp2
        go_roundw
        case rel => exact ⟨3 + 1, by omega, by go_num, HG1.out, HW3.out⟩
        case measure => simp [intOf]
    · have HF : Hid (R = true) := by show R = true; rw [HR.out, sbOk_eq]; exact HQ.out
      go_wp2
      go_ret
      exact ⟨Pl.ret_bool HF.out.symm, HB2.out⟩

theorem stewValidI (K : SBk) (b0 b1 b2 : Nat) (w : World) (h : SBkIn w b0 b1 b2 K) :
    Calls Try.prog 14 #[.agg #[.int .i64 K.now, .slice (some ⟨b0, 0, none⟩) K.svcs.length K.svcs.length, .slice (some ⟨b1, 0, none⟩) K.cps.length K.cps.length, .slice (some ⟨b2, 0, none⟩) K.bts.length K.bts.length]] w fun e w' => e = .returned (.bool (sbOk K)) ∧ Below w.heap.size w w' :=
  stewValidV K _ _ _ _ _ _ w h.v

end Go.Proofs.Ytfmcdpgeplkcgaa
