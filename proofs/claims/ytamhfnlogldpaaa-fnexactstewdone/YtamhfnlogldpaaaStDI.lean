/-
  Stewards: done, by the program.
-/
import Derived.Test.YtamhfnlogldpaaaPdC
import Derived.Test.YtamhfnlogldpaaaPdN
import Derived.Test.YtamhfnlogldpaaaStVI
namespace Go.Proofs.Ytamhfnlogldpaaa
open Go.RowKit Go.Deep

theorem five_all (f : Nat → Int) : allTo (fun j => f j == 0) 5 = ((f 0 == 0) && (f 1 == 0) && (f 2 == 0) && (f 3 == 0) && (f 4 == 0)) := by
  simp [allTo]

set_option maxRecDepth 8000 in
set_option maxHeartbeats 40000000 in
theorem stewDoneV (K : SBk) (a0 a1 a2 : Option Addr) (c0 c1 c2 : Nat) (w : World) (h : SBkV w a0 a1 a2 K) :
    Calls Try.prog 8 #[.agg #[.int .i64 K.now, .slice a0 K.svcs.length c0, .slice a1 K.cps.length c1, .slice a2 K.bts.length c2]] w fun e w' => e = .returned (.bool (doneB K)) ∧ Below w.heap.size w w' := by
  have HH := hid h
  have hl := h.s.len
  unfold maxLen at hl
  clear h
  obtain ⟨R, hR⟩ : ∃ R, R = doneB K := ⟨_, rfl⟩
  have HR : Hid (R = (sbOk K && ((rTo K K.svcs.length 0 == 0) && (rTo K K.svcs.length 1 == 0) && (rTo K K.svcs.length 2 == 0) && (rTo K K.svcs.length 3 == 0) && (rTo K K.svcs.length 4 == 0)) && allTo (fun i => settledP (K.svcs.getD i Sv.none)) K.svcs.length)) := by
    show R = _
    rw [hR, ← doneP_eq, doneP, five_all (rTo K K.svcs.length)]
  rw [← hR]
  clear hR
  obtain ⟨wa, hwa⟩ : ∃ wa, wa = w.alloc (.cells #[.int .i64 K.now, .slice a0 K.svcs.length c0, .slice a1 K.cps.length c1, .slice a2 K.bts.length c2] 33) := ⟨_, rfl⟩
  have HB : Hid (Below w.heap.size w wa) := by show Below _ _ _; rw [hwa]; exact blw_alloc (Below.refl _ _) _
  have HX : Hid (Box4 wa w.heap.size (.int .i64 K.now) (.slice a0 K.svcs.length c0) (.slice a1 K.cps.length c1) (.slice a2 K.bts.length c2)) := by show Box4 _ _ _ _ _ _; rw [hwa]; exact Box4.new' w _ _ _ _ _ _ rfl
  go_enter Try.func8, Try.ntmps8
  go_upto_region 1 with fail
  rw [← hwa]
  clear hwa
  obtain ⟨yz, y0, y1, y2, y3⟩ := HX.out
  go_wp2_with fail
  refine (stewValidV K a0 a1 a2 c0 c1 c2 wa (HH.out.later HB.out)).mono ?_
  rintro e w1 ⟨rfl, hb⟩
  have HB1 := hid (blw_trans HB.out hb)
  have HX1 := hid (HX.out.later hb)
  clear yz y0 y1 y2 y3 hb HB HX
  cases hv : sbOk K
  · have HE : Hid (R = false) := by show R = _; rw [HR.out, hv]; rfl
    clear HR hv
    go_wp2
    go_ret
    exact ⟨Pl.ret_bool HE.out.symm, HB1.out⟩
  have HOK := hid hv
  have HR1 : Hid (R = (((rTo K K.svcs.length 0 == 0) && (rTo K K.svcs.length 1 == 0) && (rTo K K.svcs.length 2 == 0) && (rTo K K.svcs.length 3 == 0) && (rTo K K.svcs.length 4 == 0)) && allTo (fun i => settledP (K.svcs.getD i Sv.none)) K.svcs.length)) := by show R = _; rw [HR.out, hv, Bool.true_and]
  clear HR hv
  obtain ⟨yz, y0, y1, y2, y3⟩ := HX1.out
  go_wp2_with fail
  refine (rankedI K a0 a1 a2 c0 c1 c2 w1 (HH.out.later HB1.out) HOK.out).mono ?_
  rintro e w2 ⟨rfl, hb⟩
  have HB2 := hid (blw_trans HB1.out hb)
  have HX2 := hid (HX1.out.later hb)
  clear yz y0 y1 y2 y3 hb HB1 HX1
  obtain ⟨r0, hr0⟩ : ∃ r, r = rTo K K.svcs.length 0 := ⟨_, rfl⟩
  obtain ⟨r1, hr1⟩ : ∃ r, r = rTo K K.svcs.length 1 := ⟨_, rfl⟩
  obtain ⟨r2, hr2⟩ : ∃ r, r = rTo K K.svcs.length 2 := ⟨_, rfl⟩
  obtain ⟨r3, hr3⟩ : ∃ r, r = rTo K K.svcs.length 3 := ⟨_, rfl⟩
  obtain ⟨r4, hr4⟩ : ∃ r, r = rTo K K.svcs.length 4 := ⟨_, rfl⟩
  rw [← hr0, ← hr1, ← hr2, ← hr3, ← hr4] at HR1 ⊢
  clear hr0 hr1 hr2 hr3 hr4
  have hnq := fun W => neqRk r0 r1 r2 r3 r4 W
  have hgd := guardRk
  cases hz : ((r0 == 0) && (r1 == 0) && (r2 == 0) && (r3 == 0) && (r4 == 0))
  · have HE : Hid (R = false) := by show R = _; rw [HR1.out, hz]; rfl
    rw [hz] at hnq
    clear HR1 hz
    go_wp2
    go_ret
    exact ⟨Pl.ret_bool HE.out.symm, HB2.out⟩
  have HR2 : Hid (R = allTo (fun i => settledP (K.svcs.getD i Sv.none)) K.svcs.length) := by show R = _; rw [HR1.out, hz, Bool.true_and]
  rw [hz] at hnq
  clear HR1 hz
  obtain ⟨yz, y0, y1, y2, y3⟩ := HX2.out
  go_wp2
  clear yz y0 y1 y2 y3 hnq hgd
  go_loopw [17] (fun i wr => ∃ k : Nat, k ≤ K.svcs.length ∧ i = .int .i64 k ∧ Below w2.heap.size w2 wr ∧ ∀ i, i < k → settledP (K.svcs.getD i Sv.none) = true) (fun i _ => K.svcs.length - (intOf i).toNat)
  case atStart => exact ⟨0, Nat.zero_le _, rfl, Below.refl _ _, fun i hi => absurd hi (Nat.not_lt_zero i)⟩
  case round =>
    obtain ⟨k, hk, rfl, hW, hall⟩ := hrel
    have HW := hid hW
    have HA := hid hall
    clear hW hall
    by_cases hlt : k < K.svcs.length
    · obtain ⟨b, off, ha, hbl, hf⟩ := (HH.out.s.later (blw_trans HB2.out HW.out)).at_ k hlt
      subst ha
      have HVS := hid (sv_bounds ((svs_ok HOK.out).2 k hlt))
      obtain ⟨s, hs⟩ : ∃ s, s = K.svcs.getD k Sv.none := ⟨_, rfl⟩
      have HS := hid hs
      rw [← hs] at hf HVS
      obtain ⟨e0, e1, e2, e3, e4, e5, e6, e7, e8, e9, e10, e11, e12, _⟩ := hf
      clear hs
      have hm0 : (0 : Int) ≤ (k : Int) := by omega
      have hm3 : (k : Int) < (K.svcs.length : Int) := by omega
      obtain ⟨w3, hw3⟩ : ∃ w3, w3 = wr.alloc (.cells #[.string s.nm, .int .i64 s.ver, .bool s.gone, .int .i64 s.image, .int .i64 s.want, .int .i64 s.down, .int .i64 s.over, .int .i64 s.next, .int .i64 s.per, .int .i64 s.least, .int .i64 s.most, .int .i64 s.load, .int .i64 s.cool] 46) := ⟨_, rfl⟩
      have HB3 : Hid (Below w2.heap.size w2 w3) := by show Below _ _ _; rw [hw3]; exact blw_alloc HW.out _
      obtain ⟨q3, hq3⟩ : ∃ q3, q3 = wr.heap.size := ⟨_, rfl⟩
      have HC3 : Hid (LBox w3 q3 [.string s.nm, .int .i64 s.ver, .bool s.gone, .int .i64 s.image, .int .i64 s.want, .int .i64 s.down, .int .i64 s.over, .int .i64 s.next, .int .i64 s.per, .int .i64 s.least, .int .i64 s.most, .int .i64 s.load, .int .i64 s.cool]) := by show LBox _ _ _; rw [hw3]; exact LBox.new _ _ _ _ hq3
      go_upto_region 6 with fail
      rw [← hw3, ← hq3]
      clear hw3 hq3 e0 e1 e2 e3 e4 e5 e6 e7 e8 e9 e10 e11 e12 hbl HW
      have cz := HC3.out.lt
      have d0 := HC3.out.get 0 _ rfl
      have d1 := HC3.out.get 1 _ rfl
      have d2 := HC3.out.get 2 _ rfl
      have d3 := HC3.out.get 3 _ rfl
      have d4 := HC3.out.get 4 _ rfl
      have d5 := HC3.out.get 5 _ rfl
      have d6 := HC3.out.get 6 _ rfl
      have d7 := HC3.out.get 7 _ rfl
      have d8 := HC3.out.get 8 _ rfl
      have d9 := HC3.out.get 9 _ rfl
      have d10 := HC3.out.get 10 _ rfl
      have d11 := HC3.out.get 11 _ rfl
      have d12 := HC3.out.get 12 _ rfl
      go_wp2_with fail
      refine (isSettledI s w3 HVS.out.2.2.1 HVS.out.2.2.2.1 HVS.out.2.2.2.2.1 HVS.out.2.2.2.2.2.1).mono ?_
      rintro e w4 ⟨rfl, hb4⟩
      have HB4 := hid (blw_trans HB3.out hb4)
      clear hb4 cz d0 d1 d2 d3 d4 d5 d6 d7 d8 d9 d10 d11 d12 HB3 HC3
      cases hp : settledP s
      · have HE : Hid (R = false) := by show R = _; rw [HR2.out]; exact allTo_false (k := k) (by rw [← HS.out]; exact hp) _ hlt
        clear HR2 HA hp HS
        go_wp2
        go_ret
        exact ⟨Pl.ret_bool HE.out.symm, blw_trans HB2.out HB4.out⟩
      · have HA2 : Hid (∀ i, i < k + 1 → settledP (K.svcs.getD i Sv.none) = true) := by
          intro i hi
          by_cases e : i = k
          · subst e; rw [← HS.out]; exact hp
          · exact HA.out i (by omega)
        clear HA hp HS
        go_wp2
        go_roundw
        case rel => exact ⟨k + 1, by omega, by go_num, HB4.out, HA2.out⟩
        case measure => simp [intOf]; omega
    · obtain rfl : k = K.svcs.length := by omega
      have HE : Hid (R = true) := by show R = _; rw [HR2.out, allTo_iff]; exact HA.out
      clear HR2 HA
      go_wp2
      go_ret
      exact ⟨Pl.ret_bool HE.out.symm, blw_trans HB2.out HW.out⟩

theorem stewDoneI (K : SBk) (b0 b1 b2 : Nat) (w : World) (h : SBkIn w b0 b1 b2 K) :
    Calls Try.prog 8 #[.agg #[.int .i64 K.now, .slice (some ⟨b0, 0, none⟩) K.svcs.length K.svcs.length, .slice (some ⟨b1, 0, none⟩) K.cps.length K.cps.length, .slice (some ⟨b2, 0, none⟩) K.bts.length K.bts.length]] w fun e w' => e = .returned (.bool (doneB K)) ∧ Below w.heap.size w w' :=
  stewDoneV K _ _ _ _ _ _ w h.v

end Go.Proofs.Ytamhfnlogldpaaa
