/-
  RecValid by the program, whole.
-/
import Derived.Test.YtcefgacmagobnaaRvE
namespace Go.Proofs.Ytcefgacmagobnaa
open Go.RowKit Go.Deep

set_option maxRecDepth 8000 in
set_option maxHeartbeats 40000000 in
theorem recValidV (K : Rr) (a0 a1 a2 a3 a4 a5 a6 : Option Addr) (c0 c1 c2 c3 c4 c5 c6 : Nat) (cs : List Value) (hcs : cs = RrC K a0 a1 a2 a3 a4 a5 a6 c0 c1 c2 c3 c4 c5 c6) (w : World) (h : RrV w a0 a1 a2 a3 a4 a5 a6 K) (z0 : K.safe.slots.length ≤ c0) (z1 : K.disk.slots.length ≤ c1) (z3 : K.wish.length ≤ c3) :
    Calls Try.prog 25 #[.agg cs.toArray] w fun e w' => e = .returned (.bool (recOk K)) ∧ Below w.heap.size w w' := by
  have HC := hid hcs
  have HZ := hid (And.intro z0 (And.intro z1 z3))
  have HV := hid h
  have HHE := hid (fun W hv => heldOkI K a0 a1 a2 a3 a4 a5 a6 c0 c1 c2 c3 c4 c5 c6 cs hcs W hv)
  have HRO := hid (fun W => roleOfI K a0 a1 a2 a3 a4 a5 a6 c0 c1 c2 c3 c4 c5 c6 cs hcs W)
  have HLE := hid (fun W => leadsI K a0 a1 a2 a3 a4 a5 a6 c0 c1 c2 c3 c4 c5 c6 cs hcs W)
  have HTR := hid (fun W => triesI K a0 a1 a2 a3 a4 a5 a6 c0 c1 c2 c3 c4 c5 c6 cs hcs W)
  have HQU := hid (fun W => quietI K a0 a1 a2 a3 a4 a5 a6 c0 c1 c2 c3 c4 c5 c6 cs hcs W)
  have HMD := hid (fun W => mayDownI K a0 a1 a2 a3 a4 a5 a6 c0 c1 c2 c3 c4 c5 c6 cs hcs W)
  obtain ⟨R, hR⟩ : ∃ R, R = recOk K := ⟨_, rfl⟩
  have HR : Hid (R = (newOk K.num K.of_ && diskOk K.safe && diskOk K.disk && (decide (K.held.length ≤ 400) && allTo (heldAt K) K.held.length) && wishesOk K.wish && inB K.heard 0 1000000 && numsOk K.yes K.of_ && slotsM K.best 1000000 && acksOk K.acks K.of_ && !(K.lead && K.try_) && suitsK K && (K.up || mayDown K))) := by show R = _; rw [recOk_eq]; exact hR
  rw [← hR]
  clear hR hcs h z0 z1 z3
  obtain ⟨wa, hwa⟩ : ∃ wa, wa = w.alloc (.cells cs.toArray 52) := ⟨_, rfl⟩
  have HB0 : Hid (Below w.heap.size w wa) := by show Below _ _ _; rw [hwa]; exact blw_alloc (Below.refl _ _) _
  have HX0 : Hid (LBox wa w.heap.size cs) := by show LBox _ _ _; rw [hwa]; exact LBox.new w cs.toArray _ _ rfl
  have HV0 := hid (HV.out.later HB0.out)
  clear HV
  go_enter Try.func25, Try.ntmps25
  go_upto_region 1 with fail
  rw [← hwa]
  clear hwa
  have yz := HX0.out.lt
  have y0 := HX0.out.get 0 (.int .i64 K.num) (by rw [HC.out]; rfl)
  have y1 := HX0.out.get 1 (.int .i64 K.of_) (by rw [HC.out]; rfl)
  cases k0 : newOk K.num K.of_
  · have HE : Hid (R = false) := by show R = _; rw [HR.out, k0]; rfl
    clear HR
    go_wp2_with (go_at_call 52; refine (isRecI _ _ _).mono ?_; rintro e w' ⟨rfl, rfl⟩)
    go_ret
    exact ⟨Pl.ret_bool HE.out.symm, HB0.out⟩
  have hr3 : wa.rangeAt w.heap.size 3 [.int .i64 K.safe.prom, .int .i64 K.safe.known, .slice a0 K.safe.slots.length c0] := HX0.out.part 3 _ (fun j v hv => by rw [HC.out]; match j, hv with | 0, hv => exact hv | 1, hv => exact hv | 2, hv => exact hv | n + 3, hv => simp at hv)
  go_wp2_with (first | (go_at_call 52; refine (isRecI _ _ _).mono ?_; rintro e w' ⟨rfl, rfl⟩) | (refine load_mid_g (by kernel_rfl) 47 _ rfl w.heap.size 3 rfl [.int .i64 K.safe.prom, .int .i64 K.safe.known, .slice a0 K.safe.slots.length c0] _ hr3 Try.underlying47 rfl (by kernel_rfl) ?_))
  refine (recDiskOkV K.safe a0 c0 wa HV0.out.l0 HZ.out.1).mono ?_
  rintro e W1 ⟨rfl, hb⟩
  clear yz y0 y1 hr3
  have HB1 := hid (blw_trans HB0.out hb)
  have HX1 := hid (HX0.out.later hb)
  have HV1 := hid (HV0.out.later hb)
  clear hb HB0 HX0 HV0
  have yz := HX1.out.lt
  cases k1 : diskOk K.safe
  · have HE : Hid (R = false) := by show R = _; rw [HR.out, k0, k1]; rfl
    clear HR
    go_wp2
    go_ret
    exact ⟨Pl.ret_bool HE.out.symm, HB1.out⟩
  have hr6 : W1.rangeAt w.heap.size 6 [.int .i64 K.disk.prom, .int .i64 K.disk.known, .slice a1 K.disk.slots.length c1] := HX1.out.part 6 _ (fun j v hv => by rw [HC.out]; match j, hv with | 0, hv => exact hv | 1, hv => exact hv | 2, hv => exact hv | n + 3, hv => simp at hv)
  go_wp2_with (refine load_mid_g (by kernel_rfl) 47 _ rfl w.heap.size 6 rfl [.int .i64 K.disk.prom, .int .i64 K.disk.known, .slice a1 K.disk.slots.length c1] _ hr6 Try.underlying47 rfl (by kernel_rfl) ?_)
  refine (recDiskOkV K.disk a1 c1 W1 HV1.out.l1 HZ.out.2.1).mono ?_
  rintro e W2 ⟨rfl, hb⟩
  clear yz hr6
  have HB2 := hid (blw_trans HB1.out hb)
  have HX2 := hid (HX1.out.later hb)
  have HV2 := hid (HV1.out.later hb)
  clear hb HB1 HX1 HV1
  have yz := HX2.out.lt
  cases k2 : diskOk K.disk
  · have HE : Hid (R = false) := by show R = _; rw [HR.out, k0, k1, k2]; rfl
    clear HR
    go_wp2
    go_ret
    exact ⟨Pl.ret_bool HE.out.symm, HB2.out⟩
  have hrg := HX2.out.at_
  go_wp2_with (refine wpList_load_mid rfl 52 _ rfl w.heap.size 0 rfl cs _ hrg Try.underlying52 rfl (by rw [HC.out, RrC_len]; exact Try.sizeRec') ?_)
  refine (HHE.out W2 HV2.out.l2).mono ?_
  rintro e W3 ⟨rfl, hb⟩
  clear yz hrg
  have HB3 := hid (blw_trans HB2.out hb)
  have HX3 := hid (HX2.out.later hb)
  have HV3 := hid (HV2.out.later hb)
  clear hb HB2 HX2 HV2
  have yz := HX3.out.lt
  cases k3 : (decide (K.held.length ≤ 400) && allTo (heldAt K) K.held.length)
  · have HE : Hid (R = false) := by show R = _; rw [HR.out, k0, k1, k2, k3]; rfl
    clear HR
    go_wp2
    go_ret
    exact ⟨Pl.ret_bool HE.out.symm, HB3.out⟩
  have y10 := HX3.out.get 10 (.slice a3 K.wish.length c3) (by rw [HC.out]; rfl)
  have y17 := HX3.out.get 17 (.int .i64 K.heard) (by rw [HC.out]; rfl)
  go_wp2_with fail
  refine (wishesOkI K.wish a3 c3 W3 HV3.out.l3 HZ.out.2.2).mono ?_
  rintro e w' ⟨rfl, rfl⟩
  cases k4 : wishesOk K.wish
  · have HE : Hid (R = false) := by show R = _; rw [HR.out, k0, k1, k2, k3, k4]; rfl
    clear HR
    go_wp2
    go_ret
    exact ⟨Pl.ret_bool HE.out.symm, HB3.out⟩
  cases k5 : inB K.heard 0 1000000
  · have HE : Hid (R = false) := by show R = _; rw [HR.out, k0, k1, k2, k3, k4, k5]; rfl
    clear HR
    go_wp2_with (go_at_call 24; refine (withinI _ _ _ _).mono ?_; rintro e w' ⟨rfl, rfl⟩)
    go_ret
    exact ⟨Pl.ret_bool HE.out.symm, HB3.out⟩
  have y14 := HX3.out.get 14 (.slice a4 K.yes.length c4) (by rw [HC.out]; rfl)
  have y1 := HX3.out.get 1 (.int .i64 K.of_) (by rw [HC.out]; rfl)
  go_wp2_with (go_at_call 24; refine (withinI _ _ _ _).mono ?_; rintro e w' ⟨rfl, rfl⟩)
  refine (numbersOkI K.yes K.of_ a4 c4 W3 HV3.out.l4).mono ?_
  rintro e W4 ⟨rfl, hb⟩
  clear yz y10 y17 y14 y1
  have HB4 := hid (blw_trans HB3.out hb)
  have HX4 := hid (HX3.out.later hb)
  have HV4 := hid (HV3.out.later hb)
  clear hb HB3 HX3 HV3
  have yz := HX4.out.lt
  cases k6 : numsOk K.yes K.of_
  · have HE : Hid (R = false) := by show R = _; rw [HR.out, k0, k1, k2, k3, k4, k5, k6]; rfl
    clear HR
    go_wp2
    go_ret
    exact ⟨Pl.ret_bool HE.out.symm, HB4.out⟩
  have y15 := HX4.out.get 15 (.slice a5 K.best.length c5) (by rw [HC.out]; rfl)
  go_wp2_with fail
  refine (slotsOkI K.best a5 c5 1000000 W4 HV4.out.l5).mono ?_
  rintro e W5 ⟨rfl, hb⟩
  clear yz y15
  have HB5 := hid (blw_trans HB4.out hb)
  have HX5 := hid (HX4.out.later hb)
  have HV5 := hid (HV4.out.later hb)
  clear hb HB4 HX4 HV4
  have yz := HX5.out.lt
  cases k7 : slotsM K.best 1000000
  · have HE : Hid (R = false) := by show R = _; rw [HR.out, k0, k1, k2, k3, k4, k5, k6, k7]; rfl
    clear HR
    go_wp2
    go_ret
    exact ⟨Pl.ret_bool HE.out.symm, HB5.out⟩
  have y16 := HX5.out.get 16 (.slice a6 K.acks.length c6) (by rw [HC.out]; rfl)
  have y1 := HX5.out.get 1 (.int .i64 K.of_) (by rw [HC.out]; rfl)
  go_wp2_with fail
  refine (acksOkI K.acks K.of_ a6 c6 W5 HV5.out.l6).mono ?_
  rintro e W6 ⟨rfl, hb⟩
  clear yz y16 y1
  have HB6 := hid (blw_trans HB5.out hb)
  have HX6 := hid (HX5.out.later hb)
  have HV6 := hid (HV5.out.later hb)
  clear hb HB5 HX5 HV5
  have yz := HX6.out.lt
  cases k8 : acksOk K.acks K.of_
  · have HE : Hid (R = false) := by show R = _; rw [HR.out, k0, k1, k2, k3, k4, k5, k6, k7, k8]; rfl
    clear HR
    go_wp2
    go_ret
    exact ⟨Pl.ret_bool HE.out.symm, HB6.out⟩
  have hrg := HX6.out.at_
  go_wp2_with (refine wpList_load_mid rfl 52 _ rfl w.heap.size 0 rfl cs _ hrg Try.underlying52 rfl (by rw [HC.out, RrC_len]; exact Try.sizeRec') ?_)
  refine (HRO.out W6).mono ?_
  rintro e W7 ⟨rfl, hb⟩
  clear yz hrg
  have HB7 := hid (blw_trans HB6.out hb)
  have HX7 := hid (HX6.out.later hb)
  have HV7 := hid (HV6.out.later hb)
  clear hb HB6 HX6 HV6
  have yz := HX7.out.lt
  have HR2 : Hid (R = (!(K.lead && K.try_) && suitsK K && (K.up || mayDown K))) := by show R = _; rw [HR.out, k0, k1, k2, k3, k4, k5, k6, k7, k8]; rfl
  clear HR k0 k1 k2 k3 k4 k5 k6 k7 k8
  have y2 := HX7.out.get 2 (.bool K.up) (by rw [HC.out]; rfl)
  cases kl : K.lead
  · cases kt : K.try_
    · have HR3 : Hid (R = (quietS K && (K.up || mayDown K))) := by show R = _; rw [HR2.out, kl, kt]; simp only [suitsK, kl, kt]; rfl
      have hv : roleV K = .iface 137 (.agg #[]) := by unfold roleV; rw [kl, kt]; rfl
      rw [hv]
      clear HR2 hv kl kt
      have HM := methQuiet
      have hrg := HX7.out.at_
      go_wp2_with (refine load_mid_g (by kernel_rfl) 52 _ rfl w.heap.size 0 rfl cs _ hrg Try.underlying52 rfl (by rw [HC.out, RrC_len]; exact Try.sizeRec') ?_)
      refine (HQU.out W7).mono ?_
      rintro e W8 ⟨rfl, hb⟩
      clear yz hrg y2
      have HB8 := hid (blw_trans HB7.out hb)
      have HX8 := hid (HX7.out.later hb)
      have HV8 := hid (HV7.out.later hb)
      clear hb HB7 HX7 HV7
      have yz := HX8.out.lt
      have y2 := HX8.out.get 2 (.bool K.up) (by rw [HC.out]; rfl)
      cases ks : quietS K
      · have HE : Hid (R = false) := by show R = _; rw [HR3.out, ks]; rfl
        clear HR3
        go_wp2
        go_ret
        exact ⟨Pl.ret_bool HE.out.symm, HB8.out⟩
      cases ku : K.up
      · rw [ku] at y2
        have HE : Hid (R = mayDown K) := by show R = _; rw [HR3.out, ks, ku]; rfl
        clear HR3 ku
        have hrg := HX8.out.at_
        go_wp2_with (refine load_mid_g (by kernel_rfl) 52 _ rfl w.heap.size 0 rfl cs _ hrg Try.underlying52 rfl (by rw [HC.out, RrC_len]; exact Try.sizeRec') ?_)
        refine (HMD.out W8).mono ?_
        rintro e W9 ⟨rfl, hb⟩
        have HB9 := hid (blw_trans HB8.out hb)
        clear yz hrg y2 hb
        go_wp2
        go_ret
        exact ⟨Pl.ret_bool HE.out.symm, HB9.out⟩
      · rw [ku] at y2
        have HE : Hid (R = true) := by show R = _; rw [HR3.out, ks, ku]; rfl
        clear HR3 ku
        go_wp2
        go_ret
        exact ⟨Pl.ret_bool HE.out.symm, HB8.out⟩
    · have HR3 : Hid (R = (triesS K && (K.up || mayDown K))) := by show R = _; rw [HR2.out, kl, kt]; simp only [suitsK, kl, kt]; rfl
      have hv : roleV K = .iface 136 (.agg #[]) := by unfold roleV; rw [kl, kt]; rfl
      rw [hv]
      clear HR2 hv kl kt
      have HM := methTries
      have hrg := HX7.out.at_
      go_wp2_with (refine load_mid_g (by kernel_rfl) 52 _ rfl w.heap.size 0 rfl cs _ hrg Try.underlying52 rfl (by rw [HC.out, RrC_len]; exact Try.sizeRec') ?_)
      refine (HTR.out W7).mono ?_
      rintro e W8 ⟨rfl, hb⟩
      clear yz hrg y2
      have HB8 := hid (blw_trans HB7.out hb)
      have HX8 := hid (HX7.out.later hb)
      have HV8 := hid (HV7.out.later hb)
      clear hb HB7 HX7 HV7
      have yz := HX8.out.lt
      have y2 := HX8.out.get 2 (.bool K.up) (by rw [HC.out]; rfl)
      cases ks : triesS K
      · have HE : Hid (R = false) := by show R = _; rw [HR3.out, ks]; rfl
        clear HR3
        go_wp2
        go_ret
        exact ⟨Pl.ret_bool HE.out.symm, HB8.out⟩
      cases ku : K.up
      · rw [ku] at y2
        have HE : Hid (R = mayDown K) := by show R = _; rw [HR3.out, ks, ku]; rfl
        clear HR3 ku
        have hrg := HX8.out.at_
        go_wp2_with (refine load_mid_g (by kernel_rfl) 52 _ rfl w.heap.size 0 rfl cs _ hrg Try.underlying52 rfl (by rw [HC.out, RrC_len]; exact Try.sizeRec') ?_)
        refine (HMD.out W8).mono ?_
        rintro e W9 ⟨rfl, hb⟩
        have HB9 := hid (blw_trans HB8.out hb)
        clear yz hrg y2 hb
        go_wp2
        go_ret
        exact ⟨Pl.ret_bool HE.out.symm, HB9.out⟩
      · rw [ku] at y2
        have HE : Hid (R = true) := by show R = _; rw [HR3.out, ks, ku]; rfl
        clear HR3 ku
        go_wp2
        go_ret
        exact ⟨Pl.ret_bool HE.out.symm, HB8.out⟩
  · cases kt : K.try_
    · have HR3 : Hid (R = (leadsS K && (K.up || mayDown K))) := by show R = _; rw [HR2.out, kl, kt]; simp only [suitsK, kl, kt]; rfl
      have hv : roleV K = .iface 135 (.agg #[]) := by unfold roleV; rw [kl, kt]; rfl
      rw [hv]
      clear HR2 hv kl kt
      have HM := methLeads
      have hrg := HX7.out.at_
      go_wp2_with (refine load_mid_g (by kernel_rfl) 52 _ rfl w.heap.size 0 rfl cs _ hrg Try.underlying52 rfl (by rw [HC.out, RrC_len]; exact Try.sizeRec') ?_)
      refine (HLE.out W7).mono ?_
      rintro e W8 ⟨rfl, hb⟩
      clear yz hrg y2
      have HB8 := hid (blw_trans HB7.out hb)
      have HX8 := hid (HX7.out.later hb)
      have HV8 := hid (HV7.out.later hb)
      clear hb HB7 HX7 HV7
      have yz := HX8.out.lt
      have y2 := HX8.out.get 2 (.bool K.up) (by rw [HC.out]; rfl)
      cases ks : leadsS K
      · have HE : Hid (R = false) := by show R = _; rw [HR3.out, ks]; rfl
        clear HR3
        go_wp2
        go_ret
        exact ⟨Pl.ret_bool HE.out.symm, HB8.out⟩
      cases ku : K.up
      · rw [ku] at y2
        have HE : Hid (R = mayDown K) := by show R = _; rw [HR3.out, ks, ku]; rfl
        clear HR3 ku
        have hrg := HX8.out.at_
        go_wp2_with (refine load_mid_g (by kernel_rfl) 52 _ rfl w.heap.size 0 rfl cs _ hrg Try.underlying52 rfl (by rw [HC.out, RrC_len]; exact Try.sizeRec') ?_)
        refine (HMD.out W8).mono ?_
        rintro e W9 ⟨rfl, hb⟩
        have HB9 := hid (blw_trans HB8.out hb)
        clear yz hrg y2 hb
        go_wp2
        go_ret
        exact ⟨Pl.ret_bool HE.out.symm, HB9.out⟩
      · rw [ku] at y2
        have HE : Hid (R = true) := by show R = _; rw [HR3.out, ks, ku]; rfl
        clear HR3 ku
        go_wp2
        go_ret
        exact ⟨Pl.ret_bool HE.out.symm, HB8.out⟩
    · have HE : Hid (R = false) := by show R = _; rw [HR2.out, kl, kt]; rfl
      clear HR2
      go_wp2
      go_ret
      exact ⟨Pl.ret_bool HE.out.symm, HB7.out⟩

theorem recValidI (K : Rr) (b0 b1 b2 b3 b4 b5 b6 : Nat) (w : World) (h : RrIn w b0 b1 b2 b3 b4 b5 b6 K) :
    Calls Try.prog 25 #[.agg #[.int .i64 K.num, .int .i64 K.of_, .bool K.up, .int .i64 K.safe.prom, .int .i64 K.safe.known, .slice (some ⟨b0, 0, none⟩) K.safe.slots.length K.safe.slots.length, .int .i64 K.disk.prom, .int .i64 K.disk.known, .slice (some ⟨b1, 0, none⟩) K.disk.slots.length K.disk.slots.length, .slice (some ⟨b2, 0, none⟩) K.held.length K.held.length, .slice (some ⟨b3, 0, none⟩) K.wish.length K.wish.length, .bool K.lead, .bool K.try_, .int .i64 K.bal, .slice (some ⟨b4, 0, none⟩) K.yes.length K.yes.length, .slice (some ⟨b5, 0, none⟩) K.best.length K.best.length, .slice (some ⟨b6, 0, none⟩) K.acks.length K.acks.length, .int .i64 K.heard]] w fun e w' => e = .returned (.bool (recOk K)) ∧ Below w.heap.size w w' :=
  recValidV K _ _ _ _ _ _ _ _ _ _ _ _ _ _ _ rfl w h.v (Nat.le_refl _) (Nat.le_refl _) (Nat.le_refl _)

end Go.Proofs.Ytcefgacmagobnaa
