/-
  The walk over the law of StewCountOf.
-/
import Derived.Test.YtobkglckapeahaaStG
import Derived.Test.YtobkglckapeahaaLet
namespace Go.Proofs.Ytobkglckapeahaa
open Go.RowKit Go.Deep

def VEqlawStewCount (K : SBk) (X Y : Value) (i : Nat) (u : Value) (W : World) : Prop :=
  match i with
  | 0 => u = Y
  | 1 => u = X
  | 2 => ∃ b0 b1 b2, u = .agg #[.int .i64 K.now, .slice (some ⟨b0, 0, none⟩) K.svcs.length K.svcs.length, .slice (some ⟨b1, 0, none⟩) K.cps.length K.cps.length, .slice (some ⟨b2, 0, none⟩) K.bts.length K.bts.length] ∧ SBkIn W b0 b1 b2 K
  | 3 => u = .bool true
  | _ => u = .bool false

theorem VEqlawStewCount_mono (K : SBk) (X Y : Value) : ∀ j u W W', Below W.heap.size W W' → VEqlawStewCount K X Y j u W → VEqlawStewCount K X Y j u W' := by
  intro j u W W' hb h
  match j, h with
  | 0, h => exact h
  | 1, h => exact h
  | 2, h =>
    obtain ⟨b0, b1, b2, rfl, h2⟩ := h
    exact ⟨b0, b1, b2, rfl, h2.later hb⟩
  | 3, h => exact h
  | n + 4, h => exact h

set_option maxRecDepth 8000 in
set_option maxHeartbeats 40000000 in
theorem lawStewCount (K : SBk) (v0 v1 v2 : Value) (svc : ByteArray) (w : World) (h : SBkAt w v0 v1 v2 K)
    (hI : svc.size ≤ maxLen → ∀ W b0 b1 b2, SBkIn W b0 b1 b2 K → Calls Try.prog 11 #[.agg #[.int .i64 K.now, .slice (some ⟨b0, 0, none⟩) K.svcs.length K.svcs.length, .slice (some ⟨b1, 0, none⟩) K.cps.length K.cps.length, .slice (some ⟨b2, 0, none⟩) K.bts.length K.bts.length], .string svc] W fun e w' => e = .returned (.agg #[.int .i64 (stewCount K svc).live, .int .i64 (stewCount K svc).ready, .int .i64 (stewCount K svc).old, .int .i64 (stewCount K svc).failed, .int .i64 (stewCount K svc).ending]) ∧ Below W.heap.size W w') :
    Calls Try.prog 4 #[.agg #[.int .i64 K.now, v0, v1, v2], .string svc] w fun e w' => e = .returned (.bool true) ∧ Below w.heap.size w w' := by
  have HH : Hid (SBkAt w v0 v1 v2 K) := h
  by_cases hbig : 1048576 < svc.size
  · obtain ⟨wa, hwa⟩ : ∃ wa, wa = w.alloc (.cells #[.int .i64 K.now, v0, v1, v2] 26) := ⟨_, rfl⟩
    have HBa : Hid (Below w.heap.size w wa) := by show Below _ _ _; rw [hwa]; exact blw_alloc (Below.refl _ _) _
    clear hI h
    go_enter Try.func4, Try.ntmps4
    go_upto_region 1 with fail
    rw [← hwa]
    clear hwa
    go_wp2
    go_ret
    exact ⟨rfl, HBa.out⟩
  have HI := hid (hI (by unfold maxLen; omega))
  clear h hI
  obtain ⟨an, han⟩ : ∃ an, an = stewCount K svc := ⟨_, rfl⟩
  rw [← han] at HI
  have HSF : Hid (∀ W b0 b1 b2, SBkIn W b0 b1 b2 K → Calls Try.prog 10 #[.agg #[.int .i64 K.now, .slice (some ⟨b0, 0, none⟩) K.svcs.length K.svcs.length, .slice (some ⟨b1, 0, none⟩) K.cps.length K.cps.length, .slice (some ⟨b2, 0, none⟩) K.bts.length K.bts.length], .string svc] W fun e w' => e = .returned (.agg #[.int .i64 an.live, .int .i64 an.ready, .int .i64 an.old, .int .i64 an.failed, .int .i64 an.ending]) ∧ Below W.heap.size W w') := by
    intro W b0 b1 b2 hk
    rw [han]
    exact stewCountS K (some ⟨b0, 0, none⟩) (some ⟨b1, 0, none⟩) (some ⟨b2, 0, none⟩) _ _ _ svc W hk.v
  clear han
  obtain ⟨wa, hwa⟩ : ∃ wa, wa = w.alloc (.cells #[.int .i64 K.now, v0, v1, v2] 26) := ⟨_, rfl⟩
  have HBa : Hid (Below w.heap.size w wa) := by show Below _ _ _; rw [hwa]; exact blw_alloc (Below.refl _ _) _
  have HXa : Hid (Box4 wa w.heap.size (.int .i64 K.now) (v0) (v1) (v2)) := by show Box4 _ _ _ _ _ _; rw [hwa]; exact Box4.new' w _ _ _ _ _ _ rfl
  go_enter Try.func4, Try.ntmps4
  go_upto_region 1 with fail
  rw [← hwa]
  clear hwa
  obtain ⟨yz, y0, y1, y2, y3⟩ := HXa.out
  go_wp2_with fail
  refine (szSB K v0 v1 v2 1048576 wa (by omega) (by omega) (HH.out.later HBa.out)).mono ?_
  rintro e wb ⟨⟨r, rfl, q, q', hr⟩, hb⟩
  have HR : Hid (0 ≤ r → K.small) := hr
  have HBb := hid (blw_trans HBa.out hb)
  have HXb := hid (HXa.out.later hb)
  clear hr hb yz y0 y1 y2 y3 HXa HBa
  by_cases c0 : r < 0
  · go_wp2
    go_ret
    exact ⟨rfl, HBb.out⟩
  have HS : Hid K.small := HR.out (by omega)
  clear HR
  obtain ⟨yz, y0, y1, y2, y3⟩ := HXb.out
  go_wp2_with fail
  refine (toSB K v0 v1 v2 wb HS.out (HH.out.later HBb.out)).mono ?_
  rintro e wc ⟨⟨b0, b1, b2, rfl, hi, _⟩, hb⟩
  have HIc := hid hi
  have HBc := hid (blw_trans HBb.out hb)
  have HXc := hid (HXb.out.later hb)
  clear hi hb yz y0 y1 y2 y3 HXb HBb
  go_wp2_with fail
  refine (HSF.out wc b0 b1 b2 HIc.out).mono ?_
  rintro e wd ⟨rfl, hb⟩
  have HBd := hid (blw_trans HBc.out hb)
  have HXd := hid (HXc.out.later hb)
  clear hb HXc HBc HIc HSF
  obtain ⟨we, hwe⟩ : ∃ we, we = wd.alloc (.cells #[.int .i64 an.live, .int .i64 an.ready, .int .i64 an.old, .int .i64 an.failed, .int .i64 an.ending] 38) := ⟨_, rfl⟩
  obtain ⟨mc, hmc⟩ : ∃ mc, mc = wd.heap.size := ⟨_, rfl⟩
  have hbe : Below wd.heap.size wd we := by rw [hwe]; exact blw_alloc (Below.refl _ _) _
  have HCe : Hid (Box5 we mc (.int .i64 an.live) (.int .i64 an.ready) (.int .i64 an.old) (.int .i64 an.failed) (.int .i64 an.ending)) := by show Box5 _ _ _ _ _ _ _; rw [hwe]; exact Box5.new' wd _ _ _ _ _ _ _ hmc
  have HBe := hid (blw_trans HBd.out hbe)
  have HXe := hid (HXd.out.later hbe)
  go_upto_region 8 with fail
  rw [← hwe, ← hmc]
  clear hwe hmc hbe HBd HXd
  obtain ⟨yz, y0, y1, y2, y3⟩ := HXe.out
  go_wp2_with fail
  refine (toSB K v0 v1 v2 we HS.out (HH.out.later HBe.out)).mono ?_
  rintro e wf ⟨⟨p0, p1, p2, rfl, hi, _⟩, hb⟩
  obtain ⟨wg, hw⟩ : ∃ wg, wg = wf.alloc (.cells #[.int .i64 K.now, .slice (some ⟨p0, 0, none⟩) K.svcs.length K.svcs.length, .slice (some ⟨p1, 0, none⟩) K.cps.length K.cps.length, .slice (some ⟨p2, 0, none⟩) K.bts.length K.bts.length] 33) := ⟨_, rfl⟩
  obtain ⟨mb, hmb⟩ : ∃ mb, mb = wf.heap.size := ⟨_, rfl⟩
  have hbn : Below wf.heap.size wf wg := by rw [hw]; exact blw_alloc (Below.refl _ _) _
  have HYg : Hid (Box4 wg mb (.int .i64 K.now) (.slice (some ⟨p0, 0, none⟩) K.svcs.length K.svcs.length) (.slice (some ⟨p1, 0, none⟩) K.cps.length K.cps.length) (.slice (some ⟨p2, 0, none⟩) K.bts.length K.bts.length)) := by show Box4 _ _ _ _ _ _; rw [hw]; exact Box4.new' wf _ _ _ _ _ _ hmb
  have HIg := hid (hi.later hbn)
  have HBg := hid (blw_trans (blw_trans HBe.out hb) hbn)
  have HXg := hid ((HXe.out.later hb).later hbn)
  have HCg := hid ((HCe.out.later hb).later hbn)
  go_upto_region 9 with fail
  rw [← hw, ← hmb]
  clear hw hmb hbn hi hb yz y0 y1 y2 y3 HXe HBe HCe
  obtain ⟨xz, x0, x1, x2, x3⟩ := HYg.out
  go_wp2_with fail
  refine (HI.out wg p0 p1 p2 HIg.out).mono ?_
  rintro e wh ⟨rfl, hb⟩
  have HBh := hid (blw_trans HBg.out hb)
  have HXh := hid (HXg.out.later hb)
  have HYh := hid (HYg.out.later hb)
  have HIh := hid (HIg.out.later hb)
  have HCh := hid (HCg.out.later hb)
  clear hb xz x0 x1 x2 x3 HXg HBg HYg HIg HI HCg
  obtain ⟨wi, hw⟩ : ∃ wi, wi = wh.alloc (.cells #[.int .i64 an.live, .int .i64 an.ready, .int .i64 an.old, .int .i64 an.failed, .int .i64 an.ending] 38) := ⟨_, rfl⟩
  obtain ⟨md, hmd⟩ : ∃ md, md = wh.heap.size := ⟨_, rfl⟩
  have hbn : Below wh.heap.size wh wi := by rw [hw]; exact blw_alloc (Below.refl _ _) _
  have HDi : Hid (Box5 wi md (.int .i64 an.live) (.int .i64 an.ready) (.int .i64 an.old) (.int .i64 an.failed) (.int .i64 an.ending)) := by show Box5 _ _ _ _ _ _ _; rw [hw]; exact Box5.new' wh _ _ _ _ _ _ _ hmd
  have HBi := hid (blw_trans HBh.out hbn)
  have HXi := hid (HXh.out.later hbn)
  have HYi := hid (HYh.out.later hbn)
  have HIi := hid (HIh.out.later hbn)
  have HCi := hid (HCh.out.later hbn)
  go_upto_region 10 with fail
  rw [← hw, ← hmd]
  clear hw hmd hbn HBh HXh HYh HIh HCh
  obtain ⟨cz, c0', c1', c2', c3', c4'⟩ := HCi.out
  obtain ⟨dz, d0, d1, d2, d3, d4⟩ := HDi.out
  go_wp2_with fail
  refine (eqCount an wi).mono ?_
  rintro e wj ⟨rfl, hb⟩
  have HBj := hid (blw_trans HBi.out hb)
  have HXj := hid (HXi.out.later hb)
  have HYj := hid (HYi.out.later hb)
  have HIj := hid (HIi.out.later hb)
  clear hb cz c0' c1' c2' c3' c4' dz d0 d1 d2 d3 d4 HBi HXi HYi HIi HCi HDi
  go_upto_region 12 with fail
  refine RY.region_past wj (Below.refl _ _) (VEqlawStewCount K (.agg #[.int .i64 K.now, v0, v1, v2]) (.agg #[.int .i64 K.now, .slice (some ⟨p0, 0, none⟩) K.svcs.length K.svcs.length, .slice (some ⟨p1, 0, none⟩) K.cps.length K.cps.length, .slice (some ⟨p2, 0, none⟩) K.bts.length K.bts.length])) (VEqlawStewCount_mono K (.agg #[.int .i64 K.now, v0, v1, v2]) (.agg #[.int .i64 K.now, .slice (some ⟨p0, 0, none⟩) K.svcs.length K.svcs.length, .slice (some ⟨p1, 0, none⟩) K.cps.length K.cps.length, .slice (some ⟨p2, 0, none⟩) K.bts.length K.bts.length])) (by kernel_rfl) (by kernel_rfl) (by kernel_rfl) (by kernel_rfl) ?_ ?_
  · intro i o ho a W hW hk hd
    have hB : Below w.heap.size w W := blw_trans HBj.out hW
    obtain ⟨xz, x0, x1, x2, x3⟩ := HYj.out.later hW
    obtain ⟨yz, y0, y1, y2, y3⟩ := HXj.out.later hW
    match i, ho with
    | 0, ho =>
      injection ho with ho; subst ho
      have e0 : a.eval (.tmp 7) = .pointer (some ⟨mb, 0, none⟩) := (hk 7 (by kernel_rfl)).trans rfl
      exact Or.inl ⟨_, W, by simp [execOp, go_sem, (RY.ev_tmp a 7).trans e0, x0, x1, x2, x3], Below.refl _ _, rfl⟩
    | 1, ho =>
      injection ho with ho; subst ho
      have e0 : a.eval (.tmp 2) = .pointer (some ⟨w.heap.size, 0, none⟩) := (hk 2 (by kernel_rfl)).trans rfl
      exact Or.inl ⟨_, W, by simp [execOp, go_sem, (RY.ev_tmp a 2).trans e0, y0, y1, y2, y3], Below.refl _ _, rfl⟩
    | 2, ho =>
      injection ho with ho; subst ho
      have e0 : a.tmps[31]?.getD undef = _ := (RY.ev_tmp a 31).trans (hd 1 _ 31 rfl rfl ⟨⟨1, .data⟩, by simp, rfl, rfl⟩)
      refine Or.inr ⟨7, #[.agg #[.int .i64 K.now, v0, v1, v2]], by simp [go_sem, e0], (toSB K v0 v1 v2 W HS.out (HH.out.later hB)).mono ?_⟩
      rintro e W' ⟨⟨b0, b1, b2, rfl, hi, _⟩, hb⟩
      exact ⟨_, rfl, hb, b0, b1, b2, rfl, hi⟩
    | 3, ho =>
      injection ho with ho; subst ho
      have e0 : a.tmps[30]?.getD undef = _ := (RY.ev_tmp a 30).trans (hd 0 _ 30 rfl rfl ⟨⟨0, .data⟩, by simp, rfl, rfl⟩)
      obtain ⟨b0, b1, b2, e1, hi⟩ := hd 2 _ 32 rfl rfl ⟨⟨2, .data⟩, by simp, rfl, rfl⟩
      have e1 := (RY.ev_tmp a 32).trans e1
      refine Or.inr ⟨9, #[.agg #[.int .i64 K.now, .slice (some ⟨p0, 0, none⟩) K.svcs.length K.svcs.length, .slice (some ⟨p1, 0, none⟩) K.cps.length K.cps.length, .slice (some ⟨p2, 0, none⟩) K.bts.length K.bts.length], .agg #[.int .i64 K.now, .slice (some ⟨b0, 0, none⟩) K.svcs.length K.svcs.length, .slice (some ⟨b1, 0, none⟩) K.cps.length K.cps.length, .slice (some ⟨b2, 0, none⟩) K.bts.length K.bts.length]], by simp [go_sem, e0, e1], (eqSB K p0 p1 p2 b0 b1 b2 W (HIj.out.later hW) hi).mono ?_⟩
      rintro e W' ⟨rfl, hb⟩
      exact ⟨_, rfl, hb, rfl⟩
    | 4, ho =>
      injection ho with ho; subst ho
      have e0 : a.tmps[33]?.getD undef = _ := (RY.ev_tmp a 33).trans (hd 3 _ 33 rfl rfl ⟨⟨3, .data⟩, by simp, rfl, rfl⟩)
      exact Or.inl ⟨.bool false, W, by simp [execOp, go_sem, e0], Below.refl _ _, rfl⟩
    | n + 5, ho => simp at ho
  intro wz vs hb hvs
  have el : vs 34 = .bool false := hvs 4 _ 34 rfl rfl
  simp only [RY.putAll, Act.put, List.setIfInBounds_toArray, List.set_cons_zero, List.set_cons_succ]
  rw [el]
  generalize vs 30 = s30
  generalize vs 31 = s31
  generalize vs 32 = s32
  generalize vs 33 = s33
  clear hvs el
  go_wp2
  go_ret
  exact ⟨rfl, blw_trans HBj.out hb⟩

end Go.Proofs.Ytobkglckapeahaa
