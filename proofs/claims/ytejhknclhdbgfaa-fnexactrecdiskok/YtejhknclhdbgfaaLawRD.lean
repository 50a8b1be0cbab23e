/-
  The walk over the law of RecDiskOk.
-/
import Derived.Test.YtejhknclhdbgfaaRcA
import Derived.Test.YtejhknclhdbgfaaLet
namespace Go.Proofs.Ytejhknclhdbgfaa
open Go.RowKit Go.Deep

def VEqlawRecDiskOk (K : Rd) (X Y : Value) (i : Nat) (u : Value) (W : World) : Prop :=
  match i with
  | 0 => u = Y
  | 1 => u = X
  | 2 => ∃ b0, u = .agg #[.int .i64 K.prom, .int .i64 K.known, .slice (some ⟨b0, 0, none⟩) K.slots.length K.slots.length] ∧ RdIn W b0 K
  | 3 => u = .bool true
  | _ => u = .bool false

theorem VEqlawRecDiskOk_mono (K : Rd) (X Y : Value) : ∀ j u W W', Below W.heap.size W W' → VEqlawRecDiskOk K X Y j u W → VEqlawRecDiskOk K X Y j u W' := by
  intro j u W W' hb h
  match j, h with
  | 0, h => exact h
  | 1, h => exact h
  | 2, h =>
    obtain ⟨b0, rfl, h2⟩ := h
    exact ⟨b0, rfl, h2.later hb⟩
  | 3, h => exact h
  | n + 4, h => exact h

set_option maxRecDepth 8000 in
set_option maxHeartbeats 40000000 in
theorem lawRecDiskOk (K : Rd) (v0 : Value)  (w : World) (h : RdAt w v0 K)
    (hI : ∀ W b0, RdIn W b0 K → Calls Try.prog 11 #[.agg #[.int .i64 K.prom, .int .i64 K.known, .slice (some ⟨b0, 0, none⟩) K.slots.length K.slots.length]] W fun e w' => e = .returned (.bool (diskOk K)) ∧ Below W.heap.size W w') :
    Calls Try.prog 3 #[.agg #[.int .i64 K.prom, .int .i64 K.known, v0]] w fun e w' => e = .returned (.bool true) ∧ Below w.heap.size w w' := by
  have HH : Hid (RdAt w v0 K) := h
  have HI := hid hI
  clear h hI
  obtain ⟨an, han⟩ : ∃ an, an = diskOk K := ⟨_, rfl⟩
  rw [← han] at HI
  have HSF : Hid (∀ W b0, RdIn W b0 K → Calls Try.prog 9 #[.agg #[.int .i64 K.prom, .int .i64 K.known, .slice (some ⟨b0, 0, none⟩) K.slots.length K.slots.length]] W fun e w' => e = .returned (.bool an) ∧ Below W.heap.size W w') := by
    intro W b0 hk
    rw [han]
    exact recDiskOkS K (some ⟨b0, 0, none⟩) _  W hk.v
  clear han
  obtain ⟨wa, hwa⟩ : ∃ wa, wa = w.alloc (.cells #[.int .i64 K.prom, .int .i64 K.known, v0] 24) := ⟨_, rfl⟩
  have HBa : Hid (Below w.heap.size w wa) := by show Below _ _ _; rw [hwa]; exact blw_alloc (Below.refl _ _) _
  have HXa : Hid (Box3 wa w.heap.size (.int .i64 K.prom) (.int .i64 K.known) (v0)) := by show Box3 _ _ _ _ _ ; rw [hwa]; exact Box3.new' w _ _ _ _ _ rfl
  go_enter Try.func3, Try.ntmps3
  go_upto_region 1 with fail
  rw [← hwa]
  clear hwa
  obtain ⟨yz, y0, y1, y2⟩ := HXa.out
  go_wp2_with fail
  refine (szRD K v0 1048576 wa (by omega) (by omega) (HH.out.later HBa.out)).mono ?_
  rintro e wb ⟨⟨r, rfl, q, q', hr⟩, hb⟩
  have HR : Hid (0 ≤ r → K.small) := hr
  have HBb := hid (blw_trans HBa.out hb)
  have HXb := hid (HXa.out.later hb)
  clear hr hb yz y0 y1 y2 HXa HBa
  by_cases c0 : r < 0
  · go_wp2
    go_ret
    exact ⟨rfl, HBb.out⟩
  have HS : Hid K.small := HR.out (by omega)
  clear HR
  obtain ⟨yz, y0, y1, y2⟩ := HXb.out
  go_wp2_with fail
  refine (toRD K v0 wb HS.out (HH.out.later HBb.out)).mono ?_
  rintro e wc ⟨⟨b0, rfl, hi, _⟩, hb⟩
  have HIc := hid hi
  have HBc := hid (blw_trans HBb.out hb)
  have HXc := hid (HXb.out.later hb)
  clear hi hb yz y0 y1 y2 HXb HBb
  go_wp2_with fail
  refine (HSF.out wc b0 HIc.out).mono ?_
  rintro e wd ⟨rfl, hb⟩
  have HBd := hid (blw_trans HBc.out hb)
  have HXd := hid (HXc.out.later hb)
  clear hb HXc HBc HIc HSF
  obtain ⟨yz, y0, y1, y2⟩ := HXd.out
  go_wp2_with fail
  refine (toRD K v0 wd HS.out (HH.out.later HBd.out)).mono ?_
  rintro e we ⟨⟨p0, rfl, hi, _⟩, hb⟩
  obtain ⟨wf, hw⟩ : ∃ wf, wf = we.alloc (.cells #[.int .i64 K.prom, .int .i64 K.known, .slice (some ⟨p0, 0, none⟩) K.slots.length K.slots.length] 29) := ⟨_, rfl⟩
  obtain ⟨mb, hmb⟩ : ∃ mb, mb = we.heap.size := ⟨_, rfl⟩
  have hbn : Below we.heap.size we wf := by rw [hw]; exact blw_alloc (Below.refl _ _) _
  have HYf : Hid (Box3 wf mb (.int .i64 K.prom) (.int .i64 K.known) (.slice (some ⟨p0, 0, none⟩) K.slots.length K.slots.length)) := by show Box3 _ _ _ _ _ ; rw [hw]; exact Box3.new' we _ _ _ _ _ hmb
  have HIf := hid (hi.later hbn)
  have HBf := hid (blw_trans (blw_trans HBd.out hb) hbn)
  have HXf := hid ((HXd.out.later hb).later hbn)
  go_upto_region 7 with fail
  rw [← hw, ← hmb]
  clear hw hmb hbn hi hb yz y0 y1 y2 HXd HBd
  obtain ⟨xz, x0, x1, x2⟩ := HYf.out
  go_wp2_with fail
  refine (HI.out wf p0 HIf.out).mono ?_
  rintro e wg ⟨rfl, hb⟩
  have HBg := hid (blw_trans HBf.out hb)
  have HXg := hid (HXf.out.later hb)
  have HYg := hid (HYf.out.later hb)
  have HIg := hid (HIf.out.later hb)
  clear hb xz x0 x1 x2 HXf HBf HYf HIf HI
  have hneq : (an != an) = false := by cases an <;> rfl
  go_upto_region 10 with fail
  refine RY.region_past wg (Below.refl _ _) (VEqlawRecDiskOk K (.agg #[.int .i64 K.prom, .int .i64 K.known, v0]) (.agg #[.int .i64 K.prom, .int .i64 K.known, .slice (some ⟨p0, 0, none⟩) K.slots.length K.slots.length])) (VEqlawRecDiskOk_mono K (.agg #[.int .i64 K.prom, .int .i64 K.known, v0]) (.agg #[.int .i64 K.prom, .int .i64 K.known, .slice (some ⟨p0, 0, none⟩) K.slots.length K.slots.length])) (by kernel_rfl) (by kernel_rfl) (by kernel_rfl) (by kernel_rfl) ?_ ?_
  · intro i o ho a W hW hk hd
    have hB : Below w.heap.size w W := blw_trans HBg.out hW
    obtain ⟨xz, x0, x1, x2⟩ := HYg.out.later hW
    obtain ⟨yz, y0, y1, y2⟩ := HXg.out.later hW
    match i, ho with
    | 0, ho =>
      injection ho with ho; subst ho
      have e0 : a.eval (.tmp 5) = .pointer (some ⟨mb, 0, none⟩) := (hk 5 (by kernel_rfl)).trans rfl
      exact Or.inl ⟨_, W, by simp [execOp, go_sem, (RY.ev_tmp a 5).trans e0, x0, x1, x2], Below.refl _ _, rfl⟩
    | 1, ho =>
      injection ho with ho; subst ho
      have e0 : a.eval (.tmp 1) = .pointer (some ⟨w.heap.size, 0, none⟩) := (hk 1 (by kernel_rfl)).trans rfl
      exact Or.inl ⟨_, W, by simp [execOp, go_sem, (RY.ev_tmp a 1).trans e0, y0, y1, y2], Below.refl _ _, rfl⟩
    | 2, ho =>
      injection ho with ho; subst ho
      have e0 : a.tmps[23]?.getD undef = _ := (RY.ev_tmp a 23).trans (hd 1 _ 23 rfl rfl ⟨⟨1, .data⟩, by simp, rfl, rfl⟩)
      refine Or.inr ⟨10, #[.agg #[.int .i64 K.prom, .int .i64 K.known, v0]], by simp [go_sem, e0], (toRD K v0 W HS.out (HH.out.later hB)).mono ?_⟩
      rintro e W' ⟨⟨b0, rfl, hi, _⟩, hb⟩
      exact ⟨_, rfl, hb, b0, rfl, hi⟩
    | 3, ho =>
      injection ho with ho; subst ho
      have e0 : a.tmps[22]?.getD undef = _ := (RY.ev_tmp a 22).trans (hd 0 _ 22 rfl rfl ⟨⟨0, .data⟩, by simp, rfl, rfl⟩)
      obtain ⟨b0, e1, hi⟩ := hd 2 _ 24 rfl rfl ⟨⟨2, .data⟩, by simp, rfl, rfl⟩
      have e1 := (RY.ev_tmp a 24).trans e1
      refine Or.inr ⟨12, #[.agg #[.int .i64 K.prom, .int .i64 K.known, .slice (some ⟨p0, 0, none⟩) K.slots.length K.slots.length], .agg #[.int .i64 K.prom, .int .i64 K.known, .slice (some ⟨b0, 0, none⟩) K.slots.length K.slots.length]], by simp [go_sem, e0, e1], (eqRD K p0 b0 W (HIg.out.later hW) hi).mono ?_⟩
      rintro e W' ⟨rfl, hb⟩
      exact ⟨_, rfl, hb, rfl⟩
    | 4, ho =>
      injection ho with ho; subst ho
      have e0 : a.tmps[25]?.getD undef = _ := (RY.ev_tmp a 25).trans (hd 3 _ 25 rfl rfl ⟨⟨3, .data⟩, by simp, rfl, rfl⟩)
      exact Or.inl ⟨.bool false, W, by simp [execOp, go_sem, e0], Below.refl _ _, rfl⟩
    | n + 5, ho => simp at ho
  intro wz vs hb hvs
  have el : vs 26 = .bool false := hvs 4 _ 26 rfl rfl
  simp only [RY.putAll, Act.put, List.setIfInBounds_toArray, List.set_cons_zero, List.set_cons_succ]
  rw [el]
  generalize vs 22 = s22
  generalize vs 23 = s23
  generalize vs 24 = s24
  generalize vs 25 = s25
  clear hvs el
  go_wp2
  go_ret
  exact ⟨rfl, blw_trans HBg.out hb⟩

end Go.Proofs.Ytejhknclhdbgfaa
