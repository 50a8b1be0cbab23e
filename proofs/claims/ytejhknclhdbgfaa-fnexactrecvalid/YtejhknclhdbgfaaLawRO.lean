/-
  The walk over the law of RecValid, over opaque values.
-/
import Derived.Deep.MidRow
import Derived.Deep.DeepCutAuto
import Derived.Test.YtejhknclhdbgfaaMemRr
import Derived.Test.YtejhknclhdbgfaaLet
namespace Go.Proofs.Ytejhknclhdbgfaa
open Go.RowKit Go.Deep

def VEqlawRecO (X Y : Value) (R : World → Array Value → Prop) (i : Nat) (u : Value) (W : World) : Prop :=
  match i with
  | 0 => u = Y
  | 1 => u = X
  | 2 => ∃ d, u = .agg d ∧ R W d
  | 3 => u = .bool true
  | _ => u = .bool false

theorem VEqlawRecO_mono (X Y : Value) (R : World → Array Value → Prop) (h0 : ∀ W W' d, R W d → Below W.heap.size W W' → R W' d) : ∀ j u W W', Below W.heap.size W W' → VEqlawRecO X Y R j u W → VEqlawRecO X Y R j u W' := by
  intro j u W W' hb h
  match j, h with
  | 0, h => exact h
  | 1, h => exact h
  | 2, h =>
    obtain ⟨d, rfl, h2⟩ := h
    exact ⟨d, rfl, h0 _ _ _ h2 hb⟩
  | 3, h => exact h
  | n + 4, h => exact h

set_option maxRecDepth 8000 in
set_option maxHeartbeats 40000000 in
theorem lawRecO (x_0 x_1 x_2 x_3 x_4 x_5 x_6 x_7 x_8 x_9 x_10 x_11 x_12 x_13 x_14 x_15 x_16 x_17 : Value) (w : World) (an : Bool) (S : Prop) (R : World → Array Value → Prop)
    (HZ : Hid (∀ W left, Below w.heap.size w W → 0 ≤ left → left ≤ 1048576 → Calls Try.prog 25 #[.agg #[x_0, x_1, x_2, x_3, x_4, x_5, x_6, x_7, x_8, x_9, x_10, x_11, x_12, x_13, x_14, x_15, x_16, x_17], .int .i64 left] W fun e w' => (∃ r : Int, e = .returned (.int .i64 r) ∧ -1 ≤ r ∧ r ≤ left ∧ (0 ≤ r → S)) ∧ Below W.heap.size W w'))
    (HT : Hid (S → ∀ W, Below w.heap.size w W → Calls Try.prog 27 #[.agg #[x_0, x_1, x_2, x_3, x_4, x_5, x_6, x_7, x_8, x_9, x_10, x_11, x_12, x_13, x_14, x_15, x_16, x_17]] W fun e w' => (∃ d_0 d_1 d_2 d_3 d_4 d_5 d_5n d_5c d_6 d_7 d_8 d_8n d_8c d_9 d_9n d_9c d_10 d_10n d_10c d_11 d_12 d_13 d_14 d_14n d_14c d_15 d_15n d_15c d_16 d_16n d_16c d_17, e = .returned (.agg #[.int .i64 d_0, .int .i64 d_1, .bool d_2, .int .i64 d_3, .int .i64 d_4, .slice d_5 d_5n d_5c, .int .i64 d_6, .int .i64 d_7, .slice d_8 d_8n d_8c, .slice d_9 d_9n d_9c, .slice d_10 d_10n d_10c, .bool d_11, .bool d_12, .int .i64 d_13, .slice d_14 d_14n d_14c, .slice d_15 d_15n d_15c, .slice d_16 d_16n d_16c, .int .i64 d_17]) ∧ R w' #[.int .i64 d_0, .int .i64 d_1, .bool d_2, .int .i64 d_3, .int .i64 d_4, .slice d_5 d_5n d_5c, .int .i64 d_6, .int .i64 d_7, .slice d_8 d_8n d_8c, .slice d_9 d_9n d_9c, .slice d_10 d_10n d_10c, .bool d_11, .bool d_12, .int .i64 d_13, .slice d_14 d_14n d_14c, .slice d_15 d_15n d_15c, .slice d_16 d_16n d_16c, .int .i64 d_17]) ∧ Below W.heap.size W w'))
    (HL : Hid (∀ W W' d, R W d → Below W.heap.size W W' → R W' d))
    (HE : Hid (∀ W d d', R W d → R W d' → Calls Try.prog 22 #[.agg d, .agg d'] W fun e w' => e = .returned (.bool true) ∧ Below W.heap.size W w'))
    (HSF : Hid (∀ W d, R W d → Calls Try.prog 26 #[.agg d] W fun e w' => e = .returned (.bool an) ∧ Below W.heap.size W w'))
    (HIF : Hid (∀ W d, R W d → Calls Try.prog 28 #[.agg d] W fun e w' => e = .returned (.bool an) ∧ Below W.heap.size W w'))
    : Calls Try.prog 6 #[.agg #[x_0, x_1, x_2, x_3, x_4, x_5, x_6, x_7, x_8, x_9, x_10, x_11, x_12, x_13, x_14, x_15, x_16, x_17]] w fun e w' => e = .returned (.bool true) ∧ Below w.heap.size w w' := by
  obtain ⟨wa, hwa⟩ : ∃ wa, wa = w.alloc (.cells #[x_0, x_1, x_2, x_3, x_4, x_5, x_6, x_7, x_8, x_9, x_10, x_11, x_12, x_13, x_14, x_15, x_16, x_17] 52) := ⟨_, rfl⟩
  have HBa : Hid (Below w.heap.size w wa) := by show Below _ _ _; rw [hwa]; exact blw_alloc (Below.refl _ _) _
  have HXa : Hid (LBox wa w.heap.size [x_0, x_1, x_2, x_3, x_4, x_5, x_6, x_7, x_8, x_9, x_10, x_11, x_12, x_13, x_14, x_15, x_16, x_17]) := by show LBox _ _ _; rw [hwa]; exact LBox.new _ _ _ _ rfl
  go_enter Try.func6, Try.ntmps6
  go_upto_region 1 with fail
  rw [← hwa]
  clear hwa
  go_upto_region 2 with fail
  refine wp_region_lit ?_
  refine wpList_load_mid rfl 52 _ rfl w.heap.size 0 rfl [x_0, x_1, x_2, x_3, x_4, x_5, x_6, x_7, x_8, x_9, x_10, x_11, x_12, x_13, x_14, x_15, x_16, x_17] _ HXa.out.at_ Try.underlying52 rfl (by kernel_rfl) ?_
  simp only [Act.put, List.setIfInBounds_toArray, List.set_cons_zero, List.set_cons_succ]
  go_wp2_with fail
  refine (HZ.out wa 1048576 HBa.out (by omega) (by omega)).mono ?_
  rintro e wb ⟨⟨r, rfl, q, q', hr⟩, hb⟩
  have HR : Hid (0 ≤ r → S) := hr
  have HBb : Hid (Below w.heap.size w wb) := blw_trans HBa.out hb
  have HXb := hidR (HXa.out.later hb)
  clear hr hb HXa HBa HZ
  by_cases c0 : r < 0
  · go_wp2
    go_ret
    exact ⟨rfl, HBb.out⟩
  have HS : Hid S := HR.out (by omega)
  clear HR
  go_upto_region 5 with fail
  refine wp_region_lit ?_
  refine wpList_load_mid rfl 52 _ rfl w.heap.size 0 rfl [x_0, x_1, x_2, x_3, x_4, x_5, x_6, x_7, x_8, x_9, x_10, x_11, x_12, x_13, x_14, x_15, x_16, x_17] _ HXb.out.at_ Try.underlying52 rfl (by kernel_rfl) ?_
  simp only [Act.put, List.setIfInBounds_toArray, List.set_cons_zero, List.set_cons_succ]
  go_wp2_with fail
  refine (HT.out HS.out wb HBb.out).mono ?_
  rintro e wc ⟨⟨d_0, d_1, d_2, d_3, d_4, d_5, d_5n, d_5c, d_6, d_7, d_8, d_8n, d_8c, d_9, d_9n, d_9c, d_10, d_10n, d_10c, d_11, d_12, d_13, d_14, d_14n, d_14c, d_15, d_15n, d_15c, d_16, d_16n, d_16c, d_17, rfl, hi⟩, hb⟩
  have HIc : Hid (R wc #[.int .i64 d_0, .int .i64 d_1, .bool d_2, .int .i64 d_3, .int .i64 d_4, .slice d_5 d_5n d_5c, .int .i64 d_6, .int .i64 d_7, .slice d_8 d_8n d_8c, .slice d_9 d_9n d_9c, .slice d_10 d_10n d_10c, .bool d_11, .bool d_12, .int .i64 d_13, .slice d_14 d_14n d_14c, .slice d_15 d_15n d_15c, .slice d_16 d_16n d_16c, .int .i64 d_17]) := hi
  have HBc : Hid (Below w.heap.size w wc) := blw_trans HBb.out hb
  have HXc := hidR (HXb.out.later hb)
  clear hi hb HXb HBb
  go_wp2_with fail
  refine (HSF.out wc _ HIc.out).mono ?_
  rintro e wd ⟨rfl, hb⟩
  have HBd : Hid (Below w.heap.size w wd) := blw_trans HBc.out hb
  have HXd := hidR (HXc.out.later hb)
  clear hb HXc HBc HSF HIc
  go_upto_region 6 with fail
  refine wp_region_lit ?_
  refine wpList_load_mid rfl 52 _ rfl w.heap.size 0 rfl [x_0, x_1, x_2, x_3, x_4, x_5, x_6, x_7, x_8, x_9, x_10, x_11, x_12, x_13, x_14, x_15, x_16, x_17] _ HXd.out.at_ Try.underlying52 rfl (by kernel_rfl) ?_
  simp only [Act.put, List.setIfInBounds_toArray, List.set_cons_zero, List.set_cons_succ]
  go_wp2_with fail
  refine (HT.out HS.out wd HBd.out).mono ?_
  rintro e we ⟨⟨dp_0, dp_1, dp_2, dp_3, dp_4, dp_5, dp_5n, dp_5c, dp_6, dp_7, dp_8, dp_8n, dp_8c, dp_9, dp_9n, dp_9c, dp_10, dp_10n, dp_10c, dp_11, dp_12, dp_13, dp_14, dp_14n, dp_14c, dp_15, dp_15n, dp_15c, dp_16, dp_16n, dp_16c, dp_17, rfl, hi⟩, hb⟩
  obtain ⟨wf, hwn⟩ : ∃ wf, wf = we.alloc (.cells #[.int .i64 dp_0, .int .i64 dp_1, .bool dp_2, .int .i64 dp_3, .int .i64 dp_4, .slice dp_5 dp_5n dp_5c, .int .i64 dp_6, .int .i64 dp_7, .slice dp_8 dp_8n dp_8c, .slice dp_9 dp_9n dp_9c, .slice dp_10 dp_10n dp_10c, .bool dp_11, .bool dp_12, .int .i64 dp_13, .slice dp_14 dp_14n dp_14c, .slice dp_15 dp_15n dp_15c, .slice dp_16 dp_16n dp_16c, .int .i64 dp_17] 44) := ⟨_, rfl⟩
  obtain ⟨m, hm⟩ : ∃ m, m = we.heap.size := ⟨_, rfl⟩
  have hbn : Below we.heap.size we wf := by rw [hwn]; exact blw_alloc (Below.refl _ _) _
  have HYf : Hid (LBox wf m [.int .i64 dp_0, .int .i64 dp_1, .bool dp_2, .int .i64 dp_3, .int .i64 dp_4, .slice dp_5 dp_5n dp_5c, .int .i64 dp_6, .int .i64 dp_7, .slice dp_8 dp_8n dp_8c, .slice dp_9 dp_9n dp_9c, .slice dp_10 dp_10n dp_10c, .bool dp_11, .bool dp_12, .int .i64 dp_13, .slice dp_14 dp_14n dp_14c, .slice dp_15 dp_15n dp_15c, .slice dp_16 dp_16n dp_16c, .int .i64 dp_17]) := by show LBox _ _ _; rw [hwn]; exact LBox.new _ _ _ _ hm
  have HIf : Hid (R wf #[.int .i64 dp_0, .int .i64 dp_1, .bool dp_2, .int .i64 dp_3, .int .i64 dp_4, .slice dp_5 dp_5n dp_5c, .int .i64 dp_6, .int .i64 dp_7, .slice dp_8 dp_8n dp_8c, .slice dp_9 dp_9n dp_9c, .slice dp_10 dp_10n dp_10c, .bool dp_11, .bool dp_12, .int .i64 dp_13, .slice dp_14 dp_14n dp_14c, .slice dp_15 dp_15n dp_15c, .slice dp_16 dp_16n dp_16c, .int .i64 dp_17]) := HL.out _ _ _ hi hbn
  have HBf : Hid (Below w.heap.size w wf) := blw_trans (blw_trans HBd.out hb) hbn
  have HXf := hidR ((HXd.out.later hb).later hbn)
  go_upto_region 7 with fail
  rw [← hwn, ← hm]
  clear hwn hm hi hb hbn HXd HBd
  refine wp_region_lit ?_
  refine wpList_load_mid rfl 44 _ rfl m 0 rfl [.int .i64 dp_0, .int .i64 dp_1, .bool dp_2, .int .i64 dp_3, .int .i64 dp_4, .slice dp_5 dp_5n dp_5c, .int .i64 dp_6, .int .i64 dp_7, .slice dp_8 dp_8n dp_8c, .slice dp_9 dp_9n dp_9c, .slice dp_10 dp_10n dp_10c, .bool dp_11, .bool dp_12, .int .i64 dp_13, .slice dp_14 dp_14n dp_14c, .slice dp_15 dp_15n dp_15c, .slice dp_16 dp_16n dp_16c, .int .i64 dp_17] _ HYf.out.at_ Try.underlying44 rfl (by kernel_rfl) ?_
  simp only [Act.put, List.setIfInBounds_toArray, List.set_cons_zero, List.set_cons_succ]
  go_wp2_with fail
  refine (HIF.out wf _ HIf.out).mono ?_
  rintro e wg ⟨rfl, hb⟩
  have HBg : Hid (Below w.heap.size w wg) := blw_trans HBf.out hb
  have HXg := hidR (HXf.out.later hb)
  have HYg := hidR (HYf.out.later hb)
  have HIg : Hid (R wg #[.int .i64 dp_0, .int .i64 dp_1, .bool dp_2, .int .i64 dp_3, .int .i64 dp_4, .slice dp_5 dp_5n dp_5c, .int .i64 dp_6, .int .i64 dp_7, .slice dp_8 dp_8n dp_8c, .slice dp_9 dp_9n dp_9c, .slice dp_10 dp_10n dp_10c, .bool dp_11, .bool dp_12, .int .i64 dp_13, .slice dp_14 dp_14n dp_14c, .slice dp_15 dp_15n dp_15c, .slice dp_16 dp_16n dp_16c, .int .i64 dp_17]) := HL.out _ _ _ HIf.out hb
  clear hb HXf HBf HYf HIf HIF
  have hneq : (an != an) = false := by cases an <;> rfl
  go_upto_region 10 with fail
  refine RY.region_past wg (Below.refl _ _) (VEqlawRecO (.agg #[x_0, x_1, x_2, x_3, x_4, x_5, x_6, x_7, x_8, x_9, x_10, x_11, x_12, x_13, x_14, x_15, x_16, x_17]) (.agg #[.int .i64 dp_0, .int .i64 dp_1, .bool dp_2, .int .i64 dp_3, .int .i64 dp_4, .slice dp_5 dp_5n dp_5c, .int .i64 dp_6, .int .i64 dp_7, .slice dp_8 dp_8n dp_8c, .slice dp_9 dp_9n dp_9c, .slice dp_10 dp_10n dp_10c, .bool dp_11, .bool dp_12, .int .i64 dp_13, .slice dp_14 dp_14n dp_14c, .slice dp_15 dp_15n dp_15c, .slice dp_16 dp_16n dp_16c, .int .i64 dp_17]) R) (VEqlawRecO_mono (.agg #[x_0, x_1, x_2, x_3, x_4, x_5, x_6, x_7, x_8, x_9, x_10, x_11, x_12, x_13, x_14, x_15, x_16, x_17]) (.agg #[.int .i64 dp_0, .int .i64 dp_1, .bool dp_2, .int .i64 dp_3, .int .i64 dp_4, .slice dp_5 dp_5n dp_5c, .int .i64 dp_6, .int .i64 dp_7, .slice dp_8 dp_8n dp_8c, .slice dp_9 dp_9n dp_9c, .slice dp_10 dp_10n dp_10c, .bool dp_11, .bool dp_12, .int .i64 dp_13, .slice dp_14 dp_14n dp_14c, .slice dp_15 dp_15n dp_15c, .slice dp_16 dp_16n dp_16c, .int .i64 dp_17]) R HL.out) (by kernel_rfl) (by kernel_rfl) (by kernel_rfl) (by kernel_rfl) ?_ ?_
  · intro i o ho a W hW hk hd
    have hB : Below w.heap.size w W := blw_trans HBg.out hW
    have z0 := HYg.out.later hW
    have z1 := HXg.out.later hW
    match i, ho with
    | 0, ho =>
      injection ho with ho; subst ho
      exact Or.inl ⟨_, W, exec_load_mid 44 _ rfl m 0 ((hk 5 rfl).trans rfl) [.int .i64 dp_0, .int .i64 dp_1, .bool dp_2, .int .i64 dp_3, .int .i64 dp_4, .slice dp_5 dp_5n dp_5c, .int .i64 dp_6, .int .i64 dp_7, .slice dp_8 dp_8n dp_8c, .slice dp_9 dp_9n dp_9c, .slice dp_10 dp_10n dp_10c, .bool dp_11, .bool dp_12, .int .i64 dp_13, .slice dp_14 dp_14n dp_14c, .slice dp_15 dp_15n dp_15c, .slice dp_16 dp_16n dp_16c, .int .i64 dp_17] _ z0.at_ Try.underlying44 rfl (by kernel_rfl), Below.refl _ _, rfl⟩
    | 1, ho =>
      injection ho with ho; subst ho
      exact Or.inl ⟨_, W, exec_load_mid 52 _ rfl w.heap.size 0 ((hk 1 rfl).trans rfl) [x_0, x_1, x_2, x_3, x_4, x_5, x_6, x_7, x_8, x_9, x_10, x_11, x_12, x_13, x_14, x_15, x_16, x_17] _ z1.at_ Try.underlying52 rfl (by kernel_rfl), Below.refl _ _, rfl⟩
    | 2, ho =>
      injection ho with ho; subst ho
      have e0 : a.tmps[23]?.getD undef = _ := (RY.ev_tmp a 23).trans (hd 1 _ 23 rfl rfl ⟨⟨1, .data⟩, by simp, rfl, rfl⟩)
      refine Or.inr ⟨27, #[.agg #[x_0, x_1, x_2, x_3, x_4, x_5, x_6, x_7, x_8, x_9, x_10, x_11, x_12, x_13, x_14, x_15, x_16, x_17]], by simp [go_sem, e0], (HT.out HS.out W hB).mono ?_⟩
      rintro e W' ⟨⟨d_0, d_1, d_2, d_3, d_4, d_5, d_5n, d_5c, d_6, d_7, d_8, d_8n, d_8c, d_9, d_9n, d_9c, d_10, d_10n, d_10c, d_11, d_12, d_13, d_14, d_14n, d_14c, d_15, d_15n, d_15c, d_16, d_16n, d_16c, d_17, rfl, hr⟩, hb⟩
      exact ⟨_, rfl, hb, _, rfl, hr⟩
    | 3, ho =>
      injection ho with ho; subst ho
      have e0 : a.tmps[22]?.getD undef = _ := (RY.ev_tmp a 22).trans (hd 0 _ 22 rfl rfl ⟨⟨0, .data⟩, by simp, rfl, rfl⟩)
      obtain ⟨b1, e1, hr1⟩ := hd 2 _ 24 rfl rfl ⟨⟨2, .data⟩, by simp, rfl, rfl⟩
      have e1 := (RY.ev_tmp a 24).trans e1
      refine Or.inr ⟨22, #[.agg #[.int .i64 dp_0, .int .i64 dp_1, .bool dp_2, .int .i64 dp_3, .int .i64 dp_4, .slice dp_5 dp_5n dp_5c, .int .i64 dp_6, .int .i64 dp_7, .slice dp_8 dp_8n dp_8c, .slice dp_9 dp_9n dp_9c, .slice dp_10 dp_10n dp_10c, .bool dp_11, .bool dp_12, .int .i64 dp_13, .slice dp_14 dp_14n dp_14c, .slice dp_15 dp_15n dp_15c, .slice dp_16 dp_16n dp_16c, .int .i64 dp_17], .agg b1], by simp [go_sem, e0, e1], (HE.out W _ b1 (HL.out _ _ _ HIg.out hW) hr1).mono ?_⟩
      rintro e W' ⟨rfl, hb⟩
      exact ⟨_, rfl, hb, rfl⟩
    | 4, ho =>
      injection ho with ho; subst ho
      have e0 : a.tmps[25]?.getD undef = _ := (RY.ev_tmp a 25).trans (hd 3 _ 25 rfl rfl ⟨⟨3, .data⟩, by simp, rfl, rfl⟩)
      exact Or.inl ⟨.bool false, W, by simp [execOp, go_sem, e0], Below.refl _ _, rfl⟩
    | n + 5, ho => simp at ho
  intro wz vs hb hvs
  have el : vs 26 = .bool false := hvs 4 _ 26 rfl rfl
  simp only [RY.putAll, Act.put, List.setIfInBounds_toArray, List.set_cons_zero, List.set_cons_succ]
  rw [el]
  generalize vs 22 = s22
  generalize vs 23 = s23
  generalize vs 24 = s24
  generalize vs 25 = s25
  clear hvs el
  have HBz : Hid (Below w.heap.size w wz) := blw_trans HBg.out hb
  clear hb
  go_wp2
  go_ret
  exact ⟨rfl, HBz.out⟩

end Go.Proofs.Ytejhknclhdbgfaa
