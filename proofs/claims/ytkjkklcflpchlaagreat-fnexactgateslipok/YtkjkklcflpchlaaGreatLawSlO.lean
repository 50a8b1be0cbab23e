/-
  The walk over the law of GateSlipOk, over opaque values.
-/
import Derived.Deep.MidRow
import Derived.Deep.DeepCutAuto
import Derived.Test.YtkjkklcflpchlaaGreatBoxM
import Derived.Test.YtkjkklcflpchlaaGreatRel
namespace Go.Proofs.YtkjkklcflpchlaaGreat
open Go.RowKit Go.Deep

def VlawSlOS (X0 : Value) (R0 : World → Array Value → Prop) (X1 : Value) (R1 : World → Array Value → Prop) (an : Bool) (i : Nat) (u : Value) (W : World) : Prop :=
  match i with
  | 0 => u = X0
  | 1 => ∃ d, u = .agg d ∧ R0 W d
  | 2 => u = X1
  | 3 => ∃ d, u = .agg d ∧ R1 W d
  | _ => u = .bool an

theorem VlawSlOS_mono (X0 : Value) (R0 : World → Array Value → Prop) (X1 : Value) (R1 : World → Array Value → Prop) (an : Bool) (h0 : ∀ W W' d, R0 W d → Below W.heap.size W W' → R0 W' d) (h1 : ∀ W W' d, R1 W d → Below W.heap.size W W' → R1 W' d) : ∀ j u W W', Below W.heap.size W W' → VlawSlOS X0 R0 X1 R1 an j u W → VlawSlOS X0 R0 X1 R1 an j u W' := by
  intro j u W W' hb h
  match j, h with
  | 0, h => exact h
  | 1, h =>
    obtain ⟨d, rfl, h2⟩ := h
    exact ⟨d, rfl, h0 _ _ _ h2 hb⟩
  | 2, h => exact h
  | 3, h =>
    obtain ⟨d, rfl, h2⟩ := h
    exact ⟨d, rfl, h1 _ _ _ h2 hb⟩
  | n + 4, h => exact h

def VEqlawSlO (X Y : Value) (R : World → Array Value → Prop) (i : Nat) (u : Value) (W : World) : Prop :=
  match i with
  | 0 => u = Y
  | 1 => u = X
  | 2 => ∃ d, u = .agg d ∧ R W d
  | 3 => u = .bool true
  | _ => u = .bool false

theorem VEqlawSlO_mono (X Y : Value) (R : World → Array Value → Prop) (h0 : ∀ W W' d, R W d → Below W.heap.size W W' → R W' d) : ∀ j u W W', Below W.heap.size W W' → VEqlawSlO X Y R j u W → VEqlawSlO X Y R j u W' := by
  intro j u W W' hb h
  match j, h with
  | 0, h => exact h
  | 1, h => exact h
  | 2, h =>
    obtain ⟨d, rfl, h2⟩ := h
    exact ⟨d, rfl, h0 _ _ _ h2 hb⟩
  | 3, h => exact h
  | n + 4, h => exact h

set_option maxRecDepth 8000 in
set_option maxHeartbeats 40000000 in
theorem lawSlO (x0_0 x0_1 x0_2 x1_0 x1_1 x1_2 x1_3 x1_4 x1_5 x1_6 x1_7 x1_8 x1_9 x1_10 x1_11 x1_12 x1_13 x1_14 x1_15 x1_16 x1_17 : Value) (w : World) (an : Bool) (S0 : Prop) (R0 : World → Array Value → Prop) (S1 : Prop) (R1 : World → Array Value → Prop)
    (HZ0 : Hid (∀ W left, Below w.heap.size w W → 0 ≤ left → left ≤ 1048576 → Calls Tryz.prog 5 #[.agg #[x0_0, x0_1, x0_2], .int .i64 left] W fun e w' => (∃ r : Int, e = .returned (.int .i64 r) ∧ -1 ≤ r ∧ r ≤ left ∧ (0 ≤ r → S0)) ∧ Below W.heap.size W w'))
    (HT0 : Hid (S0 → ∀ W, Below w.heap.size w W → Calls Tryz.prog 8 #[.agg #[x0_0, x0_1, x0_2]] W fun e w' => (∃ d0_0 d0_0n d0_0c d0_1 d0_1n d0_1c d0_2 d0_2n d0_2c, e = .returned (.agg #[.slice d0_0 d0_0n d0_0c, .slice d0_1 d0_1n d0_1c, .slice d0_2 d0_2n d0_2c]) ∧ R0 w' #[.slice d0_0 d0_0n d0_0c, .slice d0_1 d0_1n d0_1c, .slice d0_2 d0_2n d0_2c]) ∧ Below W.heap.size W w'))
    (HL0 : Hid (∀ W W' d, R0 W d → Below W.heap.size W W' → R0 W' d))
    (HE0 : Hid (∀ W d d', R0 W d → R0 W d' → Calls Tryz.prog 11 #[.agg d, .agg d'] W fun e w' => e = .returned (.bool true) ∧ Below W.heap.size W w'))
    (HZ1 : Hid (∀ W left, Below w.heap.size w W → 0 ≤ left → left ≤ 1048576 → Calls Tryz.prog 13 #[.agg #[x1_0, x1_1, x1_2, x1_3, x1_4, x1_5, x1_6, x1_7, x1_8, x1_9, x1_10, x1_11, x1_12, x1_13, x1_14, x1_15, x1_16, x1_17], .int .i64 left] W fun e w' => (∃ r : Int, e = .returned (.int .i64 r) ∧ -1 ≤ r ∧ r ≤ left ∧ (0 ≤ r → S1)) ∧ Below W.heap.size W w'))
    (HT1 : Hid (S1 → ∀ W, Below w.heap.size w W → Calls Tryz.prog 15 #[.agg #[x1_0, x1_1, x1_2, x1_3, x1_4, x1_5, x1_6, x1_7, x1_8, x1_9, x1_10, x1_11, x1_12, x1_13, x1_14, x1_15, x1_16, x1_17]] W fun e w' => (∃ d1_0 d1_1 d1_2 d1_3 d1_4 d1_5 d1_6 d1_6n d1_6c d1_7 d1_7n d1_7c d1_8 d1_9 d1_10 d1_11 d1_11n d1_11c d1_12 d1_13 d1_14 d1_15 d1_16 d1_17 d1_17n d1_17c, e = .returned (.agg #[.string d1_0, .string d1_1, .int .i64 d1_2, .string d1_3, .string d1_4, .string d1_5, .slice d1_6 d1_6n d1_6c, .slice d1_7 d1_7n d1_7c, .int .i64 d1_8, .string d1_9, .string d1_10, .slice d1_11 d1_11n d1_11c, .string d1_12, .string d1_13, .string d1_14, .int .i64 d1_15, .int .i64 d1_16, .slice d1_17 d1_17n d1_17c]) ∧ R1 w' #[.string d1_0, .string d1_1, .int .i64 d1_2, .string d1_3, .string d1_4, .string d1_5, .slice d1_6 d1_6n d1_6c, .slice d1_7 d1_7n d1_7c, .int .i64 d1_8, .string d1_9, .string d1_10, .slice d1_11 d1_11n d1_11c, .string d1_12, .string d1_13, .string d1_14, .int .i64 d1_15, .int .i64 d1_16, .slice d1_17 d1_17n d1_17c]) ∧ Below W.heap.size W w'))
    (HL1 : Hid (∀ W W' d, R1 W d → Below W.heap.size W W' → R1 W' d))
    (HE1 : Hid (∀ W d d', R1 W d → R1 W d' → Calls Tryz.prog 17 #[.agg d, .agg d'] W fun e w' => e = .returned (.bool true) ∧ Below W.heap.size W w'))
    (HSF : Hid (∀ W e0 e1, R0 W e0 → R1 W e1 → Calls Tryz.prog 14 #[.agg e0, .agg e1] W fun e w' => e = .returned (.bool an) ∧ Below W.heap.size W w'))
    (HIF : Hid (∀ W e0 e1, R0 W e0 → R1 W e1 → Calls Tryz.prog 16 #[.agg e0, .agg e1] W fun e w' => e = .returned (.bool an) ∧ Below W.heap.size W w'))
    : Calls Tryz.prog 4 #[.agg #[x0_0, x0_1, x0_2], .agg #[x1_0, x1_1, x1_2, x1_3, x1_4, x1_5, x1_6, x1_7, x1_8, x1_9, x1_10, x1_11, x1_12, x1_13, x1_14, x1_15, x1_16, x1_17]] w fun e w' => e = .returned (.bool true) ∧ Below w.heap.size w w' := by
  obtain ⟨wa, hwa⟩ : ∃ wa, wa = (w.alloc (.cells #[x0_0, x0_1, x0_2] 26)).alloc (.cells #[x1_0, x1_1, x1_2, x1_3, x1_4, x1_5, x1_6, x1_7, x1_8, x1_9, x1_10, x1_11, x1_12, x1_13, x1_14, x1_15, x1_16, x1_17] 51) := ⟨_, rfl⟩
  have HBa : Hid (Below w.heap.size w wa) := by show Below _ _ _; rw [hwa]; exact (blw_alloc (blw_alloc (Below.refl _ _) _) _)
  have HXa : Hid (BoxV wa w.heap.size #[x0_0, x0_1, x0_2] ∧ BoxV wa (w.heap.size + 1) #[x1_0, x1_1, x1_2, x1_3, x1_4, x1_5, x1_6, x1_7, x1_8, x1_9, x1_10, x1_11, x1_12, x1_13, x1_14, x1_15, x1_16, x1_17]) := by show _ ∧ _; rw [hwa]; exact ⟨((BoxV.new' _ _ _ _ (by simp)).past _), (BoxV.new' _ _ _ _ (by simp))⟩
  go_enter Tryz.func4, Tryz.ntmps4
  go_upto_region 1 with fail
  rw [← hwa]
  clear hwa
  go_upto_region 2 with fail
  refine wp_region_lit ?_
  refine wpList_load_mid rfl 26 _ rfl w.heap.size 0 rfl [x0_0, x0_1, x0_2] _ HXa.out.1.range Tryz.underlying26 rfl (by kernel_rfl) ?_
  simp only [Act.put, List.setIfInBounds_toArray, List.set_cons_zero, List.set_cons_succ]
  go_wp2_with fail
  refine (HZ0.out wa 1048576 HBa.out (by omega) (by omega)).mono ?_
  rintro e wb ⟨⟨r0, rfl, q0, q0', hr⟩, hb⟩
  have HR0 : Hid (0 ≤ r0 → S0) := hr
  have HBb : Hid (Below w.heap.size w wb) := blw_trans HBa.out hb
  have HXb : Hid (BoxV wb w.heap.size #[x0_0, x0_1, x0_2] ∧ BoxV wb (w.heap.size + 1) #[x1_0, x1_1, x1_2, x1_3, x1_4, x1_5, x1_6, x1_7, x1_8, x1_9, x1_10, x1_11, x1_12, x1_13, x1_14, x1_15, x1_16, x1_17]) := ⟨HXa.out.1.later hb, HXa.out.2.later hb⟩
  clear hr hb HXa HBa HZ0
  by_cases c0 : r0 < 0
  · go_wp2
    go_ret
    exact ⟨rfl, HBb.out⟩
  have HS0 : Hid (S0) := HR0.out (by omega)
  clear HR0
  go_upto_region 5 with fail
  refine wp_region_lit ?_
  refine wpList_load_mid rfl 51 _ rfl (w.heap.size + 1) 0 rfl [x1_0, x1_1, x1_2, x1_3, x1_4, x1_5, x1_6, x1_7, x1_8, x1_9, x1_10, x1_11, x1_12, x1_13, x1_14, x1_15, x1_16, x1_17] _ HXb.out.2.range Tryz.underlying51 rfl (by kernel_rfl) ?_
  simp only [Act.put, List.setIfInBounds_toArray, List.set_cons_zero, List.set_cons_succ]
  go_wp2_with fail
  refine (HZ1.out wb r0 HBb.out (by omega) (by omega)).mono ?_
  rintro e wc ⟨⟨r1, rfl, q1, q1', hr⟩, hb⟩
  have HR1 : Hid (0 ≤ r1 → S1) := hr
  have HBc : Hid (Below w.heap.size w wc) := blw_trans HBb.out hb
  have HXc : Hid (BoxV wc w.heap.size #[x0_0, x0_1, x0_2] ∧ BoxV wc (w.heap.size + 1) #[x1_0, x1_1, x1_2, x1_3, x1_4, x1_5, x1_6, x1_7, x1_8, x1_9, x1_10, x1_11, x1_12, x1_13, x1_14, x1_15, x1_16, x1_17]) := ⟨HXb.out.1.later hb, HXb.out.2.later hb⟩
  clear hr hb HXb HBb HZ1
  by_cases c1 : r1 < 0
  · go_wp2
    go_ret
    exact ⟨rfl, HBc.out⟩
  have HS1 : Hid (S1) := HR1.out (by omega)
  clear HR1
  go_upto_region 8 with fail
  refine region_past wc (Below.refl _ _) (VlawSlOS (.agg #[x0_0, x0_1, x0_2]) R0 (.agg #[x1_0, x1_1, x1_2, x1_3, x1_4, x1_5, x1_6, x1_7, x1_8, x1_9, x1_10, x1_11, x1_12, x1_13, x1_14, x1_15, x1_16, x1_17]) R1 an) (VlawSlOS_mono (.agg #[x0_0, x0_1, x0_2]) R0 (.agg #[x1_0, x1_1, x1_2, x1_3, x1_4, x1_5, x1_6, x1_7, x1_8, x1_9, x1_10, x1_11, x1_12, x1_13, x1_14, x1_15, x1_16, x1_17]) R1 an HL0.out HL1.out) (by kernel_rfl) (by kernel_rfl) (by kernel_rfl) (by kernel_rfl) ?_ ?_
  · intro i o ho a W hW hk hd
    have hB : Below w.heap.size w W := blw_trans HBc.out hW
    have z0 := (HXc.out.1).later hW
    have z1 := (HXc.out.2).later hW
    match i, ho with
    | 0, ho =>
      injection ho with ho; subst ho
      exact Or.inl ⟨_, W, exec_load_mid 26 _ rfl w.heap.size 0 ((hk 2 rfl).trans rfl) [x0_0, x0_1, x0_2] _ z0.range Tryz.underlying26 rfl (by kernel_rfl), Below.refl _ _, rfl⟩
    | 1, ho =>
      injection ho with ho; subst ho
      have e0 : a.tmps[20]?.getD undef = _ := (ev_tmp a 20).trans (hd 0 _ 20 rfl rfl ⟨⟨0, .data⟩, by simp, rfl, rfl⟩)
      refine Or.inr ⟨8, #[.agg #[x0_0, x0_1, x0_2]], by simp [go_sem, e0], (HT0.out HS0.out W hB).mono ?_⟩
      rintro e W' ⟨⟨d0_0, d0_0n, d0_0c, d0_1, d0_1n, d0_1c, d0_2, d0_2n, d0_2c, rfl, hr⟩, hb⟩
      exact ⟨_, rfl, hb, _, rfl, hr⟩
    | 2, ho =>
      injection ho with ho; subst ho
      exact Or.inl ⟨_, W, exec_load_mid 51 _ rfl (w.heap.size + 1) 0 ((hk 3 rfl).trans rfl) [x1_0, x1_1, x1_2, x1_3, x1_4, x1_5, x1_6, x1_7, x1_8, x1_9, x1_10, x1_11, x1_12, x1_13, x1_14, x1_15, x1_16, x1_17] _ z1.range Tryz.underlying51 rfl (by kernel_rfl), Below.refl _ _, rfl⟩
    | 3, ho =>
      injection ho with ho; subst ho
      have e0 : a.tmps[22]?.getD undef = _ := (ev_tmp a 22).trans (hd 2 _ 22 rfl rfl ⟨⟨2, .data⟩, by simp, rfl, rfl⟩)
      refine Or.inr ⟨15, #[.agg #[x1_0, x1_1, x1_2, x1_3, x1_4, x1_5, x1_6, x1_7, x1_8, x1_9, x1_10, x1_11, x1_12, x1_13, x1_14, x1_15, x1_16, x1_17]], by simp [go_sem, e0], (HT1.out HS1.out W hB).mono ?_⟩
      rintro e W' ⟨⟨d1_0, d1_1, d1_2, d1_3, d1_4, d1_5, d1_6, d1_6n, d1_6c, d1_7, d1_7n, d1_7c, d1_8, d1_9, d1_10, d1_11, d1_11n, d1_11c, d1_12, d1_13, d1_14, d1_15, d1_16, d1_17, d1_17n, d1_17c, rfl, hr⟩, hb⟩
      exact ⟨_, rfl, hb, _, rfl, hr⟩
    | 4, ho =>
      injection ho with ho; subst ho
      obtain ⟨b0, e0, hr0⟩ := hd 1 _ 21 rfl rfl ⟨⟨1, .data⟩, by simp, rfl, rfl⟩
      have e0 := (ev_tmp a 21).trans e0
      obtain ⟨b1, e1, hr1⟩ := hd 3 _ 23 rfl rfl ⟨⟨3, .data⟩, by simp, rfl, rfl⟩
      have e1 := (ev_tmp a 23).trans e1
      refine Or.inr ⟨14, #[.agg b0, .agg b1], by simp [go_sem, e0, e1], (HSF.out W b0 b1 hr0 hr1).mono ?_⟩
      rintro e W' ⟨rfl, hb⟩
      exact ⟨_, rfl, hb, rfl⟩
    | 5, ho =>
      injection ho with ho; subst ho
      have e0 : a.tmps[24]?.getD undef = _ := (ev_tmp a 24).trans (hd 4 _ 24 rfl rfl ⟨⟨4, .data⟩, by simp, rfl, rfl⟩)
      exact Or.inl ⟨.bool an, W, by simp [execOp, go_sem, e0], Below.refl _ _, rfl⟩
    | n + 6, ho => simp at ho
  intro wd vs hb hvs
  have el : vs 6 = .bool an := hvs 5 _ 6 rfl rfl
  simp only [putAll, Act.put, List.setIfInBounds_toArray, List.set_cons_zero, List.set_cons_succ]
  rw [el]
  generalize vs 20 = s20
  generalize vs 21 = s21
  generalize vs 22 = s22
  generalize vs 23 = s23
  generalize vs 24 = s24
  clear hvs el
  have HBd : Hid (Below w.heap.size w wd) := blw_trans HBc.out hb
  have HXd : Hid (BoxV wd w.heap.size #[x0_0, x0_1, x0_2] ∧ BoxV wd (w.heap.size + 1) #[x1_0, x1_1, x1_2, x1_3, x1_4, x1_5, x1_6, x1_7, x1_8, x1_9, x1_10, x1_11, x1_12, x1_13, x1_14, x1_15, x1_16, x1_17]) := ⟨HXc.out.1.later hb, HXc.out.2.later hb⟩
  clear hb HXc HBc HSF
  go_upto_region 9 with fail
  refine wp_region_lit ?_
  refine wpList_load_mid rfl 26 _ rfl w.heap.size 0 rfl [x0_0, x0_1, x0_2] _ HXd.out.1.range Tryz.underlying26 rfl (by kernel_rfl) ?_
  simp only [Act.put, List.setIfInBounds_toArray, List.set_cons_zero, List.set_cons_succ]
  go_wp2_with fail
  refine (HT0.out HS0.out _ HBd.out).mono ?_
  rintro e we ⟨⟨d0p_0, d0p_0n, d0p_0c, d0p_1, d0p_1n, d0p_1c, d0p_2, d0p_2n, d0p_2c, rfl, hi⟩, hb⟩
  obtain ⟨wf, hwn⟩ : ∃ wf, wf = we.alloc (.cells #[.slice d0p_0 d0p_0n d0p_0c, .slice d0p_1 d0p_1n d0p_1c, .slice d0p_2 d0p_2n d0p_2c] 40) := ⟨_, rfl⟩
  obtain ⟨m0, hm⟩ : ∃ m0, m0 = we.heap.size := ⟨_, rfl⟩
  have hbn : Below we.heap.size we wf := by rw [hwn]; exact blw_alloc (Below.refl _ _) _
  have HY0f : Hid (BoxV wf m0 #[.slice d0p_0 d0p_0n d0p_0c, .slice d0p_1 d0p_1n d0p_1c, .slice d0p_2 d0p_2n d0p_2c]) := by show BoxV _ _ _; rw [hwn]; exact BoxV.new' _ _ _ _ hm
  have HI0f : Hid (R0 wf #[.slice d0p_0 d0p_0n d0p_0c, .slice d0p_1 d0p_1n d0p_1c, .slice d0p_2 d0p_2n d0p_2c]) := HL0.out _ _ _ hi hbn
  have HBf : Hid (Below w.heap.size w wf) := blw_trans (blw_trans HBd.out hb) hbn
  have HXf : Hid (BoxV wf w.heap.size #[x0_0, x0_1, x0_2] ∧ BoxV wf (w.heap.size + 1) #[x1_0, x1_1, x1_2, x1_3, x1_4, x1_5, x1_6, x1_7, x1_8, x1_9, x1_10, x1_11, x1_12, x1_13, x1_14, x1_15, x1_16, x1_17]) := ⟨(HXd.out.1.later hb).later hbn, (HXd.out.2.later hb).later hbn⟩
  go_upto_region 10 with fail
  rw [← hwn, ← hm]
  clear hwn hm hi hb hbn HXd HBd 
  refine wp_region_lit ?_
  refine wpList_load_mid rfl 51 _ rfl (w.heap.size + 1) 0 rfl [x1_0, x1_1, x1_2, x1_3, x1_4, x1_5, x1_6, x1_7, x1_8, x1_9, x1_10, x1_11, x1_12, x1_13, x1_14, x1_15, x1_16, x1_17] _ HXf.out.2.range Tryz.underlying51 rfl (by kernel_rfl) ?_
  simp only [Act.put, List.setIfInBounds_toArray, List.set_cons_zero, List.set_cons_succ]
  go_wp2_with fail
  refine (HT1.out HS1.out _ HBf.out).mono ?_
  rintro e wg ⟨⟨d1p_0, d1p_1, d1p_2, d1p_3, d1p_4, d1p_5, d1p_6, d1p_6n, d1p_6c, d1p_7, d1p_7n, d1p_7c, d1p_8, d1p_9, d1p_10, d1p_11, d1p_11n, d1p_11c, d1p_12, d1p_13, d1p_14, d1p_15, d1p_16, d1p_17, d1p_17n, d1p_17c, rfl, hi⟩, hb⟩
  obtain ⟨wh, hwn⟩ : ∃ wh, wh = wg.alloc (.cells #[.string d1p_0, .string d1p_1, .int .i64 d1p_2, .string d1p_3, .string d1p_4, .string d1p_5, .slice d1p_6 d1p_6n d1p_6c, .slice d1p_7 d1p_7n d1p_7c, .int .i64 d1p_8, .string d1p_9, .string d1p_10, .slice d1p_11 d1p_11n d1p_11c, .string d1p_12, .string d1p_13, .string d1p_14, .int .i64 d1p_15, .int .i64 d1p_16, .slice d1p_17 d1p_17n d1p_17c] 56) := ⟨_, rfl⟩
  obtain ⟨m1, hm⟩ : ∃ m1, m1 = wg.heap.size := ⟨_, rfl⟩
  have hbn : Below wg.heap.size wg wh := by rw [hwn]; exact blw_alloc (Below.refl _ _) _
  have HY1h : Hid (BoxV wh m1 #[.string d1p_0, .string d1p_1, .int .i64 d1p_2, .string d1p_3, .string d1p_4, .string d1p_5, .slice d1p_6 d1p_6n d1p_6c, .slice d1p_7 d1p_7n d1p_7c, .int .i64 d1p_8, .string d1p_9, .string d1p_10, .slice d1p_11 d1p_11n d1p_11c, .string d1p_12, .string d1p_13, .string d1p_14, .int .i64 d1p_15, .int .i64 d1p_16, .slice d1p_17 d1p_17n d1p_17c]) := by show BoxV _ _ _; rw [hwn]; exact BoxV.new' _ _ _ _ hm
  have HI1h : Hid (R1 wh #[.string d1p_0, .string d1p_1, .int .i64 d1p_2, .string d1p_3, .string d1p_4, .string d1p_5, .slice d1p_6 d1p_6n d1p_6c, .slice d1p_7 d1p_7n d1p_7c, .int .i64 d1p_8, .string d1p_9, .string d1p_10, .slice d1p_11 d1p_11n d1p_11c, .string d1p_12, .string d1p_13, .string d1p_14, .int .i64 d1p_15, .int .i64 d1p_16, .slice d1p_17 d1p_17n d1p_17c]) := HL1.out _ _ _ hi hbn
  have HBh : Hid (Below w.heap.size w wh) := blw_trans (blw_trans HBf.out hb) hbn
  have HXh : Hid (BoxV wh w.heap.size #[x0_0, x0_1, x0_2] ∧ BoxV wh (w.heap.size + 1) #[x1_0, x1_1, x1_2, x1_3, x1_4, x1_5, x1_6, x1_7, x1_8, x1_9, x1_10, x1_11, x1_12, x1_13, x1_14, x1_15, x1_16, x1_17]) := ⟨(HXf.out.1.later hb).later hbn, (HXf.out.2.later hb).later hbn⟩
  have HY0h : Hid (BoxV wh m0 #[.slice d0p_0 d0p_0n d0p_0c, .slice d0p_1 d0p_1n d0p_1c, .slice d0p_2 d0p_2n d0p_2c]) := (HY0f.out.later hb).later hbn
  have HI0h : Hid (R0 wh #[.slice d0p_0 d0p_0n d0p_0c, .slice d0p_1 d0p_1n d0p_1c, .slice d0p_2 d0p_2n d0p_2c]) := HL0.out _ _ _ (HL0.out _ _ _ HI0f.out hb) hbn
  go_upto_region 11 with fail
  rw [← hwn, ← hm]
  clear hwn hm hi hb hbn HXf HBf HY0f HI0f
  refine wp_region_lit ?_
  refine wpList_load_mid rfl 40 _ rfl m0 0 rfl [.slice d0p_0 d0p_0n d0p_0c, .slice d0p_1 d0p_1n d0p_1c, .slice d0p_2 d0p_2n d0p_2c] _ HY0h.out.range Tryz.underlying40 rfl (by kernel_rfl) ?_
  simp only [Act.put, List.setIfInBounds_toArray, List.set_cons_zero, List.set_cons_succ]
  refine wpList_load_mid rfl 56 _ rfl m1 0 rfl [.string d1p_0, .string d1p_1, .int .i64 d1p_2, .string d1p_3, .string d1p_4, .string d1p_5, .slice d1p_6 d1p_6n d1p_6c, .slice d1p_7 d1p_7n d1p_7c, .int .i64 d1p_8, .string d1p_9, .string d1p_10, .slice d1p_11 d1p_11n d1p_11c, .string d1p_12, .string d1p_13, .string d1p_14, .int .i64 d1p_15, .int .i64 d1p_16, .slice d1p_17 d1p_17n d1p_17c] _ HY1h.out.range Tryz.underlying56 rfl (by kernel_rfl) ?_
  simp only [Act.put, List.setIfInBounds_toArray, List.set_cons_zero, List.set_cons_succ]
  go_wp2_with fail
  refine (HIF.out _ _ _ HI0h.out HI1h.out).mono ?_
  rintro e wi ⟨rfl, hb⟩
  have HBi : Hid (Below w.heap.size w wi) := blw_trans HBh.out hb
  have HXi : Hid (BoxV wi w.heap.size #[x0_0, x0_1, x0_2] ∧ BoxV wi (w.heap.size + 1) #[x1_0, x1_1, x1_2, x1_3, x1_4, x1_5, x1_6, x1_7, x1_8, x1_9, x1_10, x1_11, x1_12, x1_13, x1_14, x1_15, x1_16, x1_17]) := ⟨HXh.out.1.later hb, HXh.out.2.later hb⟩
  have HY0i : Hid (BoxV wi m0 #[.slice d0p_0 d0p_0n d0p_0c, .slice d0p_1 d0p_1n d0p_1c, .slice d0p_2 d0p_2n d0p_2c]) := HY0h.out.later hb
  have HI0i : Hid (R0 wi #[.slice d0p_0 d0p_0n d0p_0c, .slice d0p_1 d0p_1n d0p_1c, .slice d0p_2 d0p_2n d0p_2c]) := HL0.out _ _ _ HI0h.out hb
  have HY1i : Hid (BoxV wi m1 #[.string d1p_0, .string d1p_1, .int .i64 d1p_2, .string d1p_3, .string d1p_4, .string d1p_5, .slice d1p_6 d1p_6n d1p_6c, .slice d1p_7 d1p_7n d1p_7c, .int .i64 d1p_8, .string d1p_9, .string d1p_10, .slice d1p_11 d1p_11n d1p_11c, .string d1p_12, .string d1p_13, .string d1p_14, .int .i64 d1p_15, .int .i64 d1p_16, .slice d1p_17 d1p_17n d1p_17c]) := HY1h.out.later hb
  have HI1i : Hid (R1 wi #[.string d1p_0, .string d1p_1, .int .i64 d1p_2, .string d1p_3, .string d1p_4, .string d1p_5, .slice d1p_6 d1p_6n d1p_6c, .slice d1p_7 d1p_7n d1p_7c, .int .i64 d1p_8, .string d1p_9, .string d1p_10, .slice d1p_11 d1p_11n d1p_11c, .string d1p_12, .string d1p_13, .string d1p_14, .int .i64 d1p_15, .int .i64 d1p_16, .slice d1p_17 d1p_17n d1p_17c]) := HL1.out _ _ _ HI1h.out hb
  clear hb  HXh HBh HIF HY0h HI0h HY1h HI1h
  have hneq : (an != an) = false := by cases an <;> rfl
  go_upto_region 14 with fail
  refine region_past wi (Below.refl _ _) (VEqlawSlO (.agg #[x0_0, x0_1, x0_2]) (.agg #[.slice d0p_0 d0p_0n d0p_0c, .slice d0p_1 d0p_1n d0p_1c, .slice d0p_2 d0p_2n d0p_2c]) R0) (VEqlawSlO_mono (.agg #[x0_0, x0_1, x0_2]) (.agg #[.slice d0p_0 d0p_0n d0p_0c, .slice d0p_1 d0p_1n d0p_1c, .slice d0p_2 d0p_2n d0p_2c]) R0 HL0.out) (by kernel_rfl) (by kernel_rfl) (by kernel_rfl) (by kernel_rfl) ?_ ?_
  · intro i o ho a W hW hk hd
    have hB : Below w.heap.size w W := blw_trans HBi.out hW
    have z0 := (HY0i.out).later hW
    have z1 := (HXi.out.1).later hW
    match i, ho with
    | 0, ho =>
      injection ho with ho; subst ho
      exact Or.inl ⟨_, W, exec_load_mid 40 _ rfl m0 0 ((hk 7 rfl).trans rfl) [.slice d0p_0 d0p_0n d0p_0c, .slice d0p_1 d0p_1n d0p_1c, .slice d0p_2 d0p_2n d0p_2c] _ z0.range Tryz.underlying40 rfl (by kernel_rfl), Below.refl _ _, rfl⟩
    | 1, ho =>
      injection ho with ho; subst ho
      exact Or.inl ⟨_, W, exec_load_mid 26 _ rfl w.heap.size 0 ((hk 2 rfl).trans rfl) [x0_0, x0_1, x0_2] _ z1.range Tryz.underlying26 rfl (by kernel_rfl), Below.refl _ _, rfl⟩
    | 2, ho =>
      injection ho with ho; subst ho
      have e0 : a.tmps[36]?.getD undef = _ := (ev_tmp a 36).trans (hd 1 _ 36 rfl rfl ⟨⟨1, .data⟩, by simp, rfl, rfl⟩)
      refine Or.inr ⟨8, #[.agg #[x0_0, x0_1, x0_2]], by simp [go_sem, e0], (HT0.out HS0.out W hB).mono ?_⟩
      rintro e W' ⟨⟨d0_0, d0_0n, d0_0c, d0_1, d0_1n, d0_1c, d0_2, d0_2n, d0_2c, rfl, hr⟩, hb⟩
      exact ⟨_, rfl, hb, _, rfl, hr⟩
    | 3, ho =>
      injection ho with ho; subst ho
      have e0 : a.tmps[35]?.getD undef = _ := (ev_tmp a 35).trans (hd 0 _ 35 rfl rfl ⟨⟨0, .data⟩, by simp, rfl, rfl⟩)
      obtain ⟨b1, e1, hr1⟩ := hd 2 _ 37 rfl rfl ⟨⟨2, .data⟩, by simp, rfl, rfl⟩
      have e1 := (ev_tmp a 37).trans e1
      refine Or.inr ⟨11, #[.agg #[.slice d0p_0 d0p_0n d0p_0c, .slice d0p_1 d0p_1n d0p_1c, .slice d0p_2 d0p_2n d0p_2c], .agg b1], by simp [go_sem, e0, e1], (HE0.out W _ b1 (HL0.out _ _ _ HI0i.out hW) hr1).mono ?_⟩
      rintro e W' ⟨rfl, hb⟩
      exact ⟨_, rfl, hb, rfl⟩
    | 4, ho =>
      injection ho with ho; subst ho
      have e0 : a.tmps[38]?.getD undef = _ := (ev_tmp a 38).trans (hd 3 _ 38 rfl rfl ⟨⟨3, .data⟩, by simp, rfl, rfl⟩)
      exact Or.inl ⟨.bool false, W, by simp [execOp, go_sem, e0], Below.refl _ _, rfl⟩
    | n + 5, ho => simp at ho
  intro wj vs hb hvs
  have el : vs 39 = .bool false := hvs 4 _ 39 rfl rfl
  simp only [putAll, Act.put, List.setIfInBounds_toArray, List.set_cons_zero, List.set_cons_succ]
  rw [el]
  generalize vs 35 = s35
  generalize vs 36 = s36
  generalize vs 37 = s37
  generalize vs 38 = s38
  clear hvs el
  have HBj : Hid (Below w.heap.size w wj) := blw_trans HBi.out hb
  have HXj : Hid (BoxV wj w.heap.size #[x0_0, x0_1, x0_2] ∧ BoxV wj (w.heap.size + 1) #[x1_0, x1_1, x1_2, x1_3, x1_4, x1_5, x1_6, x1_7, x1_8, x1_9, x1_10, x1_11, x1_12, x1_13, x1_14, x1_15, x1_16, x1_17]) := ⟨HXi.out.1.later hb, HXi.out.2.later hb⟩
  have HY0j : Hid (BoxV wj m0 #[.slice d0p_0 d0p_0n d0p_0c, .slice d0p_1 d0p_1n d0p_1c, .slice d0p_2 d0p_2n d0p_2c]) := HY0i.out.later hb
  have HI0j : Hid (R0 wj #[.slice d0p_0 d0p_0n d0p_0c, .slice d0p_1 d0p_1n d0p_1c, .slice d0p_2 d0p_2n d0p_2c]) := HL0.out _ _ _ HI0i.out hb
  have HY1j : Hid (BoxV wj m1 #[.string d1p_0, .string d1p_1, .int .i64 d1p_2, .string d1p_3, .string d1p_4, .string d1p_5, .slice d1p_6 d1p_6n d1p_6c, .slice d1p_7 d1p_7n d1p_7c, .int .i64 d1p_8, .string d1p_9, .string d1p_10, .slice d1p_11 d1p_11n d1p_11c, .string d1p_12, .string d1p_13, .string d1p_14, .int .i64 d1p_15, .int .i64 d1p_16, .slice d1p_17 d1p_17n d1p_17c]) := HY1i.out.later hb
  have HI1j : Hid (R1 wj #[.string d1p_0, .string d1p_1, .int .i64 d1p_2, .string d1p_3, .string d1p_4, .string d1p_5, .slice d1p_6 d1p_6n d1p_6c, .slice d1p_7 d1p_7n d1p_7c, .int .i64 d1p_8, .string d1p_9, .string d1p_10, .slice d1p_11 d1p_11n d1p_11c, .string d1p_12, .string d1p_13, .string d1p_14, .int .i64 d1p_15, .int .i64 d1p_16, .slice d1p_17 d1p_17n d1p_17c]) := HL1.out _ _ _ HI1i.out hb
  clear hb HXi HBi HY0i HI0i HY1i HI1i
  go_upto_region 16 with fail
  refine region_past wj (Below.refl _ _) (VEqlawSlO (.agg #[x1_0, x1_1, x1_2, x1_3, x1_4, x1_5, x1_6, x1_7, x1_8, x1_9, x1_10, x1_11, x1_12, x1_13, x1_14, x1_15, x1_16, x1_17]) (.agg #[.string d1p_0, .string d1p_1, .int .i64 d1p_2, .string d1p_3, .string d1p_4, .string d1p_5, .slice d1p_6 d1p_6n d1p_6c, .slice d1p_7 d1p_7n d1p_7c, .int .i64 d1p_8, .string d1p_9, .string d1p_10, .slice d1p_11 d1p_11n d1p_11c, .string d1p_12, .string d1p_13, .string d1p_14, .int .i64 d1p_15, .int .i64 d1p_16, .slice d1p_17 d1p_17n d1p_17c]) R1) (VEqlawSlO_mono (.agg #[x1_0, x1_1, x1_2, x1_3, x1_4, x1_5, x1_6, x1_7, x1_8, x1_9, x1_10, x1_11, x1_12, x1_13, x1_14, x1_15, x1_16, x1_17]) (.agg #[.string d1p_0, .string d1p_1, .int .i64 d1p_2, .string d1p_3, .string d1p_4, .string d1p_5, .slice d1p_6 d1p_6n d1p_6c, .slice d1p_7 d1p_7n d1p_7c, .int .i64 d1p_8, .string d1p_9, .string d1p_10, .slice d1p_11 d1p_11n d1p_11c, .string d1p_12, .string d1p_13, .string d1p_14, .int .i64 d1p_15, .int .i64 d1p_16, .slice d1p_17 d1p_17n d1p_17c]) R1 HL1.out) (by kernel_rfl) (by kernel_rfl) (by kernel_rfl) (by kernel_rfl) ?_ ?_
  · intro i o ho a W hW hk hd
    have hB : Below w.heap.size w W := blw_trans HBj.out hW
    have z0 := (HY1j.out).later hW
    have z1 := (HXj.out.2).later hW
    match i, ho with
    | 0, ho =>
      injection ho with ho; subst ho
      exact Or.inl ⟨_, W, exec_load_mid 56 _ rfl m1 0 ((hk 8 rfl).trans rfl) [.string d1p_0, .string d1p_1, .int .i64 d1p_2, .string d1p_3, .string d1p_4, .string d1p_5, .slice d1p_6 d1p_6n d1p_6c, .slice d1p_7 d1p_7n d1p_7c, .int .i64 d1p_8, .string d1p_9, .string d1p_10, .slice d1p_11 d1p_11n d1p_11c, .string d1p_12, .string d1p_13, .string d1p_14, .int .i64 d1p_15, .int .i64 d1p_16, .slice d1p_17 d1p_17n d1p_17c] _ z0.range Tryz.underlying56 rfl (by kernel_rfl), Below.refl _ _, rfl⟩
    | 1, ho =>
      injection ho with ho; subst ho
      exact Or.inl ⟨_, W, exec_load_mid 51 _ rfl (w.heap.size + 1) 0 ((hk 3 rfl).trans rfl) [x1_0, x1_1, x1_2, x1_3, x1_4, x1_5, x1_6, x1_7, x1_8, x1_9, x1_10, x1_11, x1_12, x1_13, x1_14, x1_15, x1_16, x1_17] _ z1.range Tryz.underlying51 rfl (by kernel_rfl), Below.refl _ _, rfl⟩
    | 2, ho =>
      injection ho with ho; subst ho
      have e0 : a.tmps[41]?.getD undef = _ := (ev_tmp a 41).trans (hd 1 _ 41 rfl rfl ⟨⟨1, .data⟩, by simp, rfl, rfl⟩)
      refine Or.inr ⟨15, #[.agg #[x1_0, x1_1, x1_2, x1_3, x1_4, x1_5, x1_6, x1_7, x1_8, x1_9, x1_10, x1_11, x1_12, x1_13, x1_14, x1_15, x1_16, x1_17]], by simp [go_sem, e0], (HT1.out HS1.out W hB).mono ?_⟩
      rintro e W' ⟨⟨d1_0, d1_1, d1_2, d1_3, d1_4, d1_5, d1_6, d1_6n, d1_6c, d1_7, d1_7n, d1_7c, d1_8, d1_9, d1_10, d1_11, d1_11n, d1_11c, d1_12, d1_13, d1_14, d1_15, d1_16, d1_17, d1_17n, d1_17c, rfl, hr⟩, hb⟩
      exact ⟨_, rfl, hb, _, rfl, hr⟩
    | 3, ho =>
      injection ho with ho; subst ho
      have e0 : a.tmps[40]?.getD undef = _ := (ev_tmp a 40).trans (hd 0 _ 40 rfl rfl ⟨⟨0, .data⟩, by simp, rfl, rfl⟩)
      obtain ⟨b1, e1, hr1⟩ := hd 2 _ 42 rfl rfl ⟨⟨2, .data⟩, by simp, rfl, rfl⟩
      have e1 := (ev_tmp a 42).trans e1
      refine Or.inr ⟨17, #[.agg #[.string d1p_0, .string d1p_1, .int .i64 d1p_2, .string d1p_3, .string d1p_4, .string d1p_5, .slice d1p_6 d1p_6n d1p_6c, .slice d1p_7 d1p_7n d1p_7c, .int .i64 d1p_8, .string d1p_9, .string d1p_10, .slice d1p_11 d1p_11n d1p_11c, .string d1p_12, .string d1p_13, .string d1p_14, .int .i64 d1p_15, .int .i64 d1p_16, .slice d1p_17 d1p_17n d1p_17c], .agg b1], by simp [go_sem, e0, e1], (HE1.out W _ b1 (HL1.out _ _ _ HI1j.out hW) hr1).mono ?_⟩
      rintro e W' ⟨rfl, hb⟩
      exact ⟨_, rfl, hb, rfl⟩
    | 4, ho =>
      injection ho with ho; subst ho
      have e0 : a.tmps[43]?.getD undef = _ := (ev_tmp a 43).trans (hd 3 _ 43 rfl rfl ⟨⟨3, .data⟩, by simp, rfl, rfl⟩)
      exact Or.inl ⟨.bool false, W, by simp [execOp, go_sem, e0], Below.refl _ _, rfl⟩
    | n + 5, ho => simp at ho
  intro wk vs hb hvs
  have el : vs 44 = .bool false := hvs 4 _ 44 rfl rfl
  simp only [putAll, Act.put, List.setIfInBounds_toArray, List.set_cons_zero, List.set_cons_succ]
  rw [el]
  generalize vs 40 = s40
  generalize vs 41 = s41
  generalize vs 42 = s42
  generalize vs 43 = s43
  clear hvs el
  have HBk : Hid (Below w.heap.size w wk) := blw_trans HBj.out hb
  have HXk : Hid (BoxV wk w.heap.size #[x0_0, x0_1, x0_2] ∧ BoxV wk (w.heap.size + 1) #[x1_0, x1_1, x1_2, x1_3, x1_4, x1_5, x1_6, x1_7, x1_8, x1_9, x1_10, x1_11, x1_12, x1_13, x1_14, x1_15, x1_16, x1_17]) := ⟨HXj.out.1.later hb, HXj.out.2.later hb⟩
  have HY0k : Hid (BoxV wk m0 #[.slice d0p_0 d0p_0n d0p_0c, .slice d0p_1 d0p_1n d0p_1c, .slice d0p_2 d0p_2n d0p_2c]) := HY0j.out.later hb
  have HI0k : Hid (R0 wk #[.slice d0p_0 d0p_0n d0p_0c, .slice d0p_1 d0p_1n d0p_1c, .slice d0p_2 d0p_2n d0p_2c]) := HL0.out _ _ _ HI0j.out hb
  have HY1k : Hid (BoxV wk m1 #[.string d1p_0, .string d1p_1, .int .i64 d1p_2, .string d1p_3, .string d1p_4, .string d1p_5, .slice d1p_6 d1p_6n d1p_6c, .slice d1p_7 d1p_7n d1p_7c, .int .i64 d1p_8, .string d1p_9, .string d1p_10, .slice d1p_11 d1p_11n d1p_11c, .string d1p_12, .string d1p_13, .string d1p_14, .int .i64 d1p_15, .int .i64 d1p_16, .slice d1p_17 d1p_17n d1p_17c]) := HY1j.out.later hb
  have HI1k : Hid (R1 wk #[.string d1p_0, .string d1p_1, .int .i64 d1p_2, .string d1p_3, .string d1p_4, .string d1p_5, .slice d1p_6 d1p_6n d1p_6c, .slice d1p_7 d1p_7n d1p_7c, .int .i64 d1p_8, .string d1p_9, .string d1p_10, .slice d1p_11 d1p_11n d1p_11c, .string d1p_12, .string d1p_13, .string d1p_14, .int .i64 d1p_15, .int .i64 d1p_16, .slice d1p_17 d1p_17n d1p_17c]) := HL1.out _ _ _ HI1j.out hb
  clear hb HXj HBj HY0j HI0j HY1j HI1j
  go_wp2
  go_ret
  exact ⟨rfl, HBk.out⟩

end Go.Proofs.YtkjkklcflpchlaaGreat
