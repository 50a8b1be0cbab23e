/-
  The law of StewSea.
-/
import Derived.Test.YtclagbakddkjcaaGreatLwB
import Derived.Test.YtclagbakddkjcaaGreatMemEv
namespace Go.Proofs.YtclagbakddkjcaaGreat
open Go.RowKit Go.Deep

def VS8 (b g : Value) (C : Int) : Nat → Value → Prop
  | 0, u => u = b
  | 2, u => u = g
  | 3, u => u = g
  | 7, u => u = .int .i64 C
  | 10, u => u = .int .i64 C
  | _, _ => True
def VS10 (b g : Value) (C : Int) : Nat → Value → Prop
  | 0, u => u = b
  | 1, u => u = g
  | 2, u => u = g
  | 6, u => u = .int .i64 C
  | 9, u => u = .int .i64 C
  | _, _ => True

set_option maxRecDepth 8000 in
set_option maxHeartbeats 40000000 in
theorem lawSeaO (K R : SBk) (C : Int) (x_0 x_1 x_2 x_3 x_4 x_5 x_6 x_7 x_8 x_9 x_10 x_11 x_12 x_13 x_14 x_15 x_16 : Value) (v0 v1 v2 : Value) (w : World) (G : Value) (cs : List Value) (hcs : cs = [x_0, x_1, x_2, x_3, x_4, x_5, x_6, x_7, x_8, x_9, x_10, x_11, x_12, x_13, x_14, x_15, x_16]) (hG : G = .agg #[x_0, x_1, x_2, x_3, x_4, x_5, x_6, x_7, x_8, x_9, x_10, x_11, x_12, x_13, x_14, x_15, x_16]) (h : SBkAt w v0 v1 v2 K)
    (HZE : Hid (∀ W left, 0 ≤ left → left ≤ 1048576 → Calls Tryz.prog 5 #[G, .int .i64 left] W fun e w' => (∃ r : Int, e = .returned (.int .i64 r) ∧ -1 ≤ r ∧ r ≤ left) ∧ Below W.heap.size W w'))
    (HTE : Hid (∀ W, Calls Tryz.prog 8 #[G] W fun e w' => e = .returned G ∧ Below W.heap.size W w'))
    (HSF : Hid (∀ W, Below w.heap.size w W → ∀ b0 b1 b2, SBkIn W b0 b1 b2 K → Calls Tryz.prog 6 #[.agg #[.int .i64 K.now, .slice (some ⟨b0, 0, none⟩) K.svcs.length K.svcs.length, .slice (some ⟨b1, 0, none⟩) K.cps.length K.cps.length, .slice (some ⟨b2, 0, none⟩) K.bts.length K.bts.length], G] W fun e w' => (∃ s0 s1 s2, e = .returned (.tuple #[.agg #[.int .i64 R.now, s0, s1, s2], .int .i64 C]) ∧ BkOwn w' W.heap.size R s0 s1 s2) ∧ Below W.heap.size W w'))
    (HIF : Hid (∀ W, Below w.heap.size w W → ∀ b0 b1 b2, SBkIn W b0 b1 b2 K → Calls Tryz.prog 9 #[.agg #[.int .i64 K.now, .slice (some ⟨b0, 0, none⟩) K.svcs.length K.svcs.length, .slice (some ⟨b1, 0, none⟩) K.cps.length K.cps.length, .slice (some ⟨b2, 0, none⟩) K.bts.length K.bts.length], G] W fun e w' => (∃ s0 s1 s2, e = .returned (.tuple #[.agg #[.int .i64 R.now, s0, s1, s2], .int .i64 C]) ∧ BkOwn w' W.heap.size R s0 s1 s2) ∧ Below W.heap.size W w')) :
    Calls Tryz.prog 3 #[.agg #[.int .i64 K.now, v0, v1, v2], G] w fun e w' => e = .returned (.bool true) ∧ Below w.heap.size w w' := by
  have HH := hid h
  have HIN : Hid ((Tryz.prog.info? 30).map (·.size) = some cs.length) := by show _ = _; rw [hcs]; kernel_rfl
  have HGV : Hid (Value.agg cs.toArray = G) := by show _ = _; rw [hcs, hG]
  clear h
  obtain ⟨wa, hwa⟩ : ∃ wa, wa = (w.alloc (.cells #[.int .i64 K.now, v0, v1, v2] 26)).alloc (.cells #[x_0, x_1, x_2, x_3, x_4, x_5, x_6, x_7, x_8, x_9, x_10, x_11, x_12, x_13, x_14, x_15, x_16] 30) := ⟨_, rfl⟩
  have HBa : Hid (Below w.heap.size w wa) := by show Below _ _ _; rw [hwa]; exact blw_alloc (blw_alloc (Below.refl _ _) _) _
  have HXa : Hid (LBox wa w.heap.size [.int .i64 K.now, v0, v1, v2]) := by show LBox _ _ _; rw [hwa]; exact (LBox.new _ _ _ _ rfl).past _
  have HYa : Hid (LBox wa (w.heap.size + 1) cs) := by show LBox _ _ _; rw [hwa, hcs]; exact LBox.new _ _ _ _ (by simp)
  rw [hG]
  go_enter Tryz.func3, Tryz.ntmps3
  go_upto_region 1 with fail
  rw [← hwa, ← hG]
  clear hwa hcs hG
  obtain ⟨z1, hz1⟩ : ∃ z1, z1 = G := ⟨_, rfl⟩
  rw [← hz1]
  clear hz1
  have xz := HXa.out.lt
  have x0 := HXa.out.get 0 _ rfl
  have x1 := HXa.out.get 1 _ rfl
  have x2 := HXa.out.get 2 _ rfl
  have x3 := HXa.out.get 3 _ rfl
  go_wp2_with fail
  refine (szSB K v0 v1 v2 1048576 wa (by omega) (by omega) (HH.out.later HBa.out)).mono ?_
  rintro e wb ⟨⟨r, rfl, q, q', hr⟩, hb⟩
  have HR : Hid (0 ≤ r → K.small) := hr
  have HBb := hid (blw_trans HBa.out hb)
  have HXb := hid (HXa.out.later hb)
  have HYb := hid (HYa.out.later hb)
  clear hr hb xz x0 x1 x2 x3 HXa HBa HYa
  by_cases c0 : r < 0
  · go_wp2
    go_ret
    exact ⟨rfl, HBb.out⟩
  have HS : Hid K.small := HR.out (by omega)
  clear HR
  go_upto_region 5 with fail
  refine wp_region_lit ?_
  refine wpList_load_mid rfl 30 _ rfl (w.heap.size + 1) 0 rfl cs _ HYb.out.at_ Tryz.underlying30 rfl HIN.out ?_
  rw [HGV.out]
  simp only [Act.put, List.setIfInBounds_toArray, List.set_cons_zero, List.set_cons_succ]
  go_wp2_with fail
  refine (HZE.out wb r (by omega) (by omega)).mono ?_
  rintro e wc ⟨⟨r2, rfl, _, _⟩, hb⟩
  have HBc := hid (blw_trans HBb.out hb)
  have HXc := hid (HXb.out.later hb)
  have HYc := hid (HYb.out.later hb)
  clear hb HXb HBb HYb HZE
  by_cases c1 : r2 < 0
  · go_wp2
    go_ret
    exact ⟨rfl, HBc.out⟩
  go_upto_region 8 with fail
  refine RY.region_TC (VS8 (.agg #[.int .i64 K.now, v0, v1, v2]) G C) (LS wc K R C 1 4 5 6 8 9) (by kernel_rfl) (by kernel_rfl) (by kernel_rfl) (by kernel_rfl) ?_ ?_ ?_
  · intro vals
    exact LS.start _ _ (Below.refl _ _).drew K R C 1 4 5 6 8 9 vals
  · intro up vals i o ho hi hcl a W hk hd hT
    have hc : LC 4 5 6 8 9 up := ⟨hcl 5 _ ⟨4, .data⟩ rfl (by simp) rfl, fun h => hcl 5 _ ⟨4, .data⟩ rfl (by simp) rfl (hcl 6 _ ⟨5, .data⟩ rfl (by simp) rfl h), hcl 9 _ ⟨8, .data⟩ rfl (by simp) rfl, fun h => hcl 5 _ ⟨4, .data⟩ rfl (by simp) rfl (hcl 6 _ ⟨5, .data⟩ rfl (by simp) rfl (hcl 9 _ ⟨6, .data⟩ rfl (by simp) rfl h))⟩
    have hB := blw_trans HBc.out hT.bel
    have hX := HXc.out.later hT.bel
    have hY := HYc.out.later hT.bel
    match i, ho with
    | 0, ho =>
      injection ho with ho; subst ho
      exact Or.inl ⟨_, W, exec_load_mid 26 (.tmp 2) rfl w.heap.size 0 ((hk 2 (by kernel_rfl)).trans rfl) [.int .i64 K.now, v0, v1, v2] _ hX.at_ Tryz.underlying26 rfl (by kernel_rfl), rfl, rfl, hT.else 0 _ _ (Below.refl _ _) hi hc (by decide) (by decide) (by decide) (by decide) (by decide) (by decide) (by decide) (by decide)⟩
    | 1, ho =>
      injection ho with ho; subst ho
      have d0 := hd 0 _ 27 rfl rfl ⟨⟨0, .data⟩, by simp, rfl, rfl⟩
      have e0 : a.tmps[27]?.getD undef = _ := (RY.ev_tmp a 27).trans (d0.2.1.trans d0.2.2)
      refine Or.inr (Or.inr ⟨7, #[.agg #[.int .i64 K.now, v0, v1, v2]], by simp [go_sem, e0], rfl, (toSB K v0 v1 v2 W HS.out (HH.out.later hB)).mono ?_⟩)
      rintro e W' ⟨⟨b0, b1, b2, rfl, hi', _⟩, hb⟩
      exact ⟨_, rfl, trivial, hT.put 1 _ _ hb hi hc (by decide) (by decide) (by decide) (fun _ => ⟨b0, b1, b2, rfl, hi'⟩) (fun e => by cases e) (fun e => by cases e) (fun e => by cases e) (fun e => by cases e)⟩
    | 2, ho =>
      injection ho with ho; subst ho
      exact Or.inl ⟨_, W, exec_load_mid 30 (.tmp 3) rfl (w.heap.size + 1) 0 ((hk 3 (by kernel_rfl)).trans rfl) cs _ hY.at_ Tryz.underlying30 rfl HIN.out, rfl, HGV.out, hT.else 2 _ _ (Below.refl _ _) hi hc (by decide) (by decide) (by decide) (by decide) (by decide) (by decide) (by decide) (by decide)⟩
    | 3, ho =>
      injection ho with ho; subst ho
      have d0 := hd 2 _ 29 rfl rfl ⟨⟨2, .data⟩, by simp, rfl, rfl⟩
      have e0 : a.tmps[29]?.getD undef = _ := (RY.ev_tmp a 29).trans (d0.2.1.trans d0.2.2)
      refine Or.inr (Or.inr ⟨8, #[G], by simp [go_sem, e0], rfl, (HTE.out W).mono ?_⟩)
      rintro e W' ⟨rfl, hb⟩
      exact ⟨_, rfl, rfl, hT.else 3 _ _ hb hi hc (by decide) (by decide) (by decide) (by decide) (by decide) (by decide) (by decide) (by decide)⟩
    | 4, ho =>
      injection ho with ho; subst ho
      have d0 := hd 1 _ 28 rfl rfl ⟨⟨1, .data⟩, by simp, rfl, rfl⟩
      have d1 := hd 3 _ 30 rfl rfl ⟨⟨3, .data⟩, by simp, rfl, rfl⟩
      obtain ⟨b0, b1, b2, q0, hk0⟩ := hT.t1 d0.1 hi
      have e0 := (RY.ev_tmp a 28).trans (d0.2.1.trans q0)
      have e1 : a.tmps[30]?.getD undef = _ := (RY.ev_tmp a 30).trans (d1.2.1.trans d1.2.2)
      refine Or.inr (Or.inr ⟨6, #[.agg #[.int .i64 K.now, .slice (some ⟨b0, 0, none⟩) K.svcs.length K.svcs.length, .slice (some ⟨b1, 0, none⟩) K.cps.length K.cps.length, .slice (some ⟨b2, 0, none⟩) K.bts.length K.bts.length], G], by simp [go_sem, e0, e1], rfl, (HSF.out W hB b0 b1 b2 hk0).mono ?_⟩)
      rintro e W' ⟨⟨s0, s1, s2, rfl, ho'⟩, hb⟩
      exact ⟨_, rfl, trivial, hT.put 4 _ _ hb hi hc (by decide) (by decide) (by decide) (fun e => by cases e) (fun _ => ⟨s0, s1, s2, rfl, ho'.lo hT.bel.size⟩) (fun e => by cases e) (fun e => by cases e) (fun e => by cases e)⟩
    | 5, ho =>
      injection ho with ho; subst ho
      have d0 := hd 4 _ 31 rfl rfl ⟨⟨4, .data⟩, by simp, rfl, rfl⟩
      have e0 := (RY.ev_tmp a 31).trans d0.2.1
      exact Or.inl ⟨vals 4, W, by simp [execOp, go_sem, e0], rfl, trivial, hT.put 5 _ _ (Below.refl _ _) hi hc (by decide) (by decide) (by decide) (fun e => by cases e) (fun e => by cases e) (fun _ => rfl) (fun e => by cases e) (fun e => by cases e)⟩
    | 6, ho =>
      injection ho with ho; subst ho
      have d0 := hd 5 _ 26 rfl rfl ⟨⟨5, .data⟩, by simp, rfl, rfl⟩
      obtain ⟨s0, s1, s2, q, _⟩ := hT.t4 (hc.c54 d0.1)
      have e0 := (RY.ev_tmp a 26).trans (d0.2.1.trans ((hT.t5 d0.1).trans q))
      exact Or.inl ⟨.agg #[.int .i64 R.now, s0, s1, s2], W, by simp [execOp, go_sem, e0], rfl, trivial, hT.put 6 _ _ (Below.refl _ _) hi hc (by decide) (by decide) (by decide) (fun e => by cases e) (fun e => by cases e) (fun e => by cases e) (fun _ => ⟨s0, s1, s2, q, rfl⟩) (fun e => by cases e)⟩
    | 7, ho =>
      injection ho with ho; subst ho
      have d0 := hd 5 _ 26 rfl rfl ⟨⟨5, .data⟩, by simp, rfl, rfl⟩
      obtain ⟨s0, s1, s2, q, _⟩ := hT.t4 (hc.c54 d0.1)
      have e0 := (RY.ev_tmp a 26).trans (d0.2.1.trans ((hT.t5 d0.1).trans q))
      exact Or.inl ⟨.int .i64 C, W, by simp [execOp, go_sem, e0], rfl, rfl, hT.else 7 _ _ (Below.refl _ _) hi hc (by decide) (by decide) (by decide) (by decide) (by decide) (by decide) (by decide) (by decide)⟩
    | 8, ho =>
      injection ho with ho; subst ho
      exact Or.inl ⟨.pointer (some ⟨W.heap.size, 0, none⟩), W.alloc (.cells #[.int .i64 0, .slice none 0 0, .slice none 0 0, .slice none 0 0] 37), by simp [execOp, go_sem], rfl, trivial, hT.put 8 _ _ (blw_alloc (Below.refl _ _) _) hi hc (by decide) (by decide) (by decide) (fun e => by cases e) (fun e => by cases e) (fun e => by cases e) (fun e => by cases e) (fun _ => ⟨W.heap.size, rfl, hT.bel.size, OwnBlk.alloc W _ _ 4 rfl⟩)⟩
    | 9, ho =>
      injection ho with ho; subst ho
      have d0 := hd 8 _ 6 rfl rfl ⟨⟨8, .data⟩, by simp, rfl, rfl⟩
      have d1 := hd 6 _ 32 rfl rfl ⟨⟨6, .data⟩, by simp, rfl, rfl⟩
      obtain ⟨p, q8, hp, ho8⟩ := hT.t8 d0.1
      obtain ⟨s0, s1, s2, q4, q6⟩ := hT.t6 d1.1
      have hpe := d0.2.1.trans q8
      have hve := d1.2.1.trans q6
      obtain ⟨t0, t1, t2, q4', hbo, _⟩ := hT.t4 (hc.c64 d1.1)
      obtain ⟨rfl, rfl, rfl⟩ : s0 = t0 ∧ s1 = t1 ∧ s2 = t2 := by
        have := q4.symm.trans q4'
        simpa using this
      refine Or.inr (Or.inl ⟨W.setCells p 0 [.int .i64 R.now, s0, s1, s2], ?_, rfl, hT.st (hc.c64 d1.1) (by decide) q4 q8 hp ho8⟩)
      unfold execOp
      simp only [hpe, hve, Sem.run_bind, Sem.run_pure, Result.andThen_ok, store_bk ho8 hbo]
    | 10, ho =>
      injection ho with ho; subst ho
      have d0 := hd 7 _ 33 rfl rfl ⟨⟨7, .data⟩, by simp, rfl, rfl⟩
      have e0 : a.tmps[33]?.getD undef = _ := (RY.ev_tmp a 33).trans (d0.2.1.trans d0.2.2)
      exact Or.inl ⟨.int .i64 C, W, by simp [execOp, go_sem, e0], rfl, rfl, hT.else 10 _ _ (Below.refl _ _) hi hc (by decide) (by decide) (by decide) (by decide) (by decide) (by decide) (by decide) (by decide)⟩
    | m + 11, ho => simp at ho
  intro up vals vs wd hall hvs hT
  obtain ⟨p, q8, hlp, hop⟩ := hT.t8 (hall 8 (by decide))
  obtain ⟨s0, s1, s2, q4, hbo, hbx⟩ := hT.t4 (hall 4 (by decide))
  have hbx := hbx (hall 9 (by decide)) p q8
  have ev8 := ((hvs 8 _ 6 rfl rfl).1).trans q8
  have ev10 : vs 7 = .int .i64 C := ((hvs 10 _ 7 rfl rfl).1).trans (hvs 10 _ 7 rfl rfl).2
  obtain ⟨a0, a1, a2, c0, c1, c2, rfl, rfl, rfl, hv⟩ := hbo.v
  simp only [RY.putAll, Act.put, List.setIfInBounds_toArray, List.set_cons_zero, List.set_cons_succ]
  rw [ev8, ev10]
  generalize vs 27 = s27
  generalize vs 28 = s28
  generalize vs 29 = s29
  generalize vs 30 = s30
  generalize vs 31 = s31
  generalize vs 26 = s26
  generalize vs 32 = s32
  generalize vs 33 = s33
  have HBd := hid (blw_trans HBc.out hT.bel)
  have HXd := hid (HXc.out.later hT.bel)
  have HYd := hid (HYc.out.later hT.bel)
  have HPd := hid hbx
  have HVd := hid hv
  clear hvs hT hall q8 q4 hbo hbx ev8 ev10 hlp hop hv HBc HXc HYc
  have xz := HXd.out.lt
  have x0 := HXd.out.get 0 _ rfl
  have x1 := HXd.out.get 1 _ rfl
  have x2 := HXd.out.get 2 _ rfl
  have x3 := HXd.out.get 3 _ rfl
  go_wp2_with fail
  refine (toSB K v0 v1 v2 wd HS.out (HH.out.later HBd.out)).mono ?_
  rintro e we ⟨⟨p0, p1, p2, rfl, hi, hl0, hl1, hl2⟩, hb⟩
  have hu0 := hi.l0.lt
  have hu1 := hi.l1.lt
  have hu2 := hi.l2.lt
  obtain ⟨wf, hw⟩ : ∃ wf, wf = we.alloc (.cells #[.int .i64 K.now, .slice (some ⟨p0, 0, none⟩) K.svcs.length K.svcs.length, .slice (some ⟨p1, 0, none⟩) K.cps.length K.cps.length, .slice (some ⟨p2, 0, none⟩) K.bts.length K.bts.length] 37) := ⟨_, rfl⟩
  obtain ⟨mb, hmb⟩ : ∃ mb, mb = we.heap.size := ⟨_, rfl⟩
  have hbn : Below we.heap.size we wf := by rw [hw]; exact blw_alloc (Below.refl _ _) _
  have HZf : Hid (Box4 wf mb (.int .i64 K.now) (.slice (some ⟨p0, 0, none⟩) K.svcs.length K.svcs.length) (.slice (some ⟨p1, 0, none⟩) K.cps.length K.cps.length) (.slice (some ⟨p2, 0, none⟩) K.bts.length K.bts.length)) := by show Box4 _ _ _ _ _ _; rw [hw]; exact Box4.new' we _ _ _ _ _ _ hmb
  have HIf := hid (hi.later hbn)
  have HDf := hid (blw_trans hb hbn)
  have hdf : wd.heap.size ≤ wf.heap.size := HDf.out.size
  rw [← hmb] at hu0 hu1 hu2
  go_upto_region 10 with fail
  rw [← hw, ← hmb]
  clear hw hmb hbn hi hb xz x0 x1 x2 x3
  have hmf : mb < wf.heap.size := HZf.out.lt
  refine RY.region_TC (VS10 (.agg #[.int .i64 K.now, .slice (some ⟨p0, 0, none⟩) K.svcs.length K.svcs.length, .slice (some ⟨p1, 0, none⟩) K.cps.length K.cps.length, .slice (some ⟨p2, 0, none⟩) K.bts.length K.bts.length]) G C) (LS wf K R C 99 3 4 5 7 8) (by kernel_rfl) (by kernel_rfl) (by kernel_rfl) (by kernel_rfl) ?_ ?_ ?_
  · intro vals
    exact LS.start _ _ (Below.refl _ _).drew K R C 99 3 4 5 7 8 vals
  · intro up vals i o ho hi hcl a W hk hd hT
    have hc : LC 3 4 5 7 8 up := ⟨hcl 4 _ ⟨3, .data⟩ rfl (by simp) rfl, fun h => hcl 4 _ ⟨3, .data⟩ rfl (by simp) rfl (hcl 5 _ ⟨4, .data⟩ rfl (by simp) rfl h), hcl 8 _ ⟨7, .data⟩ rfl (by simp) rfl, fun h => hcl 4 _ ⟨3, .data⟩ rfl (by simp) rfl (hcl 5 _ ⟨4, .data⟩ rfl (by simp) rfl (hcl 8 _ ⟨5, .data⟩ rfl (by simp) rfl h))⟩
    have hD := blw_trans HDf.out hT.bel
    have hB := blw_trans HBd.out hD
    obtain ⟨xz, x0, x1, x2, x3⟩ := HZf.out.later hT.bel
    have hY := HYd.out.later hD
    match i, ho with
    | 0, ho =>
      injection ho with ho; subst ho
      have e0 : a.eval (.tmp 8) = .pointer (some ⟨mb, 0, none⟩) := (hk 8 (by kernel_rfl)).trans rfl
      exact Or.inl ⟨_, W, by simp [execOp, go_sem, (RY.ev_tmp a 8).trans e0, x0, x1, x2, x3], rfl, rfl, hT.else 0 _ _ (Below.refl _ _) hi hc (by decide) (by decide) (by decide) (by decide) (by decide) (by decide) (by decide) (by decide)⟩
    | 1, ho =>
      injection ho with ho; subst ho
      exact Or.inl ⟨_, W, exec_load_mid 30 (.tmp 3) rfl (w.heap.size + 1) 0 ((hk 3 (by kernel_rfl)).trans rfl) cs _ hY.at_ Tryz.underlying30 rfl HIN.out, rfl, HGV.out, hT.else 1 _ _ (Below.refl _ _) hi hc (by decide) (by decide) (by decide) (by decide) (by decide) (by decide) (by decide) (by decide)⟩
    | 2, ho =>
      injection ho with ho; subst ho
      have d0 := hd 1 _ 38 rfl rfl ⟨⟨1, .data⟩, by simp, rfl, rfl⟩
      have e0 : a.tmps[38]?.getD undef = _ := (RY.ev_tmp a 38).trans (d0.2.1.trans d0.2.2)
      refine Or.inr (Or.inr ⟨8, #[G], by simp [go_sem, e0], rfl, (HTE.out W).mono ?_⟩)
      rintro e W' ⟨rfl, hb⟩
      exact ⟨_, rfl, rfl, hT.else 2 _ _ hb hi hc (by decide) (by decide) (by decide) (by decide) (by decide) (by decide) (by decide) (by decide)⟩
    | 3, ho =>
      injection ho with ho; subst ho
      have d0 := hd 0 _ 37 rfl rfl ⟨⟨0, .data⟩, by simp, rfl, rfl⟩
      have d1 := hd 2 _ 39 rfl rfl ⟨⟨2, .data⟩, by simp, rfl, rfl⟩
      have e0 : a.tmps[37]?.getD undef = _ := (RY.ev_tmp a 37).trans (d0.2.1.trans d0.2.2)
      have e1 : a.tmps[39]?.getD undef = _ := (RY.ev_tmp a 39).trans (d1.2.1.trans d1.2.2)
      refine Or.inr (Or.inr ⟨9, #[.agg #[.int .i64 K.now, .slice (some ⟨p0, 0, none⟩) K.svcs.length K.svcs.length, .slice (some ⟨p1, 0, none⟩) K.cps.length K.cps.length, .slice (some ⟨p2, 0, none⟩) K.bts.length K.bts.length], G], by simp [go_sem, e0, e1], rfl, (HIF.out W hB p0 p1 p2 (HIf.out.later hT.bel)).mono ?_⟩)
      rintro e W' ⟨⟨s0, s1, s2, rfl, ho'⟩, hb⟩
      exact ⟨_, rfl, trivial, hT.put 3 _ _ hb hi hc (by decide) (by decide) (by decide) (fun e => by cases e) (fun _ => ⟨s0, s1, s2, rfl, ho'.lo hT.bel.size⟩) (fun e => by cases e) (fun e => by cases e) (fun e => by cases e)⟩
    | 4, ho =>
      injection ho with ho; subst ho
      have d0 := hd 3 _ 40 rfl rfl ⟨⟨3, .data⟩, by simp, rfl, rfl⟩
      have e0 := (RY.ev_tmp a 40).trans d0.2.1
      exact Or.inl ⟨vals 3, W, by simp [execOp, go_sem, e0], rfl, trivial, hT.put 4 _ _ (Below.refl _ _) hi hc (by decide) (by decide) (by decide) (fun e => by cases e) (fun e => by cases e) (fun _ => rfl) (fun e => by cases e) (fun e => by cases e)⟩
    | 5, ho =>
      injection ho with ho; subst ho
      have d0 := hd 4 _ 36 rfl rfl ⟨⟨4, .data⟩, by simp, rfl, rfl⟩
      obtain ⟨s0, s1, s2, q, _⟩ := hT.t4 (hc.c54 d0.1)
      have e0 := (RY.ev_tmp a 36).trans (d0.2.1.trans ((hT.t5 d0.1).trans q))
      exact Or.inl ⟨.agg #[.int .i64 R.now, s0, s1, s2], W, by simp [execOp, go_sem, e0], rfl, trivial, hT.put 5 _ _ (Below.refl _ _) hi hc (by decide) (by decide) (by decide) (fun e => by cases e) (fun e => by cases e) (fun e => by cases e) (fun _ => ⟨s0, s1, s2, q, rfl⟩) (fun e => by cases e)⟩
    | 6, ho =>
      injection ho with ho; subst ho
      have d0 := hd 4 _ 36 rfl rfl ⟨⟨4, .data⟩, by simp, rfl, rfl⟩
      obtain ⟨s0, s1, s2, q, _⟩ := hT.t4 (hc.c54 d0.1)
      have e0 := (RY.ev_tmp a 36).trans (d0.2.1.trans ((hT.t5 d0.1).trans q))
      exact Or.inl ⟨.int .i64 C, W, by simp [execOp, go_sem, e0], rfl, rfl, hT.else 6 _ _ (Below.refl _ _) hi hc (by decide) (by decide) (by decide) (by decide) (by decide) (by decide) (by decide) (by decide)⟩
    | 7, ho =>
      injection ho with ho; subst ho
      exact Or.inl ⟨.pointer (some ⟨W.heap.size, 0, none⟩), W.alloc (.cells #[.int .i64 0, .slice none 0 0, .slice none 0 0, .slice none 0 0] 37), by simp [execOp, go_sem], rfl, trivial, hT.put 7 _ _ (blw_alloc (Below.refl _ _) _) hi hc (by decide) (by decide) (by decide) (fun e => by cases e) (fun e => by cases e) (fun e => by cases e) (fun e => by cases e) (fun _ => ⟨W.heap.size, rfl, hT.bel.size, OwnBlk.alloc W _ _ 4 rfl⟩)⟩
    | 8, ho =>
      injection ho with ho; subst ho
      have d0 := hd 7 _ 9 rfl rfl ⟨⟨7, .data⟩, by simp, rfl, rfl⟩
      have d1 := hd 5 _ 41 rfl rfl ⟨⟨5, .data⟩, by simp, rfl, rfl⟩
      obtain ⟨p, q8, hp, ho8⟩ := hT.t8 d0.1
      obtain ⟨s0, s1, s2, q4, q6⟩ := hT.t6 d1.1
      have hpe := d0.2.1.trans q8
      have hve := d1.2.1.trans q6
      obtain ⟨t0, t1, t2, q4', hbo, _⟩ := hT.t4 (hc.c64 d1.1)
      obtain ⟨rfl, rfl, rfl⟩ : s0 = t0 ∧ s1 = t1 ∧ s2 = t2 := by
        have := q4.symm.trans q4'
        simpa using this
      refine Or.inr (Or.inl ⟨W.setCells p 0 [.int .i64 R.now, s0, s1, s2], ?_, rfl, hT.st (hc.c64 d1.1) (by decide) q4 q8 hp ho8⟩)
      unfold execOp
      simp only [hpe, hve, Sem.run_bind, Sem.run_pure, Result.andThen_ok, store_bk ho8 hbo]
    | 9, ho =>
      injection ho with ho; subst ho
      have d0 := hd 6 _ 42 rfl rfl ⟨⟨6, .data⟩, by simp, rfl, rfl⟩
      have e0 : a.tmps[42]?.getD undef = _ := (RY.ev_tmp a 42).trans (d0.2.1.trans d0.2.2)
      exact Or.inl ⟨.int .i64 C, W, by simp [execOp, go_sem, e0], rfl, rfl, hT.else 9 _ _ (Below.refl _ _) hi hc (by decide) (by decide) (by decide) (by decide) (by decide) (by decide) (by decide) (by decide)⟩
    | m + 10, ho => simp at ho
  intro up vals vs wj hall hvs hT
  obtain ⟨mg, q8, hlp, hop⟩ := hT.t8 (hall 7 (by decide))
  obtain ⟨s0, s1, s2, q4, hbo, hbx⟩ := hT.t4 (hall 3 (by decide))
  have hbx := hbx (hall 8 (by decide)) mg q8
  have ev8 := ((hvs 7 _ 9 rfl rfl).1).trans q8
  have ev10 : vs 10 = .int .i64 C := ((hvs 9 _ 10 rfl rfl).1).trans (hvs 9 _ 10 rfl rfl).2
  obtain ⟨g0, g1, g2, f0, f1, f2, rfl, rfl, rfl, hv⟩ := hbo.v
  simp only [RY.putAll, Act.put, List.setIfInBounds_toArray, List.set_cons_zero, List.set_cons_succ]
  rw [ev8, ev10]
  generalize vs 37 = s37
  generalize vs 38 = s38
  generalize vs 39 = s39
  generalize vs 40 = s40
  generalize vs 36 = s36
  generalize vs 41 = s41
  generalize vs 42 = s42
  have hbf := hT.bel
  have HGj := hid hbx
  have HNj := hid hop
  have HOj := hid hbo
  have HZj := hid (HZf.out.later hbf)
  have HIj := hid (HIf.out.later hbf)
  have HDj := hid (blw_trans HDf.out hbf)
  have HQj := hid hv
  have hgm : wf.heap.size ≤ mg := hlp
  clear hvs hT hall q8 q4 hbo hbx ev8 ev10 hlp hop hv hbf HZf HIf HDf
  obtain ⟨xz, x0, x1, x2, x3⟩ := HGj.out
  obtain ⟨yz, y0, y1, y2, y3⟩ := HPd.out.later HDj.out
  go_wp2_with fail
  refine (eqSBV R g0 g1 g2 a0 a1 a2 f0 f1 f2 c0 c1 c2 wj HQj.out (HVd.out.later HDj.out)).mono ?_
  rintro e wk ⟨rfl, hb⟩
  clear xz x0 x1 x2 x3 yz y0 y1 y2 y3
  have HGk := hid (HGj.out.later hb)
  have HNk := hid (HNj.out.later hb)
  have HOk := hid (HOj.out.later hb)
  have HQk := hid (HQj.out.later hb)
  have HZk := hid (HZj.out.later hb)
  have HIk := hid (HIj.out.later hb)
  have HDk := hid (blw_trans HDj.out hb)
  clear hb HGj HNj HOj HQj HZj HIj HDj
  go_upto_region 13 with fail
  refine RY.region_past wk (Below.refl _ _) (VQ14 K (.agg #[.int .i64 K.now, v0, v1, v2]) (.agg #[.int .i64 K.now, .slice (some ⟨p0, 0, none⟩) K.svcs.length K.svcs.length, .slice (some ⟨p1, 0, none⟩) K.cps.length K.cps.length, .slice (some ⟨p2, 0, none⟩) K.bts.length K.bts.length])) (VQ14_mono K (.agg #[.int .i64 K.now, v0, v1, v2]) (.agg #[.int .i64 K.now, .slice (some ⟨p0, 0, none⟩) K.svcs.length K.svcs.length, .slice (some ⟨p1, 0, none⟩) K.cps.length K.cps.length, .slice (some ⟨p2, 0, none⟩) K.bts.length K.bts.length])) (by kernel_rfl) (by kernel_rfl) (by kernel_rfl) (by kernel_rfl) ?_ ?_
  · intro i o ho a W hW hk hd
    have hD := blw_trans HDk.out hW
    have hB : Below w.heap.size w W := blw_trans HBd.out hD
    obtain ⟨xz, x0, x1, x2, x3⟩ := HZk.out.later hW
    have hX := HXd.out.later hD
    match i, ho with
    | 0, ho =>
      injection ho with ho; subst ho
      have e0 : a.eval (.tmp 8) = .pointer (some ⟨mb, 0, none⟩) := (hk 8 (by kernel_rfl)).trans rfl
      exact Or.inl ⟨_, W, by simp [execOp, go_sem, (RY.ev_tmp a 8).trans e0, x0, x1, x2, x3], Below.refl _ _, rfl⟩
    | 1, ho =>
      injection ho with ho; subst ho
      have e0 : a.eval (.tmp 2) = .pointer (some ⟨w.heap.size, 0, none⟩) := (hk 2 (by kernel_rfl)).trans rfl
      exact Or.inl ⟨_, W, exec_load_mid 26 (.tmp 2) rfl w.heap.size 0 e0 [.int .i64 K.now, v0, v1, v2] _ hX.at_ Tryz.underlying26 rfl (by kernel_rfl), Below.refl _ _, rfl⟩
    | 2, ho =>
      injection ho with ho; subst ho
      have e0 : a.tmps[53]?.getD undef = _ := (RY.ev_tmp a 53).trans (hd 1 _ 53 rfl rfl ⟨⟨1, .data⟩, by simp, rfl, rfl⟩)
      refine Or.inr ⟨7, #[.agg #[.int .i64 K.now, v0, v1, v2]], by simp [go_sem, e0], (toSB K v0 v1 v2 W HS.out (HH.out.later hB)).mono ?_⟩
      rintro e W' ⟨⟨b0, b1, b2, rfl, hi, _⟩, hb⟩
      exact ⟨_, rfl, hb, b0, b1, b2, rfl, hi⟩
    | 3, ho =>
      injection ho with ho; subst ho
      have e0 : a.tmps[52]?.getD undef = _ := (RY.ev_tmp a 52).trans (hd 0 _ 52 rfl rfl ⟨⟨0, .data⟩, by simp, rfl, rfl⟩)
      obtain ⟨b0, b1, b2, e1, hi⟩ := hd 2 _ 54 rfl rfl ⟨⟨2, .data⟩, by simp, rfl, rfl⟩
      have e1 := (RY.ev_tmp a 54).trans e1
      refine Or.inr ⟨10, #[.agg #[.int .i64 K.now, .slice (some ⟨p0, 0, none⟩) K.svcs.length K.svcs.length, .slice (some ⟨p1, 0, none⟩) K.cps.length K.cps.length, .slice (some ⟨p2, 0, none⟩) K.bts.length K.bts.length], .agg #[.int .i64 K.now, .slice (some ⟨b0, 0, none⟩) K.svcs.length K.svcs.length, .slice (some ⟨b1, 0, none⟩) K.cps.length K.cps.length, .slice (some ⟨b2, 0, none⟩) K.bts.length K.bts.length]], by simp [go_sem, e0, e1], (eqSBV K _ _ _ _ _ _ _ _ _ _ _ _ W (HIk.out.later hW).v hi.v).mono ?_⟩
      rintro e W' ⟨rfl, hb⟩
      exact ⟨_, rfl, hb, rfl⟩
    | 4, ho =>
      injection ho with ho; subst ho
      have e0 : a.tmps[55]?.getD undef = _ := (RY.ev_tmp a 55).trans (hd 3 _ 55 rfl rfl ⟨⟨3, .data⟩, by simp, rfl, rfl⟩)
      exact Or.inl ⟨.bool false, W, by simp [execOp, go_sem, e0], Below.refl _ _, rfl⟩
    | n + 5, ho => simp at ho
  intro wl vs hb hvs
  have el : vs 56 = .bool false := hvs 4 _ 56 rfl rfl
  simp only [RY.putAll, Act.put, List.setIfInBounds_toArray, List.set_cons_zero, List.set_cons_succ]
  rw [el]
  generalize vs 52 = s52
  generalize vs 53 = s53
  generalize vs 54 = s54
  generalize vs 55 = s55
  clear hvs el
  have HGl := hid (HGk.out.later hb)
  have HNl := hid (HNk.out.later hb)
  have HOl := hid (HOk.out.later hb)
  have HQl := hid (HQk.out.later hb)
  have HZl := hid (HZk.out.later hb)
  have HIl := hid (HIk.out.later hb)
  have HDl := hid (blw_trans HDk.out hb)
  clear hb HGk HNk HOk HQk HZk HIk HDk
  have hsm := HS.out
  have hHD := HDl.out.size
  obtain ⟨xz, x0, x1, x2, x3⟩ := HZl.out
  go_wp2_with fail
  refine (markSB (fun b => b = p0 ∨ b = p1 ∨ b = p2) K.now _ _ _ K.svcs.length K.cps.length K.bts.length 1 wl (HIl.out.sk _ (Or.inl rfl) (Or.inr (Or.inl rfl)) (Or.inr (Or.inr rfl))) ?_ (by omega) (by omega) hsm.1 hsm.2.1 hsm.2.2).mono ?_
  · intro b hb
    rcases hb with rfl | rfl | rfl <;> omega
  rintro e wn ⟨rfl, hmk, _⟩
  have hns : ∀ b, mb ≤ b → ¬ (b = p0 ∨ b = p1 ∨ b = p2) := by
    intro b hb hc
    rcases hc with rfl | rfl | rfl <;> omega
  have HDn : Hid (Below wd.heap.size wd wn) := hmk.below (fun b hb => by rcases hb with rfl | rfl | rfl <;> omega) HDl.out
  have HGn := hid (HGl.out.marks hmk (hns _ (by omega)))
  have HNn := hid (hmk.own _ _ _ HNl.out)
  have HOn := hid (HOl.out.marks hmk (fun b hb => hns b (by omega)))
  obtain ⟨kk, hkk⟩ : ∃ kk : Nat, kk = 1 + K.svcs.length * 13 + K.cps.length * 7 + K.bts.length * 2 := ⟨_, rfl⟩
  rw [← hkk]
  clear hkk hmk hns hsm hHD xz x0 x1 x2 x3 HDl HGl HNl HOl HQl HZl HIl
  have HDo := HDn
  have HGo := HGn
  have HNo := HNn
  have HOo := HOn
  clear HDn HGn HNn HOn
  have hk0 : ¬ ((kk : Int) < 0) := by omega
  obtain ⟨xz, x0, x1, x2, x3⟩ := HGo.out
  obtain ⟨yz, y0, y1, y2, y3⟩ := HPd.out.later HDo.out
  go_wp2_with fail
  refine (eqSBV R g0 g1 g2 a0 a1 a2 f0 f1 f2 c0 c1 c2 wn HOo.out.v' (HVd.out.later HDo.out)).mono ?_
  rintro e wp ⟨rfl, hb⟩
  clear xz x0 x1 x2 x3 yz y0 y1 y2 y3
  have HDp := hid (blw_trans HDo.out hb)
  have HGp := hid (HGo.out.later hb)
  have HNp := hid (HNo.out.later hb)
  have HOp := hid (HOo.out.later hb)
  clear hb HDo HGo HNo HOo
  have hsm := HOp.out.sm
  obtain ⟨xz, x0, x1, x2, x3⟩ := HGp.out
  go_wp2_with fail
  refine (markSB (fun b => wf.heap.size ≤ b ∧ b ≠ mg ∧ b < wp.heap.size) R.now _ _ _ R.svcs.length R.cps.length R.bts.length 1 wp (HOp.out.sk HNp.out) (fun b hb => hb.2.2) (by omega) (by omega) hsm.1 hsm.2.1 hsm.2.2).mono ?_
  rintro e wq ⟨rfl, hmk, hhd⟩
  have HDq : Hid (Below wd.heap.size wd wq) := hmk.below (fun b hb => by have := hb.1; omega) HDp.out
  have HGq := hid (HGp.out.marks hmk (fun h => h.2.1 rfl))
  have HHq := hid hhd
  have HSR := hid hsm
  obtain ⟨k3, hk3⟩ : ∃ k3 : Nat, k3 = 1 + R.svcs.length * 13 + R.cps.length * 7 + R.bts.length * 2 := ⟨_, rfl⟩
  have HK3 := hid hk3
  rw [← hk3]
  clear hk3 hmk hhd hsm xz x0 x1 x2 x3 HDp HGp HNp HOp hk0
  have hk0 : ¬ ((k3 : Int) < 0) := by omega
  obtain ⟨xz, x0, x1, x2, x3⟩ := HGq.out
  go_wp2_with fail
  refine (heldSB R.now _ _ _ R.svcs.length R.cps.length R.bts.length 1 wq HHq.out (by omega) (by omega) HSR.out.1 HSR.out.2.1 HSR.out.2.2).mono ?_
  rintro e wr ⟨rfl, hb⟩
  rw [← HK3.out]
  clear xz x0 x1 x2 x3
  have HDr := hid (blw_trans HDq.out hb)
  have HGr := hid (HGq.out.later hb)
  have HHr := hid (HHq.out.later hb)
  clear hb HDq HGq HHq
  have HBr := hid (blw_trans HBd.out HDr.out)
  have HXr := hid (HXd.out.later HDr.out)
  have HYr := hid (HYd.out.later HDr.out)
  go_upto_region 27 with fail
  refine RY.region_TC (VS8 (.agg #[.int .i64 K.now, v0, v1, v2]) G C) (LS wr K R C 1 4 5 6 8 9) (by kernel_rfl) (by kernel_rfl) (by kernel_rfl) (by kernel_rfl) ?_ ?_ ?_
  · intro vals
    exact LS.start _ _ (Below.refl _ _).drew K R C 1 4 5 6 8 9 vals
  · intro up vals i o ho hi hcl a W hk hd hT
    have hc : LC 4 5 6 8 9 up := ⟨hcl 5 _ ⟨4, .data⟩ rfl (by simp) rfl, fun h => hcl 5 _ ⟨4, .data⟩ rfl (by simp) rfl (hcl 6 _ ⟨5, .data⟩ rfl (by simp) rfl h), hcl 9 _ ⟨8, .data⟩ rfl (by simp) rfl, fun h => hcl 5 _ ⟨4, .data⟩ rfl (by simp) rfl (hcl 6 _ ⟨5, .data⟩ rfl (by simp) rfl (hcl 9 _ ⟨6, .data⟩ rfl (by simp) rfl h))⟩
    have hB := blw_trans HBr.out hT.bel
    have hX := HXr.out.later hT.bel
    have hY := HYr.out.later hT.bel
    match i, ho with
    | 0, ho =>
      injection ho with ho; subst ho
      exact Or.inl ⟨_, W, exec_load_mid 26 (.tmp 2) rfl w.heap.size 0 ((hk 2 (by kernel_rfl)).trans rfl) [.int .i64 K.now, v0, v1, v2] _ hX.at_ Tryz.underlying26 rfl (by kernel_rfl), rfl, rfl, hT.else 0 _ _ (Below.refl _ _) hi hc (by decide) (by decide) (by decide) (by decide) (by decide) (by decide) (by decide) (by decide)⟩
    | 1, ho =>
      injection ho with ho; subst ho
      have d0 := hd 0 _ 85 rfl rfl ⟨⟨0, .data⟩, by simp, rfl, rfl⟩
      have e0 : a.tmps[85]?.getD undef = _ := (RY.ev_tmp a 85).trans (d0.2.1.trans d0.2.2)
      refine Or.inr (Or.inr ⟨7, #[.agg #[.int .i64 K.now, v0, v1, v2]], by simp [go_sem, e0], rfl, (toSB K v0 v1 v2 W HS.out (HH.out.later hB)).mono ?_⟩)
      rintro e W' ⟨⟨b0, b1, b2, rfl, hi', _⟩, hb⟩
      exact ⟨_, rfl, trivial, hT.put 1 _ _ hb hi hc (by decide) (by decide) (by decide) (fun _ => ⟨b0, b1, b2, rfl, hi'⟩) (fun e => by cases e) (fun e => by cases e) (fun e => by cases e) (fun e => by cases e)⟩
    | 2, ho =>
      injection ho with ho; subst ho
      exact Or.inl ⟨_, W, exec_load_mid 30 (.tmp 3) rfl (w.heap.size + 1) 0 ((hk 3 (by kernel_rfl)).trans rfl) cs _ hY.at_ Tryz.underlying30 rfl HIN.out, rfl, HGV.out, hT.else 2 _ _ (Below.refl _ _) hi hc (by decide) (by decide) (by decide) (by decide) (by decide) (by decide) (by decide) (by decide)⟩
    | 3, ho =>
      injection ho with ho; subst ho
      have d0 := hd 2 _ 87 rfl rfl ⟨⟨2, .data⟩, by simp, rfl, rfl⟩
      have e0 : a.tmps[87]?.getD undef = _ := (RY.ev_tmp a 87).trans (d0.2.1.trans d0.2.2)
      refine Or.inr (Or.inr ⟨8, #[G], by simp [go_sem, e0], rfl, (HTE.out W).mono ?_⟩)
      rintro e W' ⟨rfl, hb⟩
      exact ⟨_, rfl, rfl, hT.else 3 _ _ hb hi hc (by decide) (by decide) (by decide) (by decide) (by decide) (by decide) (by decide) (by decide)⟩
    | 4, ho =>
      injection ho with ho; subst ho
      have d0 := hd 1 _ 86 rfl rfl ⟨⟨1, .data⟩, by simp, rfl, rfl⟩
      have d1 := hd 3 _ 88 rfl rfl ⟨⟨3, .data⟩, by simp, rfl, rfl⟩
      obtain ⟨b0, b1, b2, q0, hk0⟩ := hT.t1 d0.1 hi
      have e0 := (RY.ev_tmp a 86).trans (d0.2.1.trans q0)
      have e1 : a.tmps[88]?.getD undef = _ := (RY.ev_tmp a 88).trans (d1.2.1.trans d1.2.2)
      refine Or.inr (Or.inr ⟨9, #[.agg #[.int .i64 K.now, .slice (some ⟨b0, 0, none⟩) K.svcs.length K.svcs.length, .slice (some ⟨b1, 0, none⟩) K.cps.length K.cps.length, .slice (some ⟨b2, 0, none⟩) K.bts.length K.bts.length], G], by simp [go_sem, e0, e1], rfl, (HIF.out W hB b0 b1 b2 hk0).mono ?_⟩)
      rintro e W' ⟨⟨s0, s1, s2, rfl, ho'⟩, hb⟩
      exact ⟨_, rfl, trivial, hT.put 4 _ _ hb hi hc (by decide) (by decide) (by decide) (fun e => by cases e) (fun _ => ⟨s0, s1, s2, rfl, ho'.lo hT.bel.size⟩) (fun e => by cases e) (fun e => by cases e) (fun e => by cases e)⟩
    | 5, ho =>
      injection ho with ho; subst ho
      have d0 := hd 4 _ 89 rfl rfl ⟨⟨4, .data⟩, by simp, rfl, rfl⟩
      have e0 := (RY.ev_tmp a 89).trans d0.2.1
      exact Or.inl ⟨vals 4, W, by simp [execOp, go_sem, e0], rfl, trivial, hT.put 5 _ _ (Below.refl _ _) hi hc (by decide) (by decide) (by decide) (fun e => by cases e) (fun e => by cases e) (fun _ => rfl) (fun e => by cases e) (fun e => by cases e)⟩
    | 6, ho =>
      injection ho with ho; subst ho
      have d0 := hd 5 _ 84 rfl rfl ⟨⟨5, .data⟩, by simp, rfl, rfl⟩
      obtain ⟨s0, s1, s2, q, _⟩ := hT.t4 (hc.c54 d0.1)
      have e0 := (RY.ev_tmp a 84).trans (d0.2.1.trans ((hT.t5 d0.1).trans q))
      exact Or.inl ⟨.agg #[.int .i64 R.now, s0, s1, s2], W, by simp [execOp, go_sem, e0], rfl, trivial, hT.put 6 _ _ (Below.refl _ _) hi hc (by decide) (by decide) (by decide) (fun e => by cases e) (fun e => by cases e) (fun e => by cases e) (fun _ => ⟨s0, s1, s2, q, rfl⟩) (fun e => by cases e)⟩
    | 7, ho =>
      injection ho with ho; subst ho
      have d0 := hd 5 _ 84 rfl rfl ⟨⟨5, .data⟩, by simp, rfl, rfl⟩
      obtain ⟨s0, s1, s2, q, _⟩ := hT.t4 (hc.c54 d0.1)
      have e0 := (RY.ev_tmp a 84).trans (d0.2.1.trans ((hT.t5 d0.1).trans q))
      exact Or.inl ⟨.int .i64 C, W, by simp [execOp, go_sem, e0], rfl, rfl, hT.else 7 _ _ (Below.refl _ _) hi hc (by decide) (by decide) (by decide) (by decide) (by decide) (by decide) (by decide) (by decide)⟩
    | 8, ho =>
      injection ho with ho; subst ho
      exact Or.inl ⟨.pointer (some ⟨W.heap.size, 0, none⟩), W.alloc (.cells #[.int .i64 0, .slice none 0 0, .slice none 0 0, .slice none 0 0] 37), by simp [execOp, go_sem], rfl, trivial, hT.put 8 _ _ (blw_alloc (Below.refl _ _) _) hi hc (by decide) (by decide) (by decide) (fun e => by cases e) (fun e => by cases e) (fun e => by cases e) (fun e => by cases e) (fun _ => ⟨W.heap.size, rfl, hT.bel.size, OwnBlk.alloc W _ _ 4 rfl⟩)⟩
    | 9, ho =>
      injection ho with ho; subst ho
      have d0 := hd 8 _ 14 rfl rfl ⟨⟨8, .data⟩, by simp, rfl, rfl⟩
      have d1 := hd 6 _ 90 rfl rfl ⟨⟨6, .data⟩, by simp, rfl, rfl⟩
      obtain ⟨p, q8, hp, ho8⟩ := hT.t8 d0.1
      obtain ⟨s0, s1, s2, q4, q6⟩ := hT.t6 d1.1
      have hpe := d0.2.1.trans q8
      have hve := d1.2.1.trans q6
      obtain ⟨t0, t1, t2, q4', hbo, _⟩ := hT.t4 (hc.c64 d1.1)
      obtain ⟨rfl, rfl, rfl⟩ : s0 = t0 ∧ s1 = t1 ∧ s2 = t2 := by
        have := q4.symm.trans q4'
        simpa using this
      refine Or.inr (Or.inl ⟨W.setCells p 0 [.int .i64 R.now, s0, s1, s2], ?_, rfl, hT.st (hc.c64 d1.1) (by decide) q4 q8 hp ho8⟩)
      unfold execOp
      simp only [hpe, hve, Sem.run_bind, Sem.run_pure, Result.andThen_ok, store_bk ho8 hbo]
    | 10, ho =>
      injection ho with ho; subst ho
      have d0 := hd 7 _ 91 rfl rfl ⟨⟨7, .data⟩, by simp, rfl, rfl⟩
      have e0 : a.tmps[91]?.getD undef = _ := (RY.ev_tmp a 91).trans (d0.2.1.trans d0.2.2)
      exact Or.inl ⟨.int .i64 C, W, by simp [execOp, go_sem, e0], rfl, rfl, hT.else 10 _ _ (Below.refl _ _) hi hc (by decide) (by decide) (by decide) (by decide) (by decide) (by decide) (by decide) (by decide)⟩
    | m + 11, ho => simp at ho
  intro up vals vs ws hall hvs hT
  obtain ⟨ph, q8, hlp, hop⟩ := hT.t8 (hall 8 (by decide))
  obtain ⟨s0, s1, s2, q4, hbo, hbx⟩ := hT.t4 (hall 4 (by decide))
  have hbx := hbx (hall 9 (by decide)) ph q8
  have ev8 := ((hvs 8 _ 14 rfl rfl).1).trans q8
  have ev10 : vs 15 = .int .i64 C := ((hvs 10 _ 15 rfl rfl).1).trans (hvs 10 _ 15 rfl rfl).2
  obtain ⟨b0, b1, b2, e0, e1, e2, rfl, rfl, rfl, hv⟩ := hbo.v
  simp only [RY.putAll, Act.put, List.setIfInBounds_toArray, List.set_cons_zero, List.set_cons_succ]
  rw [ev8, ev10]
  generalize vs 85 = s85
  generalize vs 86 = s86
  generalize vs 87 = s87
  generalize vs 88 = s88
  generalize vs 89 = s89
  generalize vs 84 = s84
  generalize vs 90 = s90
  generalize vs 91 = s91
  have hb := hT.bel
  have HPs := hid hbx
  have HVs := hid hv
  clear hvs hT hall q8 q4 hbo hbx ev8 ev10 hlp hop hv HBr HXr HYr
  have HDs := hid (blw_trans HDr.out hb)
  have HGs := hid (HGr.out.later hb)
  have HHs := hid (HHr.out.later hb)
  clear hb HDr HGr HHr
  obtain ⟨xz, x0, x1, x2, x3⟩ := HPs.out
  obtain ⟨yz, y0, y1, y2, y3⟩ := HPd.out.later HDs.out
  go_wp2_with fail
  refine (eqSBV R b0 b1 b2 a0 a1 a2 e0 e1 e2 c0 c1 c2 ws HVs.out (HVd.out.later HDs.out)).mono ?_
  rintro e wt ⟨rfl, hb⟩
  clear xz x0 x1 x2 x3 yz y0 y1 y2 y3
  have HDt := hid (blw_trans HDs.out hb)
  have HGt := hid (HGs.out.later hb)
  have HHt := hid (HHs.out.later hb)
  clear hb HDs HGs HHs
  obtain ⟨xz, x0, x1, x2, x3⟩ := HGt.out
  go_wp2_with fail
  refine (heldSB R.now _ _ _ R.svcs.length R.cps.length R.bts.length 1 wt HHt.out (by omega) (by omega) HSR.out.1 HSR.out.2.1 HSR.out.2.2).mono ?_
  rintro e wu ⟨rfl, hb⟩
  rw [← HK3.out]
  have HBu := hid (blw_trans HBd.out (blw_trans HDt.out hb))
  clear hb xz x0 x1 x2 x3
  go_wp2
  go_ret
  exact ⟨rfl, HBu.out⟩

end Go.Proofs.YtclagbakddkjcaaGreat
