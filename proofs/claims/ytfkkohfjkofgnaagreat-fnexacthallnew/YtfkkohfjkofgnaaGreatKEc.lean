/-
  Recorders that are alike.
-/
import Derived.Test.YtfkkohfjkofgnaaGreatKEb
namespace Go.Proofs.YtfkkohfjkofgnaaGreat
open Go.RowKit Go.Deep

set_option maxRecDepth 8000 in
set_option maxHeartbeats 8000000 in
theorem eqRecDisk (ds : List Dt) (cs cs' : List Value) (w : World) (h : Raw w shRecDisk ds cs) (h' : Raw w shRecDisk ds cs') :
    Calls Tryz.prog 96 #[.agg cs.toArray, .agg cs'.toArray] w fun e w' => e = .returned (.bool true) ∧ Below w.heap.size w w' := by
  obtain ⟨a0, a1, n2, e2, rfl, t2⟩ := segTypRecDisk h.typ
  obtain ⟨cp0, hcp0⟩ : ∃ x, x = cs := ⟨_, rfl⟩
  obtain ⟨xp0, hxp0, hp1⟩ := h.c_i
  obtain ⟨xp1, hxp1, hp2⟩ := hp1.c_i
  obtain ⟨vp2, xp2, hxp2, rp2, hp3⟩ := hp2.c_r
  have hxpn := hp3.c_n
  have Hp : Hid (cs = .int .i64 a0 :: .int .i64 a1 :: vp2 :: []) := by show _ = _; rw [hxp0, hxp1, hxp2, hxpn]
  clear hxp0 hxp1 hxp2 hxpn
  obtain ⟨cq0, hcq0⟩ : ∃ x, x = cs' := ⟨_, rfl⟩
  obtain ⟨xq0, hxq0, hq1⟩ := h'.c_i
  obtain ⟨xq1, hxq1, hq2⟩ := hq1.c_i
  obtain ⟨vq2, xq2, hxq2, rq2, hq3⟩ := hq2.c_r
  have hxqn := hq3.c_n
  have Hq : Hid (cs' = .int .i64 a0 :: .int .i64 a1 :: vq2 :: []) := by show _ = _; rw [hxq0, hxq1, hxq2, hxqn]
  clear hxq0 hxq1 hxq2 hxqn
  obtain ⟨wa, hwa⟩ : ∃ wa, wa = (w.alloc (.cells cs.toArray 80)).alloc (.cells cs'.toArray 80) := ⟨_, rfl⟩
  have HB : Hid (Below w.heap.size w wa) := by show Below _ _ _; rw [hwa]; exact blw_alloc (blw_alloc (Below.refl _ _) _) _
  have HX : Hid (LBox wa w.heap.size cs) := by show LBox _ _ _; rw [hwa]; exact (LBox.new w cs.toArray _ _ rfl).past _
  have HY : Hid (LBox wa (w.heap.size + 1) cs') := by show LBox _ _ _; rw [hwa]; exact LBox.new _ cs'.toArray _ _ (by simp)
  have Rp2 := uh (rp2.later HB.out)
  have Rq2 := uh (rq2.later HB.out)
  clear h h' rp2 rq2 hp1 hq1 hp2 hq2 hp3 hq3 hcp0 hcq0 cp0 cq0
  go_enter Tryz.func96, Tryz.ntmps96
  go_upto_region 1 with fail
  rw [← hwa]
  clear hwa
  have yz := HX.out.lt
  have xz := HY.out.lt
  have bp := boxRecDisk  (by have := HX.out.at_; rw [Hp.out] at this; exact this)
  have bq := boxRecDisk  (by have := HY.out.at_; rw [Hq.out] at this; exact this)
  obtain ⟨gp0, gp1, gp2⟩ := bp
  obtain ⟨gq0, gq1, gq2⟩ := bq
  obtain ⟨vap2, vcp2, hva⟩ := Rp2.out.len0
  subst hva
  obtain ⟨vaq2, vcq2, hva⟩ := Rq2.out.len0
  subst hva
  go_wp2_with fail
  refine (eqRecSlotS n2 e2 _ _ wa Rp2.out Rq2.out).mono ?_
  rintro e x2 ⟨rfl, hb2⟩
  replace HB := uh (blw_trans HB.out hb2)
  replace HX := uh (HX.out.later hb2)
  replace HY := uh (HY.out.later hb2)
  clear hb2 yz xz gp0 gq0 gp1 gq1 gp2 gq2
  have yz := HX.out.lt
  have xz := HY.out.lt
  have bp := boxRecDisk  (by have := HX.out.at_; rw [Hp.out] at this; exact this)
  have bq := boxRecDisk  (by have := HY.out.at_; rw [Hq.out] at this; exact this)
  obtain ⟨gp0, gp1, gp2⟩ := bp
  obtain ⟨gq0, gq1, gq2⟩ := bq
  go_wp2
  go_ret
  exact ⟨rfl, HB.out⟩
set_option maxRecDepth 8000 in
set_option maxHeartbeats 8000000 in
theorem eqRecorder (ds : List Dt) (cs cs' : List Value) (w : World) (h : Raw w shRecorder ds cs) (h' : Raw w shRecorder ds cs') :
    Calls Tryz.prog 79 #[.agg cs.toArray, .agg cs'.toArray] w fun e w' => e = .returned (.bool true) ∧ Below w.heap.size w w' := by
  obtain ⟨a0, a1, a2, d3, d4, n5, e5, n6, e6, a7, a8, a9, n10, e10, n11, e11, n12, e12, a13, rfl, t3, t4, t5, t6, t10, t11, t12⟩ := segTypRecorder h.typ
  obtain ⟨cp0, hcp0⟩ : ∃ x, x = cs := ⟨_, rfl⟩
  obtain ⟨xp0, hxp0, hp1⟩ := h.c_i
  obtain ⟨xp1, hxp1, hp2⟩ := hp1.c_i
  obtain ⟨xp2, hxp2, hp3⟩ := hp2.c_b
  obtain ⟨cp3, xp3, hxp3, rp3, hp4⟩ := Raw.cut2 hp3 t3
  obtain ⟨cp4, xp4, hxp4, rp4, hp5⟩ := Raw.cut2 hp4 t4
  obtain ⟨vp5, xp5, hxp5, rp5, hp6⟩ := hp5.c_r
  obtain ⟨vp6, xp6, hxp6, rp6, hp7⟩ := hp6.c_r
  obtain ⟨xp7, hxp7, hp8⟩ := hp7.c_b
  obtain ⟨xp8, hxp8, hp9⟩ := hp8.c_b
  obtain ⟨xp9, hxp9, hp10⟩ := hp9.c_i
  obtain ⟨vp10, xp10, hxp10, rp10, hp11⟩ := hp10.c_r
  obtain ⟨vp11, xp11, hxp11, rp11, hp12⟩ := hp11.c_r
  obtain ⟨vp12, xp12, hxp12, rp12, hp13⟩ := hp12.c_r
  obtain ⟨xp13, hxp13, hp14⟩ := hp13.c_i
  have hxpn := hp14.c_n
  have Hp : Hid (cs = .int .i64 a0 :: .int .i64 a1 :: .bool a2 :: (cp3 ++ ((cp4 ++ (vp5 :: vp6 :: .bool a7 :: .bool a8 :: .int .i64 a9 :: vp10 :: vp11 :: vp12 :: .int .i64 a13 :: []))))) := by show _ = _; rw [hxp0, hxp1, hxp2, hxp3, hxp4, hxp5, hxp6, hxp7, hxp8, hxp9, hxp10, hxp11, hxp12, hxp13, hxpn]
  clear hxp0 hxp1 hxp2 hxp3 hxp4 hxp5 hxp6 hxp7 hxp8 hxp9 hxp10 hxp11 hxp12 hxp13 hxpn
  have Lp3 : Hid (cp3.length = 3) := rp3.len
  have Lp4 : Hid (cp4.length = 3) := rp4.len
  obtain ⟨cq0, hcq0⟩ : ∃ x, x = cs' := ⟨_, rfl⟩
  obtain ⟨xq0, hxq0, hq1⟩ := h'.c_i
  obtain ⟨xq1, hxq1, hq2⟩ := hq1.c_i
  obtain ⟨xq2, hxq2, hq3⟩ := hq2.c_b
  obtain ⟨cq3, xq3, hxq3, rq3, hq4⟩ := Raw.cut2 hq3 t3
  obtain ⟨cq4, xq4, hxq4, rq4, hq5⟩ := Raw.cut2 hq4 t4
  obtain ⟨vq5, xq5, hxq5, rq5, hq6⟩ := hq5.c_r
  obtain ⟨vq6, xq6, hxq6, rq6, hq7⟩ := hq6.c_r
  obtain ⟨xq7, hxq7, hq8⟩ := hq7.c_b
  obtain ⟨xq8, hxq8, hq9⟩ := hq8.c_b
  obtain ⟨xq9, hxq9, hq10⟩ := hq9.c_i
  obtain ⟨vq10, xq10, hxq10, rq10, hq11⟩ := hq10.c_r
  obtain ⟨vq11, xq11, hxq11, rq11, hq12⟩ := hq11.c_r
  obtain ⟨vq12, xq12, hxq12, rq12, hq13⟩ := hq12.c_r
  obtain ⟨xq13, hxq13, hq14⟩ := hq13.c_i
  have hxqn := hq14.c_n
  have Hq : Hid (cs' = .int .i64 a0 :: .int .i64 a1 :: .bool a2 :: (cq3 ++ ((cq4 ++ (vq5 :: vq6 :: .bool a7 :: .bool a8 :: .int .i64 a9 :: vq10 :: vq11 :: vq12 :: .int .i64 a13 :: []))))) := by show _ = _; rw [hxq0, hxq1, hxq2, hxq3, hxq4, hxq5, hxq6, hxq7, hxq8, hxq9, hxq10, hxq11, hxq12, hxq13, hxqn]
  clear hxq0 hxq1 hxq2 hxq3 hxq4 hxq5 hxq6 hxq7 hxq8 hxq9 hxq10 hxq11 hxq12 hxq13 hxqn
  have Lq3 : Hid (cq3.length = 3) := rq3.len
  have Lq4 : Hid (cq4.length = 3) := rq4.len
  obtain ⟨wa, hwa⟩ : ∃ wa, wa = (w.alloc (.cells cs.toArray 84)).alloc (.cells cs'.toArray 84) := ⟨_, rfl⟩
  have HB : Hid (Below w.heap.size w wa) := by show Below _ _ _; rw [hwa]; exact blw_alloc (blw_alloc (Below.refl _ _) _) _
  have HX : Hid (LBox wa w.heap.size cs) := by show LBox _ _ _; rw [hwa]; exact (LBox.new w cs.toArray _ _ rfl).past _
  have HY : Hid (LBox wa (w.heap.size + 1) cs') := by show LBox _ _ _; rw [hwa]; exact LBox.new _ cs'.toArray _ _ (by simp)
  have Rp3 := uh (rp3.later HB.out)
  have Rq3 := uh (rq3.later HB.out)
  have Rp4 := uh (rp4.later HB.out)
  have Rq4 := uh (rq4.later HB.out)
  have Rp5 := uh (rp5.later HB.out)
  have Rq5 := uh (rq5.later HB.out)
  have Rp6 := uh (rp6.later HB.out)
  have Rq6 := uh (rq6.later HB.out)
  have Rp10 := uh (rp10.later HB.out)
  have Rq10 := uh (rq10.later HB.out)
  have Rp11 := uh (rp11.later HB.out)
  have Rq11 := uh (rq11.later HB.out)
  have Rp12 := uh (rp12.later HB.out)
  have Rq12 := uh (rq12.later HB.out)
  clear h h' rp3 rq3 rp4 rq4 rp5 rq5 rp6 rq6 rp10 rq10 rp11 rq11 rp12 rq12 hp1 hq1 hp2 hq2 hp3 hq3 hp4 hq4 hp5 hq5 hp6 hq6 hp7 hq7 hp8 hq8 hp9 hq9 hp10 hq10 hp11 hq11 hp12 hq12 hp13 hq13 hp14 hq14 hcp0 hcq0 cp0 cq0
  go_enter Tryz.func79, Tryz.ntmps79
  go_upto_region 1 with fail
  rw [← hwa]
  clear hwa
  have yz := HX.out.lt
  have xz := HY.out.lt
  have bp := boxRecorder Lp3.out Lp4.out (by have := HX.out.at_; rw [Hp.out] at this; exact this)
  have bq := boxRecorder Lq3.out Lq4.out (by have := HY.out.at_; rw [Hq.out] at this; exact this)
  obtain ⟨gp0, gp1, gp2, gp3, gp4, gp5, gp6, gp7, gp8, gp9, gp10, gp11, gp12, gp13⟩ := bp
  obtain ⟨gq0, gq1, gq2, gq3, gq4, gq5, gq6, gq7, gq8, gq9, gq10, gq11, gq12, gq13⟩ := bq
  have hub2 : (a2 != a2) = false := by cases a2 <;> rfl
  have hub7 : (a7 != a7) = false := by cases a7 <;> rfl
  have hub8 : (a8 != a8) = false := by cases a8 <;> rfl
  go_wp2_with (first | refine wpList_load_mid rfl 80 _ rfl w.heap.size 3 rfl cp3 _ gp3 Tryz.underlying80 rfl (by rw [Lp3.out]; kernel_rfl) ?_ | refine wpList_load_mid rfl 80 _ rfl (w.heap.size + 1) 3 rfl cq3 _ gq3 Tryz.underlying80 rfl (by rw [Lq3.out]; kernel_rfl) ?_)
  refine (eqRecDisk d3 cp3 cq3 wa Rp3.out Rq3.out).mono ?_
  rintro e x3 ⟨rfl, hb3⟩
  replace HB := uh (blw_trans HB.out hb3)
  replace HX := uh (HX.out.later hb3)
  replace HY := uh (HY.out.later hb3)
  replace Rp4 := uh (Rp4.out.later hb3)
  replace Rq4 := uh (Rq4.out.later hb3)
  replace Rp5 := uh (Rp5.out.later hb3)
  replace Rq5 := uh (Rq5.out.later hb3)
  replace Rp6 := uh (Rp6.out.later hb3)
  replace Rq6 := uh (Rq6.out.later hb3)
  replace Rp10 := uh (Rp10.out.later hb3)
  replace Rq10 := uh (Rq10.out.later hb3)
  replace Rp11 := uh (Rp11.out.later hb3)
  replace Rq11 := uh (Rq11.out.later hb3)
  replace Rp12 := uh (Rp12.out.later hb3)
  replace Rq12 := uh (Rq12.out.later hb3)
  clear hb3 yz xz gp0 gq0 gp1 gq1 gp2 gq2 gp3 gq3 gp4 gq4 gp5 gq5 gp6 gq6 gp7 gq7 gp8 gq8 gp9 gq9 gp10 gq10 gp11 gq11 gp12 gq12 gp13 gq13
  have yz := HX.out.lt
  have xz := HY.out.lt
  have bp := boxRecorder Lp3.out Lp4.out (by have := HX.out.at_; rw [Hp.out] at this; exact this)
  have bq := boxRecorder Lq3.out Lq4.out (by have := HY.out.at_; rw [Hq.out] at this; exact this)
  obtain ⟨gp0, gp1, gp2, gp3, gp4, gp5, gp6, gp7, gp8, gp9, gp10, gp11, gp12, gp13⟩ := bp
  obtain ⟨gq0, gq1, gq2, gq3, gq4, gq5, gq6, gq7, gq8, gq9, gq10, gq11, gq12, gq13⟩ := bq
  go_wp2_with (first | refine wpList_load_mid rfl 80 _ rfl w.heap.size 6 rfl cp4 _ gp4 Tryz.underlying80 rfl (by rw [Lp4.out]; kernel_rfl) ?_ | refine wpList_load_mid rfl 80 _ rfl (w.heap.size + 1) 6 rfl cq4 _ gq4 Tryz.underlying80 rfl (by rw [Lq4.out]; kernel_rfl) ?_)
  refine (eqRecDisk d4 cp4 cq4 x3 Rp4.out Rq4.out).mono ?_
  rintro e x4 ⟨rfl, hb4⟩
  replace HB := uh (blw_trans HB.out hb4)
  replace HX := uh (HX.out.later hb4)
  replace HY := uh (HY.out.later hb4)
  replace Rp5 := uh (Rp5.out.later hb4)
  replace Rq5 := uh (Rq5.out.later hb4)
  replace Rp6 := uh (Rp6.out.later hb4)
  replace Rq6 := uh (Rq6.out.later hb4)
  replace Rp10 := uh (Rp10.out.later hb4)
  replace Rq10 := uh (Rq10.out.later hb4)
  replace Rp11 := uh (Rp11.out.later hb4)
  replace Rq11 := uh (Rq11.out.later hb4)
  replace Rp12 := uh (Rp12.out.later hb4)
  replace Rq12 := uh (Rq12.out.later hb4)
  clear hb4 yz xz gp0 gq0 gp1 gq1 gp2 gq2 gp3 gq3 gp4 gq4 gp5 gq5 gp6 gq6 gp7 gq7 gp8 gq8 gp9 gq9 gp10 gq10 gp11 gq11 gp12 gq12 gp13 gq13
  have yz := HX.out.lt
  have xz := HY.out.lt
  have bp := boxRecorder Lp3.out Lp4.out (by have := HX.out.at_; rw [Hp.out] at this; exact this)
  have bq := boxRecorder Lq3.out Lq4.out (by have := HY.out.at_; rw [Hq.out] at this; exact this)
  obtain ⟨gp0, gp1, gp2, gp3, gp4, gp5, gp6, gp7, gp8, gp9, gp10, gp11, gp12, gp13⟩ := bp
  obtain ⟨gq0, gq1, gq2, gq3, gq4, gq5, gq6, gq7, gq8, gq9, gq10, gq11, gq12, gq13⟩ := bq
  obtain ⟨vap5, vcp5, hva⟩ := Rp5.out.len0
  subst hva
  obtain ⟨vaq5, vcq5, hva⟩ := Rq5.out.len0
  subst hva
  go_wp2_with fail
  refine (eqRecMessageS n5 e5 _ _ x4 Rp5.out Rq5.out).mono ?_
  rintro e x5 ⟨rfl, hb5⟩
  replace HB := uh (blw_trans HB.out hb5)
  replace HX := uh (HX.out.later hb5)
  replace HY := uh (HY.out.later hb5)
  replace Rp6 := uh (Rp6.out.later hb5)
  replace Rq6 := uh (Rq6.out.later hb5)
  replace Rp10 := uh (Rp10.out.later hb5)
  replace Rq10 := uh (Rq10.out.later hb5)
  replace Rp11 := uh (Rp11.out.later hb5)
  replace Rq11 := uh (Rq11.out.later hb5)
  replace Rp12 := uh (Rp12.out.later hb5)
  replace Rq12 := uh (Rq12.out.later hb5)
  clear hb5 yz xz gp0 gq0 gp1 gq1 gp2 gq2 gp3 gq3 gp4 gq4 gp5 gq5 gp6 gq6 gp7 gq7 gp8 gq8 gp9 gq9 gp10 gq10 gp11 gq11 gp12 gq12 gp13 gq13
  have yz := HX.out.lt
  have xz := HY.out.lt
  have bp := boxRecorder Lp3.out Lp4.out (by have := HX.out.at_; rw [Hp.out] at this; exact this)
  have bq := boxRecorder Lq3.out Lq4.out (by have := HY.out.at_; rw [Hq.out] at this; exact this)
  obtain ⟨gp0, gp1, gp2, gp3, gp4, gp5, gp6, gp7, gp8, gp9, gp10, gp11, gp12, gp13⟩ := bp
  obtain ⟨gq0, gq1, gq2, gq3, gq4, gq5, gq6, gq7, gq8, gq9, gq10, gq11, gq12, gq13⟩ := bq
  obtain ⟨vap6, vcp6, hva⟩ := Rp6.out.len0
  subst hva
  obtain ⟨vaq6, vcq6, hva⟩ := Rq6.out.len0
  subst hva
  go_wp2_with fail
  refine (eqStringS n6 e6 _ _ x5 Rp6.out Rq6.out).mono ?_
  rintro e x6 ⟨rfl, hb6⟩
  replace HB := uh (blw_trans HB.out hb6)
  replace HX := uh (HX.out.later hb6)
  replace HY := uh (HY.out.later hb6)
  replace Rp10 := uh (Rp10.out.later hb6)
  replace Rq10 := uh (Rq10.out.later hb6)
  replace Rp11 := uh (Rp11.out.later hb6)
  replace Rq11 := uh (Rq11.out.later hb6)
  replace Rp12 := uh (Rp12.out.later hb6)
  replace Rq12 := uh (Rq12.out.later hb6)
  clear hb6 yz xz gp0 gq0 gp1 gq1 gp2 gq2 gp3 gq3 gp4 gq4 gp5 gq5 gp6 gq6 gp7 gq7 gp8 gq8 gp9 gq9 gp10 gq10 gp11 gq11 gp12 gq12 gp13 gq13
  have yz := HX.out.lt
  have xz := HY.out.lt
  have bp := boxRecorder Lp3.out Lp4.out (by have := HX.out.at_; rw [Hp.out] at this; exact this)
  have bq := boxRecorder Lq3.out Lq4.out (by have := HY.out.at_; rw [Hq.out] at this; exact this)
  obtain ⟨gp0, gp1, gp2, gp3, gp4, gp5, gp6, gp7, gp8, gp9, gp10, gp11, gp12, gp13⟩ := bp
  obtain ⟨gq0, gq1, gq2, gq3, gq4, gq5, gq6, gq7, gq8, gq9, gq10, gq11, gq12, gq13⟩ := bq
  obtain ⟨vap10, vcp10, hva⟩ := Rp10.out.len0
  subst hva
  obtain ⟨vaq10, vcq10, hva⟩ := Rq10.out.len0
  subst hva
  go_wp2_with fail
  refine (eqIntS n10 e10 _ _ x6 Rp10.out Rq10.out).mono ?_
  rintro e x10 ⟨rfl, hb10⟩
  replace HB := uh (blw_trans HB.out hb10)
  replace HX := uh (HX.out.later hb10)
  replace HY := uh (HY.out.later hb10)
  replace Rp11 := uh (Rp11.out.later hb10)
  replace Rq11 := uh (Rq11.out.later hb10)
  replace Rp12 := uh (Rp12.out.later hb10)
  replace Rq12 := uh (Rq12.out.later hb10)
  clear hb10 yz xz gp0 gq0 gp1 gq1 gp2 gq2 gp3 gq3 gp4 gq4 gp5 gq5 gp6 gq6 gp7 gq7 gp8 gq8 gp9 gq9 gp10 gq10 gp11 gq11 gp12 gq12 gp13 gq13
  have yz := HX.out.lt
  have xz := HY.out.lt
  have bp := boxRecorder Lp3.out Lp4.out (by have := HX.out.at_; rw [Hp.out] at this; exact this)
  have bq := boxRecorder Lq3.out Lq4.out (by have := HY.out.at_; rw [Hq.out] at this; exact this)
  obtain ⟨gp0, gp1, gp2, gp3, gp4, gp5, gp6, gp7, gp8, gp9, gp10, gp11, gp12, gp13⟩ := bp
  obtain ⟨gq0, gq1, gq2, gq3, gq4, gq5, gq6, gq7, gq8, gq9, gq10, gq11, gq12, gq13⟩ := bq
  obtain ⟨vap11, vcp11, hva⟩ := Rp11.out.len0
  subst hva
  obtain ⟨vaq11, vcq11, hva⟩ := Rq11.out.len0
  subst hva
  go_wp2_with fail
  refine (eqRecSlotS n11 e11 _ _ x10 Rp11.out Rq11.out).mono ?_
  rintro e x11 ⟨rfl, hb11⟩
  replace HB := uh (blw_trans HB.out hb11)
  replace HX := uh (HX.out.later hb11)
  replace HY := uh (HY.out.later hb11)
  replace Rp12 := uh (Rp12.out.later hb11)
  replace Rq12 := uh (Rq12.out.later hb11)
  clear hb11 yz xz gp0 gq0 gp1 gq1 gp2 gq2 gp3 gq3 gp4 gq4 gp5 gq5 gp6 gq6 gp7 gq7 gp8 gq8 gp9 gq9 gp10 gq10 gp11 gq11 gp12 gq12 gp13 gq13
  have yz := HX.out.lt
  have xz := HY.out.lt
  have bp := boxRecorder Lp3.out Lp4.out (by have := HX.out.at_; rw [Hp.out] at this; exact this)
  have bq := boxRecorder Lq3.out Lq4.out (by have := HY.out.at_; rw [Hq.out] at this; exact this)
  obtain ⟨gp0, gp1, gp2, gp3, gp4, gp5, gp6, gp7, gp8, gp9, gp10, gp11, gp12, gp13⟩ := bp
  obtain ⟨gq0, gq1, gq2, gq3, gq4, gq5, gq6, gq7, gq8, gq9, gq10, gq11, gq12, gq13⟩ := bq
  obtain ⟨vap12, vcp12, hva⟩ := Rp12.out.len0
  subst hva
  obtain ⟨vaq12, vcq12, hva⟩ := Rq12.out.len0
  subst hva
  go_wp2_with fail
  refine (eqRecAckS n12 e12 _ _ x11 Rp12.out Rq12.out).mono ?_
  rintro e x12 ⟨rfl, hb12⟩
  replace HB := uh (blw_trans HB.out hb12)
  replace HX := uh (HX.out.later hb12)
  replace HY := uh (HY.out.later hb12)
  clear hb12 yz xz gp0 gq0 gp1 gq1 gp2 gq2 gp3 gq3 gp4 gq4 gp5 gq5 gp6 gq6 gp7 gq7 gp8 gq8 gp9 gq9 gp10 gq10 gp11 gq11 gp12 gq12 gp13 gq13
  have yz := HX.out.lt
  have xz := HY.out.lt
  have bp := boxRecorder Lp3.out Lp4.out (by have := HX.out.at_; rw [Hp.out] at this; exact this)
  have bq := boxRecorder Lq3.out Lq4.out (by have := HY.out.at_; rw [Hq.out] at this; exact this)
  obtain ⟨gp0, gp1, gp2, gp3, gp4, gp5, gp6, gp7, gp8, gp9, gp10, gp11, gp12, gp13⟩ := bp
  obtain ⟨gq0, gq1, gq2, gq3, gq4, gq5, gq6, gq7, gq8, gq9, gq10, gq11, gq12, gq13⟩ := bq
  go_wp2
  go_ret
  exact ⟨rfl, HB.out⟩
end Go.Proofs.YtfkkohfjkofgnaaGreat
