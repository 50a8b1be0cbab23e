/-
  The law of RecAgree.
-/
import Derived.Test.YtcefgacmagobnaaKEb
import Derived.Test.YtcefgacmagobnaaKShw
import Derived.Test.YtcefgacmagobnaaKSd
import Derived.Test.YtcefgacmagobnaaKTd
import Derived.Test.YtcefgacmagobnaaUL
namespace Go.Proofs.Ytcefgacmagobnaa
open Go.RowKit Go.Deep

set_option maxRecDepth 8000 in
set_option maxHeartbeats 8000000 in
theorem eqRecDisk (ds : List Dt) (cs cs' : List Value) (w : World) (h : Raw w shRecDisk ds cs) (h' : Raw w shRecDisk ds cs') :
    Calls Try.prog 88 #[.agg cs.toArray, .agg cs'.toArray] w fun e w' => e = .returned (.bool true) ∧ Below w.heap.size w w' := by
  obtain ⟨a0, a1, n2, e2, rfl, t2⟩ := segTypRecDisk h.typ
  obtain ⟨cp0, hcp0⟩ : ∃ x, x = cs := ⟨_, rfl⟩
  obtain ⟨xp0, hxp0, hp1⟩ := h.c_i
  obtain ⟨xp1, hxp1, hp2⟩ := hp1.c_i
  obtain ⟨vp2, xp2, hxp2, rp2, hp3⟩ := hp2.c_r
  have hxpn := hp3.c_n
  have Hp : Hid (cs = .int .i64 a0 :: .int .i64 a1 :: vp2 :: []) := by show _ = _; rw [hxp0, hxp1, hxp2, hxpn]
  clear hxp0 hxp1 hxp2 hxpn
  obtain ⟨cq0, hcq0⟩ : ∃ x, x = cs' := ⟨_, rfl⟩
  obtain ⟨xq0, hxq0, hq1⟩ := h'.c_i
  obtain ⟨xq1, hxq1, hq2⟩ := hq1.c_i
  obtain ⟨vq2, xq2, hxq2, rq2, hq3⟩ := hq2.c_r
  have hxqn := hq3.c_n
  have Hq : Hid (cs' = .int .i64 a0 :: .int .i64 a1 :: vq2 :: []) := by show _ = _; rw [hxq0, hxq1, hxq2, hxqn]
  clear hxq0 hxq1 hxq2 hxqn
  obtain ⟨wa, hwa⟩ : ∃ wa, wa = (w.alloc (.cells cs.toArray 47)).alloc (.cells cs'.toArray 47) := ⟨_, rfl⟩
  have HB : Hid (Below w.heap.size w wa) := by show Below _ _ _; rw [hwa]; exact blw_alloc (blw_alloc (Below.refl _ _) _) _
  have HX : Hid (LBox wa w.heap.size cs) := by show LBox _ _ _; rw [hwa]; exact (LBox.new w cs.toArray _ _ rfl).past _
  have HY : Hid (LBox wa (w.heap.size + 1) cs') := by show LBox _ _ _; rw [hwa]; exact LBox.new _ cs'.toArray _ _ (by simp)
  have Rp2 := uh (rp2.later HB.out)
  have Rq2 := uh (rq2.later HB.out)
  clear h h' rp2 rq2 hp1 hq1 hp2 hq2 hp3 hq3 hcp0 hcq0 cp0 cq0
  go_enter Try.func88, Try.ntmps88
  go_upto_region 1 with fail
  rw [← hwa]
  clear hwa
  have yz := HX.out.lt
  have xz := HY.out.lt
  have bp := boxRecDisk  (by have := HX.out.at_; rw [Hp.out] at this; exact this)
  have bq := boxRecDisk  (by have := HY.out.at_; rw [Hq.out] at this; exact this)
  obtain ⟨gp0, gp1, gp2⟩ := bp
  obtain ⟨gq0, gq1, gq2⟩ := bq
  obtain ⟨vap2, vcp2, hva⟩ := Rp2.out.len0
  subst hva
  obtain ⟨vaq2, vcq2, hva⟩ := Rq2.out.len0
  subst hva
  go_wp2_with fail
  refine (eqRecSlotS n2 e2 _ _ wa Rp2.out Rq2.out).mono ?_
  rintro e x2 ⟨rfl, hb2⟩
  replace HB := uh (blw_trans HB.out hb2)
  replace HX := uh (HX.out.later hb2)
  replace HY := uh (HY.out.later hb2)
  clear hb2 yz xz gp0 gq0 gp1 gq1 gp2 gq2
  have yz := HX.out.lt
  have xz := HY.out.lt
  have bp := boxRecDisk  (by have := HX.out.at_; rw [Hp.out] at this; exact this)
  have bq := boxRecDisk  (by have := HY.out.at_; rw [Hq.out] at this; exact this)
  obtain ⟨gp0, gp1, gp2⟩ := bp
  obtain ⟨gq0, gq1, gq2⟩ := bq
  go_wp2
  go_ret
  exact ⟨rfl, HB.out⟩
set_option maxRecDepth 8000 in
set_option maxHeartbeats 8000000 in
theorem eqRecorder (ds : List Dt) (cs cs' : List Value) (w : World) (h : Raw w shRecorder ds cs) (h' : Raw w shRecorder ds cs') :
    Calls Try.prog 64 #[.agg cs.toArray, .agg cs'.toArray] w fun e w' => e = .returned (.bool true) ∧ Below w.heap.size w w' := by
  obtain ⟨a0, a1, a2, d3, d4, n5, e5, n6, e6, a7, a8, a9, n10, e10, n11, e11, n12, e12, a13, rfl, t3, t4, t5, t6, t10, t11, t12⟩ := segTypRecorder h.typ
  obtain ⟨cp0, hcp0⟩ : ∃ x, x = cs := ⟨_, rfl⟩
  obtain ⟨xp0, hxp0, hp1⟩ := h.c_i
  obtain ⟨xp1, hxp1, hp2⟩ := hp1.c_i
  obtain ⟨xp2, hxp2, hp3⟩ := hp2.c_b
  obtain ⟨cp3, xp3, hxp3, rp3, hp4⟩ := Raw.cut2 hp3 t3
  obtain ⟨cp4, xp4, hxp4, rp4, hp5⟩ := Raw.cut2 hp4 t4
  obtain ⟨vp5, xp5, hxp5, rp5, hp6⟩ := hp5.c_r
  obtain ⟨vp6, xp6, hxp6, rp6, hp7⟩ := hp6.c_r
  obtain ⟨xp7, hxp7, hp8⟩ := hp7.c_b
  obtain ⟨xp8, hxp8, hp9⟩ := hp8.c_b
  obtain ⟨xp9, hxp9, hp10⟩ := hp9.c_i
  obtain ⟨vp10, xp10, hxp10, rp10, hp11⟩ := hp10.c_r
  obtain ⟨vp11, xp11, hxp11, rp11, hp12⟩ := hp11.c_r
  obtain ⟨vp12, xp12, hxp12, rp12, hp13⟩ := hp12.c_r
  obtain ⟨xp13, hxp13, hp14⟩ := hp13.c_i
  have hxpn := hp14.c_n
  have Hp : Hid (cs = .int .i64 a0 :: .int .i64 a1 :: .bool a2 :: (cp3 ++ ((cp4 ++ (vp5 :: vp6 :: .bool a7 :: .bool a8 :: .int .i64 a9 :: vp10 :: vp11 :: vp12 :: .int .i64 a13 :: []))))) := by show _ = _; rw [hxp0, hxp1, hxp2, hxp3, hxp4, hxp5, hxp6, hxp7, hxp8, hxp9, hxp10, hxp11, hxp12, hxp13, hxpn]
  clear hxp0 hxp1 hxp2 hxp3 hxp4 hxp5 hxp6 hxp7 hxp8 hxp9 hxp10 hxp11 hxp12 hxp13 hxpn
  have Lp3 : Hid (cp3.length = 3) := rp3.len
  have Lp4 : Hid (cp4.length = 3) := rp4.len
  obtain ⟨cq0, hcq0⟩ : ∃ x, x = cs' := ⟨_, rfl⟩
  obtain ⟨xq0, hxq0, hq1⟩ := h'.c_i
  obtain ⟨xq1, hxq1, hq2⟩ := hq1.c_i
  obtain ⟨xq2, hxq2, hq3⟩ := hq2.c_b
  obtain ⟨cq3, xq3, hxq3, rq3, hq4⟩ := Raw.cut2 hq3 t3
  obtain ⟨cq4, xq4, hxq4, rq4, hq5⟩ := Raw.cut2 hq4 t4
  obtain ⟨vq5, xq5, hxq5, rq5, hq6⟩ := hq5.c_r
  obtain ⟨vq6, xq6, hxq6, rq6, hq7⟩ := hq6.c_r
  obtain ⟨xq7, hxq7, hq8⟩ := hq7.c_b
  obtain ⟨xq8, hxq8, hq9⟩ := hq8.c_b
  obtain ⟨xq9, hxq9, hq10⟩ := hq9.c_i
  obtain ⟨vq10, xq10, hxq10, rq10, hq11⟩ := hq10.c_r
  obtain ⟨vq11, xq11, hxq11, rq11, hq12⟩ := hq11.c_r
  obtain ⟨vq12, xq12, hxq12, rq12, hq13⟩ := hq12.c_r
  obtain ⟨xq13, hxq13, hq14⟩ := hq13.c_i
  have hxqn := hq14.c_n
  have Hq : Hid (cs' = .int .i64 a0 :: .int .i64 a1 :: .bool a2 :: (cq3 ++ ((cq4 ++ (vq5 :: vq6 :: .bool a7 :: .bool a8 :: .int .i64 a9 :: vq10 :: vq11 :: vq12 :: .int .i64 a13 :: []))))) := by show _ = _; rw [hxq0, hxq1, hxq2, hxq3, hxq4, hxq5, hxq6, hxq7, hxq8, hxq9, hxq10, hxq11, hxq12, hxq13, hxqn]
  clear hxq0 hxq1 hxq2 hxq3 hxq4 hxq5 hxq6 hxq7 hxq8 hxq9 hxq10 hxq11 hxq12 hxq13 hxqn
  have Lq3 : Hid (cq3.length = 3) := rq3.len
  have Lq4 : Hid (cq4.length = 3) := rq4.len
  obtain ⟨wa, hwa⟩ : ∃ wa, wa = (w.alloc (.cells cs.toArray 52)).alloc (.cells cs'.toArray 52) := ⟨_, rfl⟩
  have HB : Hid (Below w.heap.size w wa) := by show Below _ _ _; rw [hwa]; exact blw_alloc (blw_alloc (Below.refl _ _) _) _
  have HX : Hid (LBox wa w.heap.size cs) := by show LBox _ _ _; rw [hwa]; exact (LBox.new w cs.toArray _ _ rfl).past _
  have HY : Hid (LBox wa (w.heap.size + 1) cs') := by show LBox _ _ _; rw [hwa]; exact LBox.new _ cs'.toArray _ _ (by simp)
  have Rp3 := uh (rp3.later HB.out)
  have Rq3 := uh (rq3.later HB.out)
  have Rp4 := uh (rp4.later HB.out)
  have Rq4 := uh (rq4.later HB.out)
  have Rp5 := uh (rp5.later HB.out)
  have Rq5 := uh (rq5.later HB.out)
  have Rp6 := uh (rp6.later HB.out)
  have Rq6 := uh (rq6.later HB.out)
  have Rp10 := uh (rp10.later HB.out)
  have Rq10 := uh (rq10.later HB.out)
  have Rp11 := uh (rp11.later HB.out)
  have Rq11 := uh (rq11.later HB.out)
  have Rp12 := uh (rp12.later HB.out)
  have Rq12 := uh (rq12.later HB.out)
  clear h h' rp3 rq3 rp4 rq4 rp5 rq5 rp6 rq6 rp10 rq10 rp11 rq11 rp12 rq12 hp1 hq1 hp2 hq2 hp3 hq3 hp4 hq4 hp5 hq5 hp6 hq6 hp7 hq7 hp8 hq8 hp9 hq9 hp10 hq10 hp11 hq11 hp12 hq12 hp13 hq13 hp14 hq14 hcp0 hcq0 cp0 cq0
  go_enter Try.func64, Try.ntmps64
  go_upto_region 1 with fail
  rw [← hwa]
  clear hwa
  have yz := HX.out.lt
  have xz := HY.out.lt
  have bp := boxRecorder Lp3.out Lp4.out (by have := HX.out.at_; rw [Hp.out] at this; exact this)
  have bq := boxRecorder Lq3.out Lq4.out (by have := HY.out.at_; rw [Hq.out] at this; exact this)
  obtain ⟨gp0, gp1, gp2, gp3, gp4, gp5, gp6, gp7, gp8, gp9, gp10, gp11, gp12, gp13⟩ := bp
  obtain ⟨gq0, gq1, gq2, gq3, gq4, gq5, gq6, gq7, gq8, gq9, gq10, gq11, gq12, gq13⟩ := bq
  have hub2 : (a2 != a2) = false := by cases a2 <;> rfl
  have hub7 : (a7 != a7) = false := by cases a7 <;> rfl
  have hub8 : (a8 != a8) = false := by cases a8 <;> rfl
  go_wp2_with (first | refine wpList_load_mid rfl 47 _ rfl w.heap.size 3 rfl cp3 _ gp3 Try.underlying47 rfl (by rw [Lp3.out]; kernel_rfl) ?_ | refine wpList_load_mid rfl 47 _ rfl (w.heap.size + 1) 3 rfl cq3 _ gq3 Try.underlying47 rfl (by rw [Lq3.out]; kernel_rfl) ?_)
  refine (eqRecDisk d3 cp3 cq3 wa Rp3.out Rq3.out).mono ?_
  rintro e x3 ⟨rfl, hb3⟩
  replace HB := uh (blw_trans HB.out hb3)
  replace HX := uh (HX.out.later hb3)
  replace HY := uh (HY.out.later hb3)
  replace Rp4 := uh (Rp4.out.later hb3)
  replace Rq4 := uh (Rq4.out.later hb3)
  replace Rp5 := uh (Rp5.out.later hb3)
  replace Rq5 := uh (Rq5.out.later hb3)
  replace Rp6 := uh (Rp6.out.later hb3)
  replace Rq6 := uh (Rq6.out.later hb3)
  replace Rp10 := uh (Rp10.out.later hb3)
  replace Rq10 := uh (Rq10.out.later hb3)
  replace Rp11 := uh (Rp11.out.later hb3)
  replace Rq11 := uh (Rq11.out.later hb3)
  replace Rp12 := uh (Rp12.out.later hb3)
  replace Rq12 := uh (Rq12.out.later hb3)
  clear hb3 yz xz gp0 gq0 gp1 gq1 gp2 gq2 gp3 gq3 gp4 gq4 gp5 gq5 gp6 gq6 gp7 gq7 gp8 gq8 gp9 gq9 gp10 gq10 gp11 gq11 gp12 gq12 gp13 gq13
  have yz := HX.out.lt
  have xz := HY.out.lt
  have bp := boxRecorder Lp3.out Lp4.out (by have := HX.out.at_; rw [Hp.out] at this; exact this)
  have bq := boxRecorder Lq3.out Lq4.out (by have := HY.out.at_; rw [Hq.out] at this; exact this)
  obtain ⟨gp0, gp1, gp2, gp3, gp4, gp5, gp6, gp7, gp8, gp9, gp10, gp11, gp12, gp13⟩ := bp
  obtain ⟨gq0, gq1, gq2, gq3, gq4, gq5, gq6, gq7, gq8, gq9, gq10, gq11, gq12, gq13⟩ := bq
  go_wp2_with (first | refine wpList_load_mid rfl 47 _ rfl w.heap.size 6 rfl cp4 _ gp4 Try.underlying47 rfl (by rw [Lp4.out]; kernel_rfl) ?_ | refine wpList_load_mid rfl 47 _ rfl (w.heap.size + 1) 6 rfl cq4 _ gq4 Try.underlying47 rfl (by rw [Lq4.out]; kernel_rfl) ?_)
  refine (eqRecDisk d4 cp4 cq4 x3 Rp4.out Rq4.out).mono ?_
  rintro e x4 ⟨rfl, hb4⟩
  replace HB := uh (blw_trans HB.out hb4)
  replace HX := uh (HX.out.later hb4)
  replace HY := uh (HY.out.later hb4)
  replace Rp5 := uh (Rp5.out.later hb4)
  replace Rq5 := uh (Rq5.out.later hb4)
  replace Rp6 := uh (Rp6.out.later hb4)
  replace Rq6 := uh (Rq6.out.later hb4)
  replace Rp10 := uh (Rp10.out.later hb4)
  replace Rq10 := uh (Rq10.out.later hb4)
  replace Rp11 := uh (Rp11.out.later hb4)
  replace Rq11 := uh (Rq11.out.later hb4)
  replace Rp12 := uh (Rp12.out.later hb4)
  replace Rq12 := uh (Rq12.out.later hb4)
  clear hb4 yz xz gp0 gq0 gp1 gq1 gp2 gq2 gp3 gq3 gp4 gq4 gp5 gq5 gp6 gq6 gp7 gq7 gp8 gq8 gp9 gq9 gp10 gq10 gp11 gq11 gp12 gq12 gp13 gq13
  have yz := HX.out.lt
  have xz := HY.out.lt
  have bp := boxRecorder Lp3.out Lp4.out (by have := HX.out.at_; rw [Hp.out] at this; exact this)
  have bq := boxRecorder Lq3.out Lq4.out (by have := HY.out.at_; rw [Hq.out] at this; exact this)
  obtain ⟨gp0, gp1, gp2, gp3, gp4, gp5, gp6, gp7, gp8, gp9, gp10, gp11, gp12, gp13⟩ := bp
  obtain ⟨gq0, gq1, gq2, gq3, gq4, gq5, gq6, gq7, gq8, gq9, gq10, gq11, gq12, gq13⟩ := bq
  obtain ⟨vap5, vcp5, hva⟩ := Rp5.out.len0
  subst hva
  obtain ⟨vaq5, vcq5, hva⟩ := Rq5.out.len0
  subst hva
  go_wp2_with fail
  refine (eqRecMessageS n5 e5 _ _ x4 Rp5.out Rq5.out).mono ?_
  rintro e x5 ⟨rfl, hb5⟩
  replace HB := uh (blw_trans HB.out hb5)
  replace HX := uh (HX.out.later hb5)
  replace HY := uh (HY.out.later hb5)
  replace Rp6 := uh (Rp6.out.later hb5)
  replace Rq6 := uh (Rq6.out.later hb5)
  replace Rp10 := uh (Rp10.out.later hb5)
  replace Rq10 := uh (Rq10.out.later hb5)
  replace Rp11 := uh (Rp11.out.later hb5)
  replace Rq11 := uh (Rq11.out.later hb5)
  replace Rp12 := uh (Rp12.out.later hb5)
  replace Rq12 := uh (Rq12.out.later hb5)
  clear hb5 yz xz gp0 gq0 gp1 gq1 gp2 gq2 gp3 gq3 gp4 gq4 gp5 gq5 gp6 gq6 gp7 gq7 gp8 gq8 gp9 gq9 gp10 gq10 gp11 gq11 gp12 gq12 gp13 gq13
  have yz := HX.out.lt
  have xz := HY.out.lt
  have bp := boxRecorder Lp3.out Lp4.out (by have := HX.out.at_; rw [Hp.out] at this; exact this)
  have bq := boxRecorder Lq3.out Lq4.out (by have := HY.out.at_; rw [Hq.out] at this; exact this)
  obtain ⟨gp0, gp1, gp2, gp3, gp4, gp5, gp6, gp7, gp8, gp9, gp10, gp11, gp12, gp13⟩ := bp
  obtain ⟨gq0, gq1, gq2, gq3, gq4, gq5, gq6, gq7, gq8, gq9, gq10, gq11, gq12, gq13⟩ := bq
  obtain ⟨vap6, vcp6, hva⟩ := Rp6.out.len0
  subst hva
  obtain ⟨vaq6, vcq6, hva⟩ := Rq6.out.len0
  subst hva
  go_wp2_with fail
  refine (eqStringS n6 e6 _ _ x5 Rp6.out Rq6.out).mono ?_
  rintro e x6 ⟨rfl, hb6⟩
  replace HB := uh (blw_trans HB.out hb6)
  replace HX := uh (HX.out.later hb6)
  replace HY := uh (HY.out.later hb6)
  replace Rp10 := uh (Rp10.out.later hb6)
  replace Rq10 := uh (Rq10.out.later hb6)
  replace Rp11 := uh (Rp11.out.later hb6)
  replace Rq11 := uh (Rq11.out.later hb6)
  replace Rp12 := uh (Rp12.out.later hb6)
  replace Rq12 := uh (Rq12.out.later hb6)
  clear hb6 yz xz gp0 gq0 gp1 gq1 gp2 gq2 gp3 gq3 gp4 gq4 gp5 gq5 gp6 gq6 gp7 gq7 gp8 gq8 gp9 gq9 gp10 gq10 gp11 gq11 gp12 gq12 gp13 gq13
  have yz := HX.out.lt
  have xz := HY.out.lt
  have bp := boxRecorder Lp3.out Lp4.out (by have := HX.out.at_; rw [Hp.out] at this; exact this)
  have bq := boxRecorder Lq3.out Lq4.out (by have := HY.out.at_; rw [Hq.out] at this; exact this)
  obtain ⟨gp0, gp1, gp2, gp3, gp4, gp5, gp6, gp7, gp8, gp9, gp10, gp11, gp12, gp13⟩ := bp
  obtain ⟨gq0, gq1, gq2, gq3, gq4, gq5, gq6, gq7, gq8, gq9, gq10, gq11, gq12, gq13⟩ := bq
  obtain ⟨vap10, vcp10, hva⟩ := Rp10.out.len0
  subst hva
  obtain ⟨vaq10, vcq10, hva⟩ := Rq10.out.len0
  subst hva
  go_wp2_with fail
  refine (eqIntS n10 e10 _ _ x6 Rp10.out Rq10.out).mono ?_
  rintro e x10 ⟨rfl, hb10⟩
  replace HB := uh (blw_trans HB.out hb10)
  replace HX := uh (HX.out.later hb10)
  replace HY := uh (HY.out.later hb10)
  replace Rp11 := uh (Rp11.out.later hb10)
  replace Rq11 := uh (Rq11.out.later hb10)
  replace Rp12 := uh (Rp12.out.later hb10)
  replace Rq12 := uh (Rq12.out.later hb10)
  clear hb10 yz xz gp0 gq0 gp1 gq1 gp2 gq2 gp3 gq3 gp4 gq4 gp5 gq5 gp6 gq6 gp7 gq7 gp8 gq8 gp9 gq9 gp10 gq10 gp11 gq11 gp12 gq12 gp13 gq13
  have yz := HX.out.lt
  have xz := HY.out.lt
  have bp := boxRecorder Lp3.out Lp4.out (by have := HX.out.at_; rw [Hp.out] at this; exact this)
  have bq := boxRecorder Lq3.out Lq4.out (by have := HY.out.at_; rw [Hq.out] at this; exact this)
  obtain ⟨gp0, gp1, gp2, gp3, gp4, gp5, gp6, gp7, gp8, gp9, gp10, gp11, gp12, gp13⟩ := bp
  obtain ⟨gq0, gq1, gq2, gq3, gq4, gq5, gq6, gq7, gq8, gq9, gq10, gq11, gq12, gq13⟩ := bq
  obtain ⟨vap11, vcp11, hva⟩ := Rp11.out.len0
  subst hva
  obtain ⟨vaq11, vcq11, hva⟩ := Rq11.out.len0
  subst hva
  go_wp2_with fail
  refine (eqRecSlotS n11 e11 _ _ x10 Rp11.out Rq11.out).mono ?_
  rintro e x11 ⟨rfl, hb11⟩
  replace HB := uh (blw_trans HB.out hb11)
  replace HX := uh (HX.out.later hb11)
  replace HY := uh (HY.out.later hb11)
  replace Rp12 := uh (Rp12.out.later hb11)
  replace Rq12 := uh (Rq12.out.later hb11)
  clear hb11 yz xz gp0 gq0 gp1 gq1 gp2 gq2 gp3 gq3 gp4 gq4 gp5 gq5 gp6 gq6 gp7 gq7 gp8 gq8 gp9 gq9 gp10 gq10 gp11 gq11 gp12 gq12 gp13 gq13
  have yz := HX.out.lt
  have xz := HY.out.lt
  have bp := boxRecorder Lp3.out Lp4.out (by have := HX.out.at_; rw [Hp.out] at this; exact this)
  have bq := boxRecorder Lq3.out Lq4.out (by have := HY.out.at_; rw [Hq.out] at this; exact this)
  obtain ⟨gp0, gp1, gp2, gp3, gp4, gp5, gp6, gp7, gp8, gp9, gp10, gp11, gp12, gp13⟩ := bp
  obtain ⟨gq0, gq1, gq2, gq3, gq4, gq5, gq6, gq7, gq8, gq9, gq10, gq11, gq12, gq13⟩ := bq
  obtain ⟨vap12, vcp12, hva⟩ := Rp12.out.len0
  subst hva
  obtain ⟨vaq12, vcq12, hva⟩ := Rq12.out.len0
  subst hva
  go_wp2_with fail
  refine (eqRecAckS n12 e12 _ _ x11 Rp12.out Rq12.out).mono ?_
  rintro e x12 ⟨rfl, hb12⟩
  replace HB := uh (blw_trans HB.out hb12)
  replace HX := uh (HX.out.later hb12)
  replace HY := uh (HY.out.later hb12)
  clear hb12 yz xz gp0 gq0 gp1 gq1 gp2 gq2 gp3 gq3 gp4 gq4 gp5 gq5 gp6 gq6 gp7 gq7 gp8 gq8 gp9 gq9 gp10 gq10 gp11 gq11 gp12 gq12 gp13 gq13
  have yz := HX.out.lt
  have xz := HY.out.lt
  have bp := boxRecorder Lp3.out Lp4.out (by have := HX.out.at_; rw [Hp.out] at this; exact this)
  have bq := boxRecorder Lq3.out Lq4.out (by have := HY.out.at_; rw [Hq.out] at this; exact this)
  obtain ⟨gp0, gp1, gp2, gp3, gp4, gp5, gp6, gp7, gp8, gp9, gp10, gp11, gp12, gp13⟩ := bp
  obtain ⟨gq0, gq1, gq2, gq3, gq4, gq5, gq6, gq7, gq8, gq9, gq10, gq11, gq12, gq13⟩ := bq
  go_wp2
  go_ret
  exact ⟨rfl, HB.out⟩
end Go.Proofs.Ytcefgacmagobnaa

namespace Go.Proofs.Ytcefgacmagobnaa
open Go.RowKit Go.Deep

set_option maxRecDepth 8000 in
set_option maxHeartbeats 8000000 in
theorem eqRecFix (ds : List Dt) (cs cs' : List Value) (w : World) (h : Raw w shRecFix ds cs) (h' : Raw w shRecFix ds cs') :
    Calls Try.prog 66 #[.agg cs.toArray, .agg cs'.toArray] w fun e w' => e = .returned (.bool true) ∧ Below w.heap.size w w' := by
  obtain ⟨a0, a1, rfl⟩ := segTypRecFix h.typ
  obtain ⟨cp0, hcp0⟩ : ∃ x, x = cs := ⟨_, rfl⟩
  obtain ⟨xp0, hxp0, hp1⟩ := h.c_i
  obtain ⟨xp1, hxp1, hp2⟩ := hp1.c_s
  have hxpn := hp2.c_n
  have Hp : Hid (cs = .int .i64 a0 :: .string a1 :: []) := by show _ = _; rw [hxp0, hxp1, hxpn]
  clear hxp0 hxp1 hxpn
  obtain ⟨cq0, hcq0⟩ : ∃ x, x = cs' := ⟨_, rfl⟩
  obtain ⟨xq0, hxq0, hq1⟩ := h'.c_i
  obtain ⟨xq1, hxq1, hq2⟩ := hq1.c_s
  have hxqn := hq2.c_n
  have Hq : Hid (cs' = .int .i64 a0 :: .string a1 :: []) := by show _ = _; rw [hxq0, hxq1, hxqn]
  clear hxq0 hxq1 hxqn
  obtain ⟨wa, hwa⟩ : ∃ wa, wa = (w.alloc (.cells cs.toArray 57)).alloc (.cells cs'.toArray 57) := ⟨_, rfl⟩
  have HB : Hid (Below w.heap.size w wa) := by show Below _ _ _; rw [hwa]; exact blw_alloc (blw_alloc (Below.refl _ _) _) _
  have HX : Hid (LBox wa w.heap.size cs) := by show LBox _ _ _; rw [hwa]; exact (LBox.new w cs.toArray _ _ rfl).past _
  have HY : Hid (LBox wa (w.heap.size + 1) cs') := by show LBox _ _ _; rw [hwa]; exact LBox.new _ cs'.toArray _ _ (by simp)
  clear h h' hp1 hq1 hp2 hq2 hcp0 hcq0 cp0 cq0
  go_enter Try.func66, Try.ntmps66
  go_upto_region 1 with fail
  rw [← hwa]
  clear hwa
  have yz := HX.out.lt
  have xz := HY.out.lt
  have bp := boxRecFix  (by have := HX.out.at_; rw [Hp.out] at this; exact this)
  have bq := boxRecFix  (by have := HY.out.at_; rw [Hq.out] at this; exact this)
  obtain ⟨gp0, gp1⟩ := bp
  obtain ⟨gq0, gq1⟩ := bq
  go_wp2
  go_ret
  exact ⟨rfl, HB.out⟩
set_option maxRecDepth 8000 in
set_option maxHeartbeats 8000000 in
theorem eqRecFixS (n : Nat) (es : List Dt) (v v' : Value) (w : World) (h : Raw w [.row 57 shRecFix] [.row n es] [v]) (h' : Raw w [.row 57 shRecFix] [.row n es] [v']) :
    Calls Try.prog 32 #[v, v'] w fun e w' => e = .returned (.bool true) ∧ Below w.heap.size w w' := by
  by_cases h0 : n = 0
  · subst h0
    obtain ⟨a, c, rfl⟩ := h.len0
    obtain ⟨a', c', rfl⟩ := h'.len0
    go_enter Try.func32, Try.ntmps32
    go_wp2
    refine wp_loop_rounds 1 ?_
    rw [rounds_succ]
    go_wp2
    go_ret
    exact ⟨rfl, Below.refl _ _⟩
  rcases h.slice with ⟨e0, _⟩ | ⟨p, o, c, rfl, hp, hn, vs, hr, hR⟩
  · exact absurd e0 h0
  rcases h'.slice with ⟨e0, _⟩ | ⟨p', o', c', rfl, hp', _, vs', hr', hR'⟩
  · exact absurd e0 h0
  have HR := uh (And.intro hR (And.intro hr hp))
  have HR' := uh (And.intro hR' (And.intro hr' hp'))
  have hn1 : n ≤ 9223372036854775807 := hn.1
  clear h h' hr hR hp hr' hR' hp' hn
  go_enter Try.func32, Try.ntmps32
  go_wp2
  go_loopw [5] (fun i wr => ∃ q : Nat, q ≤ n ∧ i = .int .i64 q ∧ Below w.heap.size w wr) (fun i _ => n - (intOf i).toNat)
  case atStart => exact ⟨0, Nat.zero_le _, rfl, Below.refl _ _⟩
  case round =>
    obtain ⟨q, hq, rfl, hW⟩ := hrel
    have HB := uh hW
    clear hW
    by_cases hlt : q < n
    · obtain ⟨ve, hE, hg⟩ := (HR.out.1.later HB.out).el hlt (rA_later HR.out.2.1 HR.out.2.2 HB.out)
      obtain ⟨ve', hE', hg'⟩ := (HR'.out.1.later HB.out).el hlt (rA_later HR'.out.2.1 HR'.out.2.2 HB.out)
      have hbp : p < wr.heap.size := Nat.lt_of_lt_of_le HR.out.2.2 HB.out.size
      have hbq : p' < wr.heap.size := Nat.lt_of_lt_of_le HR'.out.2.2 HB.out.size
      have hm0 : (0 : Int) ≤ (q : Int) := by omega
      have hm3 : (q : Int) < (n : Int) := by omega
      have hNE := upst_some wr
      have z1 : ∀ px : UPst wr, p < px.W.heap.size := fun px => px.size hbp
      have z2 : ∀ px : UPst wr, p' < px.W.heap.size := fun px => px.size hbq
      have H1 := uh (And.intro hE.len (And.intro (show wr.rangeAt p (o + q * 2) ve from hg) hbp))
      have H2 := uh (And.intro hE'.len (And.intro (show wr.rangeAt p' (o' + q * 2) ve' from hg') hbq))
      have HX : Hid (∀ px : UPst wr, Calls Try.prog 66 #[.agg ve.toArray, .agg ve'.toArray] px.W fun e w' => e = .returned (.bool true) ∧ Below px.W.heap.size px.W w') := fun px => eqRecFix _ ve ve' px.W (hE.later px.ok) (hE'.later px.ok)
      clear hE hE' hg hg' hbp hbq HR HR'
      go_upto_region 6 with fail
      refine uregion wr (Below.refl _ _) (by kernel_rfl) (by kernel_rfl) ?_
      repeat (first
        | go_big_quiet_skip
        | (go_big_quiet_want; (first | refine uq_load 57 _ rfl p (o + q * 2) rfl ve _ H1.out.2.1 H1.out.2.2 Try.underlying57 rfl (by rw [H1.out.1]; kernel_rfl) ?_ | refine uq_load 57 _ rfl p' (o' + q * 2) rfl ve' _ H2.out.2.1 H2.out.2.2 Try.underlying57 rfl (by rw [H2.out.1]; kernel_rfl) ?_); (simp only [Act.put, List.setIfInBounds_toArray, List.set_cons_zero, List.set_cons_succ]); go_big_quiet_on)
        | (go_big_quiet_want; go_big_quiet_op; first | go_big_quiet_on | (apply Exists.intro; refine ⟨fun px => ?_, ?_⟩; (focus ((go_at_call 66; refine (HX.out px).mono ?_; rintro e w' ⟨he, hb⟩; exact ⟨he, ⟨w', blw_trans px.ok hb⟩, rfl⟩))); go_big_quiet_on)))
      refine wpQuiet_nil ?_
      intro _ hw'
      obtain ⟨z, hw''⟩ := hw'
      subst hw''
      replace HB := uh (blw_trans HB.out z.ok)
      go_wp2
      go_roundw
      case rel => exact ⟨q + 1, by omega, by go_num, HB.out⟩
      case measure => simp [intOf]; omega
    · go_wp2
      go_ret
      exact ⟨rfl, HB.out⟩
set_option maxRecDepth 8000 in
set_option maxHeartbeats 8000000 in
theorem eqRecorderS (n : Nat) (es : List Dt) (v v' : Value) (w : World) (h : Raw w [.row 52 shRecorder] [.row n es] [v]) (h' : Raw w [.row 52 shRecorder] [.row n es] [v']) :
    Calls Try.prog 30 #[v, v'] w fun e w' => e = .returned (.bool true) ∧ Below w.heap.size w w' := by
  by_cases h0 : n = 0
  · subst h0
    obtain ⟨a, c, rfl⟩ := h.len0
    obtain ⟨a', c', rfl⟩ := h'.len0
    go_enter Try.func30, Try.ntmps30
    go_wp2
    refine wp_loop_rounds 1 ?_
    rw [rounds_succ]
    go_wp2
    go_ret
    exact ⟨rfl, Below.refl _ _⟩
  rcases h.slice with ⟨e0, _⟩ | ⟨p, o, c, rfl, hp, hn, vs, hr, hR⟩
  · exact absurd e0 h0
  rcases h'.slice with ⟨e0, _⟩ | ⟨p', o', c', rfl, hp', _, vs', hr', hR'⟩
  · exact absurd e0 h0
  have HR := uh (And.intro hR (And.intro hr hp))
  have HR' := uh (And.intro hR' (And.intro hr' hp'))
  have hn1 : n ≤ 9223372036854775807 := hn.1
  clear h h' hr hR hp hr' hR' hp' hn
  go_enter Try.func30, Try.ntmps30
  go_wp2
  go_loopw [5] (fun i wr => ∃ q : Nat, q ≤ n ∧ i = .int .i64 q ∧ Below w.heap.size w wr) (fun i _ => n - (intOf i).toNat)
  case atStart => exact ⟨0, Nat.zero_le _, rfl, Below.refl _ _⟩
  case round =>
    obtain ⟨q, hq, rfl, hW⟩ := hrel
    have HB := uh hW
    clear hW
    by_cases hlt : q < n
    · obtain ⟨ve, hE, hg⟩ := (HR.out.1.later HB.out).el hlt (rA_later HR.out.2.1 HR.out.2.2 HB.out)
      obtain ⟨ve', hE', hg'⟩ := (HR'.out.1.later HB.out).el hlt (rA_later HR'.out.2.1 HR'.out.2.2 HB.out)
      have hbp : p < wr.heap.size := Nat.lt_of_lt_of_le HR.out.2.2 HB.out.size
      have hbq : p' < wr.heap.size := Nat.lt_of_lt_of_le HR'.out.2.2 HB.out.size
      have hm0 : (0 : Int) ≤ (q : Int) := by omega
      have hm3 : (q : Int) < (n : Int) := by omega
      have hNE := upst_some wr
      have z1 : ∀ px : UPst wr, p < px.W.heap.size := fun px => px.size hbp
      have z2 : ∀ px : UPst wr, p' < px.W.heap.size := fun px => px.size hbq
      have H1 := uh (And.intro hE.len (And.intro (show wr.rangeAt p (o + q * 18) ve from hg) hbp))
      have H2 := uh (And.intro hE'.len (And.intro (show wr.rangeAt p' (o' + q * 18) ve' from hg') hbq))
      have HX : Hid (∀ px : UPst wr, Calls Try.prog 64 #[.agg ve.toArray, .agg ve'.toArray] px.W fun e w' => e = .returned (.bool true) ∧ Below px.W.heap.size px.W w') := fun px => eqRecorder _ ve ve' px.W (hE.later px.ok) (hE'.later px.ok)
      clear hE hE' hg hg' hbp hbq HR HR'
      go_upto_region 6 with fail
      refine uregion wr (Below.refl _ _) (by kernel_rfl) (by kernel_rfl) ?_
      repeat (first
        | go_big_quiet_skip
        | (go_big_quiet_want; (first | refine uq_load 52 _ rfl p (o + q * 18) rfl ve _ H1.out.2.1 H1.out.2.2 Try.underlying52 rfl (by rw [H1.out.1]; kernel_rfl) ?_ | refine uq_load 52 _ rfl p' (o' + q * 18) rfl ve' _ H2.out.2.1 H2.out.2.2 Try.underlying52 rfl (by rw [H2.out.1]; kernel_rfl) ?_); (simp only [Act.put, List.setIfInBounds_toArray, List.set_cons_zero, List.set_cons_succ]); go_big_quiet_on)
        | (go_big_quiet_want; go_big_quiet_op; first | go_big_quiet_on | (apply Exists.intro; refine ⟨fun px => ?_, ?_⟩; (focus ((go_at_call 64; refine (HX.out px).mono ?_; rintro e w' ⟨he, hb⟩; exact ⟨he, ⟨w', blw_trans px.ok hb⟩, rfl⟩))); go_big_quiet_on)))
      refine wpQuiet_nil ?_
      intro _ hw'
      obtain ⟨z, hw''⟩ := hw'
      subst hw''
      replace HB := uh (blw_trans HB.out z.ok)
      go_wp2
      go_roundw
      case rel => exact ⟨q + 1, by omega, by go_num, HB.out⟩
      case measure => simp [intOf]; omega
    · go_wp2
      go_ret
      exact ⟨rfl, HB.out⟩
set_option maxRecDepth 8000 in
set_option maxHeartbeats 8000000 in
theorem eqRecWorld (ds : List Dt) (cs cs' : List Value) (w : World) (h : Raw w shRecWorld ds cs) (h' : Raw w shRecWorld ds cs') :
    Calls Try.prog 10 #[.agg cs.toArray, .agg cs'.toArray] w fun e w' => e = .returned (.bool true) ∧ Below w.heap.size w w' := by
  obtain ⟨n0, e0, n1, e1, n2, e2, rfl, t0, t1, t2⟩ := segTypRecWorld h.typ
  obtain ⟨cp0, hcp0⟩ : ∃ x, x = cs := ⟨_, rfl⟩
  obtain ⟨vp0, xp0, hxp0, rp0, hp1⟩ := h.c_r
  obtain ⟨vp1, xp1, hxp1, rp1, hp2⟩ := hp1.c_r
  obtain ⟨vp2, xp2, hxp2, rp2, hp3⟩ := hp2.c_r
  have hxpn := hp3.c_n
  have Hp : Hid (cs = vp0 :: vp1 :: vp2 :: []) := by show _ = _; rw [hxp0, hxp1, hxp2, hxpn]
  clear hxp0 hxp1 hxp2 hxpn
  obtain ⟨cq0, hcq0⟩ : ∃ x, x = cs' := ⟨_, rfl⟩
  obtain ⟨vq0, xq0, hxq0, rq0, hq1⟩ := h'.c_r
  obtain ⟨vq1, xq1, hxq1, rq1, hq2⟩ := hq1.c_r
  obtain ⟨vq2, xq2, hxq2, rq2, hq3⟩ := hq2.c_r
  have hxqn := hq3.c_n
  have Hq : Hid (cs' = vq0 :: vq1 :: vq2 :: []) := by show _ = _; rw [hxq0, hxq1, hxq2, hxqn]
  clear hxq0 hxq1 hxq2 hxqn
  obtain ⟨wa, hwa⟩ : ∃ wa, wa = (w.alloc (.cells cs.toArray 33)).alloc (.cells cs'.toArray 33) := ⟨_, rfl⟩
  have HB : Hid (Below w.heap.size w wa) := by show Below _ _ _; rw [hwa]; exact blw_alloc (blw_alloc (Below.refl _ _) _) _
  have HX : Hid (LBox wa w.heap.size cs) := by show LBox _ _ _; rw [hwa]; exact (LBox.new w cs.toArray _ _ rfl).past _
  have HY : Hid (LBox wa (w.heap.size + 1) cs') := by show LBox _ _ _; rw [hwa]; exact LBox.new _ cs'.toArray _ _ (by simp)
  have Rp0 := uh (rp0.later HB.out)
  have Rq0 := uh (rq0.later HB.out)
  have Rp1 := uh (rp1.later HB.out)
  have Rq1 := uh (rq1.later HB.out)
  have Rp2 := uh (rp2.later HB.out)
  have Rq2 := uh (rq2.later HB.out)
  clear h h' rp0 rq0 rp1 rq1 rp2 rq2 hp1 hq1 hp2 hq2 hp3 hq3 hcp0 hcq0 cp0 cq0
  go_enter Try.func10, Try.ntmps10
  go_upto_region 1 with fail
  rw [← hwa]
  clear hwa
  have yz := HX.out.lt
  have xz := HY.out.lt
  have bp := boxRecWorld  (by have := HX.out.at_; rw [Hp.out] at this; exact this)
  have bq := boxRecWorld  (by have := HY.out.at_; rw [Hq.out] at this; exact this)
  obtain ⟨gp0, gp1, gp2⟩ := bp
  obtain ⟨gq0, gq1, gq2⟩ := bq
  obtain ⟨vap0, vcp0, hva⟩ := Rp0.out.len0
  subst hva
  obtain ⟨vaq0, vcq0, hva⟩ := Rq0.out.len0
  subst hva
  go_wp2_with fail
  refine (eqRecorderS n0 e0 _ _ wa Rp0.out Rq0.out).mono ?_
  rintro e x0 ⟨rfl, hb0⟩
  replace HB := uh (blw_trans HB.out hb0)
  replace HX := uh (HX.out.later hb0)
  replace HY := uh (HY.out.later hb0)
  replace Rp1 := uh (Rp1.out.later hb0)
  replace Rq1 := uh (Rq1.out.later hb0)
  replace Rp2 := uh (Rp2.out.later hb0)
  replace Rq2 := uh (Rq2.out.later hb0)
  clear hb0 yz xz gp0 gq0 gp1 gq1 gp2 gq2
  have yz := HX.out.lt
  have xz := HY.out.lt
  have bp := boxRecWorld  (by have := HX.out.at_; rw [Hp.out] at this; exact this)
  have bq := boxRecWorld  (by have := HY.out.at_; rw [Hq.out] at this; exact this)
  obtain ⟨gp0, gp1, gp2⟩ := bp
  obtain ⟨gq0, gq1, gq2⟩ := bq
  obtain ⟨vap1, vcp1, hva⟩ := Rp1.out.len0
  subst hva
  obtain ⟨vaq1, vcq1, hva⟩ := Rq1.out.len0
  subst hva
  go_wp2_with fail
  refine (eqRecMessageS n1 e1 _ _ x0 Rp1.out Rq1.out).mono ?_
  rintro e x1 ⟨rfl, hb1⟩
  replace HB := uh (blw_trans HB.out hb1)
  replace HX := uh (HX.out.later hb1)
  replace HY := uh (HY.out.later hb1)
  replace Rp2 := uh (Rp2.out.later hb1)
  replace Rq2 := uh (Rq2.out.later hb1)
  clear hb1 yz xz gp0 gq0 gp1 gq1 gp2 gq2
  have yz := HX.out.lt
  have xz := HY.out.lt
  have bp := boxRecWorld  (by have := HX.out.at_; rw [Hp.out] at this; exact this)
  have bq := boxRecWorld  (by have := HY.out.at_; rw [Hq.out] at this; exact this)
  obtain ⟨gp0, gp1, gp2⟩ := bp
  obtain ⟨gq0, gq1, gq2⟩ := bq
  obtain ⟨vap2, vcp2, hva⟩ := Rp2.out.len0
  subst hva
  obtain ⟨vaq2, vcq2, hva⟩ := Rq2.out.len0
  subst hva
  go_wp2_with fail
  refine (eqRecFixS n2 e2 _ _ x1 Rp2.out Rq2.out).mono ?_
  rintro e x2 ⟨rfl, hb2⟩
  replace HB := uh (blw_trans HB.out hb2)
  replace HX := uh (HX.out.later hb2)
  replace HY := uh (HY.out.later hb2)
  clear hb2 yz xz gp0 gq0 gp1 gq1 gp2 gq2
  have yz := HX.out.lt
  have xz := HY.out.lt
  have bp := boxRecWorld  (by have := HX.out.at_; rw [Hp.out] at this; exact this)
  have bq := boxRecWorld  (by have := HY.out.at_; rw [Hq.out] at this; exact this)
  obtain ⟨gp0, gp1, gp2⟩ := bp
  obtain ⟨gq0, gq1, gq2⟩ := bq
  go_wp2
  go_ret
  exact ⟨rfl, HB.out⟩
end Go.Proofs.Ytcefgacmagobnaa

namespace Go.Proofs.Ytcefgacmagobnaa
open Go.RowKit Go.Deep


set_option maxRecDepth 8000 in
set_option maxHeartbeats 16000000 in
theorem lawRecAgree (ds : List Dt) (cs : List Value)  (an0 : Bool) (w : World) (h : Raw w shRecWorld ds cs) (hz : szd ds)
    (hS : wtL ds ≤ 1048576 → ∀ (c : List Value) (F : List Nat) (W : World), Rep W true shRecWorld F ds c → Calls Try.prog 13 #[.agg c.toArray] W (fun e w' => e = .returned (.bool an0) ∧ Below W.heap.size W w'))
    (hI : wtL ds ≤ 1048576 → ∀ (c : List Value) (F : List Nat) (W : World), Rep W true shRecWorld F ds c → Calls Try.prog 14 #[.agg c.toArray] W (fun e w' => e = .returned (.bool an0) ∧ Below W.heap.size W w')) :
    Calls Try.prog 5 #[.agg cs.toArray] w fun e w' => e = .returned (.bool true) ∧ Below w.heap.size w w' := by
  have HR := uh h
  have HZ := uh hz
  have HSP := uh hS
  have HIM := uh hI
  have LNX : Hid (cs.length = 3) := h.len
  clear h hz hS hI
  obtain ⟨wa, hwa⟩ : ∃ wa, wa = w.alloc (.cells cs.toArray 26) := ⟨_, rfl⟩
  have HB : Hid (Below w.heap.size w wa) := by show Below _ _ _; rw [hwa]; exact blw_alloc (Below.refl _ _) _
  have HX : Hid (LBox wa w.heap.size cs) := by show LBox _ _ _; rw [hwa]; exact LBox.new w cs.toArray _ _ rfl
  go_enter Try.func5, Try.ntmps5
  go_upto_region 1 with fail
  rw [← hwa]
  clear hwa
  have hzX := HX.out.lt
  have haX := HX.out.at_
  obtain ⟨m, hm⟩ : ∃ m : Int, m = if ((wtL ds : Nat) : Int) ≤ 1048576 then 1048576 - ((wtL ds : Nat) : Int) else -1 := ⟨_, rfl⟩
  have HC := uh (szRecWorld ds cs 1048576 wa (by omega) (by omega) (HR.out.later HB.out) HZ.out)
  rw [← hm] at HC
  have HM := uh hm
  clear hm
  go_wp2_with (refine wpList_load_mid rfl 26 _ rfl w.heap.size 0 rfl cs _ haX Try.underlying26 rfl (by rw [LNX.out]; kernel_rfl) ?_)
  refine HC.out.mono ?_
  rintro e w1 ⟨rfl, hb⟩
  clear hzX haX
  replace HB := uh (blw_trans HB.out hb)
  replace HX := uh (HX.out.later hb)
  clear hb HC
  by_cases hl : m < 0
  · go_wp2
    go_ret
    exact ⟨rfl, HB.out⟩
  have HW : Hid (wtL ds ≤ 1048576) := by
    show _ ≤ _; have h2 := HM.out
    split at h2
    · omega
    · omega
  have hzX := HX.out.lt
  have haX := HX.out.at_
  go_wp2_with (refine wpList_load_mid rfl 26 _ rfl w.heap.size 0 rfl cs _ haX Try.underlying26 rfl (by rw [LNX.out]; kernel_rfl) ?_)
  refine (toRecWorld ds cs w1 (HR.out.later HB.out) HW.out).mono ?_
  rintro e w2 ⟨c1, F1, rfl, rep, nd, fr, hb⟩
  clear hzX haX
  replace HB := uh (blw_trans HB.out hb)
  replace HX := uh (HX.out.later hb)
  clear hb
  have HC := uh (HSP.out HW.out c1 F1 w2 rep)
  clear rep nd fr HSP
  have hzX := HX.out.lt
  go_wp2_with fail
  refine HC.out.mono ?_
  rintro e w3 ⟨rfl, hb⟩
  clear hzX
  clear HC
  replace HB := uh (blw_trans HB.out hb)
  replace HX := uh (HX.out.later hb)
  clear hb
  have hzX := HX.out.lt
  have haX := HX.out.at_
  go_wp2_with (refine wpList_load_mid rfl 26 _ rfl w.heap.size 0 rfl cs _ haX Try.underlying26 rfl (by rw [LNX.out]; kernel_rfl) ?_)
  refine (toRecWorld ds cs w3 (HR.out.later HB.out) HW.out).mono ?_
  rintro e w4 ⟨cQ, FQ, rfl, rep, nd, fr, hb⟩
  clear hzX haX
  replace HB := uh (blw_trans HB.out hb)
  replace HX := uh (HX.out.later hb)
  have RPQ := uh rep
  have LNQ : Hid (cQ.length = 3) := rep.len
  obtain ⟨yQ, hy⟩ : ∃ y, y = (w4.alloc (.cells #[.slice none 0 0, .slice none 0 0, .slice none 0 0] 33)).setCells w4.heap.size 0 cQ := ⟨_, rfl⟩
  have hth := nv_there w4 #[.slice none 0 0, .slice none 0 0, .slice none 0 0] 33 cQ (by rw [LNQ.out]; rfl)
  have hone := all_oneCell_toArray rep.raw.one
  have hsz : (Try.prog.info? 33).map (·.size) = some cQ.toArray.size := by rw [List.size_toArray, LNQ.out]; kernel_rfl
  have HXQ : Hid (LBox yQ w4.heap.size cQ) := by show LBox _ _ _; rw [hy]; exact nv_box w4 #[.slice none 0 0, .slice none 0 0, .slice none 0 0] 33 cQ (by rw [LNQ.out]; rfl)
  have hby : Below w4.heap.size w4 yQ := by rw [hy]; exact nv_below w4 #[.slice none 0 0, .slice none 0 0, .slice none 0 0] 33 cQ
  clear rep nd fr hb
  replace HB := uh (blw_trans HB.out hby)
  replace HX := uh (HX.out.later hby)
  replace RPQ := uh (RPQ.out.later hby)
  clear hby
  go_upto_region 7 with (refine wpList_store_mid rfl 33 _ _ rfl w4.heap.size 0 cQ.toArray rfl rfl hth hsz hone ?_)
  first | rw [← hy] | (simp only [List.toList_toArray]; rw [← hy])
  clear hy hth hone hsz
  have hzX := HX.out.lt
  have hzQ := HXQ.out.lt
  have haQ := HXQ.out.at_
  have HC := uh (HIM.out HW.out cQ FQ yQ RPQ.out)
  go_wp2_with (refine wpList_load_mid rfl 33 _ rfl w4.heap.size 0 rfl cQ _ haQ Try.underlying33 rfl (by rw [LNQ.out]; kernel_rfl) ?_)
  refine HC.out.mono ?_
  rintro e w6 ⟨rfl, hb⟩
  clear hzX hzQ haQ
  clear HC HIM
  replace HB := uh (blw_trans HB.out hb)
  replace HX := uh (HX.out.later hb)
  replace HXQ := uh (HXQ.out.later hb)
  replace RPQ := uh (RPQ.out.later hb)
  clear hb
  go_upto_region 10 with fail
  refine RY.region_past w6 (Below.refl _ _) (VEq (.agg cs.toArray) (.agg cQ.toArray) (fun W d => ∃ c F, d = c.toArray ∧ Rep W true shRecWorld F ds c)) (VEq_mono (.agg cs.toArray) (.agg cQ.toArray) _ (by rintro W W' d ⟨c, F, rfl, h⟩ hb; exact ⟨c, F, rfl, h.later hb⟩)) (by kernel_rfl) (by kernel_rfl) (by kernel_rfl) (by kernel_rfl) ?_ ?_
  · intro i o ho a W hW hk hd
    have z0 := HXQ.out.later hW
    have z1 := HX.out.later hW
    match i, ho with
    | 0, ho =>
      injection ho with ho; subst ho
      exact Or.inl ⟨_, W, exec_load_mid 33 _ rfl w4.heap.size 0 ((hk 5 rfl).trans rfl) cQ _ z0.at_ Try.underlying33 rfl (by rw [LNQ.out]; kernel_rfl), Below.refl _ _, rfl⟩
    | 1, ho =>
      injection ho with ho; subst ho
      exact Or.inl ⟨_, W, exec_load_mid 26 _ rfl w.heap.size 0 ((hk 1 rfl).trans rfl) cs _ z1.at_ Try.underlying26 rfl (by rw [LNX.out]; kernel_rfl), Below.refl _ _, rfl⟩
    | 2, ho =>
      injection ho with ho; subst ho
      have e0 : a.tmps[23]?.getD undef = _ := (RY.ev_tmp a 23).trans (hd 1 _ 23 rfl rfl ⟨⟨1, .data⟩, by simp, rfl, rfl⟩)
      refine Or.inr ⟨8, #[.agg cs.toArray], by simp [go_sem, e0], (toRecWorld ds cs W (HR.out.later (blw_trans HB.out hW)) HW.out).mono ?_⟩
      rintro e W' ⟨c, F, rfl, hr, _, _, hb⟩
      exact ⟨_, rfl, hb, _, rfl, c, F, rfl, hr⟩
    | 3, ho =>
      injection ho with ho; subst ho
      have e0 : a.tmps[22]?.getD undef = _ := (RY.ev_tmp a 22).trans (hd 0 _ 22 rfl rfl ⟨⟨0, .data⟩, by simp, rfl, rfl⟩)
      obtain ⟨b1, e1, c, F, rfl, hr1⟩ := hd 2 _ 24 rfl rfl ⟨⟨2, .data⟩, by simp, rfl, rfl⟩
      have e1 := (RY.ev_tmp a 24).trans e1
      refine Or.inr ⟨10, #[.agg cQ.toArray, .agg c.toArray], by simp [go_sem, e0, e1], (eqRecWorld ds cQ c W (RPQ.out.raw.later hW) hr1.raw).mono ?_⟩
      rintro e W' ⟨rfl, hb⟩
      exact ⟨_, rfl, hb, rfl⟩
    | 4, ho =>
      injection ho with ho; subst ho
      have e0 : a.tmps[25]?.getD undef = _ := (RY.ev_tmp a 25).trans (hd 3 _ 25 rfl rfl ⟨⟨3, .data⟩, by simp, rfl, rfl⟩)
      exact Or.inl ⟨.bool false, W, by simp [execOp, go_sem, e0], Below.refl _ _, rfl⟩
    | n + 5, ho => simp at ho
  intro w7 vs hb hvs
  have el_ : vs 26 = .bool false := hvs 4 _ 26 rfl rfl
  simp only [RY.putAll, Act.put, List.setIfInBounds_toArray, List.set_cons_zero, List.set_cons_succ]
  rw [el_]
  generalize vs 22 = s0
  generalize vs 23 = s1
  generalize vs 24 = s2
  generalize vs 25 = s3
  clear hvs el_
  replace HB := uh (blw_trans HB.out hb)
  clear hb
  go_wp2
  go_ret
  exact ⟨rfl, HB.out⟩

end Go.Proofs.Ytcefgacmagobnaa
