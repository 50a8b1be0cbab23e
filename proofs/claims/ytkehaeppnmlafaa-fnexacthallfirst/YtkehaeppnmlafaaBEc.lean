/-
  Books of the hall that are alike.
-/
import Derived.Test.YtkehaeppnmlafaaBEa
import Derived.Test.YtkehaeppnmlafaaBEb
namespace Go.Proofs.Ytkehaeppnmlafaa
open Go.RowKit Go.Deep

set_option maxRecDepth 8000 in
set_option maxHeartbeats 8000000 in
theorem eqHallBook (ds : List Dt) (cs cs' : List Value) (w : World) (h : Raw w shHallBook ds cs) (h' : Raw w shHallBook ds cs') :
    Calls Try.prog 8 #[.agg cs.toArray, .agg cs'.toArray] w fun e w' => e = .returned (.bool true) ∧ Below w.heap.size w w' := by
  obtain ⟨d0, d1, rfl, t0, t1⟩ := segTypHallBook h.typ
  obtain ⟨zpp, hzpp⟩ : ∃ x, x = cs := ⟨_, rfl⟩
  obtain ⟨cp0, xp0, hxp0, rp0, hp1⟩ := Raw.cut2 h t0
  obtain ⟨cp1, xp1, hxp1, rp1, hp2⟩ := Raw.cut2 hp1 t1
  have hxpn := hp2.c_n
  have Hp : Hid (cs = (cp0 ++ ((cp1 ++ ([]))))) := by show _ = _; rw [hxp0, hxp1, hxpn]
  clear hxp0 hxp1 hxpn
  have Lp0 : Hid (cp0.length = 7) := rp0.len
  have Lp1 : Hid (cp1.length = 4) := rp1.len
  obtain ⟨zqq, hzqq⟩ : ∃ x, x = cs' := ⟨_, rfl⟩
  obtain ⟨cq0, xq0, hxq0, rq0, hq1⟩ := Raw.cut2 h' t0
  obtain ⟨cq1, xq1, hxq1, rq1, hq2⟩ := Raw.cut2 hq1 t1
  have hxqn := hq2.c_n
  have Hq : Hid (cs' = (cq0 ++ ((cq1 ++ ([]))))) := by show _ = _; rw [hxq0, hxq1, hxqn]
  clear hxq0 hxq1 hxqn
  have Lq0 : Hid (cq0.length = 7) := rq0.len
  have Lq1 : Hid (cq1.length = 4) := rq1.len
  obtain ⟨wa, hwa⟩ : ∃ wa, wa = (w.alloc (.cells cs.toArray 39)).alloc (.cells cs'.toArray 39) := ⟨_, rfl⟩
  have HB : Hid (Below w.heap.size w wa) := by show Below _ _ _; rw [hwa]; exact blw_alloc (blw_alloc (Below.refl _ _) _) _
  have HX : Hid (LBox wa w.heap.size cs) := by show LBox _ _ _; rw [hwa]; exact (LBox.new w cs.toArray _ _ rfl).past _
  have HY : Hid (LBox wa (w.heap.size + 1) cs') := by show LBox _ _ _; rw [hwa]; exact LBox.new _ cs'.toArray _ _ (by simp)
  have Rp0 := uh (rp0.later HB.out)
  have Rq0 := uh (rq0.later HB.out)
  have Rp1 := uh (rp1.later HB.out)
  have Rq1 := uh (rq1.later HB.out)
  clear h h' rp0 rq0 rp1 rq1 hp1 hq1 hp2 hq2 hzpp hzqq zpp zqq
  go_enter Try.func8, Try.ntmps8
  go_upto_region 1 with fail
  rw [← hwa]
  clear hwa
  have yz := HX.out.lt
  have xz := HY.out.lt
  have bp := boxHallBook Lp0.out Lp1.out (by have := HX.out.at_; rw [Hp.out] at this; exact this)
  have bq := boxHallBook Lq0.out Lq1.out (by have := HY.out.at_; rw [Hq.out] at this; exact this)
  obtain ⟨gp0, gp1⟩ := bp
  obtain ⟨gq0, gq1⟩ := bq
  go_wp2_with (first | refine wpList_load_mid rfl 32 _ rfl w.heap.size 0 rfl cp0 _ gp0 Try.underlying32 rfl (by rw [Lp0.out]; kernel_rfl) ?_ | refine wpList_load_mid rfl 32 _ rfl (w.heap.size + 1) 0 rfl cq0 _ gq0 Try.underlying32 rfl (by rw [Lq0.out]; kernel_rfl) ?_)
  refine (eqGateBook d0 cp0 cq0 wa Rp0.out Rq0.out).mono ?_
  rintro e x0 ⟨rfl, hb0⟩
  replace HB := uh (blw_trans HB.out hb0)
  replace HX := uh (HX.out.later hb0)
  replace HY := uh (HY.out.later hb0)
  replace Rp1 := uh (Rp1.out.later hb0)
  replace Rq1 := uh (Rq1.out.later hb0)
  clear hb0 yz xz gp0 gq0 gp1 gq1
  have yz := HX.out.lt
  have xz := HY.out.lt
  have bp := boxHallBook Lp0.out Lp1.out (by have := HX.out.at_; rw [Hp.out] at this; exact this)
  have bq := boxHallBook Lq0.out Lq1.out (by have := HY.out.at_; rw [Hq.out] at this; exact this)
  obtain ⟨gp0, gp1⟩ := bp
  obtain ⟨gq0, gq1⟩ := bq
  go_wp2_with (first | refine wpList_load_mid rfl 37 _ rfl w.heap.size 7 rfl cp1 _ gp1 Try.underlying37 rfl (by rw [Lp1.out]; kernel_rfl) ?_ | refine wpList_load_mid rfl 37 _ rfl (w.heap.size + 1) 7 rfl cq1 _ gq1 Try.underlying37 rfl (by rw [Lq1.out]; kernel_rfl) ?_)
  refine (eqStewBook d1 cp1 cq1 x0 Rp1.out Rq1.out).mono ?_
  rintro e x1 ⟨rfl, hb1⟩
  replace HB := uh (blw_trans HB.out hb1)
  replace HX := uh (HX.out.later hb1)
  replace HY := uh (HY.out.later hb1)
  clear hb1 yz xz gp0 gq0 gp1 gq1
  have yz := HX.out.lt
  have xz := HY.out.lt
  have bp := boxHallBook Lp0.out Lp1.out (by have := HX.out.at_; rw [Hp.out] at this; exact this)
  have bq := boxHallBook Lq0.out Lq1.out (by have := HY.out.at_; rw [Hq.out] at this; exact this)
  obtain ⟨gp0, gp1⟩ := bp
  obtain ⟨gq0, gq1⟩ := bq
  go_wp2
  go_ret
  exact ⟨rfl, HB.out⟩
end Go.Proofs.Ytkehaeppnmlafaa
