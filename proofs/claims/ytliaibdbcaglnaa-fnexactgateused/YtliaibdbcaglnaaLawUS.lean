/-
  The walk over the law of GateUsed.
-/
import Derived.Test.YtliaibdbcaglnaaWalkUS
import Derived.Deep.DeepCutAuto
namespace Go.Proofs.Ytliaibdbcaglnaa
open Go.RowKit Go.Deep


set_option maxRecDepth 8000 in
set_option maxHeartbeats 40000000 in
theorem lawUsed (L : Lw) (lv0 lv1 lv2 : Value) (K : Bk) (bv0 bv1 bv2 bv3 : Value) (team : ByteArray) (res : ByteArray) (w : World) (h0 : LwAt w lv0 lv1 lv2 L) (h1 : BkAt w bv0 bv1 bv2 bv3 K) :
    Calls Try.prog 4 #[.agg #[lv0, lv1, lv2], .agg #[.int .i64 K.now, .int .i64 K.tick, .int .i64 K.given, bv0, bv1, bv2, bv3], .string team, .string res] w fun e w' => e = .returned (.bool true) ∧ Below w.heap.size w w' := by
  have HH : Hid (LwAt w lv0 lv1 lv2 L ∧ BkAt w bv0 bv1 bv2 bv3 K) := ⟨h0, h1⟩
  clear h0 h1
  obtain ⟨wa, hwa⟩ : ∃ wa, wa = (w.alloc (.cells #[lv0, lv1, lv2] 26)).alloc (.cells #[.int .i64 K.now, .int .i64 K.tick, .int .i64 K.given, bv0, bv1, bv2, bv3] 49) := ⟨_, rfl⟩
  have HBa : Hid (Below w.heap.size w wa) := by show Below _ _ _; rw [hwa]; exact (blw_alloc (blw_alloc (Below.refl _ _) _) _)
  have HXa : Hid (Box3 wa w.heap.size (lv0) (lv1) (lv2) ∧ Box7 wa (w.heap.size + 1) (.int .i64 K.now) (.int .i64 K.tick) (.int .i64 K.given) (bv0) (bv1) (bv2) (bv3)) := by show _ ∧ _; rw [hwa]; exact ⟨((Box3.new' _ _ _ _ _ _ (by simp)).past _), (Box7.new' _ _ _ _ _ _ _ _ _ _ (by simp))⟩
  go_enter Try.func4, Try.ntmps4
  go_upto_region 1 with fail
  rw [← hwa]
  clear hwa
  by_cases cs0 : (1048576 : Int) < (team.size : Int)
  · go_wp2
    go_ret
    exact ⟨rfl, HBa.out⟩
  by_cases cs1 : (1048576 : Int) < (res.size : Int)
  · go_wp2
    go_ret
    exact ⟨rfl, HBa.out⟩
  obtain ⟨y0z, y0_0, y0_1, y0_2⟩ := HXa.out.1
  obtain ⟨y1z, y1_0, y1_1, y1_2, y1_3, y1_4, y1_5, y1_6⟩ := HXa.out.2
  go_wp2_with fail
  refine (szLaw L lv0 lv1 lv2 1048576 wa (by omega) (by omega) (HH.out.1.later HBa.out)).mono ?_
  rintro e wb ⟨⟨r0, rfl, hr⟩, hb⟩
  have HR0 : Hid (0 ≤ r0 → L.small) := hr.2.2
  have q0 : -1 ≤ r0 := hr.1
  have q0' : r0 ≤ 1048576 := hr.2.1
  have HBb : Hid (Below w.heap.size w wb) := blw_trans HBa.out hb
  have HXb : Hid (Box3 wb w.heap.size (lv0) (lv1) (lv2) ∧ Box7 wb (w.heap.size + 1) (.int .i64 K.now) (.int .i64 K.tick) (.int .i64 K.given) (bv0) (bv1) (bv2) (bv3)) := ⟨HXa.out.1.later hb, HXa.out.2.later hb⟩
  clear hr hb y0z y0_0 y0_1 y0_2 y1z y1_0 y1_1 y1_2 y1_3 y1_4 y1_5 y1_6 HXa HBa
  by_cases c0 : r0 < 0
  · go_wp2
    go_ret
    exact ⟨rfl, HBb.out⟩
  have HS0 : Hid (L.small) := HR0.out (by omega)
  clear HR0
  obtain ⟨y0z, y0_0, y0_1, y0_2⟩ := HXb.out.1
  obtain ⟨y1z, y1_0, y1_1, y1_2, y1_3, y1_4, y1_5, y1_6⟩ := HXb.out.2
  go_wp2_with fail
  refine (szBook K bv0 bv1 bv2 bv3 r0 wb (by omega) (by omega) (HH.out.2.later HBb.out)).mono ?_
  rintro e wc ⟨⟨r1, rfl, hr⟩, hb⟩
  have HR1 : Hid (0 ≤ r1 → K.small) := hr.2.2
  have q1 : -1 ≤ r1 := hr.1
  have q1' : r1 ≤ r0 := hr.2.1
  have HBc : Hid (Below w.heap.size w wc) := blw_trans HBb.out hb
  have HXc : Hid (Box3 wc w.heap.size (lv0) (lv1) (lv2) ∧ Box7 wc (w.heap.size + 1) (.int .i64 K.now) (.int .i64 K.tick) (.int .i64 K.given) (bv0) (bv1) (bv2) (bv3)) := ⟨HXb.out.1.later hb, HXb.out.2.later hb⟩
  clear hr hb y0z y0_0 y0_1 y0_2 y1z y1_0 y1_1 y1_2 y1_3 y1_4 y1_5 y1_6 HXb HBb
  by_cases c1 : r1 < 0
  · go_wp2
    go_ret
    exact ⟨rfl, HBc.out⟩
  have HS1 : Hid (K.small) := HR1.out (by omega)
  clear HR1
  have HT0 : Hid (∀ W, Below w.heap.size w W → Calls Try.prog 8 #[.agg #[lv0, lv1, lv2]] W fun e w' => ∃ a0x a1x a2x, (e = .returned (.agg #[.slice (some ⟨a0x, 0, none⟩) L.shapes.length L.shapes.length, .slice (some ⟨a1x, 0, none⟩) L.mends.length L.mends.length, .slice (some ⟨a2x, 0, none⟩) L.teams.length L.teams.length]) ∧ LwIn w' a0x a1x a2x L) ∧ Below W.heap.size W w') := by
    intro W hW
    refine (toLaw L lv0 lv1 lv2 W HS0.out (HH.out.1.later hW)).mono ?_
    rintro e w' ⟨⟨a0x, a1x, a2x, rfl, hi, _⟩, hb⟩
    exact ⟨a0x, a1x, a2x, ⟨rfl, hi⟩, hb⟩
  have HT1 : Hid (∀ W, Below w.heap.size w W → Calls Try.prog 15 #[.agg #[.int .i64 K.now, .int .i64 K.tick, .int .i64 K.given, bv0, bv1, bv2, bv3]] W fun e w' => ∃ e0x e1x e2x e3x, (e = .returned (.agg #[.int .i64 K.now, .int .i64 K.tick, .int .i64 K.given, .slice (some ⟨e0x, 0, none⟩) K.objects.length K.objects.length, .slice (some ⟨e1x, 0, none⟩) K.grants.length K.grants.length, .slice (some ⟨e2x, 0, none⟩) K.ledgers.length K.ledgers.length, .slice (some ⟨e3x, 0, none⟩) K.purses.length K.purses.length]) ∧ BkIn w' e0x e1x e2x e3x K) ∧ Below W.heap.size W w') := by
    intro W hW
    refine (toBook K bv0 bv1 bv2 bv3 W HS1.out (HH.out.2.later hW)).mono ?_
    rintro e w' ⟨⟨e0x, e1x, e2x, e3x, rfl, hi, _⟩, hb⟩
    exact ⟨e0x, e1x, e2x, e3x, ⟨rfl, hi⟩, hb⟩
  have HSF : Hid (∀ W a0x a1x a2x e0x e1x e2x e3x, LwIn W a0x a1x a2x L → BkIn W e0x e1x e2x e3x K → Calls Try.prog 14 #[.agg #[.slice (some ⟨a0x, 0, none⟩) L.shapes.length L.shapes.length, .slice (some ⟨a1x, 0, none⟩) L.mends.length L.mends.length, .slice (some ⟨a2x, 0, none⟩) L.teams.length L.teams.length], .agg #[.int .i64 K.now, .int .i64 K.tick, .int .i64 K.given, .slice (some ⟨e0x, 0, none⟩) K.objects.length K.objects.length, .slice (some ⟨e1x, 0, none⟩) K.grants.length K.grants.length, .slice (some ⟨e2x, 0, none⟩) K.ledgers.length K.ledgers.length, .slice (some ⟨e3x, 0, none⟩) K.purses.length K.purses.length], .string team, .string res] W fun e w' => e = .returned (.int .i64 (used L K team res)) ∧ Below W.heap.size W w') := fun W a0x a1x a2x e0x e1x e2x e3x k0 k1 => usedS L K _ _ _ _ _ _ _ team res W k0 k1
  have HIF : Hid (∀ W a0x a1x a2x e0x e1x e2x e3x, LwIn W a0x a1x a2x L → BkIn W e0x e1x e2x e3x K → Calls Try.prog 16 #[.agg #[.slice (some ⟨a0x, 0, none⟩) L.shapes.length L.shapes.length, .slice (some ⟨a1x, 0, none⟩) L.mends.length L.mends.length, .slice (some ⟨a2x, 0, none⟩) L.teams.length L.teams.length], .agg #[.int .i64 K.now, .int .i64 K.tick, .int .i64 K.given, .slice (some ⟨e0x, 0, none⟩) K.objects.length K.objects.length, .slice (some ⟨e1x, 0, none⟩) K.grants.length K.grants.length, .slice (some ⟨e2x, 0, none⟩) K.ledgers.length K.ledgers.length, .slice (some ⟨e3x, 0, none⟩) K.purses.length K.purses.length], .string team, .string res] W fun e w' => e = .returned (.int .i64 (used L K team res)) ∧ Below W.heap.size W w') := fun W a0x a1x a2x e0x e1x e2x e3x k0 k1 => usedI L K _ _ _ _ _ _ _ team res W k0 k1
  obtain ⟨an, han⟩ : ∃ an, an = used L K team res := ⟨_, rfl⟩
  rw [← han] at HSF HIF
  clear han
  obtain ⟨y0z, y0_0, y0_1, y0_2⟩ := HXc.out.1
  obtain ⟨y1z, y1_0, y1_1, y1_2, y1_3, y1_4, y1_5, y1_6⟩ := HXc.out.2
  go_upto_region 12 with fail
  go_cut [10] (fun sA wx => sA = .int .i64 an ∧ Below wc.heap.size wc wx)
  case first =>
    have HXl : Hid (∀ W, Below wc.heap.size wc W → Box3 W w.heap.size (lv0) (lv1) (lv2) ∧ Box7 W (w.heap.size + 1) (.int .i64 K.now) (.int .i64 K.tick) (.int .i64 K.given) (bv0) (bv1) (bv2) (bv3)) := fun W hW => ⟨HXc.out.1.later hW, HXc.out.2.later hW⟩
    go_region_with (first
      | (go_at_call 8; refine (HT0.out _ ?_).mono ?_; (repeat (first | exact HBc.out | refine Below.drew ?_)); rintro e wN0 ⟨a0x, a1x, a2x, ⟨rfl, hi0⟩, hbN⟩; have kb0 : Below wc.heap.size wc wN0 := blw_trans (by repeat (first | exact Below.refl _ _ | refine Below.drew ?_)) hbN; clear hbN; obtain ⟨⟨g0z, g0_0, g0_1, g0_2⟩, ⟨g1z, g1_0, g1_1, g1_2, g1_3, g1_4, g1_5, g1_6⟩⟩ := HXl.out wN0 kb0)
      | (go_at_call 15; refine (HT1.out _ ?_).mono ?_; (repeat (first | exact blw_trans HBc.out kb0 | refine Below.drew ?_)); rintro e wN1 ⟨e0x, e1x, e2x, e3x, ⟨rfl, hi1⟩, hbN⟩; have kb1 : Below wc.heap.size wc wN1 := blw_trans (by repeat (first | exact kb0 | refine Below.drew ?_)) hbN; have hi0 := hi0.later (blw_trans (by repeat (first | exact Below.refl _ _ | refine Below.drew ?_)) hbN); clear hbN; obtain ⟨⟨g0z, g0_0, g0_1, g0_2⟩, ⟨g1z, g1_0, g1_1, g1_2, g1_3, g1_4, g1_5, g1_6⟩⟩ := HXl.out wN1 kb1)
      | (go_at_call 14; refine (HSF.out _ _ _ _ _ _ _ _ ?_ ?_).mono ?_; exact hi0.later (by repeat (first | exact Below.refl _ _ | refine Below.drew ?_)); exact hi1.later (by repeat (first | exact Below.refl _ _ | refine Below.drew ?_)); rintro e wC ⟨rfl, hbC⟩; have kC : Below wc.heap.size wc wC := blw_trans (by repeat (first | exact kb1 | refine Below.drew ?_)) hbC; clear hbC))
    all_goals
      go_wp2_with fail
      go_meet
      refine ⟨rfl, ?_⟩
      repeat (first | exact kC | refine Below.drew ?_)
  case rest =>
  obtain ⟨rfl, hb⟩ := hcut
  rename World => wd
  have HBd : Hid (Below w.heap.size w wd) := blw_trans HBc.out hb
  have HXd : Hid (Box3 wd w.heap.size (lv0) (lv1) (lv2) ∧ Box7 wd (w.heap.size + 1) (.int .i64 K.now) (.int .i64 K.tick) (.int .i64 K.given) (bv0) (bv1) (bv2) (bv3)) := ⟨HXc.out.1.later hb, HXc.out.2.later hb⟩
  clear hb y0z y0_0 y0_1 y0_2 y1z y1_0 y1_1 y1_2 y1_3 y1_4 y1_5 y1_6 HXc HBc HSF
  obtain ⟨y0z, y0_0, y0_1, y0_2⟩ := HXd.out.1
  obtain ⟨y1z, y1_0, y1_1, y1_2, y1_3, y1_4, y1_5, y1_6⟩ := HXd.out.2
  go_wp2_with fail
  refine (HT0.out _ HBd.out).mono ?_
  rintro e we ⟨a0p, a1p, a2p, ⟨rfl, hi⟩, hb⟩
  obtain ⟨wf, hwn⟩ : ∃ wf, wf = we.alloc (.cells #[.slice (some ⟨a0p, 0, none⟩) L.shapes.length L.shapes.length, .slice (some ⟨a1p, 0, none⟩) L.mends.length L.mends.length, .slice (some ⟨a2p, 0, none⟩) L.teams.length L.teams.length] 37) := ⟨_, rfl⟩
  obtain ⟨m0, hm0⟩ : ∃ m0, m0 = we.heap.size := ⟨_, rfl⟩
  have hbn : Below we.heap.size we wf := by rw [hwn]; exact blw_alloc (Below.refl _ _) _
  have HY0f : Hid (Box3 wf m0 (.slice (some ⟨a0p, 0, none⟩) L.shapes.length L.shapes.length) (.slice (some ⟨a1p, 0, none⟩) L.mends.length L.mends.length) (.slice (some ⟨a2p, 0, none⟩) L.teams.length L.teams.length)) := by show Box3 _ _ _ _ _; rw [hwn, hm0]; exact Box3.new' _ _ _ _ _ _ rfl
  have HI0f : Hid (LwIn wf a0p a1p a2p L) := hi.later hbn
  have HBf : Hid (Below w.heap.size w wf) := blw_trans (blw_trans HBd.out hb) hbn
  have HXf : Hid (Box3 wf w.heap.size (lv0) (lv1) (lv2) ∧ Box7 wf (w.heap.size + 1) (.int .i64 K.now) (.int .i64 K.tick) (.int .i64 K.given) (bv0) (bv1) (bv2) (bv3)) := ⟨(HXd.out.1.later hb).later hbn, (HXd.out.2.later hb).later hbn⟩
  go_upto_region 14 with fail
  rw [← hwn, ← hm0]
  clear hwn hm0 hi hb hbn y0z y0_0 y0_1 y0_2 y1z y1_0 y1_1 y1_2 y1_3 y1_4 y1_5 y1_6 HXd HBd 
  obtain ⟨y0z, y0_0, y0_1, y0_2⟩ := HXf.out.1
  obtain ⟨y1z, y1_0, y1_1, y1_2, y1_3, y1_4, y1_5, y1_6⟩ := HXf.out.2
  obtain ⟨x0z, x0_0, x0_1, x0_2⟩ := HY0f.out
  go_wp2_with fail
  refine (HT1.out _ HBf.out).mono ?_
  rintro e wg ⟨e0p, e1p, e2p, e3p, ⟨rfl, hi⟩, hb⟩
  obtain ⟨wh, hwn⟩ : ∃ wh, wh = wg.alloc (.cells #[.int .i64 K.now, .int .i64 K.tick, .int .i64 K.given, .slice (some ⟨e0p, 0, none⟩) K.objects.length K.objects.length, .slice (some ⟨e1p, 0, none⟩) K.grants.length K.grants.length, .slice (some ⟨e2p, 0, none⟩) K.ledgers.length K.ledgers.length, .slice (some ⟨e3p, 0, none⟩) K.purses.length K.purses.length] 57) := ⟨_, rfl⟩
  obtain ⟨m1, hm1⟩ : ∃ m1, m1 = wg.heap.size := ⟨_, rfl⟩
  have hbn : Below wg.heap.size wg wh := by rw [hwn]; exact blw_alloc (Below.refl _ _) _
  have HY1h : Hid (Box7 wh m1 (.int .i64 K.now) (.int .i64 K.tick) (.int .i64 K.given) (.slice (some ⟨e0p, 0, none⟩) K.objects.length K.objects.length) (.slice (some ⟨e1p, 0, none⟩) K.grants.length K.grants.length) (.slice (some ⟨e2p, 0, none⟩) K.ledgers.length K.ledgers.length) (.slice (some ⟨e3p, 0, none⟩) K.purses.length K.purses.length)) := by show Box7 _ _ _ _ _ _ _ _ _; rw [hwn, hm1]; exact Box7.new' _ _ _ _ _ _ _ _ _ _ rfl
  have HI1h : Hid (BkIn wh e0p e1p e2p e3p K) := hi.later hbn
  have HBh : Hid (Below w.heap.size w wh) := blw_trans (blw_trans HBf.out hb) hbn
  have HXh : Hid (Box3 wh w.heap.size (lv0) (lv1) (lv2) ∧ Box7 wh (w.heap.size + 1) (.int .i64 K.now) (.int .i64 K.tick) (.int .i64 K.given) (bv0) (bv1) (bv2) (bv3)) := ⟨(HXf.out.1.later hb).later hbn, (HXf.out.2.later hb).later hbn⟩
  have HY0h : Hid (Box3 wh m0 (.slice (some ⟨a0p, 0, none⟩) L.shapes.length L.shapes.length) (.slice (some ⟨a1p, 0, none⟩) L.mends.length L.mends.length) (.slice (some ⟨a2p, 0, none⟩) L.teams.length L.teams.length)) := (HY0f.out.later hb).later hbn
  have HI0h : Hid (LwIn wh a0p a1p a2p L) := (HI0f.out.later hb).later hbn
  go_upto_region 15 with fail
  rw [← hwn, ← hm1]
  clear hwn hm1 hi hb hbn y0z y0_0 y0_1 y0_2 y1z y1_0 y1_1 y1_2 y1_3 y1_4 y1_5 y1_6 HXf HBf HY0f HI0f x0z x0_0 x0_1 x0_2
  obtain ⟨x0z, x0_0, x0_1, x0_2⟩ := HY0h.out
  obtain ⟨x1z, x1_0, x1_1, x1_2, x1_3, x1_4, x1_5, x1_6⟩ := HY1h.out
  go_wp2_with fail
  refine (HIF.out _ _ _ _ _ _ _ _ HI0h.out HI1h.out).mono ?_
  rintro e wi ⟨rfl, hb⟩
  have HBi : Hid (Below w.heap.size w wi) := blw_trans HBh.out hb
  have HXi : Hid (Box3 wi w.heap.size (lv0) (lv1) (lv2) ∧ Box7 wi (w.heap.size + 1) (.int .i64 K.now) (.int .i64 K.tick) (.int .i64 K.given) (bv0) (bv1) (bv2) (bv3)) := ⟨HXh.out.1.later hb, HXh.out.2.later hb⟩
  have HY0i : Hid (Box3 wi m0 (.slice (some ⟨a0p, 0, none⟩) L.shapes.length L.shapes.length) (.slice (some ⟨a1p, 0, none⟩) L.mends.length L.mends.length) (.slice (some ⟨a2p, 0, none⟩) L.teams.length L.teams.length)) := HY0h.out.later hb
  have HI0i : Hid (LwIn wi a0p a1p a2p L) := HI0h.out.later hb
  have HY1i : Hid (Box7 wi m1 (.int .i64 K.now) (.int .i64 K.tick) (.int .i64 K.given) (.slice (some ⟨e0p, 0, none⟩) K.objects.length K.objects.length) (.slice (some ⟨e1p, 0, none⟩) K.grants.length K.grants.length) (.slice (some ⟨e2p, 0, none⟩) K.ledgers.length K.ledgers.length) (.slice (some ⟨e3p, 0, none⟩) K.purses.length K.purses.length)) := HY1h.out.later hb
  have HI1i : Hid (BkIn wi e0p e1p e2p e3p K) := HI1h.out.later hb
  clear hb x0z x0_0 x0_1 x0_2 x1z x1_0 x1_1 x1_2 x1_3 x1_4 x1_5 x1_6 HXh HBh HIF HY0h HI0h HY1h HI1h
  obtain ⟨y0z, y0_0, y0_1, y0_2⟩ := HXi.out.1
  obtain ⟨y1z, y1_0, y1_1, y1_2, y1_3, y1_4, y1_5, y1_6⟩ := HXi.out.2
  obtain ⟨x0z, x0_0, x0_1, x0_2⟩ := HY0i.out
  obtain ⟨x1z, x1_0, x1_1, x1_2, x1_3, x1_4, x1_5, x1_6⟩ := HY1i.out
  have HEQ : Hid (∀ W a0x a1x a2x, Below wi.heap.size wi W → LwIn W a0x a1x a2x L → Calls Try.prog 11 #[.agg #[.slice (some ⟨a0p, 0, none⟩) L.shapes.length L.shapes.length, .slice (some ⟨a1p, 0, none⟩) L.mends.length L.mends.length, .slice (some ⟨a2p, 0, none⟩) L.teams.length L.teams.length], .agg #[.slice (some ⟨a0x, 0, none⟩) L.shapes.length L.shapes.length, .slice (some ⟨a1x, 0, none⟩) L.mends.length L.mends.length, .slice (some ⟨a2x, 0, none⟩) L.teams.length L.teams.length]] W fun e w' => e = .returned (.bool true) ∧ Below W.heap.size W w') := fun W a0x a1x a2x hW h2 => eqLaw L a0p a1p a2p a0x a1x a2x W (HI0i.out.later hW) h2
  have HKK : Hid (∀ W, Below wi.heap.size wi W → Box3 W m0 (.slice (some ⟨a0p, 0, none⟩) L.shapes.length L.shapes.length) (.slice (some ⟨a1p, 0, none⟩) L.mends.length L.mends.length) (.slice (some ⟨a2p, 0, none⟩) L.teams.length L.teams.length)) := fun W hW => HY0i.out.later hW
  go_upto_region 18 with fail
  go_cut [53] (fun sA wx => sA = .bool false ∧ Below wi.heap.size wi wx)
  case first =>
    go_region_with (first
      | (go_at_call 8; refine (HT0.out _ ?_).mono ?_; (repeat (first | exact HBi.out | refine Below.drew ?_)); rintro e wN ⟨a0x, a1x, a2x, ⟨rfl, hiN⟩, hbN⟩; have kN : Below wi.heap.size wi wN := blw_trans (by repeat (first | exact Below.refl _ _ | refine Below.drew ?_)) hbN; clear hbN; obtain ⟨jz, j_0, j_1, j_2⟩ := HKK.out wN kN)
      | (go_at_call 11; refine (HEQ.out _ _ _ _ ?_ ?_).mono ?_; (repeat (first | exact kN | refine Below.drew ?_)); exact hiN.later (by repeat (first | exact Below.refl _ _ | refine Below.drew ?_)); rintro e wC ⟨rfl, hbC⟩; have kC : Below wi.heap.size wi wC := blw_trans (by repeat (first | exact kN | refine Below.drew ?_)) hbC; clear hbC))
    all_goals
      go_wp2_with fail
      go_meet
      refine ⟨rfl, ?_⟩
      repeat (first | exact kC | refine Below.drew ?_)
  case rest =>
  obtain ⟨rfl, hb⟩ := hcut
  rename World => wj
  have HBj : Hid (Below w.heap.size w wj) := blw_trans HBi.out hb
  have HXj : Hid (Box3 wj w.heap.size (lv0) (lv1) (lv2) ∧ Box7 wj (w.heap.size + 1) (.int .i64 K.now) (.int .i64 K.tick) (.int .i64 K.given) (bv0) (bv1) (bv2) (bv3)) := ⟨HXi.out.1.later hb, HXi.out.2.later hb⟩
  have HY0j : Hid (Box3 wj m0 (.slice (some ⟨a0p, 0, none⟩) L.shapes.length L.shapes.length) (.slice (some ⟨a1p, 0, none⟩) L.mends.length L.mends.length) (.slice (some ⟨a2p, 0, none⟩) L.teams.length L.teams.length)) := HY0i.out.later hb
  have HI0j : Hid (LwIn wj a0p a1p a2p L) := HI0i.out.later hb
  have HY1j : Hid (Box7 wj m1 (.int .i64 K.now) (.int .i64 K.tick) (.int .i64 K.given) (.slice (some ⟨e0p, 0, none⟩) K.objects.length K.objects.length) (.slice (some ⟨e1p, 0, none⟩) K.grants.length K.grants.length) (.slice (some ⟨e2p, 0, none⟩) K.ledgers.length K.ledgers.length) (.slice (some ⟨e3p, 0, none⟩) K.purses.length K.purses.length)) := HY1i.out.later hb
  have HI1j : Hid (BkIn wj e0p e1p e2p e3p K) := HI1i.out.later hb
  clear hb y0z y0_0 y0_1 y0_2 y1z y1_0 y1_1 y1_2 y1_3 y1_4 y1_5 y1_6 x0z x0_0 x0_1 x0_2 x1z x1_0 x1_1 x1_2 x1_3 x1_4 x1_5 x1_6 HXi HBi HEQ HKK HY0i HI0i HY1i HI1i
  obtain ⟨y0z, y0_0, y0_1, y0_2⟩ := HXj.out.1
  obtain ⟨y1z, y1_0, y1_1, y1_2, y1_3, y1_4, y1_5, y1_6⟩ := HXj.out.2
  obtain ⟨x0z, x0_0, x0_1, x0_2⟩ := HY0j.out
  obtain ⟨x1z, x1_0, x1_1, x1_2, x1_3, x1_4, x1_5, x1_6⟩ := HY1j.out
  have HEQ : Hid (∀ W e0x e1x e2x e3x, Below wj.heap.size wj W → BkIn W e0x e1x e2x e3x K → Calls Try.prog 17 #[.agg #[.int .i64 K.now, .int .i64 K.tick, .int .i64 K.given, .slice (some ⟨e0p, 0, none⟩) K.objects.length K.objects.length, .slice (some ⟨e1p, 0, none⟩) K.grants.length K.grants.length, .slice (some ⟨e2p, 0, none⟩) K.ledgers.length K.ledgers.length, .slice (some ⟨e3p, 0, none⟩) K.purses.length K.purses.length], .agg #[.int .i64 K.now, .int .i64 K.tick, .int .i64 K.given, .slice (some ⟨e0x, 0, none⟩) K.objects.length K.objects.length, .slice (some ⟨e1x, 0, none⟩) K.grants.length K.grants.length, .slice (some ⟨e2x, 0, none⟩) K.ledgers.length K.ledgers.length, .slice (some ⟨e3x, 0, none⟩) K.purses.length K.purses.length]] W fun e w' => e = .returned (.bool true) ∧ Below W.heap.size W w') := fun W e0x e1x e2x e3x hW h2 => eqBook K e0p e1p e2p e3p e0x e1x e2x e3x W (HI1j.out.later hW) h2
  have HKK : Hid (∀ W, Below wj.heap.size wj W → Box7 W m1 (.int .i64 K.now) (.int .i64 K.tick) (.int .i64 K.given) (.slice (some ⟨e0p, 0, none⟩) K.objects.length K.objects.length) (.slice (some ⟨e1p, 0, none⟩) K.grants.length K.grants.length) (.slice (some ⟨e2p, 0, none⟩) K.ledgers.length K.ledgers.length) (.slice (some ⟨e3p, 0, none⟩) K.purses.length K.purses.length)) := fun W hW => HY1j.out.later hW
  go_upto_region 20 with fail
  go_cut [58] (fun sA wx => sA = .bool false ∧ Below wj.heap.size wj wx)
  case first =>
    go_region_with (first
      | (go_at_call 15; refine (HT1.out _ ?_).mono ?_; (repeat (first | exact HBj.out | refine Below.drew ?_)); rintro e wN ⟨e0x, e1x, e2x, e3x, ⟨rfl, hiN⟩, hbN⟩; have kN : Below wj.heap.size wj wN := blw_trans (by repeat (first | exact Below.refl _ _ | refine Below.drew ?_)) hbN; clear hbN; obtain ⟨jz, j_0, j_1, j_2, j_3, j_4, j_5, j_6⟩ := HKK.out wN kN)
      | (go_at_call 17; refine (HEQ.out _ _ _ _ _ ?_ ?_).mono ?_; (repeat (first | exact kN | refine Below.drew ?_)); exact hiN.later (by repeat (first | exact Below.refl _ _ | refine Below.drew ?_)); rintro e wC ⟨rfl, hbC⟩; have kC : Below wj.heap.size wj wC := blw_trans (by repeat (first | exact kN | refine Below.drew ?_)) hbC; clear hbC))
    all_goals
      go_wp2_with fail
      go_meet
      refine ⟨rfl, ?_⟩
      repeat (first | exact kC | refine Below.drew ?_)
  case rest =>
  obtain ⟨rfl, hb⟩ := hcut
  rename World => wk
  have HBk : Hid (Below w.heap.size w wk) := blw_trans HBj.out hb
  have HXk : Hid (Box3 wk w.heap.size (lv0) (lv1) (lv2) ∧ Box7 wk (w.heap.size + 1) (.int .i64 K.now) (.int .i64 K.tick) (.int .i64 K.given) (bv0) (bv1) (bv2) (bv3)) := ⟨HXj.out.1.later hb, HXj.out.2.later hb⟩
  have HY0k : Hid (Box3 wk m0 (.slice (some ⟨a0p, 0, none⟩) L.shapes.length L.shapes.length) (.slice (some ⟨a1p, 0, none⟩) L.mends.length L.mends.length) (.slice (some ⟨a2p, 0, none⟩) L.teams.length L.teams.length)) := HY0j.out.later hb
  have HI0k : Hid (LwIn wk a0p a1p a2p L) := HI0j.out.later hb
  have HY1k : Hid (Box7 wk m1 (.int .i64 K.now) (.int .i64 K.tick) (.int .i64 K.given) (.slice (some ⟨e0p, 0, none⟩) K.objects.length K.objects.length) (.slice (some ⟨e1p, 0, none⟩) K.grants.length K.grants.length) (.slice (some ⟨e2p, 0, none⟩) K.ledgers.length K.ledgers.length) (.slice (some ⟨e3p, 0, none⟩) K.purses.length K.purses.length)) := HY1j.out.later hb
  have HI1k : Hid (BkIn wk e0p e1p e2p e3p K) := HI1j.out.later hb
  clear hb y0z y0_0 y0_1 y0_2 y1z y1_0 y1_1 y1_2 y1_3 y1_4 y1_5 y1_6 x0z x0_0 x0_1 x0_2 x1z x1_0 x1_1 x1_2 x1_3 x1_4 x1_5 x1_6 HXj HBj HEQ HKK HY0j HI0j HY1j HI1j
  go_wp2
  go_ret
  exact ⟨rfl, HBk.out⟩

end Go.Proofs.Ytliaibdbcaglnaa
