/-
  A book in memory: sizes, copies, equality.
-/
import Derived.Test.YtliaibdbcaglnaaMemOb
import Derived.Test.YtliaibdbcaglnaaMemGr
import Derived.Test.YtliaibdbcaglnaaMemLg
import Derived.Test.YtliaibdbcaglnaaMemPs
import Derived.Deep.DeepCutAuto
namespace Go.Proofs.Ytliaibdbcaglnaa
open Go.RowKit Go.Deep

structure Bk where
  now : Int
  tick : Int
  given : Int
  objects : List Ob
  grants : List Gr
  ledgers : List Lg
  purses : List Ps

structure BkAt (w : World) (v0 v1 v2 v3 : Value) (K : Bk) : Prop where
  o : ObsAt w v0 K.objects
  g : GrsAt w v1 K.grants
  l : LgsAt w v2 K.ledgers
  p : PssAt w v3 K.purses

structure BkIn (w : World) (b0 b1 b2 b3 : Nat) (K : Bk) : Prop where
  o : ObsIn w b0 K.objects
  g : GrsIn w b1 K.grants
  l : LgsIn w b2 K.ledgers
  p : PssIn w b3 K.purses

def Bk.small (K : Bk) : Prop := (K.objects.length ≤ 1048576 ∧ ∀ x ∈ K.objects, x.small) ∧ (K.grants.length ≤ 1048576 ∧ ∀ x ∈ K.grants, x.small) ∧ K.ledgers.length ≤ 1048576 ∧ K.purses.length ≤ 1048576

theorem BkAt.later {w w' : World} {v0 v1 v2 v3 : Value} {K : Bk} (h : BkAt w v0 v1 v2 v3 K) (hb : Below w.heap.size w w') : BkAt w' v0 v1 v2 v3 K := ⟨h.o.later hb, h.g.later hb, h.l.later hb, h.p.later hb⟩
theorem BkIn.later {w w' : World} {b0 b1 b2 b3 : Nat} {K : Bk} (h : BkIn w b0 b1 b2 b3 K) (hb : Below w.heap.size w w') : BkIn w' b0 b1 b2 b3 K := ⟨h.o.later hb, h.g.later hb, h.l.later hb, h.p.later hb⟩

set_option maxHeartbeats 4000000 in
theorem szBook (K : Bk) (v0 v1 v2 v3 : Value) (left : Int) (w : World) (h0 : 0 ≤ left) (h1 : left ≤ 1048576) (h : BkAt w v0 v1 v2 v3 K) :
    Calls Try.prog 13 #[.agg #[.int .i64 K.now, .int .i64 K.tick, .int .i64 K.given, v0, v1, v2, v3], .int .i64 left] w fun e w' => (∃ r : Int, e = .returned (.int .i64 r) ∧ szP K.small left r) ∧ Below w.heap.size w w' := by
  have HH : Hid (BkAt w v0 v1 v2 v3 K) := h
  clear h
  obtain ⟨wa, hwa⟩ : ∃ wa, wa = w.alloc (.cells #[.int .i64 K.now, .int .i64 K.tick, .int .i64 K.given, v0, v1, v2, v3] 49) := ⟨_, rfl⟩
  have HBa : Hid (Below w.heap.size w wa) := by show Below _ _ _; rw [hwa]; exact blw_alloc (Below.refl _ _) _
  have HXa : Hid (Box7 wa w.heap.size (.int .i64 K.now) (.int .i64 K.tick) (.int .i64 K.given) (v0) (v1) (v2) (v3)) := by show Box7 _ _ _ _ _ _ _ _ _; rw [hwa]; exact Box7.new' w _ _ _ _ _ _ _ _ _ rfl
  go_enter Try.func13, Try.ntmps13
  go_upto_region 1 with fail
  rw [← hwa]
  clear hwa
  obtain ⟨yz, y0, y1, y2, y3, y4, y5, y6⟩ := HXa.out
  go_wp2_with fail
  refine (szObs v0 K.objects left wa (by omega) (by omega) (HH.out.later HBa.out).o).mono ?_
  rintro e wb ⟨⟨r0, rfl, hr⟩, hb⟩
  have HR0 : Hid (szP ((K.objects.length : Int) ≤ left ∧ ∀ r ∈ K.objects, r.small) left r0) := hr
  have q0 : -1 ≤ r0 := hr.1
  have q0' : r0 ≤ left := hr.2.1
  have HBb : Hid (Below w.heap.size w wb) := blw_trans HBa.out hb
  have HXb : Hid (Box7 wb w.heap.size (.int .i64 K.now) (.int .i64 K.tick) (.int .i64 K.given) (v0) (v1) (v2) (v3)) := HXa.out.later hb
  clear hr hb yz y0 y1 y2 y3 y4 y5 y6 HXa HBa
  by_cases c0 : r0 < 0
  · go_wp2
    go_ret
    exact ⟨⟨_, rfl, by unfold szP; exact ⟨by omega, by omega, by omega⟩⟩, HBb.out⟩
  obtain ⟨yz, y0, y1, y2, y3, y4, y5, y6⟩ := HXb.out
  go_wp2_with fail
  refine (szGrs v1 K.grants r0 wb (by omega) (by omega) (HH.out.later HBb.out).g).mono ?_
  rintro e wc ⟨⟨r1, rfl, hr⟩, hb⟩
  have HR1 : Hid (szP ((K.grants.length : Int) ≤ r0 ∧ ∀ r ∈ K.grants, r.small) r0 r1) := hr
  have q1 : -1 ≤ r1 := hr.1
  have q1' : r1 ≤ r0 := hr.2.1
  have HBc : Hid (Below w.heap.size w wc) := blw_trans HBb.out hb
  have HXc : Hid (Box7 wc w.heap.size (.int .i64 K.now) (.int .i64 K.tick) (.int .i64 K.given) (v0) (v1) (v2) (v3)) := HXb.out.later hb
  clear hr hb yz y0 y1 y2 y3 y4 y5 y6 HXb HBb
  by_cases c1 : r1 < 0
  · go_wp2
    go_ret
    exact ⟨⟨_, rfl, by unfold szP; exact ⟨by omega, by omega, by omega⟩⟩, HBc.out⟩
  obtain ⟨yz, y0, y1, y2, y3, y4, y5, y6⟩ := HXc.out
  go_wp2_with fail
  refine (szLgs v2 K.ledgers r1 wc (by omega) (by omega) (HH.out.later HBc.out).l).mono ?_
  rintro e wd ⟨⟨r2, rfl, hr⟩, hb⟩
  have HR2 : Hid (szP ((K.ledgers.length : Int) ≤ r1) r1 r2) := hr
  have q2 : -1 ≤ r2 := hr.1
  have q2' : r2 ≤ r1 := hr.2.1
  have HBd : Hid (Below w.heap.size w wd) := blw_trans HBc.out hb
  have HXd : Hid (Box7 wd w.heap.size (.int .i64 K.now) (.int .i64 K.tick) (.int .i64 K.given) (v0) (v1) (v2) (v3)) := HXc.out.later hb
  clear hr hb yz y0 y1 y2 y3 y4 y5 y6 HXc HBc
  by_cases c2 : r2 < 0
  · go_wp2
    go_ret
    exact ⟨⟨_, rfl, by unfold szP; exact ⟨by omega, by omega, by omega⟩⟩, HBd.out⟩
  obtain ⟨yz, y0, y1, y2, y3, y4, y5, y6⟩ := HXd.out
  go_wp2_with fail
  refine (szPss v3 K.purses r2 wd (by omega) (by omega) (HH.out.later HBd.out).p).mono ?_
  rintro e we ⟨⟨r3, rfl, hr⟩, hb⟩
  have HR3 : Hid (szP ((K.purses.length : Int) ≤ r2) r2 r3) := hr
  have q3 : -1 ≤ r3 := hr.1
  have q3' : r3 ≤ r2 := hr.2.1
  have HBe : Hid (Below w.heap.size w we) := blw_trans HBd.out hb
  have HXe : Hid (Box7 we w.heap.size (.int .i64 K.now) (.int .i64 K.tick) (.int .i64 K.given) (v0) (v1) (v2) (v3)) := HXd.out.later hb
  clear hr hb yz y0 y1 y2 y3 y4 y5 y6 HXd HBd
  by_cases c3 : r3 < 0
  · go_wp2
    go_ret
    exact ⟨⟨_, rfl, by unfold szP; exact ⟨by omega, by omega, by omega⟩⟩, HBe.out⟩
  go_wp2
  go_ret
  refine ⟨⟨_, rfl, ?_⟩, HBe.out⟩
  have k0 := HR0.out.2.2 (by omega)
  have k1 := HR1.out.2.2 (by omega)
  have k2 := HR2.out.2.2 (by omega)
  have k3 := HR3.out.2.2 (by omega)
  unfold szP
  exact ⟨by omega, by omega, fun _ => ⟨⟨by omega, k0.2⟩, ⟨by omega, k1.2⟩, by omega, by omega⟩⟩

set_option maxHeartbeats 8000000 in
theorem toBook (K : Bk) (v0 v1 v2 v3 : Value) (w : World) (hs : K.small) (h : BkAt w v0 v1 v2 v3 K) :
    Calls Try.prog 15 #[.agg #[.int .i64 K.now, .int .i64 K.tick, .int .i64 K.given, v0, v1, v2, v3]] w fun e w' => (∃ b0 b1 b2 b3, e = .returned (.agg #[.int .i64 K.now, .int .i64 K.tick, .int .i64 K.given, .slice (some ⟨b0, 0, none⟩) K.objects.length K.objects.length, .slice (some ⟨b1, 0, none⟩) K.grants.length K.grants.length, .slice (some ⟨b2, 0, none⟩) K.ledgers.length K.ledgers.length, .slice (some ⟨b3, 0, none⟩) K.purses.length K.purses.length]) ∧ BkIn w' b0 b1 b2 b3 K ∧ w.heap.size ≤ b0 ∧ w.heap.size ≤ b1 ∧ w.heap.size ≤ b2 ∧ w.heap.size ≤ b3) ∧ Below w.heap.size w w' := by
  have HH : Hid (BkAt w v0 v1 v2 v3 K ∧ K.small) := ⟨h, hs⟩
  clear h hs
  obtain ⟨wa, hwa⟩ : ∃ wa, wa = ((w.alloc (.cells #[.int .i64 K.now, .int .i64 K.tick, .int .i64 K.given, v0, v1, v2, v3] 49)).alloc (.cells #[.int .i64 0, .int .i64 0, .int .i64 0, .slice none 0 0, .slice none 0 0, .slice none 0 0, .slice none 0 0] 57)).alloc (.cells #[.int .i64 K.now, .int .i64 K.tick, .int .i64 K.given, .slice none 0 0, .slice none 0 0, .slice none 0 0, .slice none 0 0] 57) := ⟨_, rfl⟩
  have HBa : Hid (Below w.heap.size w wa) := by show Below _ _ _; rw [hwa]; exact blw_alloc (blw_alloc (blw_alloc (Below.refl _ _) _) _) _
  have HXa : Hid (Box7 wa w.heap.size (.int .i64 K.now) (.int .i64 K.tick) (.int .i64 K.given) (v0) (v1) (v2) (v3)) := by show Box7 _ _ _ _ _ _ _ _ _; rw [hwa]; exact ((Box7.new' w _ _ _ _ _ _ _ _ _ rfl).past _).past _
  have HOa : Hid (OwnBlk wa (w.heap.size + 2) 57 7) := by show OwnBlk _ _ _ _; rw [hwa]; exact OwnBlk.alloc_at2 _ _ _ _ _ rfl (by simp)
  have HRa : Hid (OwnBlk wa (w.heap.size + 1) 57 7) := by show OwnBlk _ _ _ _; rw [hwa]; exact (OwnBlk.alloc_at2 _ _ _ _ _ rfl (by simp)).past _
  have HCa : Hid (wa.cell? ⟨w.heap.size + 2, 0, none⟩ = some (.int .i64 K.now) ∧ wa.cell? ⟨w.heap.size + 2, 1, none⟩ = some (.int .i64 K.tick) ∧ wa.cell? ⟨w.heap.size + 2, 2, none⟩ = some (.int .i64 K.given)) := by show _ ∧ _ ∧ _; rw [hwa]; exact ⟨World.cell?_alloc_at _ _ _ _ (by simp), World.cell?_alloc_at _ _ _ _ (by simp), World.cell?_alloc_at _ _ _ _ (by simp)⟩
  have HZa : Hid (w.heap.size + 3 ≤ wa.heap.size) := by show _ ≤ _; rw [hwa]; simp
  go_enter Try.func15, Try.ntmps15
  go_upto_region 5 with fail
  rw [← hwa]
  clear hwa
  obtain ⟨yz, y0, y1, y2, y3, y4, y5, y6⟩ := HXa.out
  go_wp2_with fail
  refine (toObs v0 K.objects wa HH.out.2.1.1 HH.out.2.1.2 (HH.out.1.later HBa.out).o).mono ?_
  rintro e wb ⟨rfl, hb, hi⟩
  obtain ⟨p0, hp⟩ : ∃ p0, p0 = wa.heap.size := ⟨_, rfl⟩
  rw [← hp] at hi ⊢
  have HP0 : Hid (w.heap.size + 3 ≤ p0) := by show _ ≤ _; rw [hp]; exact HZa.out
  have HIb : Hid (ObsIn wb p0 K.objects) := hi
  have HBb : Hid (Below w.heap.size w wb) := blw_trans HBa.out hb
  have HXb : Hid (Box7 wb w.heap.size (.int .i64 K.now) (.int .i64 K.tick) (.int .i64 K.given) (v0) (v1) (v2) (v3)) := HXa.out.later hb
  have HOb : Hid (OwnBlk wb (w.heap.size + 2) 57 7) := HOa.out.later hb
  have HRb : Hid (OwnBlk wb (w.heap.size + 1) 57 7) := HRa.out.later hb
  have HCb : Hid (wb.cell? ⟨w.heap.size + 2, 0, none⟩ = some (.int .i64 K.now) ∧ wb.cell? ⟨w.heap.size + 2, 1, none⟩ = some (.int .i64 K.tick) ∧ wb.cell? ⟨w.heap.size + 2, 2, none⟩ = some (.int .i64 K.given)) := ⟨(hb.cell (p := ⟨w.heap.size + 2, 0, none⟩) HOa.out.lt).trans HCa.out.1, (hb.cell (p := ⟨w.heap.size + 2, 1, none⟩) HOa.out.lt).trans HCa.out.2.1, (hb.cell (p := ⟨w.heap.size + 2, 2, none⟩) HOa.out.lt).trans HCa.out.2.2⟩
  have HZb : Hid (w.heap.size + 3 ≤ wb.heap.size) := Nat.le_trans HZa.out hb.size
  clear hi hb hp yz y0 y1 y2 y3 y4 y5 y6 HXa HBa HOa HRa HCa HZa
  have hfz := HOb.out.frozen
  have hz := HOb.out.lt
  obtain ⟨z, ez⟩ := HOb.out.cell 3 (by omega)
  obtain ⟨wc, hw⟩ : ∃ wc, wc = wb.setCell ⟨w.heap.size + 2, 3, none⟩ (.slice (some ⟨p0, 0, none⟩) K.objects.length K.objects.length) := ⟨_, rfl⟩
  have HBc : Hid (Below w.heap.size w wc) := by show Below _ _ _; rw [hw]; exact HBb.out.setCell (p := ⟨w.heap.size + 2, 3, none⟩) (by show w.heap.size ≤ w.heap.size + 2; omega) _
  have HXc : Hid (Box7 wc w.heap.size (.int .i64 K.now) (.int .i64 K.tick) (.int .i64 K.given) (v0) (v1) (v2) (v3)) := by
    show Box7 _ _ _ _ _ _ _ _ _
    rw [hw]
    obtain ⟨yz, y0, y1, y2, y3, y4, y5, y6⟩ := HXb.out
    exact ⟨by rw [sc_size]; exact yz, (sc_ne _ _ _ _ _ _ (by omega)).trans y0, (sc_ne _ _ _ _ _ _ (by omega)).trans y1, (sc_ne _ _ _ _ _ _ (by omega)).trans y2, (sc_ne _ _ _ _ _ _ (by omega)).trans y3, (sc_ne _ _ _ _ _ _ (by omega)).trans y4, (sc_ne _ _ _ _ _ _ (by omega)).trans y5, (sc_ne _ _ _ _ _ _ (by omega)).trans y6⟩
  have HOc : Hid (OwnBlk wc (w.heap.size + 2) 57 7) := by show OwnBlk _ _ _ _; rw [hw]; exact HOb.out.setCell 3 _
  have HRc : Hid (OwnBlk wc (w.heap.size + 1) 57 7) := by show OwnBlk _ _ _ _; rw [hw]; exact HRb.out.sc_other (by omega) _ _
  have HCc : Hid (wc.cell? ⟨w.heap.size + 2, 0, none⟩ = some (.int .i64 K.now) ∧ wc.cell? ⟨w.heap.size + 2, 1, none⟩ = some (.int .i64 K.tick) ∧ wc.cell? ⟨w.heap.size + 2, 2, none⟩ = some (.int .i64 K.given) ∧ wc.cell? ⟨w.heap.size + 2, 3, none⟩ = some (.slice (some ⟨p0, 0, none⟩) K.objects.length K.objects.length)) := by
    show _ ∧ _ ∧ _ ∧ _
    rw [hw]
    exact ⟨(sc_ne _ _ _ _ _ _ (by omega)).trans HCb.out.1, (sc_ne _ _ _ _ _ _ (by omega)).trans HCb.out.2.1, (sc_ne _ _ _ _ _ _ (by omega)).trans HCb.out.2.2, sc_eq HOb.out 3 (by omega) _⟩
  have HIc : Hid (ObsIn wc p0 K.objects) := by
    show ObsIn _ _ _
    rw [hw]
    exact HIb.out.sc (by have := HP0.out; omega) _ _
  have HZc : Hid (w.heap.size + 3 ≤ wc.heap.size) := by show _ ≤ _; rw [hw, sc_size]; exact HZb.out
  go_upto_region 6 with fail
  rw [← hw]
  clear hw hfz hz ez HBb HXb HOb HRb HCb HIb HZb
  obtain ⟨yz, y0, y1, y2, y3, y4, y5, y6⟩ := HXc.out
  go_wp2_with fail
  refine (toGrs v1 K.grants wc HH.out.2.2.1.1 HH.out.2.2.1.2 (HH.out.1.later HBc.out).g).mono ?_
  rintro e wd ⟨rfl, hb, hi⟩
  obtain ⟨p1, hp⟩ : ∃ p1, p1 = wc.heap.size := ⟨_, rfl⟩
  rw [← hp] at hi ⊢
  have HP1 : Hid (w.heap.size + 3 ≤ p1) := by show _ ≤ _; rw [hp]; exact HZc.out
  have HId : Hid (ObsIn wd p0 K.objects ∧ GrsIn wd p1 K.grants) := ⟨HIc.out.later hb, hi⟩
  have HBd : Hid (Below w.heap.size w wd) := blw_trans HBc.out hb
  have HXd : Hid (Box7 wd w.heap.size (.int .i64 K.now) (.int .i64 K.tick) (.int .i64 K.given) (v0) (v1) (v2) (v3)) := HXc.out.later hb
  have HOd : Hid (OwnBlk wd (w.heap.size + 2) 57 7) := HOc.out.later hb
  have HRd : Hid (OwnBlk wd (w.heap.size + 1) 57 7) := HRc.out.later hb
  have HCd : Hid (wd.cell? ⟨w.heap.size + 2, 0, none⟩ = some (.int .i64 K.now) ∧ wd.cell? ⟨w.heap.size + 2, 1, none⟩ = some (.int .i64 K.tick) ∧ wd.cell? ⟨w.heap.size + 2, 2, none⟩ = some (.int .i64 K.given) ∧ wd.cell? ⟨w.heap.size + 2, 3, none⟩ = some (.slice (some ⟨p0, 0, none⟩) K.objects.length K.objects.length)) := ⟨(hb.cell (p := ⟨w.heap.size + 2, 0, none⟩) HOc.out.lt).trans HCc.out.1, (hb.cell (p := ⟨w.heap.size + 2, 1, none⟩) HOc.out.lt).trans HCc.out.2.1, (hb.cell (p := ⟨w.heap.size + 2, 2, none⟩) HOc.out.lt).trans HCc.out.2.2.1, (hb.cell (p := ⟨w.heap.size + 2, 3, none⟩) HOc.out.lt).trans HCc.out.2.2.2⟩
  have HZd : Hid (w.heap.size + 3 ≤ wd.heap.size) := Nat.le_trans HZc.out hb.size
  clear hi hb hp yz y0 y1 y2 y3 y4 y5 y6 HXc HBc HOc HRc HCc HZc HIc
  have hfz := HOd.out.frozen
  have hz := HOd.out.lt
  obtain ⟨z, ez⟩ := HOd.out.cell 4 (by omega)
  obtain ⟨we, hw⟩ : ∃ we, we = wd.setCell ⟨w.heap.size + 2, 4, none⟩ (.slice (some ⟨p1, 0, none⟩) K.grants.length K.grants.length) := ⟨_, rfl⟩
  have HBe : Hid (Below w.heap.size w we) := by show Below _ _ _; rw [hw]; exact HBd.out.setCell (p := ⟨w.heap.size + 2, 4, none⟩) (by show w.heap.size ≤ w.heap.size + 2; omega) _
  have HXe : Hid (Box7 we w.heap.size (.int .i64 K.now) (.int .i64 K.tick) (.int .i64 K.given) (v0) (v1) (v2) (v3)) := by
    show Box7 _ _ _ _ _ _ _ _ _
    rw [hw]
    obtain ⟨yz, y0, y1, y2, y3, y4, y5, y6⟩ := HXd.out
    exact ⟨by rw [sc_size]; exact yz, (sc_ne _ _ _ _ _ _ (by omega)).trans y0, (sc_ne _ _ _ _ _ _ (by omega)).trans y1, (sc_ne _ _ _ _ _ _ (by omega)).trans y2, (sc_ne _ _ _ _ _ _ (by omega)).trans y3, (sc_ne _ _ _ _ _ _ (by omega)).trans y4, (sc_ne _ _ _ _ _ _ (by omega)).trans y5, (sc_ne _ _ _ _ _ _ (by omega)).trans y6⟩
  have HOe : Hid (OwnBlk we (w.heap.size + 2) 57 7) := by show OwnBlk _ _ _ _; rw [hw]; exact HOd.out.setCell 4 _
  have HRe : Hid (OwnBlk we (w.heap.size + 1) 57 7) := by show OwnBlk _ _ _ _; rw [hw]; exact HRd.out.sc_other (by omega) _ _
  have HCe : Hid (we.cell? ⟨w.heap.size + 2, 0, none⟩ = some (.int .i64 K.now) ∧ we.cell? ⟨w.heap.size + 2, 1, none⟩ = some (.int .i64 K.tick) ∧ we.cell? ⟨w.heap.size + 2, 2, none⟩ = some (.int .i64 K.given) ∧ we.cell? ⟨w.heap.size + 2, 3, none⟩ = some (.slice (some ⟨p0, 0, none⟩) K.objects.length K.objects.length) ∧ we.cell? ⟨w.heap.size + 2, 4, none⟩ = some (.slice (some ⟨p1, 0, none⟩) K.grants.length K.grants.length)) := by
    show _ ∧ _ ∧ _ ∧ _ ∧ _
    rw [hw]
    exact ⟨(sc_ne _ _ _ _ _ _ (by omega)).trans HCd.out.1, (sc_ne _ _ _ _ _ _ (by omega)).trans HCd.out.2.1, (sc_ne _ _ _ _ _ _ (by omega)).trans HCd.out.2.2.1, (sc_ne _ _ _ _ _ _ (by omega)).trans HCd.out.2.2.2, sc_eq HOd.out 4 (by omega) _⟩
  have HIe : Hid (ObsIn we p0 K.objects ∧ GrsIn we p1 K.grants) := by
    show _ ∧ _
    rw [hw]
    exact ⟨HId.out.1.sc (by have := HP0.out; omega) _ _, HId.out.2.sc (by have := HP1.out; omega) _ _⟩
  have HZe : Hid (w.heap.size + 3 ≤ we.heap.size) := by show _ ≤ _; rw [hw, sc_size]; exact HZd.out
  go_upto_region 7 with fail
  rw [← hw]
  clear hw hfz hz ez HBd HXd HOd HRd HCd HId HZd
  obtain ⟨yz, y0, y1, y2, y3, y4, y5, y6⟩ := HXe.out
  go_wp2_with fail
  refine (toLgs v2 K.ledgers we HH.out.2.2.2.1 (HH.out.1.later HBe.out).l).mono ?_
  rintro e wf ⟨rfl, hb, hi⟩
  obtain ⟨p2, hp⟩ : ∃ p2, p2 = we.heap.size := ⟨_, rfl⟩
  rw [← hp] at hi ⊢
  have HP2 : Hid (w.heap.size + 3 ≤ p2) := by show _ ≤ _; rw [hp]; exact HZe.out
  have HIf : Hid (ObsIn wf p0 K.objects ∧ GrsIn wf p1 K.grants ∧ LgsIn wf p2 K.ledgers) := ⟨HIe.out.1.later hb, HIe.out.2.later hb, hi⟩
  have HBf : Hid (Below w.heap.size w wf) := blw_trans HBe.out hb
  have HXf : Hid (Box7 wf w.heap.size (.int .i64 K.now) (.int .i64 K.tick) (.int .i64 K.given) (v0) (v1) (v2) (v3)) := HXe.out.later hb
  have HOf : Hid (OwnBlk wf (w.heap.size + 2) 57 7) := HOe.out.later hb
  have HRf : Hid (OwnBlk wf (w.heap.size + 1) 57 7) := HRe.out.later hb
  have HCf : Hid (wf.cell? ⟨w.heap.size + 2, 0, none⟩ = some (.int .i64 K.now) ∧ wf.cell? ⟨w.heap.size + 2, 1, none⟩ = some (.int .i64 K.tick) ∧ wf.cell? ⟨w.heap.size + 2, 2, none⟩ = some (.int .i64 K.given) ∧ wf.cell? ⟨w.heap.size + 2, 3, none⟩ = some (.slice (some ⟨p0, 0, none⟩) K.objects.length K.objects.length) ∧ wf.cell? ⟨w.heap.size + 2, 4, none⟩ = some (.slice (some ⟨p1, 0, none⟩) K.grants.length K.grants.length)) := ⟨(hb.cell (p := ⟨w.heap.size + 2, 0, none⟩) HOe.out.lt).trans HCe.out.1, (hb.cell (p := ⟨w.heap.size + 2, 1, none⟩) HOe.out.lt).trans HCe.out.2.1, (hb.cell (p := ⟨w.heap.size + 2, 2, none⟩) HOe.out.lt).trans HCe.out.2.2.1, (hb.cell (p := ⟨w.heap.size + 2, 3, none⟩) HOe.out.lt).trans HCe.out.2.2.2.1, (hb.cell (p := ⟨w.heap.size + 2, 4, none⟩) HOe.out.lt).trans HCe.out.2.2.2.2⟩
  have HZf : Hid (w.heap.size + 3 ≤ wf.heap.size) := Nat.le_trans HZe.out hb.size
  clear hi hb hp yz y0 y1 y2 y3 y4 y5 y6 HXe HBe HOe HRe HCe HZe HIe
  have hfz := HOf.out.frozen
  have hz := HOf.out.lt
  obtain ⟨z, ez⟩ := HOf.out.cell 5 (by omega)
  obtain ⟨wg, hw⟩ : ∃ wg, wg = wf.setCell ⟨w.heap.size + 2, 5, none⟩ (.slice (some ⟨p2, 0, none⟩) K.ledgers.length K.ledgers.length) := ⟨_, rfl⟩
  have HBg : Hid (Below w.heap.size w wg) := by show Below _ _ _; rw [hw]; exact HBf.out.setCell (p := ⟨w.heap.size + 2, 5, none⟩) (by show w.heap.size ≤ w.heap.size + 2; omega) _
  have HXg : Hid (Box7 wg w.heap.size (.int .i64 K.now) (.int .i64 K.tick) (.int .i64 K.given) (v0) (v1) (v2) (v3)) := by
    show Box7 _ _ _ _ _ _ _ _ _
    rw [hw]
    obtain ⟨yz, y0, y1, y2, y3, y4, y5, y6⟩ := HXf.out
    exact ⟨by rw [sc_size]; exact yz, (sc_ne _ _ _ _ _ _ (by omega)).trans y0, (sc_ne _ _ _ _ _ _ (by omega)).trans y1, (sc_ne _ _ _ _ _ _ (by omega)).trans y2, (sc_ne _ _ _ _ _ _ (by omega)).trans y3, (sc_ne _ _ _ _ _ _ (by omega)).trans y4, (sc_ne _ _ _ _ _ _ (by omega)).trans y5, (sc_ne _ _ _ _ _ _ (by omega)).trans y6⟩
  have HOg : Hid (OwnBlk wg (w.heap.size + 2) 57 7) := by show OwnBlk _ _ _ _; rw [hw]; exact HOf.out.setCell 5 _
  have HRg : Hid (OwnBlk wg (w.heap.size + 1) 57 7) := by show OwnBlk _ _ _ _; rw [hw]; exact HRf.out.sc_other (by omega) _ _
  have HCg : Hid (wg.cell? ⟨w.heap.size + 2, 0, none⟩ = some (.int .i64 K.now) ∧ wg.cell? ⟨w.heap.size + 2, 1, none⟩ = some (.int .i64 K.tick) ∧ wg.cell? ⟨w.heap.size + 2, 2, none⟩ = some (.int .i64 K.given) ∧ wg.cell? ⟨w.heap.size + 2, 3, none⟩ = some (.slice (some ⟨p0, 0, none⟩) K.objects.length K.objects.length) ∧ wg.cell? ⟨w.heap.size + 2, 4, none⟩ = some (.slice (some ⟨p1, 0, none⟩) K.grants.length K.grants.length) ∧ wg.cell? ⟨w.heap.size + 2, 5, none⟩ = some (.slice (some ⟨p2, 0, none⟩) K.ledgers.length K.ledgers.length)) := by
    show _ ∧ _ ∧ _ ∧ _ ∧ _ ∧ _
    rw [hw]
    exact ⟨(sc_ne _ _ _ _ _ _ (by omega)).trans HCf.out.1, (sc_ne _ _ _ _ _ _ (by omega)).trans HCf.out.2.1, (sc_ne _ _ _ _ _ _ (by omega)).trans HCf.out.2.2.1, (sc_ne _ _ _ _ _ _ (by omega)).trans HCf.out.2.2.2.1, (sc_ne _ _ _ _ _ _ (by omega)).trans HCf.out.2.2.2.2, sc_eq HOf.out 5 (by omega) _⟩
  have HIg : Hid (ObsIn wg p0 K.objects ∧ GrsIn wg p1 K.grants ∧ LgsIn wg p2 K.ledgers) := by
    show _ ∧ _ ∧ _
    rw [hw]
    exact ⟨HIf.out.1.sc (by have := HP0.out; omega) _ _, HIf.out.2.1.sc (by have := HP1.out; omega) _ _, HIf.out.2.2.sc (by have := HP2.out; omega) _ _⟩
  have HZg : Hid (w.heap.size + 3 ≤ wg.heap.size) := by show _ ≤ _; rw [hw, sc_size]; exact HZf.out
  go_upto_region 8 with fail
  rw [← hw]
  clear hw hfz hz ez HBf HXf HOf HRf HCf HIf HZf
  obtain ⟨yz, y0, y1, y2, y3, y4, y5, y6⟩ := HXg.out
  go_wp2_with fail
  refine (toPss v3 K.purses wg HH.out.2.2.2.2 (HH.out.1.later HBg.out).p).mono ?_
  rintro e wh ⟨rfl, hb, hi⟩
  obtain ⟨p3, hp⟩ : ∃ p3, p3 = wg.heap.size := ⟨_, rfl⟩
  rw [← hp] at hi ⊢
  have HP3 : Hid (w.heap.size + 3 ≤ p3) := by show _ ≤ _; rw [hp]; exact HZg.out
  have HIh : Hid (ObsIn wh p0 K.objects ∧ GrsIn wh p1 K.grants ∧ LgsIn wh p2 K.ledgers ∧ PssIn wh p3 K.purses) := ⟨HIg.out.1.later hb, HIg.out.2.1.later hb, HIg.out.2.2.later hb, hi⟩
  have HBh : Hid (Below w.heap.size w wh) := blw_trans HBg.out hb
  have HXh : Hid (Box7 wh w.heap.size (.int .i64 K.now) (.int .i64 K.tick) (.int .i64 K.given) (v0) (v1) (v2) (v3)) := HXg.out.later hb
  have HOh : Hid (OwnBlk wh (w.heap.size + 2) 57 7) := HOg.out.later hb
  have HRh : Hid (OwnBlk wh (w.heap.size + 1) 57 7) := HRg.out.later hb
  have HCh : Hid (wh.cell? ⟨w.heap.size + 2, 0, none⟩ = some (.int .i64 K.now) ∧ wh.cell? ⟨w.heap.size + 2, 1, none⟩ = some (.int .i64 K.tick) ∧ wh.cell? ⟨w.heap.size + 2, 2, none⟩ = some (.int .i64 K.given) ∧ wh.cell? ⟨w.heap.size + 2, 3, none⟩ = some (.slice (some ⟨p0, 0, none⟩) K.objects.length K.objects.length) ∧ wh.cell? ⟨w.heap.size + 2, 4, none⟩ = some (.slice (some ⟨p1, 0, none⟩) K.grants.length K.grants.length) ∧ wh.cell? ⟨w.heap.size + 2, 5, none⟩ = some (.slice (some ⟨p2, 0, none⟩) K.ledgers.length K.ledgers.length)) := ⟨(hb.cell (p := ⟨w.heap.size + 2, 0, none⟩) HOg.out.lt).trans HCg.out.1, (hb.cell (p := ⟨w.heap.size + 2, 1, none⟩) HOg.out.lt).trans HCg.out.2.1, (hb.cell (p := ⟨w.heap.size + 2, 2, none⟩) HOg.out.lt).trans HCg.out.2.2.1, (hb.cell (p := ⟨w.heap.size + 2, 3, none⟩) HOg.out.lt).trans HCg.out.2.2.2.1, (hb.cell (p := ⟨w.heap.size + 2, 4, none⟩) HOg.out.lt).trans HCg.out.2.2.2.2.1, (hb.cell (p := ⟨w.heap.size + 2, 5, none⟩) HOg.out.lt).trans HCg.out.2.2.2.2.2⟩
  have HZh : Hid (w.heap.size + 3 ≤ wh.heap.size) := Nat.le_trans HZg.out hb.size
  clear hi hb hp yz y0 y1 y2 y3 y4 y5 y6 HXg HBg HOg HRg HCg HZg HIg
  have hfz := HOh.out.frozen
  have hz := HOh.out.lt
  obtain ⟨z, ez⟩ := HOh.out.cell 6 (by omega)
  obtain ⟨wi, hw⟩ : ∃ wi, wi = wh.setCell ⟨w.heap.size + 2, 6, none⟩ (.slice (some ⟨p3, 0, none⟩) K.purses.length K.purses.length) := ⟨_, rfl⟩
  have HBi : Hid (Below w.heap.size w wi) := by show Below _ _ _; rw [hw]; exact HBh.out.setCell (p := ⟨w.heap.size + 2, 6, none⟩) (by show w.heap.size ≤ w.heap.size + 2; omega) _
  have HXi : Hid (Box7 wi w.heap.size (.int .i64 K.now) (.int .i64 K.tick) (.int .i64 K.given) (v0) (v1) (v2) (v3)) := by
    show Box7 _ _ _ _ _ _ _ _ _
    rw [hw]
    obtain ⟨yz, y0, y1, y2, y3, y4, y5, y6⟩ := HXh.out
    exact ⟨by rw [sc_size]; exact yz, (sc_ne _ _ _ _ _ _ (by omega)).trans y0, (sc_ne _ _ _ _ _ _ (by omega)).trans y1, (sc_ne _ _ _ _ _ _ (by omega)).trans y2, (sc_ne _ _ _ _ _ _ (by omega)).trans y3, (sc_ne _ _ _ _ _ _ (by omega)).trans y4, (sc_ne _ _ _ _ _ _ (by omega)).trans y5, (sc_ne _ _ _ _ _ _ (by omega)).trans y6⟩
  have HOi : Hid (OwnBlk wi (w.heap.size + 2) 57 7) := by show OwnBlk _ _ _ _; rw [hw]; exact HOh.out.setCell 6 _
  have HRi : Hid (OwnBlk wi (w.heap.size + 1) 57 7) := by show OwnBlk _ _ _ _; rw [hw]; exact HRh.out.sc_other (by omega) _ _
  have HCi : Hid (wi.cell? ⟨w.heap.size + 2, 0, none⟩ = some (.int .i64 K.now) ∧ wi.cell? ⟨w.heap.size + 2, 1, none⟩ = some (.int .i64 K.tick) ∧ wi.cell? ⟨w.heap.size + 2, 2, none⟩ = some (.int .i64 K.given) ∧ wi.cell? ⟨w.heap.size + 2, 3, none⟩ = some (.slice (some ⟨p0, 0, none⟩) K.objects.length K.objects.length) ∧ wi.cell? ⟨w.heap.size + 2, 4, none⟩ = some (.slice (some ⟨p1, 0, none⟩) K.grants.length K.grants.length) ∧ wi.cell? ⟨w.heap.size + 2, 5, none⟩ = some (.slice (some ⟨p2, 0, none⟩) K.ledgers.length K.ledgers.length) ∧ wi.cell? ⟨w.heap.size + 2, 6, none⟩ = some (.slice (some ⟨p3, 0, none⟩) K.purses.length K.purses.length)) := by
    show _ ∧ _ ∧ _ ∧ _ ∧ _ ∧ _ ∧ _
    rw [hw]
    exact ⟨(sc_ne _ _ _ _ _ _ (by omega)).trans HCh.out.1, (sc_ne _ _ _ _ _ _ (by omega)).trans HCh.out.2.1, (sc_ne _ _ _ _ _ _ (by omega)).trans HCh.out.2.2.1, (sc_ne _ _ _ _ _ _ (by omega)).trans HCh.out.2.2.2.1, (sc_ne _ _ _ _ _ _ (by omega)).trans HCh.out.2.2.2.2.1, (sc_ne _ _ _ _ _ _ (by omega)).trans HCh.out.2.2.2.2.2, sc_eq HOh.out 6 (by omega) _⟩
  have HIi : Hid (ObsIn wi p0 K.objects ∧ GrsIn wi p1 K.grants ∧ LgsIn wi p2 K.ledgers ∧ PssIn wi p3 K.purses) := by
    show _ ∧ _ ∧ _ ∧ _
    rw [hw]
    exact ⟨HIh.out.1.sc (by have := HP0.out; omega) _ _, HIh.out.2.1.sc (by have := HP1.out; omega) _ _, HIh.out.2.2.1.sc (by have := HP2.out; omega) _ _, HIh.out.2.2.2.sc (by have := HP3.out; omega) _ _⟩
  have HZi : Hid (w.heap.size + 3 ≤ wi.heap.size) := by show _ ≤ _; rw [hw, sc_size]; exact HZh.out
  go_upto_region 9 with fail
  rw [← hw]
  clear hw hfz hz ez HBh HXh HOh HRh HCh HIh HZh
  have d0 := HCi.out.1
  have d1 := HCi.out.2.1
  have d2 := HCi.out.2.2.1
  have d3 := HCi.out.2.2.2.1
  have d4 := HCi.out.2.2.2.2.1
  have d5 := HCi.out.2.2.2.2.2.1
  have d6 := HCi.out.2.2.2.2.2.2
  have dz := HOi.out.lt
  have hfz := HRi.out.frozen
  have hz := HRi.out.lt
  obtain ⟨z0, e0⟩ := HRi.out.cell 0 (by omega)
  obtain ⟨z1, e1⟩ := HRi.out.cell 1 (by omega)
  obtain ⟨z2, e2⟩ := HRi.out.cell 2 (by omega)
  obtain ⟨z3, e3⟩ := HRi.out.cell 3 (by omega)
  obtain ⟨z4, e4⟩ := HRi.out.cell 4 (by omega)
  obtain ⟨z5, e5⟩ := HRi.out.cell 5 (by omega)
  obtain ⟨z6, e6⟩ := HRi.out.cell 6 (by omega)
  go_wp2
  have p := fun i hi => puts_at 0 [.int .i64 K.now, .int .i64 K.tick, .int .i64 K.given, .slice (some ⟨p0, 0, none⟩) K.objects.length K.objects.length, .slice (some ⟨p1, 0, none⟩) K.grants.length K.grants.length, .slice (some ⟨p2, 0, none⟩) K.ledgers.length K.ledgers.length, .slice (some ⟨p3, 0, none⟩) K.purses.length K.purses.length] wi 0 HRi.out (by simp) i hi
  have t0 := p 0 (by simp)
  have t1 := p 1 (by simp)
  have t2 := p 2 (by simp)
  have t3 := p 3 (by simp)
  have t4 := p 4 (by simp)
  have t5 := p 5 (by simp)
  have t6 := p 6 (by simp)
  have HPP : Hid (Below w.heap.size w (puts wi (w.heap.size + 1) 0 0 [.int .i64 K.now, .int .i64 K.tick, .int .i64 K.given, .slice (some ⟨p0, 0, none⟩) K.objects.length K.objects.length, .slice (some ⟨p1, 0, none⟩) K.grants.length K.grants.length, .slice (some ⟨p2, 0, none⟩) K.ledgers.length K.ledgers.length, .slice (some ⟨p3, 0, none⟩) K.purses.length K.purses.length])) := puts_below (a := w) _ (by omega) _ _ _ HBi.out
  have hsc : ∀ (W : World) (j : Nat) (v : Value), (ObsIn W p0 K.objects ∧ GrsIn W p1 K.grants ∧ LgsIn W p2 K.ledgers ∧ PssIn W p3 K.purses) → (ObsIn (W.setCell ⟨w.heap.size + 1, j, none⟩ v) p0 K.objects ∧ GrsIn (W.setCell ⟨w.heap.size + 1, j, none⟩ v) p1 K.grants ∧ LgsIn (W.setCell ⟨w.heap.size + 1, j, none⟩ v) p2 K.ledgers ∧ PssIn (W.setCell ⟨w.heap.size + 1, j, none⟩ v) p3 K.purses) := fun W j v hh => ⟨hh.1.sc (by have := HP0.out; omega) _ _, hh.2.1.sc (by have := HP1.out; omega) _ _, hh.2.2.1.sc (by have := HP2.out; omega) _ _, hh.2.2.2.sc (by have := HP3.out; omega) _ _⟩
  simp only [puts, Nat.add_zero, Nat.zero_add, Nat.reduceAdd, List.getElem?_cons_zero, List.getElem?_cons_succ] at t0 t1 t2 t3 t4 t5 t6
  have HQ := hsc _ 6 (.slice (some ⟨p3, 0, none⟩) K.purses.length K.purses.length) (hsc _ 5 (.slice (some ⟨p2, 0, none⟩) K.ledgers.length K.ledgers.length) (hsc _ 4 (.slice (some ⟨p1, 0, none⟩) K.grants.length K.grants.length) (hsc _ 3 (.slice (some ⟨p0, 0, none⟩) K.objects.length K.objects.length) (hsc _ 2 (.int .i64 K.given) (hsc _ 1 (.int .i64 K.tick) (hsc _ 0 (.int .i64 K.now) HIi.out))))))
  refine bodyPost_ret (v := .agg #[.int .i64 K.now, .int .i64 K.tick, .int .i64 K.given, .slice (some ⟨p0, 0, none⟩) K.objects.length K.objects.length, .slice (some ⟨p1, 0, none⟩) K.grants.length K.grants.length, .slice (some ⟨p2, 0, none⟩) K.ledgers.length K.ledgers.length, .slice (some ⟨p3, 0, none⟩) K.purses.length K.purses.length]) (by simp [results, Try.results15, go_sem, t0, t1, t2, t3, t4, t5, t6]) rfl ⟨⟨p0, p1, p2, p3, rfl, ⟨HQ.1, HQ.2.1, HQ.2.2.1, HQ.2.2.2⟩, by have := HP0.out; omega, by have := HP1.out; omega, by have := HP2.out; omega, by have := HP3.out; omega⟩, ?_⟩
  exact HPP.out

set_option maxHeartbeats 4000000 in
theorem eqBook (K : Bk) (b0 b1 b2 b3 q0 q1 q2 q3 : Nat) (w : World) (h : BkIn w b0 b1 b2 b3 K) (h' : BkIn w q0 q1 q2 q3 K) :
    Calls Try.prog 17 #[.agg #[.int .i64 K.now, .int .i64 K.tick, .int .i64 K.given, .slice (some ⟨b0, 0, none⟩) K.objects.length K.objects.length, .slice (some ⟨b1, 0, none⟩) K.grants.length K.grants.length, .slice (some ⟨b2, 0, none⟩) K.ledgers.length K.ledgers.length, .slice (some ⟨b3, 0, none⟩) K.purses.length K.purses.length], .agg #[.int .i64 K.now, .int .i64 K.tick, .int .i64 K.given, .slice (some ⟨q0, 0, none⟩) K.objects.length K.objects.length, .slice (some ⟨q1, 0, none⟩) K.grants.length K.grants.length, .slice (some ⟨q2, 0, none⟩) K.ledgers.length K.ledgers.length, .slice (some ⟨q3, 0, none⟩) K.purses.length K.purses.length]] w fun e w' => e = .returned (.bool true) ∧ Below w.heap.size w w' := by
  have HH : Hid (BkIn w b0 b1 b2 b3 K ∧ BkIn w q0 q1 q2 q3 K) := ⟨h, h'⟩
  clear h h'
  obtain ⟨wa, hwa⟩ : ∃ wa, wa = (w.alloc (.cells #[.int .i64 K.now, .int .i64 K.tick, .int .i64 K.given, .slice (some ⟨b0, 0, none⟩) K.objects.length K.objects.length, .slice (some ⟨b1, 0, none⟩) K.grants.length K.grants.length, .slice (some ⟨b2, 0, none⟩) K.ledgers.length K.ledgers.length, .slice (some ⟨b3, 0, none⟩) K.purses.length K.purses.length] 57)).alloc (.cells #[.int .i64 K.now, .int .i64 K.tick, .int .i64 K.given, .slice (some ⟨q0, 0, none⟩) K.objects.length K.objects.length, .slice (some ⟨q1, 0, none⟩) K.grants.length K.grants.length, .slice (some ⟨q2, 0, none⟩) K.ledgers.length K.ledgers.length, .slice (some ⟨q3, 0, none⟩) K.purses.length K.purses.length] 57) := ⟨_, rfl⟩
  have HBa : Hid (Below w.heap.size w wa) := by show Below _ _ _; rw [hwa]; exact blw_alloc (blw_alloc (Below.refl _ _) _) _
  have HXa : Hid (Box7 wa w.heap.size (.int .i64 K.now) (.int .i64 K.tick) (.int .i64 K.given) (.slice (some ⟨b0, 0, none⟩) K.objects.length K.objects.length) (.slice (some ⟨b1, 0, none⟩) K.grants.length K.grants.length) (.slice (some ⟨b2, 0, none⟩) K.ledgers.length K.ledgers.length) (.slice (some ⟨b3, 0, none⟩) K.purses.length K.purses.length) ∧ Box7 wa (w.heap.size + 1) (.int .i64 K.now) (.int .i64 K.tick) (.int .i64 K.given) (.slice (some ⟨q0, 0, none⟩) K.objects.length K.objects.length) (.slice (some ⟨q1, 0, none⟩) K.grants.length K.grants.length) (.slice (some ⟨q2, 0, none⟩) K.ledgers.length K.ledgers.length) (.slice (some ⟨q3, 0, none⟩) K.purses.length K.purses.length)) := by show _ ∧ _; rw [hwa]; exact ⟨(Box7.new' w _ _ _ _ _ _ _ _ _ rfl).past _, Box7.new' _ _ _ _ _ _ _ _ _ _ (by simp)⟩
  go_enter Try.func17, Try.ntmps17
  go_upto_region 1 with fail
  rw [← hwa]
  clear hwa
  obtain ⟨yz, y0, y1, y2, y3, y4, y5, y6⟩ := HXa.out.1
  obtain ⟨xz, x0, x1, x2, x3, x4, x5, x6⟩ := HXa.out.2
  go_wp2_with fail
  refine (eqObs b0 q0 K.objects wa (HH.out.1.later HBa.out).o (HH.out.2.later HBa.out).o).mono ?_
  rintro e wb ⟨rfl, hb⟩
  have HBb : Hid (Below w.heap.size w wb) := blw_trans HBa.out hb
  have HXb : Hid (Box7 wb w.heap.size (.int .i64 K.now) (.int .i64 K.tick) (.int .i64 K.given) (.slice (some ⟨b0, 0, none⟩) K.objects.length K.objects.length) (.slice (some ⟨b1, 0, none⟩) K.grants.length K.grants.length) (.slice (some ⟨b2, 0, none⟩) K.ledgers.length K.ledgers.length) (.slice (some ⟨b3, 0, none⟩) K.purses.length K.purses.length) ∧ Box7 wb (w.heap.size + 1) (.int .i64 K.now) (.int .i64 K.tick) (.int .i64 K.given) (.slice (some ⟨q0, 0, none⟩) K.objects.length K.objects.length) (.slice (some ⟨q1, 0, none⟩) K.grants.length K.grants.length) (.slice (some ⟨q2, 0, none⟩) K.ledgers.length K.ledgers.length) (.slice (some ⟨q3, 0, none⟩) K.purses.length K.purses.length)) := ⟨HXa.out.1.later hb, HXa.out.2.later hb⟩
  clear hb yz y0 y1 y2 y3 y4 y5 y6 xz x0 x1 x2 x3 x4 x5 x6 HXa HBa
  obtain ⟨yz, y0, y1, y2, y3, y4, y5, y6⟩ := HXb.out.1
  obtain ⟨xz, x0, x1, x2, x3, x4, x5, x6⟩ := HXb.out.2
  go_wp2_with fail
  refine (eqGrs b1 q1 K.grants wb (HH.out.1.later HBb.out).g (HH.out.2.later HBb.out).g).mono ?_
  rintro e wc ⟨rfl, hb⟩
  have HBc : Hid (Below w.heap.size w wc) := blw_trans HBb.out hb
  have HXc : Hid (Box7 wc w.heap.size (.int .i64 K.now) (.int .i64 K.tick) (.int .i64 K.given) (.slice (some ⟨b0, 0, none⟩) K.objects.length K.objects.length) (.slice (some ⟨b1, 0, none⟩) K.grants.length K.grants.length) (.slice (some ⟨b2, 0, none⟩) K.ledgers.length K.ledgers.length) (.slice (some ⟨b3, 0, none⟩) K.purses.length K.purses.length) ∧ Box7 wc (w.heap.size + 1) (.int .i64 K.now) (.int .i64 K.tick) (.int .i64 K.given) (.slice (some ⟨q0, 0, none⟩) K.objects.length K.objects.length) (.slice (some ⟨q1, 0, none⟩) K.grants.length K.grants.length) (.slice (some ⟨q2, 0, none⟩) K.ledgers.length K.ledgers.length) (.slice (some ⟨q3, 0, none⟩) K.purses.length K.purses.length)) := ⟨HXb.out.1.later hb, HXb.out.2.later hb⟩
  clear hb yz y0 y1 y2 y3 y4 y5 y6 xz x0 x1 x2 x3 x4 x5 x6 HXb HBb
  obtain ⟨yz, y0, y1, y2, y3, y4, y5, y6⟩ := HXc.out.1
  obtain ⟨xz, x0, x1, x2, x3, x4, x5, x6⟩ := HXc.out.2
  go_wp2_with fail
  refine (eqLgs b2 q2 K.ledgers wc (HH.out.1.later HBc.out).l (HH.out.2.later HBc.out).l).mono ?_
  rintro e wd ⟨rfl, hb⟩
  have HBd : Hid (Below w.heap.size w wd) := blw_trans HBc.out hb
  have HXd : Hid (Box7 wd w.heap.size (.int .i64 K.now) (.int .i64 K.tick) (.int .i64 K.given) (.slice (some ⟨b0, 0, none⟩) K.objects.length K.objects.length) (.slice (some ⟨b1, 0, none⟩) K.grants.length K.grants.length) (.slice (some ⟨b2, 0, none⟩) K.ledgers.length K.ledgers.length) (.slice (some ⟨b3, 0, none⟩) K.purses.length K.purses.length) ∧ Box7 wd (w.heap.size + 1) (.int .i64 K.now) (.int .i64 K.tick) (.int .i64 K.given) (.slice (some ⟨q0, 0, none⟩) K.objects.length K.objects.length) (.slice (some ⟨q1, 0, none⟩) K.grants.length K.grants.length) (.slice (some ⟨q2, 0, none⟩) K.ledgers.length K.ledgers.length) (.slice (some ⟨q3, 0, none⟩) K.purses.length K.purses.length)) := ⟨HXc.out.1.later hb, HXc.out.2.later hb⟩
  clear hb yz y0 y1 y2 y3 y4 y5 y6 xz x0 x1 x2 x3 x4 x5 x6 HXc HBc
  obtain ⟨yz, y0, y1, y2, y3, y4, y5, y6⟩ := HXd.out.1
  obtain ⟨xz, x0, x1, x2, x3, x4, x5, x6⟩ := HXd.out.2
  go_wp2_with fail
  refine (eqPss b3 q3 K.purses wd (HH.out.1.later HBd.out).p (HH.out.2.later HBd.out).p).mono ?_
  rintro e we ⟨rfl, hb⟩
  have HBe : Hid (Below w.heap.size w we) := blw_trans HBd.out hb
  have HXe : Hid (Box7 we w.heap.size (.int .i64 K.now) (.int .i64 K.tick) (.int .i64 K.given) (.slice (some ⟨b0, 0, none⟩) K.objects.length K.objects.length) (.slice (some ⟨b1, 0, none⟩) K.grants.length K.grants.length) (.slice (some ⟨b2, 0, none⟩) K.ledgers.length K.ledgers.length) (.slice (some ⟨b3, 0, none⟩) K.purses.length K.purses.length) ∧ Box7 we (w.heap.size + 1) (.int .i64 K.now) (.int .i64 K.tick) (.int .i64 K.given) (.slice (some ⟨q0, 0, none⟩) K.objects.length K.objects.length) (.slice (some ⟨q1, 0, none⟩) K.grants.length K.grants.length) (.slice (some ⟨q2, 0, none⟩) K.ledgers.length K.ledgers.length) (.slice (some ⟨q3, 0, none⟩) K.purses.length K.purses.length)) := ⟨HXd.out.1.later hb, HXd.out.2.later hb⟩
  clear hb yz y0 y1 y2 y3 y4 y5 y6 xz x0 x1 x2 x3 x4 x5 x6 HXd HBd
  go_wp2
  go_ret
  exact ⟨rfl, HBe.out⟩

end Go.Proofs.Ytliaibdbcaglnaa
