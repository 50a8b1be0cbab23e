/-
  A law in memory: sizes, copies, equality.
-/
import Derived.Test.YtliaibdbcaglnaaGreatSzM
import Derived.Test.YtliaibdbcaglnaaGreatWalkTB
import Derived.Test.YtliaibdbcaglnaaGreatWalkM
import Derived.Test.YtliaibdbcaglnaaGreatWalkP
import Derived.Test.YtliaibdbcaglnaaGreatPlainC
import Derived.Deep.DeepCutAuto
namespace Go.Proofs.YtliaibdbcaglnaaGreat
open Go.RowKit Go.Deep

structure Lw where
  shapes : List Shp
  mends : List Mnd
  teams : List Tm

structure LwAt (w : World) (v0 v1 v2 : Value) (L : Lw) : Prop where
  s : ShpsAt w v0 L.shapes
  m : MndsAt w v1 L.mends
  t : TmsAt w v2 L.teams

structure LwIn (w : World) (b0 b1 b2 : Nat) (L : Lw) : Prop where
  s : ShpsIn w b0 L.shapes
  m : MndsIn w b1 L.mends
  t : TmsIn w b2 L.teams

def Lw.small (L : Lw) : Prop := (L.shapes.length ≤ 1048576 ∧ ∀ s ∈ L.shapes, s.small) ∧ L.mends.length ≤ 1048576 ∧ L.teams.length ≤ 1048576

theorem LwAt.later {w w' : World} {v0 v1 v2 : Value} {L : Lw} (h : LwAt w v0 v1 v2 L) (hb : Below w.heap.size w w') : LwAt w' v0 v1 v2 L := ⟨h.s.later hb, h.m.later hb, h.t.later hb⟩
theorem LwIn.later {w w' : World} {b0 b1 b2 : Nat} {L : Lw} (h : LwIn w b0 b1 b2 L) (hb : Below w.heap.size w w') : LwIn w' b0 b1 b2 L := ⟨h.s.later hb, h.m.later hb, h.t.later hb⟩

theorem OwnBlk.alloc_at2 (W : World) (cs : Array Value) (t : TypeId) (m n : Nat) (h : cs.size = m) (hn : n = W.heap.size) : OwnBlk (W.alloc (.cells cs t)) n t m := by
  subst hn; exact OwnBlk.alloc W cs t m h

/-- Three cells of the block p. -/
structure Box3 (W : World) (p : Nat) (v0 v1 v2 : Value) : Prop where
  lt : p < W.heap.size
  x0 : W.cell? ⟨p, 0, none⟩ = some v0
  x1 : W.cell? ⟨p, 1, none⟩ = some v1
  x2 : W.cell? ⟨p, 2, none⟩ = some v2

theorem Box3.later {W W' : World} {p : Nat} {v0 v1 v2 : Value} (h : Box3 W p v0 v1 v2) (hb : Below W.heap.size W W') : Box3 W' p v0 v1 v2 := by
  have c : ∀ j, W'.cell? ⟨p, j, none⟩ = W.cell? ⟨p, j, none⟩ := fun j => hb.cell (p := ⟨p, j, none⟩) h.lt
  exact ⟨Nat.lt_of_lt_of_le h.lt hb.size, (c 0).trans h.x0, (c 1).trans h.x1, (c 2).trans h.x2⟩
theorem Box3.new (W : World) (v0 v1 v2 : Value) (t : TypeId) : Box3 (W.alloc (.cells #[v0, v1, v2] t)) W.heap.size v0 v1 v2 := ⟨by simp, by simp, by simp, by simp⟩
theorem Box3.new' (W : World) (p : Nat) (v0 v1 v2 : Value) (t : TypeId) (hp : p = W.heap.size) : Box3 (W.alloc (.cells #[v0, v1, v2] t)) p v0 v1 v2 := by
  subst hp; exact Box3.new W v0 v1 v2 t
theorem Box3.past {W : World} {p : Nat} {v0 v1 v2 : Value} (h : Box3 W p v0 v1 v2) (o : Obj) : Box3 (W.alloc o) p v0 v1 v2 := h.later (blw_alloc (Below.refl _ _) o)

/- A store into a block below. -/
theorem OwnShp.sc {w : World} {B o p : Nat} {s : Shp} (h : OwnShp w B o s) (hp : p < B) (j : Nat) (v : Value) : OwnShp (w.setCell ⟨p, j, none⟩ v) B o s := by
  obtain ⟨b, h1, h2, h3, h4, h5, h6, h7⟩ := h
  have hb := h1.1
  exact ⟨b, ⟨h1.1, h1.2.sc_other (by omega) _ _⟩, by rw [sc_size]; exact h2, h3, h4, (sc_ne _ _ _ _ _ _ (by omega)).trans h5, (sc_ne _ _ _ _ _ _ (by omega)).trans h6, fun i hi => (h7 i hi).sc (by omega) _ _⟩
theorem ShpsIn.sc {w : World} {B p : Nat} {ss : List Shp} (h : ShpsIn w B ss) (hp : p < B) (j : Nat) (v : Value) : ShpsIn (w.setCell ⟨p, j, none⟩ v) B ss :=
  ⟨by rw [sc_size]; exact h.lt, h.len, h.small, fun i hi => (h.at_ i hi).sc hp j v, h.own.sc_other (by omega) _ _⟩
theorem MndsIn.sc {w : World} {B p : Nat} {ms : List Mnd} (h : MndsIn w B ms) (hp : p < B) (j : Nat) (v : Value) : MndsIn (w.setCell ⟨p, j, none⟩ v) B ms := by
  have c : ∀ q, (w.setCell ⟨p, j, none⟩ v).cell? ⟨B, q, none⟩ = w.cell? ⟨B, q, none⟩ := fun q => sc_ne _ _ _ _ _ _ (by omega)
  exact ⟨by rw [sc_size]; exact h.lt, h.len, fun i hi => by obtain ⟨c0, c1, c2, c3, c4, c5, hs⟩ := h.at_ i hi; exact ⟨(c _).trans c0, (c _).trans c1, (c _).trans c2, (c _).trans c3, (c _).trans c4, (c _).trans c5, hs⟩⟩
theorem TmsIn.sc {w : World} {B p : Nat} {ms : List Tm} (h : TmsIn w B ms) (hp : p < B) (j : Nat) (v : Value) : TmsIn (w.setCell ⟨p, j, none⟩ v) B ms := by
  have c : ∀ q, (w.setCell ⟨p, j, none⟩ v).cell? ⟨B, q, none⟩ = w.cell? ⟨B, q, none⟩ := fun q => sc_ne _ _ _ _ _ _ (by omega)
  exact ⟨by rw [sc_size]; exact h.lt, h.len, fun i hi => by obtain ⟨c0, c1, hs⟩ := h.at_ i hi; exact ⟨(c _).trans c0, (c _).trans c1, hs⟩⟩

theorem toShapesI (v : Value) (ss : List Shp) (w : World) (hl : ss.length ≤ 1048576) (hsm : ∀ s ∈ ss, s.small) (h : ShpsAt w v ss) :
    Calls Tryz.prog 20 #[v] w fun e w' => e = .returned (.slice (some ⟨w.heap.size, 0, none⟩) ss.length ss.length) ∧ Below w.heap.size w w' ∧ ShpsIn w' w.heap.size ss := by
  refine (toShapes v ss w hl hsm h).mono ?_
  rintro e w' ⟨rfl, h1, h2, h3⟩
  exact ⟨rfl, h1, ⟨h2.lt, hl, hsm, h3, h2⟩⟩

set_option maxHeartbeats 2000000 in
theorem szLaw (L : Lw) (v0 v1 v2 : Value) (left : Int) (w : World) (h0 : 0 ≤ left) (h1 : left ≤ 1048576) (h : LwAt w v0 v1 v2 L) :
    Calls Tryz.prog 5 #[.agg #[v0, v1, v2], .int .i64 left] w fun e w' => (∃ r : Int, e = .returned (.int .i64 r) ∧ szP L.small left r) ∧ Below w.heap.size w w' := by
  have HH : Hid (LwAt w v0 v1 v2 L) := h
  clear h
  obtain ⟨wa, hwa⟩ : ∃ wa, wa = w.alloc (.cells #[v0, v1, v2] 26) := ⟨_, rfl⟩
  have HBa : Hid (Below w.heap.size w wa) := by show Below _ _ _; rw [hwa]; exact blw_alloc (Below.refl _ _) _
  have HXa : Hid (Box3 wa w.heap.size v0 v1 v2) := by show Box3 _ _ _ _ _; rw [hwa]; exact Box3.new w v0 v1 v2 _
  have ya := HXa.out
  obtain ⟨yz, y0, y1, y2⟩ := ya
  go_enter Tryz.func5, Tryz.ntmps5
  go_upto_region 1 with fail
  rw [← hwa]
  clear hwa
  go_wp2_with fail
  refine (szShapes v0 L.shapes left wa h0 h1 (HH.out.later HBa.out).s).mono ?_
  rintro e wb ⟨⟨r, rfl, hr⟩, hb⟩
  have HR : Hid (szP ((L.shapes.length : Int) ≤ left ∧ ∀ s ∈ L.shapes, s.small) left r) := hr
  have q1 : -1 ≤ r := hr.1
  have q2 : r ≤ left := hr.2.1
  have HBb : Hid (Below w.heap.size w wb) := blw_trans HBa.out hb
  have HXb : Hid (Box3 wb w.heap.size v0 v1 v2) := HXa.out.later hb
  clear hr hb yz y0 y1 y2 HXa HBa
  by_cases c1 : r < 0
  · go_wp2
    go_ret
    exact ⟨⟨_, rfl, by unfold szP; exact ⟨by omega, by omega, by omega⟩⟩, HBb.out⟩
  obtain ⟨yz, y0, y1, y2⟩ := HXb.out
  go_wp2_with fail
  refine (szMends v1 L.mends r wb (by omega) (by omega) (HH.out.later HBb.out).m).mono ?_
  rintro e wc ⟨⟨r2, rfl, hr⟩, hb⟩
  have HR2 : Hid (szP ((L.mends.length : Int) ≤ r) r r2) := hr
  have q3 : -1 ≤ r2 := hr.1
  have q4 : r2 ≤ r := hr.2.1
  have HBc : Hid (Below w.heap.size w wc) := blw_trans HBb.out hb
  have HXc : Hid (Box3 wc w.heap.size v0 v1 v2) := HXb.out.later hb
  clear hr hb yz y0 y1 y2 HXb HBb
  by_cases c2 : r2 < 0
  · go_wp2
    go_ret
    exact ⟨⟨_, rfl, by unfold szP; exact ⟨by omega, by omega, by omega⟩⟩, HBc.out⟩
  obtain ⟨yz, y0, y1, y2⟩ := HXc.out
  go_wp2_with fail
  refine (szTeams v2 L.teams r2 wc (by omega) (by omega) (HH.out.later HBc.out).t).mono ?_
  rintro e wd ⟨⟨r3, rfl, hr⟩, hb⟩
  have HR3 : Hid (szP ((L.teams.length : Int) ≤ r2) r2 r3) := hr
  have q5 : -1 ≤ r3 := hr.1
  have q6 : r3 ≤ r2 := hr.2.1
  have HBd : Hid (Below w.heap.size w wd) := blw_trans HBc.out hb
  clear hr hb yz y0 y1 y2 HXc HBc
  by_cases c3 : r3 < 0
  · go_wp2
    go_ret
    exact ⟨⟨_, rfl, by unfold szP; exact ⟨by omega, by omega, by omega⟩⟩, HBd.out⟩
  go_wp2
  go_ret
  refine ⟨⟨_, rfl, ?_⟩, HBd.out⟩
  have k1 := HR.out.2.2 (by omega)
  have k2 := HR2.out.2.2 (by omega)
  have k3 := HR3.out.2.2 (by omega)
  unfold szP
  exact ⟨by omega, by omega, fun _ => ⟨⟨by omega, k1.2⟩, by omega, by omega⟩⟩

set_option maxHeartbeats 4000000 in
theorem toLaw (L : Lw) (v0 v1 v2 : Value) (w : World) (hs : L.small) (h : LwAt w v0 v1 v2 L) :
    Calls Tryz.prog 7 #[.agg #[v0, v1, v2]] w fun e w' => (∃ b0 b1 b2, e = .returned (.agg #[.slice (some ⟨b0, 0, none⟩) L.shapes.length L.shapes.length, .slice (some ⟨b1, 0, none⟩) L.mends.length L.mends.length, .slice (some ⟨b2, 0, none⟩) L.teams.length L.teams.length]) ∧ LwIn w' b0 b1 b2 L ∧ w.heap.size ≤ b0 ∧ w.heap.size ≤ b1 ∧ w.heap.size ≤ b2) ∧ Below w.heap.size w w' := by
  have HH : Hid (LwAt w v0 v1 v2 L ∧ L.small) := ⟨h, hs⟩
  clear h hs
  obtain ⟨wa, hwa⟩ : ∃ wa, wa = ((w.alloc (.cells #[v0, v1, v2] 26)).alloc (.cells #[.slice none 0 0, .slice none 0 0, .slice none 0 0] 33)).alloc (.cells #[.slice none 0 0, .slice none 0 0, .slice none 0 0] 33) := ⟨_, rfl⟩
  have HBa : Hid (Below w.heap.size w wa) := by show Below _ _ _; rw [hwa]; exact blw_alloc (blw_alloc (blw_alloc (Below.refl _ _) _) _) _
  have HXa : Hid (Box3 wa w.heap.size v0 v1 v2) := by show Box3 _ _ _ _ _; rw [hwa]; exact ((Box3.new w v0 v1 v2 _).past _).past _
  have HOa : Hid (OwnBlk wa (w.heap.size + 2) 33 3) := by show OwnBlk _ _ _ _; rw [hwa]; exact OwnBlk.alloc_at2 _ _ _ _ _ rfl (by simp)
  have HRa : Hid (OwnBlk wa (w.heap.size + 1) 33 3) := by show OwnBlk _ _ _ _; rw [hwa]; exact (OwnBlk.alloc_at2 _ _ _ _ _ rfl (by simp)).past _
  have HZa : Hid (w.heap.size + 3 ≤ wa.heap.size) := by show _ ≤ _; rw [hwa]; simp
  obtain ⟨yz, y0, y1, y2⟩ := HXa.out
  go_enter Tryz.func7, Tryz.ntmps7
  go_upto_region 2 with fail
  rw [← hwa]
  clear hwa
  go_wp2_with fail
  refine (toShapesI v0 L.shapes wa HH.out.2.1.1 HH.out.2.1.2 (HH.out.1.later HBa.out).s).mono ?_
  rintro e wb ⟨rfl, hb, hi⟩
  obtain ⟨p0, hp0⟩ : ∃ p0, p0 = wa.heap.size := ⟨_, rfl⟩
  rw [← hp0] at hi ⊢
  have HP0 : Hid (w.heap.size + 3 ≤ p0) := by show _ ≤ _; rw [hp0]; exact HZa.out
  have HIb : Hid (ShpsIn wb p0 L.shapes) := hi
  have HBb : Hid (Below w.heap.size w wb) := blw_trans HBa.out hb
  have HRb : Hid (OwnBlk wb (w.heap.size + 1) 33 3) := HRa.out.later hb
  have HXb : Hid (Box3 wb w.heap.size v0 v1 v2) := HXa.out.later hb
  have HOb : Hid (OwnBlk wb (w.heap.size + 2) 33 3) := HOa.out.later hb
  have HZb : Hid (w.heap.size + 3 ≤ wb.heap.size) := Nat.le_trans HZa.out hb.size
  clear hi hb hp0 yz y0 y1 y2 HXa HBa HOa HZa
  obtain ⟨yz, y0, y1, y2⟩ := HXb.out
  have hfz := HOb.out.frozen
  have hz := HOb.out.lt
  obtain ⟨z0, e0⟩ := HOb.out.cell 0 (by omega)
  obtain ⟨z1, e1⟩ := HOb.out.cell 1 (by omega)
  obtain ⟨z2, e2⟩ := HOb.out.cell 2 (by omega)
  obtain ⟨wc, hwc⟩ : ∃ wc, wc = wb.setCell ⟨w.heap.size + 2, 0, none⟩ (.slice (some ⟨p0, 0, none⟩) L.shapes.length L.shapes.length) := ⟨_, rfl⟩
  have HBc : Hid (Below w.heap.size w wc) := by show Below _ _ _; rw [hwc]; exact HBb.out.setCell (p := ⟨w.heap.size + 2, 0, none⟩) (by show w.heap.size ≤ w.heap.size + 2; omega) _
  have HXc : Hid (Box3 wc w.heap.size v0 v1 v2) := by
    show Box3 _ _ _ _ _
    rw [hwc]
    exact ⟨by rw [sc_size]; exact yz, (sc_ne _ _ _ _ _ _ (by omega)).trans y0, (sc_ne _ _ _ _ _ _ (by omega)).trans y1, (sc_ne _ _ _ _ _ _ (by omega)).trans y2⟩
  have HOc : Hid (OwnBlk wc (w.heap.size + 2) 33 3 ∧ wc.cell? ⟨w.heap.size + 2, 0, none⟩ = some (.slice (some ⟨p0, 0, none⟩) L.shapes.length L.shapes.length)) := by
    show _ ∧ _
    rw [hwc]
    exact ⟨HOb.out.setCell 0 _, sc_eq HOb.out 0 (by omega) _⟩
  have HIc : Hid (ShpsIn wc p0 L.shapes) := by show ShpsIn _ _ _; rw [hwc]; exact HIb.out.sc (by have := HP0.out; omega) _ _
  have HRc : Hid (OwnBlk wc (w.heap.size + 1) 33 3) := by show OwnBlk _ _ _ _; rw [hwc]; exact HRb.out.sc_other (by omega) _ _
  have HZc : Hid (w.heap.size + 3 ≤ wc.heap.size) := by show _ ≤ _; rw [hwc, sc_size]; exact HZb.out
  go_upto_region 3 with fail
  rw [← hwc]
  clear hwc yz y0 y1 y2 hfz hz e0 e1 e2 HBb HXb HOb HIb HZb
  obtain ⟨yz, y0, y1, y2⟩ := HXc.out
  go_wp2_with fail
  refine (toMends v1 L.mends wc HH.out.2.2.1 (HH.out.1.later HBc.out).m).mono ?_
  rintro e wd ⟨rfl, hb, hi⟩
  obtain ⟨p1, hp1⟩ : ∃ p1, p1 = wc.heap.size := ⟨_, rfl⟩
  rw [← hp1] at hi ⊢
  have HP1 : Hid (w.heap.size + 3 ≤ p1) := by show _ ≤ _; rw [hp1]; exact HZc.out
  have HId : Hid (ShpsIn wd p0 L.shapes ∧ MndsIn wd p1 L.mends) := ⟨HIc.out.later hb, hi⟩
  have HBd : Hid (Below w.heap.size w wd) := blw_trans HBc.out hb
  have HRd : Hid (OwnBlk wd (w.heap.size + 1) 33 3) := HRc.out.later hb
  have HXd : Hid (Box3 wd w.heap.size v0 v1 v2) := HXc.out.later hb
  have HOd : Hid (OwnBlk wd (w.heap.size + 2) 33 3 ∧ wd.cell? ⟨w.heap.size + 2, 0, none⟩ = some (.slice (some ⟨p0, 0, none⟩) L.shapes.length L.shapes.length)) := ⟨HOc.out.1.later hb, (hb.cell (p := ⟨w.heap.size + 2, 0, none⟩) HOc.out.1.lt).trans HOc.out.2⟩
  have HZd : Hid (w.heap.size + 3 ≤ wd.heap.size) := Nat.le_trans HZc.out hb.size
  clear hi hb hp1 yz y0 y1 y2 HXc HBc HOc HZc HIc
  obtain ⟨yz, y0, y1, y2⟩ := HXd.out
  have hfz := HOd.out.1.frozen
  have hz := HOd.out.1.lt
  obtain ⟨z0, e0⟩ := HOd.out.1.cell 0 (by omega)
  obtain ⟨z1, e1⟩ := HOd.out.1.cell 1 (by omega)
  obtain ⟨z2, e2⟩ := HOd.out.1.cell 2 (by omega)
  obtain ⟨we, hwe⟩ : ∃ we, we = wd.setCell ⟨w.heap.size + 2, 1, none⟩ (.slice (some ⟨p1, 0, none⟩) L.mends.length L.mends.length) := ⟨_, rfl⟩
  have HBe : Hid (Below w.heap.size w we) := by show Below _ _ _; rw [hwe]; exact HBd.out.setCell (p := ⟨w.heap.size + 2, 1, none⟩) (by show w.heap.size ≤ w.heap.size + 2; omega) _
  have HXe : Hid (Box3 we w.heap.size v0 v1 v2) := by
    show Box3 _ _ _ _ _
    rw [hwe]
    exact ⟨by rw [sc_size]; exact yz, (sc_ne _ _ _ _ _ _ (by omega)).trans y0, (sc_ne _ _ _ _ _ _ (by omega)).trans y1, (sc_ne _ _ _ _ _ _ (by omega)).trans y2⟩
  have HOe : Hid (OwnBlk we (w.heap.size + 2) 33 3 ∧ we.cell? ⟨w.heap.size + 2, 0, none⟩ = some (.slice (some ⟨p0, 0, none⟩) L.shapes.length L.shapes.length) ∧ we.cell? ⟨w.heap.size + 2, 1, none⟩ = some (.slice (some ⟨p1, 0, none⟩) L.mends.length L.mends.length)) := by
    show _ ∧ _ ∧ _
    rw [hwe]
    exact ⟨HOd.out.1.setCell 1 _, (sc_ne _ _ _ _ _ _ (by omega)).trans HOd.out.2, sc_eq HOd.out.1 1 (by omega) _⟩
  have HIe : Hid (ShpsIn we p0 L.shapes ∧ MndsIn we p1 L.mends) := by show _ ∧ _; rw [hwe]; exact ⟨HId.out.1.sc (by have := HP0.out; omega) _ _, HId.out.2.sc (by have := HP1.out; omega) _ _⟩
  have HRe : Hid (OwnBlk we (w.heap.size + 1) 33 3) := by show OwnBlk _ _ _ _; rw [hwe]; exact HRd.out.sc_other (by omega) _ _
  have HZe : Hid (w.heap.size + 3 ≤ we.heap.size) := by show _ ≤ _; rw [hwe, sc_size]; exact HZd.out
  go_upto_region 4 with fail
  rw [← hwe]
  clear hwe yz y0 y1 y2 hfz hz e0 e1 e2 HBd HXd HOd HId HZd
  obtain ⟨yz, y0, y1, y2⟩ := HXe.out
  go_wp2_with fail
  refine (toTeams v2 L.teams we HH.out.2.2.2 (HH.out.1.later HBe.out).t).mono ?_
  rintro e wf ⟨rfl, hb, hi⟩
  obtain ⟨p2, hp2⟩ : ∃ p2, p2 = we.heap.size := ⟨_, rfl⟩
  rw [← hp2] at hi ⊢
  have HP2 : Hid (w.heap.size + 3 ≤ p2) := by show _ ≤ _; rw [hp2]; exact HZe.out
  have HIf : Hid (ShpsIn wf p0 L.shapes ∧ MndsIn wf p1 L.mends ∧ TmsIn wf p2 L.teams) := ⟨HIe.out.1.later hb, HIe.out.2.later hb, hi⟩
  have HBf : Hid (Below w.heap.size w wf) := blw_trans HBe.out hb
  have HRf : Hid (OwnBlk wf (w.heap.size + 1) 33 3) := HRe.out.later hb
  have HOf : Hid (OwnBlk wf (w.heap.size + 2) 33 3) := HOe.out.1.later hb
  have c0 := (hb.cell (p := ⟨w.heap.size + 2, 0, none⟩) HOe.out.1.lt).trans HOe.out.2.1
  have c1 := (hb.cell (p := ⟨w.heap.size + 2, 1, none⟩) HOe.out.1.lt).trans HOe.out.2.2
  clear hi hb hp2 yz y0 y1 y2 HXe HBe HOe HZe HIe
  have hfz := HOf.out.frozen
  have hz := HOf.out.lt
  obtain ⟨z2, e2⟩ := HOf.out.cell 2 (by omega)
  obtain ⟨wg, hwg⟩ : ∃ wg, wg = wf.setCell ⟨w.heap.size + 2, 2, none⟩ (.slice (some ⟨p2, 0, none⟩) L.teams.length L.teams.length) := ⟨_, rfl⟩
  have HBg : Hid (Below w.heap.size w wg) := by show Below _ _ _; rw [hwg]; exact HBf.out.setCell (p := ⟨w.heap.size + 2, 2, none⟩) (by show w.heap.size ≤ w.heap.size + 2; omega) _
  have HRg : Hid (OwnBlk wg (w.heap.size + 1) 33 3) := by show OwnBlk _ _ _ _; rw [hwg]; exact HRf.out.sc_other (by omega) _ _
  have HIg : Hid (ShpsIn wg p0 L.shapes ∧ MndsIn wg p1 L.mends ∧ TmsIn wg p2 L.teams) := by show _ ∧ _ ∧ _; rw [hwg]; exact ⟨HIf.out.1.sc (by have := HP0.out; omega) _ _, HIf.out.2.1.sc (by have := HP1.out; omega) _ _, HIf.out.2.2.sc (by have := HP2.out; omega) _ _⟩
  have d0 : wg.cell? ⟨w.heap.size + 2, 0, none⟩ = some (.slice (some ⟨p0, 0, none⟩) L.shapes.length L.shapes.length) := by rw [hwg]; exact (sc_ne _ _ _ _ _ _ (by omega)).trans c0
  have d1 : wg.cell? ⟨w.heap.size + 2, 1, none⟩ = some (.slice (some ⟨p1, 0, none⟩) L.mends.length L.mends.length) := by rw [hwg]; exact (sc_ne _ _ _ _ _ _ (by omega)).trans c1
  have d2 : wg.cell? ⟨w.heap.size + 2, 2, none⟩ = some (.slice (some ⟨p2, 0, none⟩) L.teams.length L.teams.length) := by rw [hwg]; exact sc_eq HOf.out 2 (by omega) _
  have gz : w.heap.size + 2 < wg.heap.size := by rw [hwg, sc_size]; exact hz
  go_upto_region 5 with fail
  rw [← hwg]
  clear hwg hfz hz e2 c0 c1 HBf HRf HIf HOf
  have hfz := HRg.out.frozen
  have hz := HRg.out.lt
  obtain ⟨z0, e0⟩ := HRg.out.cell 0 (by omega)
  obtain ⟨z1, e1⟩ := HRg.out.cell 1 (by omega)
  obtain ⟨z2, e2⟩ := HRg.out.cell 2 (by omega)
  go_wp2
  have t0 : (((wg.setCell ⟨w.heap.size + 1, 0, none⟩ (.slice (some ⟨p0, 0, none⟩) L.shapes.length L.shapes.length)).setCell ⟨w.heap.size + 1, 1, none⟩ (.slice (some ⟨p1, 0, none⟩) L.mends.length L.mends.length)).setCell ⟨w.heap.size + 1, 2, none⟩ (.slice (some ⟨p2, 0, none⟩) L.teams.length L.teams.length)).cell? ⟨w.heap.size + 1, 0, none⟩ = some (.slice (some ⟨p0, 0, none⟩) L.shapes.length L.shapes.length) := by
    rw [sc_ne _ _ _ _ _ _ (by omega), sc_ne _ _ _ _ _ _ (by omega)]; exact sc_eq HRg.out 0 (by omega) _
  have t1 : (((wg.setCell ⟨w.heap.size + 1, 0, none⟩ (.slice (some ⟨p0, 0, none⟩) L.shapes.length L.shapes.length)).setCell ⟨w.heap.size + 1, 1, none⟩ (.slice (some ⟨p1, 0, none⟩) L.mends.length L.mends.length)).setCell ⟨w.heap.size + 1, 2, none⟩ (.slice (some ⟨p2, 0, none⟩) L.teams.length L.teams.length)).cell? ⟨w.heap.size + 1, 1, none⟩ = some (.slice (some ⟨p1, 0, none⟩) L.mends.length L.mends.length) := by
    rw [sc_ne _ _ _ _ _ _ (by omega)]; exact sc_eq (HRg.out.setCell 0 _) 1 (by omega) _
  have t2 : (((wg.setCell ⟨w.heap.size + 1, 0, none⟩ (.slice (some ⟨p0, 0, none⟩) L.shapes.length L.shapes.length)).setCell ⟨w.heap.size + 1, 1, none⟩ (.slice (some ⟨p1, 0, none⟩) L.mends.length L.mends.length)).setCell ⟨w.heap.size + 1, 2, none⟩ (.slice (some ⟨p2, 0, none⟩) L.teams.length L.teams.length)).cell? ⟨w.heap.size + 1, 2, none⟩ = some (.slice (some ⟨p2, 0, none⟩) L.teams.length L.teams.length) := sc_eq ((HRg.out.setCell 0 _).setCell 1 _) 2 (by omega) _
  refine bodyPost_ret (v := .agg #[.slice (some ⟨p0, 0, none⟩) L.shapes.length L.shapes.length, .slice (some ⟨p1, 0, none⟩) L.mends.length L.mends.length, .slice (some ⟨p2, 0, none⟩) L.teams.length L.teams.length]) (by simp [results, Tryz.results7, go_sem, t0, t1, t2]) rfl ⟨⟨p0, p1, p2, rfl, ⟨((HIg.out.1.sc (by have := HP0.out; omega) _ _).sc (by have := HP0.out; omega) _ _).sc (by have := HP0.out; omega) _ _, ((HIg.out.2.1.sc (by have := HP1.out; omega) _ _).sc (by have := HP1.out; omega) _ _).sc (by have := HP1.out; omega) _ _, ((HIg.out.2.2.sc (by have := HP2.out; omega) _ _).sc (by have := HP2.out; omega) _ _).sc (by have := HP2.out; omega) _ _⟩, by have := HP0.out; omega, by have := HP1.out; omega, by have := HP2.out; omega⟩, ?_⟩
  exact ((HBg.out.setCell (p := ⟨w.heap.size + 1, 0, none⟩) (Nat.le_succ _) _).setCell (p := ⟨w.heap.size + 1, 1, none⟩) (Nat.le_succ _) _).setCell (p := ⟨w.heap.size + 1, 2, none⟩) (Nat.le_succ _) _

set_option maxHeartbeats 2000000 in
theorem eqLaw (L : Lw) (b0 b1 b2 q0 q1 q2 : Nat) (w : World) (h : LwIn w b0 b1 b2 L) (h' : LwIn w q0 q1 q2 L) :
    Calls Tryz.prog 9 #[.agg #[.slice (some ⟨b0, 0, none⟩) L.shapes.length L.shapes.length, .slice (some ⟨b1, 0, none⟩) L.mends.length L.mends.length, .slice (some ⟨b2, 0, none⟩) L.teams.length L.teams.length], .agg #[.slice (some ⟨q0, 0, none⟩) L.shapes.length L.shapes.length, .slice (some ⟨q1, 0, none⟩) L.mends.length L.mends.length, .slice (some ⟨q2, 0, none⟩) L.teams.length L.teams.length]] w fun e w' => e = .returned (.bool true) ∧ Below w.heap.size w w' := by
  have HH : Hid (LwIn w b0 b1 b2 L ∧ LwIn w q0 q1 q2 L) := ⟨h, h'⟩
  clear h h'
  obtain ⟨wa, hwa⟩ : ∃ wa, wa = (w.alloc (.cells #[.slice (some ⟨b0, 0, none⟩) L.shapes.length L.shapes.length, .slice (some ⟨b1, 0, none⟩) L.mends.length L.mends.length, .slice (some ⟨b2, 0, none⟩) L.teams.length L.teams.length] 33)).alloc (.cells #[.slice (some ⟨q0, 0, none⟩) L.shapes.length L.shapes.length, .slice (some ⟨q1, 0, none⟩) L.mends.length L.mends.length, .slice (some ⟨q2, 0, none⟩) L.teams.length L.teams.length] 33) := ⟨_, rfl⟩
  have HBa : Hid (Below w.heap.size w wa) := by show Below _ _ _; rw [hwa]; exact blw_alloc (blw_alloc (Below.refl _ _) _) _
  have HXa : Hid (Box3 wa w.heap.size (.slice (some ⟨b0, 0, none⟩) L.shapes.length L.shapes.length) (.slice (some ⟨b1, 0, none⟩) L.mends.length L.mends.length) (.slice (some ⟨b2, 0, none⟩) L.teams.length L.teams.length)) := by show Box3 _ _ _ _ _; rw [hwa]; exact (Box3.new w _ _ _ _).past _
  have HYa : Hid (Box3 wa (w.heap.size + 1) (.slice (some ⟨q0, 0, none⟩) L.shapes.length L.shapes.length) (.slice (some ⟨q1, 0, none⟩) L.mends.length L.mends.length) (.slice (some ⟨q2, 0, none⟩) L.teams.length L.teams.length)) := by
    show Box3 _ _ _ _ _
    rw [hwa]
    have := Box3.new (w.alloc (.cells #[.slice (some ⟨b0, 0, none⟩) L.shapes.length L.shapes.length, .slice (some ⟨b1, 0, none⟩) L.mends.length L.mends.length, .slice (some ⟨b2, 0, none⟩) L.teams.length L.teams.length] 33)) (.slice (some ⟨q0, 0, none⟩) L.shapes.length L.shapes.length) (.slice (some ⟨q1, 0, none⟩) L.mends.length L.mends.length) (.slice (some ⟨q2, 0, none⟩) L.teams.length L.teams.length) 33
    simpa using this
  obtain ⟨yz, y0, y1, y2⟩ := HXa.out
  obtain ⟨xz, x0, x1, x2⟩ := HYa.out
  go_enter Tryz.func9, Tryz.ntmps9
  go_upto_region 1 with fail
  rw [← hwa]
  clear hwa
  have HI := (HH.out.1.later HBa.out).s
  have HJ := (HH.out.2.later HBa.out).s
  go_wp2_with fail
  refine (eqShapes b0 q0 L.shapes wa HI.len HI.small HI.lt HJ.lt HI.at_ HJ.at_).mono ?_
  rintro e wb ⟨rfl, hb⟩
  have HBb : Hid (Below w.heap.size w wb) := blw_trans HBa.out hb
  have HXb := HXa.out.later hb
  have HYb := HYa.out.later hb
  clear hb yz y0 y1 y2 xz x0 x1 x2 HXa HYa HBa HI HJ
  have HX : Hid (Box3 wb w.heap.size (.slice (some ⟨b0, 0, none⟩) L.shapes.length L.shapes.length) (.slice (some ⟨b1, 0, none⟩) L.mends.length L.mends.length) (.slice (some ⟨b2, 0, none⟩) L.teams.length L.teams.length) ∧ Box3 wb (w.heap.size + 1) (.slice (some ⟨q0, 0, none⟩) L.shapes.length L.shapes.length) (.slice (some ⟨q1, 0, none⟩) L.mends.length L.mends.length) (.slice (some ⟨q2, 0, none⟩) L.teams.length L.teams.length)) := ⟨HXb, HYb⟩
  obtain ⟨yz, y0, y1, y2⟩ := HXb
  obtain ⟨xz, x0, x1, x2⟩ := HYb
  go_wp2_with fail
  refine (eqMends b1 q1 L.mends wb (HH.out.1.later HBb.out).m (HH.out.2.later HBb.out).m).mono ?_
  rintro e wc ⟨rfl, hb⟩
  have HBc : Hid (Below w.heap.size w wc) := blw_trans HBb.out hb
  have HXc := HX.out.1.later hb
  have HYc := HX.out.2.later hb
  clear hb yz y0 y1 y2 xz x0 x1 x2 HX HBb
  obtain ⟨yz, y0, y1, y2⟩ := HXc
  obtain ⟨xz, x0, x1, x2⟩ := HYc
  go_wp2_with fail
  refine (eqTeams b2 q2 L.teams wc (HH.out.1.later HBc.out).t (HH.out.2.later HBc.out).t).mono ?_
  rintro e wd ⟨rfl, hb⟩
  have HBd : Hid (Below w.heap.size w wd) := blw_trans HBc.out hb
  clear hb yz y0 y1 y2 xz x0 x1 x2
  go_wp2
  go_ret
  exact ⟨rfl, HBd.out⟩

end Go.Proofs.YtliaibdbcaglnaaGreat
