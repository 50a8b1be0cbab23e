/-
  A stewards' world in memory: sizes, copies, equality.
-/
import Derived.Test.YtfmcdpgeplkcgaaMemSBs
namespace Go.Proofs.Ytfmcdpgeplkcgaa
open Go.RowKit Go.Deep

theorem hid' {p : Prop} (h : p) : Hid p := h

structure BoxW (W : World) (p : Nat) (v0 v1 v2 v3 v4 : Value) : Prop where
  lt : p < W.heap.size
  x0 : W.cell? ⟨p, 0, none⟩ = some v0
  x1 : W.cell? ⟨p, 1, none⟩ = some v1
  x2 : W.cell? ⟨p, 2, none⟩ = some v2
  x3 : W.cell? ⟨p, 3, none⟩ = some v3
  x4 : W.cell? ⟨p, 4, none⟩ = some v4
theorem BoxW.later {W W' : World} {p : Nat} {v0 v1 v2 v3 v4 : Value} (h : BoxW W p v0 v1 v2 v3 v4) (hb : Below W.heap.size W W') : BoxW W' p v0 v1 v2 v3 v4 := by
  have c : ∀ j, W'.cell? ⟨p, j, none⟩ = W.cell? ⟨p, j, none⟩ := fun j => hb.cell (p := ⟨p, j, none⟩) h.lt
  exact ⟨Nat.lt_of_lt_of_le h.lt hb.size, (c 0).trans h.x0, (c 1).trans h.x1, (c 2).trans h.x2, (c 3).trans h.x3, (c 4).trans h.x4⟩
theorem BoxW.new' (W : World) (p : Nat) (v0 v1 v2 v3 v4 : Value) (t : TypeId) (hp : p = W.heap.size) : BoxW (W.alloc (.cells #[v0, v1, v2, v3, v4] t)) p v0 v1 v2 v3 v4 := by
  subst hp
  have c : ∀ j, (W.alloc (.cells #[v0, v1, v2, v3, v4] t)).cell? ⟨W.heap.size, j, none⟩ = (#[v0, v1, v2, v3, v4])[j]? := fun j => World.cell?_alloc_at _ _ _ _ rfl
  exact ⟨by simp, c 0, c 1, c 2, c 3, c 4⟩
theorem BoxW.past {W : World} {p : Nat} {v0 v1 v2 v3 v4 : Value} (h : BoxW W p v0 v1 v2 v3 v4) (o : Obj) : BoxW (W.alloc o) p v0 v1 v2 v3 v4 := h.later (blw_alloc (Below.refl _ _) o)

structure SW where
  past : List SBk
  book : SBk
structure SWAt (w : World) (v0 v1 v2 v3 : Value) (X : SW) : Prop where
  b : SBkAt w v0 v1 v2 X.book
  p : SBksAt w v3 X.past
structure SWIn (w : World) (b0 b1 b2 b3 : Nat) (X : SW) : Prop where
  b : SBkIn w b0 b1 b2 X.book
  p : SBksIn w b3 X.past
def SW.small (X : SW) : Prop := X.book.small ∧ X.past.length ≤ 1048576 ∧ ∀ r ∈ X.past, r.small
theorem SWAt.later {w w' : World} {v0 v1 v2 v3 : Value} {X : SW} (h : SWAt w v0 v1 v2 v3 X) (hb : Below w.heap.size w w') : SWAt w' v0 v1 v2 v3 X := ⟨h.b.later hb, h.p.later hb⟩
theorem SWIn.later {w w' : World} {b0 b1 b2 b3 : Nat} {X : SW} (h : SWIn w b0 b1 b2 b3 X) (hb : Below w.heap.size w w') : SWIn w' b0 b1 b2 b3 X := ⟨h.b.later hb, h.p.later hb⟩

set_option maxHeartbeats 4000000 in
theorem szSW (X : SW) (v0 v1 v2 v3 : Value) (left : Int) (w : World) (h0 : 0 ≤ left) (h1 : left ≤ 1048576) (h : SWAt w v0 v1 v2 v3 X) :
    Calls Try.prog 4 #[.agg #[v3, .int .i64 X.book.now, v0, v1, v2], .int .i64 left] w fun e w' => (∃ r : Int, e = .returned (.int .i64 r) ∧ szP X.small left r) ∧ Below w.heap.size w w' := by
  have HH := hid' h
  clear h
  obtain ⟨wa, hwa⟩ : ∃ wa, wa = w.alloc (.cells #[v3, .int .i64 X.book.now, v0, v1, v2] 29) := ⟨_, rfl⟩
  have HBa : Hid (Below w.heap.size w wa) := by show Below _ _ _; rw [hwa]; exact blw_alloc (Below.refl _ _) _
  have HXa : Hid (BoxW wa w.heap.size (v3) (.int .i64 X.book.now) (v0) (v1) (v2)) := by show BoxW _ _ _ _ _ _ _; rw [hwa]; exact BoxW.new' w _ _ _ _ _ _ _ rfl
  go_enter Try.func4, Try.ntmps4
  go_upto_region 1 with fail
  rw [← hwa]
  clear hwa
  obtain ⟨yz, y0, y1, y2, y3, y4⟩ := HXa.out
  go_wp2_with fail
  refine (szSBks v3 X.past left wa (by omega) (by omega) (HH.out.later HBa.out).p).mono ?_
  rintro e wb ⟨⟨r0, rfl, hr⟩, hb⟩
  have HR0 := hid' hr
  have q0 : -1 ≤ r0 := hr.1
  have q0' : r0 ≤ left := hr.2.1
  have HBb := hid' (blw_trans HBa.out hb)
  have HXb := hid' (HXa.out.later hb)
  clear hr hb yz y0 y1 y2 y3 y4 HXa HBa
  by_cases c0 : r0 < 0
  · go_wp2
    go_ret
    exact ⟨⟨_, rfl, by unfold szP; exact ⟨by omega, by omega, by omega⟩⟩, HBb.out⟩
  obtain ⟨yz, y0, y1, y2, y3, y4⟩ := HXb.out
  go_wp2_with fail
  refine (szSB X.book v0 v1 v2 r0 wb (by omega) (by omega) (HH.out.later HBb.out).b).mono ?_
  rintro e wc ⟨⟨r1, rfl, hr⟩, hb⟩
  have HR1 := hid' hr
  have q1 : -1 ≤ r1 := hr.1
  have q1' : r1 ≤ r0 := hr.2.1
  have HBc := hid' (blw_trans HBb.out hb)
  clear hr hb yz y0 y1 y2 y3 y4 HXb HBb
  by_cases c1 : r1 < 0
  · go_wp2
    go_ret
    exact ⟨⟨_, rfl, by unfold szP; exact ⟨by omega, by omega, by omega⟩⟩, HBc.out⟩
  go_wp2
  go_ret
  refine ⟨⟨_, rfl, ?_⟩, HBc.out⟩
  have k0 := HR0.out.2.2 (by omega)
  have k1 := HR1.out.2.2 (by omega)
  unfold szP
  exact ⟨by omega, by omega, fun _ => ⟨k1, by omega, k0.2⟩⟩

set_option maxHeartbeats 8000000 in
theorem eqSW (X : SW) (b0 b1 b2 b3 q0 q1 q2 q3 : Nat) (w : World) (h : SWIn w b0 b1 b2 b3 X) (h' : SWIn w q0 q1 q2 q3 X) :
    Calls Try.prog 8 #[.agg #[.slice (some ⟨b3, 0, none⟩) X.past.length X.past.length, .int .i64 X.book.now, .slice (some ⟨b0, 0, none⟩) X.book.svcs.length X.book.svcs.length, .slice (some ⟨b1, 0, none⟩) X.book.cps.length X.book.cps.length, .slice (some ⟨b2, 0, none⟩) X.book.bts.length X.book.bts.length], .agg #[.slice (some ⟨q3, 0, none⟩) X.past.length X.past.length, .int .i64 X.book.now, .slice (some ⟨q0, 0, none⟩) X.book.svcs.length X.book.svcs.length, .slice (some ⟨q1, 0, none⟩) X.book.cps.length X.book.cps.length, .slice (some ⟨q2, 0, none⟩) X.book.bts.length X.book.bts.length]] w fun e w' => e = .returned (.bool true) ∧ Below w.heap.size w w' := by
  have HH := hid' h
  have HH' := hid' h'
  clear h h'
  obtain ⟨wa, hwa⟩ : ∃ wa, wa = (w.alloc (.cells #[.slice (some ⟨b3, 0, none⟩) X.past.length X.past.length, .int .i64 X.book.now, .slice (some ⟨b0, 0, none⟩) X.book.svcs.length X.book.svcs.length, .slice (some ⟨b1, 0, none⟩) X.book.cps.length X.book.cps.length, .slice (some ⟨b2, 0, none⟩) X.book.bts.length X.book.bts.length] 39)).alloc (.cells #[.slice (some ⟨q3, 0, none⟩) X.past.length X.past.length, .int .i64 X.book.now, .slice (some ⟨q0, 0, none⟩) X.book.svcs.length X.book.svcs.length, .slice (some ⟨q1, 0, none⟩) X.book.cps.length X.book.cps.length, .slice (some ⟨q2, 0, none⟩) X.book.bts.length X.book.bts.length] 39) := ⟨_, rfl⟩
  have HBa : Hid (Below w.heap.size w wa) := by show Below _ _ _; rw [hwa]; exact blw_alloc (blw_alloc (Below.refl _ _) _) _
  have HXa : Hid (BoxW wa w.heap.size (.slice (some ⟨b3, 0, none⟩) X.past.length X.past.length) (.int .i64 X.book.now) (.slice (some ⟨b0, 0, none⟩) X.book.svcs.length X.book.svcs.length) (.slice (some ⟨b1, 0, none⟩) X.book.cps.length X.book.cps.length) (.slice (some ⟨b2, 0, none⟩) X.book.bts.length X.book.bts.length)) := by show BoxW _ _ _ _ _ _ _; rw [hwa]; exact (BoxW.new' w _ _ _ _ _ _ _ rfl).past _
  have HYa : Hid (BoxW wa (w.heap.size + 1) (.slice (some ⟨q3, 0, none⟩) X.past.length X.past.length) (.int .i64 X.book.now) (.slice (some ⟨q0, 0, none⟩) X.book.svcs.length X.book.svcs.length) (.slice (some ⟨q1, 0, none⟩) X.book.cps.length X.book.cps.length) (.slice (some ⟨q2, 0, none⟩) X.book.bts.length X.book.bts.length)) := by show BoxW _ _ _ _ _ _ _; rw [hwa]; exact BoxW.new' _ _ _ _ _ _ _ _ (by simp)
  go_enter Try.func8, Try.ntmps8
  go_upto_region 1 with fail
  rw [← hwa]
  clear hwa
  obtain ⟨yz, y0, y1, y2, y3, y4⟩ := HXa.out
  obtain ⟨xz, x0, x1, x2, x3, x4⟩ := HYa.out
  go_wp2_with fail
  refine (eqSBks b3 q3 X.past wa (HH.out.later HBa.out).p (HH'.out.later HBa.out).p).mono ?_
  rintro e wb ⟨rfl, hb⟩
  have HBb := hid' (blw_trans HBa.out hb)
  have HXb := hid' (HXa.out.later hb)
  have HYb := hid' (HYa.out.later hb)
  clear hb yz y0 y1 y2 y3 y4 xz x0 x1 x2 x3 x4 HXa HYa HBa
  obtain ⟨yz, y0, y1, y2, y3, y4⟩ := HXb.out
  obtain ⟨xz, x0, x1, x2, x3, x4⟩ := HYb.out
  go_wp2_with fail
  refine (eqSB X.book b0 b1 b2 q0 q1 q2 wb (HH.out.later HBb.out).b (HH'.out.later HBb.out).b).mono ?_
  rintro e wc ⟨rfl, hb⟩
  have HBc := hid' (blw_trans HBb.out hb)
  clear hb yz y0 y1 y2 y3 y4 xz x0 x1 x2 x3 x4 HXb HYb HBb
  go_wp2
  go_ret
  exact ⟨rfl, HBc.out⟩

set_option maxHeartbeats 8000000 in
theorem toSW (X : SW) (v0 v1 v2 v3 : Value) (w : World) (hs : X.small) (h : SWAt w v0 v1 v2 v3 X) :
    Calls Try.prog 6 #[.agg #[v3, .int .i64 X.book.now, v0, v1, v2]] w fun e w' => (∃ b0 b1 b2 b3, e = .returned (.agg #[.slice (some ⟨b3, 0, none⟩) X.past.length X.past.length, .int .i64 X.book.now, .slice (some ⟨b0, 0, none⟩) X.book.svcs.length X.book.svcs.length, .slice (some ⟨b1, 0, none⟩) X.book.cps.length X.book.cps.length, .slice (some ⟨b2, 0, none⟩) X.book.bts.length X.book.bts.length]) ∧ SWIn w' b0 b1 b2 b3 X ∧ w.heap.size ≤ b0 ∧ w.heap.size ≤ b1 ∧ w.heap.size ≤ b2 ∧ w.heap.size ≤ b3) ∧ Below w.heap.size w w' := by
  have HH := hid' h
  have HS := hid' hs
  clear h hs
  obtain ⟨wa, hwa⟩ : ∃ wa, wa = ((w.alloc (.cells #[v3, .int .i64 X.book.now, v0, v1, v2] 29)).alloc (.cells #[.slice none 0 0, .int .i64 0, .slice none 0 0, .slice none 0 0, .slice none 0 0] 39)).alloc (.cells #[.slice none 0 0, .int .i64 0, .slice none 0 0, .slice none 0 0, .slice none 0 0] 39) := ⟨_, rfl⟩
  have HBa : Hid (Below w.heap.size w wa) := by show Below _ _ _; rw [hwa]; exact blw_alloc (blw_alloc (blw_alloc (Below.refl _ _) _) _) _
  have HXa : Hid (BoxW wa w.heap.size (v3) (.int .i64 X.book.now) (v0) (v1) (v2)) := by show BoxW _ _ _ _ _ _ _; rw [hwa]; exact ((BoxW.new' w _ _ _ _ _ _ _ rfl).past _).past _
  have HOa : Hid (OwnBlk wa (w.heap.size + 2) 39 5) := by show OwnBlk _ _ _ _; rw [hwa]; exact OwnBlk.alloc_at2 _ _ _ _ _ rfl (by simp)
  have HRa : Hid (OwnBlk wa (w.heap.size + 1) 39 5) := by show OwnBlk _ _ _ _; rw [hwa]; exact (OwnBlk.alloc_at2 _ _ _ _ _ rfl (by simp)).past _
  have HZa : Hid (w.heap.size + 3 ≤ wa.heap.size) := by show _ ≤ _; rw [hwa]; simp
  go_enter Try.func6, Try.ntmps6
  go_upto_region 2 with fail
  rw [← hwa]
  clear hwa
  obtain ⟨yz, y0, y1, y2, y3, y4⟩ := HXa.out
  go_wp2_with fail
  refine (toSBks v3 X.past wa HS.out.2.1 HS.out.2.2 (HH.out.later HBa.out).p).mono ?_
  rintro e wb ⟨rfl, hb, hi⟩
  obtain ⟨p3, hp⟩ : ∃ p3, p3 = wa.heap.size := ⟨_, rfl⟩
  rw [← hp] at hi ⊢
  have HP3 : Hid (w.heap.size + 3 ≤ p3) := by show _ ≤ _; rw [hp]; exact HZa.out
  clear hp
  obtain ⟨wc, hw⟩ : ∃ wc, wc = wb.setCell ⟨w.heap.size + 2, 0, none⟩ (.slice (some ⟨p3, 0, none⟩) X.past.length X.past.length) := ⟨_, rfl⟩
  have HOb := hid' (HOa.out.later hb)
  have HRb := hid' (HRa.out.later hb)
  have HXb := hid' (HXa.out.later hb)
  have HBb := hid' (blw_trans HBa.out hb)
  have HBc : Hid (Below w.heap.size w wc) := by show Below _ _ _; rw [hw]; exact HBb.out.setCell (p := ⟨w.heap.size + 2, 0, none⟩) (by show w.heap.size ≤ w.heap.size + 2; omega) _
  have HXc : Hid (BoxW wc w.heap.size (v3) (.int .i64 X.book.now) (v0) (v1) (v2)) := by
    show BoxW _ _ _ _ _ _ _
    rw [hw]
    obtain ⟨yz, y0, y1, y2, y3, y4⟩ := HXb.out
    exact ⟨by rw [sc_size]; exact yz, (sc_ne _ _ _ _ _ _ (by omega)).trans y0, (sc_ne _ _ _ _ _ _ (by omega)).trans y1, (sc_ne _ _ _ _ _ _ (by omega)).trans y2, (sc_ne _ _ _ _ _ _ (by omega)).trans y3, (sc_ne _ _ _ _ _ _ (by omega)).trans y4⟩
  have HOc : Hid (OwnBlk wc (w.heap.size + 2) 39 5) := by show OwnBlk _ _ _ _; rw [hw]; exact HOb.out.setCell 0 _
  have HRc : Hid (OwnBlk wc (w.heap.size + 1) 39 5) := by show OwnBlk _ _ _ _; rw [hw]; exact HRb.out.sc_other (by omega) _ _
  have HCc : Hid (wc.cell? ⟨w.heap.size + 2, 0, none⟩ = some (.slice (some ⟨p3, 0, none⟩) X.past.length X.past.length)) := by show _ = _; rw [hw]; exact sc_eq HOb.out 0 (by omega) _
  have HIc : Hid (SBksIn wc p3 X.past) := by show SBksIn _ _ _; rw [hw]; exact hi.sc (by have := HP3.out; omega) _ _
  have HZc : Hid (w.heap.size + 3 ≤ wc.heap.size) := by show _ ≤ _; rw [hw, sc_size]; exact Nat.le_trans HZa.out hb.size
  have hfz := HOb.out.frozen
  have hz := HOb.out.lt
  obtain ⟨z, ez⟩ := HOb.out.cell 0 (by omega)
  clear yz y0 y1 y2 y3 y4
  go_upto_region 3 with fail
  rw [← hw]
  clear hw hfz hz ez hb hi HBa HXa HOa HRa HZa HBb HXb HOb HRb
  obtain ⟨yz, y0, y1, y2, y3, y4⟩ := HXc.out
  go_wp2_with fail
  refine (toSB X.book v0 v1 v2 wc HS.out.1 (HH.out.later HBc.out).b).mono ?_
  rintro e wd ⟨⟨p0, p1, p2, rfl, hi, hl0, hl1, hl2⟩, hb⟩
  have g0 : w.heap.size + 3 ≤ p0 := Nat.le_trans HZc.out hl0
  have g1 : w.heap.size + 3 ≤ p1 := Nat.le_trans HZc.out hl1
  have g2 : w.heap.size + 3 ≤ p2 := Nat.le_trans HZc.out hl2
  obtain ⟨we, hw⟩ : ∃ we, we = puts wd (w.heap.size + 2) 1 0 [.int .i64 X.book.now, .slice (some ⟨p0, 0, none⟩) X.book.svcs.length X.book.svcs.length, .slice (some ⟨p1, 0, none⟩) X.book.cps.length X.book.cps.length, .slice (some ⟨p2, 0, none⟩) X.book.bts.length X.book.bts.length] := ⟨_, rfl⟩
  have HOd := hid' (HOc.out.later hb)
  have HRd := hid' (HRc.out.later hb)
  have HBd := hid' (blw_trans HBc.out hb)
  have HBe : Hid (Below w.heap.size w we) := by show Below _ _ _; rw [hw]; exact puts_below (a := w) _ (by omega) _ _ _ HBd.out
  have HOe : Hid (OwnBlk we (w.heap.size + 2) 39 5) := by show OwnBlk _ _ _ _; rw [hw]; exact puts_own _ _ _ _ HOd.out
  have HRe : Hid (OwnBlk we (w.heap.size + 1) 39 5) := by show OwnBlk _ _ _ _; rw [hw]; exact own_puts_other _ (by omega) _ _ _ HRd.out
  have HCe : Hid (we.cell? ⟨w.heap.size + 2, 0, none⟩ = some (.slice (some ⟨p3, 0, none⟩) X.past.length X.past.length) ∧ we.cell? ⟨w.heap.size + 2, 1, none⟩ = some (.int .i64 X.book.now) ∧ we.cell? ⟨w.heap.size + 2, 2, none⟩ = some (.slice (some ⟨p0, 0, none⟩) X.book.svcs.length X.book.svcs.length) ∧ we.cell? ⟨w.heap.size + 2, 3, none⟩ = some (.slice (some ⟨p1, 0, none⟩) X.book.cps.length X.book.cps.length) ∧ we.cell? ⟨w.heap.size + 2, 4, none⟩ = some (.slice (some ⟨p2, 0, none⟩) X.book.bts.length X.book.bts.length)) := by
    show _ ∧ _ ∧ _ ∧ _ ∧ _
    rw [hw]
    have p := fun i hi => puts_at 1 [.int .i64 X.book.now, .slice (some ⟨p0, 0, none⟩) X.book.svcs.length X.book.svcs.length, .slice (some ⟨p1, 0, none⟩) X.book.cps.length X.book.cps.length, .slice (some ⟨p2, 0, none⟩) X.book.bts.length X.book.bts.length] wd 0 HOd.out (by simp) i hi
    refine ⟨?_, p 0 (by simp), p 1 (by simp), p 2 (by simp), p 3 (by simp)⟩
    rw [puts_other _ _ _ _ _ _ _ (Or.inr (Or.inl (by omega)))]
    exact (hb.cell (p := ⟨w.heap.size + 2, 0, none⟩) HOc.out.lt).trans HCc.out
  have HIe : Hid (SWIn we p0 p1 p2 p3 X) := by
    show SWIn _ _ _ _ _ _
    rw [hw]
    have h3 := HP3.out
    refine ⟨hi.putsB (by omega) (by omega) (by omega) 1 _, ?_⟩
    have := HIc.out.later hb
    exact ((((this.sc (p := w.heap.size + 2) (by omega) 1 _).sc (p := w.heap.size + 2) (by omega) 2 _).sc (p := w.heap.size + 2) (by omega) 3 _).sc (p := w.heap.size + 2) (by omega) 4 _)
  have hfz := HOd.out.frozen
  have hz := HOd.out.lt
  obtain ⟨z1, ez1⟩ := HOd.out.cell 1 (by omega)
  obtain ⟨z2, ez2⟩ := HOd.out.cell 2 (by omega)
  obtain ⟨z3, ez3⟩ := HOd.out.cell 3 (by omega)
  obtain ⟨z4, ez4⟩ := HOd.out.cell 4 (by omega)
  have hw2 : we = ((((wd.setCell ⟨w.heap.size + 2, 1, none⟩ (.int .i64 X.book.now)).setCell ⟨w.heap.size + 2, 2, none⟩ (.slice (some ⟨p0, 0, none⟩) X.book.svcs.length X.book.svcs.length)).setCell ⟨w.heap.size + 2, 3, none⟩ (.slice (some ⟨p1, 0, none⟩) X.book.cps.length X.book.cps.length)).setCell ⟨w.heap.size + 2, 4, none⟩ (.slice (some ⟨p2, 0, none⟩) X.book.bts.length X.book.bts.length)) := hw
  clear yz y0 y1 y2 y3 y4 hw
  go_upto_region 4 with fail
  rw [← hw2]
  clear hw2 hfz hz ez1 ez2 ez3 ez4 hb hi hl0 hl1 hl2 HBc HXc HOc HRc HCc HIc HZc HBd HOd HRd
  obtain ⟨d0, d1, d2, d3, d4⟩ := HCe.out
  have dz := HOe.out.lt
  have hfz := HRe.out.frozen
  have hz := HRe.out.lt
  obtain ⟨z0, e0⟩ := HRe.out.cell 0 (by omega)
  obtain ⟨z1, e1⟩ := HRe.out.cell 1 (by omega)
  obtain ⟨z2, e2⟩ := HRe.out.cell 2 (by omega)
  obtain ⟨z3, e3⟩ := HRe.out.cell 3 (by omega)
  obtain ⟨z4, e4⟩ := HRe.out.cell 4 (by omega)
  go_wp2
  have p := fun i hi => puts_at 0 [.slice (some ⟨p3, 0, none⟩) X.past.length X.past.length, .int .i64 X.book.now, .slice (some ⟨p0, 0, none⟩) X.book.svcs.length X.book.svcs.length, .slice (some ⟨p1, 0, none⟩) X.book.cps.length X.book.cps.length, .slice (some ⟨p2, 0, none⟩) X.book.bts.length X.book.bts.length] we 0 HRe.out (by simp) i hi
  have t0 := p 0 (by simp)
  have t1 := p 1 (by simp)
  have t2 := p 2 (by simp)
  have t3 := p 3 (by simp)
  have t4 := p 4 (by simp)
  simp only [puts, Nat.add_zero, Nat.zero_add, Nat.reduceAdd, List.getElem?_cons_zero, List.getElem?_cons_succ] at t0 t1 t2 t3 t4
  have HQ : Hid (SWIn (puts we (w.heap.size + 1) 0 0 [.slice (some ⟨p3, 0, none⟩) X.past.length X.past.length, .int .i64 X.book.now, .slice (some ⟨p0, 0, none⟩) X.book.svcs.length X.book.svcs.length, .slice (some ⟨p1, 0, none⟩) X.book.cps.length X.book.cps.length, .slice (some ⟨p2, 0, none⟩) X.book.bts.length X.book.bts.length]) p0 p1 p2 p3 X) := by
    have h3 := HP3.out
    refine ⟨HIe.out.b.putsB (by omega) (by omega) (by omega) 0 _, ?_⟩
    exact (((((HIe.out.p.sc (p := w.heap.size + 1) (by omega) 0 _).sc (p := w.heap.size + 1) (by omega) 1 _).sc (p := w.heap.size + 1) (by omega) 2 _).sc (p := w.heap.size + 1) (by omega) 3 _).sc (p := w.heap.size + 1) (by omega) 4 _)
  refine bodyPost_ret (v := .agg #[.slice (some ⟨p3, 0, none⟩) X.past.length X.past.length, .int .i64 X.book.now, .slice (some ⟨p0, 0, none⟩) X.book.svcs.length X.book.svcs.length, .slice (some ⟨p1, 0, none⟩) X.book.cps.length X.book.cps.length, .slice (some ⟨p2, 0, none⟩) X.book.bts.length X.book.bts.length]) (by simp [results, Try.results6, go_sem, t0, t1, t2, t3, t4]) rfl ⟨⟨p0, p1, p2, p3, rfl, HQ.out, by omega, by omega, by omega, by have := HP3.out; omega⟩, ?_⟩
  exact puts_below (a := w) 0 (B := w.heap.size + 1) (by omega) [.slice (some ⟨p3, 0, none⟩) X.past.length X.past.length, .int .i64 X.book.now, .slice (some ⟨p0, 0, none⟩) X.book.svcs.length X.book.svcs.length, .slice (some ⟨p1, 0, none⟩) X.book.cps.length X.book.cps.length, .slice (some ⟨p2, 0, none⟩) X.book.bts.length X.book.bts.length] we 0 HBe.out

end Go.Proofs.Ytfmcdpgeplkcgaa
