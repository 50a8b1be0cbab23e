/-
  A message in memory: sizes, copies, equality.
-/
import Derived.Deep.DeepCutAuto
import Derived.Test.YtcefgacmagobnaaMemRd
namespace Go.Proofs.Ytcefgacmagobnaa
open Go.RowKit Go.Deep

structure Box8 (W : World) (p : Nat) (v0 v1 v2 v3 v4 v5 v6 v7 : Value) : Prop where
  lt : p < W.heap.size
  x0 : W.cell? ⟨p, 0, none⟩ = some v0
  x1 : W.cell? ⟨p, 1, none⟩ = some v1
  x2 : W.cell? ⟨p, 2, none⟩ = some v2
  x3 : W.cell? ⟨p, 3, none⟩ = some v3
  x4 : W.cell? ⟨p, 4, none⟩ = some v4
  x5 : W.cell? ⟨p, 5, none⟩ = some v5
  x6 : W.cell? ⟨p, 6, none⟩ = some v6
  x7 : W.cell? ⟨p, 7, none⟩ = some v7

theorem Box8.later {W W' : World} {p : Nat} {v0 v1 v2 v3 v4 v5 v6 v7 : Value} (h : Box8 W p v0 v1 v2 v3 v4 v5 v6 v7) (hb : Below W.heap.size W W') : Box8 W' p v0 v1 v2 v3 v4 v5 v6 v7 := by
  have c : ∀ j, W'.cell? ⟨p, j, none⟩ = W.cell? ⟨p, j, none⟩ := fun j => hb.cell (p := ⟨p, j, none⟩) h.lt
  exact ⟨Nat.lt_of_lt_of_le h.lt hb.size, (c 0).trans h.x0, (c 1).trans h.x1, (c 2).trans h.x2, (c 3).trans h.x3, (c 4).trans h.x4, (c 5).trans h.x5, (c 6).trans h.x6, (c 7).trans h.x7⟩
theorem Box8.new' (W : World) (p : Nat) (v0 v1 v2 v3 v4 v5 v6 v7 : Value) (t : TypeId) (hp : p = W.heap.size) : Box8 (W.alloc (.cells #[v0, v1, v2, v3, v4, v5, v6, v7] t)) p v0 v1 v2 v3 v4 v5 v6 v7 := by
  subst hp
  have c : ∀ j, (W.alloc (.cells #[v0, v1, v2, v3, v4, v5, v6, v7] t)).cell? ⟨W.heap.size, j, none⟩ = (#[v0, v1, v2, v3, v4, v5, v6, v7])[j]? := fun j => World.cell?_alloc_at _ _ _ _ rfl
  exact ⟨by simp, c 0, c 1, c 2, c 3, c 4, c 5, c 6, c 7⟩
theorem Box8.past {W : World} {p : Nat} {v0 v1 v2 v3 v4 v5 v6 v7 : Value} (h : Box8 W p v0 v1 v2 v3 v4 v5 v6 v7) (o : Obj) : Box8 (W.alloc o) p v0 v1 v2 v3 v4 v5 v6 v7 := h.later (blw_alloc (Below.refl _ _) o)

structure Rm where
  kind : Int
  frm : Int
  to_ : Int
  bal : Int
  ix : Int
  known : Int
  txt : ByteArray
  slots : List Rs

structure RmAt (w : World) (v0 : Value) (K : Rm) : Prop where
  l0 : RssAt w v0 K.slots
  s_txt : K.txt.size ≤ maxLen

structure RmIn (w : World) (b0 : Nat) (K : Rm) : Prop where
  l0 : RssIn w b0 K.slots

def Rm.small (K : Rm) : Prop := K.slots.length ≤ 1048576

theorem RmAt.later {w w' : World} {v0 : Value} {K : Rm} (h : RmAt w v0 K) (hb : Below w.heap.size w w') : RmAt w' v0 K := ⟨h.l0.later hb, h.s_txt⟩
theorem RmIn.later {w w' : World} {b0 : Nat} {K : Rm} (h : RmIn w b0 K) (hb : Below w.heap.size w w') : RmIn w' b0 K := ⟨h.l0.later hb⟩

set_option maxHeartbeats 4000000 in
theorem szRM (K : Rm) (v0 : Value) (left : Int) (w : World) (h0 : 0 ≤ left) (h1 : left ≤ 1048576) (h : RmAt w v0 K) :
    Calls Try.prog 41 #[.agg #[.int .i64 K.kind, .int .i64 K.frm, .int .i64 K.to_, .int .i64 K.bal, .int .i64 K.ix, .int .i64 K.known, .string K.txt, v0], .int .i64 left] w fun e w' => (∃ r : Int, e = .returned (.int .i64 r) ∧ szP K.small left r) ∧ Below w.heap.size w w' := by
  have hsz_txt := h.s_txt
  unfold maxLen at hsz_txt
  have HH : Hid (RmAt w v0 K) := h
  clear h
  obtain ⟨wa, hwa⟩ : ∃ wa, wa = w.alloc (.cells #[.int .i64 K.kind, .int .i64 K.frm, .int .i64 K.to_, .int .i64 K.bal, .int .i64 K.ix, .int .i64 K.known, .string K.txt, v0] 86) := ⟨_, rfl⟩
  have HBa : Hid (Below w.heap.size w wa) := by show Below _ _ _; rw [hwa]; exact blw_alloc (Below.refl _ _) _
  have HXa : Hid (Box8 wa w.heap.size (.int .i64 K.kind) (.int .i64 K.frm) (.int .i64 K.to_) (.int .i64 K.bal) (.int .i64 K.ix) (.int .i64 K.known) (.string K.txt) (v0)) := by show Box8 _ _ _ _ _ _ _ _ _ _ ; rw [hwa]; exact Box8.new' w _ _ _ _ _ _ _ _ _ _ rfl
  go_enter Try.func41, Try.ntmps41
  go_upto_region 1 with fail
  rw [← hwa]
  clear hwa
  obtain ⟨yz, y0, y1, y2, y3, y4, y5, y6, y7⟩ := HXa.out
  by_cases hn_txt : left < (K.txt.size : Int)
  · go_wp2
    go_ret
    exact ⟨⟨_, rfl, by unfold szP; exact ⟨by omega, by omega, by omega⟩⟩, HBa.out⟩
  clear yz y0 y1 y2 y3 y4 y5 y6 y7
  obtain ⟨yz, y0, y1, y2, y3, y4, y5, y6, y7⟩ := HXa.out
  go_wp2_with fail
  refine (szRss v0 K.slots (left - (K.txt.size : Int)) wa (by omega) (by omega) (HH.out.later HBa.out).l0).mono ?_
  rintro e wb ⟨⟨r0, rfl, hr⟩, hb⟩
  have HR0 : Hid (szP ((K.slots.length : Int) ≤ (left - (K.txt.size : Int))) (left - (K.txt.size : Int)) r0) := hr
  have q0 : -1 ≤ r0 := hr.1
  have q0' : r0 ≤ (left - (K.txt.size : Int)) := hr.2.1
  have HBb : Hid (Below w.heap.size w wb) := blw_trans HBa.out hb
  have HXb : Hid (Box8 wb w.heap.size (.int .i64 K.kind) (.int .i64 K.frm) (.int .i64 K.to_) (.int .i64 K.bal) (.int .i64 K.ix) (.int .i64 K.known) (.string K.txt) (v0)) := HXa.out.later hb
  clear hr hb yz y0 y1 y2 y3 y4 y5 y6 y7 HXa HBa
  by_cases c0 : r0 < 0
  · go_wp2
    go_ret
    exact ⟨⟨_, rfl, by unfold szP; exact ⟨by omega, by omega, by omega⟩⟩, HBb.out⟩
  go_wp2
  go_ret
  refine ⟨⟨_, rfl, ?_⟩, HBb.out⟩
  have k0 := HR0.out.2.2 (by omega)
  unfold szP
  exact ⟨by omega, by omega, fun _ => by show _ ≤ _; omega⟩

set_option maxHeartbeats 8000000 in
theorem toRM (K : Rm) (v0 : Value) (w : World) (hs : K.small) (h : RmAt w v0 K) :
    Calls Try.prog 50 #[.agg #[.int .i64 K.kind, .int .i64 K.frm, .int .i64 K.to_, .int .i64 K.bal, .int .i64 K.ix, .int .i64 K.known, .string K.txt, v0]] w fun e w' => (∃ b0, e = .returned (.agg #[.int .i64 K.kind, .int .i64 K.frm, .int .i64 K.to_, .int .i64 K.bal, .int .i64 K.ix, .int .i64 K.known, .string K.txt, .slice (some ⟨b0, 0, none⟩) K.slots.length K.slots.length]) ∧ RmIn w' b0 K ∧ w.heap.size ≤ b0) ∧ Below w.heap.size w w' := by
  have HH : Hid (RmAt w v0 K ∧ K.small) := ⟨h, hs⟩
  clear h hs
  obtain ⟨wa, hwa⟩ : ∃ wa, wa = ((w.alloc (.cells #[.int .i64 K.kind, .int .i64 K.frm, .int .i64 K.to_, .int .i64 K.bal, .int .i64 K.ix, .int .i64 K.known, .string K.txt, v0] 86)).alloc (.cells #[.int .i64 0, .int .i64 0, .int .i64 0, .int .i64 0, .int .i64 0, .int .i64 0, .string ⟨#[]⟩, .slice none 0 0] 55)).alloc (.cells #[.int .i64 K.kind, .int .i64 K.frm, .int .i64 K.to_, .int .i64 K.bal, .int .i64 K.ix, .int .i64 K.known, .string K.txt, .slice none 0 0] 55) := ⟨_, rfl⟩
  have HBa : Hid (Below w.heap.size w wa) := by show Below _ _ _; rw [hwa]; exact blw_alloc (blw_alloc (blw_alloc (Below.refl _ _) _) _) _
  have HXa : Hid (Box8 wa w.heap.size (.int .i64 K.kind) (.int .i64 K.frm) (.int .i64 K.to_) (.int .i64 K.bal) (.int .i64 K.ix) (.int .i64 K.known) (.string K.txt) (v0)) := by show Box8 _ _ _ _ _ _ _ _ _ _ ; rw [hwa]; exact ((Box8.new' w _ _ _ _ _ _ _ _ _ _ rfl).past _).past _
  have HOa : Hid (OwnBlk wa (w.heap.size + 2) 55 8) := by show OwnBlk _ _ _ _; rw [hwa]; exact OwnBlk.alloc_at2 _ _ _ _ _ rfl (by simp)
  have HRa : Hid (OwnBlk wa (w.heap.size + 1) 55 8) := by show OwnBlk _ _ _ _; rw [hwa]; exact (OwnBlk.alloc_at2 _ _ _ _ _ rfl (by simp)).past _
  have HCa : Hid (wa.cell? ⟨w.heap.size + 2, 0, none⟩ = some (.int .i64 K.kind) ∧ wa.cell? ⟨w.heap.size + 2, 1, none⟩ = some (.int .i64 K.frm) ∧ wa.cell? ⟨w.heap.size + 2, 2, none⟩ = some (.int .i64 K.to_) ∧ wa.cell? ⟨w.heap.size + 2, 3, none⟩ = some (.int .i64 K.bal) ∧ wa.cell? ⟨w.heap.size + 2, 4, none⟩ = some (.int .i64 K.ix) ∧ wa.cell? ⟨w.heap.size + 2, 5, none⟩ = some (.int .i64 K.known) ∧ wa.cell? ⟨w.heap.size + 2, 6, none⟩ = some (.string K.txt)) := by show _ ∧ _ ∧ _ ∧ _ ∧ _ ∧ _ ∧ _; rw [hwa]; exact ⟨World.cell?_alloc_at _ _ _ _ (by simp), World.cell?_alloc_at _ _ _ _ (by simp), World.cell?_alloc_at _ _ _ _ (by simp), World.cell?_alloc_at _ _ _ _ (by simp), World.cell?_alloc_at _ _ _ _ (by simp), World.cell?_alloc_at _ _ _ _ (by simp), World.cell?_alloc_at _ _ _ _ (by simp)⟩
  have HZa : Hid (w.heap.size + 3 ≤ wa.heap.size) := by show _ ≤ _; rw [hwa]; simp
  go_enter Try.func50, Try.ntmps50
  go_upto_region 9 with fail
  rw [← hwa]
  clear hwa
  obtain ⟨yz, y0, y1, y2, y3, y4, y5, y6, y7⟩ := HXa.out
  go_wp2_with fail
  refine (toRss v0 K.slots wa HH.out.2 (HH.out.1.later HBa.out).l0).mono ?_
  rintro e wb ⟨rfl, hb, hi⟩
  obtain ⟨p0, hp⟩ : ∃ p0, p0 = wa.heap.size := ⟨_, rfl⟩
  rw [← hp] at hi ⊢
  have HP0 : Hid (w.heap.size + 3 ≤ p0) := by show _ ≤ _; rw [hp]; exact HZa.out
  have HIb : Hid (RssIn wb p0 K.slots) := hi
  have HBb : Hid (Below w.heap.size w wb) := blw_trans HBa.out hb
  have HXb : Hid (Box8 wb w.heap.size (.int .i64 K.kind) (.int .i64 K.frm) (.int .i64 K.to_) (.int .i64 K.bal) (.int .i64 K.ix) (.int .i64 K.known) (.string K.txt) (v0)) := HXa.out.later hb
  have HOb : Hid (OwnBlk wb (w.heap.size + 2) 55 8) := HOa.out.later hb
  have HRb : Hid (OwnBlk wb (w.heap.size + 1) 55 8) := HRa.out.later hb
  have HCb : Hid (wb.cell? ⟨w.heap.size + 2, 0, none⟩ = some (.int .i64 K.kind) ∧ wb.cell? ⟨w.heap.size + 2, 1, none⟩ = some (.int .i64 K.frm) ∧ wb.cell? ⟨w.heap.size + 2, 2, none⟩ = some (.int .i64 K.to_) ∧ wb.cell? ⟨w.heap.size + 2, 3, none⟩ = some (.int .i64 K.bal) ∧ wb.cell? ⟨w.heap.size + 2, 4, none⟩ = some (.int .i64 K.ix) ∧ wb.cell? ⟨w.heap.size + 2, 5, none⟩ = some (.int .i64 K.known) ∧ wb.cell? ⟨w.heap.size + 2, 6, none⟩ = some (.string K.txt)) := ⟨(hb.cell (p := ⟨w.heap.size + 2, 0, none⟩) HOa.out.lt).trans HCa.out.1, (hb.cell (p := ⟨w.heap.size + 2, 1, none⟩) HOa.out.lt).trans HCa.out.2.1, (hb.cell (p := ⟨w.heap.size + 2, 2, none⟩) HOa.out.lt).trans HCa.out.2.2.1, (hb.cell (p := ⟨w.heap.size + 2, 3, none⟩) HOa.out.lt).trans HCa.out.2.2.2.1, (hb.cell (p := ⟨w.heap.size + 2, 4, none⟩) HOa.out.lt).trans HCa.out.2.2.2.2.1, (hb.cell (p := ⟨w.heap.size + 2, 5, none⟩) HOa.out.lt).trans HCa.out.2.2.2.2.2.1, (hb.cell (p := ⟨w.heap.size + 2, 6, none⟩) HOa.out.lt).trans HCa.out.2.2.2.2.2.2⟩
  have HZb : Hid (w.heap.size + 3 ≤ wb.heap.size) := Nat.le_trans HZa.out hb.size
  clear hi hb hp yz y0 y1 y2 y3 y4 y5 y6 y7 HXa HBa HOa HRa HCa HZa
  have hfz := HOb.out.frozen
  have hz := HOb.out.lt
  obtain ⟨z, ez⟩ := HOb.out.cell 7 (by omega)
  obtain ⟨wc, hw⟩ : ∃ wc, wc = wb.setCell ⟨w.heap.size + 2, 7, none⟩ (.slice (some ⟨p0, 0, none⟩) K.slots.length K.slots.length) := ⟨_, rfl⟩
  have HBc : Hid (Below w.heap.size w wc) := by show Below _ _ _; rw [hw]; exact HBb.out.setCell (p := ⟨w.heap.size + 2, 7, none⟩) (by show w.heap.size ≤ w.heap.size + 2; omega) _
  have HXc : Hid (Box8 wc w.heap.size (.int .i64 K.kind) (.int .i64 K.frm) (.int .i64 K.to_) (.int .i64 K.bal) (.int .i64 K.ix) (.int .i64 K.known) (.string K.txt) (v0)) := by
    show Box8 _ _ _ _ _ _ _ _ _ _ 
    rw [hw]
    obtain ⟨yz, y0, y1, y2, y3, y4, y5, y6, y7⟩ := HXb.out
    exact ⟨by rw [sc_size]; exact yz, (sc_ne _ _ _ _ _ _ (by omega)).trans y0, (sc_ne _ _ _ _ _ _ (by omega)).trans y1, (sc_ne _ _ _ _ _ _ (by omega)).trans y2, (sc_ne _ _ _ _ _ _ (by omega)).trans y3, (sc_ne _ _ _ _ _ _ (by omega)).trans y4, (sc_ne _ _ _ _ _ _ (by omega)).trans y5, (sc_ne _ _ _ _ _ _ (by omega)).trans y6, (sc_ne _ _ _ _ _ _ (by omega)).trans y7⟩
  have HOc : Hid (OwnBlk wc (w.heap.size + 2) 55 8) := by show OwnBlk _ _ _ _; rw [hw]; exact HOb.out.setCell 7 _
  have HRc : Hid (OwnBlk wc (w.heap.size + 1) 55 8) := by show OwnBlk _ _ _ _; rw [hw]; exact HRb.out.sc_other (by omega) _ _
  have HCc : Hid (wc.cell? ⟨w.heap.size + 2, 0, none⟩ = some (.int .i64 K.kind) ∧ wc.cell? ⟨w.heap.size + 2, 1, none⟩ = some (.int .i64 K.frm) ∧ wc.cell? ⟨w.heap.size + 2, 2, none⟩ = some (.int .i64 K.to_) ∧ wc.cell? ⟨w.heap.size + 2, 3, none⟩ = some (.int .i64 K.bal) ∧ wc.cell? ⟨w.heap.size + 2, 4, none⟩ = some (.int .i64 K.ix) ∧ wc.cell? ⟨w.heap.size + 2, 5, none⟩ = some (.int .i64 K.known) ∧ wc.cell? ⟨w.heap.size + 2, 6, none⟩ = some (.string K.txt) ∧ wc.cell? ⟨w.heap.size + 2, 7, none⟩ = some (.slice (some ⟨p0, 0, none⟩) K.slots.length K.slots.length)) := by
    show _ ∧ _ ∧ _ ∧ _ ∧ _ ∧ _ ∧ _ ∧ _
    rw [hw]
    exact ⟨(sc_ne _ _ _ _ _ _ (by omega)).trans HCb.out.1, (sc_ne _ _ _ _ _ _ (by omega)).trans HCb.out.2.1, (sc_ne _ _ _ _ _ _ (by omega)).trans HCb.out.2.2.1, (sc_ne _ _ _ _ _ _ (by omega)).trans HCb.out.2.2.2.1, (sc_ne _ _ _ _ _ _ (by omega)).trans HCb.out.2.2.2.2.1, (sc_ne _ _ _ _ _ _ (by omega)).trans HCb.out.2.2.2.2.2.1, (sc_ne _ _ _ _ _ _ (by omega)).trans HCb.out.2.2.2.2.2.2, sc_eq HOb.out 7 (by omega) _⟩
  have HIc : Hid (RssIn wc p0 K.slots) := by
    show RssIn _ _ _
    rw [hw]
    exact HIb.out.sc (by have := HP0.out; omega) _ _
  have HZc : Hid (w.heap.size + 3 ≤ wc.heap.size) := by show _ ≤ _; rw [hw, sc_size]; exact HZb.out
  go_upto_region 10 with fail
  rw [← hw]
  clear hw hfz hz ez HBb HXb HOb HRb HCb HIb HZb
  have d0 := HCc.out.1
  have d1 := HCc.out.2.1
  have d2 := HCc.out.2.2.1
  have d3 := HCc.out.2.2.2.1
  have d4 := HCc.out.2.2.2.2.1
  have d5 := HCc.out.2.2.2.2.2.1
  have d6 := HCc.out.2.2.2.2.2.2.1
  have d7 := HCc.out.2.2.2.2.2.2.2
  have dz := HOc.out.lt
  have hfz := HRc.out.frozen
  have hz := HRc.out.lt
  obtain ⟨z0, e0⟩ := HRc.out.cell 0 (by omega)
  obtain ⟨z1, e1⟩ := HRc.out.cell 1 (by omega)
  obtain ⟨z2, e2⟩ := HRc.out.cell 2 (by omega)
  obtain ⟨z3, e3⟩ := HRc.out.cell 3 (by omega)
  obtain ⟨z4, e4⟩ := HRc.out.cell 4 (by omega)
  obtain ⟨z5, e5⟩ := HRc.out.cell 5 (by omega)
  obtain ⟨z6, e6⟩ := HRc.out.cell 6 (by omega)
  obtain ⟨z7, e7⟩ := HRc.out.cell 7 (by omega)
  go_wp2
  have p := fun i hi => puts_at 0 [.int .i64 K.kind, .int .i64 K.frm, .int .i64 K.to_, .int .i64 K.bal, .int .i64 K.ix, .int .i64 K.known, .string K.txt, .slice (some ⟨p0, 0, none⟩) K.slots.length K.slots.length] wc 0 HRc.out (by simp) i hi
  have t0 := p 0 (by simp)
  have t1 := p 1 (by simp)
  have t2 := p 2 (by simp)
  have t3 := p 3 (by simp)
  have t4 := p 4 (by simp)
  have t5 := p 5 (by simp)
  have t6 := p 6 (by simp)
  have t7 := p 7 (by simp)
  have HPP : Hid (Below w.heap.size w (puts wc (w.heap.size + 1) 0 0 [.int .i64 K.kind, .int .i64 K.frm, .int .i64 K.to_, .int .i64 K.bal, .int .i64 K.ix, .int .i64 K.known, .string K.txt, .slice (some ⟨p0, 0, none⟩) K.slots.length K.slots.length])) := puts_below (a := w) _ (by omega) _ _ _ HBc.out
  have hsc : ∀ (W : World) (j : Nat) (v : Value), (RssIn W p0 K.slots) → (RssIn (W.setCell ⟨w.heap.size + 1, j, none⟩ v) p0 K.slots) := fun W j v hh => hh.sc (by have := HP0.out; omega) _ _
  simp only [puts, Nat.add_zero, Nat.zero_add, Nat.reduceAdd, List.getElem?_cons_zero, List.getElem?_cons_succ] at t0 t1 t2 t3 t4 t5 t6 t7
  have HQ := hsc _ 7 (.slice (some ⟨p0, 0, none⟩) K.slots.length K.slots.length) (hsc _ 6 (.string K.txt) (hsc _ 5 (.int .i64 K.known) (hsc _ 4 (.int .i64 K.ix) (hsc _ 3 (.int .i64 K.bal) (hsc _ 2 (.int .i64 K.to_) (hsc _ 1 (.int .i64 K.frm) (hsc _ 0 (.int .i64 K.kind) HIc.out)))))))
  refine bodyPost_ret (v := .agg #[.int .i64 K.kind, .int .i64 K.frm, .int .i64 K.to_, .int .i64 K.bal, .int .i64 K.ix, .int .i64 K.known, .string K.txt, .slice (some ⟨p0, 0, none⟩) K.slots.length K.slots.length]) (by simp [results, Try.results50, go_sem, t0, t1, t2, t3, t4, t5, t6, t7]) rfl ⟨⟨p0, rfl, ⟨HQ⟩, by have := HP0.out; omega⟩, ?_⟩
  exact HPP.out

set_option maxHeartbeats 4000000 in
theorem eqRM (K : Rm) (b0 q0 : Nat) (w : World) (h : RmIn w b0 K) (h' : RmIn w q0 K) :
    Calls Try.prog 65 #[.agg #[.int .i64 K.kind, .int .i64 K.frm, .int .i64 K.to_, .int .i64 K.bal, .int .i64 K.ix, .int .i64 K.known, .string K.txt, .slice (some ⟨b0, 0, none⟩) K.slots.length K.slots.length], .agg #[.int .i64 K.kind, .int .i64 K.frm, .int .i64 K.to_, .int .i64 K.bal, .int .i64 K.ix, .int .i64 K.known, .string K.txt, .slice (some ⟨q0, 0, none⟩) K.slots.length K.slots.length]] w fun e w' => e = .returned (.bool true) ∧ Below w.heap.size w w' := by
  have HH : Hid (RmIn w b0 K ∧ RmIn w q0 K) := ⟨h, h'⟩
  clear h h'
  obtain ⟨wa, hwa⟩ : ∃ wa, wa = (w.alloc (.cells #[.int .i64 K.kind, .int .i64 K.frm, .int .i64 K.to_, .int .i64 K.bal, .int .i64 K.ix, .int .i64 K.known, .string K.txt, .slice (some ⟨b0, 0, none⟩) K.slots.length K.slots.length] 55)).alloc (.cells #[.int .i64 K.kind, .int .i64 K.frm, .int .i64 K.to_, .int .i64 K.bal, .int .i64 K.ix, .int .i64 K.known, .string K.txt, .slice (some ⟨q0, 0, none⟩) K.slots.length K.slots.length] 55) := ⟨_, rfl⟩
  have HBa : Hid (Below w.heap.size w wa) := by show Below _ _ _; rw [hwa]; exact blw_alloc (blw_alloc (Below.refl _ _) _) _
  have HXa : Hid (Box8 wa w.heap.size (.int .i64 K.kind) (.int .i64 K.frm) (.int .i64 K.to_) (.int .i64 K.bal) (.int .i64 K.ix) (.int .i64 K.known) (.string K.txt) (.slice (some ⟨b0, 0, none⟩) K.slots.length K.slots.length) ∧ Box8 wa (w.heap.size + 1) (.int .i64 K.kind) (.int .i64 K.frm) (.int .i64 K.to_) (.int .i64 K.bal) (.int .i64 K.ix) (.int .i64 K.known) (.string K.txt) (.slice (some ⟨q0, 0, none⟩) K.slots.length K.slots.length)) := by show _ ∧ _; rw [hwa]; exact ⟨(Box8.new' w _ _ _ _ _ _ _ _ _ _ rfl).past _, Box8.new' _ _ _ _ _ _ _ _ _ _ _ (by simp)⟩
  go_enter Try.func65, Try.ntmps65
  go_upto_region 1 with fail
  rw [← hwa]
  clear hwa
  obtain ⟨yz, y0, y1, y2, y3, y4, y5, y6, y7⟩ := HXa.out.1
  obtain ⟨xz, x0, x1, x2, x3, x4, x5, x6, x7⟩ := HXa.out.2
  go_wp2_with fail
  refine (eqRss b0 q0 K.slots wa (HH.out.1.later HBa.out).l0 (HH.out.2.later HBa.out).l0).mono ?_
  rintro e wb ⟨rfl, hb⟩
  have HBb : Hid (Below w.heap.size w wb) := blw_trans HBa.out hb
  have HXb : Hid (Box8 wb w.heap.size (.int .i64 K.kind) (.int .i64 K.frm) (.int .i64 K.to_) (.int .i64 K.bal) (.int .i64 K.ix) (.int .i64 K.known) (.string K.txt) (.slice (some ⟨b0, 0, none⟩) K.slots.length K.slots.length) ∧ Box8 wb (w.heap.size + 1) (.int .i64 K.kind) (.int .i64 K.frm) (.int .i64 K.to_) (.int .i64 K.bal) (.int .i64 K.ix) (.int .i64 K.known) (.string K.txt) (.slice (some ⟨q0, 0, none⟩) K.slots.length K.slots.length)) := ⟨HXa.out.1.later hb, HXa.out.2.later hb⟩
  clear hb yz y0 y1 y2 y3 y4 y5 y6 y7 xz x0 x1 x2 x3 x4 x5 x6 x7 HXa HBa
  go_wp2
  go_ret
  exact ⟨rfl, HBb.out⟩

end Go.Proofs.Ytcefgacmagobnaa
