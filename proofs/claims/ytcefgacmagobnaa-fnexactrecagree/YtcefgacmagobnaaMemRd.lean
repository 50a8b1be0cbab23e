/-
  A recorder's disk in memory: sizes, copies, equality.
-/
import Derived.Deep.DeepCutAuto
import Derived.Test.YtcefgacmagobnaaMemRs
namespace Go.Proofs.Ytcefgacmagobnaa
open Go.RowKit Go.Deep

structure Box3 (W : World) (p : Nat) (v0 v1 v2 : Value) : Prop where
  lt : p < W.heap.size
  x0 : W.cell? ⟨p, 0, none⟩ = some v0
  x1 : W.cell? ⟨p, 1, none⟩ = some v1
  x2 : W.cell? ⟨p, 2, none⟩ = some v2

theorem Box3.later {W W' : World} {p : Nat} {v0 v1 v2 : Value} (h : Box3 W p v0 v1 v2) (hb : Below W.heap.size W W') : Box3 W' p v0 v1 v2 := by
  have c : ∀ j, W'.cell? ⟨p, j, none⟩ = W.cell? ⟨p, j, none⟩ := fun j => hb.cell (p := ⟨p, j, none⟩) h.lt
  exact ⟨Nat.lt_of_lt_of_le h.lt hb.size, (c 0).trans h.x0, (c 1).trans h.x1, (c 2).trans h.x2⟩
theorem Box3.new' (W : World) (p : Nat) (v0 v1 v2 : Value) (t : TypeId) (hp : p = W.heap.size) : Box3 (W.alloc (.cells #[v0, v1, v2] t)) p v0 v1 v2 := by
  subst hp
  have c : ∀ j, (W.alloc (.cells #[v0, v1, v2] t)).cell? ⟨W.heap.size, j, none⟩ = (#[v0, v1, v2])[j]? := fun j => World.cell?_alloc_at _ _ _ _ rfl
  exact ⟨by simp, c 0, c 1, c 2⟩
theorem Box3.past {W : World} {p : Nat} {v0 v1 v2 : Value} (h : Box3 W p v0 v1 v2) (o : Obj) : Box3 (W.alloc o) p v0 v1 v2 := h.later (blw_alloc (Below.refl _ _) o)

theorem OwnBlk.alloc_at2 (W : World) (cs : Array Value) (t : TypeId) (m n : Nat) (h : cs.size = m) (hn : n = W.heap.size) : OwnBlk (W.alloc (.cells cs t)) n t m := by
  subst hn
  exact OwnBlk.alloc W cs t m h

structure Rd where
  prom : Int
  known : Int
  slots : List Rs

structure RdAt (w : World) (v0 : Value) (K : Rd) : Prop where
  l0 : RssAt w v0 K.slots

structure RdIn (w : World) (b0 : Nat) (K : Rd) : Prop where
  l0 : RssIn w b0 K.slots

def Rd.small (K : Rd) : Prop := K.slots.length ≤ 1048576

theorem RdAt.later {w w' : World} {v0 : Value} {K : Rd} (h : RdAt w v0 K) (hb : Below w.heap.size w w') : RdAt w' v0 K := ⟨h.l0.later hb⟩
theorem RdIn.later {w w' : World} {b0 : Nat} {K : Rd} (h : RdIn w b0 K) (hb : Below w.heap.size w w') : RdIn w' b0 K := ⟨h.l0.later hb⟩

set_option maxHeartbeats 4000000 in
theorem szRD (K : Rd) (v0 : Value) (left : Int) (w : World) (h0 : 0 ≤ left) (h1 : left ≤ 1048576) (h : RdAt w v0 K) :
    Calls Try.prog 71 #[.agg #[.int .i64 K.prom, .int .i64 K.known, v0], .int .i64 left] w fun e w' => (∃ r : Int, e = .returned (.int .i64 r) ∧ szP K.small left r) ∧ Below w.heap.size w w' := by
  have HH : Hid (RdAt w v0 K) := h
  clear h
  obtain ⟨wa, hwa⟩ : ∃ wa, wa = w.alloc (.cells #[.int .i64 K.prom, .int .i64 K.known, v0] 80) := ⟨_, rfl⟩
  have HBa : Hid (Below w.heap.size w wa) := by show Below _ _ _; rw [hwa]; exact blw_alloc (Below.refl _ _) _
  have HXa : Hid (Box3 wa w.heap.size (.int .i64 K.prom) (.int .i64 K.known) (v0)) := by show Box3 _ _ _ _ _ ; rw [hwa]; exact Box3.new' w _ _ _ _ _ rfl
  go_enter Try.func71, Try.ntmps71
  go_upto_region 1 with fail
  rw [← hwa]
  clear hwa
  obtain ⟨yz, y0, y1, y2⟩ := HXa.out
  go_wp2_with fail
  refine (szRss v0 K.slots left wa (by omega) (by omega) (HH.out.later HBa.out).l0).mono ?_
  rintro e wb ⟨⟨r0, rfl, hr⟩, hb⟩
  have HR0 : Hid (szP ((K.slots.length : Int) ≤ left) left r0) := hr
  have q0 : -1 ≤ r0 := hr.1
  have q0' : r0 ≤ left := hr.2.1
  have HBb : Hid (Below w.heap.size w wb) := blw_trans HBa.out hb
  have HXb : Hid (Box3 wb w.heap.size (.int .i64 K.prom) (.int .i64 K.known) (v0)) := HXa.out.later hb
  clear hr hb yz y0 y1 y2 HXa HBa
  by_cases c0 : r0 < 0
  · go_wp2
    go_ret
    exact ⟨⟨_, rfl, by unfold szP; exact ⟨by omega, by omega, by omega⟩⟩, HBb.out⟩
  go_wp2
  go_ret
  refine ⟨⟨_, rfl, ?_⟩, HBb.out⟩
  have k0 := HR0.out.2.2 (by omega)
  unfold szP
  exact ⟨by omega, by omega, fun _ => by show _ ≤ _; omega⟩

set_option maxHeartbeats 8000000 in
theorem toRD (K : Rd) (v0 : Value) (w : World) (hs : K.small) (h : RdAt w v0 K) :
    Calls Try.prog 76 #[.agg #[.int .i64 K.prom, .int .i64 K.known, v0]] w fun e w' => (∃ b0, e = .returned (.agg #[.int .i64 K.prom, .int .i64 K.known, .slice (some ⟨b0, 0, none⟩) K.slots.length K.slots.length]) ∧ RdIn w' b0 K ∧ w.heap.size ≤ b0) ∧ Below w.heap.size w w' := by
  have HH : Hid (RdAt w v0 K ∧ K.small) := ⟨h, hs⟩
  clear h hs
  obtain ⟨wa, hwa⟩ : ∃ wa, wa = ((w.alloc (.cells #[.int .i64 K.prom, .int .i64 K.known, v0] 80)).alloc (.cells #[.int .i64 0, .int .i64 0, .slice none 0 0] 47)).alloc (.cells #[.int .i64 K.prom, .int .i64 K.known, .slice none 0 0] 47) := ⟨_, rfl⟩
  have HBa : Hid (Below w.heap.size w wa) := by show Below _ _ _; rw [hwa]; exact blw_alloc (blw_alloc (blw_alloc (Below.refl _ _) _) _) _
  have HXa : Hid (Box3 wa w.heap.size (.int .i64 K.prom) (.int .i64 K.known) (v0)) := by show Box3 _ _ _ _ _ ; rw [hwa]; exact ((Box3.new' w _ _ _ _ _ rfl).past _).past _
  have HOa : Hid (OwnBlk wa (w.heap.size + 2) 47 3) := by show OwnBlk _ _ _ _; rw [hwa]; exact OwnBlk.alloc_at2 _ _ _ _ _ rfl (by simp)
  have HRa : Hid (OwnBlk wa (w.heap.size + 1) 47 3) := by show OwnBlk _ _ _ _; rw [hwa]; exact (OwnBlk.alloc_at2 _ _ _ _ _ rfl (by simp)).past _
  have HCa : Hid (wa.cell? ⟨w.heap.size + 2, 0, none⟩ = some (.int .i64 K.prom) ∧ wa.cell? ⟨w.heap.size + 2, 1, none⟩ = some (.int .i64 K.known)) := by show _ ∧ _; rw [hwa]; exact ⟨World.cell?_alloc_at _ _ _ _ (by simp), World.cell?_alloc_at _ _ _ _ (by simp)⟩
  have HZa : Hid (w.heap.size + 3 ≤ wa.heap.size) := by show _ ≤ _; rw [hwa]; simp
  go_enter Try.func76, Try.ntmps76
  go_upto_region 4 with fail
  rw [← hwa]
  clear hwa
  obtain ⟨yz, y0, y1, y2⟩ := HXa.out
  go_wp2_with fail
  refine (toRss v0 K.slots wa HH.out.2 (HH.out.1.later HBa.out).l0).mono ?_
  rintro e wb ⟨rfl, hb, hi⟩
  obtain ⟨p0, hp⟩ : ∃ p0, p0 = wa.heap.size := ⟨_, rfl⟩
  rw [← hp] at hi ⊢
  have HP0 : Hid (w.heap.size + 3 ≤ p0) := by show _ ≤ _; rw [hp]; exact HZa.out
  have HIb : Hid (RssIn wb p0 K.slots) := hi
  have HBb : Hid (Below w.heap.size w wb) := blw_trans HBa.out hb
  have HXb : Hid (Box3 wb w.heap.size (.int .i64 K.prom) (.int .i64 K.known) (v0)) := HXa.out.later hb
  have HOb : Hid (OwnBlk wb (w.heap.size + 2) 47 3) := HOa.out.later hb
  have HRb : Hid (OwnBlk wb (w.heap.size + 1) 47 3) := HRa.out.later hb
  have HCb : Hid (wb.cell? ⟨w.heap.size + 2, 0, none⟩ = some (.int .i64 K.prom) ∧ wb.cell? ⟨w.heap.size + 2, 1, none⟩ = some (.int .i64 K.known)) := ⟨(hb.cell (p := ⟨w.heap.size + 2, 0, none⟩) HOa.out.lt).trans HCa.out.1, (hb.cell (p := ⟨w.heap.size + 2, 1, none⟩) HOa.out.lt).trans HCa.out.2⟩
  have HZb : Hid (w.heap.size + 3 ≤ wb.heap.size) := Nat.le_trans HZa.out hb.size
  clear hi hb hp yz y0 y1 y2 HXa HBa HOa HRa HCa HZa
  have hfz := HOb.out.frozen
  have hz := HOb.out.lt
  obtain ⟨z, ez⟩ := HOb.out.cell 2 (by omega)
  obtain ⟨wc, hw⟩ : ∃ wc, wc = wb.setCell ⟨w.heap.size + 2, 2, none⟩ (.slice (some ⟨p0, 0, none⟩) K.slots.length K.slots.length) := ⟨_, rfl⟩
  have HBc : Hid (Below w.heap.size w wc) := by show Below _ _ _; rw [hw]; exact HBb.out.setCell (p := ⟨w.heap.size + 2, 2, none⟩) (by show w.heap.size ≤ w.heap.size + 2; omega) _
  have HXc : Hid (Box3 wc w.heap.size (.int .i64 K.prom) (.int .i64 K.known) (v0)) := by
    show Box3 _ _ _ _ _ 
    rw [hw]
    obtain ⟨yz, y0, y1, y2⟩ := HXb.out
    exact ⟨by rw [sc_size]; exact yz, (sc_ne _ _ _ _ _ _ (by omega)).trans y0, (sc_ne _ _ _ _ _ _ (by omega)).trans y1, (sc_ne _ _ _ _ _ _ (by omega)).trans y2⟩
  have HOc : Hid (OwnBlk wc (w.heap.size + 2) 47 3) := by show OwnBlk _ _ _ _; rw [hw]; exact HOb.out.setCell 2 _
  have HRc : Hid (OwnBlk wc (w.heap.size + 1) 47 3) := by show OwnBlk _ _ _ _; rw [hw]; exact HRb.out.sc_other (by omega) _ _
  have HCc : Hid (wc.cell? ⟨w.heap.size + 2, 0, none⟩ = some (.int .i64 K.prom) ∧ wc.cell? ⟨w.heap.size + 2, 1, none⟩ = some (.int .i64 K.known) ∧ wc.cell? ⟨w.heap.size + 2, 2, none⟩ = some (.slice (some ⟨p0, 0, none⟩) K.slots.length K.slots.length)) := by
    show _ ∧ _ ∧ _
    rw [hw]
    exact ⟨(sc_ne _ _ _ _ _ _ (by omega)).trans HCb.out.1, (sc_ne _ _ _ _ _ _ (by omega)).trans HCb.out.2, sc_eq HOb.out 2 (by omega) _⟩
  have HIc : Hid (RssIn wc p0 K.slots) := by
    show RssIn _ _ _
    rw [hw]
    exact HIb.out.sc (by have := HP0.out; omega) _ _
  have HZc : Hid (w.heap.size + 3 ≤ wc.heap.size) := by show _ ≤ _; rw [hw, sc_size]; exact HZb.out
  go_upto_region 5 with fail
  rw [← hw]
  clear hw hfz hz ez HBb HXb HOb HRb HCb HIb HZb
  have d0 := HCc.out.1
  have d1 := HCc.out.2.1
  have d2 := HCc.out.2.2
  have dz := HOc.out.lt
  have hfz := HRc.out.frozen
  have hz := HRc.out.lt
  obtain ⟨z0, e0⟩ := HRc.out.cell 0 (by omega)
  obtain ⟨z1, e1⟩ := HRc.out.cell 1 (by omega)
  obtain ⟨z2, e2⟩ := HRc.out.cell 2 (by omega)
  go_wp2
  have p := fun i hi => puts_at 0 [.int .i64 K.prom, .int .i64 K.known, .slice (some ⟨p0, 0, none⟩) K.slots.length K.slots.length] wc 0 HRc.out (by simp) i hi
  have t0 := p 0 (by simp)
  have t1 := p 1 (by simp)
  have t2 := p 2 (by simp)
  have HPP : Hid (Below w.heap.size w (puts wc (w.heap.size + 1) 0 0 [.int .i64 K.prom, .int .i64 K.known, .slice (some ⟨p0, 0, none⟩) K.slots.length K.slots.length])) := puts_below (a := w) _ (by omega) _ _ _ HBc.out
  have hsc : ∀ (W : World) (j : Nat) (v : Value), (RssIn W p0 K.slots) → (RssIn (W.setCell ⟨w.heap.size + 1, j, none⟩ v) p0 K.slots) := fun W j v hh => hh.sc (by have := HP0.out; omega) _ _
  simp only [puts, Nat.add_zero, Nat.zero_add, Nat.reduceAdd, List.getElem?_cons_zero, List.getElem?_cons_succ] at t0 t1 t2
  have HQ := hsc _ 2 (.slice (some ⟨p0, 0, none⟩) K.slots.length K.slots.length) (hsc _ 1 (.int .i64 K.known) (hsc _ 0 (.int .i64 K.prom) HIc.out))
  refine bodyPost_ret (v := .agg #[.int .i64 K.prom, .int .i64 K.known, .slice (some ⟨p0, 0, none⟩) K.slots.length K.slots.length]) (by simp [results, Try.results76, go_sem, t0, t1, t2]) rfl ⟨⟨p0, rfl, ⟨HQ⟩, by have := HP0.out; omega⟩, ?_⟩
  exact HPP.out

set_option maxHeartbeats 4000000 in
theorem eqRD (K : Rd) (b0 q0 : Nat) (w : World) (h : RdIn w b0 K) (h' : RdIn w q0 K) :
    Calls Try.prog 88 #[.agg #[.int .i64 K.prom, .int .i64 K.known, .slice (some ⟨b0, 0, none⟩) K.slots.length K.slots.length], .agg #[.int .i64 K.prom, .int .i64 K.known, .slice (some ⟨q0, 0, none⟩) K.slots.length K.slots.length]] w fun e w' => e = .returned (.bool true) ∧ Below w.heap.size w w' := by
  have HH : Hid (RdIn w b0 K ∧ RdIn w q0 K) := ⟨h, h'⟩
  clear h h'
  obtain ⟨wa, hwa⟩ : ∃ wa, wa = (w.alloc (.cells #[.int .i64 K.prom, .int .i64 K.known, .slice (some ⟨b0, 0, none⟩) K.slots.length K.slots.length] 47)).alloc (.cells #[.int .i64 K.prom, .int .i64 K.known, .slice (some ⟨q0, 0, none⟩) K.slots.length K.slots.length] 47) := ⟨_, rfl⟩
  have HBa : Hid (Below w.heap.size w wa) := by show Below _ _ _; rw [hwa]; exact blw_alloc (blw_alloc (Below.refl _ _) _) _
  have HXa : Hid (Box3 wa w.heap.size (.int .i64 K.prom) (.int .i64 K.known) (.slice (some ⟨b0, 0, none⟩) K.slots.length K.slots.length) ∧ Box3 wa (w.heap.size + 1) (.int .i64 K.prom) (.int .i64 K.known) (.slice (some ⟨q0, 0, none⟩) K.slots.length K.slots.length)) := by show _ ∧ _; rw [hwa]; exact ⟨(Box3.new' w _ _ _ _ _ rfl).past _, Box3.new' _ _ _ _ _ _ (by simp)⟩
  go_enter Try.func88, Try.ntmps88
  go_upto_region 1 with fail
  rw [← hwa]
  clear hwa
  obtain ⟨yz, y0, y1, y2⟩ := HXa.out.1
  obtain ⟨xz, x0, x1, x2⟩ := HXa.out.2
  go_wp2_with fail
  refine (eqRss b0 q0 K.slots wa (HH.out.1.later HBa.out).l0 (HH.out.2.later HBa.out).l0).mono ?_
  rintro e wb ⟨rfl, hb⟩
  have HBb : Hid (Below w.heap.size w wb) := blw_trans HBa.out hb
  have HXb : Hid (Box3 wb w.heap.size (.int .i64 K.prom) (.int .i64 K.known) (.slice (some ⟨b0, 0, none⟩) K.slots.length K.slots.length) ∧ Box3 wb (w.heap.size + 1) (.int .i64 K.prom) (.int .i64 K.known) (.slice (some ⟨q0, 0, none⟩) K.slots.length K.slots.length)) := ⟨HXa.out.1.later hb, HXa.out.2.later hb⟩
  clear hb yz y0 y1 y2 xz x0 x1 x2 HXa HBa
  go_wp2
  go_ret
  exact ⟨rfl, HBb.out⟩

end Go.Proofs.Ytcefgacmagobnaa
