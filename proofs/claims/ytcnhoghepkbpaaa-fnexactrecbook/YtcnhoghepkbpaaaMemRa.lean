/-
  Who took a slot, in memory: sizes, copies, equality.
-/
import Derived.Deep.DeepCutAuto
import Derived.Test.YtcnhoghepkbpaaaMemRd
import Derived.Test.YtcnhoghepkbpaaaMemNu
namespace Go.Proofs.Ytcnhoghepkbpaaa
open Go.RowKit Go.Deep

structure Box2 (W : World) (p : Nat) (v0 v1 : Value) : Prop where
  lt : p < W.heap.size
  x0 : W.cell? ⟨p, 0, none⟩ = some v0
  x1 : W.cell? ⟨p, 1, none⟩ = some v1

theorem Box2.later {W W' : World} {p : Nat} {v0 v1 : Value} (h : Box2 W p v0 v1) (hb : Below W.heap.size W W') : Box2 W' p v0 v1 := by
  have c : ∀ j, W'.cell? ⟨p, j, none⟩ = W.cell? ⟨p, j, none⟩ := fun j => hb.cell (p := ⟨p, j, none⟩) h.lt
  exact ⟨Nat.lt_of_lt_of_le h.lt hb.size, (c 0).trans h.x0, (c 1).trans h.x1⟩
theorem Box2.new' (W : World) (p : Nat) (v0 v1 : Value) (t : TypeId) (hp : p = W.heap.size) : Box2 (W.alloc (.cells #[v0, v1] t)) p v0 v1 := by
  subst hp
  have c : ∀ j, (W.alloc (.cells #[v0, v1] t)).cell? ⟨W.heap.size, j, none⟩ = (#[v0, v1])[j]? := fun j => World.cell?_alloc_at _ _ _ _ rfl
  exact ⟨by simp, c 0, c 1⟩
theorem Box2.past {W : World} {p : Nat} {v0 v1 : Value} (h : Box2 W p v0 v1) (o : Obj) : Box2 (W.alloc o) p v0 v1 := h.later (blw_alloc (Below.refl _ _) o)

structure Ra where
  ix : Int
  frs : List Nu

structure RaAt (w : World) (v0 : Value) (K : Ra) : Prop where
  l0 : NusAt w v0 K.frs

structure RaIn (w : World) (b0 : Nat) (K : Ra) : Prop where
  l0 : NusIn w b0 K.frs

def Ra.small (K : Ra) : Prop := K.frs.length ≤ 1048576

theorem RaAt.later {w w' : World} {v0 : Value} {K : Ra} (h : RaAt w v0 K) (hb : Below w.heap.size w w') : RaAt w' v0 K := ⟨h.l0.later hb⟩
theorem RaIn.later {w w' : World} {b0 : Nat} {K : Ra} (h : RaIn w b0 K) (hb : Below w.heap.size w w') : RaIn w' b0 K := ⟨h.l0.later hb⟩

set_option maxHeartbeats 4000000 in
theorem szRA (K : Ra) (v0 : Value) (left : Int) (w : World) (h0 : 0 ≤ left) (h1 : left ≤ 1048576) (h : RaAt w v0 K) :
    Calls Try.prog 41 #[.agg #[.int .i64 K.ix, v0], .int .i64 left] w fun e w' => (∃ r : Int, e = .returned (.int .i64 r) ∧ szP K.small left r) ∧ Below w.heap.size w w' := by
  have HH : Hid (RaAt w v0 K) := h
  clear h
  obtain ⟨wa, hwa⟩ : ∃ wa, wa = w.alloc (.cells #[.int .i64 K.ix, v0] 78) := ⟨_, rfl⟩
  have HBa : Hid (Below w.heap.size w wa) := by show Below _ _ _; rw [hwa]; exact blw_alloc (Below.refl _ _) _
  have HXa : Hid (Box2 wa w.heap.size (.int .i64 K.ix) (v0)) := by show Box2 _ _ _ _ ; rw [hwa]; exact Box2.new' w _ _ _ _ rfl
  go_enter Try.func41, Try.ntmps41
  go_upto_region 1 with fail
  rw [← hwa]
  clear hwa
  obtain ⟨yz, y0, y1⟩ := HXa.out
  go_wp2_with fail
  refine (szNus v0 K.frs left wa (by omega) (by omega) (HH.out.later HBa.out).l0).mono ?_
  rintro e wb ⟨⟨r0, rfl, hr⟩, hb⟩
  have HR0 : Hid (szP ((K.frs.length : Int) ≤ left) left r0) := hr
  have q0 : -1 ≤ r0 := hr.1
  have q0' : r0 ≤ left := hr.2.1
  have HBb : Hid (Below w.heap.size w wb) := blw_trans HBa.out hb
  have HXb : Hid (Box2 wb w.heap.size (.int .i64 K.ix) (v0)) := HXa.out.later hb
  clear hr hb yz y0 y1 HXa HBa
  by_cases c0 : r0 < 0
  · go_wp2
    go_ret
    exact ⟨⟨_, rfl, by unfold szP; exact ⟨by omega, by omega, by omega⟩⟩, HBb.out⟩
  go_wp2
  go_ret
  refine ⟨⟨_, rfl, ?_⟩, HBb.out⟩
  have k0 := HR0.out.2.2 (by omega)
  unfold szP
  exact ⟨by omega, by omega, fun _ => by show _ ≤ _; omega⟩

set_option maxHeartbeats 8000000 in
theorem toRA (K : Ra) (v0 : Value) (w : World) (hs : K.small) (h : RaAt w v0 K) :
    Calls Try.prog 52 #[.agg #[.int .i64 K.ix, v0]] w fun e w' => (∃ b0, e = .returned (.agg #[.int .i64 K.ix, .slice (some ⟨b0, 0, none⟩) K.frs.length K.frs.length]) ∧ RaIn w' b0 K ∧ w.heap.size ≤ b0) ∧ Below w.heap.size w w' := by
  have HH : Hid (RaAt w v0 K ∧ K.small) := ⟨h, hs⟩
  clear h hs
  obtain ⟨wa, hwa⟩ : ∃ wa, wa = ((w.alloc (.cells #[.int .i64 K.ix, v0] 78)).alloc (.cells #[.int .i64 0, .slice none 0 0] 90)).alloc (.cells #[.int .i64 K.ix, .slice none 0 0] 90) := ⟨_, rfl⟩
  have HBa : Hid (Below w.heap.size w wa) := by show Below _ _ _; rw [hwa]; exact blw_alloc (blw_alloc (blw_alloc (Below.refl _ _) _) _) _
  have HXa : Hid (Box2 wa w.heap.size (.int .i64 K.ix) (v0)) := by show Box2 _ _ _ _ ; rw [hwa]; exact ((Box2.new' w _ _ _ _ rfl).past _).past _
  have HOa : Hid (OwnBlk wa (w.heap.size + 2) 90 2) := by show OwnBlk _ _ _ _; rw [hwa]; exact OwnBlk.alloc_at2 _ _ _ _ _ rfl (by simp)
  have HRa : Hid (OwnBlk wa (w.heap.size + 1) 90 2) := by show OwnBlk _ _ _ _; rw [hwa]; exact (OwnBlk.alloc_at2 _ _ _ _ _ rfl (by simp)).past _
  have HCa : Hid (wa.cell? ⟨w.heap.size + 2, 0, none⟩ = some (.int .i64 K.ix)) := by show _ = _; rw [hwa]; exact World.cell?_alloc_at _ _ _ _ (by simp)
  have HZa : Hid (w.heap.size + 3 ≤ wa.heap.size) := by show _ ≤ _; rw [hwa]; simp
  go_enter Try.func52, Try.ntmps52
  go_upto_region 3 with fail
  rw [← hwa]
  clear hwa
  obtain ⟨yz, y0, y1⟩ := HXa.out
  go_wp2_with fail
  refine (toNus v0 K.frs wa HH.out.2 (HH.out.1.later HBa.out).l0).mono ?_
  rintro e wb ⟨rfl, hb, hi⟩
  obtain ⟨p0, hp⟩ : ∃ p0, p0 = wa.heap.size := ⟨_, rfl⟩
  rw [← hp] at hi ⊢
  have HP0 : Hid (w.heap.size + 3 ≤ p0) := by show _ ≤ _; rw [hp]; exact HZa.out
  have HIb : Hid (NusIn wb p0 K.frs) := hi
  have HBb : Hid (Below w.heap.size w wb) := blw_trans HBa.out hb
  have HXb : Hid (Box2 wb w.heap.size (.int .i64 K.ix) (v0)) := HXa.out.later hb
  have HOb : Hid (OwnBlk wb (w.heap.size + 2) 90 2) := HOa.out.later hb
  have HRb : Hid (OwnBlk wb (w.heap.size + 1) 90 2) := HRa.out.later hb
  have HCb : Hid (wb.cell? ⟨w.heap.size + 2, 0, none⟩ = some (.int .i64 K.ix)) := (hb.cell (p := ⟨w.heap.size + 2, 0, none⟩) HOa.out.lt).trans HCa.out
  have HZb : Hid (w.heap.size + 3 ≤ wb.heap.size) := Nat.le_trans HZa.out hb.size
  clear hi hb hp yz y0 y1 HXa HBa HOa HRa HCa HZa
  have hfz := HOb.out.frozen
  have hz := HOb.out.lt
  obtain ⟨z, ez⟩ := HOb.out.cell 1 (by omega)
  obtain ⟨wc, hw⟩ : ∃ wc, wc = wb.setCell ⟨w.heap.size + 2, 1, none⟩ (.slice (some ⟨p0, 0, none⟩) K.frs.length K.frs.length) := ⟨_, rfl⟩
  have HBc : Hid (Below w.heap.size w wc) := by show Below _ _ _; rw [hw]; exact HBb.out.setCell (p := ⟨w.heap.size + 2, 1, none⟩) (by show w.heap.size ≤ w.heap.size + 2; omega) _
  have HXc : Hid (Box2 wc w.heap.size (.int .i64 K.ix) (v0)) := by
    show Box2 _ _ _ _ 
    rw [hw]
    obtain ⟨yz, y0, y1⟩ := HXb.out
    exact ⟨by rw [sc_size]; exact yz, (sc_ne _ _ _ _ _ _ (by omega)).trans y0, (sc_ne _ _ _ _ _ _ (by omega)).trans y1⟩
  have HOc : Hid (OwnBlk wc (w.heap.size + 2) 90 2) := by show OwnBlk _ _ _ _; rw [hw]; exact HOb.out.setCell 1 _
  have HRc : Hid (OwnBlk wc (w.heap.size + 1) 90 2) := by show OwnBlk _ _ _ _; rw [hw]; exact HRb.out.sc_other (by omega) _ _
  have HCc : Hid (wc.cell? ⟨w.heap.size + 2, 0, none⟩ = some (.int .i64 K.ix) ∧ wc.cell? ⟨w.heap.size + 2, 1, none⟩ = some (.slice (some ⟨p0, 0, none⟩) K.frs.length K.frs.length)) := by
    show _ ∧ _
    rw [hw]
    exact ⟨(sc_ne _ _ _ _ _ _ (by omega)).trans HCb.out, sc_eq HOb.out 1 (by omega) _⟩
  have HIc : Hid (NusIn wc p0 K.frs) := by
    show NusIn _ _ _
    rw [hw]
    exact HIb.out.sc (by have := HP0.out; omega) _ _
  have HZc : Hid (w.heap.size + 3 ≤ wc.heap.size) := by show _ ≤ _; rw [hw, sc_size]; exact HZb.out
  go_upto_region 4 with fail
  rw [← hw]
  clear hw hfz hz ez HBb HXb HOb HRb HCb HIb HZb
  have d0 := HCc.out.1
  have d1 := HCc.out.2
  have dz := HOc.out.lt
  have hfz := HRc.out.frozen
  have hz := HRc.out.lt
  obtain ⟨z0, e0⟩ := HRc.out.cell 0 (by omega)
  obtain ⟨z1, e1⟩ := HRc.out.cell 1 (by omega)
  go_wp2
  have p := fun i hi => puts_at 0 [.int .i64 K.ix, .slice (some ⟨p0, 0, none⟩) K.frs.length K.frs.length] wc 0 HRc.out (by simp) i hi
  have t0 := p 0 (by simp)
  have t1 := p 1 (by simp)
  have HPP : Hid (Below w.heap.size w (puts wc (w.heap.size + 1) 0 0 [.int .i64 K.ix, .slice (some ⟨p0, 0, none⟩) K.frs.length K.frs.length])) := puts_below (a := w) _ (by omega) _ _ _ HBc.out
  have hsc : ∀ (W : World) (j : Nat) (v : Value), (NusIn W p0 K.frs) → (NusIn (W.setCell ⟨w.heap.size + 1, j, none⟩ v) p0 K.frs) := fun W j v hh => hh.sc (by have := HP0.out; omega) _ _
  simp only [puts, Nat.add_zero, Nat.zero_add, List.getElem?_cons_zero, List.getElem?_cons_succ] at t0 t1
  have HQ := hsc _ 1 (.slice (some ⟨p0, 0, none⟩) K.frs.length K.frs.length) (hsc _ 0 (.int .i64 K.ix) HIc.out)
  refine bodyPost_ret (v := .agg #[.int .i64 K.ix, .slice (some ⟨p0, 0, none⟩) K.frs.length K.frs.length]) (by simp [results, Try.results52, go_sem, t0, t1]) rfl ⟨⟨p0, rfl, ⟨HQ⟩, by have := HP0.out; omega⟩, ?_⟩
  exact HPP.out

set_option maxHeartbeats 4000000 in
theorem eqRA (K : Ra) (b0 q0 : Nat) (w : World) (h : RaIn w b0 K) (h' : RaIn w q0 K) :
    Calls Try.prog 65 #[.agg #[.int .i64 K.ix, .slice (some ⟨b0, 0, none⟩) K.frs.length K.frs.length], .agg #[.int .i64 K.ix, .slice (some ⟨q0, 0, none⟩) K.frs.length K.frs.length]] w fun e w' => e = .returned (.bool true) ∧ Below w.heap.size w w' := by
  have HH : Hid (RaIn w b0 K ∧ RaIn w q0 K) := ⟨h, h'⟩
  clear h h'
  obtain ⟨wa, hwa⟩ : ∃ wa, wa = (w.alloc (.cells #[.int .i64 K.ix, .slice (some ⟨b0, 0, none⟩) K.frs.length K.frs.length] 90)).alloc (.cells #[.int .i64 K.ix, .slice (some ⟨q0, 0, none⟩) K.frs.length K.frs.length] 90) := ⟨_, rfl⟩
  have HBa : Hid (Below w.heap.size w wa) := by show Below _ _ _; rw [hwa]; exact blw_alloc (blw_alloc (Below.refl _ _) _) _
  have HXa : Hid (Box2 wa w.heap.size (.int .i64 K.ix) (.slice (some ⟨b0, 0, none⟩) K.frs.length K.frs.length) ∧ Box2 wa (w.heap.size + 1) (.int .i64 K.ix) (.slice (some ⟨q0, 0, none⟩) K.frs.length K.frs.length)) := by show _ ∧ _; rw [hwa]; exact ⟨(Box2.new' w _ _ _ _ rfl).past _, Box2.new' _ _ _ _ _ (by simp)⟩
  go_enter Try.func65, Try.ntmps65
  go_upto_region 1 with fail
  rw [← hwa]
  clear hwa
  obtain ⟨yz, y0, y1⟩ := HXa.out.1
  obtain ⟨xz, x0, x1⟩ := HXa.out.2
  go_wp2_with fail
  refine (eqNus b0 q0 K.frs wa (HH.out.1.later HBa.out).l0 (HH.out.2.later HBa.out).l0).mono ?_
  rintro e wb ⟨rfl, hb⟩
  have HBb : Hid (Below w.heap.size w wb) := blw_trans HBa.out hb
  have HXb : Hid (Box2 wb w.heap.size (.int .i64 K.ix) (.slice (some ⟨b0, 0, none⟩) K.frs.length K.frs.length) ∧ Box2 wb (w.heap.size + 1) (.int .i64 K.ix) (.slice (some ⟨q0, 0, none⟩) K.frs.length K.frs.length)) := ⟨HXa.out.1.later hb, HXa.out.2.later hb⟩
  clear hb yz y0 y1 xz x0 x1 HXa HBa
  go_wp2
  go_ret
  exact ⟨rfl, HBb.out⟩

end Go.Proofs.Ytcnhoghepkbpaaa
