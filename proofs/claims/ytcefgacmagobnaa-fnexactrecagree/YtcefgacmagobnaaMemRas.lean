/-
  Lists of acks: as they lie in memory; sizes, copies, equality.
-/
import Derived.Deep.DeepCutAuto
import Derived.Test.YtcefgacmagobnaaMemRd
import Derived.Test.YtcefgacmagobnaaMemNu
namespace Go.Proofs.Ytcefgacmagobnaa
open Go.RowKit Go.Deep

structure Box2 (W : World) (p : Nat) (v0 v1 : Value) : Prop where
  lt : p < W.heap.size
  x0 : W.cell? ⟨p, 0, none⟩ = some v0
  x1 : W.cell? ⟨p, 1, none⟩ = some v1

theorem Box2.later {W W' : World} {p : Nat} {v0 v1 : Value} (h : Box2 W p v0 v1) (hb : Below W.heap.size W W') : Box2 W' p v0 v1 := by
  have c : ∀ j, W'.cell? ⟨p, j, none⟩ = W.cell? ⟨p, j, none⟩ := fun j => hb.cell (p := ⟨p, j, none⟩) h.lt
  exact ⟨Nat.lt_of_lt_of_le h.lt hb.size, (c 0).trans h.x0, (c 1).trans h.x1⟩
theorem Box2.new' (W : World) (p : Nat) (v0 v1 : Value) (t : TypeId) (hp : p = W.heap.size) : Box2 (W.alloc (.cells #[v0, v1] t)) p v0 v1 := by
  subst hp
  have c : ∀ j, (W.alloc (.cells #[v0, v1] t)).cell? ⟨W.heap.size, j, none⟩ = (#[v0, v1])[j]? := fun j => World.cell?_alloc_at _ _ _ _ rfl
  exact ⟨by simp, c 0, c 1⟩
theorem Box2.past {W : World} {p : Nat} {v0 v1 : Value} (h : Box2 W p v0 v1) (o : Obj) : Box2 (W.alloc o) p v0 v1 := h.later (blw_alloc (Below.refl _ _) o)

structure Ra where
  ix : Int
  frs : List Nu

structure RaAt (w : World) (v0 : Value) (K : Ra) : Prop where
  l0 : NusAt w v0 K.frs

structure RaIn (w : World) (b0 : Nat) (K : Ra) : Prop where
  l0 : NusIn w b0 K.frs

def Ra.small (K : Ra) : Prop := K.frs.length ≤ 1048576

theorem RaAt.later {w w' : World} {v0 : Value} {K : Ra} (h : RaAt w v0 K) (hb : Below w.heap.size w w') : RaAt w' v0 K := ⟨h.l0.later hb⟩
theorem RaIn.later {w w' : World} {b0 : Nat} {K : Ra} (h : RaIn w b0 K) (hb : Below w.heap.size w w') : RaIn w' b0 K := ⟨h.l0.later hb⟩

set_option maxHeartbeats 4000000 in
theorem szRA (K : Ra) (v0 : Value) (left : Int) (w : World) (h0 : 0 ≤ left) (h1 : left ≤ 1048576) (h : RaAt w v0 K) :
    Calls Try.prog 94 #[.agg #[.int .i64 K.ix, v0], .int .i64 left] w fun e w' => (∃ r : Int, e = .returned (.int .i64 r) ∧ szP K.small left r) ∧ Below w.heap.size w w' := by
  have HH : Hid (RaAt w v0 K) := h
  clear h
  obtain ⟨wa, hwa⟩ : ∃ wa, wa = w.alloc (.cells #[.int .i64 K.ix, v0] 147) := ⟨_, rfl⟩
  have HBa : Hid (Below w.heap.size w wa) := by show Below _ _ _; rw [hwa]; exact blw_alloc (Below.refl _ _) _
  have HXa : Hid (Box2 wa w.heap.size (.int .i64 K.ix) (v0)) := by show Box2 _ _ _ _ ; rw [hwa]; exact Box2.new' w _ _ _ _ rfl
  go_enter Try.func94, Try.ntmps94
  go_upto_region 1 with fail
  rw [← hwa]
  clear hwa
  obtain ⟨yz, y0, y1⟩ := HXa.out
  go_wp2_with fail
  refine (szNus v0 K.frs left wa (by omega) (by omega) (HH.out.later HBa.out).l0).mono ?_
  rintro e wb ⟨⟨r0, rfl, hr⟩, hb⟩
  have HR0 : Hid (szP ((K.frs.length : Int) ≤ left) left r0) := hr
  have q0 : -1 ≤ r0 := hr.1
  have q0' : r0 ≤ left := hr.2.1
  have HBb : Hid (Below w.heap.size w wb) := blw_trans HBa.out hb
  have HXb : Hid (Box2 wb w.heap.size (.int .i64 K.ix) (v0)) := HXa.out.later hb
  clear hr hb yz y0 y1 HXa HBa
  by_cases c0 : r0 < 0
  · go_wp2
    go_ret
    exact ⟨⟨_, rfl, by unfold szP; exact ⟨by omega, by omega, by omega⟩⟩, HBb.out⟩
  go_wp2
  go_ret
  refine ⟨⟨_, rfl, ?_⟩, HBb.out⟩
  have k0 := HR0.out.2.2 (by omega)
  unfold szP
  exact ⟨by omega, by omega, fun _ => by show _ ≤ _; omega⟩

set_option maxHeartbeats 8000000 in
theorem toRA (K : Ra) (v0 : Value) (w : World) (hs : K.small) (h : RaAt w v0 K) :
    Calls Try.prog 96 #[.agg #[.int .i64 K.ix, v0]] w fun e w' => (∃ b0, e = .returned (.agg #[.int .i64 K.ix, .slice (some ⟨b0, 0, none⟩) K.frs.length K.frs.length]) ∧ RaIn w' b0 K ∧ w.heap.size ≤ b0) ∧ Below w.heap.size w w' := by
  have HH : Hid (RaAt w v0 K ∧ K.small) := ⟨h, hs⟩
  clear h hs
  obtain ⟨wa, hwa⟩ : ∃ wa, wa = ((w.alloc (.cells #[.int .i64 K.ix, v0] 147)).alloc (.cells #[.int .i64 0, .slice none 0 0] 122)).alloc (.cells #[.int .i64 K.ix, .slice none 0 0] 122) := ⟨_, rfl⟩
  have HBa : Hid (Below w.heap.size w wa) := by show Below _ _ _; rw [hwa]; exact blw_alloc (blw_alloc (blw_alloc (Below.refl _ _) _) _) _
  have HXa : Hid (Box2 wa w.heap.size (.int .i64 K.ix) (v0)) := by show Box2 _ _ _ _ ; rw [hwa]; exact ((Box2.new' w _ _ _ _ rfl).past _).past _
  have HOa : Hid (OwnBlk wa (w.heap.size + 2) 122 2) := by show OwnBlk _ _ _ _; rw [hwa]; exact OwnBlk.alloc_at2 _ _ _ _ _ rfl (by simp)
  have HRa : Hid (OwnBlk wa (w.heap.size + 1) 122 2) := by show OwnBlk _ _ _ _; rw [hwa]; exact (OwnBlk.alloc_at2 _ _ _ _ _ rfl (by simp)).past _
  have HCa : Hid (wa.cell? ⟨w.heap.size + 2, 0, none⟩ = some (.int .i64 K.ix)) := by show _ = _; rw [hwa]; exact World.cell?_alloc_at _ _ _ _ (by simp)
  have HZa : Hid (w.heap.size + 3 ≤ wa.heap.size) := by show _ ≤ _; rw [hwa]; simp
  go_enter Try.func96, Try.ntmps96
  go_upto_region 3 with fail
  rw [← hwa]
  clear hwa
  obtain ⟨yz, y0, y1⟩ := HXa.out
  go_wp2_with fail
  refine (toNus v0 K.frs wa HH.out.2 (HH.out.1.later HBa.out).l0).mono ?_
  rintro e wb ⟨rfl, hb, hi⟩
  obtain ⟨p0, hp⟩ : ∃ p0, p0 = wa.heap.size := ⟨_, rfl⟩
  rw [← hp] at hi ⊢
  have HP0 : Hid (w.heap.size + 3 ≤ p0) := by show _ ≤ _; rw [hp]; exact HZa.out
  have HIb : Hid (NusIn wb p0 K.frs) := hi
  have HBb : Hid (Below w.heap.size w wb) := blw_trans HBa.out hb
  have HXb : Hid (Box2 wb w.heap.size (.int .i64 K.ix) (v0)) := HXa.out.later hb
  have HOb : Hid (OwnBlk wb (w.heap.size + 2) 122 2) := HOa.out.later hb
  have HRb : Hid (OwnBlk wb (w.heap.size + 1) 122 2) := HRa.out.later hb
  have HCb : Hid (wb.cell? ⟨w.heap.size + 2, 0, none⟩ = some (.int .i64 K.ix)) := (hb.cell (p := ⟨w.heap.size + 2, 0, none⟩) HOa.out.lt).trans HCa.out
  have HZb : Hid (w.heap.size + 3 ≤ wb.heap.size) := Nat.le_trans HZa.out hb.size
  clear hi hb hp yz y0 y1 HXa HBa HOa HRa HCa HZa
  have hfz := HOb.out.frozen
  have hz := HOb.out.lt
  obtain ⟨z, ez⟩ := HOb.out.cell 1 (by omega)
  obtain ⟨wc, hw⟩ : ∃ wc, wc = wb.setCell ⟨w.heap.size + 2, 1, none⟩ (.slice (some ⟨p0, 0, none⟩) K.frs.length K.frs.length) := ⟨_, rfl⟩
  have HBc : Hid (Below w.heap.size w wc) := by show Below _ _ _; rw [hw]; exact HBb.out.setCell (p := ⟨w.heap.size + 2, 1, none⟩) (by show w.heap.size ≤ w.heap.size + 2; omega) _
  have HXc : Hid (Box2 wc w.heap.size (.int .i64 K.ix) (v0)) := by
    show Box2 _ _ _ _ 
    rw [hw]
    obtain ⟨yz, y0, y1⟩ := HXb.out
    exact ⟨by rw [sc_size]; exact yz, (sc_ne _ _ _ _ _ _ (by omega)).trans y0, (sc_ne _ _ _ _ _ _ (by omega)).trans y1⟩
  have HOc : Hid (OwnBlk wc (w.heap.size + 2) 122 2) := by show OwnBlk _ _ _ _; rw [hw]; exact HOb.out.setCell 1 _
  have HRc : Hid (OwnBlk wc (w.heap.size + 1) 122 2) := by show OwnBlk _ _ _ _; rw [hw]; exact HRb.out.sc_other (by omega) _ _
  have HCc : Hid (wc.cell? ⟨w.heap.size + 2, 0, none⟩ = some (.int .i64 K.ix) ∧ wc.cell? ⟨w.heap.size + 2, 1, none⟩ = some (.slice (some ⟨p0, 0, none⟩) K.frs.length K.frs.length)) := by
    show _ ∧ _
    rw [hw]
    exact ⟨(sc_ne _ _ _ _ _ _ (by omega)).trans HCb.out, sc_eq HOb.out 1 (by omega) _⟩
  have HIc : Hid (NusIn wc p0 K.frs) := by
    show NusIn _ _ _
    rw [hw]
    exact HIb.out.sc (by have := HP0.out; omega) _ _
  have HZc : Hid (w.heap.size + 3 ≤ wc.heap.size) := by show _ ≤ _; rw [hw, sc_size]; exact HZb.out
  go_upto_region 4 with fail
  rw [← hw]
  clear hw hfz hz ez HBb HXb HOb HRb HCb HIb HZb
  have d0 := HCc.out.1
  have d1 := HCc.out.2
  have dz := HOc.out.lt
  have hfz := HRc.out.frozen
  have hz := HRc.out.lt
  obtain ⟨z0, e0⟩ := HRc.out.cell 0 (by omega)
  obtain ⟨z1, e1⟩ := HRc.out.cell 1 (by omega)
  go_wp2
  have p := fun i hi => puts_at 0 [.int .i64 K.ix, .slice (some ⟨p0, 0, none⟩) K.frs.length K.frs.length] wc 0 HRc.out (by simp) i hi
  have t0 := p 0 (by simp)
  have t1 := p 1 (by simp)
  have HPP : Hid (Below w.heap.size w (puts wc (w.heap.size + 1) 0 0 [.int .i64 K.ix, .slice (some ⟨p0, 0, none⟩) K.frs.length K.frs.length])) := puts_below (a := w) _ (by omega) _ _ _ HBc.out
  have hsc : ∀ (W : World) (j : Nat) (v : Value), (NusIn W p0 K.frs) → (NusIn (W.setCell ⟨w.heap.size + 1, j, none⟩ v) p0 K.frs) := fun W j v hh => hh.sc (by have := HP0.out; omega) _ _
  simp only [puts, Nat.add_zero, Nat.zero_add, List.getElem?_cons_zero, List.getElem?_cons_succ] at t0 t1
  have HQ := hsc _ 1 (.slice (some ⟨p0, 0, none⟩) K.frs.length K.frs.length) (hsc _ 0 (.int .i64 K.ix) HIc.out)
  refine bodyPost_ret (v := .agg #[.int .i64 K.ix, .slice (some ⟨p0, 0, none⟩) K.frs.length K.frs.length]) (by simp [results, Try.results96, go_sem, t0, t1]) rfl ⟨⟨p0, rfl, ⟨HQ⟩, by have := HP0.out; omega⟩, ?_⟩
  exact HPP.out

set_option maxHeartbeats 4000000 in
theorem eqRA (K : Ra) (b0 q0 : Nat) (w : World) (h : RaIn w b0 K) (h' : RaIn w q0 K) :
    Calls Try.prog 101 #[.agg #[.int .i64 K.ix, .slice (some ⟨b0, 0, none⟩) K.frs.length K.frs.length], .agg #[.int .i64 K.ix, .slice (some ⟨q0, 0, none⟩) K.frs.length K.frs.length]] w fun e w' => e = .returned (.bool true) ∧ Below w.heap.size w w' := by
  have HH : Hid (RaIn w b0 K ∧ RaIn w q0 K) := ⟨h, h'⟩
  clear h h'
  obtain ⟨wa, hwa⟩ : ∃ wa, wa = (w.alloc (.cells #[.int .i64 K.ix, .slice (some ⟨b0, 0, none⟩) K.frs.length K.frs.length] 122)).alloc (.cells #[.int .i64 K.ix, .slice (some ⟨q0, 0, none⟩) K.frs.length K.frs.length] 122) := ⟨_, rfl⟩
  have HBa : Hid (Below w.heap.size w wa) := by show Below _ _ _; rw [hwa]; exact blw_alloc (blw_alloc (Below.refl _ _) _) _
  have HXa : Hid (Box2 wa w.heap.size (.int .i64 K.ix) (.slice (some ⟨b0, 0, none⟩) K.frs.length K.frs.length) ∧ Box2 wa (w.heap.size + 1) (.int .i64 K.ix) (.slice (some ⟨q0, 0, none⟩) K.frs.length K.frs.length)) := by show _ ∧ _; rw [hwa]; exact ⟨(Box2.new' w _ _ _ _ rfl).past _, Box2.new' _ _ _ _ _ (by simp)⟩
  go_enter Try.func101, Try.ntmps101
  go_upto_region 1 with fail
  rw [← hwa]
  clear hwa
  obtain ⟨yz, y0, y1⟩ := HXa.out.1
  obtain ⟨xz, x0, x1⟩ := HXa.out.2
  go_wp2_with fail
  refine (eqNus b0 q0 K.frs wa (HH.out.1.later HBa.out).l0 (HH.out.2.later HBa.out).l0).mono ?_
  rintro e wb ⟨rfl, hb⟩
  have HBb : Hid (Below w.heap.size w wb) := blw_trans HBa.out hb
  have HXb : Hid (Box2 wb w.heap.size (.int .i64 K.ix) (.slice (some ⟨b0, 0, none⟩) K.frs.length K.frs.length) ∧ Box2 wb (w.heap.size + 1) (.int .i64 K.ix) (.slice (some ⟨q0, 0, none⟩) K.frs.length K.frs.length)) := ⟨HXa.out.1.later hb, HXa.out.2.later hb⟩
  clear hb yz y0 y1 xz x0 x1 HXa HBa
  go_wp2
  go_ret
  exact ⟨rfl, HBb.out⟩

end Go.Proofs.Ytcefgacmagobnaa

namespace Go.Proofs.Ytcefgacmagobnaa
open Go.RowKit Go.Deep

def Ra.none : Ra := ⟨0, []⟩
theorem RaIn.scB {w : World} {b0 B : Nat} {K : Ra} (h : RaIn w b0 K) (h0 : B < b0) (j : Nat) (v : Value) : RaIn (w.setCell ⟨B, j, none⟩ v) b0 K := ⟨h.l0.sc h0 j v⟩
theorem putsB_Ra {b0 B : Nat} {K : Ra} (h0 : B < b0) (o : Nat) : ∀ (vs : List Value) (w : World) (j : Nat), RaIn w b0 K → RaIn (puts w B o j vs) b0 K
  | [], _, _, h => h
  | v :: vs, _, j, h => putsB_Ra h0 o vs _ (j + 1) (h.scB h0 (o + j) v)
theorem RaIn.putsB {w : World} {b0 B : Nat} {K : Ra} (h : RaIn w b0 K) (h0 : B < b0) (o : Nat) (vs : List Value) : RaIn (puts w B o 0 vs) b0 K := putsB_Ra h0 o vs w 0 h
theorem Try.underRas : Try.prog.underlying 50 = some (.slice 122) := by kernel_rfl

/-- One of 2 cells that was handed in. -/
def RaC (w : World) (b o : Nat) (r : Ra) : Prop :=
  ∃ v0, w.cell? ⟨b, o, none⟩ = some (.int .i64 r.ix) ∧ w.cell? ⟨b, o + 1, none⟩ = some (v0) ∧ RaAt w v0 r

theorem RaC.later {w w' : World} {b o : Nat} {r : Ra} (h : RaC w b o r) (hb : Below w.heap.size w w') (hlt : b < w.heap.size) : RaC w' b o r := by
  obtain ⟨v0, c0, c1, hn⟩ := h
  have q : ∀ j, w'.cell? ⟨b, j, none⟩ = w.cell? ⟨b, j, none⟩ := fun j => hb.cell (p := ⟨b, j, none⟩) hlt
  exact ⟨v0, (q _).trans c0, (q _).trans c1, hn.later hb⟩

def RasAt (w : World) (v : Value) (rs : List Ra) : Prop :=
  (∃ a cap, v = .slice a 0 cap ∧ rs = []) ∨ ∃ b off cap, v = .slice (some ⟨b, off, none⟩) rs.length cap ∧ b < w.heap.size ∧ rs.length ≤ maxLen ∧ ∀ i, i < rs.length → RaC w b (off + i * 2) (rs.getD i Ra.none)

theorem RasAt.later {w w' : World} {v : Value} {rs : List Ra} (h : RasAt w v rs) (hb : Below w.heap.size w w') : RasAt w' v rs := by
  rcases h with h | ⟨b, off, cap, rfl, h1, h2, h3⟩
  · exact Or.inl h
  · exact Or.inr ⟨b, off, cap, rfl, Nat.lt_of_lt_of_le h1 hb.size, h2, fun i hi => (h3 i hi).later hb h1⟩


/-- One in the block B of the call's own; its lists behind B. -/
def OwnRa (w : World) (B o : Nat) (r : Ra) : Prop :=
  ∃ b0, (B < b0) ∧ w.cell? ⟨B, o, none⟩ = some (.int .i64 r.ix) ∧ w.cell? ⟨B, o + 1, none⟩ = some (.slice (some ⟨b0, 0, none⟩) r.frs.length r.frs.length) ∧ RaIn w b0 r

theorem OwnRa.later {w w' : World} {b o : Nat} {r : Ra} (h : OwnRa w b o r) (hb : Below w.heap.size w w') (hlt : b < w.heap.size) : OwnRa w' b o r := by
  obtain ⟨b0, h0, c0, c1, hn⟩ := h
  have q : ∀ j, w'.cell? ⟨b, j, none⟩ = w.cell? ⟨b, j, none⟩ := fun j => hb.cell (p := ⟨b, j, none⟩) hlt
  exact ⟨b0, h0, (q _).trans c0, (q _).trans c1, hn.later hb⟩

structure RasIn (w : World) (B : Nat) (rs : List Ra) : Prop where
  lt : B < w.heap.size
  len : rs.length ≤ 1048576
  at_ : ∀ i, i < rs.length → OwnRa w B (i * 2) (rs.getD i Ra.none)
  own : OwnBlk w B 122 (rs.length * 2)

theorem RasIn.later {w w' : World} {B : Nat} {rs : List Ra} (h : RasIn w B rs) (hb : Below w.heap.size w w') : RasIn w' B rs :=
  ⟨Nat.lt_of_lt_of_le h.lt hb.size, h.len, fun i hi => (h.at_ i hi).later hb h.lt, h.own.later hb⟩

theorem OwnRa.puts {w : World} {B o : Nat} {r : Ra} (h : OwnRa w B o r) (o' : Nat) (vs : List Value) (ho : o + 2 ≤ o') : OwnRa (puts w B o' 0 vs) B o r := by
  obtain ⟨b0, h0, c0, c1, hn⟩ := h
  have c : ∀ j, j < o' → (Ytcefgacmagobnaa.puts w B o' 0 vs).cell? ⟨B, j, none⟩ = w.cell? ⟨B, j, none⟩ := fun j hj => puts_other B o' B j vs w 0 (by omega)
  exact ⟨b0, h0, (c _ (by omega)).trans c0, (c _ (by omega)).trans c1, hn.putsB h0 o' vs⟩

theorem OwnRa.sc {w : World} {B o p : Nat} {r : Ra} (h : OwnRa w B o r) (hp : p < B) (j : Nat) (v : Value) : OwnRa (w.setCell ⟨p, j, none⟩ v) B o r := by
  obtain ⟨b0, h0, c0, c1, hn⟩ := h
  have c : ∀ q, (w.setCell ⟨p, j, none⟩ v).cell? ⟨B, q, none⟩ = w.cell? ⟨B, q, none⟩ := fun q => sc_ne _ _ _ _ _ _ (by omega)
  have h0 := (show p < b0 by omega)
  exact ⟨b0, by omega, (c _).trans c0, (c _).trans c1, hn.putsB h0 j [v]⟩

theorem RasIn.sc {w : World} {B p : Nat} {rs : List Ra} (h : RasIn w B rs) (hp : p < B) (j : Nat) (v : Value) : RasIn (w.setCell ⟨p, j, none⟩ v) B rs :=
  ⟨by rw [sc_size]; exact h.lt, h.len, fun i hi => (h.at_ i hi).sc hp j v, h.own.sc_other (by omega) _ _⟩

theorem own_put_ra {w : World} {B : Nat} {t : TypeId} {n : Nat} (hO : OwnBlk w B t n) (o : Nat) (ho : o + 2 ≤ n) (r : Ra) (b0 : Nat) (h0 : B < b0) (hn : RaIn w b0 r) :
    OwnRa (puts w B o 0 [.int .i64 r.ix, .slice (some ⟨b0, 0, none⟩) r.frs.length r.frs.length]) B o r := by
  have c := fun i hi => puts_at o [.int .i64 r.ix, .slice (some ⟨b0, 0, none⟩) r.frs.length r.frs.length] w 0 hO (by simp; omega) i hi
  exact ⟨b0, h0, c 0 (by simp), c 1 (by simp), hn.putsB h0 o _⟩

theorem Try.info122 : (Try.prog.info? 122).map (fun i => (i.zero, i.size, i.bytes)) = some (some (.agg #[.int .i64 0, .slice none 0 0]), 2, 32) := by kernel_rfl

theorem make_ra (n : Nat) (h : n ≤ 1048576) : ∃ cs : Array Value, cs.size = n * 2 ∧ ∀ W : World,
    (Instr.makeSlice 50 (.int .i64 (n : Int)) (.int .i64 (n : Int))).run Try.prog W = .ok (.slice (some ⟨W.heap.size, 0, none⟩) n n) (W.alloc (.cells cs 122)) := by
  obtain ⟨i, hi, hzz⟩ := Option.map_eq_some_iff.1 Try.info122
  simp only [Prod.mk.injEq] at hzz
  obtain ⟨hz, hs, hb⟩ := hzz
  refine ⟨madeCells (Value.cells (.agg #[.int .i64 0, .slice none 0 0])) (n * 2), size_madeCells _ _, fun W => ?_⟩
  have hr := run_make (P := Try.prog) W 50 122 i _ Try.underRas hi hz .i64 .i64 n n (by omega) (Int.le_refl _) (by rw [hb]; omega) (by omega)
  simp only [Int.toNat_natCast, hs] at hr
  exact hr

set_option maxHeartbeats 1000000 in
theorem toRas_row (b off cap : Nat) (rs : List Ra) (w : World) (hl : rs.length ≤ 1048576) (hsm : ∀ r ∈ rs, r.small) (hb : b < w.heap.size)
    (hc : ∀ i, i < rs.length → RaC w b (off + i * 2) (rs.getD i Ra.none)) :
    Calls Try.prog 80 #[.slice (some ⟨b, off, none⟩) rs.length cap] w fun e w' => e = .returned (.slice (some ⟨w.heap.size, 0, none⟩) rs.length rs.length) ∧ Below w.heap.size w w' ∧ OwnBlk w' w.heap.size 122 (rs.length * 2) ∧
      ∀ i, i < rs.length → OwnRa w' w.heap.size (i * 2) (rs.getD i Ra.none) := by
  obtain ⟨cs, hcs, hmk⟩ := make_ra rs.length hl
  have HC : Hid (∀ i, i < rs.length → RaC w b (off + i * 2) (rs.getD i Ra.none) ∧ (rs.getD i Ra.none).small) := by
    intro i hi
    refine ⟨hc i hi, ?_⟩
    have e : rs.getD i Ra.none = rs[i] := by simp [hi]
    rw [e]
    exact hsm _ (List.getElem_mem hi)
  clear hc hsm
  go_enter Try.func80, Try.ntmps80
  go_wp2
  go_loopw [4] (fun i wr => ∃ k : Nat, k ≤ rs.length ∧ i = .int .i64 k ∧ Below w.heap.size w wr ∧ OwnBlk wr w.heap.size 122 (rs.length * 2) ∧ ∀ i, i < k → OwnRa wr w.heap.size (i * 2) (rs.getD i Ra.none)) (fun i _ => rs.length - (intOf i).toNat)
  case atStart => exact ⟨0, Nat.zero_le _, rfl, blw_alloc (Below.refl _ _) _, OwnBlk.alloc w cs 122 _ hcs, fun i hi => absurd hi (Nat.not_lt_zero i)⟩
  case round =>
    obtain ⟨k, hk, rfl, hB, hO, hall⟩ := hrel
    have HA : Hid (∀ i, i < k → OwnRa wr w.heap.size (i * 2) (rs.getD i Ra.none)) := hall
    have HO : Hid (OwnBlk wr w.heap.size 122 (rs.length * 2)) := hO
    clear hall hmk hcs hO
    by_cases hlt : k < rs.length
    · have hf := (HC.out k hlt).1.later hB hb
      obtain ⟨r, hm⟩ : ∃ r, r = rs.getD k Ra.none := ⟨_, rfl⟩
      rw [← hm] at hf
      obtain ⟨v0, c0, c1, hn⟩ := hf
      have HX : Hid ((RaAt wr v0 r) ∧ r = rs.getD k Ra.none ∧ r.small) := ⟨hn, hm, by rw [hm]; exact (HC.out k hlt).2⟩
      clear hm hn
      go_wp2_with fail
      refine (toRA r v0 wr HX.out.2.2 HX.out.1).mono ?_
      rintro e w2 ⟨⟨b0, rfl, hii, hl0⟩, hb2⟩
      have hB2 := blw_trans hB hb2
      have hO2 := HO.out.later hb2
      have HP : Hid (∀ v, v = [.int .i64 r.ix, .slice (some ⟨b0, 0, none⟩) r.frs.length r.frs.length] →
          Below w.heap.size w (puts w2 w.heap.size (k * 2) 0 v) ∧ OwnBlk (puts w2 w.heap.size (k * 2) 0 v) w.heap.size 122 (rs.length * 2) ∧ ∀ i, i < k + 1 → OwnRa (puts w2 w.heap.size (k * 2) 0 v) w.heap.size (i * 2) (rs.getD i Ra.none)) := by
        intro v hv
        subst hv
        refine ⟨puts_below (a := w) _ (Nat.le_refl _) _ _ _ hB2, puts_own _ _ _ _ hO2, fun i hi => ?_⟩
        by_cases hik : i < k
        · exact ((HA.out i hik).later hb2 HO.out.lt).puts (k * 2) _ (by omega)
        · obtain rfl : i = k := by omega
          rw [← HX.out.2.1]
          exact own_put_ra hO2 (i * 2) (by omega) r b0 (Nat.lt_of_lt_of_le HO.out.lt hl0) hii
      clear c0 c1 HX hii hl0
      have hfz := hO2.frozen
      obtain ⟨v0, o0⟩ := hO2.cell (k * 2) (by omega)
      obtain ⟨v1, o1⟩ := hO2.cell (k * 2 + 1) (by omega)

      clear hO2 hB2 hb2
      go_wp2
      go_roundw
      case rel => exact ⟨k + 1, by omega, by go_num, (HP.out _ rfl).1, (HP.out _ rfl).2.1, (HP.out _ rfl).2.2⟩
      case measure => simp [intOf]; omega
    · obtain rfl : k = rs.length := by omega
      go_wp2
      go_ret
      exact ⟨rfl, hB, HO.out, HA.out⟩

set_option maxHeartbeats 400000 in
theorem toRas_nil (a : Option Addr) (cap : Nat) (w : World) :
    Calls Try.prog 80 #[.slice a 0 cap] w fun e w' => e = .returned (.slice (some ⟨w.heap.size, 0, none⟩) 0 0) ∧ ∃ cs : Array Value, cs.size = 0 ∧ w' = w.alloc (.cells cs 122) := by
  obtain ⟨cs, hcs0, hmk0⟩ := make_ra 0 (by omega)
  have hmk : ∀ W : World, (Instr.makeSlice 50 (.int .i64 0) (.int .i64 0)).run Try.prog W = .ok (.slice (some ⟨W.heap.size, 0, none⟩) 0 0) (W.alloc (.cells cs 122)) := hmk0
  clear hmk0
  go_enter Try.func80, Try.ntmps80
  go_wp2
  refine wp_loop_rounds 1 ?_
  rw [rounds_succ]
  go_wp2
  go_ret
  exact ⟨rfl, _, by omega, rfl⟩

theorem toRas (v : Value) (rs : List Ra) (w : World) (hl : rs.length ≤ 1048576) (hsm : ∀ r ∈ rs, r.small) (h : RasAt w v rs) :
    Calls Try.prog 80 #[v] w fun e w' => e = .returned (.slice (some ⟨w.heap.size, 0, none⟩) rs.length rs.length) ∧ Below w.heap.size w w' ∧ RasIn w' w.heap.size rs := by
  rcases h with ⟨a, cap, rfl, rfl⟩ | ⟨b, off, cap, rfl, hb, _, hc⟩
  · refine (toRas_nil a cap w).mono ?_
    rintro e w' ⟨rfl, cs, hcs, rfl⟩
    exact ⟨rfl, blw_alloc (Below.refl _ _) _, ⟨by simp, by simp, fun i hi => absurd hi (Nat.not_lt_zero i), OwnBlk.alloc w cs _ _ (by simpa using hcs)⟩⟩
  · refine (toRas_row b off cap rs w hl hsm hb hc).mono ?_
    rintro e w' ⟨rfl, h1, h2, h3⟩
    exact ⟨rfl, h1, h2.lt, hl, h3, h2⟩

set_option maxHeartbeats 2000000 in
theorem eqRas (B B' : Nat) (rs : List Ra) (w : World) (h : RasIn w B rs) (h' : RasIn w B' rs) :
    Calls Try.prog 92 #[.slice (some ⟨B, 0, none⟩) rs.length rs.length, .slice (some ⟨B', 0, none⟩) rs.length rs.length] w fun e w' => e = .returned (.bool true) ∧ Below w.heap.size w w' := by
  have hl := h.len
  have HH : Hid (RasIn w B rs ∧ RasIn w B' rs) := ⟨h, h'⟩
  clear h h'
  go_enter Try.func92, Try.ntmps92
  go_wp2
  go_loopw [5] (fun i wr => ∃ k : Nat, k ≤ rs.length ∧ i = .int .i64 k ∧ Below w.heap.size w wr) (fun i _ => rs.length - (intOf i).toNat)
  case atStart => exact ⟨0, Nat.zero_le _, rfl, Below.refl _ _⟩
  case round =>
    obtain ⟨k, hk, rfl, hW⟩ := hrel
    by_cases hlt : k < rs.length
    · have q := (HH.out.1.later hW).at_ k hlt
      have q' := (HH.out.2.later hW).at_ k hlt
      obtain ⟨r, hm⟩ : ∃ r, r = rs.getD k Ra.none := ⟨_, rfl⟩
      rw [← hm] at q q'
      obtain ⟨b0, _, c0, c1, hn⟩ := q
      obtain ⟨b0', _, d0, d1, hn'⟩ := q'
      have HX : Hid (∀ W, Below wr.heap.size wr W → Calls Try.prog 101 #[.agg #[.int .i64 r.ix, .slice (some ⟨b0, 0, none⟩) r.frs.length r.frs.length], .agg #[.int .i64 r.ix, .slice (some ⟨b0', 0, none⟩) r.frs.length r.frs.length]] W fun e w' => e = .returned (.bool true) ∧ Below W.heap.size W w') := fun W hW => eqRA r b0 b0' W (hn.later hW) (hn'.later hW)
      clear hm hn hn'
      go_wp2_with fail
      go_region_with (go_at_call 101; refine (HX.out _ ?_).mono ?_; (repeat (first | exact Below.refl _ _ | refine Below.drew ?_)); rintro e w2 ⟨rfl, hb2⟩)
      all_goals
        go_wp2
        go_roundw
        case rel =>
          refine ⟨k + 1, by omega, by go_num, ?_⟩
          repeat (first | exact blw_trans hW hb2 | exact blw_trans hW.drew hb2 | exact blw_trans hW.drew.drew hb2 | refine Below.drew ?_)
        case measure => simp [intOf]; omega
    · go_wp2
      go_ret
      exact ⟨rfl, hW⟩

theorem small_take_raR {rs : List Ra} {k : Nat} (h : ∀ r ∈ rs.take k, r.small) (hk : k < rs.length) (hs : (rs.getD k Ra.none).small) : ∀ r ∈ rs.take (k + 1), r.small := by
  have e : rs.getD k Ra.none = rs[k] := by simp [hk]
  rw [e] at hs
  intro r hr
  rw [List.take_succ_eq_append_getElem hk, List.mem_append, List.mem_singleton] at hr
  rcases hr with hr | rfl
  · exact h r hr
  · exact hs

set_option maxHeartbeats 1000000 in
theorem szRas_row (b off cap : Nat) (rs : List Ra) (left : Int) (w : World) (h0 : 0 ≤ left) (h1 : left ≤ 1048576) (hb : b < w.heap.size) (hl : rs.length ≤ maxLen)
    (hc : ∀ i, i < rs.length → RaC w b (off + i * 2) (rs.getD i Ra.none)) :
    Calls Try.prog 75 #[.slice (some ⟨b, off, none⟩) rs.length cap, .int .i64 left] w fun e w' => (∃ x : Int, e = .returned (.int .i64 x) ∧ szP ((rs.length : Int) ≤ left ∧ ∀ r ∈ rs, r.small) left x) ∧ Below w.heap.size w w' := by
  unfold maxLen at hl
  have HC : Hid (∀ i, i < rs.length → RaC w b (off + i * 2) (rs.getD i Ra.none)) := hc
  obtain ⟨P, hP⟩ : ∃ P : Prop, P = ((rs.length : Int) ≤ left ∧ ∀ r ∈ rs, r.small) := ⟨_, rfl⟩
  have HP : Hid (P = ((rs.length : Int) ≤ left ∧ ∀ r ∈ rs, r.small)) := hP
  rw [← hP]
  clear hc hP
  by_cases hneg : left < (rs.length : Int)
  · go_enter Try.func75, Try.ntmps75
    go_wp2
    go_ret
    exact ⟨⟨_, rfl, by unfold szP; refine ⟨by omega, by omega, fun h => by omega⟩⟩, Below.refl _ _⟩
  · go_enter Try.func75, Try.ntmps75
    go_wp2
    go_loopw [1, 5] (fun l i wr => ∃ (k : Nat) (x : Int), k ≤ rs.length ∧ i = .int .i64 k ∧ l = .int .i64 x ∧ 0 ≤ x ∧ x ≤ left ∧ (∀ r ∈ rs.take k, r.small) ∧ Below w.heap.size w wr) (fun _ i _ => rs.length - (intOf i).toNat)
    case atStart => exact ⟨0, _, Nat.zero_le _, rfl, rfl, by omega, by omega, fun r hr => by simp at hr, Below.refl _ _⟩
    case round =>
      obtain ⟨k, x, hk, rfl, rfl, x0, x1, hsm, hB⟩ := hrel
      have HS : Hid (∀ r ∈ rs.take k, r.small) := hsm
      clear hsm
      by_cases hlt : k < rs.length
      · have hf := (HC.out k hlt).later hB hb
        obtain ⟨r, hm⟩ : ∃ r, r = rs.getD k Ra.none := ⟨_, rfl⟩
        rw [← hm] at hf
        obtain ⟨v0, c0, c1, hn⟩ := hf
        have HM : Hid (r = rs.getD k Ra.none ∧ (RaAt wr v0 r)) := ⟨hm, hn⟩
        clear hm hn
        go_wp2_with fail
        refine (szRA r v0 x wr x0 (by omega) HM.out.2).mono ?_
        rintro e w2 ⟨⟨x', rfl, hx⟩, hb2⟩
        have HX : Hid (szP (r.small) x x') := hx
        have q1 := hx.1
        have q2 := hx.2.1
        have hB2 := blw_trans hB hb2
        clear hb2 c0 c1 hx
        by_cases c2 : x' < 0
        · go_wp2
          go_ret
          exact ⟨⟨_, rfl, by unfold szP; exact ⟨by omega, by omega, fun h => by omega⟩⟩, hB2⟩
        · have HN : Hid (∀ r ∈ rs.take (k + 1), r.small) := small_take_raR HS.out hlt (by rw [← HM.out.1]; exact HX.out.2.2 (by omega))
          go_wp2
          go_roundw
          case rel => exact ⟨k + 1, _, by omega, by go_num, rfl, by omega, by omega, HN.out, hB2⟩
          case measure => simp [intOf]; omega
      · have HQ : Hid P := by
          show P
          rw [HP.out]
          have := HS.out
          rw [List.take_of_length_le (by omega)] at this
          exact ⟨by omega, this⟩
        go_wp2
        go_ret
        exact ⟨⟨_, rfl, by unfold szP; exact ⟨by omega, by omega, fun _ => HQ.out⟩⟩, hB⟩

set_option maxHeartbeats 400000 in
theorem szRas_nil (a : Option Addr) (cap : Nat) (left : Int) (w : World) (h0 : 0 ≤ left) (h1 : left ≤ 1048576) :
    Calls Try.prog 75 #[.slice a 0 cap, .int .i64 left] w fun e w' => e = .returned (.int .i64 left) ∧ w = w' := by
  go_enter Try.func75, Try.ntmps75
  go_wp2
  refine wp_loop_rounds 1 ?_
  rw [rounds_succ]
  go_wp2
  go_ret
  exact ⟨Pl.ret_int (by omega), rfl⟩

theorem szRas (v : Value) (rs : List Ra) (left : Int) (w : World) (h0 : 0 ≤ left) (h1 : left ≤ 1048576) (h : RasAt w v rs) :
    Calls Try.prog 75 #[v, .int .i64 left] w fun e w' => (∃ x : Int, e = .returned (.int .i64 x) ∧ szP ((rs.length : Int) ≤ left ∧ ∀ r ∈ rs, r.small) left x) ∧ Below w.heap.size w w' := by
  rcases h with ⟨a, cap, rfl, rfl⟩ | ⟨b, off, cap, rfl, hb, hl, hc⟩
  · refine (szRas_nil a cap left w h0 h1).mono ?_
    rintro e w' ⟨rfl, rfl⟩
    exact ⟨⟨_, rfl, by unfold szP; exact ⟨by omega, by omega, fun _ => ⟨by simpa using h0, fun r hr => by simp at hr⟩⟩⟩, Below.refl _ _⟩
  · exact szRas_row b off cap rs left w h0 h1 hb hl hc


end Go.Proofs.Ytcefgacmagobnaa
