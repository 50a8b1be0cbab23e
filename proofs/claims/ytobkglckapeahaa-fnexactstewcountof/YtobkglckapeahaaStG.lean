/-
  Stewards: StewCountOf and StewMayEnd, by the specification; two counts alike.
-/
import Derived.Test.YtobkglckapeahaaStD
import Derived.Test.YtobkglckapeahaaStF
namespace Go.Proofs.Ytobkglckapeahaa
open Go.RowKit Go.Deep

def stewCount (K : SBk) (svc : ByteArray) : Cn := if sbOk K then countOf K svc else Cn.zero
def stewMayEnd (K : SBk) (svc : ByteArray) (num : Int) : Bool := sbOk K && mayEnd K svc num

set_option maxHeartbeats 8000000 in
theorem stewCountS (K : SBk) (a0 a1 a2 : Option Addr) (c0 c1 c2 : Nat) (svc : ByteArray) (w : World) (h : SBkV w a0 a1 a2 K) :
    Calls Try.prog 10 #[.agg #[.int .i64 K.now, .slice a0 K.svcs.length c0, .slice a1 K.cps.length c1, .slice a2 K.bts.length c2], .string svc] w fun e w' => e = .returned (.agg #[.int .i64 (stewCount K svc).live, .int .i64 (stewCount K svc).ready, .int .i64 (stewCount K svc).old, .int .i64 (stewCount K svc).failed, .int .i64 (stewCount K svc).ending]) ∧ Below w.heap.size w w' := by
  have HH : Hid (SBkV w a0 a1 a2 K) := h
  clear h
  obtain ⟨R, hR⟩ : ∃ R, R = stewCount K svc := ⟨_, rfl⟩
  have HR := hid hR
  rw [← hR]
  clear hR
  obtain ⟨wa, hwa⟩ : ∃ wa, wa = (w.alloc (.cells #[.int .i64 K.now, .slice a0 K.svcs.length c0, .slice a1 K.cps.length c1, .slice a2 K.bts.length c2] 33)).alloc (.cells #[.int .i64 0, .int .i64 0, .int .i64 0, .int .i64 0, .int .i64 0] 38) := ⟨_, rfl⟩
  have HB : Hid (Below w.heap.size w wa) := by show Below _ _ _; rw [hwa]; exact blw_alloc (blw_alloc (Below.refl _ _) _) _
  have HX : Hid (Box4 wa w.heap.size (.int .i64 K.now) (.slice a0 K.svcs.length c0) (.slice a1 K.cps.length c1) (.slice a2 K.bts.length c2)) := by show Box4 _ _ _ _ _ _; rw [hwa]; exact (Box4.new' w _ _ _ _ _ _ rfl).past _
  have HO : Hid (OwnBlk wa (w.heap.size + 1) 38 5) := by show OwnBlk _ _ _ _; rw [hwa]; exact OwnBlk.alloc_at2 _ _ _ _ _ rfl (by simp)
  go_enter Try.func10, Try.ntmps10
  go_upto_region 1 with fail
  rw [← hwa]
  clear hwa
  obtain ⟨yz, y0, y1, y2, y3⟩ := HX.out
  go_wp2_with fail
  refine (stewValidS K a0 a1 a2 c0 c1 c2 wa (HH.out.later HB.out)).mono ?_
  rintro e w1 ⟨rfl, hb⟩
  have HB1 := hid (blw_trans HB.out hb)
  have HX1 := hid (HX.out.later hb)
  have HO1 := hid (HO.out.later hb)
  clear yz y0 y1 y2 y3 hb HB HX HO
  obtain ⟨yz, y0, y1, y2, y3⟩ := HX1.out
  cases hok : sbOk K
  · have HE : Hid (R = Cn.zero) := by show R = _; rw [HR.out, stewCount, hok]; rfl
    have hfz := HO1.out.frozen
    have hz := HO1.out.lt
    obtain ⟨z0, e0⟩ := HO1.out.cell 0 (by omega)
    obtain ⟨z1, e1⟩ := HO1.out.cell 1 (by omega)
    obtain ⟨z2, e2⟩ := HO1.out.cell 2 (by omega)
    obtain ⟨z3, e3⟩ := HO1.out.cell 3 (by omega)
    obtain ⟨z4, e4⟩ := HO1.out.cell 4 (by omega)
    clear HR hok
    go_wp2
    have p := fun i hi => puts_at 0 [.int .i64 0, .int .i64 0, .int .i64 0, .int .i64 0, .int .i64 0] w1 0 HO1.out (by simp) i hi
    have t0 := p 0 (by simp)
    have t1 := p 1 (by simp)
    have t2 := p 2 (by simp)
    have t3 := p 3 (by simp)
    have t4 := p 4 (by simp)
    simp only [puts, Nat.add_zero, Nat.zero_add, Nat.reduceAdd, List.getElem?_cons_zero, List.getElem?_cons_succ] at t0 t1 t2 t3 t4
    refine bodyPost_ret (v := .agg #[.int .i64 0, .int .i64 0, .int .i64 0, .int .i64 0, .int .i64 0]) (by simp [results, Try.results10, go_sem, t0, t1, t2, t3, t4]) rfl ⟨by rw [HE.out]; rfl, ?_⟩
    exact puts_below (a := w) 0 (B := w.heap.size + 1) (by omega) [.int .i64 0, .int .i64 0, .int .i64 0, .int .i64 0, .int .i64 0] w1 0 HB1.out
  · have HE : Hid (R = countOf K svc) := by show R = _; rw [HR.out, stewCount, hok]; rfl
    have HS := hid (sane_ok hok)
    clear HR hok
    go_wp2_with fail
    refine (l13CountS K a0 a1 a2 c0 c1 c2 svc w1 (HH.out.later HB1.out) HS.out.cps).mono ?_
    rintro e w2 ⟨rfl, hb⟩
    obtain ⟨n, hn⟩ : ∃ n, n = countOf K svc := ⟨_, rfl⟩
    rw [← hn] at HE ⊢
    have HB2 := hid (blw_trans HB1.out hb)
    have HO2 := hid (HO1.out.later hb)
    clear yz y0 y1 y2 y3 hb HB1 HX1 HO1 hn
    have hfz := HO2.out.frozen
    have hz := HO2.out.lt
    obtain ⟨z0, e0⟩ := HO2.out.cell 0 (by omega)
    obtain ⟨z1, e1⟩ := HO2.out.cell 1 (by omega)
    obtain ⟨z2, e2⟩ := HO2.out.cell 2 (by omega)
    obtain ⟨z3, e3⟩ := HO2.out.cell 3 (by omega)
    obtain ⟨z4, e4⟩ := HO2.out.cell 4 (by omega)
    go_wp2
    have p := fun i hi => puts_at 0 [.int .i64 n.live, .int .i64 n.ready, .int .i64 n.old, .int .i64 n.failed, .int .i64 n.ending] w2 0 HO2.out (by simp) i hi
    have t0 := p 0 (by simp)
    have t1 := p 1 (by simp)
    have t2 := p 2 (by simp)
    have t3 := p 3 (by simp)
    have t4 := p 4 (by simp)
    simp only [puts, Nat.add_zero, Nat.zero_add, Nat.reduceAdd, List.getElem?_cons_zero, List.getElem?_cons_succ] at t0 t1 t2 t3 t4
    refine bodyPost_ret (v := .agg #[.int .i64 n.live, .int .i64 n.ready, .int .i64 n.old, .int .i64 n.failed, .int .i64 n.ending]) (by simp [results, Try.results10, go_sem, t0, t1, t2, t3, t4]) rfl ⟨by rw [HE.out], ?_⟩
    exact puts_below (a := w) 0 (B := w.heap.size + 1) (by omega) [.int .i64 n.live, .int .i64 n.ready, .int .i64 n.old, .int .i64 n.failed, .int .i64 n.ending] w2 0 HB2.out

set_option maxHeartbeats 4000000 in
theorem eqCount (n : Cn) (w : World) :
    Calls Try.prog 12 #[.agg #[.int .i64 n.live, .int .i64 n.ready, .int .i64 n.old, .int .i64 n.failed, .int .i64 n.ending], .agg #[.int .i64 n.live, .int .i64 n.ready, .int .i64 n.old, .int .i64 n.failed, .int .i64 n.ending]] w fun e w' => e = .returned (.bool true) ∧ Below w.heap.size w w' := by
  go_enter Try.func12, Try.ntmps12
  go_wp2
  go_ret
  exact ⟨rfl, blw_alloc (blw_alloc (Below.refl _ _) _) _⟩

end Go.Proofs.Ytobkglckapeahaa
