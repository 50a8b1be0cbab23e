/-
  Stewards: StewCountOf and StewMayEnd, by the specification; two counts alike.
-/
import Derived.Test.YteeiabkgildbdaaStD
import Derived.Test.YteeiabkgildbdaaStF
namespace Go.Proofs.Yteeiabkgildbdaa
open Go.RowKit Go.Deep

def stewCount (K : SBk) (svc : ByteArray) : Cn := if sbOk K then countOf K svc else Cn.zero
def stewMayEnd (K : SBk) (svc : ByteArray) (num : Int) : Bool := sbOk K && mayEnd K svc num

set_option maxHeartbeats 8000000 in
theorem stewMayEndS (K : SBk) (a0 a1 a2 : Option Addr) (c0 c1 c2 : Nat) (svc : ByteArray) (num : Int) (w : World) (h : SBkV w a0 a1 a2 K) :
    Calls Try.prog 5 #[.agg #[.int .i64 K.now, .slice a0 K.svcs.length c0, .slice a1 K.cps.length c1, .slice a2 K.bts.length c2], .string svc, .int .i64 num] w fun e w' => e = .returned (.bool (stewMayEnd K svc num)) ∧ Below w.heap.size w w' := by
  have HH : Hid (SBkV w a0 a1 a2 K) := h
  clear h
  obtain ⟨R, hR⟩ : ∃ R, R = stewMayEnd K svc num := ⟨_, rfl⟩
  have HR := hid hR
  rw [← hR]
  clear hR
  obtain ⟨wa, hwa⟩ : ∃ wa, wa = w.alloc (.cells #[.int .i64 K.now, .slice a0 K.svcs.length c0, .slice a1 K.cps.length c1, .slice a2 K.bts.length c2] 33) := ⟨_, rfl⟩
  have HB : Hid (Below w.heap.size w wa) := by show Below _ _ _; rw [hwa]; exact blw_alloc (Below.refl _ _) _
  have HX : Hid (Box4 wa w.heap.size (.int .i64 K.now) (.slice a0 K.svcs.length c0) (.slice a1 K.cps.length c1) (.slice a2 K.bts.length c2)) := by show Box4 _ _ _ _ _ _; rw [hwa]; exact Box4.new' w _ _ _ _ _ _ rfl
  go_enter Try.func5, Try.ntmps5
  go_upto_region 1 with fail
  rw [← hwa]
  clear hwa
  obtain ⟨yz, y0, y1, y2, y3⟩ := HX.out
  go_wp2_with fail
  refine (stewValidS K a0 a1 a2 c0 c1 c2 wa (HH.out.later HB.out)).mono ?_
  rintro e w1 ⟨rfl, hb⟩
  have HB1 := hid (blw_trans HB.out hb)
  have HX1 := hid (HX.out.later hb)
  clear yz y0 y1 y2 y3 hb HB HX
  obtain ⟨yz, y0, y1, y2, y3⟩ := HX1.out
  cases hok : sbOk K
  · have HE : Hid (R = false) := by show R = _; rw [HR.out, stewMayEnd, hok]; rfl
    clear HR hok
    go_wp2
    go_ret
    exact ⟨Pl.ret_bool HE.out.symm, HB1.out⟩
  · have HE : Hid (R = mayEnd K svc num) := by show R = _; rw [HR.out, stewMayEnd, hok]; rfl
    have HS := hid (sane_ok hok)
    clear HR hok
    go_wp2_with fail
    refine (l14MayEndS K a0 a1 a2 c0 c1 c2 svc num w1 (HH.out.later HB1.out) HS.out).mono ?_
    rintro e w2 ⟨rfl, hb⟩
    go_wp2
    go_ret
    exact ⟨Pl.ret_bool HE.out.symm, blw_trans HB1.out hb⟩

end Go.Proofs.Yteeiabkgildbdaa
