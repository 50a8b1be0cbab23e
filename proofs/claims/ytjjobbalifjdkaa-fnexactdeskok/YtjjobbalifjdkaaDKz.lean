/-
  The size of a desk.
-/
import Derived.Test.YtjjobbalifjdkaaDKh
namespace Go.Proofs.Ytjjobbalifjdkaa
open Go.RowKit Go.Deep

set_option maxRecDepth 8000 in
set_option maxHeartbeats 8000000 in
theorem szDesk (ds : List Dt) (cs : List Value) (left : Int) (w : World) (h0 : 0 ≤ left) (h1 : left ≤ 1048576) (h : Raw w shDesk ds cs) (hz : szd ds) :
    Calls Try.prog 4 #[.agg cs.toArray, .int .i64 left] w fun e w' => e = .returned (.int .i64 (if ((wtL ds : Nat) : Int) ≤ left then left - ((wtL ds : Nat) : Int) else -1)) ∧ Below w.heap.size w w' := by
  obtain ⟨a0, a1, a2, a3, rfl, hcs⟩ := segRawDesk h
  have HCS := uh hcs
  simp only [szd] at hz
  have Z0 := uh hz.1
  have Z1 := uh hz.2.1
  have Z2 := uh hz.2.2.1
  have Z3 := uh hz.2.2.2.1
  obtain ⟨R, hR⟩ : ∃ R : Int, R = if ((wtL (.s a0 :: .s a1 :: .s a2 :: .s a3 :: []) : Nat) : Int) ≤ left then left - ((wtL (.s a0 :: .s a1 :: .s a2 :: .s a3 :: []) : Nat) : Int) else -1 := ⟨_, rfl⟩
  rw [← hR]
  simp only [wtL] at hR
  have HRR := uh hR
  clear hR
  obtain ⟨wa, hwa⟩ : ∃ wa, wa = w.alloc (.cells cs.toArray 23) := ⟨_, rfl⟩
  have HB : Hid (Below w.heap.size w wa) := by show Below _ _ _; rw [hwa]; exact blw_alloc (Below.refl _ _) _
  have HX : Hid (LBox wa w.heap.size cs) := by show LBox _ _ _; rw [hwa]; exact LBox.new w cs.toArray _ _ rfl
  clear hcs hz h
  go_enter Try.func4, Try.ntmps4
  go_upto_region 1 with fail
  rw [← hwa]
  clear hwa
  have hbz := HX.out.lt
  have hbx := boxDesk  (by have := HX.out.at_; rw [HCS.out] at this; exact this)
  have gc := hbx.1
  clear hbx
  have hsz0 : a0.size ≤ 9223372036854775807 := Z0.out
  obtain ⟨m0, hm0⟩ : ∃ m0 : Int, m0 = left - (a0.size : Int) := ⟨_, rfl⟩
  have M0 := uh hm0
  have hmc0 : left - (a0.size : Int) = m0 := hm0.symm
  clear hm0
  by_cases hl0 : m0 < 0
  · have HE : Hid (-1 = R) := by show _ = _; have := M0.out; rw [HRR.out, if_neg (by omega)]
    go_wp2
    go_ret
    exact ⟨Pl.ret_int HE.out, HB.out⟩
  have hlo0 : 0 ≤ m0 := by omega
  have hhi0 : m0 ≤ 1048576 := by have := M0.out; omega
  have hbz := HX.out.lt
  have hbx := boxDesk  (by have := HX.out.at_; rw [HCS.out] at this; exact this)
  have gc := hbx.2.1
  clear hbx
  have hsz1 : a1.size ≤ 9223372036854775807 := Z1.out
  obtain ⟨m1, hm1⟩ : ∃ m1 : Int, m1 = m0 - (a1.size : Int) := ⟨_, rfl⟩
  have M1 := uh hm1
  have hmc1 : m0 - (a1.size : Int) = m1 := hm1.symm
  clear hm1
  by_cases hl1 : m1 < 0
  · have HE : Hid (-1 = R) := by show _ = _; have := M0.out; have := M1.out; rw [HRR.out, if_neg (by omega)]
    go_wp2
    go_ret
    exact ⟨Pl.ret_int HE.out, HB.out⟩
  have hlo1 : 0 ≤ m1 := by omega
  have hhi1 : m1 ≤ 1048576 := by have := M1.out; omega
  have hbz := HX.out.lt
  have hbx := boxDesk  (by have := HX.out.at_; rw [HCS.out] at this; exact this)
  have gc := hbx.2.2.1
  clear hbx
  have hsz2 : a2.size ≤ 9223372036854775807 := Z2.out
  obtain ⟨m2, hm2⟩ : ∃ m2 : Int, m2 = m1 - (a2.size : Int) := ⟨_, rfl⟩
  have M2 := uh hm2
  have hmc2 : m1 - (a2.size : Int) = m2 := hm2.symm
  clear hm2
  by_cases hl2 : m2 < 0
  · have HE : Hid (-1 = R) := by show _ = _; have := M0.out; have := M1.out; have := M2.out; rw [HRR.out, if_neg (by omega)]
    go_wp2
    go_ret
    exact ⟨Pl.ret_int HE.out, HB.out⟩
  have hlo2 : 0 ≤ m2 := by omega
  have hhi2 : m2 ≤ 1048576 := by have := M2.out; omega
  have hbz := HX.out.lt
  have hbx := boxDesk  (by have := HX.out.at_; rw [HCS.out] at this; exact this)
  have gc := hbx.2.2.2
  clear hbx
  have hsz3 : a3.size ≤ 9223372036854775807 := Z3.out
  obtain ⟨m3, hm3⟩ : ∃ m3 : Int, m3 = m2 - (a3.size : Int) := ⟨_, rfl⟩
  have M3 := uh hm3
  have hmc3 : m2 - (a3.size : Int) = m3 := hm3.symm
  clear hm3
  by_cases hl3 : m3 < 0
  · have HE : Hid (-1 = R) := by show _ = _; have := M0.out; have := M1.out; have := M2.out; have := M3.out; rw [HRR.out, if_neg (by omega)]
    go_wp2
    go_ret
    exact ⟨Pl.ret_int HE.out, HB.out⟩
  have hlo3 : 0 ≤ m3 := by omega
  have hhi3 : m3 ≤ 1048576 := by have := M3.out; omega
  have HE : Hid (m3 = R) := by show _ = _; have := M0.out; have := M1.out; have := M2.out; have := M3.out; rw [HRR.out, if_pos (by omega)]; omega
  go_wp2
  go_ret
  exact ⟨Pl.ret_int HE.out, HB.out⟩
end Go.Proofs.Ytjjobbalifjdkaa
