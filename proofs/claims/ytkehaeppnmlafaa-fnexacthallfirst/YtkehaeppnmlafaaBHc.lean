/-
  What marks books of the hall bear.
-/
import Derived.Test.YtkehaeppnmlafaaBHa
import Derived.Test.YtkehaeppnmlafaaBHb
namespace Go.Proofs.Ytkehaeppnmlafaa
open Go.RowKit Go.Deep

set_option maxRecDepth 8000 in
set_option maxHeartbeats 8000000 in
theorem heldHallBook (ds : List Dt) (cs : List Value) (k : Nat) (w : World) (ht : Typ shHallBook ds) (h : Raw w shHallBook (mkT k ds) cs) (h1 : 1 ≤ k) (hk : k + cntT ds ≤ 4000000000000000000) :
    Calls Try.prog 12 #[.agg cs.toArray, .int .i64 (k : Int)] w fun e w' => e = .returned (.int .i64 ((k + cntT ds : Nat) : Int)) ∧ Below w.heap.size w w' := by
  obtain ⟨d0, d1, rfl, t0, t1⟩ := segTypHallBook ht
  simp only [mkT, mkT_app] at h
  obtain ⟨c0, x0, rfl, r0, h_0⟩ := Raw.cut2 h (t0.mkT _)
  obtain ⟨c1, x1, rfl, r1, h_1⟩ := Raw.cut2 h_0 (t1.mkT _)
  obtain rfl := h_1.c_n
  obtain ⟨cs, hcs⟩ : ∃ cs : List Value, cs = (c0 ++ ((c1 ++ ([])))) := ⟨_, rfl⟩
  rw [← hcs]
  have L0 : Hid (c0.length = 7) := r0.len
  have L1 : Hid (c1.length = 4) := r1.len
  have HCS := uh hcs
  simp only [cntT, cntT_app] at hk ⊢
  obtain ⟨wa, hwa⟩ : ∃ wa, wa = w.alloc (.cells cs.toArray 39) := ⟨_, rfl⟩
  have HB : Hid (Below w.heap.size w wa) := by show Below _ _ _; rw [hwa]; exact blw_alloc (Below.refl _ _) _
  have HX : Hid (LBox wa w.heap.size cs) := by show LBox _ _ _; rw [hwa]; exact LBox.new w cs.toArray _ _ rfl
  have R0 := uh (r0.later HB.out)
  have R1 := uh (r1.later HB.out)
  have HKK := uh hk
  clear hcs hk r0 r1
  go_enter Try.func12, Try.ntmps12
  go_upto_region 1 with fail
  rw [← hwa]
  clear hwa
  have hbz := HX.out.lt
  have hbx := boxHallBook L0.out L1.out (by have := HX.out.at_; rw [HCS.out] at this; exact this)
  have gc := hbx.1
  clear hbx
  obtain ⟨k0, hk0⟩ : ∃ k0 : Nat, k0 = k + cntT d0 := ⟨_, rfl⟩
  have HK0 := uh hk0
  have kb0 : 1 ≤ k0 ∧ k0 ≤ 4000000000000000000 := by have := HKK.out; have := HK0.out; omega
  obtain ⟨kl0, ku0⟩ := kb0
  clear hk0
  have kn0 : ¬ (k0 : Int) < 0 := by omega
  go_wp2_with (refine wpList_load_mid rfl 32 _ rfl w.heap.size 0 rfl c0 _ gc Try.underlying32 rfl (by rw [L0.out]; kernel_rfl) ?_)
  refine (heldGateBook d0 c0 k wa t0 (by have := R0.out; simpa only [Nat.add_zero] using this) (by omega) (by have := HK0.out; omega)).mono ?_
  rintro e x0 ⟨he, hb0⟩
  rw [← HK0.out] at he
  subst he
  replace HX := uh (HX.out.later hb0)
  replace HB := uh (blw_trans HB.out hb0)
  replace R1 := uh (R1.out.later hb0)
  clear gc hbz hb0
  have hbz := HX.out.lt
  have hbx := boxHallBook L0.out L1.out (by have := HX.out.at_; rw [HCS.out] at this; exact this)
  have gc := hbx.2
  clear hbx
  obtain ⟨k1, hk1⟩ : ∃ k1 : Nat, k1 = k0 + cntT d1 := ⟨_, rfl⟩
  have HK1 := uh hk1
  have kb1 : 1 ≤ k1 ∧ k1 ≤ 4000000000000000000 := by have := HKK.out; have := HK0.out; have := HK1.out; omega
  obtain ⟨kl1, ku1⟩ := kb1
  clear hk1
  have kn1 : ¬ (k1 : Int) < 0 := by omega
  go_wp2_with (refine wpList_load_mid rfl 37 _ rfl w.heap.size 7 rfl c1 _ gc Try.underlying37 rfl (by rw [L1.out]; kernel_rfl) ?_)
  refine (heldStewBook d1 c1 k0 x0 t1 (by have := R1.out; simpa only [HK0.out, Nat.add_zero] using this) (by omega) (by have := HK1.out; omega)).mono ?_
  rintro e x1 ⟨he, hb1⟩
  rw [← HK1.out] at he
  subst he
  replace HX := uh (HX.out.later hb1)
  replace HB := uh (blw_trans HB.out hb1)
  clear gc hbz hb1
  go_wp2
  go_ret
  exact ⟨Pl.ret_int (by have := HKK.out; have := HK0.out; have := HK1.out; omega), HB.out⟩
end Go.Proofs.Ytkehaeppnmlafaa
