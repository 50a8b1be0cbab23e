/-
  Marks of books of the hall.
-/
import Derived.Test.YtkehaeppnmlafaaBMa
import Derived.Test.YtkehaeppnmlafaaBMb
namespace Go.Proofs.Ytkehaeppnmlafaa
open Go.RowKit Go.Deep

set_option maxRecDepth 8000 in
set_option maxHeartbeats 8000000 in
theorem markHallBook (F : List Nat) (ds : List Dt) (cs : List Value) (k : Nat) (w : World) (h : Rep w false shHallBook F ds cs) (hnd : F.Nodup) (h1 : 1 ≤ k) (hk : k + cntT ds ≤ 4000000000000000000) :
    Calls Try.prog 11 #[.agg cs.toArray, .int .i64 (k : Int)] w fun e w' => e = .returned (.int .i64 ((k + cntT ds : Nat) : Int)) ∧ Marks (· ∈ F) w w' ∧ Rep w' false shHallBook F (mkT k ds) cs := by
  obtain ⟨F0, d0, c0, F1, d1, c1, rfl, rfl, hcs, r0, r1⟩ := segRepHallBook h
  have L0 : Hid (c0.length = 7) := r0.len
  have L1 : Hid (c1.length = 4) := r1.len
  have HCS := uh hcs
  simp only [cntT, cntT_app] at hk ⊢
  obtain ⟨nd0, ndr0, dj0⟩ := nd_app hnd
  have ND0 := uh nd0
  have DJ0 := uh dj0
  have LT0 := uh r0.lt
  obtain ⟨nd1, ndr1, dj1⟩ := nd_app ndr0
  have ND1 := uh nd1
  have DJ1 := uh dj1
  have LT1 := uh r1.lt
  clear hnd nd0 ndr0 dj0 nd1 ndr1 dj1
  obtain ⟨wa, hwa⟩ : ∃ wa, wa = w.alloc (.cells cs.toArray 39) := ⟨_, rfl⟩
  have HB : Hid (Below w.heap.size w wa) := by show Below _ _ _; rw [hwa]; exact blw_alloc (Below.refl _ _) _
  have HX : Hid (LBox wa w.heap.size cs) := by show LBox _ _ _; rw [hwa]; exact LBox.new w cs.toArray _ _ rfl
  have R0 := uh (r0.later HB.out)
  have R1 := uh (r1.later HB.out)
  have HM := uh (Marks.of_below (· ∈ ([] : List Nat)) HB.out)
  have HKK := uh hk
  clear hcs hk h r0 r1
  go_enter Try.func11, Try.ntmps11
  go_upto_region 1 with fail
  rw [← hwa]
  clear hwa
  have hbz := HX.out.lt
  have hbx := boxHallBook L0.out L1.out (by have := HX.out.at_; rw [HCS.out] at this; exact this)
  have gc := hbx.1
  clear hbx
  obtain ⟨k0, hk0⟩ : ∃ k0 : Nat, k0 = k + cntT d0 := ⟨_, rfl⟩
  have HK0 := uh hk0
  have kb0 : 1 ≤ k0 ∧ k0 ≤ 4000000000000000000 := by have := HKK.out; have := HK0.out; omega
  obtain ⟨kl0, ku0⟩ := kb0
  clear hk0
  go_wp2_with (refine wpList_load_mid rfl 32 _ rfl w.heap.size 0 rfl c0 _ gc Try.underlying32 rfl (by rw [L0.out]; kernel_rfl) ?_)
  refine (markGateBook F0 d0 c0 k wa R0.out ND0.out (by omega) (by have := HK0.out; omega)).mono ?_
  rintro e x0 ⟨he, hb0, rr0⟩
  rw [← HK0.out] at he
  subst he
  replace HX := uh (HX.out.mks hb0 (fun e => Nat.lt_irrefl _ (LT0.out _ e)))
  replace HM := uh ((HM.out.mono (fun b (e : b ∈ ([] : List Nat)) => List.mem_append_left F0 e)).trans (hb0.mono (fun b (e : b ∈ F0) => List.mem_append_right ([] : List Nat) e)))
  replace R1 := uh (R1.out.keep hb0 (fun b hb e => DJ0.out b e (by simp [hb])))
  replace R0 := uh rr0
  clear gc hbz hb0 rr0
  have hbz := HX.out.lt
  have hbx := boxHallBook L0.out L1.out (by have := HX.out.at_; rw [HCS.out] at this; exact this)
  have gc := hbx.2
  clear hbx
  obtain ⟨k1, hk1⟩ : ∃ k1 : Nat, k1 = k0 + cntT d1 := ⟨_, rfl⟩
  have HK1 := uh hk1
  have kb1 : 1 ≤ k1 ∧ k1 ≤ 4000000000000000000 := by have := HKK.out; have := HK0.out; have := HK1.out; omega
  obtain ⟨kl1, ku1⟩ := kb1
  clear hk1
  go_wp2_with (refine wpList_load_mid rfl 37 _ rfl w.heap.size 7 rfl c1 _ gc Try.underlying37 rfl (by rw [L1.out]; kernel_rfl) ?_)
  refine (markStewBook F1 d1 c1 k0 x0 R1.out ND1.out (by omega) (by have := HK1.out; omega)).mono ?_
  rintro e x1 ⟨he, hb1, rr1⟩
  rw [← HK1.out] at he
  subst he
  replace HX := uh (HX.out.mks hb1 (fun e => Nat.lt_irrefl _ (LT1.out _ e)))
  replace HM := uh ((HM.out.mono (fun b (e : b ∈ (([] : List Nat) ++ F0)) => List.mem_append_left F1 e)).trans (hb1.mono (fun b (e : b ∈ F1) => List.mem_append_right (([] : List Nat) ++ F0) e)))
  replace R0 := uh (R0.out.keep hb1 (fun b hb e => DJ0.out b hb (by simp [e])))
  replace R1 := uh rr1
  clear gc hbz hb1 rr1
  go_wp2
  go_ret
  refine ⟨Pl.ret_int (by have := HKK.out; have := HK0.out; have := HK1.out; omega), HM.out.mono (fun b (e : b ∈ ((([] : List Nat) ++ F0) ++ F1)) => by simpa [or_assoc] using e), ?_⟩
  have := segRepHallBook_mk R0.out R1.out
  rw [← HCS.out] at this
  simp only [mkT, mkT_app]
  simpa only [HK0.out, HK1.out, Nat.add_zero] using this
end Go.Proofs.Ytkehaeppnmlafaa
