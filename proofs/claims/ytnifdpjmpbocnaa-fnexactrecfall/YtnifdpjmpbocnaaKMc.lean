/-
  Marks of a recorder.
-/
import Derived.Test.YtnifdpjmpbocnaaKMb
namespace Go.Proofs.Ytnifdpjmpbocnaa
open Go.RowKit Go.Deep

set_option maxRecDepth 8000 in
set_option maxHeartbeats 8000000 in
theorem markRecDisk (F : List Nat) (ds : List Dt) (cs : List Value) (k : Nat) (w : World) (h : Rep w false shRecDisk F ds cs) (hnd : F.Nodup) (h1 : 1 ≤ k) (hk : k + cntT ds ≤ 4000000000000000000) :
    Calls Try.prog 42 #[.agg cs.toArray, .int .i64 (k : Int)] w fun e w' => e = .returned (.int .i64 ((k + cntT ds : Nat) : Int)) ∧ Marks (· ∈ F) w w' ∧ Rep w' false shRecDisk F (mkT k ds) cs := by
  obtain ⟨a0, a1, F2, n2, e2, v2, rfl, rfl, hcs, r2⟩ := segRepRecDisk h
  have HCS := uh hcs
  simp only [cntT] at hk ⊢
  obtain ⟨nd2, ndr2, dj2⟩ := nd_app hnd
  have ND2 := uh nd2
  have DJ2 := uh dj2
  have LT2 := uh r2.lt
  clear hnd nd2 ndr2 dj2
  obtain ⟨wa, hwa⟩ : ∃ wa, wa = w.alloc (.cells cs.toArray 36) := ⟨_, rfl⟩
  have HB : Hid (Below w.heap.size w wa) := by show Below _ _ _; rw [hwa]; exact blw_alloc (Below.refl _ _) _
  have HX : Hid (LBox wa w.heap.size cs) := by show LBox _ _ _; rw [hwa]; exact LBox.new w cs.toArray _ _ rfl
  have R2 := uh (r2.later HB.out)
  have HM := uh (Marks.of_below (· ∈ ([] : List Nat)) HB.out)
  have HKK := uh hk
  clear hcs hk h r2
  go_enter Try.func42, Try.ntmps42
  go_upto_region 1 with fail
  rw [← hwa]
  clear hwa
  have hbz := HX.out.lt
  have hbx := boxRecDisk  (by have := HX.out.at_; rw [HCS.out] at this; exact this)
  have gc := hbx.2.2
  clear hbx
  obtain ⟨k2, hk2⟩ : ∃ k2 : Nat, k2 = k + cntL e2 := ⟨_, rfl⟩
  have HK2 := uh hk2
  have kb2 : 1 ≤ k2 ∧ k2 ≤ 4000000000000000000 := by have := HKK.out; have := HK2.out; omega
  obtain ⟨kl2, ku2⟩ := kb2
  clear hk2
  obtain ⟨va2, vc2, hva⟩ := R2.out.raw.len0
  subst hva
  go_wp2_with fail
  refine (markRecSlotS F2 n2 e2 (.slice va2 n2 vc2) k wa R2.out ND2.out (by omega) (by have := HK2.out; omega)).mono ?_
  rintro e x2 ⟨he, hb2, rr2⟩
  rw [← HK2.out] at he
  subst he
  replace HX := uh (HX.out.mks hb2 (fun e => Nat.lt_irrefl _ (LT2.out _ e)))
  replace HM := uh ((HM.out.mono (fun b (e : b ∈ ([] : List Nat)) => List.mem_append_left F2 e)).trans (hb2.mono (fun b (e : b ∈ F2) => List.mem_append_right ([] : List Nat) e)))
  replace R2 := uh rr2
  clear gc hbz hb2 rr2
  go_wp2
  go_ret
  refine ⟨Pl.ret_int (by have := HKK.out; have := HK2.out; omega), HM.out.mono (fun b (e : b ∈ (([] : List Nat) ++ F2)) => by simpa [or_assoc] using e), ?_⟩
  have := segRepRecDisk_mk a0 a1 R2.out
  rw [← HCS.out] at this
  simp only [mkT]
  simpa only [HK2.out, Nat.add_zero] using this
set_option maxRecDepth 8000 in
set_option maxHeartbeats 8000000 in
theorem markRecorder (F : List Nat) (ds : List Dt) (cs : List Value) (k : Nat) (w : World) (h : Rep w false shRecorder F ds cs) (hnd : F.Nodup) (h1 : 1 ≤ k) (hk : k + cntT ds ≤ 4000000000000000000) :
    Calls Try.prog 12 #[.agg cs.toArray, .int .i64 (k : Int)] w fun e w' => e = .returned (.int .i64 ((k + cntT ds : Nat) : Int)) ∧ Marks (· ∈ F) w w' ∧ Rep w' false shRecorder F (mkT k ds) cs := by
  obtain ⟨a0, a1, a2, F3, d3, c3, F4, d4, c4, F5, n5, e5, v5, F6, n6, e6, v6, a7, a8, a9, F10, n10, e10, v10, F11, n11, e11, v11, F12, n12, e12, v12, a13, rfl, rfl, hcs, r3, r4, r5, r6, r10, r11, r12⟩ := segRepRecorder h
  have L3 : Hid (c3.length = 3) := r3.len
  have L4 : Hid (c4.length = 3) := r4.len
  have HCS := uh hcs
  simp only [cntT, cntT_app] at hk ⊢
  obtain ⟨nd3, ndr3, dj3⟩ := nd_app hnd
  have ND3 := uh nd3
  have DJ3 := uh dj3
  have LT3 := uh r3.lt
  obtain ⟨nd4, ndr4, dj4⟩ := nd_app ndr3
  have ND4 := uh nd4
  have DJ4 := uh dj4
  have LT4 := uh r4.lt
  obtain ⟨nd5, ndr5, dj5⟩ := nd_app ndr4
  have ND5 := uh nd5
  have DJ5 := uh dj5
  have LT5 := uh r5.lt
  obtain ⟨nd6, ndr6, dj6⟩ := nd_app ndr5
  have ND6 := uh nd6
  have DJ6 := uh dj6
  have LT6 := uh r6.lt
  obtain ⟨nd10, ndr10, dj10⟩ := nd_app ndr6
  have ND10 := uh nd10
  have DJ10 := uh dj10
  have LT10 := uh r10.lt
  obtain ⟨nd11, ndr11, dj11⟩ := nd_app ndr10
  have ND11 := uh nd11
  have DJ11 := uh dj11
  have LT11 := uh r11.lt
  obtain ⟨nd12, ndr12, dj12⟩ := nd_app ndr11
  have ND12 := uh nd12
  have DJ12 := uh dj12
  have LT12 := uh r12.lt
  clear hnd nd3 ndr3 dj3 nd4 ndr4 dj4 nd5 ndr5 dj5 nd6 ndr6 dj6 nd10 ndr10 dj10 nd11 ndr11 dj11 nd12 ndr12 dj12
  obtain ⟨wa, hwa⟩ : ∃ wa, wa = w.alloc (.cells cs.toArray 40) := ⟨_, rfl⟩
  have HB : Hid (Below w.heap.size w wa) := by show Below _ _ _; rw [hwa]; exact blw_alloc (Below.refl _ _) _
  have HX : Hid (LBox wa w.heap.size cs) := by show LBox _ _ _; rw [hwa]; exact LBox.new w cs.toArray _ _ rfl
  have R3 := uh (r3.later HB.out)
  have R4 := uh (r4.later HB.out)
  have R5 := uh (r5.later HB.out)
  have R6 := uh (r6.later HB.out)
  have R10 := uh (r10.later HB.out)
  have R11 := uh (r11.later HB.out)
  have R12 := uh (r12.later HB.out)
  have HM := uh (Marks.of_below (· ∈ ([] : List Nat)) HB.out)
  have HKK := uh hk
  clear hcs hk h r3 r4 r5 r6 r10 r11 r12
  go_enter Try.func12, Try.ntmps12
  go_upto_region 1 with fail
  rw [← hwa]
  clear hwa
  have hbz := HX.out.lt
  have hbx := boxRecorder L3.out L4.out (by have := HX.out.at_; rw [HCS.out] at this; exact this)
  have gc := hbx.2.2.2.1
  clear hbx
  obtain ⟨k3, hk3⟩ : ∃ k3 : Nat, k3 = k + cntT d3 := ⟨_, rfl⟩
  have HK3 := uh hk3
  have kb3 : 1 ≤ k3 ∧ k3 ≤ 4000000000000000000 := by have := HKK.out; have := HK3.out; omega
  obtain ⟨kl3, ku3⟩ := kb3
  clear hk3
  go_wp2_with (refine wpList_load_mid rfl 36 _ rfl w.heap.size 3 rfl c3 _ gc Try.underlying36 rfl (by rw [L3.out]; kernel_rfl) ?_)
  refine (markRecDisk F3 d3 c3 k wa R3.out ND3.out (by omega) (by have := HK3.out; omega)).mono ?_
  rintro e x3 ⟨he, hb3, rr3⟩
  rw [← HK3.out] at he
  subst he
  replace HX := uh (HX.out.mks hb3 (fun e => Nat.lt_irrefl _ (LT3.out _ e)))
  replace HM := uh ((HM.out.mono (fun b (e : b ∈ ([] : List Nat)) => List.mem_append_left F3 e)).trans (hb3.mono (fun b (e : b ∈ F3) => List.mem_append_right ([] : List Nat) e)))
  replace R4 := uh (R4.out.keep hb3 (fun b hb e => DJ3.out b e (by simp [hb])))
  replace R5 := uh (R5.out.keep hb3 (fun b hb e => DJ3.out b e (by simp [hb])))
  replace R6 := uh (R6.out.keep hb3 (fun b hb e => DJ3.out b e (by simp [hb])))
  replace R10 := uh (R10.out.keep hb3 (fun b hb e => DJ3.out b e (by simp [hb])))
  replace R11 := uh (R11.out.keep hb3 (fun b hb e => DJ3.out b e (by simp [hb])))
  replace R12 := uh (R12.out.keep hb3 (fun b hb e => DJ3.out b e (by simp [hb])))
  replace R3 := uh rr3
  clear gc hbz hb3 rr3
  have hbz := HX.out.lt
  have hbx := boxRecorder L3.out L4.out (by have := HX.out.at_; rw [HCS.out] at this; exact this)
  have gc := hbx.2.2.2.2.1
  clear hbx
  obtain ⟨k4, hk4⟩ : ∃ k4 : Nat, k4 = k3 + cntT d4 := ⟨_, rfl⟩
  have HK4 := uh hk4
  have kb4 : 1 ≤ k4 ∧ k4 ≤ 4000000000000000000 := by have := HKK.out; have := HK3.out; have := HK4.out; omega
  obtain ⟨kl4, ku4⟩ := kb4
  clear hk4
  go_wp2_with (refine wpList_load_mid rfl 36 _ rfl w.heap.size 6 rfl c4 _ gc Try.underlying36 rfl (by rw [L4.out]; kernel_rfl) ?_)
  refine (markRecDisk F4 d4 c4 k3 x3 R4.out ND4.out (by omega) (by have := HK4.out; omega)).mono ?_
  rintro e x4 ⟨he, hb4, rr4⟩
  rw [← HK4.out] at he
  subst he
  replace HX := uh (HX.out.mks hb4 (fun e => Nat.lt_irrefl _ (LT4.out _ e)))
  replace HM := uh ((HM.out.mono (fun b (e : b ∈ (([] : List Nat) ++ F3)) => List.mem_append_left F4 e)).trans (hb4.mono (fun b (e : b ∈ F4) => List.mem_append_right (([] : List Nat) ++ F3) e)))
  replace R3 := uh (R3.out.keep hb4 (fun b hb e => DJ3.out b hb (by simp [e])))
  replace R5 := uh (R5.out.keep hb4 (fun b hb e => DJ4.out b e (by simp [hb])))
  replace R6 := uh (R6.out.keep hb4 (fun b hb e => DJ4.out b e (by simp [hb])))
  replace R10 := uh (R10.out.keep hb4 (fun b hb e => DJ4.out b e (by simp [hb])))
  replace R11 := uh (R11.out.keep hb4 (fun b hb e => DJ4.out b e (by simp [hb])))
  replace R12 := uh (R12.out.keep hb4 (fun b hb e => DJ4.out b e (by simp [hb])))
  replace R4 := uh rr4
  clear gc hbz hb4 rr4
  have hbz := HX.out.lt
  have hbx := boxRecorder L3.out L4.out (by have := HX.out.at_; rw [HCS.out] at this; exact this)
  have gc := hbx.2.2.2.2.2.1
  clear hbx
  obtain ⟨k5, hk5⟩ : ∃ k5 : Nat, k5 = k4 + cntL e5 := ⟨_, rfl⟩
  have HK5 := uh hk5
  have kb5 : 1 ≤ k5 ∧ k5 ≤ 4000000000000000000 := by have := HKK.out; have := HK3.out; have := HK4.out; have := HK5.out; omega
  obtain ⟨kl5, ku5⟩ := kb5
  clear hk5
  obtain ⟨va5, vc5, hva⟩ := R5.out.raw.len0
  subst hva
  go_wp2_with fail
  refine (markRecMessageS F5 n5 e5 (.slice va5 n5 vc5) k4 x4 R5.out ND5.out (by omega) (by have := HK5.out; omega)).mono ?_
  rintro e x5 ⟨he, hb5, rr5⟩
  rw [← HK5.out] at he
  subst he
  replace HX := uh (HX.out.mks hb5 (fun e => Nat.lt_irrefl _ (LT5.out _ e)))
  replace HM := uh ((HM.out.mono (fun b (e : b ∈ ((([] : List Nat) ++ F3) ++ F4)) => List.mem_append_left F5 e)).trans (hb5.mono (fun b (e : b ∈ F5) => List.mem_append_right ((([] : List Nat) ++ F3) ++ F4) e)))
  replace R3 := uh (R3.out.keep hb5 (fun b hb e => DJ3.out b hb (by simp [e])))
  replace R4 := uh (R4.out.keep hb5 (fun b hb e => DJ4.out b hb (by simp [e])))
  replace R6 := uh (R6.out.keep hb5 (fun b hb e => DJ5.out b e (by simp [hb])))
  replace R10 := uh (R10.out.keep hb5 (fun b hb e => DJ5.out b e (by simp [hb])))
  replace R11 := uh (R11.out.keep hb5 (fun b hb e => DJ5.out b e (by simp [hb])))
  replace R12 := uh (R12.out.keep hb5 (fun b hb e => DJ5.out b e (by simp [hb])))
  replace R5 := uh rr5
  clear gc hbz hb5 rr5
  have hbz := HX.out.lt
  have hbx := boxRecorder L3.out L4.out (by have := HX.out.at_; rw [HCS.out] at this; exact this)
  have gc := hbx.2.2.2.2.2.2.1
  clear hbx
  obtain ⟨k6, hk6⟩ : ∃ k6 : Nat, k6 = k5 + cntL e6 := ⟨_, rfl⟩
  have HK6 := uh hk6
  have kb6 : 1 ≤ k6 ∧ k6 ≤ 4000000000000000000 := by have := HKK.out; have := HK3.out; have := HK4.out; have := HK5.out; have := HK6.out; omega
  obtain ⟨kl6, ku6⟩ := kb6
  clear hk6
  obtain ⟨va6, vc6, hva⟩ := R6.out.raw.len0
  subst hva
  go_wp2_with fail
  refine (markStringS F6 n6 e6 (.slice va6 n6 vc6) k5 x5 R6.out ND6.out (by omega) (by have := HK6.out; omega)).mono ?_
  rintro e x6 ⟨he, hb6, rr6⟩
  rw [← HK6.out] at he
  subst he
  replace HX := uh (HX.out.mks hb6 (fun e => Nat.lt_irrefl _ (LT6.out _ e)))
  replace HM := uh ((HM.out.mono (fun b (e : b ∈ (((([] : List Nat) ++ F3) ++ F4) ++ F5)) => List.mem_append_left F6 e)).trans (hb6.mono (fun b (e : b ∈ F6) => List.mem_append_right (((([] : List Nat) ++ F3) ++ F4) ++ F5) e)))
  replace R3 := uh (R3.out.keep hb6 (fun b hb e => DJ3.out b hb (by simp [e])))
  replace R4 := uh (R4.out.keep hb6 (fun b hb e => DJ4.out b hb (by simp [e])))
  replace R5 := uh (R5.out.keep hb6 (fun b hb e => DJ5.out b hb (by simp [e])))
  replace R10 := uh (R10.out.keep hb6 (fun b hb e => DJ6.out b e (by simp [hb])))
  replace R11 := uh (R11.out.keep hb6 (fun b hb e => DJ6.out b e (by simp [hb])))
  replace R12 := uh (R12.out.keep hb6 (fun b hb e => DJ6.out b e (by simp [hb])))
  replace R6 := uh rr6
  clear gc hbz hb6 rr6
  have hbz := HX.out.lt
  have hbx := boxRecorder L3.out L4.out (by have := HX.out.at_; rw [HCS.out] at this; exact this)
  have gc := hbx.2.2.2.2.2.2.2.2.2.2.1
  clear hbx
  obtain ⟨k10, hk10⟩ : ∃ k10 : Nat, k10 = k6 + cntL e10 := ⟨_, rfl⟩
  have HK10 := uh hk10
  have kb10 : 1 ≤ k10 ∧ k10 ≤ 4000000000000000000 := by have := HKK.out; have := HK3.out; have := HK4.out; have := HK5.out; have := HK6.out; have := HK10.out; omega
  obtain ⟨kl10, ku10⟩ := kb10
  clear hk10
  obtain ⟨va10, vc10, hva⟩ := R10.out.raw.len0
  subst hva
  go_wp2_with fail
  refine (markIntS F10 n10 e10 (.slice va10 n10 vc10) k6 x6 R10.out ND10.out (by omega) (by have := HK10.out; omega)).mono ?_
  rintro e x10 ⟨he, hb10, rr10⟩
  rw [← HK10.out] at he
  subst he
  replace HX := uh (HX.out.mks hb10 (fun e => Nat.lt_irrefl _ (LT10.out _ e)))
  replace HM := uh ((HM.out.mono (fun b (e : b ∈ ((((([] : List Nat) ++ F3) ++ F4) ++ F5) ++ F6)) => List.mem_append_left F10 e)).trans (hb10.mono (fun b (e : b ∈ F10) => List.mem_append_right ((((([] : List Nat) ++ F3) ++ F4) ++ F5) ++ F6) e)))
  replace R3 := uh (R3.out.keep hb10 (fun b hb e => DJ3.out b hb (by simp [e])))
  replace R4 := uh (R4.out.keep hb10 (fun b hb e => DJ4.out b hb (by simp [e])))
  replace R5 := uh (R5.out.keep hb10 (fun b hb e => DJ5.out b hb (by simp [e])))
  replace R6 := uh (R6.out.keep hb10 (fun b hb e => DJ6.out b hb (by simp [e])))
  replace R11 := uh (R11.out.keep hb10 (fun b hb e => DJ10.out b e (by simp [hb])))
  replace R12 := uh (R12.out.keep hb10 (fun b hb e => DJ10.out b e (by simp [hb])))
  replace R10 := uh rr10
  clear gc hbz hb10 rr10
  have hbz := HX.out.lt
  have hbx := boxRecorder L3.out L4.out (by have := HX.out.at_; rw [HCS.out] at this; exact this)
  have gc := hbx.2.2.2.2.2.2.2.2.2.2.2.1
  clear hbx
  obtain ⟨k11, hk11⟩ : ∃ k11 : Nat, k11 = k10 + cntL e11 := ⟨_, rfl⟩
  have HK11 := uh hk11
  have kb11 : 1 ≤ k11 ∧ k11 ≤ 4000000000000000000 := by have := HKK.out; have := HK3.out; have := HK4.out; have := HK5.out; have := HK6.out; have := HK10.out; have := HK11.out; omega
  obtain ⟨kl11, ku11⟩ := kb11
  clear hk11
  obtain ⟨va11, vc11, hva⟩ := R11.out.raw.len0
  subst hva
  go_wp2_with fail
  refine (markRecSlotS F11 n11 e11 (.slice va11 n11 vc11) k10 x10 R11.out ND11.out (by omega) (by have := HK11.out; omega)).mono ?_
  rintro e x11 ⟨he, hb11, rr11⟩
  rw [← HK11.out] at he
  subst he
  replace HX := uh (HX.out.mks hb11 (fun e => Nat.lt_irrefl _ (LT11.out _ e)))
  replace HM := uh ((HM.out.mono (fun b (e : b ∈ (((((([] : List Nat) ++ F3) ++ F4) ++ F5) ++ F6) ++ F10)) => List.mem_append_left F11 e)).trans (hb11.mono (fun b (e : b ∈ F11) => List.mem_append_right (((((([] : List Nat) ++ F3) ++ F4) ++ F5) ++ F6) ++ F10) e)))
  replace R3 := uh (R3.out.keep hb11 (fun b hb e => DJ3.out b hb (by simp [e])))
  replace R4 := uh (R4.out.keep hb11 (fun b hb e => DJ4.out b hb (by simp [e])))
  replace R5 := uh (R5.out.keep hb11 (fun b hb e => DJ5.out b hb (by simp [e])))
  replace R6 := uh (R6.out.keep hb11 (fun b hb e => DJ6.out b hb (by simp [e])))
  replace R10 := uh (R10.out.keep hb11 (fun b hb e => DJ10.out b hb (by simp [e])))
  replace R12 := uh (R12.out.keep hb11 (fun b hb e => DJ11.out b e (by simp [hb])))
  replace R11 := uh rr11
  clear gc hbz hb11 rr11
  have hbz := HX.out.lt
  have hbx := boxRecorder L3.out L4.out (by have := HX.out.at_; rw [HCS.out] at this; exact this)
  have gc := hbx.2.2.2.2.2.2.2.2.2.2.2.2.1
  clear hbx
  obtain ⟨k12, hk12⟩ : ∃ k12 : Nat, k12 = k11 + cntL e12 := ⟨_, rfl⟩
  have HK12 := uh hk12
  have kb12 : 1 ≤ k12 ∧ k12 ≤ 4000000000000000000 := by have := HKK.out; have := HK3.out; have := HK4.out; have := HK5.out; have := HK6.out; have := HK10.out; have := HK11.out; have := HK12.out; omega
  obtain ⟨kl12, ku12⟩ := kb12
  clear hk12
  obtain ⟨va12, vc12, hva⟩ := R12.out.raw.len0
  subst hva
  go_wp2_with fail
  refine (markRecAckS F12 n12 e12 (.slice va12 n12 vc12) k11 x11 R12.out ND12.out (by omega) (by have := HK12.out; omega)).mono ?_
  rintro e x12 ⟨he, hb12, rr12⟩
  rw [← HK12.out] at he
  subst he
  replace HX := uh (HX.out.mks hb12 (fun e => Nat.lt_irrefl _ (LT12.out _ e)))
  replace HM := uh ((HM.out.mono (fun b (e : b ∈ ((((((([] : List Nat) ++ F3) ++ F4) ++ F5) ++ F6) ++ F10) ++ F11)) => List.mem_append_left F12 e)).trans (hb12.mono (fun b (e : b ∈ F12) => List.mem_append_right ((((((([] : List Nat) ++ F3) ++ F4) ++ F5) ++ F6) ++ F10) ++ F11) e)))
  replace R3 := uh (R3.out.keep hb12 (fun b hb e => DJ3.out b hb (by simp [e])))
  replace R4 := uh (R4.out.keep hb12 (fun b hb e => DJ4.out b hb (by simp [e])))
  replace R5 := uh (R5.out.keep hb12 (fun b hb e => DJ5.out b hb (by simp [e])))
  replace R6 := uh (R6.out.keep hb12 (fun b hb e => DJ6.out b hb (by simp [e])))
  replace R10 := uh (R10.out.keep hb12 (fun b hb e => DJ10.out b hb (by simp [e])))
  replace R11 := uh (R11.out.keep hb12 (fun b hb e => DJ11.out b hb (by simp [e])))
  replace R12 := uh rr12
  clear gc hbz hb12 rr12
  go_wp2
  go_ret
  refine ⟨Pl.ret_int (by have := HKK.out; have := HK3.out; have := HK4.out; have := HK5.out; have := HK6.out; have := HK10.out; have := HK11.out; have := HK12.out; omega), HM.out.mono (fun b (e : b ∈ (((((((([] : List Nat) ++ F3) ++ F4) ++ F5) ++ F6) ++ F10) ++ F11) ++ F12)) => by simpa [or_assoc] using e), ?_⟩
  have := segRepRecorder_mk a0 a1 a2 R3.out R4.out R5.out R6.out a7 a8 a9 R10.out R11.out R12.out a13
  rw [← HCS.out] at this
  simp only [mkT, mkT_app]
  simpa only [HK3.out, HK4.out, HK5.out, HK6.out, HK10.out, HK11.out, HK12.out, Nat.add_zero] using this
end Go.Proofs.Ytnifdpjmpbocnaa
