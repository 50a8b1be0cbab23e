/-
  The program's copy of a recorder.
-/
import Derived.Test.YtnifdpjmpbocnaaGreatKDb
namespace Go.Proofs.YtnifdpjmpbocnaaGreat
open Go.RowKit Go.Deep

set_option maxRecDepth 8000 in
set_option maxHeartbeats 16000000 in
theorem copyRecI (ds : List Dt) (cs : List Value) (W : World) (h : Raw W shRecorder ds cs) (hw : wtL ds ≤ 4194304) :
    Calls Tryz.prog 27 #[.agg cs.toArray] W (Ans shRecorder ds W) := by
  obtain ⟨a0, a1, a2, a3, a4, n5, e5, a6, a7, n8, e8, n9, e9, n10, e10, a11, a12, a13, n14, e14, n15, e15, n16, e16, a17, rfl, t5, t8, t9, t10, t14, t15, t16⟩ := typRecorder h.typ
  obtain ⟨v5, v8, v9, v10, v14, v15, v16, hcs, r5, r8, r9, r10, r14, r15, r16⟩ := rawRecorder h
  simp only [wtL] at hw
  have HW := uh hw
  have R5 := uh r5
  have R8 := uh r8
  have R9 := uh r9
  have R10 := uh r10
  have R14 := uh r14
  have R15 := uh r15
  have R16 := uh r16
  obtain ⟨wa, hwa⟩ : ∃ wa, wa = (W.alloc (.cells cs.toArray 38)).alloc (.cells #[.int .i64 0, .int .i64 0, .bool false, .int .i64 0, .int .i64 0, .slice none 0 0, .int .i64 0, .int .i64 0, .slice none 0 0, .slice none 0 0, .slice none 0 0, .bool false, .bool false, .int .i64 0, .slice none 0 0, .slice none 0 0, .slice none 0 0, .int .i64 0] 38) := ⟨_, rfl⟩
  have HB : Hid (Below W.heap.size W wa) := by show Below _ _ _; rw [hwa]; exact blw_alloc (blw_alloc (Below.refl _ _) _) _
  have HX : Hid (WBox wa W.heap.size 38 [.int .i64 a0, .int .i64 a1, .bool a2, .int .i64 a3, .int .i64 a4, v5, .int .i64 a6, .int .i64 a7, v8, v9, v10, .bool a11, .bool a12, .int .i64 a13, v14, v15, v16, .int .i64 a17]) := by show WBox _ _ _ _; rw [hwa, ← hcs]; exact (WBox.new W cs _ _ rfl).later (blw_alloc (Below.refl _ _) _)
  have HRS : Hid (OwnBlk wa (W.heap.size + 1) 38 18) := by show OwnBlk _ _ _ _; rw [hwa]; exact OwnBlk.alloc_at3 _ _ _ _ _ rfl (by simp)
  have HWA : Hid (W.heap.size + 1 < wa.heap.size) := HRS.out.lt
  clear h hcs hw r5 r8 r9 r10 r14 r15 r16 t5 t8 t9 t10 t14 t15 t16
  go_enter Tryz.func27, Tryz.ntmps27
  go_upto_region 1 with fail
  rw [← hwa]
  clear hwa
  obtain ⟨va5, vc5, hva⟩ := R5.out.len0
  subst hva
  have hz := HX.out.own.lt
  have hfz := HX.out.own.frozen
  have gc := HX.out.get 5 _ rfl
  go_wp2_with fail
  refine (copySlotsI n5 e5 (.slice va5 n5 vc5) wa (R5.out.later HB.out) (by have := HW.out; omega)).mono ?_
  rintro e x5 ⟨w5, F5, rfl, rep, nd, fr, hb⟩
  obtain ⟨wa5, wc5, hva⟩ := rep.raw.len0
  subst hva
  obtain ⟨y5, hy⟩ : ∃ y, y = x5.setCell ⟨W.heap.size, 5, none⟩ (.slice wa5 n5 wc5) := ⟨_, rfl⟩
  obtain ⟨ux, eu⟩ := (HX.out.later hb).own.cell 5 (by show 5 < 18; decide)
  have HS0 := uh HX.out.own.lt
  have HX1 := uh (HX.out.later hb)
  have HRS1 := uh (HRS.out.later hb)
  have HB1 := uh (blw_trans HB.out hb)
  have HX2 : Hid (WBox y5 W.heap.size 38 [.int .i64 a0, .int .i64 a1, .bool a2, .int .i64 a3, .int .i64 a4, .slice wa5 n5 wc5, .int .i64 a6, .int .i64 a7, v8, v9, v10, .bool a11, .bool a12, .int .i64 a13, v14, v15, v16, .int .i64 a17]) := by show WBox _ _ _ _; rw [hy]; exact HX1.out.set 5 (.slice wa5 n5 wc5) (by show 5 < 18; decide)
  have HM : Hid (Marks (fun b => b = W.heap.size) x5 y5) := by show Marks _ _ _; rw [hy]; exact Marks.sc (S := fun b => b = W.heap.size) _ rfl _ _
  have HRS2 : Hid (OwnBlk y5 (W.heap.size + 1) 38 18) := HM.out.own _ _ _ HRS1.out
  have HB2 : Hid (Below W.heap.size W y5) := HM.out.below (fun b e => by rw [e]; exact Nat.le_refl _) HB1.out
  have D5 := uh (rep.keep HM.out (fun b hb e => by have := fr b hb; have := HS0.out; omega))
  have HSZ5 : Hid (wa.heap.size ≤ x5.heap.size ∧ x5.heap.size ≤ y5.heap.size) := ⟨hb.size, HM.out.size⟩
  have FB5 : Hid (∀ b ∈ F5, wa.heap.size ≤ b ∧ b < x5.heap.size) := fun b hb => ⟨fr b hb, rep.lt b hb⟩
  have ND5 := uh nd
  have hqz := HX1.out.own.lt
  have hqf := HX1.out.own.frozen
  clear rep nd fr HX HRS HB
  go_upto_region 2 with fail
  rw [← hy]
  clear hy hqz hqf HX1 HRS1 HB1 hb HM HS0
  have HX := HX2
  have HRS := HRS2
  have HB := HB2
  clear HX2 HRS2 HB2
  clear gc hz hfz eu
  obtain ⟨va8, vc8, hva⟩ := R8.out.len0
  subst hva
  have hz := HX.out.own.lt
  have hfz := HX.out.own.frozen
  have gc := HX.out.get 8 _ rfl
  go_wp2_with fail
  refine (copySlotsI n8 e8 (.slice va8 n8 vc8) y5 (R8.out.later HB.out) (by have := HW.out; omega)).mono ?_
  rintro e x8 ⟨w8, F8, rfl, rep, nd, fr, hb⟩
  obtain ⟨wa8, wc8, hva⟩ := rep.raw.len0
  subst hva
  obtain ⟨y8, hy⟩ : ∃ y, y = x8.setCell ⟨W.heap.size, 8, none⟩ (.slice wa8 n8 wc8) := ⟨_, rfl⟩
  obtain ⟨ux, eu⟩ := (HX.out.later hb).own.cell 8 (by show 8 < 18; decide)
  have HS0 := uh HX.out.own.lt
  have HX1 := uh (HX.out.later hb)
  have HRS1 := uh (HRS.out.later hb)
  have HB1 := uh (blw_trans HB.out hb)
  have HX2 : Hid (WBox y8 W.heap.size 38 [.int .i64 a0, .int .i64 a1, .bool a2, .int .i64 a3, .int .i64 a4, .slice wa5 n5 wc5, .int .i64 a6, .int .i64 a7, .slice wa8 n8 wc8, v9, v10, .bool a11, .bool a12, .int .i64 a13, v14, v15, v16, .int .i64 a17]) := by show WBox _ _ _ _; rw [hy]; exact HX1.out.set 8 (.slice wa8 n8 wc8) (by show 8 < 18; decide)
  have HM : Hid (Marks (fun b => b = W.heap.size) x8 y8) := by show Marks _ _ _; rw [hy]; exact Marks.sc (S := fun b => b = W.heap.size) _ rfl _ _
  have HRS2 : Hid (OwnBlk y8 (W.heap.size + 1) 38 18) := HM.out.own _ _ _ HRS1.out
  have HB2 : Hid (Below W.heap.size W y8) := HM.out.below (fun b e => by rw [e]; exact Nat.le_refl _) HB1.out
  have D8 := uh (rep.keep HM.out (fun b hb e => by have := fr b hb; have := HS0.out; omega))
  have HSZ8 : Hid (y5.heap.size ≤ x8.heap.size ∧ x8.heap.size ≤ y8.heap.size) := ⟨hb.size, HM.out.size⟩
  have FB8 : Hid (∀ b ∈ F8, y5.heap.size ≤ b ∧ b < x8.heap.size) := fun b hb => ⟨fr b hb, rep.lt b hb⟩
  have ND8 := uh nd
  replace D5 := uh ((D5.out.later hb).keep HM.out (fun b hb e => by have := FB5.out b hb; have := HWA.out; have := HSZ5.out; omega))
  have hqz := HX1.out.own.lt
  have hqf := HX1.out.own.frozen
  clear rep nd fr HX HRS HB
  go_upto_region 3 with fail
  rw [← hy]
  clear hy hqz hqf HX1 HRS1 HB1 hb HM HS0
  have HX := HX2
  have HRS := HRS2
  have HB := HB2
  clear HX2 HRS2 HB2
  clear gc hz hfz eu
  obtain ⟨va9, vc9, hva⟩ := R9.out.len0
  subst hva
  have hz := HX.out.own.lt
  have hfz := HX.out.own.frozen
  have gc := HX.out.get 9 _ rfl
  go_wp2_with fail
  refine (copyMsgsI n9 e9 (.slice va9 n9 vc9) y8 (R9.out.later HB.out) (by have := HW.out; omega)).mono ?_
  rintro e x9 ⟨w9, F9, rfl, rep, nd, fr, hb⟩
  obtain ⟨wa9, wc9, hva⟩ := rep.raw.len0
  subst hva
  obtain ⟨y9, hy⟩ : ∃ y, y = x9.setCell ⟨W.heap.size, 9, none⟩ (.slice wa9 n9 wc9) := ⟨_, rfl⟩
  obtain ⟨ux, eu⟩ := (HX.out.later hb).own.cell 9 (by show 9 < 18; decide)
  have HS0 := uh HX.out.own.lt
  have HX1 := uh (HX.out.later hb)
  have HRS1 := uh (HRS.out.later hb)
  have HB1 := uh (blw_trans HB.out hb)
  have HX2 : Hid (WBox y9 W.heap.size 38 [.int .i64 a0, .int .i64 a1, .bool a2, .int .i64 a3, .int .i64 a4, .slice wa5 n5 wc5, .int .i64 a6, .int .i64 a7, .slice wa8 n8 wc8, .slice wa9 n9 wc9, v10, .bool a11, .bool a12, .int .i64 a13, v14, v15, v16, .int .i64 a17]) := by show WBox _ _ _ _; rw [hy]; exact HX1.out.set 9 (.slice wa9 n9 wc9) (by show 9 < 18; decide)
  have HM : Hid (Marks (fun b => b = W.heap.size) x9 y9) := by show Marks _ _ _; rw [hy]; exact Marks.sc (S := fun b => b = W.heap.size) _ rfl _ _
  have HRS2 : Hid (OwnBlk y9 (W.heap.size + 1) 38 18) := HM.out.own _ _ _ HRS1.out
  have HB2 : Hid (Below W.heap.size W y9) := HM.out.below (fun b e => by rw [e]; exact Nat.le_refl _) HB1.out
  have D9 := uh (rep.keep HM.out (fun b hb e => by have := fr b hb; have := HS0.out; omega))
  have HSZ9 : Hid (y8.heap.size ≤ x9.heap.size ∧ x9.heap.size ≤ y9.heap.size) := ⟨hb.size, HM.out.size⟩
  have FB9 : Hid (∀ b ∈ F9, y8.heap.size ≤ b ∧ b < x9.heap.size) := fun b hb => ⟨fr b hb, rep.lt b hb⟩
  have ND9 := uh nd
  replace D5 := uh ((D5.out.later hb).keep HM.out (fun b hb e => by have := FB5.out b hb; have := HWA.out; have := HSZ5.out; have := HSZ8.out; omega))
  replace D8 := uh ((D8.out.later hb).keep HM.out (fun b hb e => by have := FB8.out b hb; have := HWA.out; have := HSZ5.out; have := HSZ8.out; omega))
  have hqz := HX1.out.own.lt
  have hqf := HX1.out.own.frozen
  clear rep nd fr HX HRS HB
  go_upto_region 4 with fail
  rw [← hy]
  clear hy hqz hqf HX1 HRS1 HB1 hb HM HS0
  have HX := HX2
  have HRS := HRS2
  have HB := HB2
  clear HX2 HRS2 HB2
  clear gc hz hfz eu
  obtain ⟨va10, vc10, hva⟩ := R10.out.len0
  subst hva
  have hz := HX.out.own.lt
  have hfz := HX.out.own.frozen
  have gc := HX.out.get 10 _ rfl
  go_wp2_with fail
  refine (copyTextsI n10 e10 (.slice va10 n10 vc10) y9 (R10.out.later HB.out) (by have := HW.out; omega)).mono ?_
  rintro e x10 ⟨w10, F10, rfl, rep, nd, fr, hb⟩
  obtain ⟨wa10, wc10, hva⟩ := rep.raw.len0
  subst hva
  obtain ⟨y10, hy⟩ : ∃ y, y = x10.setCell ⟨W.heap.size, 10, none⟩ (.slice wa10 n10 wc10) := ⟨_, rfl⟩
  obtain ⟨ux, eu⟩ := (HX.out.later hb).own.cell 10 (by show 10 < 18; decide)
  have HS0 := uh HX.out.own.lt
  have HX1 := uh (HX.out.later hb)
  have HRS1 := uh (HRS.out.later hb)
  have HB1 := uh (blw_trans HB.out hb)
  have HX2 : Hid (WBox y10 W.heap.size 38 [.int .i64 a0, .int .i64 a1, .bool a2, .int .i64 a3, .int .i64 a4, .slice wa5 n5 wc5, .int .i64 a6, .int .i64 a7, .slice wa8 n8 wc8, .slice wa9 n9 wc9, .slice wa10 n10 wc10, .bool a11, .bool a12, .int .i64 a13, v14, v15, v16, .int .i64 a17]) := by show WBox _ _ _ _; rw [hy]; exact HX1.out.set 10 (.slice wa10 n10 wc10) (by show 10 < 18; decide)
  have HM : Hid (Marks (fun b => b = W.heap.size) x10 y10) := by show Marks _ _ _; rw [hy]; exact Marks.sc (S := fun b => b = W.heap.size) _ rfl _ _
  have HRS2 : Hid (OwnBlk y10 (W.heap.size + 1) 38 18) := HM.out.own _ _ _ HRS1.out
  have HB2 : Hid (Below W.heap.size W y10) := HM.out.below (fun b e => by rw [e]; exact Nat.le_refl _) HB1.out
  have D10 := uh (rep.keep HM.out (fun b hb e => by have := fr b hb; have := HS0.out; omega))
  have HSZ10 : Hid (y9.heap.size ≤ x10.heap.size ∧ x10.heap.size ≤ y10.heap.size) := ⟨hb.size, HM.out.size⟩
  have FB10 : Hid (∀ b ∈ F10, y9.heap.size ≤ b ∧ b < x10.heap.size) := fun b hb => ⟨fr b hb, rep.lt b hb⟩
  have ND10 := uh nd
  replace D5 := uh ((D5.out.later hb).keep HM.out (fun b hb e => by have := FB5.out b hb; have := HWA.out; have := HSZ5.out; have := HSZ8.out; have := HSZ9.out; omega))
  replace D8 := uh ((D8.out.later hb).keep HM.out (fun b hb e => by have := FB8.out b hb; have := HWA.out; have := HSZ5.out; have := HSZ8.out; have := HSZ9.out; omega))
  replace D9 := uh ((D9.out.later hb).keep HM.out (fun b hb e => by have := FB9.out b hb; have := HWA.out; have := HSZ5.out; have := HSZ8.out; have := HSZ9.out; omega))
  have hqz := HX1.out.own.lt
  have hqf := HX1.out.own.frozen
  clear rep nd fr HX HRS HB
  go_upto_region 5 with fail
  rw [← hy]
  clear hy hqz hqf HX1 HRS1 HB1 hb HM HS0
  have HX := HX2
  have HRS := HRS2
  have HB := HB2
  clear HX2 HRS2 HB2
  clear gc hz hfz eu
  obtain ⟨va14, vc14, hva⟩ := R14.out.len0
  subst hva
  have hz := HX.out.own.lt
  have hfz := HX.out.own.frozen
  have gc := HX.out.get 14 _ rfl
  obtain ⟨v', x14, xs, hrun, hg, hb⟩ := app_copy (P := Tryz.prog) y10.heap.size 27 27 3 3 1 8 _ Tryz.cunderN1 Tryz.cinfoN1 rfl (by decide) (by decide) [.i] rfl (by simp [flatB]) y10 (.slice none 0 0) (Or.inl rfl) (Nat.le_refl _) n14 e14 (.slice va14 n14 vc14) (R14.out.later HB.out) (by have := HW.out; omega)
  obtain ⟨wa14, wc14, hva⟩ := hg.shape
  subst hva
  obtain ⟨F14, rep, nd, fr⟩ := hg.done
  clear hg
  obtain ⟨y14, hy⟩ : ∃ y, y = x14.setCell ⟨W.heap.size, 14, none⟩ (.slice wa14 n14 wc14) := ⟨_, rfl⟩
  obtain ⟨ux, eu⟩ := (HX.out.later hb).own.cell 14 (by show 14 < 18; decide)
  have HS0 := uh HX.out.own.lt
  have HX1 := uh (HX.out.later hb)
  have HRS1 := uh (HRS.out.later hb)
  have HB1 := uh (blw_trans HB.out hb)
  have HX2 : Hid (WBox y14 W.heap.size 38 [.int .i64 a0, .int .i64 a1, .bool a2, .int .i64 a3, .int .i64 a4, .slice wa5 n5 wc5, .int .i64 a6, .int .i64 a7, .slice wa8 n8 wc8, .slice wa9 n9 wc9, .slice wa10 n10 wc10, .bool a11, .bool a12, .int .i64 a13, .slice wa14 n14 wc14, v15, v16, .int .i64 a17]) := by show WBox _ _ _ _; rw [hy]; exact HX1.out.set 14 (.slice wa14 n14 wc14) (by show 14 < 18; decide)
  have HM : Hid (Marks (fun b => b = W.heap.size) x14 y14) := by show Marks _ _ _; rw [hy]; exact Marks.sc (S := fun b => b = W.heap.size) _ rfl _ _
  have HRS2 : Hid (OwnBlk y14 (W.heap.size + 1) 38 18) := HM.out.own _ _ _ HRS1.out
  have HB2 : Hid (Below W.heap.size W y14) := HM.out.below (fun b e => by rw [e]; exact Nat.le_refl _) HB1.out
  have D14 := uh (rep.keep HM.out (fun b hb e => by have := fr b hb; have := HS0.out; omega))
  have HSZ14 : Hid (y10.heap.size ≤ x14.heap.size ∧ x14.heap.size ≤ y14.heap.size) := ⟨hb.size, HM.out.size⟩
  have FB14 : Hid (∀ b ∈ F14, y10.heap.size ≤ b ∧ b < x14.heap.size) := fun b hb => ⟨fr b hb, rep.lt b hb⟩
  have ND14 := uh nd
  replace D5 := uh ((D5.out.later hb).keep HM.out (fun b hb e => by have := FB5.out b hb; have := HWA.out; have := HSZ5.out; have := HSZ8.out; have := HSZ9.out; have := HSZ10.out; omega))
  replace D8 := uh ((D8.out.later hb).keep HM.out (fun b hb e => by have := FB8.out b hb; have := HWA.out; have := HSZ5.out; have := HSZ8.out; have := HSZ9.out; have := HSZ10.out; omega))
  replace D9 := uh ((D9.out.later hb).keep HM.out (fun b hb e => by have := FB9.out b hb; have := HWA.out; have := HSZ5.out; have := HSZ8.out; have := HSZ9.out; have := HSZ10.out; omega))
  replace D10 := uh ((D10.out.later hb).keep HM.out (fun b hb e => by have := FB10.out b hb; have := HWA.out; have := HSZ5.out; have := HSZ8.out; have := HSZ9.out; have := HSZ10.out; omega))
  have hqz := HX1.out.own.lt
  have hqf := HX1.out.own.frozen
  clear rep nd fr HX HRS HB
  go_upto_region 6 with (at_builtin; refine Go.Lib.wpList_append_run _ rfl _ _ 27 27 rfl _ _ rfl rfl _ x14 hrun ?_)
  rw [← hy]
  clear hy hqz hqf HX1 HRS1 HB1 hb HM HS0
  have HX := HX2
  have HRS := HRS2
  have HB := HB2
  clear HX2 HRS2 HB2
  clear gc hz hfz eu hrun
  obtain ⟨va15, vc15, hva⟩ := R15.out.len0
  subst hva
  have hz := HX.out.own.lt
  have hfz := HX.out.own.frozen
  have gc := HX.out.get 15 _ rfl
  go_wp2_with fail
  refine (copySlotsI n15 e15 (.slice va15 n15 vc15) y14 (R15.out.later HB.out) (by have := HW.out; omega)).mono ?_
  rintro e x15 ⟨w15, F15, rfl, rep, nd, fr, hb⟩
  obtain ⟨wa15, wc15, hva⟩ := rep.raw.len0
  subst hva
  obtain ⟨y15, hy⟩ : ∃ y, y = x15.setCell ⟨W.heap.size, 15, none⟩ (.slice wa15 n15 wc15) := ⟨_, rfl⟩
  obtain ⟨ux, eu⟩ := (HX.out.later hb).own.cell 15 (by show 15 < 18; decide)
  have HS0 := uh HX.out.own.lt
  have HX1 := uh (HX.out.later hb)
  have HRS1 := uh (HRS.out.later hb)
  have HB1 := uh (blw_trans HB.out hb)
  have HX2 : Hid (WBox y15 W.heap.size 38 [.int .i64 a0, .int .i64 a1, .bool a2, .int .i64 a3, .int .i64 a4, .slice wa5 n5 wc5, .int .i64 a6, .int .i64 a7, .slice wa8 n8 wc8, .slice wa9 n9 wc9, .slice wa10 n10 wc10, .bool a11, .bool a12, .int .i64 a13, .slice wa14 n14 wc14, .slice wa15 n15 wc15, v16, .int .i64 a17]) := by show WBox _ _ _ _; rw [hy]; exact HX1.out.set 15 (.slice wa15 n15 wc15) (by show 15 < 18; decide)
  have HM : Hid (Marks (fun b => b = W.heap.size) x15 y15) := by show Marks _ _ _; rw [hy]; exact Marks.sc (S := fun b => b = W.heap.size) _ rfl _ _
  have HRS2 : Hid (OwnBlk y15 (W.heap.size + 1) 38 18) := HM.out.own _ _ _ HRS1.out
  have HB2 : Hid (Below W.heap.size W y15) := HM.out.below (fun b e => by rw [e]; exact Nat.le_refl _) HB1.out
  have D15 := uh (rep.keep HM.out (fun b hb e => by have := fr b hb; have := HS0.out; omega))
  have HSZ15 : Hid (y14.heap.size ≤ x15.heap.size ∧ x15.heap.size ≤ y15.heap.size) := ⟨hb.size, HM.out.size⟩
  have FB15 : Hid (∀ b ∈ F15, y14.heap.size ≤ b ∧ b < x15.heap.size) := fun b hb => ⟨fr b hb, rep.lt b hb⟩
  have ND15 := uh nd
  replace D5 := uh ((D5.out.later hb).keep HM.out (fun b hb e => by have := FB5.out b hb; have := HWA.out; have := HSZ5.out; have := HSZ8.out; have := HSZ9.out; have := HSZ10.out; have := HSZ14.out; omega))
  replace D8 := uh ((D8.out.later hb).keep HM.out (fun b hb e => by have := FB8.out b hb; have := HWA.out; have := HSZ5.out; have := HSZ8.out; have := HSZ9.out; have := HSZ10.out; have := HSZ14.out; omega))
  replace D9 := uh ((D9.out.later hb).keep HM.out (fun b hb e => by have := FB9.out b hb; have := HWA.out; have := HSZ5.out; have := HSZ8.out; have := HSZ9.out; have := HSZ10.out; have := HSZ14.out; omega))
  replace D10 := uh ((D10.out.later hb).keep HM.out (fun b hb e => by have := FB10.out b hb; have := HWA.out; have := HSZ5.out; have := HSZ8.out; have := HSZ9.out; have := HSZ10.out; have := HSZ14.out; omega))
  replace D14 := uh ((D14.out.later hb).keep HM.out (fun b hb e => by have := FB14.out b hb; have := HWA.out; have := HSZ5.out; have := HSZ8.out; have := HSZ9.out; have := HSZ10.out; have := HSZ14.out; omega))
  have hqz := HX1.out.own.lt
  have hqf := HX1.out.own.frozen
  clear rep nd fr HX HRS HB
  go_upto_region 7 with fail
  rw [← hy]
  clear hy hqz hqf HX1 HRS1 HB1 hb HM HS0
  have HX := HX2
  have HRS := HRS2
  have HB := HB2
  clear HX2 HRS2 HB2
  clear gc hz hfz eu
  obtain ⟨va16, vc16, hva⟩ := R16.out.len0
  subst hva
  have hz := HX.out.own.lt
  have hfz := HX.out.own.frozen
  have gc := HX.out.get 16 _ rfl
  go_wp2_with fail
  refine (copyAcksI n16 e16 (.slice va16 n16 vc16) y15 (R16.out.later HB.out) (by have := HW.out; omega)).mono ?_
  rintro e x16 ⟨w16, F16, rfl, rep, nd, fr, hb⟩
  obtain ⟨wa16, wc16, hva⟩ := rep.raw.len0
  subst hva
  obtain ⟨y16, hy⟩ : ∃ y, y = x16.setCell ⟨W.heap.size, 16, none⟩ (.slice wa16 n16 wc16) := ⟨_, rfl⟩
  obtain ⟨ux, eu⟩ := (HX.out.later hb).own.cell 16 (by show 16 < 18; decide)
  have HS0 := uh HX.out.own.lt
  have HX1 := uh (HX.out.later hb)
  have HRS1 := uh (HRS.out.later hb)
  have HB1 := uh (blw_trans HB.out hb)
  have HX2 : Hid (WBox y16 W.heap.size 38 [.int .i64 a0, .int .i64 a1, .bool a2, .int .i64 a3, .int .i64 a4, .slice wa5 n5 wc5, .int .i64 a6, .int .i64 a7, .slice wa8 n8 wc8, .slice wa9 n9 wc9, .slice wa10 n10 wc10, .bool a11, .bool a12, .int .i64 a13, .slice wa14 n14 wc14, .slice wa15 n15 wc15, .slice wa16 n16 wc16, .int .i64 a17]) := by show WBox _ _ _ _; rw [hy]; exact HX1.out.set 16 (.slice wa16 n16 wc16) (by show 16 < 18; decide)
  have HM : Hid (Marks (fun b => b = W.heap.size) x16 y16) := by show Marks _ _ _; rw [hy]; exact Marks.sc (S := fun b => b = W.heap.size) _ rfl _ _
  have HRS2 : Hid (OwnBlk y16 (W.heap.size + 1) 38 18) := HM.out.own _ _ _ HRS1.out
  have HB2 : Hid (Below W.heap.size W y16) := HM.out.below (fun b e => by rw [e]; exact Nat.le_refl _) HB1.out
  have D16 := uh (rep.keep HM.out (fun b hb e => by have := fr b hb; have := HS0.out; omega))
  have HSZ16 : Hid (y15.heap.size ≤ x16.heap.size ∧ x16.heap.size ≤ y16.heap.size) := ⟨hb.size, HM.out.size⟩
  have FB16 : Hid (∀ b ∈ F16, y15.heap.size ≤ b ∧ b < x16.heap.size) := fun b hb => ⟨fr b hb, rep.lt b hb⟩
  have ND16 := uh nd
  replace D5 := uh ((D5.out.later hb).keep HM.out (fun b hb e => by have := FB5.out b hb; have := HWA.out; have := HSZ5.out; have := HSZ8.out; have := HSZ9.out; have := HSZ10.out; have := HSZ14.out; have := HSZ15.out; omega))
  replace D8 := uh ((D8.out.later hb).keep HM.out (fun b hb e => by have := FB8.out b hb; have := HWA.out; have := HSZ5.out; have := HSZ8.out; have := HSZ9.out; have := HSZ10.out; have := HSZ14.out; have := HSZ15.out; omega))
  replace D9 := uh ((D9.out.later hb).keep HM.out (fun b hb e => by have := FB9.out b hb; have := HWA.out; have := HSZ5.out; have := HSZ8.out; have := HSZ9.out; have := HSZ10.out; have := HSZ14.out; have := HSZ15.out; omega))
  replace D10 := uh ((D10.out.later hb).keep HM.out (fun b hb e => by have := FB10.out b hb; have := HWA.out; have := HSZ5.out; have := HSZ8.out; have := HSZ9.out; have := HSZ10.out; have := HSZ14.out; have := HSZ15.out; omega))
  replace D14 := uh ((D14.out.later hb).keep HM.out (fun b hb e => by have := FB14.out b hb; have := HWA.out; have := HSZ5.out; have := HSZ8.out; have := HSZ9.out; have := HSZ10.out; have := HSZ14.out; have := HSZ15.out; omega))
  replace D15 := uh ((D15.out.later hb).keep HM.out (fun b hb e => by have := FB15.out b hb; have := HWA.out; have := HSZ5.out; have := HSZ8.out; have := HSZ9.out; have := HSZ10.out; have := HSZ14.out; have := HSZ15.out; omega))
  have hqz := HX1.out.own.lt
  have hqf := HX1.out.own.frozen
  clear rep nd fr HX HRS HB
  go_upto_region 8 with fail
  rw [← hy]
  clear hy hqz hqf HX1 HRS1 HB1 hb HM HS0
  have HX := HX2
  have HRS := HRS2
  have HB := HB2
  clear HX2 HRS2 HB2
  clear gc hz hfz eu
  have hth : y16.there (W.heap.size + 1) 0 18 := uthere HRS.out _ _ (by omega)
  obtain ⟨we, hwe⟩ : ∃ we, we = y16.setCells (W.heap.size + 1) 0 [.int .i64 a0, .int .i64 a1, .bool a2, .int .i64 a3, .int .i64 a4, .slice wa5 n5 wc5, .int .i64 a6, .int .i64 a7, .slice wa8 n8 wc8, .slice wa9 n9 wc9, .slice wa10 n10 wc10, .bool a11, .bool a12, .int .i64 a13, .slice wa14 n14 wc14, .slice wa15 n15 wc15, .slice wa16 n16 wc16, .int .i64 a17] := ⟨_, rfl⟩
  have hrt : we.rangeAt (W.heap.size + 1) 0 [.int .i64 a0, .int .i64 a1, .bool a2, .int .i64 a3, .int .i64 a4, .slice wa5 n5 wc5, .int .i64 a6, .int .i64 a7, .slice wa8 n8 wc8, .slice wa9 n9 wc9, .slice wa10 n10 wc10, .bool a11, .bool a12, .int .i64 a13, .slice wa14 n14 wc14, .slice wa15 n15 wc15, .slice wa16 n16 wc16, .int .i64 a17] := by rw [hwe]; exact World.rangeAt_setCells_same _ _ _ _ hth
  have HBE : Hid (Below W.heap.size W we) := by show Below _ _ _; rw [hwe]; exact blw_scs (by omega) _ _ _ HB.out
  have HM : Hid (Marks (fun b => b = W.heap.size + 1) y16 we) := by show Marks _ _ _; rw [hwe]; exact mks_scs (S := fun b => b = W.heap.size + 1) rfl _ _ _
  replace D5 := uh (D5.out.keep HM.out (fun b hb e => by have := FB5.out b hb; have := HWA.out; have := HSZ5.out; have := HSZ8.out; have := HSZ9.out; have := HSZ10.out; have := HSZ14.out; have := HSZ15.out; have := HSZ16.out; omega))
  replace D8 := uh (D8.out.keep HM.out (fun b hb e => by have := FB8.out b hb; have := HWA.out; have := HSZ5.out; have := HSZ8.out; have := HSZ9.out; have := HSZ10.out; have := HSZ14.out; have := HSZ15.out; have := HSZ16.out; omega))
  replace D9 := uh (D9.out.keep HM.out (fun b hb e => by have := FB9.out b hb; have := HWA.out; have := HSZ5.out; have := HSZ8.out; have := HSZ9.out; have := HSZ10.out; have := HSZ14.out; have := HSZ15.out; have := HSZ16.out; omega))
  replace D10 := uh (D10.out.keep HM.out (fun b hb e => by have := FB10.out b hb; have := HWA.out; have := HSZ5.out; have := HSZ8.out; have := HSZ9.out; have := HSZ10.out; have := HSZ14.out; have := HSZ15.out; have := HSZ16.out; omega))
  replace D14 := uh (D14.out.keep HM.out (fun b hb e => by have := FB14.out b hb; have := HWA.out; have := HSZ5.out; have := HSZ8.out; have := HSZ9.out; have := HSZ10.out; have := HSZ14.out; have := HSZ15.out; have := HSZ16.out; omega))
  replace D15 := uh (D15.out.keep HM.out (fun b hb e => by have := FB15.out b hb; have := HWA.out; have := HSZ5.out; have := HSZ8.out; have := HSZ9.out; have := HSZ10.out; have := HSZ14.out; have := HSZ15.out; have := HSZ16.out; omega))
  replace D16 := uh (D16.out.keep HM.out (fun b hb e => by have := FB16.out b hb; have := HWA.out; have := HSZ5.out; have := HSZ8.out; have := HSZ9.out; have := HSZ10.out; have := HSZ14.out; have := HSZ15.out; have := HSZ16.out; omega))
  refine wp_region_lit ?_
  refine wpList_load_mid rfl 38 _ rfl W.heap.size 0 rfl [.int .i64 a0, .int .i64 a1, .bool a2, .int .i64 a3, .int .i64 a4, .slice wa5 n5 wc5, .int .i64 a6, .int .i64 a7, .slice wa8 n8 wc8, .slice wa9 n9 wc9, .slice wa10 n10 wc10, .bool a11, .bool a12, .int .i64 a13, .slice wa14 n14 wc14, .slice wa15 n15 wc15, .slice wa16 n16 wc16, .int .i64 a17] _ HX.out.at_ Tryz.underlying38 rfl (by kernel_rfl) ?_
  refine wpList_store_mid rfl 38 _ _ rfl (W.heap.size + 1) 0 ([.int .i64 a0, .int .i64 a1, .bool a2, .int .i64 a3, .int .i64 a4, .slice wa5 n5 wc5, .int .i64 a6, .int .i64 a7, .slice wa8 n8 wc8, .slice wa9 n9 wc9, .slice wa10 n10 wc10, .bool a11, .bool a12, .int .i64 a13, .slice wa14 n14 wc14, .slice wa15 n15 wc15, .slice wa16 n16 wc16, .int .i64 a17] : List Value).toArray rfl rfl hth (by kernel_rfl) (by simp [Value.oneCell']) ?_
  simp only [Act.put, List.setIfInBounds_toArray, List.set_cons_zero, List.set_cons_succ]
  rw [← hwe]
  clear hwe hth
  go_wp2
  refine bodyPost_ret (v := .agg ([.int .i64 a0, .int .i64 a1, .bool a2, .int .i64 a3, .int .i64 a4, .slice wa5 n5 wc5, .int .i64 a6, .int .i64 a7, .slice wa8 n8 wc8, .slice wa9 n9 wc9, .slice wa10 n10 wc10, .bool a11, .bool a12, .int .i64 a13, .slice wa14 n14 wc14, .slice wa15 n15 wc15, .slice wa16 n16 wc16, .int .i64 a17] : List Value).toArray) (by simp [results, Tryz.results27, asAddr, run_loadVar_mid (P := Tryz.prog) _ _ _ 38 [.int .i64 a0, .int .i64 a1, .bool a2, .int .i64 a3, .int .i64 a4, .slice wa5 n5 wc5, .int .i64 a6, .int .i64 a7, .slice wa8 n8 wc8, .slice wa9 n9 wc9, .slice wa10 n10 wc10, .bool a11, .bool a12, .int .i64 a13, .slice wa14 n14 wc14, .slice wa15 n15 wc15, .slice wa16 n16 wc16, .int .i64 a17] _ hrt Tryz.underlying38 rfl (by kernel_rfl)]) rfl ⟨[.int .i64 a0, .int .i64 a1, .bool a2, .int .i64 a3, .int .i64 a4, .slice wa5 n5 wc5, .int .i64 a6, .int .i64 a7, .slice wa8 n8 wc8, .slice wa9 n9 wc9, .slice wa10 n10 wc10, .bool a11, .bool a12, .int .i64 a13, .slice wa14 n14 wc14, .slice wa15 n15 wc15, .slice wa16 n16 wc16, .int .i64 a17], F5 ++ (F8 ++ (F9 ++ (F10 ++ (F14 ++ (F15 ++ (F16 ++ [])))))), rfl, ?_, ?_, ?_, HBE.out⟩
  · exact repRecorder_mk _ _ _ _ _ D5.out _ _ D8.out D9.out D10.out _ _ _ D14.out D15.out D16.out _
  · exact (nd_join (m := x5.heap.size) ND5.out (nd_join (m := x8.heap.size) ND8.out (nd_join (m := x9.heap.size) ND9.out (nd_join (m := x10.heap.size) ND10.out (nd_join (m := x14.heap.size) ND14.out (nd_join (m := x15.heap.size) ND15.out (by rw [List.append_nil]; exact ND16.out) (fun b hb => (FB15.out b hb).2) (lo_join (fun b hb => by have := FB16.out b hb; have := HWA.out; have := HSZ5.out; have := HSZ8.out; have := HSZ9.out; have := HSZ10.out; have := HSZ14.out; have := HSZ15.out; have := HSZ16.out; omega) (by simp))) (fun b hb => (FB14.out b hb).2) (lo_join (fun b hb => by have := FB15.out b hb; have := HWA.out; have := HSZ5.out; have := HSZ8.out; have := HSZ9.out; have := HSZ10.out; have := HSZ14.out; have := HSZ15.out; have := HSZ16.out; omega) (lo_join (fun b hb => by have := FB16.out b hb; have := HWA.out; have := HSZ5.out; have := HSZ8.out; have := HSZ9.out; have := HSZ10.out; have := HSZ14.out; have := HSZ15.out; have := HSZ16.out; omega) (by simp)))) (fun b hb => (FB10.out b hb).2) (lo_join (fun b hb => by have := FB14.out b hb; have := HWA.out; have := HSZ5.out; have := HSZ8.out; have := HSZ9.out; have := HSZ10.out; have := HSZ14.out; have := HSZ15.out; have := HSZ16.out; omega) (lo_join (fun b hb => by have := FB15.out b hb; have := HWA.out; have := HSZ5.out; have := HSZ8.out; have := HSZ9.out; have := HSZ10.out; have := HSZ14.out; have := HSZ15.out; have := HSZ16.out; omega) (lo_join (fun b hb => by have := FB16.out b hb; have := HWA.out; have := HSZ5.out; have := HSZ8.out; have := HSZ9.out; have := HSZ10.out; have := HSZ14.out; have := HSZ15.out; have := HSZ16.out; omega) (by simp))))) (fun b hb => (FB9.out b hb).2) (lo_join (fun b hb => by have := FB10.out b hb; have := HWA.out; have := HSZ5.out; have := HSZ8.out; have := HSZ9.out; have := HSZ10.out; have := HSZ14.out; have := HSZ15.out; have := HSZ16.out; omega) (lo_join (fun b hb => by have := FB14.out b hb; have := HWA.out; have := HSZ5.out; have := HSZ8.out; have := HSZ9.out; have := HSZ10.out; have := HSZ14.out; have := HSZ15.out; have := HSZ16.out; omega) (lo_join (fun b hb => by have := FB15.out b hb; have := HWA.out; have := HSZ5.out; have := HSZ8.out; have := HSZ9.out; have := HSZ10.out; have := HSZ14.out; have := HSZ15.out; have := HSZ16.out; omega) (lo_join (fun b hb => by have := FB16.out b hb; have := HWA.out; have := HSZ5.out; have := HSZ8.out; have := HSZ9.out; have := HSZ10.out; have := HSZ14.out; have := HSZ15.out; have := HSZ16.out; omega) (by simp)))))) (fun b hb => (FB8.out b hb).2) (lo_join (fun b hb => by have := FB9.out b hb; have := HWA.out; have := HSZ5.out; have := HSZ8.out; have := HSZ9.out; have := HSZ10.out; have := HSZ14.out; have := HSZ15.out; have := HSZ16.out; omega) (lo_join (fun b hb => by have := FB10.out b hb; have := HWA.out; have := HSZ5.out; have := HSZ8.out; have := HSZ9.out; have := HSZ10.out; have := HSZ14.out; have := HSZ15.out; have := HSZ16.out; omega) (lo_join (fun b hb => by have := FB14.out b hb; have := HWA.out; have := HSZ5.out; have := HSZ8.out; have := HSZ9.out; have := HSZ10.out; have := HSZ14.out; have := HSZ15.out; have := HSZ16.out; omega) (lo_join (fun b hb => by have := FB15.out b hb; have := HWA.out; have := HSZ5.out; have := HSZ8.out; have := HSZ9.out; have := HSZ10.out; have := HSZ14.out; have := HSZ15.out; have := HSZ16.out; omega) (lo_join (fun b hb => by have := FB16.out b hb; have := HWA.out; have := HSZ5.out; have := HSZ8.out; have := HSZ9.out; have := HSZ10.out; have := HSZ14.out; have := HSZ15.out; have := HSZ16.out; omega) (by simp))))))) (fun b hb => (FB5.out b hb).2) (lo_join (fun b hb => by have := FB8.out b hb; have := HWA.out; have := HSZ5.out; have := HSZ8.out; have := HSZ9.out; have := HSZ10.out; have := HSZ14.out; have := HSZ15.out; have := HSZ16.out; omega) (lo_join (fun b hb => by have := FB9.out b hb; have := HWA.out; have := HSZ5.out; have := HSZ8.out; have := HSZ9.out; have := HSZ10.out; have := HSZ14.out; have := HSZ15.out; have := HSZ16.out; omega) (lo_join (fun b hb => by have := FB10.out b hb; have := HWA.out; have := HSZ5.out; have := HSZ8.out; have := HSZ9.out; have := HSZ10.out; have := HSZ14.out; have := HSZ15.out; have := HSZ16.out; omega) (lo_join (fun b hb => by have := FB14.out b hb; have := HWA.out; have := HSZ5.out; have := HSZ8.out; have := HSZ9.out; have := HSZ10.out; have := HSZ14.out; have := HSZ15.out; have := HSZ16.out; omega) (lo_join (fun b hb => by have := FB15.out b hb; have := HWA.out; have := HSZ5.out; have := HSZ8.out; have := HSZ9.out; have := HSZ10.out; have := HSZ14.out; have := HSZ15.out; have := HSZ16.out; omega) (lo_join (fun b hb => by have := FB16.out b hb; have := HWA.out; have := HSZ5.out; have := HSZ8.out; have := HSZ9.out; have := HSZ10.out; have := HSZ14.out; have := HSZ15.out; have := HSZ16.out; omega) (by simp))))))))
  · exact (lo_join (fun b hb => by have := FB5.out b hb; have := HWA.out; have := HSZ5.out; have := HSZ8.out; have := HSZ9.out; have := HSZ10.out; have := HSZ14.out; have := HSZ15.out; have := HSZ16.out; omega) (lo_join (fun b hb => by have := FB8.out b hb; have := HWA.out; have := HSZ5.out; have := HSZ8.out; have := HSZ9.out; have := HSZ10.out; have := HSZ14.out; have := HSZ15.out; have := HSZ16.out; omega) (lo_join (fun b hb => by have := FB9.out b hb; have := HWA.out; have := HSZ5.out; have := HSZ8.out; have := HSZ9.out; have := HSZ10.out; have := HSZ14.out; have := HSZ15.out; have := HSZ16.out; omega) (lo_join (fun b hb => by have := FB10.out b hb; have := HWA.out; have := HSZ5.out; have := HSZ8.out; have := HSZ9.out; have := HSZ10.out; have := HSZ14.out; have := HSZ15.out; have := HSZ16.out; omega) (lo_join (fun b hb => by have := FB14.out b hb; have := HWA.out; have := HSZ5.out; have := HSZ8.out; have := HSZ9.out; have := HSZ10.out; have := HSZ14.out; have := HSZ15.out; have := HSZ16.out; omega) (lo_join (fun b hb => by have := FB15.out b hb; have := HWA.out; have := HSZ5.out; have := HSZ8.out; have := HSZ9.out; have := HSZ10.out; have := HSZ14.out; have := HSZ15.out; have := HSZ16.out; omega) (lo_join (fun b hb => by have := FB16.out b hb; have := HWA.out; have := HSZ5.out; have := HSZ8.out; have := HSZ9.out; have := HSZ10.out; have := HSZ14.out; have := HSZ15.out; have := HSZ16.out; omega) (by simp))))))))
end Go.Proofs.YtnifdpjmpbocnaaGreat
