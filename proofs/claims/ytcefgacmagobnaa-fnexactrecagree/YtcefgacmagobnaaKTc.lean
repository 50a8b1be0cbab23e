/-
  Copies of recorders.
-/
import Derived.Test.YtcefgacmagobnaaKTb
namespace Go.Proofs.Ytcefgacmagobnaa
open Go.RowKit Go.Deep

set_option maxRecDepth 8000 in
set_option maxHeartbeats 8000000 in
theorem toRecDisk (ds : List Dt) (cs : List Value) (w : World) (h : Raw w shRecDisk ds cs) (hs : wtL ds ≤ 1048576) :
    Calls Try.prog 76 #[.agg cs.toArray] w fun e w' => ∃ cs' F, e = .returned (.agg cs'.toArray) ∧ Rep w' true shRecDisk F ds cs' ∧ F.Nodup ∧ (∀ b ∈ F, w.heap.size ≤ b) ∧ Below w.heap.size w w' := by
  obtain ⟨a0, a1, n2, e2, v2, rfl, hcs, r2⟩ := segRawRecDisk h
  have R2 := uh r2
  have HCS := uh hcs
  simp only [wtL] at hs
  have HS := uh hs
  obtain ⟨wa, hwa⟩ : ∃ wa, wa = ((w.alloc (.cells cs.toArray 80)).alloc (.cells #[.int .i64 0, .int .i64 0, .slice none 0 0] 47)).alloc (.cells #[.int .i64 0, .int .i64 0, .slice none 0 0] 47) := ⟨_, rfl⟩
  have HB : Hid (Below w.heap.size w wa) := by show Below _ _ _; rw [hwa]; exact blw_alloc (blw_alloc (blw_alloc (Below.refl _ _) _) _) _
  have HX : Hid (LBox wa w.heap.size cs) := by show LBox _ _ _; rw [hwa]; exact ((LBox.new w cs.toArray _ _ rfl).past _).past _
  have HRS : Hid (OwnBlk wa (w.heap.size + 1) 47 3) := by show OwnBlk _ _ _ _; rw [hwa]; exact (OwnBlk.alloc_at3 _ _ _ _ _ rfl (by simp)).past _
  have HD : Hid (Bld wa (w.heap.size + 2) 47 3 [] [] [] []) := by show Bld _ _ _ _ _ _ _ _; rw [hwa]; exact Bld.nil (OwnBlk.alloc_at3 _ _ _ _ _ rfl (by simp))
  clear hcs hs h r2
  go_enter Try.func76, Try.ntmps76
  go_upto_region 2 with fail
  rw [← hwa]
  clear hwa
  have hbz := HX.out.lt
  have hqz := HD.out.own.lt
  have hfz := HD.out.own.frozen
  have hbx := boxRecDisk  (by have := HX.out.at_; rw [HCS.out] at this; exact this)
  have gc := hbx.1
  clear hbx
  obtain ⟨y0, hy⟩ : ∃ y, y = wa.setCell ⟨w.heap.size + 2, 0, none⟩ (.int .i64 a0) := ⟨_, rfl⟩
  obtain ⟨ux, eu⟩ := HD.out.own.cell 0 (by omega)
  have HD2 := uh (HD.out.put1 (j := 0) rfl (.i a0 .nil) (by omega))
  rw [← hy] at HD2
  replace HX : Hid (LBox y0 w.heap.size cs) := by show LBox _ _ _; rw [hy]; exact HX.out.other_ (by omega) _ _
  replace HRS : Hid (OwnBlk y0 (w.heap.size + 1) 47 3) := by show OwnBlk _ _ _ _; rw [hy]; exact HRS.out.sc_other (by omega) _ _
  replace HB : Hid (Below w.heap.size w y0) := by show Below _ _ _; rw [hy]; exact HB.out.setCell (p := ⟨w.heap.size + 2, 0, none⟩) (by show w.heap.size ≤ w.heap.size + 2; omega) _
  obtain ⟨D0, hD⟩ : ∃ D : List Value, D = [] ++ [.int .i64 a0] := ⟨_, rfl⟩
  rw [← hD] at HD2
  clear hD HD
  go_upto_region 3 with fail
  rw [← hy]
  clear hy eu gc hbz hqz hfz
  have HD := HD2
  clear HD2
  have hbz := HX.out.lt
  have hqz := HD.out.own.lt
  have hfz := HD.out.own.frozen
  have hbx := boxRecDisk  (by have := HX.out.at_; rw [HCS.out] at this; exact this)
  have gc := hbx.2.1
  clear hbx
  obtain ⟨y1, hy⟩ : ∃ y, y = y0.setCell ⟨w.heap.size + 2, 1, none⟩ (.int .i64 a1) := ⟨_, rfl⟩
  obtain ⟨ux, eu⟩ := HD.out.own.cell 1 (by omega)
  have HD2 := uh (HD.out.put1 (j := 1) rfl (.i a1 .nil) (by omega))
  rw [← hy] at HD2
  replace HX : Hid (LBox y1 w.heap.size cs) := by show LBox _ _ _; rw [hy]; exact HX.out.other_ (by omega) _ _
  replace HRS : Hid (OwnBlk y1 (w.heap.size + 1) 47 3) := by show OwnBlk _ _ _ _; rw [hy]; exact HRS.out.sc_other (by omega) _ _
  replace HB : Hid (Below w.heap.size w y1) := by show Below _ _ _; rw [hy]; exact HB.out.setCell (p := ⟨w.heap.size + 2, 1, none⟩) (by show w.heap.size ≤ w.heap.size + 2; omega) _
  obtain ⟨D1, hD⟩ : ∃ D : List Value, D = D0 ++ [.int .i64 a1] := ⟨_, rfl⟩
  rw [← hD] at HD2
  clear hD HD
  go_upto_region 4 with fail
  rw [← hy]
  clear hy eu gc hbz hqz hfz
  have HD := HD2
  clear HD2
  have hbz := HX.out.lt
  have hqz := HD.out.own.lt
  have hfz := HD.out.own.frozen
  have hbx := boxRecDisk  (by have := HX.out.at_; rw [HCS.out] at this; exact this)
  have gc := hbx.2.2
  clear hbx
  obtain ⟨va2, vc2, hva⟩ := R2.out.len0
  subst hva
  go_wp2_with fail
  refine (toRecSlotS n2 e2 (.slice va2 n2 vc2) y1 (R2.out.later HB.out) (by have := HS.out; omega)).mono ?_
  rintro e x2 ⟨w2, F2, rfl, rep, nd, fr, hb⟩
  obtain ⟨wa2, wc2, hva⟩ := rep.raw.len0
  subst hva
  obtain ⟨y2, hy⟩ : ∃ y, y = x2.setCell ⟨w.heap.size + 2, 2, none⟩ (.slice wa2 n2 wc2) := ⟨_, rfl⟩
  replace HB := uh (blw_trans HB.out hb)
  replace HX := uh (HX.out.later hb)
  replace HRS := uh (HRS.out.later hb)
  have HD2 := uh ((HD.out.later hb).put (j := 2) rfl rep nd fr (fun b hb => HD.out.rep.lt b hb) HD.out.own.lt (by decide))
  have hy2 : x2.setCells (w.heap.size + 2) 2 [.slice wa2 n2 wc2] = y2 := hy.symm
  rw [hy2] at HD2
  have HD3 := HD2
  clear HD2 hy2
  have hqz := (HD.out.later hb).own.lt
  have hfz := (HD.out.later hb).own.frozen
  obtain ⟨ux, eu⟩ := (HD.out.later hb).own.cell 2 (by omega)
  replace HX : Hid (LBox y2 w.heap.size cs) := by show LBox _ _ _; rw [hy]; exact HX.out.other_ (by omega) _ _
  replace HRS : Hid (OwnBlk y2 (w.heap.size + 1) 47 3) := by show OwnBlk _ _ _ _; rw [hy]; exact HRS.out.sc_other (by omega) _ _
  replace HB : Hid (Below w.heap.size w y2) := by show Below _ _ _; rw [hy]; exact HB.out.setCell (p := ⟨w.heap.size + 2, 2, none⟩) (by show w.heap.size ≤ w.heap.size + 2; omega) _
  obtain ⟨D2, hD⟩ : ∃ D : List Value, D = D1 ++ [.slice wa2 n2 wc2] := ⟨_, rfl⟩
  rw [← hD] at HD3
  clear hD HD rep nd fr
  go_upto_region 5 with fail
  rw [← hy]
  clear hy gc hbz hqz hfz hb eu
  have HD := HD3
  clear HD3
  have hlD : D2.length = 3 := HD.out.len
  have hth : y2.there (w.heap.size + 1) 0 D2.toArray.size := uthere HRS.out _ _ (by rw [List.size_toArray, hlD]; omega)
  have hone := all_oneCell_toArray HD.out.rep.raw.one
  have hsz : (Try.prog.info? 47).map (·.size) = some D2.toArray.size := by rw [List.size_toArray, hlD]; kernel_rfl
  obtain ⟨we, hwe⟩ : ∃ we, we = y2.setCells (w.heap.size + 1) 0 D2 := ⟨_, rfl⟩
  have hrt : we.rangeAt (w.heap.size + 1) 0 D2 := by rw [hwe]; exact World.rangeAt_setCells_same _ _ _ _ (by simpa using hth)
  have HBE : Hid (Below w.heap.size w we) := by show Below _ _ _; rw [hwe]; exact blw_scs (by omega) _ _ _ HB.out
  have HRE := uh (HD.out.rep.keep (w' := we) (S := fun b => b = w.heap.size + 1) (by rw [hwe]; exact mks_scs (S := fun b => b = w.heap.size + 1) rfl _ _ _) (fun b hb e => by have := HD.out.fr b hb; omega))
  refine wp_region_lit ?_
  refine wpList_load_mid rfl 47 _ rfl (w.heap.size + 2) 0 rfl D2 _ HD.out.at_ Try.underlying47 rfl (by rw [hlD]; kernel_rfl) ?_
  refine wpList_store_mid rfl 47 _ _ rfl (w.heap.size + 1) 0 D2.toArray rfl rfl hth hsz hone ?_
  simp only [Act.put, List.setIfInBounds_toArray, List.set_cons_zero, List.set_cons_succ]
  rw [← hwe]
  clear hwe hth hone hsz
  go_wp2
  refine bodyPost_ret (v := .agg D2.toArray) (by simp [results, Try.results76, asAddr, run_loadVar_mid (P := Try.prog) _ _ _ 47 D2 _ hrt Try.underlying47 rfl (by rw [hlD]; kernel_rfl)]) rfl ⟨D2, _, rfl, ?_, HD.out.nd, fun b hb => by have := HD.out.fr b hb; omega, HBE.out⟩
  exact HRE.out
set_option maxRecDepth 8000 in
set_option maxHeartbeats 8000000 in
theorem toRecorder (ds : List Dt) (cs : List Value) (w : World) (h : Raw w shRecorder ds cs) (hs : wtL ds ≤ 1048576) :
    Calls Try.prog 49 #[.agg cs.toArray] w fun e w' => ∃ cs' F, e = .returned (.agg cs'.toArray) ∧ Rep w' true shRecorder F ds cs' ∧ F.Nodup ∧ (∀ b ∈ F, w.heap.size ≤ b) ∧ Below w.heap.size w w' := by
  obtain ⟨a0, a1, a2, d3, c3, d4, c4, n5, e5, v5, n6, e6, v6, a7, a8, a9, n10, e10, v10, n11, e11, v11, n12, e12, v12, a13, rfl, hcs, r3, r4, r5, r6, r10, r11, r12⟩ := segRawRecorder h
  have L3 : Hid (c3.length = 3) := r3.len
  have R3 := uh r3
  have L4 : Hid (c4.length = 3) := r4.len
  have R4 := uh r4
  have R5 := uh r5
  have R6 := uh r6
  have R10 := uh r10
  have R11 := uh r11
  have R12 := uh r12
  have HCS := uh hcs
  simp only [wtL, wtL_app] at hs
  have HS := uh hs
  obtain ⟨wa, hwa⟩ : ∃ wa, wa = ((w.alloc (.cells cs.toArray 83)).alloc (.cells #[.int .i64 0, .int .i64 0, .bool false, .int .i64 0, .int .i64 0, .slice none 0 0, .int .i64 0, .int .i64 0, .slice none 0 0, .slice none 0 0, .slice none 0 0, .bool false, .bool false, .int .i64 0, .slice none 0 0, .slice none 0 0, .slice none 0 0, .int .i64 0] 52)).alloc (.cells #[.int .i64 0, .int .i64 0, .bool false, .int .i64 0, .int .i64 0, .slice none 0 0, .int .i64 0, .int .i64 0, .slice none 0 0, .slice none 0 0, .slice none 0 0, .bool false, .bool false, .int .i64 0, .slice none 0 0, .slice none 0 0, .slice none 0 0, .int .i64 0] 52) := ⟨_, rfl⟩
  have HB : Hid (Below w.heap.size w wa) := by show Below _ _ _; rw [hwa]; exact blw_alloc (blw_alloc (blw_alloc (Below.refl _ _) _) _) _
  have HX : Hid (LBox wa w.heap.size cs) := by show LBox _ _ _; rw [hwa]; exact ((LBox.new w cs.toArray _ _ rfl).past _).past _
  have HRS : Hid (OwnBlk wa (w.heap.size + 1) 52 18) := by show OwnBlk _ _ _ _; rw [hwa]; exact (OwnBlk.alloc_at3 _ _ _ _ _ rfl (by simp)).past _
  have HD : Hid (Bld wa (w.heap.size + 2) 52 18 [] [] [] []) := by show Bld _ _ _ _ _ _ _ _; rw [hwa]; exact Bld.nil (OwnBlk.alloc_at3 _ _ _ _ _ rfl (by simp))
  clear hcs hs h r3 r4 r5 r6 r10 r11 r12
  go_enter Try.func49, Try.ntmps49
  go_upto_region 2 with fail
  rw [← hwa]
  clear hwa
  have hbz := HX.out.lt
  have hqz := HD.out.own.lt
  have hfz := HD.out.own.frozen
  have hbx := boxRecorder L3.out L4.out (by have := HX.out.at_; rw [HCS.out] at this; exact this)
  have gc := hbx.1
  clear hbx
  obtain ⟨y0, hy⟩ : ∃ y, y = wa.setCell ⟨w.heap.size + 2, 0, none⟩ (.int .i64 a0) := ⟨_, rfl⟩
  obtain ⟨ux, eu⟩ := HD.out.own.cell 0 (by omega)
  have HD2 := uh (HD.out.put1 (j := 0) rfl (.i a0 .nil) (by omega))
  rw [← hy] at HD2
  replace HX : Hid (LBox y0 w.heap.size cs) := by show LBox _ _ _; rw [hy]; exact HX.out.other_ (by omega) _ _
  replace HRS : Hid (OwnBlk y0 (w.heap.size + 1) 52 18) := by show OwnBlk _ _ _ _; rw [hy]; exact HRS.out.sc_other (by omega) _ _
  replace HB : Hid (Below w.heap.size w y0) := by show Below _ _ _; rw [hy]; exact HB.out.setCell (p := ⟨w.heap.size + 2, 0, none⟩) (by show w.heap.size ≤ w.heap.size + 2; omega) _
  obtain ⟨D0, hD⟩ : ∃ D : List Value, D = [] ++ [.int .i64 a0] := ⟨_, rfl⟩
  rw [← hD] at HD2
  clear hD HD
  go_upto_region 3 with fail
  rw [← hy]
  clear hy eu gc hbz hqz hfz
  have HD := HD2
  clear HD2
  have hbz := HX.out.lt
  have hqz := HD.out.own.lt
  have hfz := HD.out.own.frozen
  have hbx := boxRecorder L3.out L4.out (by have := HX.out.at_; rw [HCS.out] at this; exact this)
  have gc := hbx.2.1
  clear hbx
  obtain ⟨y1, hy⟩ : ∃ y, y = y0.setCell ⟨w.heap.size + 2, 1, none⟩ (.int .i64 a1) := ⟨_, rfl⟩
  obtain ⟨ux, eu⟩ := HD.out.own.cell 1 (by omega)
  have HD2 := uh (HD.out.put1 (j := 1) rfl (.i a1 .nil) (by omega))
  rw [← hy] at HD2
  replace HX : Hid (LBox y1 w.heap.size cs) := by show LBox _ _ _; rw [hy]; exact HX.out.other_ (by omega) _ _
  replace HRS : Hid (OwnBlk y1 (w.heap.size + 1) 52 18) := by show OwnBlk _ _ _ _; rw [hy]; exact HRS.out.sc_other (by omega) _ _
  replace HB : Hid (Below w.heap.size w y1) := by show Below _ _ _; rw [hy]; exact HB.out.setCell (p := ⟨w.heap.size + 2, 1, none⟩) (by show w.heap.size ≤ w.heap.size + 2; omega) _
  obtain ⟨D1, hD⟩ : ∃ D : List Value, D = D0 ++ [.int .i64 a1] := ⟨_, rfl⟩
  rw [← hD] at HD2
  clear hD HD
  go_upto_region 4 with fail
  rw [← hy]
  clear hy eu gc hbz hqz hfz
  have HD := HD2
  clear HD2
  have hbz := HX.out.lt
  have hqz := HD.out.own.lt
  have hfz := HD.out.own.frozen
  have hbx := boxRecorder L3.out L4.out (by have := HX.out.at_; rw [HCS.out] at this; exact this)
  have gc := hbx.2.2.1
  clear hbx
  obtain ⟨y2, hy⟩ : ∃ y, y = y1.setCell ⟨w.heap.size + 2, 2, none⟩ (.bool a2) := ⟨_, rfl⟩
  obtain ⟨ux, eu⟩ := HD.out.own.cell 2 (by omega)
  have HD2 := uh (HD.out.put1 (j := 2) rfl (.b a2 .nil) (by omega))
  rw [← hy] at HD2
  replace HX : Hid (LBox y2 w.heap.size cs) := by show LBox _ _ _; rw [hy]; exact HX.out.other_ (by omega) _ _
  replace HRS : Hid (OwnBlk y2 (w.heap.size + 1) 52 18) := by show OwnBlk _ _ _ _; rw [hy]; exact HRS.out.sc_other (by omega) _ _
  replace HB : Hid (Below w.heap.size w y2) := by show Below _ _ _; rw [hy]; exact HB.out.setCell (p := ⟨w.heap.size + 2, 2, none⟩) (by show w.heap.size ≤ w.heap.size + 2; omega) _
  obtain ⟨D2, hD⟩ : ∃ D : List Value, D = D1 ++ [.bool a2] := ⟨_, rfl⟩
  rw [← hD] at HD2
  clear hD HD
  go_upto_region 5 with fail
  rw [← hy]
  clear hy eu gc hbz hqz hfz
  have HD := HD2
  clear HD2
  have hbz := HX.out.lt
  have hqz := HD.out.own.lt
  have hfz := HD.out.own.frozen
  have hbx := boxRecorder L3.out L4.out (by have := HX.out.at_; rw [HCS.out] at this; exact this)
  have gc := hbx.2.2.2.1
  clear hbx
  go_wp2_with (refine wpList_load_mid rfl 80 _ rfl w.heap.size 3 rfl c3 _ gc Try.underlying80 rfl (by rw [L3.out]; kernel_rfl) ?_)
  refine (toRecDisk d3 c3 y2 (R3.out.later HB.out) (by have := HS.out; omega)).mono ?_
  rintro e x3 ⟨w3, F3, rfl, rep, nd, fr, hb⟩
  obtain ⟨y3, hy⟩ : ∃ y, y = x3.setCells (w.heap.size + 2) 3 w3 := ⟨_, rfl⟩
  have hl := rep.len
  have hth : x3.there (w.heap.size + 2) 3 w3.toArray.size := uthere (HD.out.later hb).own _ _ (by rw [List.size_toArray, hl]; show 3 + 3 ≤ 18; omega)
  have hone := all_oneCell_toArray rep.raw.one
  have hsz : (Try.prog.info? 47).map (·.size) = some w3.toArray.size := by rw [List.size_toArray, hl]; kernel_rfl
  replace HB := uh (blw_trans HB.out hb)
  replace HX := uh (HX.out.later hb)
  replace HRS := uh (HRS.out.later hb)
  have HD2 := uh ((HD.out.later hb).put (j := 3) rfl rep nd fr (fun b hb => HD.out.rep.lt b hb) HD.out.own.lt (by decide))
  have hy2 : x3.setCells (w.heap.size + 2) 3 w3 = y3 := hy.symm
  rw [hy2] at HD2
  have HD3 := HD2
  clear HD2 hy2
  have hqz := (HD.out.later hb).own.lt
  have hfz := (HD.out.later hb).own.frozen
  replace HX : Hid (LBox y3 w.heap.size cs) := by show LBox _ _ _; rw [hy]; exact HX.out.mks (mks_scs (S := fun b => b = w.heap.size + 2) rfl _ _ _) (by show ¬ w.heap.size = w.heap.size + 2; omega)
  replace HRS : Hid (OwnBlk y3 (w.heap.size + 1) 52 18) := by show OwnBlk _ _ _ _; rw [hy]; exact own_scs _ _ _ HRS.out
  replace HB : Hid (Below w.heap.size w y3) := by show Below _ _ _; rw [hy]; exact blw_scs (by omega) _ _ _ HB.out
  obtain ⟨D3, hD⟩ : ∃ D : List Value, D = D2 ++ w3 := ⟨_, rfl⟩
  rw [← hD] at HD3
  clear hD HD rep nd fr hl
  go_upto_region 6 with (refine wpList_store_mid rfl 47 _ _ rfl (w.heap.size + 2) 3 w3.toArray rfl rfl hth hsz hone ?_)
  first | rw [← hy] | (simp only [List.toList_toArray]; rw [← hy])
  clear hy gc hbz hqz hfz hb hth hone hsz
  have HD := HD3
  clear HD3
  have hbz := HX.out.lt
  have hqz := HD.out.own.lt
  have hfz := HD.out.own.frozen
  have hbx := boxRecorder L3.out L4.out (by have := HX.out.at_; rw [HCS.out] at this; exact this)
  have gc := hbx.2.2.2.2.1
  clear hbx
  go_wp2_with (refine wpList_load_mid rfl 80 _ rfl w.heap.size 6 rfl c4 _ gc Try.underlying80 rfl (by rw [L4.out]; kernel_rfl) ?_)
  refine (toRecDisk d4 c4 y3 (R4.out.later HB.out) (by have := HS.out; omega)).mono ?_
  rintro e x4 ⟨w4, F4, rfl, rep, nd, fr, hb⟩
  obtain ⟨y4, hy⟩ : ∃ y, y = x4.setCells (w.heap.size + 2) 6 w4 := ⟨_, rfl⟩
  have hl := rep.len
  have hth : x4.there (w.heap.size + 2) 6 w4.toArray.size := uthere (HD.out.later hb).own _ _ (by rw [List.size_toArray, hl]; show 6 + 3 ≤ 18; omega)
  have hone := all_oneCell_toArray rep.raw.one
  have hsz : (Try.prog.info? 47).map (·.size) = some w4.toArray.size := by rw [List.size_toArray, hl]; kernel_rfl
  replace HB := uh (blw_trans HB.out hb)
  replace HX := uh (HX.out.later hb)
  replace HRS := uh (HRS.out.later hb)
  have HD2 := uh ((HD.out.later hb).put (j := 6) rfl rep nd fr (fun b hb => HD.out.rep.lt b hb) HD.out.own.lt (by decide))
  have hy2 : x4.setCells (w.heap.size + 2) 6 w4 = y4 := hy.symm
  rw [hy2] at HD2
  have HD3 := HD2
  clear HD2 hy2
  have hqz := (HD.out.later hb).own.lt
  have hfz := (HD.out.later hb).own.frozen
  replace HX : Hid (LBox y4 w.heap.size cs) := by show LBox _ _ _; rw [hy]; exact HX.out.mks (mks_scs (S := fun b => b = w.heap.size + 2) rfl _ _ _) (by show ¬ w.heap.size = w.heap.size + 2; omega)
  replace HRS : Hid (OwnBlk y4 (w.heap.size + 1) 52 18) := by show OwnBlk _ _ _ _; rw [hy]; exact own_scs _ _ _ HRS.out
  replace HB : Hid (Below w.heap.size w y4) := by show Below _ _ _; rw [hy]; exact blw_scs (by omega) _ _ _ HB.out
  obtain ⟨D4, hD⟩ : ∃ D : List Value, D = D3 ++ w4 := ⟨_, rfl⟩
  rw [← hD] at HD3
  clear hD HD rep nd fr hl
  go_upto_region 7 with (refine wpList_store_mid rfl 47 _ _ rfl (w.heap.size + 2) 6 w4.toArray rfl rfl hth hsz hone ?_)
  first | rw [← hy] | (simp only [List.toList_toArray]; rw [← hy])
  clear hy gc hbz hqz hfz hb hth hone hsz
  have HD := HD3
  clear HD3
  have hbz := HX.out.lt
  have hqz := HD.out.own.lt
  have hfz := HD.out.own.frozen
  have hbx := boxRecorder L3.out L4.out (by have := HX.out.at_; rw [HCS.out] at this; exact this)
  have gc := hbx.2.2.2.2.2.1
  clear hbx
  obtain ⟨va5, vc5, hva⟩ := R5.out.len0
  subst hva
  go_wp2_with fail
  refine (toRecMessageS n5 e5 (.slice va5 n5 vc5) y4 (R5.out.later HB.out) (by have := HS.out; omega)).mono ?_
  rintro e x5 ⟨w5, F5, rfl, rep, nd, fr, hb⟩
  obtain ⟨wa5, wc5, hva⟩ := rep.raw.len0
  subst hva
  obtain ⟨y5, hy⟩ : ∃ y, y = x5.setCell ⟨w.heap.size + 2, 9, none⟩ (.slice wa5 n5 wc5) := ⟨_, rfl⟩
  replace HB := uh (blw_trans HB.out hb)
  replace HX := uh (HX.out.later hb)
  replace HRS := uh (HRS.out.later hb)
  have HD2 := uh ((HD.out.later hb).put (j := 9) rfl rep nd fr (fun b hb => HD.out.rep.lt b hb) HD.out.own.lt (by decide))
  have hy2 : x5.setCells (w.heap.size + 2) 9 [.slice wa5 n5 wc5] = y5 := hy.symm
  rw [hy2] at HD2
  have HD3 := HD2
  clear HD2 hy2
  have hqz := (HD.out.later hb).own.lt
  have hfz := (HD.out.later hb).own.frozen
  obtain ⟨ux, eu⟩ := (HD.out.later hb).own.cell 9 (by omega)
  replace HX : Hid (LBox y5 w.heap.size cs) := by show LBox _ _ _; rw [hy]; exact HX.out.other_ (by omega) _ _
  replace HRS : Hid (OwnBlk y5 (w.heap.size + 1) 52 18) := by show OwnBlk _ _ _ _; rw [hy]; exact HRS.out.sc_other (by omega) _ _
  replace HB : Hid (Below w.heap.size w y5) := by show Below _ _ _; rw [hy]; exact HB.out.setCell (p := ⟨w.heap.size + 2, 9, none⟩) (by show w.heap.size ≤ w.heap.size + 2; omega) _
  obtain ⟨D5, hD⟩ : ∃ D : List Value, D = D4 ++ [.slice wa5 n5 wc5] := ⟨_, rfl⟩
  rw [← hD] at HD3
  clear hD HD rep nd fr
  go_upto_region 8 with fail
  rw [← hy]
  clear hy gc hbz hqz hfz hb eu
  have HD := HD3
  clear HD3
  have hbz := HX.out.lt
  have hqz := HD.out.own.lt
  have hfz := HD.out.own.frozen
  have hbx := boxRecorder L3.out L4.out (by have := HX.out.at_; rw [HCS.out] at this; exact this)
  have gc := hbx.2.2.2.2.2.2.1
  clear hbx
  obtain ⟨va6, vc6, hva⟩ := R6.out.len0
  subst hva
  go_wp2_with fail
  refine (toStringS n6 e6 (.slice va6 n6 vc6) y5 (R6.out.later HB.out) (by have := HS.out; omega)).mono ?_
  rintro e x6 ⟨w6, F6, rfl, rep, nd, fr, hb⟩
  obtain ⟨wa6, wc6, hva⟩ := rep.raw.len0
  subst hva
  obtain ⟨y6, hy⟩ : ∃ y, y = x6.setCell ⟨w.heap.size + 2, 10, none⟩ (.slice wa6 n6 wc6) := ⟨_, rfl⟩
  replace HB := uh (blw_trans HB.out hb)
  replace HX := uh (HX.out.later hb)
  replace HRS := uh (HRS.out.later hb)
  have HD2 := uh ((HD.out.later hb).put (j := 10) rfl rep nd fr (fun b hb => HD.out.rep.lt b hb) HD.out.own.lt (by decide))
  have hy2 : x6.setCells (w.heap.size + 2) 10 [.slice wa6 n6 wc6] = y6 := hy.symm
  rw [hy2] at HD2
  have HD3 := HD2
  clear HD2 hy2
  have hqz := (HD.out.later hb).own.lt
  have hfz := (HD.out.later hb).own.frozen
  obtain ⟨ux, eu⟩ := (HD.out.later hb).own.cell 10 (by omega)
  replace HX : Hid (LBox y6 w.heap.size cs) := by show LBox _ _ _; rw [hy]; exact HX.out.other_ (by omega) _ _
  replace HRS : Hid (OwnBlk y6 (w.heap.size + 1) 52 18) := by show OwnBlk _ _ _ _; rw [hy]; exact HRS.out.sc_other (by omega) _ _
  replace HB : Hid (Below w.heap.size w y6) := by show Below _ _ _; rw [hy]; exact HB.out.setCell (p := ⟨w.heap.size + 2, 10, none⟩) (by show w.heap.size ≤ w.heap.size + 2; omega) _
  obtain ⟨D6, hD⟩ : ∃ D : List Value, D = D5 ++ [.slice wa6 n6 wc6] := ⟨_, rfl⟩
  rw [← hD] at HD3
  clear hD HD rep nd fr
  go_upto_region 9 with fail
  rw [← hy]
  clear hy gc hbz hqz hfz hb eu
  have HD := HD3
  clear HD3
  have hbz := HX.out.lt
  have hqz := HD.out.own.lt
  have hfz := HD.out.own.frozen
  have hbx := boxRecorder L3.out L4.out (by have := HX.out.at_; rw [HCS.out] at this; exact this)
  have gc := hbx.2.2.2.2.2.2.2.1
  clear hbx
  obtain ⟨y7, hy⟩ : ∃ y, y = y6.setCell ⟨w.heap.size + 2, 11, none⟩ (.bool a7) := ⟨_, rfl⟩
  obtain ⟨ux, eu⟩ := HD.out.own.cell 11 (by omega)
  have HD2 := uh (HD.out.put1 (j := 11) rfl (.b a7 .nil) (by omega))
  rw [← hy] at HD2
  replace HX : Hid (LBox y7 w.heap.size cs) := by show LBox _ _ _; rw [hy]; exact HX.out.other_ (by omega) _ _
  replace HRS : Hid (OwnBlk y7 (w.heap.size + 1) 52 18) := by show OwnBlk _ _ _ _; rw [hy]; exact HRS.out.sc_other (by omega) _ _
  replace HB : Hid (Below w.heap.size w y7) := by show Below _ _ _; rw [hy]; exact HB.out.setCell (p := ⟨w.heap.size + 2, 11, none⟩) (by show w.heap.size ≤ w.heap.size + 2; omega) _
  obtain ⟨D7, hD⟩ : ∃ D : List Value, D = D6 ++ [.bool a7] := ⟨_, rfl⟩
  rw [← hD] at HD2
  clear hD HD
  go_upto_region 10 with fail
  rw [← hy]
  clear hy eu gc hbz hqz hfz
  have HD := HD2
  clear HD2
  have hbz := HX.out.lt
  have hqz := HD.out.own.lt
  have hfz := HD.out.own.frozen
  have hbx := boxRecorder L3.out L4.out (by have := HX.out.at_; rw [HCS.out] at this; exact this)
  have gc := hbx.2.2.2.2.2.2.2.2.1
  clear hbx
  obtain ⟨y8, hy⟩ : ∃ y, y = y7.setCell ⟨w.heap.size + 2, 12, none⟩ (.bool a8) := ⟨_, rfl⟩
  obtain ⟨ux, eu⟩ := HD.out.own.cell 12 (by omega)
  have HD2 := uh (HD.out.put1 (j := 12) rfl (.b a8 .nil) (by omega))
  rw [← hy] at HD2
  replace HX : Hid (LBox y8 w.heap.size cs) := by show LBox _ _ _; rw [hy]; exact HX.out.other_ (by omega) _ _
  replace HRS : Hid (OwnBlk y8 (w.heap.size + 1) 52 18) := by show OwnBlk _ _ _ _; rw [hy]; exact HRS.out.sc_other (by omega) _ _
  replace HB : Hid (Below w.heap.size w y8) := by show Below _ _ _; rw [hy]; exact HB.out.setCell (p := ⟨w.heap.size + 2, 12, none⟩) (by show w.heap.size ≤ w.heap.size + 2; omega) _
  obtain ⟨D8, hD⟩ : ∃ D : List Value, D = D7 ++ [.bool a8] := ⟨_, rfl⟩
  rw [← hD] at HD2
  clear hD HD
  go_upto_region 11 with fail
  rw [← hy]
  clear hy eu gc hbz hqz hfz
  have HD := HD2
  clear HD2
  have hbz := HX.out.lt
  have hqz := HD.out.own.lt
  have hfz := HD.out.own.frozen
  have hbx := boxRecorder L3.out L4.out (by have := HX.out.at_; rw [HCS.out] at this; exact this)
  have gc := hbx.2.2.2.2.2.2.2.2.2.1
  clear hbx
  obtain ⟨y9, hy⟩ : ∃ y, y = y8.setCell ⟨w.heap.size + 2, 13, none⟩ (.int .i64 a9) := ⟨_, rfl⟩
  obtain ⟨ux, eu⟩ := HD.out.own.cell 13 (by omega)
  have HD2 := uh (HD.out.put1 (j := 13) rfl (.i a9 .nil) (by omega))
  rw [← hy] at HD2
  replace HX : Hid (LBox y9 w.heap.size cs) := by show LBox _ _ _; rw [hy]; exact HX.out.other_ (by omega) _ _
  replace HRS : Hid (OwnBlk y9 (w.heap.size + 1) 52 18) := by show OwnBlk _ _ _ _; rw [hy]; exact HRS.out.sc_other (by omega) _ _
  replace HB : Hid (Below w.heap.size w y9) := by show Below _ _ _; rw [hy]; exact HB.out.setCell (p := ⟨w.heap.size + 2, 13, none⟩) (by show w.heap.size ≤ w.heap.size + 2; omega) _
  obtain ⟨D9, hD⟩ : ∃ D : List Value, D = D8 ++ [.int .i64 a9] := ⟨_, rfl⟩
  rw [← hD] at HD2
  clear hD HD
  go_upto_region 12 with fail
  rw [← hy]
  clear hy eu gc hbz hqz hfz
  have HD := HD2
  clear HD2
  have hbz := HX.out.lt
  have hqz := HD.out.own.lt
  have hfz := HD.out.own.frozen
  have hbx := boxRecorder L3.out L4.out (by have := HX.out.at_; rw [HCS.out] at this; exact this)
  have gc := hbx.2.2.2.2.2.2.2.2.2.2.1
  clear hbx
  obtain ⟨va10, vc10, hva⟩ := R10.out.len0
  subst hva
  go_wp2_with fail
  refine (toIntS n10 e10 (.slice va10 n10 vc10) y9 (R10.out.later HB.out) (by have := HS.out; omega)).mono ?_
  rintro e x10 ⟨w10, F10, rfl, rep, nd, fr, hb⟩
  obtain ⟨wa10, wc10, hva⟩ := rep.raw.len0
  subst hva
  obtain ⟨y10, hy⟩ : ∃ y, y = x10.setCell ⟨w.heap.size + 2, 14, none⟩ (.slice wa10 n10 wc10) := ⟨_, rfl⟩
  replace HB := uh (blw_trans HB.out hb)
  replace HX := uh (HX.out.later hb)
  replace HRS := uh (HRS.out.later hb)
  have HD2 := uh ((HD.out.later hb).put (j := 14) rfl rep nd fr (fun b hb => HD.out.rep.lt b hb) HD.out.own.lt (by decide))
  have hy2 : x10.setCells (w.heap.size + 2) 14 [.slice wa10 n10 wc10] = y10 := hy.symm
  rw [hy2] at HD2
  have HD3 := HD2
  clear HD2 hy2
  have hqz := (HD.out.later hb).own.lt
  have hfz := (HD.out.later hb).own.frozen
  obtain ⟨ux, eu⟩ := (HD.out.later hb).own.cell 14 (by omega)
  replace HX : Hid (LBox y10 w.heap.size cs) := by show LBox _ _ _; rw [hy]; exact HX.out.other_ (by omega) _ _
  replace HRS : Hid (OwnBlk y10 (w.heap.size + 1) 52 18) := by show OwnBlk _ _ _ _; rw [hy]; exact HRS.out.sc_other (by omega) _ _
  replace HB : Hid (Below w.heap.size w y10) := by show Below _ _ _; rw [hy]; exact HB.out.setCell (p := ⟨w.heap.size + 2, 14, none⟩) (by show w.heap.size ≤ w.heap.size + 2; omega) _
  obtain ⟨D10, hD⟩ : ∃ D : List Value, D = D9 ++ [.slice wa10 n10 wc10] := ⟨_, rfl⟩
  rw [← hD] at HD3
  clear hD HD rep nd fr
  go_upto_region 13 with fail
  rw [← hy]
  clear hy gc hbz hqz hfz hb eu
  have HD := HD3
  clear HD3
  have hbz := HX.out.lt
  have hqz := HD.out.own.lt
  have hfz := HD.out.own.frozen
  have hbx := boxRecorder L3.out L4.out (by have := HX.out.at_; rw [HCS.out] at this; exact this)
  have gc := hbx.2.2.2.2.2.2.2.2.2.2.2.1
  clear hbx
  obtain ⟨va11, vc11, hva⟩ := R11.out.len0
  subst hva
  go_wp2_with fail
  refine (toRecSlotS n11 e11 (.slice va11 n11 vc11) y10 (R11.out.later HB.out) (by have := HS.out; omega)).mono ?_
  rintro e x11 ⟨w11, F11, rfl, rep, nd, fr, hb⟩
  obtain ⟨wa11, wc11, hva⟩ := rep.raw.len0
  subst hva
  obtain ⟨y11, hy⟩ : ∃ y, y = x11.setCell ⟨w.heap.size + 2, 15, none⟩ (.slice wa11 n11 wc11) := ⟨_, rfl⟩
  replace HB := uh (blw_trans HB.out hb)
  replace HX := uh (HX.out.later hb)
  replace HRS := uh (HRS.out.later hb)
  have HD2 := uh ((HD.out.later hb).put (j := 15) rfl rep nd fr (fun b hb => HD.out.rep.lt b hb) HD.out.own.lt (by decide))
  have hy2 : x11.setCells (w.heap.size + 2) 15 [.slice wa11 n11 wc11] = y11 := hy.symm
  rw [hy2] at HD2
  have HD3 := HD2
  clear HD2 hy2
  have hqz := (HD.out.later hb).own.lt
  have hfz := (HD.out.later hb).own.frozen
  obtain ⟨ux, eu⟩ := (HD.out.later hb).own.cell 15 (by omega)
  replace HX : Hid (LBox y11 w.heap.size cs) := by show LBox _ _ _; rw [hy]; exact HX.out.other_ (by omega) _ _
  replace HRS : Hid (OwnBlk y11 (w.heap.size + 1) 52 18) := by show OwnBlk _ _ _ _; rw [hy]; exact HRS.out.sc_other (by omega) _ _
  replace HB : Hid (Below w.heap.size w y11) := by show Below _ _ _; rw [hy]; exact HB.out.setCell (p := ⟨w.heap.size + 2, 15, none⟩) (by show w.heap.size ≤ w.heap.size + 2; omega) _
  obtain ⟨D11, hD⟩ : ∃ D : List Value, D = D10 ++ [.slice wa11 n11 wc11] := ⟨_, rfl⟩
  rw [← hD] at HD3
  clear hD HD rep nd fr
  go_upto_region 14 with fail
  rw [← hy]
  clear hy gc hbz hqz hfz hb eu
  have HD := HD3
  clear HD3
  have hbz := HX.out.lt
  have hqz := HD.out.own.lt
  have hfz := HD.out.own.frozen
  have hbx := boxRecorder L3.out L4.out (by have := HX.out.at_; rw [HCS.out] at this; exact this)
  have gc := hbx.2.2.2.2.2.2.2.2.2.2.2.2.1
  clear hbx
  obtain ⟨va12, vc12, hva⟩ := R12.out.len0
  subst hva
  go_wp2_with fail
  refine (toRecAckS n12 e12 (.slice va12 n12 vc12) y11 (R12.out.later HB.out) (by have := HS.out; omega)).mono ?_
  rintro e x12 ⟨w12, F12, rfl, rep, nd, fr, hb⟩
  obtain ⟨wa12, wc12, hva⟩ := rep.raw.len0
  subst hva
  obtain ⟨y12, hy⟩ : ∃ y, y = x12.setCell ⟨w.heap.size + 2, 16, none⟩ (.slice wa12 n12 wc12) := ⟨_, rfl⟩
  replace HB := uh (blw_trans HB.out hb)
  replace HX := uh (HX.out.later hb)
  replace HRS := uh (HRS.out.later hb)
  have HD2 := uh ((HD.out.later hb).put (j := 16) rfl rep nd fr (fun b hb => HD.out.rep.lt b hb) HD.out.own.lt (by decide))
  have hy2 : x12.setCells (w.heap.size + 2) 16 [.slice wa12 n12 wc12] = y12 := hy.symm
  rw [hy2] at HD2
  have HD3 := HD2
  clear HD2 hy2
  have hqz := (HD.out.later hb).own.lt
  have hfz := (HD.out.later hb).own.frozen
  obtain ⟨ux, eu⟩ := (HD.out.later hb).own.cell 16 (by omega)
  replace HX : Hid (LBox y12 w.heap.size cs) := by show LBox _ _ _; rw [hy]; exact HX.out.other_ (by omega) _ _
  replace HRS : Hid (OwnBlk y12 (w.heap.size + 1) 52 18) := by show OwnBlk _ _ _ _; rw [hy]; exact HRS.out.sc_other (by omega) _ _
  replace HB : Hid (Below w.heap.size w y12) := by show Below _ _ _; rw [hy]; exact HB.out.setCell (p := ⟨w.heap.size + 2, 16, none⟩) (by show w.heap.size ≤ w.heap.size + 2; omega) _
  obtain ⟨D12, hD⟩ : ∃ D : List Value, D = D11 ++ [.slice wa12 n12 wc12] := ⟨_, rfl⟩
  rw [← hD] at HD3
  clear hD HD rep nd fr
  go_upto_region 15 with fail
  rw [← hy]
  clear hy gc hbz hqz hfz hb eu
  have HD := HD3
  clear HD3
  have hbz := HX.out.lt
  have hqz := HD.out.own.lt
  have hfz := HD.out.own.frozen
  have hbx := boxRecorder L3.out L4.out (by have := HX.out.at_; rw [HCS.out] at this; exact this)
  have gc := hbx.2.2.2.2.2.2.2.2.2.2.2.2.2
  clear hbx
  obtain ⟨y13, hy⟩ : ∃ y, y = y12.setCell ⟨w.heap.size + 2, 17, none⟩ (.int .i64 a13) := ⟨_, rfl⟩
  obtain ⟨ux, eu⟩ := HD.out.own.cell 17 (by omega)
  have HD2 := uh (HD.out.put1 (j := 17) rfl (.i a13 .nil) (by omega))
  rw [← hy] at HD2
  replace HX : Hid (LBox y13 w.heap.size cs) := by show LBox _ _ _; rw [hy]; exact HX.out.other_ (by omega) _ _
  replace HRS : Hid (OwnBlk y13 (w.heap.size + 1) 52 18) := by show OwnBlk _ _ _ _; rw [hy]; exact HRS.out.sc_other (by omega) _ _
  replace HB : Hid (Below w.heap.size w y13) := by show Below _ _ _; rw [hy]; exact HB.out.setCell (p := ⟨w.heap.size + 2, 17, none⟩) (by show w.heap.size ≤ w.heap.size + 2; omega) _
  obtain ⟨D13, hD⟩ : ∃ D : List Value, D = D12 ++ [.int .i64 a13] := ⟨_, rfl⟩
  rw [← hD] at HD2
  clear hD HD
  go_upto_region 16 with fail
  rw [← hy]
  clear hy eu gc hbz hqz hfz
  have HD := HD2
  clear HD2
  have hlD : D13.length = 18 := HD.out.len
  have hth : y13.there (w.heap.size + 1) 0 D13.toArray.size := uthere HRS.out _ _ (by rw [List.size_toArray, hlD]; omega)
  have hone := all_oneCell_toArray HD.out.rep.raw.one
  have hsz : (Try.prog.info? 52).map (·.size) = some D13.toArray.size := by rw [List.size_toArray, hlD]; kernel_rfl
  obtain ⟨we, hwe⟩ : ∃ we, we = y13.setCells (w.heap.size + 1) 0 D13 := ⟨_, rfl⟩
  have hrt : we.rangeAt (w.heap.size + 1) 0 D13 := by rw [hwe]; exact World.rangeAt_setCells_same _ _ _ _ (by simpa using hth)
  have HBE : Hid (Below w.heap.size w we) := by show Below _ _ _; rw [hwe]; exact blw_scs (by omega) _ _ _ HB.out
  have HRE := uh (HD.out.rep.keep (w' := we) (S := fun b => b = w.heap.size + 1) (by rw [hwe]; exact mks_scs (S := fun b => b = w.heap.size + 1) rfl _ _ _) (fun b hb e => by have := HD.out.fr b hb; omega))
  refine wp_region_lit ?_
  refine wpList_load_mid rfl 52 _ rfl (w.heap.size + 2) 0 rfl D13 _ HD.out.at_ Try.underlying52 rfl (by rw [hlD]; kernel_rfl) ?_
  refine wpList_store_mid rfl 52 _ _ rfl (w.heap.size + 1) 0 D13.toArray rfl rfl hth hsz hone ?_
  simp only [Act.put, List.setIfInBounds_toArray, List.set_cons_zero, List.set_cons_succ]
  rw [← hwe]
  clear hwe hth hone hsz
  go_wp2
  refine bodyPost_ret (v := .agg D13.toArray) (by simp [results, Try.results49, asAddr, run_loadVar_mid (P := Try.prog) _ _ _ 52 D13 _ hrt Try.underlying52 rfl (by rw [hlD]; kernel_rfl)]) rfl ⟨D13, _, rfl, ?_, HD.out.nd, fun b hb => by have := HD.out.fr b hb; omega, HBE.out⟩
  have hde : ((((((((((((((([] ++ [.i a0]) ++ [.i a1]) ++ [.b a2]) ++ d3) ++ d4) ++ [.row n5 e5]) ++ [.row n6 e6]) ++ [.b a7]) ++ [.b a8]) ++ [.i a9]) ++ [.row n10 e10]) ++ [.row n11 e11]) ++ [.row n12 e12]) ++ [.i a13]) : List Dt) = .i a0 :: .i a1 :: .b a2 :: (d3 ++ ((d4 ++ (.row n5 e5 :: .row n6 e6 :: .b a7 :: .b a8 :: .i a9 :: .row n10 e10 :: .row n11 e11 :: .row n12 e12 :: .i a13 :: [])))) := by simp
  have := HRE.out
  rw [hde] at this
  exact this
end Go.Proofs.Ytcefgacmagobnaa
