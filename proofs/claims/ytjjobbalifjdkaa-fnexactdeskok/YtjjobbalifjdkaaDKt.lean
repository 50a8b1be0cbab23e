/-
  The copy of a desk.
-/
import Derived.Test.YtjjobbalifjdkaaDKh
namespace Go.Proofs.Ytjjobbalifjdkaa
open Go.RowKit Go.Deep

set_option maxRecDepth 8000 in
set_option maxHeartbeats 8000000 in
theorem toDesk (ds : List Dt) (cs : List Value) (w : World) (h : Raw w shDesk ds cs) (hs : wtL ds ≤ 1048576) :
    Calls Try.prog 6 #[.agg cs.toArray] w fun e w' => ∃ cs' F, e = .returned (.agg cs'.toArray) ∧ Rep w' true shDesk F ds cs' ∧ F.Nodup ∧ (∀ b ∈ F, w.heap.size ≤ b) ∧ Below w.heap.size w w' := by
  obtain ⟨a0, a1, a2, a3, rfl, hcs⟩ := segRawDesk h
  have HCS := uh hcs
  simp only [wtL] at hs
  have HS := uh hs
  obtain ⟨wa, hwa⟩ : ∃ wa, wa = ((w.alloc (.cells cs.toArray 23)).alloc (.cells #[.string { data := #[] }, .string { data := #[] }, .string { data := #[] }, .string { data := #[] }] 26)).alloc (.cells #[.string { data := #[] }, .string { data := #[] }, .string { data := #[] }, .string { data := #[] }] 26) := ⟨_, rfl⟩
  have HB : Hid (Below w.heap.size w wa) := by show Below _ _ _; rw [hwa]; exact blw_alloc (blw_alloc (blw_alloc (Below.refl _ _) _) _) _
  have HX : Hid (LBox wa w.heap.size cs) := by show LBox _ _ _; rw [hwa]; exact ((LBox.new w cs.toArray _ _ rfl).past _).past _
  have HRS : Hid (OwnBlk wa (w.heap.size + 1) 26 4) := by show OwnBlk _ _ _ _; rw [hwa]; exact (OwnBlk.alloc_at3 _ _ _ _ _ rfl (by simp)).past _
  have HD : Hid (Bld wa (w.heap.size + 2) 26 4 [] [] [] []) := by show Bld _ _ _ _ _ _ _ _; rw [hwa]; exact Bld.nil (OwnBlk.alloc_at3 _ _ _ _ _ rfl (by simp))
  clear hcs hs h
  go_enter Try.func6, Try.ntmps6
  go_upto_region 2 with fail
  rw [← hwa]
  clear hwa
  have hbz := HX.out.lt
  have hqz := HD.out.own.lt
  have hfz := HD.out.own.frozen
  have hbx := boxDesk  (by have := HX.out.at_; rw [HCS.out] at this; exact this)
  have gc := hbx.1
  clear hbx
  obtain ⟨y0, hy⟩ : ∃ y, y = wa.setCell ⟨w.heap.size + 2, 0, none⟩ (.string a0) := ⟨_, rfl⟩
  obtain ⟨ux, eu⟩ := HD.out.own.cell 0 (by omega)
  have HD2 := uh (HD.out.put1 (j := 0) rfl (.s a0 .nil) (by omega))
  rw [← hy] at HD2
  replace HX : Hid (LBox y0 w.heap.size cs) := by show LBox _ _ _; rw [hy]; exact HX.out.other_ (by omega) _ _
  replace HRS : Hid (OwnBlk y0 (w.heap.size + 1) 26 4) := by show OwnBlk _ _ _ _; rw [hy]; exact HRS.out.sc_other (by omega) _ _
  replace HB : Hid (Below w.heap.size w y0) := by show Below _ _ _; rw [hy]; exact HB.out.setCell (p := ⟨w.heap.size + 2, 0, none⟩) (by show w.heap.size ≤ w.heap.size + 2; omega) _
  obtain ⟨D0, hD⟩ : ∃ D : List Value, D = [] ++ [.string a0] := ⟨_, rfl⟩
  rw [← hD] at HD2
  clear hD HD
  go_upto_region 3 with fail
  rw [← hy]
  clear hy eu gc hbz hqz hfz
  have HD := HD2
  clear HD2
  have hbz := HX.out.lt
  have hqz := HD.out.own.lt
  have hfz := HD.out.own.frozen
  have hbx := boxDesk  (by have := HX.out.at_; rw [HCS.out] at this; exact this)
  have gc := hbx.2.1
  clear hbx
  obtain ⟨y1, hy⟩ : ∃ y, y = y0.setCell ⟨w.heap.size + 2, 1, none⟩ (.string a1) := ⟨_, rfl⟩
  obtain ⟨ux, eu⟩ := HD.out.own.cell 1 (by omega)
  have HD2 := uh (HD.out.put1 (j := 1) rfl (.s a1 .nil) (by omega))
  rw [← hy] at HD2
  replace HX : Hid (LBox y1 w.heap.size cs) := by show LBox _ _ _; rw [hy]; exact HX.out.other_ (by omega) _ _
  replace HRS : Hid (OwnBlk y1 (w.heap.size + 1) 26 4) := by show OwnBlk _ _ _ _; rw [hy]; exact HRS.out.sc_other (by omega) _ _
  replace HB : Hid (Below w.heap.size w y1) := by show Below _ _ _; rw [hy]; exact HB.out.setCell (p := ⟨w.heap.size + 2, 1, none⟩) (by show w.heap.size ≤ w.heap.size + 2; omega) _
  obtain ⟨D1, hD⟩ : ∃ D : List Value, D = D0 ++ [.string a1] := ⟨_, rfl⟩
  rw [← hD] at HD2
  clear hD HD
  go_upto_region 4 with fail
  rw [← hy]
  clear hy eu gc hbz hqz hfz
  have HD := HD2
  clear HD2
  have hbz := HX.out.lt
  have hqz := HD.out.own.lt
  have hfz := HD.out.own.frozen
  have hbx := boxDesk  (by have := HX.out.at_; rw [HCS.out] at this; exact this)
  have gc := hbx.2.2.1
  clear hbx
  obtain ⟨y2, hy⟩ : ∃ y, y = y1.setCell ⟨w.heap.size + 2, 2, none⟩ (.string a2) := ⟨_, rfl⟩
  obtain ⟨ux, eu⟩ := HD.out.own.cell 2 (by omega)
  have HD2 := uh (HD.out.put1 (j := 2) rfl (.s a2 .nil) (by omega))
  rw [← hy] at HD2
  replace HX : Hid (LBox y2 w.heap.size cs) := by show LBox _ _ _; rw [hy]; exact HX.out.other_ (by omega) _ _
  replace HRS : Hid (OwnBlk y2 (w.heap.size + 1) 26 4) := by show OwnBlk _ _ _ _; rw [hy]; exact HRS.out.sc_other (by omega) _ _
  replace HB : Hid (Below w.heap.size w y2) := by show Below _ _ _; rw [hy]; exact HB.out.setCell (p := ⟨w.heap.size + 2, 2, none⟩) (by show w.heap.size ≤ w.heap.size + 2; omega) _
  obtain ⟨D2, hD⟩ : ∃ D : List Value, D = D1 ++ [.string a2] := ⟨_, rfl⟩
  rw [← hD] at HD2
  clear hD HD
  go_upto_region 5 with fail
  rw [← hy]
  clear hy eu gc hbz hqz hfz
  have HD := HD2
  clear HD2
  have hbz := HX.out.lt
  have hqz := HD.out.own.lt
  have hfz := HD.out.own.frozen
  have hbx := boxDesk  (by have := HX.out.at_; rw [HCS.out] at this; exact this)
  have gc := hbx.2.2.2
  clear hbx
  obtain ⟨y3, hy⟩ : ∃ y, y = y2.setCell ⟨w.heap.size + 2, 3, none⟩ (.string a3) := ⟨_, rfl⟩
  obtain ⟨ux, eu⟩ := HD.out.own.cell 3 (by omega)
  have HD2 := uh (HD.out.put1 (j := 3) rfl (.s a3 .nil) (by omega))
  rw [← hy] at HD2
  replace HX : Hid (LBox y3 w.heap.size cs) := by show LBox _ _ _; rw [hy]; exact HX.out.other_ (by omega) _ _
  replace HRS : Hid (OwnBlk y3 (w.heap.size + 1) 26 4) := by show OwnBlk _ _ _ _; rw [hy]; exact HRS.out.sc_other (by omega) _ _
  replace HB : Hid (Below w.heap.size w y3) := by show Below _ _ _; rw [hy]; exact HB.out.setCell (p := ⟨w.heap.size + 2, 3, none⟩) (by show w.heap.size ≤ w.heap.size + 2; omega) _
  obtain ⟨D3, hD⟩ : ∃ D : List Value, D = D2 ++ [.string a3] := ⟨_, rfl⟩
  rw [← hD] at HD2
  clear hD HD
  go_upto_region 6 with fail
  rw [← hy]
  clear hy eu gc hbz hqz hfz
  have HD := HD2
  clear HD2
  have hlD : D3.length = 4 := HD.out.len
  have hth : y3.there (w.heap.size + 1) 0 D3.toArray.size := uthere HRS.out _ _ (by rw [List.size_toArray, hlD]; omega)
  have hone := all_oneCell_toArray HD.out.rep.raw.one
  have hsz : (Try.prog.info? 26).map (·.size) = some D3.toArray.size := by rw [List.size_toArray, hlD]; kernel_rfl
  obtain ⟨we, hwe⟩ : ∃ we, we = y3.setCells (w.heap.size + 1) 0 D3 := ⟨_, rfl⟩
  have hrt : we.rangeAt (w.heap.size + 1) 0 D3 := by rw [hwe]; exact World.rangeAt_setCells_same _ _ _ _ (by simpa using hth)
  have HBE : Hid (Below w.heap.size w we) := by show Below _ _ _; rw [hwe]; exact blw_scs (by omega) _ _ _ HB.out
  have HRE := uh (HD.out.rep.keep (w' := we) (S := fun b => b = w.heap.size + 1) (by rw [hwe]; exact mks_scs (S := fun b => b = w.heap.size + 1) rfl _ _ _) (fun b hb e => by have := HD.out.fr b hb; omega))
  refine wp_region_lit ?_
  refine wpList_load_mid rfl 26 _ rfl (w.heap.size + 2) 0 rfl D3 _ HD.out.at_ Try.underlying26 rfl (by rw [hlD]; kernel_rfl) ?_
  refine wpList_store_mid rfl 26 _ _ rfl (w.heap.size + 1) 0 D3.toArray rfl rfl hth hsz hone ?_
  simp only [Act.put, List.setIfInBounds_toArray, List.set_cons_zero, List.set_cons_succ]
  rw [← hwe]
  clear hwe hth hone hsz
  go_wp2
  refine bodyPost_ret (v := .agg D3.toArray) (by simp [results, Try.results6, asAddr, run_loadVar_mid (P := Try.prog) _ _ _ 26 D3 _ hrt Try.underlying26 rfl (by rw [hlD]; kernel_rfl)]) rfl ⟨D3, _, rfl, ?_, HD.out.nd, fun b hb => by have := HD.out.fr b hb; omega, HBE.out⟩
  exact HRE.out
end Go.Proofs.Ytjjobbalifjdkaa
