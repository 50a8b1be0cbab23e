/-
  The law of a house: by the specification.
-/
import Derived.BigFrame
import Derived.Great.BuildSlice
import Derived.Lib.AppendZeros
import Derived.Test.YtdojomnfephbhaaHLp
namespace Go.Proofs.Ytdojomnfephbhaa
open Go.RowKit Go.Deep


set_option maxRecDepth 8000 in
set_option maxHeartbeats 4000000 in
theorem l29NumS (nm : ByteArray) (least most : Int) (must : Bool) (df wg : ByteArray) (W : World) :
    Calls Try.prog 18 #[.string nm, .int .i64 least, .int .i64 most, .bool must, .string df, .string wg] W fun e w' => e = .returned (.agg (fldV nm 1 least most ByteArray.empty 0 must df wg).toArray) ∧ Below W.heap.size W w' := by
  obtain ⟨wa, hwa⟩ : ∃ wa, wa = W.alloc (.cells #[.string { data := #[] }, .int .i64 0, .int .i64 0, .int .i64 0, .slice none 0 0, .string { data := #[] }, .int .i64 0, .bool false, .bool false, .string { data := #[] }, .string { data := #[] }] 47) := ⟨_, rfl⟩
  have HB : Hid (Below W.heap.size W wa) := by show Below _ _ _; rw [hwa]; exact blw_alloc (Below.refl _ _) _
  have HO : Hid (OwnBlk wa W.heap.size 47 11) := by show OwnBlk _ _ _ _; rw [hwa]; exact OwnBlk.alloc W _ _ _ rfl
  go_enter Try.func18, Try.ntmps18
  go_upto_region 1 with fail
  rw [← hwa]
  clear hwa
  have hth : wa.there W.heap.size 0 (fldV nm 1 least most ByteArray.empty 0 must df wg).toArray.size := uthere HO.out _ _ (by simp [fldV])
  obtain ⟨we, hwe⟩ : ∃ we, we = wa.setCells W.heap.size 0 (fldV nm 1 least most ByteArray.empty 0 must df wg) := ⟨_, rfl⟩
  have hrt : we.rangeAt W.heap.size 0 (fldV nm 1 least most ByteArray.empty 0 must df wg) := by rw [hwe]; exact World.rangeAt_setCells_same _ _ _ _ hth
  have HBB : Hid (Below W.heap.size W we) := by show Below _ _ _; rw [hwe]; exact blw_scs (Nat.le_refl _) _ _ _ HB.out
  go_wp2_with (refine wpList_store_mid rfl 47 _ _ rfl W.heap.size 0 (fldV nm 1 least most ByteArray.empty 0 must df wg).toArray rfl rfl hth (by kernel_rfl) (by simp [Value.oneCell', fldV]) ?_)
  first | rw [← hwe] | (simp only [List.toList_toArray]; rw [← hwe])
  try simp only [Act.put]
  refine bodyPost_ret (v := .agg (fldV nm 1 least most ByteArray.empty 0 must df wg).toArray) (by simp [results, Try.results18, asAddr, run_loadVar_mid (P := Try.prog) _ _ _ 47 (fldV nm 1 least most ByteArray.empty 0 must df wg) _ hrt Try.underlying47 rfl (by kernel_rfl)]) rfl ?_
  exact ⟨rfl, HBB.out⟩

set_option maxRecDepth 8000 in
set_option maxHeartbeats 16000000 in
theorem hallLawS (K : Hs) (c : List Value) (F : List Nat) (W : World) (hr : Rep W true shHallHouse F (eHs K) c) (hw : wtL (eHs K) ≤ 1048576) : Calls Try.prog 6 #[.agg c.toArray] W (Ans shGateLaw (lawD K) W) := by
  obtain ⟨F0, v0, F1, v1, _, rfl, r0, r1⟩ := repHallHouse hr
  obtain ⟨va, vc, hva⟩ := r0.raw.len0
  subst hva
  have R0 := uh r0.raw
  simp only [eHs, wtL] at hw
  have hn : K.tms.length ≤ 1048576 := by omega
  obtain ⟨i0, hi0, hzz⟩ := Option.map_eq_some_iff.1 Try.cinfoGateField
  simp only [Prod.mk.injEq] at hzz
  obtain ⟨hz0, hz1⟩ := hzz
  clear hr r0 r1 hw
  obtain ⟨wa, hwa⟩ : ∃ wa, wa = (W.alloc (.cells #[.slice va K.tms.length vc, v1] 35)).alloc (.cells #[.slice none 0 0, .slice none 0 0, .slice none 0 0] 31) := ⟨_, rfl⟩
  have HB : Hid (Below W.heap.size W wa) := by show Below _ _ _; rw [hwa]; exact blw_alloc (blw_alloc (Below.refl _ _) _) _
  have HX : Hid (LBox wa W.heap.size [.slice va K.tms.length vc, v1]) := by show LBox _ _ _; rw [hwa]; exact (LBox.new W #[.slice va K.tms.length vc, v1] _ _ rfl).later (blw_alloc (Below.refl _ _) _)
  have HO : Hid (OwnBlk wa (W.heap.size + 1) 31 3) := by show OwnBlk _ _ _ _; rw [hwa]; exact OwnBlk.alloc_at3 _ _ _ _ _ rfl (by simp)
  go_enter Try.func6, Try.ntmps6
  go_upto_region 1 with fail
  rw [← hwa]
  clear hwa
  go_wp2_with fail
  refine (l29NumS _ _ _ _ _ _ _).mono ?_
  rintro e w1 ⟨rfl, hb⟩
  replace HB := uh (blw_trans HB.out hb)
  replace HX := uh (HX.out.later hb)
  replace HO := uh (HO.out.later hb)
  clear hb
  go_wp2_with fail
  refine (l29NumS _ _ _ _ _ _ _).mono ?_
  rintro e w2 ⟨rfl, hb⟩
  replace HB := uh (blw_trans HB.out hb)
  replace HX := uh (HX.out.later hb)
  replace HO := uh (HO.out.later hb)
  clear hb
  go_wp2_with fail
  refine (l29NumS _ _ _ _ _ _ _).mono ?_
  rintro e w3 ⟨rfl, hb⟩
  replace HB := uh (blw_trans HB.out hb)
  replace HX := uh (HX.out.later hb)
  replace HO := uh (HO.out.later hb)
  clear hb
  go_wp2_with fail
  refine (l29NumS _ _ _ _ _ _ _).mono ?_
  rintro e w4 ⟨rfl, hb⟩
  replace HB := uh (blw_trans HB.out hb)
  replace HX := uh (HX.out.later hb)
  replace HO := uh (HO.out.later hb)
  clear hb
  go_wp2_with fail
  refine (l29NumS _ _ _ _ _ _ _).mono ?_
  rintro e w5 ⟨rfl, hb⟩
  replace HB := uh (blw_trans HB.out hb)
  replace HX := uh (HX.out.later hb)
  replace HO := uh (HO.out.later hb)
  clear hb
  obtain ⟨w6, hw6⟩ : ∃ w6, w6 = w5.alloc (.cells flds.toArray 47) := ⟨_, rfl⟩
  have hb6 : Below w5.heap.size w5 w6 := by rw [hw6]; exact blw_alloc (Below.refl _ _) _
  have HF : Hid (WBox w6 w5.heap.size 47 flds) := by show WBox _ _ _ _; rw [hw6]; exact WBox.new _ flds _ _ rfl
  have HF5 : Hid (W.heap.size + 2 ≤ w5.heap.size) := by have := HO.out.lt; show _ ≤ _; omega
  obtain ⟨pf, hpf⟩ : ∃ pf, pf = w5.heap.size := ⟨_, rfl⟩
  replace HB := uh (blw_trans HB.out hb6)
  replace HX := uh (HX.out.later hb6)
  replace HO := uh (HO.out.later hb6)
  clear hb6
  go_upto_region 2 with (refine wpList_buildSlice rfl 49 47 6 _ rfl flds.toArray i0 _ Try.cunderGateField hi0 hz0 (by rw [hz1]; decide) (by rw [hz1]; decide) (by rw [hz1]; kernel_rfl) ?_)
  rw [← hw6, ← hpf]
  rw [← hpf] at HF HF5
  clear hw6 hpf
  obtain ⟨w7, hw7⟩ : ∃ w7, w7 = w6.alloc (.cells #[.string ⟨#[115, 101, 114, 118, 105, 99, 101]⟩, .string ⟨#[100, 111, 119, 110]⟩, .string ⟨#[109, 111, 115, 116]⟩, .string ⟨#[49]⟩, .string ⟨#[48]⟩, .string ⟨#[]⟩] 51) := ⟨_, rfl⟩
  have hb7 : Below w6.heap.size w6 w7 := by rw [hw7]; exact blw_alloc (Below.refl _ _) _
  have HM : Hid (WBox w7 w6.heap.size 51 mndV) := by show WBox _ _ _ _; rw [hw7]; exact WBox.new _ mndV _ _ rfl
  have HF6 : Hid (pf < w6.heap.size) := HF.out.own.lt
  obtain ⟨pm, hpm⟩ : ∃ pm, pm = w6.heap.size := ⟨_, rfl⟩
  replace HB := uh (blw_trans HB.out hb7)
  replace HX := uh (HX.out.later hb7)
  replace HO := uh (HO.out.later hb7)
  replace HF := uh (HF.out.later hb7)
  clear hb7
  go_upto_region 3 with fail
  rw [← hw7, ← hpm]
  rw [← hpm] at HM HF6
  clear hw7 hpm
  obtain ⟨ps, hps⟩ : ∃ ps, ps = w7.heap.size := ⟨_, rfl⟩
  have HP7 : Hid (pm < ps) := by have := HM.out.own.lt; show _ < _; omega
  obtain ⟨w8, hw8⟩ : ∃ w8, w8 = w7.alloc (.cells #[.string ⟨#[115, 101, 114, 118, 105, 99, 101]⟩, .slice (some ⟨pf, 0, none⟩) 6 6] 53) := ⟨_, rfl⟩
  have hb8 : Below w7.heap.size w7 w8 := by rw [hw8]; exact blw_alloc (Below.refl _ _) _
  have HS : Hid (WBox w8 ps 53 [.string ⟨#[115, 101, 114, 118, 105, 99, 101]⟩, .slice (some ⟨pf, 0, none⟩) 6 6]) := by show WBox _ _ _ _; rw [hw8]; exact WBox.new _ [.string ⟨#[115, 101, 114, 118, 105, 99, 101]⟩, .slice (some ⟨pf, 0, none⟩) 6 6] _ _ hps
  have h8z : w8.heap.size = ps + 1 := by rw [hw8, hps]; simp
  obtain ⟨w9, hw9⟩ : ∃ w9, w9 = w8.alloc (.cells #[] 85) := ⟨_, rfl⟩
  have hb9 : Below w8.heap.size w8 w9 := by rw [hw9]; exact blw_alloc (Below.refl _ _) _
  have h9e : w9.heap[ps + 1]? = some (.cells #[] 85 (0, 0)) := by rw [hw9, ← h8z]; exact heap_alloc_new _ _
  have h9z : ps + 1 ≤ w9.heap.size := by have := hb9.size; omega
  have hb79 := blw_trans hb8 hb9
  replace HB := uh (blw_trans HB.out hb79)
  replace HX := uh (HX.out.later hb79)
  replace HO := uh (HO.out.later hb79)
  replace HF := uh (HF.out.later hb79)
  replace HM := uh (HM.out.later hb79)
  replace HS := uh (HS.out.later hb9)
  obtain ⟨v', W', xs, hrun, hg, hb⟩ := app_copy (P := Try.prog) (ps + 1) 29 29 85 85 2 32 _ Try.cunderGateTeam Try.cinfoGateTeam rfl (by decide) (by decide) shGateTeam rfl (by simp [flatB]) w9 (.slice (some ⟨ps + 1, 0, none⟩) 0 0) (Or.inr ⟨ps + 1, rfl, Nat.le_refl _, h9e⟩) h9z K.tms.length (K.tms.flatMap eTm) (.slice va K.tms.length vc) (R0.out.later HB.out) (by omega)
  obtain ⟨wx, wc, hvx⟩ := hg.shape
  subst hvx
  obtain ⟨FT, rT, ndT, frT⟩ := hg.done
  have RT := uh (And.intro rT (And.intro ndT frT))
  have hx0 := (HX.out).get 0 _ rfl
  have hxl := HX.out.lt
  replace HB := uh (blw_trans HB.out hb)
  replace HO := uh (HO.out.later hb)
  replace HF := uh (HF.out.later hb)
  replace HM := uh (HM.out.later hb)
  replace HS := uh (HS.out.later hb)
  clear rT ndT frT hg hb hb8 hb9 hb79 h9e h9z HX
  have hth : W'.there (W.heap.size + 1) 0 (#[.slice (some ⟨ps, 0, none⟩) 1 1, .slice (some ⟨pm, 0, none⟩) 1 1, .slice wx K.tms.length wc] : Array Value).size := uthere HO.out _ _ (by simp)
  obtain ⟨we, hwe⟩ : ∃ we, we = W'.setCells (W.heap.size + 1) 0 [.slice (some ⟨ps, 0, none⟩) 1 1, .slice (some ⟨pm, 0, none⟩) 1 1, .slice wx K.tms.length wc] := ⟨_, rfl⟩
  have hrt : we.rangeAt (W.heap.size + 1) 0 [.slice (some ⟨ps, 0, none⟩) 1 1, .slice (some ⟨pm, 0, none⟩) 1 1, .slice wx K.tms.length wc] := by rw [hwe]; exact World.rangeAt_setCells_same _ _ _ _ hth
  have HMK : Hid (Marks (fun b => b = W.heap.size + 1) W' we) := by show Marks _ _ _; rw [hwe]; exact mks_scs (S := fun b => b = W.heap.size + 1) rfl _ _ _
  have HBB : Hid (Below W.heap.size W we) := by show Below _ _ _; rw [hwe]; exact blw_scs (by omega) _ _ _ HB.out
  rw [hw9, hw8] at hrun
  rw [hw9, hw8] at hx0 hxl
  rw [hps] at hrun hth hwe hrt
  clear hw9 hw8 h8z
  go_wp2_with (first | (at_builtin; refine Go.Lib.wpList_append_run _ rfl _ _ 29 29 rfl _ _ rfl rfl _ W' hrun ?_) | (refine wpList_store_mid rfl 31 _ _ rfl (W.heap.size + 1) 0 #[.slice (some ⟨w7.heap.size, 0, none⟩) 1 1, .slice (some ⟨pm, 0, none⟩) 1 1, .slice wx K.tms.length wc] rfl rfl hth (by kernel_rfl) (by simp [Value.oneCell']) ?_))
  first | rw [← hwe] | (simp only [List.toList_toArray]; rw [← hwe])
  try simp only [Act.put]
  refine bodyPost_ret (v := .agg #[.slice (some ⟨w7.heap.size, 0, none⟩) 1 1, .slice (some ⟨pm, 0, none⟩) 1 1, .slice wx K.tms.length wc]) (by simp [results, Try.results6, asAddr, run_loadVar_mid (P := Try.prog) _ _ _ 31 [.slice (some ⟨w7.heap.size, 0, none⟩) 1 1, .slice (some ⟨pm, 0, none⟩) 1 1, .slice wx K.tms.length wc] _ hrt Try.underlying31 rfl (by kernel_rfl)]) rfl ?_
  rw [← hps]
  have q5 := HF5.out
  have q6 := HF6.out
  have q7 := HP7.out
  have MF := HF.out.mks HMK.out (by omega)
  have MM := HM.out.mks HMK.out (by omega)
  have MS := HS.out.mks HMK.out (by omega)
  have MT := RT.out.1.keep HMK.out (fun b hb e => by have := RT.out.2.2 b hb; omega)
  refine ⟨_, _, rfl, repGateLaw_mk (own_row1 1 MS.own (by unfold maxLen; omega) MS.at_ (shpR MF)) (own_row1 1 MM.own (by unfold maxLen; omega) MM.at_ (mndR we false)) MT, ?_, ?_, HBB.out⟩
  · rw [show ps :: ([pf] ++ []) ++ (pm :: ([] ++ []) ++ (FT ++ [])) = [ps, pf, pm] ++ FT by simp]
    exact nd_join (m := ps + 1) (by simp; omega) RT.out.2.1 (by simp; omega) RT.out.2.2
  · intro b hb
    rw [show ps :: ([pf] ++ []) ++ (pm :: ([] ++ []) ++ (FT ++ [])) = [ps, pf, pm] ++ FT by simp] at hb
    rcases List.mem_append.1 hb with hb | hb
    · simp at hb; omega
    · have := RT.out.2.2 b hb; omega
end Go.Proofs.Ytdojomnfephbhaa
