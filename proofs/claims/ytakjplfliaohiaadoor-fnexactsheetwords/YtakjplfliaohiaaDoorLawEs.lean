/-
  The law of SheetWords.
-/
import Derived.Test.YtakjplfliaohiaaDoorECe
import Derived.Test.YtakjplfliaohiaaDoorECm
import Derived.Test.YtakjplfliaohiaaDoorECh
import Derived.Test.YtakjplfliaohiaaDoorUL
namespace Go.Proofs.YtakjplfliaohiaaDoor
open Go.RowKit Go.Deep


set_option maxRecDepth 8000 in
set_option maxHeartbeats 16000000 in
theorem lawSheetWords (ex0 : ByteArray) (A : List Dt) (w : World) (hx0 : ex0.size ≤ maxLen)
    (hS : ex0.size ≤ 1048576 → ∀ W : World, Calls Tryd.prog 4 #[.string ex0] W (Ans shSheetCut A W))
    (hI : ex0.size ≤ 1048576 → ∀ W : World, Calls Tryd.prog 5 #[.string ex0] W (Ans shSheetCut A W))
    (hA : ex0.size ≤ 1048576 → cntT A ≤ 1000000000) :
    Calls Tryd.prog 3 #[.string ex0] w fun e w' => e = .returned (.bool true) ∧ Below w.heap.size w w' := by
  have hy0 : ex0.size ≤ 9223372036854775807 := hx0
  clear hx0
  have HSP := uh hS
  have HIM := uh hI
  have HCN := uh hA
  clear hS hI hA
  have HB : Hid (Below w.heap.size w w) := Below.refl _ _
  have O0 := uh (Nat.le_refl w.heap.size)
  go_enter Tryd.func3, Tryd.ntmps3
  by_cases ht0 : 1048576 < (ex0.size : Int)
  · go_wp2
    go_ret
    exact ⟨rfl, HB.out⟩
  have HT0 : Hid (ex0.size ≤ 1048576) := by show _ ≤ _; omega
  replace HSP := uh (HSP.out HT0.out)
  replace HIM := uh (HIM.out HT0.out)
  replace HCN := uh (HCN.out HT0.out)
  have HC := uh (HSP.out w)
  go_wp2_with fail
  refine HC.out.mono ?_
  rintro e w1 ⟨cS, FS, rfl, rep, nd, fr, hb⟩
  clear HC
  replace HB := uh (blw_trans HB.out hb)
  have O1 := uh (hb.size)
  have FBS : Hid (∀ b ∈ FS, w.heap.size ≤ b ∧ b < w1.heap.size) := fun b hb => ⟨fr b hb, rep.lt b hb⟩
  have NDS := uh nd
  have RPS := uh rep
  have LNS : Hid (cS.length = 2) := rep.len
  obtain ⟨yS, hy⟩ : ∃ y, y = (w1.alloc (.cells #[.slice none 0 0, .bool false] 24)).setCells w1.heap.size 0 cS := ⟨_, rfl⟩
  have hth := nv_there w1 #[.slice none 0 0, .bool false] 24 cS (by rw [LNS.out]; rfl)
  have hone := all_oneCell_toArray rep.raw.one
  have hsz : (Tryd.prog.info? 24).map (·.size) = some cS.toArray.size := by rw [List.size_toArray, LNS.out]; kernel_rfl
  have HXS : Hid (LBox yS w1.heap.size cS) := by show LBox _ _ _; rw [hy]; exact nv_box w1 #[.slice none 0 0, .bool false] 24 cS (by rw [LNS.out]; rfl)
  have hby : Below w1.heap.size w1 yS := by rw [hy]; exact nv_below w1 #[.slice none 0 0, .bool false] 24 cS
  clear rep nd fr hb
  replace HB := uh (blw_trans HB.out hby)
  replace RPS := uh (RPS.out.later hby)
  clear hby
  have O2 := uh (HXS.out.lt)
  go_upto_region 4 with (refine wpList_store_mid rfl 24 _ _ rfl w1.heap.size 0 cS.toArray rfl rfl hth hsz hone ?_)
  first | rw [← hy] | (simp only [List.toList_toArray]; rw [← hy])
  clear hy hth hone hsz
  have HC := uh (HIM.out yS)
  have hzS := HXS.out.lt
  go_wp2_with fail
  refine HC.out.mono ?_
  rintro e w2 ⟨cG, FG, rfl, rep, nd, fr, hb⟩
  clear hzS
  clear HC
  replace HB := uh (blw_trans HB.out hb)
  replace HXS := uh (HXS.out.later hb)
  replace RPS := uh (RPS.out.later hb)
  have O3 := uh (hb.size)
  have FBG : Hid (∀ b ∈ FG, yS.heap.size ≤ b ∧ b < w2.heap.size) := fun b hb => ⟨fr b hb, rep.lt b hb⟩
  have NDG := uh nd
  have RPG := uh rep
  have LNG : Hid (cG.length = 2) := rep.len
  obtain ⟨yG, hy⟩ : ∃ y, y = (w2.alloc (.cells #[.slice none 0 0, .bool false] 24)).setCells w2.heap.size 0 cG := ⟨_, rfl⟩
  have hth := nv_there w2 #[.slice none 0 0, .bool false] 24 cG (by rw [LNG.out]; rfl)
  have hone := all_oneCell_toArray rep.raw.one
  have hsz : (Tryd.prog.info? 24).map (·.size) = some cG.toArray.size := by rw [List.size_toArray, LNG.out]; kernel_rfl
  have HXG : Hid (LBox yG w2.heap.size cG) := by show LBox _ _ _; rw [hy]; exact nv_box w2 #[.slice none 0 0, .bool false] 24 cG (by rw [LNG.out]; rfl)
  have hby : Below w2.heap.size w2 yG := by rw [hy]; exact nv_below w2 #[.slice none 0 0, .bool false] 24 cG
  clear rep nd fr hb
  replace HB := uh (blw_trans HB.out hby)
  replace HXS := uh (HXS.out.later hby)
  replace RPS := uh (RPS.out.later hby)
  replace RPG := uh (RPG.out.later hby)
  clear hby
  have O4 := uh (HXG.out.lt)
  go_upto_region 5 with (refine wpList_store_mid rfl 24 _ _ rfl w2.heap.size 0 cG.toArray rfl rfl hth hsz hone ?_)
  first | rw [← hy] | (simp only [List.toList_toArray]; rw [← hy])
  clear hy hth hone hsz
  have hzS := HXS.out.lt
  have haS := HXS.out.at_
  have hzG := HXG.out.lt
  have haG := HXG.out.at_
  go_wp2_with (first | refine wpList_load_mid rfl 24 _ rfl w2.heap.size 0 rfl cG _ haG Tryd.underlying24 rfl (by rw [LNG.out]; kernel_rfl) ?_ | refine wpList_load_mid rfl 24 _ rfl w1.heap.size 0 rfl cS _ haS Tryd.underlying24 rfl (by rw [LNS.out]; kernel_rfl) ?_)
  refine (eqSheetCut A cG cS yG RPG.out.raw RPS.out.raw).mono ?_
  rintro e w3 ⟨rfl, hb⟩
  clear hzS haS hzG haG
  replace HB := uh (blw_trans HB.out hb)
  replace HXS := uh (HXS.out.later hb)
  replace HXG := uh (HXG.out.later hb)
  replace RPS := uh (RPS.out.later hb)
  replace RPG := uh (RPG.out.later hb)
  have O5 := uh (hb.size)
  clear hb
  have hzS := HXS.out.lt
  have hzG := HXG.out.lt
  have haG := HXG.out.at_
  go_wp2_with (refine wpList_load_mid rfl 24 _ rfl w2.heap.size 0 rfl cG _ haG Tryd.underlying24 rfl (by rw [LNG.out]; kernel_rfl) ?_)
  refine (markSheetCut FG A cG 1 w3 RPG.out NDG.out (by omega) (by have := HCN.out; omega)).mono ?_
  rintro e w4 ⟨he, hb, rr⟩
  clear hzS hzG haG
  obtain ⟨k10, hk10⟩ : ∃ k10 : Nat, k10 = 1 + cntT A := ⟨_, rfl⟩
  rw [← hk10] at he
  subst he
  have HK10 := uh hk10
  have kn10 : ¬ (k10 : Int) < 0 := by omega
  clear hk10
  have HTY := uh RPG.out.raw.typ
  replace HB := uh (hb.below (fun b e => by have := FBG.out b e; have := O0.out; have := O1.out; have := O2.out; have := O3.out; have := O4.out; have := O5.out; omega) HB.out)
  replace HXS := uh (HXS.out.mks hb (fun e => by have := FBG.out _ e; have := O0.out; have := O1.out; have := O2.out; have := O3.out; have := O4.out; have := O5.out; omega))
  replace HXG := uh (HXG.out.mks hb (fun e => by have := FBG.out _ e; have := O0.out; have := O1.out; have := O2.out; have := O3.out; have := O4.out; have := O5.out; omega))
  replace RPS := uh (RPS.out.keep hb (fun b hb e => by have := FBG.out b e; have := FBS.out b hb; have := O0.out; have := O1.out; have := O2.out; have := O3.out; have := O4.out; have := O5.out; omega))
  have O6 := uh (hb.size)
  replace RPG := uh rr
  clear hb rr
  have hzS := HXS.out.lt
  have hzG := HXG.out.lt
  have haG := HXG.out.at_
  go_wp2_with (refine wpList_load_mid rfl 24 _ rfl w2.heap.size 0 rfl cG _ haG Tryd.underlying24 rfl (by rw [LNG.out]; kernel_rfl) ?_)
  refine (heldSheetCut A cG 1 w4 HTY.out RPG.out.raw (by omega) (by have := HCN.out; omega)).mono ?_
  rintro e w5 ⟨he, hb⟩
  rw [← HK10.out] at he
  subst he
  clear hzS hzG haG
  replace HB := uh (blw_trans HB.out hb)
  replace HXS := uh (HXS.out.later hb)
  replace HXG := uh (HXG.out.later hb)
  replace RPS := uh (RPS.out.later hb)
  replace RPG := uh (RPG.out.later hb)
  have O7 := uh (hb.size)
  clear hb
  have HC := uh (HIM.out w5)
  have hzS := HXS.out.lt
  have hzG := HXG.out.lt
  go_wp2_with fail
  refine HC.out.mono ?_
  rintro e w6 ⟨cH, FH, rfl, rep, nd, fr, hb⟩
  clear hzS hzG
  clear HC
  replace HB := uh (blw_trans HB.out hb)
  replace HXS := uh (HXS.out.later hb)
  replace HXG := uh (HXG.out.later hb)
  replace RPS := uh (RPS.out.later hb)
  replace RPG := uh (RPG.out.later hb)
  have O8 := uh (hb.size)
  have FBH : Hid (∀ b ∈ FH, w5.heap.size ≤ b ∧ b < w6.heap.size) := fun b hb => ⟨fr b hb, rep.lt b hb⟩
  have NDH := uh nd
  have RPH := uh rep
  have LNH : Hid (cH.length = 2) := rep.len
  obtain ⟨yH, hy⟩ : ∃ y, y = (w6.alloc (.cells #[.slice none 0 0, .bool false] 24)).setCells w6.heap.size 0 cH := ⟨_, rfl⟩
  have hth := nv_there w6 #[.slice none 0 0, .bool false] 24 cH (by rw [LNH.out]; rfl)
  have hone := all_oneCell_toArray rep.raw.one
  have hsz : (Tryd.prog.info? 24).map (·.size) = some cH.toArray.size := by rw [List.size_toArray, LNH.out]; kernel_rfl
  have HXH : Hid (LBox yH w6.heap.size cH) := by show LBox _ _ _; rw [hy]; exact nv_box w6 #[.slice none 0 0, .bool false] 24 cH (by rw [LNH.out]; rfl)
  have hby : Below w6.heap.size w6 yH := by rw [hy]; exact nv_below w6 #[.slice none 0 0, .bool false] 24 cH
  clear rep nd fr hb
  replace HB := uh (blw_trans HB.out hby)
  replace HXS := uh (HXS.out.later hby)
  replace HXG := uh (HXG.out.later hby)
  replace RPS := uh (RPS.out.later hby)
  replace RPG := uh (RPG.out.later hby)
  replace RPH := uh (RPH.out.later hby)
  clear hby
  have O9 := uh (HXH.out.lt)
  go_upto_region 16 with (refine wpList_store_mid rfl 24 _ _ rfl w6.heap.size 0 cH.toArray rfl rfl hth hsz hone ?_)
  first | rw [← hy] | (simp only [List.toList_toArray]; rw [← hy])
  clear hy hth hone hsz
  have hzS := HXS.out.lt
  have haS := HXS.out.at_
  have hzG := HXG.out.lt
  have hzH := HXH.out.lt
  have haH := HXH.out.at_
  go_wp2_with (first | refine wpList_load_mid rfl 24 _ rfl w6.heap.size 0 rfl cH _ haH Tryd.underlying24 rfl (by rw [LNH.out]; kernel_rfl) ?_ | refine wpList_load_mid rfl 24 _ rfl w1.heap.size 0 rfl cS _ haS Tryd.underlying24 rfl (by rw [LNS.out]; kernel_rfl) ?_)
  refine (eqSheetCut A cH cS yH RPH.out.raw RPS.out.raw).mono ?_
  rintro e w7 ⟨rfl, hb⟩
  clear hzS haS hzG hzH haH
  replace HB := uh (blw_trans HB.out hb)
  replace HXS := uh (HXS.out.later hb)
  replace HXG := uh (HXG.out.later hb)
  replace HXH := uh (HXH.out.later hb)
  replace RPS := uh (RPS.out.later hb)
  replace RPG := uh (RPG.out.later hb)
  replace RPH := uh (RPH.out.later hb)
  have O10 := uh (hb.size)
  clear hb
  have hzS := HXS.out.lt
  have hzG := HXG.out.lt
  have haG := HXG.out.at_
  have hzH := HXH.out.lt
  go_wp2_with (refine wpList_load_mid rfl 24 _ rfl w2.heap.size 0 rfl cG _ haG Tryd.underlying24 rfl (by rw [LNG.out]; kernel_rfl) ?_)
  refine (heldSheetCut A cG 1 w7 HTY.out RPG.out.raw (by omega) (by have := HCN.out; omega)).mono ?_
  rintro e w8 ⟨he, hb⟩
  rw [← HK10.out] at he
  subst he
  clear hzS hzG haG hzH
  replace HB := uh (blw_trans HB.out hb)
  replace HXS := uh (HXS.out.later hb)
  replace HXG := uh (HXG.out.later hb)
  replace HXH := uh (HXH.out.later hb)
  replace RPS := uh (RPS.out.later hb)
  replace RPG := uh (RPG.out.later hb)
  replace RPH := uh (RPH.out.later hb)
  have O11 := uh (hb.size)
  clear hb
  go_wp2
  go_ret
  exact ⟨rfl, HB.out⟩

end Go.Proofs.YtakjplfliaohiaaDoor
