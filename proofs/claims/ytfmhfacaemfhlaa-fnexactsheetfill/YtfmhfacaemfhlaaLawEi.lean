/-
  The law of SheetFill.
-/
import Derived.Test.YtfmhfacaemfhlaaESz
import Derived.Test.YtfmhfacaemfhlaaESt
import Derived.Test.YtfmhfacaemfhlaaESe
import Derived.Test.YtfmhfacaemfhlaaESm
import Derived.Test.YtfmhfacaemfhlaaESh
import Derived.Test.YtfmhfacaemfhlaaUL
namespace Go.Proofs.Ytfmhfacaemfhlaa
open Go.RowKit Go.Deep


set_option maxRecDepth 8000 in
set_option maxHeartbeats 16000000 in
theorem lawSheetFill (ds : List Dt) (cs : List Value)  (A : List Dt) (w : World) (h : Raw w shSheet ds cs) (hz : szd ds)
    (hS : wtL ds ≤ 1048576 → ∀ (c : List Value) (F : List Nat) (W : World), Rep W true shSheet F ds c → Calls Try.prog 6 #[.agg c.toArray] W (Ans shSheet A W))
    (hI : wtL ds ≤ 1048576 → ∀ (c : List Value) (F : List Nat) (W : World), Rep W true shSheet F ds c → Calls Try.prog 8 #[.agg c.toArray] W (Ans shSheet A W))
    (hA : wtL ds ≤ 1048576 → cntT A ≤ 1000000000) (hD : wtL ds ≤ 1048576 → cntT ds ≤ 1000000000) :
    Calls Try.prog 3 #[.agg cs.toArray] w fun e w' => e = .returned (.bool true) ∧ Below w.heap.size w w' := by
  have HR := uh h
  have HZ := uh hz
  have HSP := uh hS
  have HIM := uh hI
  have HAN := uh hA
  have HAD := uh hD
  have LNX : Hid (cs.length = 1) := h.len
  clear h hz hS hI hA hD
  obtain ⟨wa, hwa⟩ : ∃ wa, wa = w.alloc (.cells cs.toArray 24) := ⟨_, rfl⟩
  have HB : Hid (Below w.heap.size w wa) := by show Below _ _ _; rw [hwa]; exact blw_alloc (Below.refl _ _) _
  have HX : Hid (LBox wa w.heap.size cs) := by show LBox _ _ _; rw [hwa]; exact LBox.new w cs.toArray _ _ rfl
  have O0 := uh (HX.out.lt)
  go_enter Try.func3, Try.ntmps3
  go_upto_region 1 with fail
  rw [← hwa]
  clear hwa
  have hzX := HX.out.lt
  have haX := HX.out.at_
  obtain ⟨m, hm⟩ : ∃ m : Int, m = if ((wtL ds : Nat) : Int) ≤ 1048576 then 1048576 - ((wtL ds : Nat) : Int) else -1 := ⟨_, rfl⟩
  have HC := uh (szSheet ds cs 1048576 wa (by omega) (by omega) (HR.out.later HB.out) HZ.out)
  rw [← hm] at HC
  have HM := uh hm
  clear hm
  go_wp2_with (refine wpList_load_mid rfl 24 _ rfl w.heap.size 0 rfl cs _ haX Try.underlying24 rfl (by rw [LNX.out]; kernel_rfl) ?_)
  refine HC.out.mono ?_
  rintro e w1 ⟨rfl, hb⟩
  clear hzX haX
  replace HB := uh (blw_trans HB.out hb)
  replace HX := uh (HX.out.later hb)
  have O1 := uh (hb.size)
  clear hb HC
  by_cases hl : m < 0
  · go_wp2
    go_ret
    exact ⟨rfl, HB.out⟩
  have HW : Hid (wtL ds ≤ 1048576) := by
    show _ ≤ _; have h2 := HM.out
    split at h2
    · omega
    · omega
  have hcn : cntT A ≤ 1000000000 := HAN.out HW.out
  have HCN := uh hcn
  have HCD : Hid (cntT ds ≤ 1000000000) := HAD.out HW.out
  clear hcn HAN HAD
  have hzX := HX.out.lt
  have haX := HX.out.at_
  go_wp2_with (refine wpList_load_mid rfl 24 _ rfl w.heap.size 0 rfl cs _ haX Try.underlying24 rfl (by rw [LNX.out]; kernel_rfl) ?_)
  refine (toSheet ds cs w1 (HR.out.later HB.out) HW.out).mono ?_
  rintro e w2 ⟨c1, F1, rfl, rep, nd, fr, hb⟩
  clear hzX haX
  replace HB := uh (blw_trans HB.out hb)
  replace HX := uh (HX.out.later hb)
  have O2 := uh (hb.size)
  clear hb
  have HC := uh (HSP.out HW.out c1 F1 w2 rep)
  clear rep nd fr HSP
  have hzX := HX.out.lt
  go_wp2_with fail
  refine HC.out.mono ?_
  rintro e w3 ⟨cS, FS, rfl, rep, nd, fr, hb⟩
  clear hzX
  clear HC
  replace HB := uh (blw_trans HB.out hb)
  replace HX := uh (HX.out.later hb)
  have O3 := uh (hb.size)
  have FBS : Hid (∀ b ∈ FS, w2.heap.size ≤ b ∧ b < w3.heap.size) := fun b hb => ⟨fr b hb, rep.lt b hb⟩
  have NDS := uh nd
  have RPS := uh rep
  have LNS : Hid (cS.length = 1) := rep.len
  obtain ⟨yS, hy⟩ : ∃ y, y = (w3.alloc (.cells #[.slice none 0 0] 28)).setCells w3.heap.size 0 cS := ⟨_, rfl⟩
  have hth := nv_there w3 #[.slice none 0 0] 28 cS (by rw [LNS.out]; rfl)
  have hone := all_oneCell_toArray rep.raw.one
  have hsz : (Try.prog.info? 28).map (·.size) = some cS.toArray.size := by rw [List.size_toArray, LNS.out]; kernel_rfl
  have HXS : Hid (LBox yS w3.heap.size cS) := by show LBox _ _ _; rw [hy]; exact nv_box w3 #[.slice none 0 0] 28 cS (by rw [LNS.out]; rfl)
  have hby : Below w3.heap.size w3 yS := by rw [hy]; exact nv_below w3 #[.slice none 0 0] 28 cS
  clear rep nd fr hb
  replace HB := uh (blw_trans HB.out hby)
  replace HX := uh (HX.out.later hby)
  replace RPS := uh (RPS.out.later hby)
  clear hby
  have O4 := uh (HXS.out.lt)
  go_upto_region 6 with (refine wpList_store_mid rfl 28 _ _ rfl w3.heap.size 0 cS.toArray rfl rfl hth hsz hone ?_)
  first | rw [← hy] | (simp only [List.toList_toArray]; rw [← hy])
  clear hy hth hone hsz
  have hzX := HX.out.lt
  have haX := HX.out.at_
  have hzS := HXS.out.lt
  go_wp2_with (refine wpList_load_mid rfl 24 _ rfl w.heap.size 0 rfl cs _ haX Try.underlying24 rfl (by rw [LNX.out]; kernel_rfl) ?_)
  refine (toSheet ds cs yS (HR.out.later HB.out) HW.out).mono ?_
  rintro e w4 ⟨cQ, FQ, rfl, rep, nd, fr, hb⟩
  clear hzX haX hzS
  replace HB := uh (blw_trans HB.out hb)
  replace HX := uh (HX.out.later hb)
  replace HXS := uh (HXS.out.later hb)
  replace RPS := uh (RPS.out.later hb)
  have O5 := uh (hb.size)
  have FBQ : Hid (∀ b ∈ FQ, yS.heap.size ≤ b ∧ b < w4.heap.size) := fun b hb => ⟨fr b hb, rep.lt b hb⟩
  have NDQ := uh nd
  have RPQ := uh rep
  have LNQ : Hid (cQ.length = 1) := rep.len
  obtain ⟨yQ, hy⟩ : ∃ y, y = (w4.alloc (.cells #[.slice none 0 0] 28)).setCells w4.heap.size 0 cQ := ⟨_, rfl⟩
  have hth := nv_there w4 #[.slice none 0 0] 28 cQ (by rw [LNQ.out]; rfl)
  have hone := all_oneCell_toArray rep.raw.one
  have hsz : (Try.prog.info? 28).map (·.size) = some cQ.toArray.size := by rw [List.size_toArray, LNQ.out]; kernel_rfl
  have HXQ : Hid (LBox yQ w4.heap.size cQ) := by show LBox _ _ _; rw [hy]; exact nv_box w4 #[.slice none 0 0] 28 cQ (by rw [LNQ.out]; rfl)
  have hby : Below w4.heap.size w4 yQ := by rw [hy]; exact nv_below w4 #[.slice none 0 0] 28 cQ
  clear rep nd fr hb
  replace HB := uh (blw_trans HB.out hby)
  replace HX := uh (HX.out.later hby)
  replace HXS := uh (HXS.out.later hby)
  replace RPS := uh (RPS.out.later hby)
  replace RPQ := uh (RPQ.out.later hby)
  clear hby
  have O6 := uh (HXQ.out.lt)
  go_upto_region 7 with (refine wpList_store_mid rfl 28 _ _ rfl w4.heap.size 0 cQ.toArray rfl rfl hth hsz hone ?_)
  first | rw [← hy] | (simp only [List.toList_toArray]; rw [← hy])
  clear hy hth hone hsz
  have hzX := HX.out.lt
  have hzS := HXS.out.lt
  have hzQ := HXQ.out.lt
  have haQ := HXQ.out.at_
  have HC := uh (HIM.out HW.out cQ FQ yQ RPQ.out)
  go_wp2_with (refine wpList_load_mid rfl 28 _ rfl w4.heap.size 0 rfl cQ _ haQ Try.underlying28 rfl (by rw [LNQ.out]; kernel_rfl) ?_)
  refine HC.out.mono ?_
  rintro e w5 ⟨cG, FG, rfl, rep, nd, fr, hb⟩
  clear hzX hzS hzQ haQ
  clear HC
  replace HB := uh (blw_trans HB.out hb)
  replace HX := uh (HX.out.later hb)
  replace HXS := uh (HXS.out.later hb)
  replace HXQ := uh (HXQ.out.later hb)
  replace RPS := uh (RPS.out.later hb)
  replace RPQ := uh (RPQ.out.later hb)
  have O7 := uh (hb.size)
  have FBG : Hid (∀ b ∈ FG, yQ.heap.size ≤ b ∧ b < w5.heap.size) := fun b hb => ⟨fr b hb, rep.lt b hb⟩
  have NDG := uh nd
  have RPG := uh rep
  replace RPQ := uh RPQ.out.loose
  have LNG : Hid (cG.length = 1) := rep.len
  obtain ⟨yG, hy⟩ : ∃ y, y = (w5.alloc (.cells #[.slice none 0 0] 28)).setCells w5.heap.size 0 cG := ⟨_, rfl⟩
  have hth := nv_there w5 #[.slice none 0 0] 28 cG (by rw [LNG.out]; rfl)
  have hone := all_oneCell_toArray rep.raw.one
  have hsz : (Try.prog.info? 28).map (·.size) = some cG.toArray.size := by rw [List.size_toArray, LNG.out]; kernel_rfl
  have HXG : Hid (LBox yG w5.heap.size cG) := by show LBox _ _ _; rw [hy]; exact nv_box w5 #[.slice none 0 0] 28 cG (by rw [LNG.out]; rfl)
  have hby : Below w5.heap.size w5 yG := by rw [hy]; exact nv_below w5 #[.slice none 0 0] 28 cG
  clear rep nd fr hb
  replace HB := uh (blw_trans HB.out hby)
  replace HX := uh (HX.out.later hby)
  replace HXS := uh (HXS.out.later hby)
  replace HXQ := uh (HXQ.out.later hby)
  replace RPS := uh (RPS.out.later hby)
  replace RPQ := uh (RPQ.out.later hby)
  replace RPG := uh (RPG.out.later hby)
  clear hby
  have O8 := uh (HXG.out.lt)
  go_upto_region 8 with (refine wpList_store_mid rfl 28 _ _ rfl w5.heap.size 0 cG.toArray rfl rfl hth hsz hone ?_)
  first | rw [← hy] | (simp only [List.toList_toArray]; rw [← hy])
  clear hy hth hone hsz
  have hzX := HX.out.lt
  have hzS := HXS.out.lt
  have haS := HXS.out.at_
  have hzQ := HXQ.out.lt
  have hzG := HXG.out.lt
  have haG := HXG.out.at_
  go_wp2_with (first | refine wpList_load_mid rfl 28 _ rfl w5.heap.size 0 rfl cG _ haG Try.underlying28 rfl (by rw [LNG.out]; kernel_rfl) ?_ | refine wpList_load_mid rfl 28 _ rfl w3.heap.size 0 rfl cS _ haS Try.underlying28 rfl (by rw [LNS.out]; kernel_rfl) ?_)
  refine (eqSheet A cG cS yG RPG.out.raw RPS.out.raw).mono ?_
  rintro e w6 ⟨rfl, hb⟩
  clear hzX hzS haS hzQ hzG haG
  replace HB := uh (blw_trans HB.out hb)
  replace HX := uh (HX.out.later hb)
  replace HXS := uh (HXS.out.later hb)
  replace HXQ := uh (HXQ.out.later hb)
  replace HXG := uh (HXG.out.later hb)
  replace RPS := uh (RPS.out.later hb)
  replace RPQ := uh (RPQ.out.later hb)
  replace RPG := uh (RPG.out.later hb)
  have O9 := uh (hb.size)
  clear hb
  go_upto_region 10 with fail
  refine RY.region_past w6 (Below.refl _ _) (VEq (.agg cs.toArray) (.agg cQ.toArray) (fun W d => ∃ c F, d = c.toArray ∧ Rep W true shSheet F ds c)) (VEq_mono (.agg cs.toArray) (.agg cQ.toArray) _ (by rintro W W' d ⟨c, F, rfl, h⟩ hb; exact ⟨c, F, rfl, h.later hb⟩)) (by kernel_rfl) (by kernel_rfl) (by kernel_rfl) (by kernel_rfl) ?_ ?_
  · intro i o ho a W hW hk hd
    have z0 := HXQ.out.later hW
    have z1 := HX.out.later hW
    match i, ho with
    | 0, ho =>
      injection ho with ho; subst ho
      exact Or.inl ⟨_, W, exec_load_mid 28 _ rfl w4.heap.size 0 ((hk 5 rfl).trans rfl) cQ _ z0.at_ Try.underlying28 rfl (by rw [LNQ.out]; kernel_rfl), Below.refl _ _, rfl⟩
    | 1, ho =>
      injection ho with ho; subst ho
      exact Or.inl ⟨_, W, exec_load_mid 24 _ rfl w.heap.size 0 ((hk 1 rfl).trans rfl) cs _ z1.at_ Try.underlying24 rfl (by rw [LNX.out]; kernel_rfl), Below.refl _ _, rfl⟩
    | 2, ho =>
      injection ho with ho; subst ho
      have e0 : a.tmps[28]?.getD undef = _ := (RY.ev_tmp a 28).trans (hd 1 _ 28 rfl rfl ⟨⟨1, .data⟩, by simp, rfl, rfl⟩)
      refine Or.inr ⟨7, #[.agg cs.toArray], by simp [go_sem, e0], (toSheet ds cs W (HR.out.later (blw_trans HB.out hW)) HW.out).mono ?_⟩
      rintro e W' ⟨c, F, rfl, hr, _, _, hb⟩
      exact ⟨_, rfl, hb, _, rfl, c, F, rfl, hr⟩
    | 3, ho =>
      injection ho with ho; subst ho
      have e0 : a.tmps[27]?.getD undef = _ := (RY.ev_tmp a 27).trans (hd 0 _ 27 rfl rfl ⟨⟨0, .data⟩, by simp, rfl, rfl⟩)
      obtain ⟨b1, e1, c, F, rfl, hr1⟩ := hd 2 _ 29 rfl rfl ⟨⟨2, .data⟩, by simp, rfl, rfl⟩
      have e1 := (RY.ev_tmp a 29).trans e1
      refine Or.inr ⟨9, #[.agg cQ.toArray, .agg c.toArray], by simp [go_sem, e0, e1], (eqSheet ds cQ c W (RPQ.out.raw.later hW) hr1.raw).mono ?_⟩
      rintro e W' ⟨rfl, hb⟩
      exact ⟨_, rfl, hb, rfl⟩
    | 4, ho =>
      injection ho with ho; subst ho
      have e0 : a.tmps[30]?.getD undef = _ := (RY.ev_tmp a 30).trans (hd 3 _ 30 rfl rfl ⟨⟨3, .data⟩, by simp, rfl, rfl⟩)
      exact Or.inl ⟨.bool false, W, by simp [execOp, go_sem, e0], Below.refl _ _, rfl⟩
    | n + 5, ho => simp at ho
  intro w7 vs hb hvs
  have el_ : vs 31 = .bool false := hvs 4 _ 31 rfl rfl
  simp only [RY.putAll, Act.put, List.setIfInBounds_toArray, List.set_cons_zero, List.set_cons_succ]
  rw [el_]
  generalize vs 27 = s0
  generalize vs 28 = s1
  generalize vs 29 = s2
  generalize vs 30 = s3
  clear hvs el_
  replace HB := uh (blw_trans HB.out hb)
  replace HX := uh (HX.out.later hb)
  replace HXS := uh (HXS.out.later hb)
  replace HXQ := uh (HXQ.out.later hb)
  replace HXG := uh (HXG.out.later hb)
  replace RPS := uh (RPS.out.later hb)
  replace RPQ := uh (RPQ.out.later hb)
  replace RPG := uh (RPG.out.later hb)
  have O10 := uh (hb.size)
  clear hb
  have hzX := HX.out.lt
  have hzS := HXS.out.lt
  have hzQ := HXQ.out.lt
  have haQ := HXQ.out.at_
  have hzG := HXG.out.lt
  have hcds : cntT ds ≤ 1000000000 := HCD.out
  have HKD := uh hcds
  clear hcds
  go_wp2_with (refine wpList_load_mid rfl 28 _ rfl w4.heap.size 0 rfl cQ _ haQ Try.underlying28 rfl (by rw [LNQ.out]; kernel_rfl) ?_)
  refine (markSheet FQ ds cQ 1 w7 RPQ.out NDQ.out (by omega) (by have := HKD.out; omega)).mono ?_
  rintro e w8 ⟨he, hb, rr⟩
  clear hzX hzS hzQ haQ hzG
  obtain ⟨k8, hk8⟩ : ∃ k8 : Nat, k8 = 1 + cntT ds := ⟨_, rfl⟩
  rw [← hk8] at he
  subst he
  have kn8 : ¬ (k8 : Int) < 0 := by omega
  clear hk8
  replace HB := uh (hb.below (fun b e => by have := FBQ.out b e; have := O0.out; have := O1.out; have := O2.out; have := O3.out; have := O4.out; have := O5.out; have := O6.out; have := O7.out; have := O8.out; have := O9.out; have := O10.out; omega) HB.out)
  replace HX := uh (HX.out.mks hb (fun e => by have := FBQ.out _ e; have := O0.out; have := O1.out; have := O2.out; have := O3.out; have := O4.out; have := O5.out; have := O6.out; have := O7.out; have := O8.out; have := O9.out; have := O10.out; omega))
  replace HXS := uh (HXS.out.mks hb (fun e => by have := FBQ.out _ e; have := O0.out; have := O1.out; have := O2.out; have := O3.out; have := O4.out; have := O5.out; have := O6.out; have := O7.out; have := O8.out; have := O9.out; have := O10.out; omega))
  replace HXQ := uh (HXQ.out.mks hb (fun e => by have := FBQ.out _ e; have := O0.out; have := O1.out; have := O2.out; have := O3.out; have := O4.out; have := O5.out; have := O6.out; have := O7.out; have := O8.out; have := O9.out; have := O10.out; omega))
  replace HXG := uh (HXG.out.mks hb (fun e => by have := FBQ.out _ e; have := O0.out; have := O1.out; have := O2.out; have := O3.out; have := O4.out; have := O5.out; have := O6.out; have := O7.out; have := O8.out; have := O9.out; have := O10.out; omega))
  replace RPS := uh (RPS.out.keep hb (fun b hb e => by have := FBQ.out b e; have := FBS.out b hb; have := O0.out; have := O1.out; have := O2.out; have := O3.out; have := O4.out; have := O5.out; have := O6.out; have := O7.out; have := O8.out; have := O9.out; have := O10.out; omega))
  replace RPG := uh (RPG.out.keep hb (fun b hb e => by have := FBQ.out b e; have := FBG.out b hb; have := O0.out; have := O1.out; have := O2.out; have := O3.out; have := O4.out; have := O5.out; have := O6.out; have := O7.out; have := O8.out; have := O9.out; have := O10.out; omega))
  have O11 := uh (hb.size)
  clear hb rr RPQ NDQ
  have hzX := HX.out.lt
  have hzS := HXS.out.lt
  have haS := HXS.out.at_
  have hzQ := HXQ.out.lt
  have hzG := HXG.out.lt
  have haG := HXG.out.at_
  go_wp2_with (first | refine uload_g (by kernel_rfl) 28 _ rfl w5.heap.size 0 rfl cG _ haG Try.underlying28 rfl (by rw [LNG.out]; kernel_rfl) ?_ | refine uload_g (by kernel_rfl) 28 _ rfl w3.heap.size 0 rfl cS _ haS Try.underlying28 rfl (by rw [LNS.out]; kernel_rfl) ?_)
  refine (eqSheet A cG cS w8 RPG.out.raw RPS.out.raw).mono ?_
  rintro e w9 ⟨rfl, hb⟩
  clear hzX hzS haS hzQ hzG haG
  replace HB := uh (blw_trans HB.out hb)
  replace HX := uh (HX.out.later hb)
  replace HXS := uh (HXS.out.later hb)
  replace HXQ := uh (HXQ.out.later hb)
  replace HXG := uh (HXG.out.later hb)
  replace RPS := uh (RPS.out.later hb)
  replace RPG := uh (RPG.out.later hb)
  have O12 := uh (hb.size)
  clear hb
  have hzX := HX.out.lt
  have hzS := HXS.out.lt
  have hzQ := HXQ.out.lt
  have hzG := HXG.out.lt
  have haG := HXG.out.at_
  go_wp2_with (refine wpList_load_mid rfl 28 _ rfl w5.heap.size 0 rfl cG _ haG Try.underlying28 rfl (by rw [LNG.out]; kernel_rfl) ?_)
  refine (markSheet FG A cG 1 w9 RPG.out NDG.out (by omega) (by have := HCN.out; omega)).mono ?_
  rintro e w10 ⟨he, hb, rr⟩
  clear hzX hzS hzQ hzG haG
  obtain ⟨k10, hk10⟩ : ∃ k10 : Nat, k10 = 1 + cntT A := ⟨_, rfl⟩
  rw [← hk10] at he
  subst he
  have HK10 := uh hk10
  have kn10 : ¬ (k10 : Int) < 0 := by omega
  clear hk10
  have HTY := uh RPG.out.raw.typ
  replace HB := uh (hb.below (fun b e => by have := FBG.out b e; have := O0.out; have := O1.out; have := O2.out; have := O3.out; have := O4.out; have := O5.out; have := O6.out; have := O7.out; have := O8.out; have := O9.out; have := O10.out; have := O11.out; have := O12.out; omega) HB.out)
  replace HX := uh (HX.out.mks hb (fun e => by have := FBG.out _ e; have := O0.out; have := O1.out; have := O2.out; have := O3.out; have := O4.out; have := O5.out; have := O6.out; have := O7.out; have := O8.out; have := O9.out; have := O10.out; have := O11.out; have := O12.out; omega))
  replace HXS := uh (HXS.out.mks hb (fun e => by have := FBG.out _ e; have := O0.out; have := O1.out; have := O2.out; have := O3.out; have := O4.out; have := O5.out; have := O6.out; have := O7.out; have := O8.out; have := O9.out; have := O10.out; have := O11.out; have := O12.out; omega))
  replace HXQ := uh (HXQ.out.mks hb (fun e => by have := FBG.out _ e; have := O0.out; have := O1.out; have := O2.out; have := O3.out; have := O4.out; have := O5.out; have := O6.out; have := O7.out; have := O8.out; have := O9.out; have := O10.out; have := O11.out; have := O12.out; omega))
  replace HXG := uh (HXG.out.mks hb (fun e => by have := FBG.out _ e; have := O0.out; have := O1.out; have := O2.out; have := O3.out; have := O4.out; have := O5.out; have := O6.out; have := O7.out; have := O8.out; have := O9.out; have := O10.out; have := O11.out; have := O12.out; omega))
  replace RPS := uh (RPS.out.keep hb (fun b hb e => by have := FBG.out b e; have := FBS.out b hb; have := O0.out; have := O1.out; have := O2.out; have := O3.out; have := O4.out; have := O5.out; have := O6.out; have := O7.out; have := O8.out; have := O9.out; have := O10.out; have := O11.out; have := O12.out; omega))
  have O13 := uh (hb.size)
  replace RPG := uh rr
  clear hb rr
  have hzX := HX.out.lt
  have hzS := HXS.out.lt
  have hzQ := HXQ.out.lt
  have hzG := HXG.out.lt
  have haG := HXG.out.at_
  go_wp2_with (refine wpList_load_mid rfl 28 _ rfl w5.heap.size 0 rfl cG _ haG Try.underlying28 rfl (by rw [LNG.out]; kernel_rfl) ?_)
  refine (heldSheet A cG 1 w10 HTY.out RPG.out.raw (by omega) (by have := HCN.out; omega)).mono ?_
  rintro e w11 ⟨he, hb⟩
  rw [← HK10.out] at he
  subst he
  clear hzX hzS hzQ hzG haG
  replace HB := uh (blw_trans HB.out hb)
  replace HX := uh (HX.out.later hb)
  replace HXS := uh (HXS.out.later hb)
  replace HXQ := uh (HXQ.out.later hb)
  replace HXG := uh (HXG.out.later hb)
  replace RPS := uh (RPS.out.later hb)
  replace RPG := uh (RPG.out.later hb)
  have O14 := uh (hb.size)
  clear hb
  have hzX := HX.out.lt
  have haX := HX.out.at_
  have hzS := HXS.out.lt
  have hzQ := HXQ.out.lt
  have hzG := HXG.out.lt
  go_wp2_with (refine wpList_load_mid rfl 24 _ rfl w.heap.size 0 rfl cs _ haX Try.underlying24 rfl (by rw [LNX.out]; kernel_rfl) ?_)
  refine (toSheet ds cs w11 (HR.out.later HB.out) HW.out).mono ?_
  rintro e w12 ⟨cT, FT, rfl, rep, nd, fr, hb⟩
  clear hzX haX hzS hzQ hzG
  replace HB := uh (blw_trans HB.out hb)
  replace HX := uh (HX.out.later hb)
  replace HXS := uh (HXS.out.later hb)
  replace HXQ := uh (HXQ.out.later hb)
  replace HXG := uh (HXG.out.later hb)
  replace RPS := uh (RPS.out.later hb)
  replace RPG := uh (RPG.out.later hb)
  have O15 := uh (hb.size)
  clear hb
  have HC := uh (HIM.out HW.out cT FT w12 rep)
  clear rep nd fr HIM
  have hzX := HX.out.lt
  have hzS := HXS.out.lt
  have hzQ := HXQ.out.lt
  have hzG := HXG.out.lt
  go_wp2_with fail
  refine HC.out.mono ?_
  rintro e w13 ⟨cH, FH, rfl, rep, nd, fr, hb⟩
  clear hzX hzS hzQ hzG
  clear HC
  replace HB := uh (blw_trans HB.out hb)
  replace HX := uh (HX.out.later hb)
  replace HXS := uh (HXS.out.later hb)
  replace HXQ := uh (HXQ.out.later hb)
  replace HXG := uh (HXG.out.later hb)
  replace RPS := uh (RPS.out.later hb)
  replace RPG := uh (RPG.out.later hb)
  have O16 := uh (hb.size)
  have FBH : Hid (∀ b ∈ FH, w12.heap.size ≤ b ∧ b < w13.heap.size) := fun b hb => ⟨fr b hb, rep.lt b hb⟩
  have NDH := uh nd
  have RPH := uh rep
  have LNH : Hid (cH.length = 1) := rep.len
  obtain ⟨yH, hy⟩ : ∃ y, y = (w13.alloc (.cells #[.slice none 0 0] 28)).setCells w13.heap.size 0 cH := ⟨_, rfl⟩
  have hth := nv_there w13 #[.slice none 0 0] 28 cH (by rw [LNH.out]; rfl)
  have hone := all_oneCell_toArray rep.raw.one
  have hsz : (Try.prog.info? 28).map (·.size) = some cH.toArray.size := by rw [List.size_toArray, LNH.out]; kernel_rfl
  have HXH : Hid (LBox yH w13.heap.size cH) := by show LBox _ _ _; rw [hy]; exact nv_box w13 #[.slice none 0 0] 28 cH (by rw [LNH.out]; rfl)
  have hby : Below w13.heap.size w13 yH := by rw [hy]; exact nv_below w13 #[.slice none 0 0] 28 cH
  clear rep nd fr hb
  replace HB := uh (blw_trans HB.out hby)
  replace HX := uh (HX.out.later hby)
  replace HXS := uh (HXS.out.later hby)
  replace HXQ := uh (HXQ.out.later hby)
  replace HXG := uh (HXG.out.later hby)
  replace RPS := uh (RPS.out.later hby)
  replace RPG := uh (RPG.out.later hby)
  replace RPH := uh (RPH.out.later hby)
  clear hby
  have O17 := uh (HXH.out.lt)
  go_upto_region 25 with (refine wpList_store_mid rfl 28 _ _ rfl w13.heap.size 0 cH.toArray rfl rfl hth hsz hone ?_)
  first | rw [← hy] | (simp only [List.toList_toArray]; rw [← hy])
  clear hy hth hone hsz
  have hzX := HX.out.lt
  have hzS := HXS.out.lt
  have haS := HXS.out.at_
  have hzQ := HXQ.out.lt
  have hzG := HXG.out.lt
  have hzH := HXH.out.lt
  have haH := HXH.out.at_
  go_wp2_with (first | refine wpList_load_mid rfl 28 _ rfl w13.heap.size 0 rfl cH _ haH Try.underlying28 rfl (by rw [LNH.out]; kernel_rfl) ?_ | refine wpList_load_mid rfl 28 _ rfl w3.heap.size 0 rfl cS _ haS Try.underlying28 rfl (by rw [LNS.out]; kernel_rfl) ?_)
  refine (eqSheet A cH cS yH RPH.out.raw RPS.out.raw).mono ?_
  rintro e w14 ⟨rfl, hb⟩
  clear hzX hzS haS hzQ hzG hzH haH
  replace HB := uh (blw_trans HB.out hb)
  replace HX := uh (HX.out.later hb)
  replace HXS := uh (HXS.out.later hb)
  replace HXQ := uh (HXQ.out.later hb)
  replace HXG := uh (HXG.out.later hb)
  replace HXH := uh (HXH.out.later hb)
  replace RPS := uh (RPS.out.later hb)
  replace RPG := uh (RPG.out.later hb)
  replace RPH := uh (RPH.out.later hb)
  have O18 := uh (hb.size)
  clear hb
  have hzX := HX.out.lt
  have hzS := HXS.out.lt
  have hzQ := HXQ.out.lt
  have hzG := HXG.out.lt
  have haG := HXG.out.at_
  have hzH := HXH.out.lt
  go_wp2_with (refine wpList_load_mid rfl 28 _ rfl w5.heap.size 0 rfl cG _ haG Try.underlying28 rfl (by rw [LNG.out]; kernel_rfl) ?_)
  refine (heldSheet A cG 1 w14 HTY.out RPG.out.raw (by omega) (by have := HCN.out; omega)).mono ?_
  rintro e w15 ⟨he, hb⟩
  rw [← HK10.out] at he
  subst he
  clear hzX hzS hzQ hzG haG hzH
  replace HB := uh (blw_trans HB.out hb)
  replace HX := uh (HX.out.later hb)
  replace HXS := uh (HXS.out.later hb)
  replace HXQ := uh (HXQ.out.later hb)
  replace HXG := uh (HXG.out.later hb)
  replace HXH := uh (HXH.out.later hb)
  replace RPS := uh (RPS.out.later hb)
  replace RPG := uh (RPG.out.later hb)
  replace RPH := uh (RPH.out.later hb)
  have O19 := uh (hb.size)
  clear hb
  go_wp2
  go_ret
  exact ⟨rfl, HB.out⟩

end Go.Proofs.Ytfmhfacaemfhlaa
