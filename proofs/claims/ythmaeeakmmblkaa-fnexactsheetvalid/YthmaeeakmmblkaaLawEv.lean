/-
  The law of SheetValid.
-/
import Derived.Test.YthmaeeakmmblkaaESz
import Derived.Test.YthmaeeakmmblkaaESt
import Derived.Test.YthmaeeakmmblkaaESe
import Derived.Test.YthmaeeakmmblkaaUL
namespace Go.Proofs.Ythmaeeakmmblkaa
open Go.RowKit Go.Deep


set_option maxRecDepth 8000 in
set_option maxHeartbeats 16000000 in
theorem lawSheetValid (ds : List Dt) (cs : List Value)  (an0 : Bool) (w : World) (h : Raw w shSheet ds cs) (hz : szd ds)
    (hS : wtL ds ≤ 1048576 → ∀ (c : List Value) (F : List Nat) (W : World), Rep W true shSheet F ds c → Calls Try.prog 11 #[.agg c.toArray] W (fun e w' => e = .returned (.bool an0) ∧ Below W.heap.size W w'))
    (hI : wtL ds ≤ 1048576 → ∀ (c : List Value) (F : List Nat) (W : World), Rep W true shSheet F ds c → Calls Try.prog 13 #[.agg c.toArray] W (fun e w' => e = .returned (.bool an0) ∧ Below W.heap.size W w')) :
    Calls Try.prog 4 #[.agg cs.toArray] w fun e w' => e = .returned (.bool true) ∧ Below w.heap.size w w' := by
  have HR := uh h
  have HZ := uh hz
  have HSP := uh hS
  have HIM := uh hI
  have LNX : Hid (cs.length = 1) := h.len
  clear h hz hS hI
  obtain ⟨wa, hwa⟩ : ∃ wa, wa = w.alloc (.cells cs.toArray 29) := ⟨_, rfl⟩
  have HB : Hid (Below w.heap.size w wa) := by show Below _ _ _; rw [hwa]; exact blw_alloc (Below.refl _ _) _
  have HX : Hid (LBox wa w.heap.size cs) := by show LBox _ _ _; rw [hwa]; exact LBox.new w cs.toArray _ _ rfl
  go_enter Try.func4, Try.ntmps4
  go_upto_region 1 with fail
  rw [← hwa]
  clear hwa
  have hzX := HX.out.lt
  have haX := HX.out.at_
  obtain ⟨m, hm⟩ : ∃ m : Int, m = if ((wtL ds : Nat) : Int) ≤ 1048576 then 1048576 - ((wtL ds : Nat) : Int) else -1 := ⟨_, rfl⟩
  have HC := uh (szSheet ds cs 1048576 wa (by omega) (by omega) (HR.out.later HB.out) HZ.out)
  rw [← hm] at HC
  have HM := uh hm
  clear hm
  go_wp2_with (refine wpList_load_mid rfl 29 _ rfl w.heap.size 0 rfl cs _ haX Try.underlying29 rfl (by rw [LNX.out]; kernel_rfl) ?_)
  refine HC.out.mono ?_
  rintro e w1 ⟨rfl, hb⟩
  clear hzX haX
  replace HB := uh (blw_trans HB.out hb)
  replace HX := uh (HX.out.later hb)
  clear hb HC
  by_cases hl : m < 0
  · go_wp2
    go_ret
    exact ⟨rfl, HB.out⟩
  have HW : Hid (wtL ds ≤ 1048576) := by
    show _ ≤ _; have h2 := HM.out
    split at h2
    · omega
    · omega
  have hzX := HX.out.lt
  have haX := HX.out.at_
  go_wp2_with (refine wpList_load_mid rfl 29 _ rfl w.heap.size 0 rfl cs _ haX Try.underlying29 rfl (by rw [LNX.out]; kernel_rfl) ?_)
  refine (toSheet ds cs w1 (HR.out.later HB.out) HW.out).mono ?_
  rintro e w2 ⟨c1, F1, rfl, rep, nd, fr, hb⟩
  clear hzX haX
  replace HB := uh (blw_trans HB.out hb)
  replace HX := uh (HX.out.later hb)
  clear hb
  have HC := uh (HSP.out HW.out c1 F1 w2 rep)
  clear rep nd fr HSP
  have hzX := HX.out.lt
  go_wp2_with fail
  refine HC.out.mono ?_
  rintro e w3 ⟨rfl, hb⟩
  clear hzX
  clear HC
  replace HB := uh (blw_trans HB.out hb)
  replace HX := uh (HX.out.later hb)
  clear hb
  have hzX := HX.out.lt
  have haX := HX.out.at_
  go_wp2_with (refine wpList_load_mid rfl 29 _ rfl w.heap.size 0 rfl cs _ haX Try.underlying29 rfl (by rw [LNX.out]; kernel_rfl) ?_)
  refine (toSheet ds cs w3 (HR.out.later HB.out) HW.out).mono ?_
  rintro e w4 ⟨cQ, FQ, rfl, rep, nd, fr, hb⟩
  clear hzX haX
  replace HB := uh (blw_trans HB.out hb)
  replace HX := uh (HX.out.later hb)
  have RPQ := uh rep
  have LNQ : Hid (cQ.length = 1) := rep.len
  obtain ⟨yQ, hy⟩ : ∃ y, y = (w4.alloc (.cells #[.slice none 0 0] 34)).setCells w4.heap.size 0 cQ := ⟨_, rfl⟩
  have hth := nv_there w4 #[.slice none 0 0] 34 cQ (by rw [LNQ.out]; rfl)
  have hone := all_oneCell_toArray rep.raw.one
  have hsz : (Try.prog.info? 34).map (·.size) = some cQ.toArray.size := by rw [List.size_toArray, LNQ.out]; kernel_rfl
  have HXQ : Hid (LBox yQ w4.heap.size cQ) := by show LBox _ _ _; rw [hy]; exact nv_box w4 #[.slice none 0 0] 34 cQ (by rw [LNQ.out]; rfl)
  have hby : Below w4.heap.size w4 yQ := by rw [hy]; exact nv_below w4 #[.slice none 0 0] 34 cQ
  clear rep nd fr hb
  replace HB := uh (blw_trans HB.out hby)
  replace HX := uh (HX.out.later hby)
  replace RPQ := uh (RPQ.out.later hby)
  clear hby
  go_upto_region 7 with (refine wpList_store_mid rfl 34 _ _ rfl w4.heap.size 0 cQ.toArray rfl rfl hth hsz hone ?_)
  first | rw [← hy] | (simp only [List.toList_toArray]; rw [← hy])
  clear hy hth hone hsz
  have hzX := HX.out.lt
  have hzQ := HXQ.out.lt
  have haQ := HXQ.out.at_
  have HC := uh (HIM.out HW.out cQ FQ yQ RPQ.out)
  go_wp2_with (refine wpList_load_mid rfl 34 _ rfl w4.heap.size 0 rfl cQ _ haQ Try.underlying34 rfl (by rw [LNQ.out]; kernel_rfl) ?_)
  refine HC.out.mono ?_
  rintro e w6 ⟨rfl, hb⟩
  clear hzX hzQ haQ
  clear HC HIM
  replace HB := uh (blw_trans HB.out hb)
  replace HX := uh (HX.out.later hb)
  replace HXQ := uh (HXQ.out.later hb)
  replace RPQ := uh (RPQ.out.later hb)
  clear hb
  go_upto_region 10 with fail
  refine RY.region_past w6 (Below.refl _ _) (VEq (.agg cs.toArray) (.agg cQ.toArray) (fun W d => ∃ c F, d = c.toArray ∧ Rep W true shSheet F ds c)) (VEq_mono (.agg cs.toArray) (.agg cQ.toArray) _ (by rintro W W' d ⟨c, F, rfl, h⟩ hb; exact ⟨c, F, rfl, h.later hb⟩)) (by kernel_rfl) (by kernel_rfl) (by kernel_rfl) (by kernel_rfl) ?_ ?_
  · intro i o ho a W hW hk hd
    have z0 := HXQ.out.later hW
    have z1 := HX.out.later hW
    match i, ho with
    | 0, ho =>
      injection ho with ho; subst ho
      exact Or.inl ⟨_, W, exec_load_mid 34 _ rfl w4.heap.size 0 ((hk 5 rfl).trans rfl) cQ _ z0.at_ Try.underlying34 rfl (by rw [LNQ.out]; kernel_rfl), Below.refl _ _, rfl⟩
    | 1, ho =>
      injection ho with ho; subst ho
      exact Or.inl ⟨_, W, exec_load_mid 29 _ rfl w.heap.size 0 ((hk 1 rfl).trans rfl) cs _ z1.at_ Try.underlying29 rfl (by rw [LNX.out]; kernel_rfl), Below.refl _ _, rfl⟩
    | 2, ho =>
      injection ho with ho; subst ho
      have e0 : a.tmps[23]?.getD undef = _ := (RY.ev_tmp a 23).trans (hd 1 _ 23 rfl rfl ⟨⟨1, .data⟩, by simp, rfl, rfl⟩)
      refine Or.inr ⟨12, #[.agg cs.toArray], by simp [go_sem, e0], (toSheet ds cs W (HR.out.later (blw_trans HB.out hW)) HW.out).mono ?_⟩
      rintro e W' ⟨c, F, rfl, hr, _, _, hb⟩
      exact ⟨_, rfl, hb, _, rfl, c, F, rfl, hr⟩
    | 3, ho =>
      injection ho with ho; subst ho
      have e0 : a.tmps[22]?.getD undef = _ := (RY.ev_tmp a 22).trans (hd 0 _ 22 rfl rfl ⟨⟨0, .data⟩, by simp, rfl, rfl⟩)
      obtain ⟨b1, e1, c, F, rfl, hr1⟩ := hd 2 _ 24 rfl rfl ⟨⟨2, .data⟩, by simp, rfl, rfl⟩
      have e1 := (RY.ev_tmp a 24).trans e1
      refine Or.inr ⟨14, #[.agg cQ.toArray, .agg c.toArray], by simp [go_sem, e0, e1], (eqSheet ds cQ c W (RPQ.out.raw.later hW) hr1.raw).mono ?_⟩
      rintro e W' ⟨rfl, hb⟩
      exact ⟨_, rfl, hb, rfl⟩
    | 4, ho =>
      injection ho with ho; subst ho
      have e0 : a.tmps[25]?.getD undef = _ := (RY.ev_tmp a 25).trans (hd 3 _ 25 rfl rfl ⟨⟨3, .data⟩, by simp, rfl, rfl⟩)
      exact Or.inl ⟨.bool false, W, by simp [execOp, go_sem, e0], Below.refl _ _, rfl⟩
    | n + 5, ho => simp at ho
  intro w7 vs hb hvs
  have el_ : vs 26 = .bool false := hvs 4 _ 26 rfl rfl
  simp only [RY.putAll, Act.put, List.setIfInBounds_toArray, List.set_cons_zero, List.set_cons_succ]
  rw [el_]
  generalize vs 22 = s0
  generalize vs 23 = s1
  generalize vs 24 = s2
  generalize vs 25 = s3
  clear hvs el_
  replace HB := uh (blw_trans HB.out hb)
  clear hb
  go_wp2
  go_ret
  exact ⟨rfl, HB.out⟩

end Go.Proofs.Ythmaeeakmmblkaa
