/-
  The law of HallService.
-/
import Derived.Test.YtiiahpegdpbkgaaOSz
import Derived.Test.YtiiahpegdpbkgaaOTo
import Derived.Test.YtiiahpegdpbkgaaOEq
import Derived.Test.YtiiahpegdpbkgaaUL
import Derived.Test.YtiiahpegdpbkgaaRgFx
namespace Go.Proofs.Ytiiahpegdpbkgaa
open Go.RowKit Go.Deep


set_option maxRecDepth 8000 in
set_option maxHeartbeats 16000000 in
theorem lawHallService (ds dm : List Dt) (cs ms : List Value) (A : List Dt) (w : World) (h : Raw w shGateObject ds cs) (h' : Raw w shStewService dm ms) (hz : szd ds) (hz' : szd dm)
    (hS : wtL ds + wtL dm ≤ 1048576 → ∀ (c d : List Value) (F G : List Nat) (W : World), Rep W true shGateObject F ds c → Rep W true shStewService G dm d → Calls Try.prog 6 #[.agg c.toArray, .agg d.toArray] W (Ans shStewService A W))
    (hI : wtL ds + wtL dm ≤ 1048576 → ∀ (c d : List Value) (F G : List Nat) (W : World), Rep W true shGateObject F ds c → Rep W true shStewService G dm d → Calls Try.prog 9 #[.agg c.toArray, .agg d.toArray] W (Ans shStewService A W))
     :
    Calls Try.prog 3 #[.agg cs.toArray, .agg ms.toArray] w fun e w' => e = .returned (.bool true) ∧ Below w.heap.size w w' := by
  have HR := uh h
  have HR2 := uh h'
  have HZ := uh hz
  have HZ2 := uh hz'
  have HSP := uh hS
  have HIM := uh hI
  have LNX : Hid (cs.length = 7) := h.len
  have LNM : Hid (ms.length = 13) := h'.len
  clear h h' hz hz' hS hI
  obtain ⟨wa, hwa⟩ : ∃ wa, wa = (w.alloc (.cells cs.toArray 24)).alloc (.cells ms.toArray 26) := ⟨_, rfl⟩
  have HB : Hid (Below w.heap.size w wa) := by show Below _ _ _; rw [hwa]; exact blw_alloc (blw_alloc (Below.refl _ _) _) _
  have HX : Hid (LBox wa w.heap.size cs) := by show LBox _ _ _; rw [hwa]; exact (LBox.new w cs.toArray _ _ rfl).past _
  have HXM : Hid (LBox wa (w.heap.size + 1) ms) := by show LBox _ _ _; rw [hwa]; exact LBox.new (w.alloc (.cells cs.toArray 24)) ms.toArray _ _ (by simp)
  go_enter Try.func3, Try.ntmps3
  go_upto_region 1 with fail
  rw [← hwa]
  clear hwa
  have hzX := HX.out.lt
  have haX := HX.out.at_
  have hzM := HXM.out.lt
  have haM := HXM.out.at_
  obtain ⟨m, hm⟩ : ∃ m : Int, m = if ((wtL ds : Nat) : Int) ≤ 1048576 then 1048576 - ((wtL ds : Nat) : Int) else -1 := ⟨_, rfl⟩
  have HC := uh (szGateObject ds cs 1048576 wa (by omega) (by omega) (HR.out.later HB.out) HZ.out)
  rw [← hm] at HC
  have HM := uh hm
  clear hm
  go_wp2_with (refine wpList_load_mid rfl 24 _ rfl w.heap.size 0 rfl cs _ haX Try.underlying24 rfl (by rw [LNX.out]; kernel_rfl) ?_)
  refine HC.out.mono ?_
  rintro e w0 ⟨rfl, hb⟩
  clear hzX haX hzM haM
  replace HB := uh (blw_trans HB.out hb)
  replace HX := uh (HX.out.later hb)
  replace HXM := uh (HXM.out.later hb)
  clear hb HC
  by_cases hl : m < 0
  · go_wp2
    go_ret
    exact ⟨rfl, HB.out⟩
  have hmq : 0 ≤ m ∧ m = 1048576 - ((wtL ds : Nat) : Int) := by
    have h2 := HM.out
    split at h2
    · omega
    · omega
  have hzX := HX.out.lt
  have haX := HX.out.at_
  have hzM := HXM.out.lt
  have haM := HXM.out.at_
  obtain ⟨m2, hm2⟩ : ∃ m2 : Int, m2 = if ((wtL dm : Nat) : Int) ≤ m then m - ((wtL dm : Nat) : Int) else -1 := ⟨_, rfl⟩
  have HC := uh (szStewService dm ms m w0 (by omega) (by omega) (HR2.out.later HB.out) HZ2.out)
  rw [← hm2] at HC
  have HM2 := uh hm2
  have HMQ := uh hmq
  clear hm2 hmq
  go_wp2_with (refine wpList_load_mid rfl 26 _ rfl (w.heap.size + 1) 0 rfl ms _ haM Try.underlying26 rfl (by rw [LNM.out]; kernel_rfl) ?_)
  refine HC.out.mono ?_
  rintro e w1 ⟨rfl, hb⟩
  clear hzX haX hzM haM
  replace HB := uh (blw_trans HB.out hb)
  replace HX := uh (HX.out.later hb)
  replace HXM := uh (HXM.out.later hb)
  clear hb HC
  by_cases hl2 : m2 < 0
  · go_wp2
    go_ret
    exact ⟨rfl, HB.out⟩
  have HW : Hid (wtL ds + wtL dm ≤ 1048576) := by
    show _ ≤ _; have h2 := HM2.out; have h3 := HMQ.out
    split at h2
    · omega
    · omega
  have HWa : Hid (wtL ds ≤ 1048576) := by show _ ≤ _; have := HW.out; omega
  have HWb : Hid (wtL dm ≤ 1048576) := by show _ ≤ _; have := HW.out; omega
  clear HM HM2 HMQ
  go_upto_region 8 with fail
  refine RY.region_fx w1 (Below.refl _ _) (fun j u W => match j with | 0 => u = .agg cs.toArray | 1 => ∃ c F, u = .agg c.toArray ∧ Rep W true shGateObject F ds c | 2 => u = .agg ms.toArray | 3 => ∃ c F, u = .agg c.toArray ∧ Rep W true shStewService F dm c | _ => True) ?_ shStewService A 29 13 #[.string { data := #[] }, .int .i64 0, .bool false, .int .i64 0, .int .i64 0, .int .i64 0, .int .i64 0, .int .i64 0, .int .i64 0, .int .i64 0, .int .i64 0, .int .i64 0, .int .i64 0].toList 4 5 6 23 6 (by kernel_rfl) (by kernel_rfl) (by kernel_rfl) (by kernel_rfl) (by kernel_rfl) (by decide) _ _ _ rfl rfl rfl rfl rfl rfl (by kernel_rfl) (by kernel_rfl) (by kernel_rfl) rfl rfl (by kernel_rfl) ?_ ?_ ?_ rfl ?_
  · intro j u W W' hb h
    match j, h with
    | 0, h => exact h
    | 1, h => obtain ⟨c, F, e, r⟩ := h; exact ⟨c, F, e, r.later hb⟩
    | 2, h => exact h
    | 3, h => obtain ⟨c, F, e, r⟩ := h; exact ⟨c, F, e, r.later hb⟩
    | n + 4, h => exact trivial
  · intro i o ho nV nA nS a W hW hk hd
    match i, ho with
    | 0, ho =>
      injection ho with ho; subst ho
      exact Or.inl ⟨_, W, exec_load_mid 24 _ rfl w.heap.size 0 ((hk 2 (by kernel_rfl)).trans rfl) cs _ (HX.out.later hW).at_ Try.underlying24 rfl (by rw [LNX.out]; kernel_rfl), Below.refl _ _, rfl⟩
    | 1, ho =>
      injection ho with ho; subst ho
      have e0 : a.tmps[19]?.getD undef = .agg cs.toArray := (RY.ev_tmp a 19).trans (hd 0 _ 19 rfl rfl (by decide) (by decide) ⟨⟨0, .data⟩, by simp, rfl, rfl⟩)
      refine Or.inr ⟨7, #[.agg cs.toArray], by simp [go_sem, e0], (toGateObject ds cs W (HR.out.later (blw_trans HB.out hW)) HWa.out).mono ?_⟩
      rintro e W' ⟨c, F, rfl, hr, _, _, hb⟩
      exact ⟨_, rfl, hb, c, F, rfl, hr⟩
    | 2, ho =>
      injection ho with ho; subst ho
      exact Or.inl ⟨_, W, exec_load_mid 26 _ rfl (w.heap.size + 1) 0 ((hk 3 (by kernel_rfl)).trans rfl) ms _ (HXM.out.later hW).at_ Try.underlying26 rfl (by rw [LNM.out]; kernel_rfl), Below.refl _ _, rfl⟩
    | 3, ho =>
      injection ho with ho; subst ho
      have e0 : a.tmps[21]?.getD undef = .agg ms.toArray := (RY.ev_tmp a 21).trans (hd 2 _ 21 rfl rfl (by decide) (by decide) ⟨⟨2, .data⟩, by simp, rfl, rfl⟩)
      refine Or.inr ⟨8, #[.agg ms.toArray], by simp [go_sem, e0], (toStewService dm ms W (HR2.out.later (blw_trans HB.out hW)) HWb.out).mono ?_⟩
      rintro e W' ⟨c, F, rfl, hr, _, _, hb⟩
      exact ⟨_, rfl, hb, c, F, rfl, hr⟩
    | 4, ho => exact absurd rfl nV
    | 5, ho => exact absurd rfl nA
    | 6, ho => exact absurd rfl nS
    | n + 7, ho => simp at ho
  · intro a W hW hk hd
    obtain ⟨c, F, e1, h1⟩ := hd 1 _ 20 rfl rfl (by decide) (by decide) ⟨⟨1, .data⟩, by simp, rfl, rfl⟩
    obtain ⟨d, G, e2, h2⟩ := hd 3 _ 22 rfl rfl (by decide) (by decide) ⟨⟨3, .data⟩, by simp, rfl, rfl⟩
    have e1 := (RY.ev_tmp a 20).trans e1
    have e2 := (RY.ev_tmp a 22).trans e2
    exact ⟨6, #[.agg c.toArray, .agg d.toArray], by simp [go_sem, e1, e2], HSP.out HW.out c d F G W h1 h2⟩
  · intro a W
    kernel_rfl
  intro w3 vs pS cS FS hb e5 e4 hpl own rng rep nd fr
  simp only [RY.putAll, Act.put, List.setIfInBounds_toArray, List.set_cons_zero, List.set_cons_succ]
  rw [e5, e4]
  generalize vs 19 = s19
  generalize vs 20 = s20
  generalize vs 21 = s21
  generalize vs 22 = s22
  clear e5 e4
  have LNS : Hid (cS.length = 13) := rep.len
  replace HB := uh (blw_trans HB.out hb)
  replace HX := uh (HX.out.later hb)
  replace HXM := uh (HXM.out.later hb)
  have RPS := uh rep
  have HXS : Hid (LBox w3 pS cS) := ⟨own.lt, rng⟩
  clear rep nd fr hb hpl own rng
  clear HSP
  have hzX := HX.out.lt
  have haX := HX.out.at_
  have hzM := HXM.out.lt
  have hzS := HXS.out.lt
  go_wp2_with (refine wpList_load_mid rfl 24 _ rfl w.heap.size 0 rfl cs _ haX Try.underlying24 rfl (by rw [LNX.out]; kernel_rfl) ?_)
  refine (toGateObject ds cs w3 (HR.out.later HB.out) HWa.out).mono ?_
  rintro e w4 ⟨cQ, FQ, rfl, rep, nd, fr, hb⟩
  clear hzX haX hzM hzS
  replace HB := uh (blw_trans HB.out hb)
  replace HX := uh (HX.out.later hb)
  replace HXM := uh (HXM.out.later hb)
  replace HXS := uh (HXS.out.later hb)
  replace RPS := uh (RPS.out.later hb)
  have RPQ := uh rep
  have LNQ : Hid (cQ.length = 7) := rep.len
  obtain ⟨yQ, hy⟩ : ∃ y, y = (w4.alloc (.cells #[.string { data := #[] }, .string { data := #[] }, .string { data := #[] }, .slice none 0 0, .bool false, .slice none 0 0, .int .i64 0] 31)).setCells w4.heap.size 0 cQ := ⟨_, rfl⟩
  have hth := nv_there w4 #[.string { data := #[] }, .string { data := #[] }, .string { data := #[] }, .slice none 0 0, .bool false, .slice none 0 0, .int .i64 0] 31 cQ (by rw [LNQ.out]; rfl)
  have hone := all_oneCell_toArray rep.raw.one
  have hsz : (Try.prog.info? 31).map (·.size) = some cQ.toArray.size := by rw [List.size_toArray, LNQ.out]; kernel_rfl
  have HXQ : Hid (LBox yQ w4.heap.size cQ) := by show LBox _ _ _; rw [hy]; exact nv_box w4 #[.string { data := #[] }, .string { data := #[] }, .string { data := #[] }, .slice none 0 0, .bool false, .slice none 0 0, .int .i64 0] 31 cQ (by rw [LNQ.out]; rfl)
  have hby : Below w4.heap.size w4 yQ := by rw [hy]; exact nv_below w4 #[.string { data := #[] }, .string { data := #[] }, .string { data := #[] }, .slice none 0 0, .bool false, .slice none 0 0, .int .i64 0] 31 cQ
  clear rep nd fr hb
  replace HB := uh (blw_trans HB.out hby)
  replace HX := uh (HX.out.later hby)
  replace HXM := uh (HXM.out.later hby)
  replace HXS := uh (HXS.out.later hby)
  replace RPS := uh (RPS.out.later hby)
  replace RPQ := uh (RPQ.out.later hby)
  clear hby
  go_upto_region 10 with (refine wpList_store_mid rfl 31 _ _ rfl w4.heap.size 0 cQ.toArray rfl rfl hth hsz hone ?_)
  first | rw [← hy] | (simp only [List.toList_toArray]; rw [← hy])
  clear hy hth hone hsz
  go_upto_region 10 with fail
  refine RY.region_fx yQ (Below.refl _ _) (fun j u W => match j with | 0 => u = .agg cQ.toArray | 1 => u = .agg ms.toArray | 2 => ∃ c F, u = .agg c.toArray ∧ Rep W true shStewService F dm c | _ => True) ?_ shStewService A 29 13 #[.string { data := #[] }, .int .i64 0, .bool false, .int .i64 0, .int .i64 0, .int .i64 0, .int .i64 0, .int .i64 0, .int .i64 0, .int .i64 0, .int .i64 0, .int .i64 0, .int .i64 0].toList 3 4 5 29 8 (by kernel_rfl) (by kernel_rfl) (by kernel_rfl) (by kernel_rfl) (by kernel_rfl) (by decide) _ _ _ rfl rfl rfl rfl rfl rfl (by kernel_rfl) (by kernel_rfl) (by kernel_rfl) rfl rfl (by kernel_rfl) ?_ ?_ ?_ rfl ?_
  · intro j u W W' hb h
    match j, h with
    | 0, h => exact h
    | 1, h => exact h
    | 2, h => obtain ⟨c, F, e, r⟩ := h; exact ⟨c, F, e, r.later hb⟩
    | n + 3, h => exact trivial
  · intro i o ho nV nA nS a W hW hk hd
    match i, ho with
    | 0, ho =>
      injection ho with ho; subst ho
      exact Or.inl ⟨_, W, exec_load_mid 31 _ rfl w4.heap.size 0 ((hk 7 (by kernel_rfl)).trans rfl) cQ _ (HXQ.out.later hW).at_ Try.underlying31 rfl (by rw [LNQ.out]; kernel_rfl), Below.refl _ _, rfl⟩
    | 1, ho =>
      injection ho with ho; subst ho
      exact Or.inl ⟨_, W, exec_load_mid 26 _ rfl (w.heap.size + 1) 0 ((hk 3 (by kernel_rfl)).trans rfl) ms _ (HXM.out.later hW).at_ Try.underlying26 rfl (by rw [LNM.out]; kernel_rfl), Below.refl _ _, rfl⟩
    | 2, ho =>
      injection ho with ho; subst ho
      have e0 : a.tmps[27]?.getD undef = .agg ms.toArray := (RY.ev_tmp a 27).trans (hd 1 _ 27 rfl rfl (by decide) (by decide) ⟨⟨1, .data⟩, by simp, rfl, rfl⟩)
      refine Or.inr ⟨8, #[.agg ms.toArray], by simp [go_sem, e0], (toStewService dm ms W (HR2.out.later (blw_trans HB.out hW)) HWb.out).mono ?_⟩
      rintro e W' ⟨c, F, rfl, hr, _, _, hb⟩
      exact ⟨_, rfl, hb, c, F, rfl, hr⟩
    | 3, ho => exact absurd rfl nV
    | 4, ho => exact absurd rfl nA
    | 5, ho => exact absurd rfl nS
    | n + 6, ho => simp at ho
  · intro a W hW hk hd
    have e1 : a.tmps[26]?.getD undef = .agg cQ.toArray := (RY.ev_tmp a 26).trans (hd 0 _ 26 rfl rfl (by decide) (by decide) ⟨⟨0, .data⟩, by simp, rfl, rfl⟩)
    obtain ⟨d, G, e2, h2⟩ := hd 2 _ 28 rfl rfl (by decide) (by decide) ⟨⟨2, .data⟩, by simp, rfl, rfl⟩
    have e2 := (RY.ev_tmp a 28).trans e2
    exact ⟨9, #[.agg cQ.toArray, .agg d.toArray], by simp [go_sem, e1, e2], HIM.out HW.out cQ d FQ G W (RPQ.out.later hW) h2⟩
  · intro a W
    kernel_rfl
  intro w6 vs pG cG FG hb e5 e4 hpl own rng rep nd fr
  simp only [RY.putAll, Act.put, List.setIfInBounds_toArray, List.set_cons_zero, List.set_cons_succ]
  rw [e5, e4]
  generalize vs 26 = t26
  generalize vs 27 = t27
  generalize vs 28 = t28
  clear e5 e4
  have LNG : Hid (cG.length = 13) := rep.len
  replace HB := uh (blw_trans HB.out hb)
  replace HX := uh (HX.out.later hb)
  replace HXM := uh (HXM.out.later hb)
  replace HXS := uh (HXS.out.later hb)
  replace HXQ := uh (HXQ.out.later hb)
  replace RPS := uh (RPS.out.later hb)
  replace RPQ := uh (RPQ.out.later hb)
  have RPG := uh rep
  have HXG : Hid (LBox w6 pG cG) := ⟨own.lt, rng⟩
  clear rep nd fr hb hpl own rng
  clear HIM
  have hzX := HX.out.lt
  have hzM := HXM.out.lt
  have hzS := HXS.out.lt
  have haS := HXS.out.at_
  have hzQ := HXQ.out.lt
  have hzG := HXG.out.lt
  have haG := HXG.out.at_
  go_wp2_with (first | refine wpList_load_mid rfl 29 _ rfl pG 0 rfl cG _ haG Try.underlying29 rfl (by rw [LNG.out]; kernel_rfl) ?_ | refine wpList_load_mid rfl 29 _ rfl pS 0 rfl cS _ haS Try.underlying29 rfl (by rw [LNS.out]; kernel_rfl) ?_)
  refine (eqStewService A cG cS w6 RPG.out.raw RPS.out.raw).mono ?_
  rintro e w7 ⟨rfl, hb⟩
  clear hzX hzM hzS haS hzQ hzG haG
  replace HB := uh (blw_trans HB.out hb)
  replace HX := uh (HX.out.later hb)
  replace HXM := uh (HXM.out.later hb)
  replace HXS := uh (HXS.out.later hb)
  replace HXQ := uh (HXQ.out.later hb)
  replace HXG := uh (HXG.out.later hb)
  replace RPS := uh (RPS.out.later hb)
  replace RPQ := uh (RPQ.out.later hb)
  replace RPG := uh (RPG.out.later hb)
  clear hb
  go_upto_region 13 with fail
  refine RY.region_past w7 (Below.refl _ _) (VEq (.agg cs.toArray) (.agg cQ.toArray) (fun W d => ∃ c F, d = c.toArray ∧ Rep W true shGateObject F ds c)) (VEq_mono (.agg cs.toArray) (.agg cQ.toArray) _ (by rintro W W' d ⟨c, F, rfl, h⟩ hb; exact ⟨c, F, rfl, h.later hb⟩)) (by kernel_rfl) (by kernel_rfl) (by kernel_rfl) (by kernel_rfl) ?_ ?_
  · intro i o ho a W hW hk hd
    have z0 := HXQ.out.later hW
    have z1 := HX.out.later hW
    match i, ho with
    | 0, ho =>
      injection ho with ho; subst ho
      exact Or.inl ⟨_, W, exec_load_mid 31 _ rfl w4.heap.size 0 ((hk 7 rfl).trans rfl) cQ _ z0.at_ Try.underlying31 rfl (by rw [LNQ.out]; kernel_rfl), Below.refl _ _, rfl⟩
    | 1, ho =>
      injection ho with ho; subst ho
      exact Or.inl ⟨_, W, exec_load_mid 24 _ rfl w.heap.size 0 ((hk 2 rfl).trans rfl) cs _ z1.at_ Try.underlying24 rfl (by rw [LNX.out]; kernel_rfl), Below.refl _ _, rfl⟩
    | 2, ho =>
      injection ho with ho; subst ho
      have e0 : a.tmps[35]?.getD undef = _ := (RY.ev_tmp a 35).trans (hd 1 _ 35 rfl rfl ⟨⟨1, .data⟩, by simp, rfl, rfl⟩)
      refine Or.inr ⟨7, #[.agg cs.toArray], by simp [go_sem, e0], (toGateObject ds cs W (HR.out.later (blw_trans HB.out hW)) HWa.out).mono ?_⟩
      rintro e W' ⟨c, F, rfl, hr, _, _, hb⟩
      exact ⟨_, rfl, hb, _, rfl, c, F, rfl, hr⟩
    | 3, ho =>
      injection ho with ho; subst ho
      have e0 : a.tmps[34]?.getD undef = _ := (RY.ev_tmp a 34).trans (hd 0 _ 34 rfl rfl ⟨⟨0, .data⟩, by simp, rfl, rfl⟩)
      obtain ⟨b1, e1, c, F, rfl, hr1⟩ := hd 2 _ 36 rfl rfl ⟨⟨2, .data⟩, by simp, rfl, rfl⟩
      have e1 := (RY.ev_tmp a 36).trans e1
      refine Or.inr ⟨11, #[.agg cQ.toArray, .agg c.toArray], by simp [go_sem, e0, e1], (eqGateObject ds cQ c W (RPQ.out.raw.later hW) hr1.raw).mono ?_⟩
      rintro e W' ⟨rfl, hb⟩
      exact ⟨_, rfl, hb, rfl⟩
    | 4, ho =>
      injection ho with ho; subst ho
      have e0 : a.tmps[37]?.getD undef = _ := (RY.ev_tmp a 37).trans (hd 3 _ 37 rfl rfl ⟨⟨3, .data⟩, by simp, rfl, rfl⟩)
      exact Or.inl ⟨.bool false, W, by simp [execOp, go_sem, e0], Below.refl _ _, rfl⟩
    | n + 5, ho => simp at ho
  intro w8 vs hb hvs
  have el_ : vs 38 = .bool false := hvs 4 _ 38 rfl rfl
  simp only [RY.putAll, Act.put, List.setIfInBounds_toArray, List.set_cons_zero, List.set_cons_succ]
  rw [el_]
  generalize vs 34 = z0
  generalize vs 35 = z1
  generalize vs 36 = z2
  generalize vs 37 = z3
  clear hvs el_
  replace HB := uh (blw_trans HB.out hb)
  clear hb
  go_wp2
  go_ret
  exact ⟨rfl, HB.out⟩

end Go.Proofs.Ytiiahpegdpbkgaa
