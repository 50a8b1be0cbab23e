/-
  Copies of messages one by one: the specification.
-/
import Derived.Test.YtnifdpjmpbocnaaGreatKCx
namespace Go.Proofs.YtnifdpjmpbocnaaGreat
open Go.RowKit Go.Deep

set_option maxRecDepth 8000 in
set_option maxHeartbeats 4000000 in
theorem l21SlotsC (n : Nat) (es : List Dt) (v : Value) (W : World) (h : Raw W [.row 98 shRecSlot] [.row n es] [v]) (hn : n ≤ 4194304) :
    Calls Tryz.prog 60 #[v] W (AnsL [.row 98 shRecSlot] (.row n es) W) := by
  obtain ⟨va, vc, hva⟩ := h.len0
  subst hva
  obtain ⟨wa, hwa⟩ : ∃ wa, wa = W.alloc (.cells #[] 98) := ⟨_, rfl⟩
  have HB : Hid (Below W.heap.size W wa) := by show Below _ _ _; rw [hwa]; exact blw_alloc (Below.refl _ _) _
  obtain ⟨v', W', xs, hrun, hg, hb⟩ := app_copy (P := Tryz.prog) W.heap.size 32 32 98 98 2 24 _ Tryz.cunderRecSlot Tryz.cinfoRecSlot rfl (by decide) (by decide) shRecSlot rfl (by simp [flatB]) wa (.slice (some ⟨W.heap.size, 0, none⟩) 0 0) (Or.inr ⟨W.heap.size, rfl, Nat.le_refl _, by rw [hwa]; exact heap_alloc_new _ _⟩) HB.out.size n es (.slice va n vc) (h.later HB.out) hn
  have HG := uh (And.intro hg hb)
  clear hg hb h
  obtain ⟨wx, wc, hvx⟩ := HG.out.1.shape
  subst hvx
  rw [hwa] at hrun
  go_enter Tryz.func60, Tryz.ntmps60
  go_wp2_with (at_builtin; refine Go.Lib.wpList_append_run _ rfl _ _ 32 32 rfl _ _ rfl rfl _ W' hrun ?_)
  clear hrun
  obtain ⟨F, r, nd, fr⟩ := HG.out.1.done
  have HR := uh (And.intro r (And.intro nd fr))
  clear r nd fr
  go_wp2
  go_ret
  exact ⟨_, F, rfl, HR.out.1, HR.out.2.1, HR.out.2.2, blw_trans HB.out HG.out.2⟩
set_option maxRecDepth 8000 in
set_option maxHeartbeats 8000000 in
theorem l21DiskC (ds : List Dt) (cs : List Value) (W : World) (h : Raw W shRecDisk ds cs) (hw : wtL ds ≤ 4194304) :
    Calls Tryz.prog 58 #[.agg cs.toArray] W (Ans shRecDisk ds W) := by
  obtain ⟨a0, a1, n2, e2, rfl, t2⟩ := typRecDisk h.typ
  obtain ⟨v2, hcs, r2⟩ := rawRecDisk h
  simp only [wtL] at hw
  have HW := uh hw
  have R2 := uh r2
  have HCS := uh hcs
  obtain ⟨wa, hwa⟩ : ∃ wa, wa = (W.alloc (.cells cs.toArray 34)).alloc (.cells #[.int .i64 0, .int .i64 0, .slice none 0 0] 34) := ⟨_, rfl⟩
  have HB : Hid (Below W.heap.size W wa) := by show Below _ _ _; rw [hwa]; exact blw_alloc (blw_alloc (Below.refl _ _) _) _
  have HX : Hid (WBox wa W.heap.size 34 [.int .i64 a0, .int .i64 a1, v2]) := by show WBox _ _ _ _; rw [hwa, ← hcs]; exact (WBox.new W cs _ _ rfl).later (blw_alloc (Below.refl _ _) _)
  have HRS : Hid (OwnBlk wa (W.heap.size + 1) 34 3) := by show OwnBlk _ _ _ _; rw [hwa]; exact OwnBlk.alloc_at3 _ _ _ _ _ rfl (by simp)
  clear h hcs hw r2 t2
  go_enter Tryz.func58, Tryz.ntmps58
  go_upto_region 1 with fail
  rw [← hwa]
  clear hwa
  obtain ⟨va2, vc2, hva⟩ := R2.out.len0
  subst hva
  have hz := HX.out.own.lt
  have hfz := HX.out.own.frozen
  have gc := HX.out.get 2 _ rfl
  go_wp2_with fail
  refine (l21SlotsC n2 e2 (.slice va2 n2 vc2) wa (R2.out.later HB.out) (by have := HW.out; omega)).mono ?_
  rintro e x2 ⟨w2, F2, rfl, rep, nd, fr, hb⟩
  obtain ⟨wa2, wc2, hva⟩ := rep.raw.len0
  subst hva
  obtain ⟨y2, hy⟩ : ∃ y, y = x2.setCell ⟨W.heap.size, 2, none⟩ (.slice wa2 n2 wc2) := ⟨_, rfl⟩
  have HS0 := uh HX.out.own.lt
  have HX1 := uh (HX.out.later hb)
  have HRS1 := uh (HRS.out.later hb)
  have HB1 := uh (blw_trans HB.out hb)
  have HX2 : Hid (WBox y2 W.heap.size 34 [.int .i64 a0, .int .i64 a1, .slice wa2 n2 wc2]) := by show WBox _ _ _ _; rw [hy]; exact HX1.out.set 2 (.slice wa2 n2 wc2) (by show 2 < 3; decide)
  have HRS2 : Hid (OwnBlk y2 (W.heap.size + 1) 34 3) := by show OwnBlk _ _ _ _; rw [hy]; exact HRS1.out.sc_other (by omega) _ _
  have HB2 : Hid (Below W.heap.size W y2) := by show Below _ _ _; rw [hy]; exact HB1.out.setCell (p := ⟨W.heap.size, 2, none⟩) (Nat.le_refl _) _
  have HM : Hid (Marks (fun b => b = W.heap.size) x2 y2) := (by rw [hy]; exact Marks.sc (S := fun b => b = W.heap.size) _ rfl _ _)
  have D2 := uh (rep.keep HM.out (fun b hb e => by have := fr b hb; have := HS0.out; omega))
  have HSZ2 : Hid (wa.heap.size ≤ x2.heap.size ∧ x2.heap.size ≤ y2.heap.size) := ⟨hb.size, HM.out.size⟩
  have FB2 : Hid (∀ b ∈ F2, wa.heap.size ≤ b ∧ b < x2.heap.size) := fun b hb => ⟨fr b hb, rep.lt b hb⟩
  have ND2 := uh nd
  have HWA : Hid (W.heap.size + 1 < wa.heap.size) := HRS.out.lt
  have hqz := HX1.out.own.lt
  have hqf := HX1.out.own.frozen
  obtain ⟨ux, eu⟩ := HX1.out.own.cell 2 (by show 2 < 3; decide)
  clear rep nd fr HX HRS HB
  go_upto_region 2 with fail
  rw [← hy]
  clear hy gc hz hfz hqz hqf eu HX1 HRS1 HB1 hb HM HS0
  have HX := HX2
  have HRS := HRS2
  have HB := HB2
  clear HX2 HRS2 HB2
  have hth : y2.there (W.heap.size + 1) 0 3 := uthere HRS.out _ _ (by omega)
  obtain ⟨we, hwe⟩ : ∃ we, we = y2.setCells (W.heap.size + 1) 0 [.int .i64 a0, .int .i64 a1, .slice wa2 n2 wc2] := ⟨_, rfl⟩
  have hrt : we.rangeAt (W.heap.size + 1) 0 [.int .i64 a0, .int .i64 a1, .slice wa2 n2 wc2] := by rw [hwe]; exact World.rangeAt_setCells_same _ _ _ _ hth
  have HBE : Hid (Below W.heap.size W we) := by show Below _ _ _; rw [hwe]; exact blw_scs (by omega) _ _ _ HB.out
  have HM : Hid (Marks (fun b => b = W.heap.size + 1) y2 we) := by show Marks _ _ _; rw [hwe]; exact mks_scs (S := fun b => b = W.heap.size + 1) rfl _ _ _
  replace D2 := uh (D2.out.keep HM.out (fun b hb e => by have := FB2.out b hb; have := HWA.out; have := HSZ2.out; omega))
  refine wp_region_lit ?_
  refine wpList_load_mid rfl 34 _ rfl W.heap.size 0 rfl [.int .i64 a0, .int .i64 a1, .slice wa2 n2 wc2] _ HX.out.at_ Tryz.underlying34 rfl (by kernel_rfl) ?_
  refine wpList_store_mid rfl 34 _ _ rfl (W.heap.size + 1) 0 ([.int .i64 a0, .int .i64 a1, .slice wa2 n2 wc2] : List Value).toArray rfl rfl hth (by kernel_rfl) (by simp [Value.oneCell']) ?_
  simp only [Act.put, List.setIfInBounds_toArray, List.set_cons_zero, List.set_cons_succ]
  rw [← hwe]
  clear hwe hth
  go_wp2
  refine bodyPost_ret (v := .agg ([.int .i64 a0, .int .i64 a1, .slice wa2 n2 wc2] : List Value).toArray) (by simp [results, Tryz.results58, asAddr, run_loadVar_mid (P := Tryz.prog) _ _ _ 34 [.int .i64 a0, .int .i64 a1, .slice wa2 n2 wc2] _ hrt Tryz.underlying34 rfl (by kernel_rfl)]) rfl ⟨[.int .i64 a0, .int .i64 a1, .slice wa2 n2 wc2], F2 ++ [], rfl, ?_, ?_, ?_, HBE.out⟩
  · exact repRecDisk_mk _ _ D2.out
  · exact (by rw [List.append_nil]; exact ND2.out)
  · exact (lo_join (fun b hb => by have := FB2.out b hb; have := HWA.out; have := HSZ2.out; omega) (by simp))
set_option maxRecDepth 8000 in
set_option maxHeartbeats 8000000 in
theorem l22MessageC (ds : List Dt) (cs : List Value) (W : World) (h : Raw W shRecMessage ds cs) (hw : wtL ds ≤ 4194304) :
    Calls Tryz.prog 84 #[.agg cs.toArray] W (Ans shRecMessage ds W) := by
  obtain ⟨a0, a1, a2, a3, a4, a5, a6, n7, e7, rfl, t7⟩ := typRecMessage h.typ
  obtain ⟨v7, hcs, r7⟩ := rawRecMessage h
  simp only [wtL] at hw
  have HW := uh hw
  have R7 := uh r7
  have HCS := uh hcs
  obtain ⟨wa, hwa⟩ : ∃ wa, wa = (W.alloc (.cells cs.toArray 89)).alloc (.cells #[.int .i64 0, .int .i64 0, .int .i64 0, .int .i64 0, .int .i64 0, .int .i64 0, .string { data := #[] }, .slice none 0 0] 89) := ⟨_, rfl⟩
  have HB : Hid (Below W.heap.size W wa) := by show Below _ _ _; rw [hwa]; exact blw_alloc (blw_alloc (Below.refl _ _) _) _
  have HX : Hid (WBox wa W.heap.size 89 [.int .i64 a0, .int .i64 a1, .int .i64 a2, .int .i64 a3, .int .i64 a4, .int .i64 a5, .string a6, v7]) := by show WBox _ _ _ _; rw [hwa, ← hcs]; exact (WBox.new W cs _ _ rfl).later (blw_alloc (Below.refl _ _) _)
  have HRS : Hid (OwnBlk wa (W.heap.size + 1) 89 8) := by show OwnBlk _ _ _ _; rw [hwa]; exact OwnBlk.alloc_at3 _ _ _ _ _ rfl (by simp)
  clear h hcs hw r7 t7
  go_enter Tryz.func84, Tryz.ntmps84
  go_upto_region 1 with fail
  rw [← hwa]
  clear hwa
  obtain ⟨va7, vc7, hva⟩ := R7.out.len0
  subst hva
  have hz := HX.out.own.lt
  have hfz := HX.out.own.frozen
  have gc := HX.out.get 7 _ rfl
  go_wp2_with fail
  refine (l21SlotsC n7 e7 (.slice va7 n7 vc7) wa (R7.out.later HB.out) (by have := HW.out; omega)).mono ?_
  rintro e x7 ⟨w7, F7, rfl, rep, nd, fr, hb⟩
  obtain ⟨wa7, wc7, hva⟩ := rep.raw.len0
  subst hva
  obtain ⟨y7, hy⟩ : ∃ y, y = x7.setCell ⟨W.heap.size, 7, none⟩ (.slice wa7 n7 wc7) := ⟨_, rfl⟩
  have HS0 := uh HX.out.own.lt
  have HX1 := uh (HX.out.later hb)
  have HRS1 := uh (HRS.out.later hb)
  have HB1 := uh (blw_trans HB.out hb)
  have HX2 : Hid (WBox y7 W.heap.size 89 [.int .i64 a0, .int .i64 a1, .int .i64 a2, .int .i64 a3, .int .i64 a4, .int .i64 a5, .string a6, .slice wa7 n7 wc7]) := by show WBox _ _ _ _; rw [hy]; exact HX1.out.set 7 (.slice wa7 n7 wc7) (by show 7 < 8; decide)
  have HRS2 : Hid (OwnBlk y7 (W.heap.size + 1) 89 8) := by show OwnBlk _ _ _ _; rw [hy]; exact HRS1.out.sc_other (by omega) _ _
  have HB2 : Hid (Below W.heap.size W y7) := by show Below _ _ _; rw [hy]; exact HB1.out.setCell (p := ⟨W.heap.size, 7, none⟩) (Nat.le_refl _) _
  have HM : Hid (Marks (fun b => b = W.heap.size) x7 y7) := (by rw [hy]; exact Marks.sc (S := fun b => b = W.heap.size) _ rfl _ _)
  have D7 := uh (rep.keep HM.out (fun b hb e => by have := fr b hb; have := HS0.out; omega))
  have HSZ7 : Hid (wa.heap.size ≤ x7.heap.size ∧ x7.heap.size ≤ y7.heap.size) := ⟨hb.size, HM.out.size⟩
  have FB7 : Hid (∀ b ∈ F7, wa.heap.size ≤ b ∧ b < x7.heap.size) := fun b hb => ⟨fr b hb, rep.lt b hb⟩
  have ND7 := uh nd
  have HWA : Hid (W.heap.size + 1 < wa.heap.size) := HRS.out.lt
  have hqz := HX1.out.own.lt
  have hqf := HX1.out.own.frozen
  obtain ⟨ux, eu⟩ := HX1.out.own.cell 7 (by show 7 < 8; decide)
  clear rep nd fr HX HRS HB
  go_upto_region 2 with fail
  rw [← hy]
  clear hy gc hz hfz hqz hqf eu HX1 HRS1 HB1 hb HM HS0
  have HX := HX2
  have HRS := HRS2
  have HB := HB2
  clear HX2 HRS2 HB2
  have hth : y7.there (W.heap.size + 1) 0 8 := uthere HRS.out _ _ (by omega)
  obtain ⟨we, hwe⟩ : ∃ we, we = y7.setCells (W.heap.size + 1) 0 [.int .i64 a0, .int .i64 a1, .int .i64 a2, .int .i64 a3, .int .i64 a4, .int .i64 a5, .string a6, .slice wa7 n7 wc7] := ⟨_, rfl⟩
  have hrt : we.rangeAt (W.heap.size + 1) 0 [.int .i64 a0, .int .i64 a1, .int .i64 a2, .int .i64 a3, .int .i64 a4, .int .i64 a5, .string a6, .slice wa7 n7 wc7] := by rw [hwe]; exact World.rangeAt_setCells_same _ _ _ _ hth
  have HBE : Hid (Below W.heap.size W we) := by show Below _ _ _; rw [hwe]; exact blw_scs (by omega) _ _ _ HB.out
  have HM : Hid (Marks (fun b => b = W.heap.size + 1) y7 we) := by show Marks _ _ _; rw [hwe]; exact mks_scs (S := fun b => b = W.heap.size + 1) rfl _ _ _
  replace D7 := uh (D7.out.keep HM.out (fun b hb e => by have := FB7.out b hb; have := HWA.out; have := HSZ7.out; omega))
  refine wp_region_lit ?_
  refine wpList_load_mid rfl 89 _ rfl W.heap.size 0 rfl [.int .i64 a0, .int .i64 a1, .int .i64 a2, .int .i64 a3, .int .i64 a4, .int .i64 a5, .string a6, .slice wa7 n7 wc7] _ HX.out.at_ Tryz.underlying89 rfl (by kernel_rfl) ?_
  refine wpList_store_mid rfl 89 _ _ rfl (W.heap.size + 1) 0 ([.int .i64 a0, .int .i64 a1, .int .i64 a2, .int .i64 a3, .int .i64 a4, .int .i64 a5, .string a6, .slice wa7 n7 wc7] : List Value).toArray rfl rfl hth (by kernel_rfl) (by simp [Value.oneCell']) ?_
  simp only [Act.put, List.setIfInBounds_toArray, List.set_cons_zero, List.set_cons_succ]
  rw [← hwe]
  clear hwe hth
  go_wp2
  refine bodyPost_ret (v := .agg ([.int .i64 a0, .int .i64 a1, .int .i64 a2, .int .i64 a3, .int .i64 a4, .int .i64 a5, .string a6, .slice wa7 n7 wc7] : List Value).toArray) (by simp [results, Tryz.results84, asAddr, run_loadVar_mid (P := Tryz.prog) _ _ _ 89 [.int .i64 a0, .int .i64 a1, .int .i64 a2, .int .i64 a3, .int .i64 a4, .int .i64 a5, .string a6, .slice wa7 n7 wc7] _ hrt Tryz.underlying89 rfl (by kernel_rfl)]) rfl ⟨[.int .i64 a0, .int .i64 a1, .int .i64 a2, .int .i64 a3, .int .i64 a4, .int .i64 a5, .string a6, .slice wa7 n7 wc7], F7 ++ [], rfl, ?_, ?_, ?_, HBE.out⟩
  · exact repRecMessage_mk _ _ _ _ _ _ _ D7.out
  · exact (by rw [List.append_nil]; exact ND7.out)
  · exact (lo_join (fun b hb => by have := FB7.out b hb; have := HWA.out; have := HSZ7.out; omega) (by simp))
end Go.Proofs.YtnifdpjmpbocnaaGreat

namespace Go.Proofs.YtnifdpjmpbocnaaGreat
open Go.RowKit Go.Deep

set_option maxRecDepth 8000 in
set_option maxHeartbeats 8000000 in
theorem l22MessagesC (n : Nat) (es : List Dt) (v : Value) (W : World) (h : Raw W [.row 89 shRecMessage] [.row n es] [v]) (hw : n + wtL es ≤ 4194304) :
    Calls Tryz.prog 59 #[v] W (AnsL [.row 89 shRecMessage] (.row n es) W) := by
  obtain ⟨va, vc, hva⟩ := h.len0
  subst hva
  have HH := uh h
  have HW := uh hw
  have hn : n ≤ 4194304 := by omega
  have HT : Hid (Typ (reps n shRecMessage) es) := by obtain ⟨_, _, _, q, t, _⟩ := h.typ.c_r; injection q with e1 e2; injection e1 with e3 e4; subst e3; subst e4; exact t
  clear h hw
  obtain ⟨i0, hi0, hzz⟩ := Option.map_eq_some_iff.1 Tryz.cinfoRecMessage
  simp only [Prod.mk.injEq] at hzz
  obtain ⟨hz0, hz1, hz2⟩ := hzz
  obtain ⟨wa, hwa⟩ : ∃ wa, wa = W.alloc (.cells #[] 89) := ⟨_, rfl⟩
  have HB : Hid (Below W.heap.size W wa) := by show Below _ _ _; rw [hwa]; exact blw_alloc (Below.refl _ _) _
  have HG : Hid (Gr wa W.heap.size 89 shRecMessage (.slice (some ⟨W.heap.size, 0, none⟩) 0 0) 0 [] [] []) := Gr.emp _ (by rw [hwa]; exact heap_alloc_new _ _) (Nat.le_refl _)
  go_enter Tryz.func59, Tryz.ntmps59
  go_upto_region 2 with fail
  rw [← hwa]
  clear hwa
  go_wp2
  go_loopw [3, 4] (fun o i wr => ∃ (q : Nat) (u : Value) (G : List Nat) (xs : List Value), q ≤ n ∧ i = .int .i64 (q : Int) ∧ o = u ∧ Gr wr W.heap.size 89 shRecMessage u q G (es.take (q * 8)) xs ∧ Below W.heap.size W wr) (fun _ i _ => n - (intOf i).toNat)
  case atStart => exact ⟨0, _, _, _, Nat.zero_le _, rfl, rfl, by rw [Nat.zero_mul, List.take_zero]; exact HG.out, HB.out⟩
  case round =>
    obtain ⟨q, u, G, xs, hq, rfl, rfl, hG, hB⟩ := hrel
    have HG := uh hG
    have HB := uh hB
    clear hG hB
    obtain ⟨ua, uc, huu⟩ := HG.out.shape
    subst huu
    by_cases hlt : q < n
    · rcases (HH.out.later HB.out).slice with ⟨e0, _⟩ | ⟨p, o, c2, hv, hp, _, vs, hr, hR⟩
      · omega
      injection hv with e1 _ e3
      subst e1
      subst e3
      obtain ⟨ve, hE, hg⟩ := hR.el hlt hr
      obtain ⟨d, hd⟩ : ∃ d, d = el 8 q es := ⟨_, rfl⟩
      have hE1 : Raw wr shRecMessage d ve := by rw [hd]; exact hE
      have hg2 : wr.rangeAt p (o + q * 8) ve := hg
      have hwd : wtL d ≤ 4194304 := by rw [hd]; have := HW.out; have := wt_next 8 q es; have := wt_le ((q + 1) * 8) es; omega
      have HD := uh hd
      have HL := uh hE1.len
      have HBL := uh (Nat.lt_of_lt_of_le hp (Nat.le_refl _))
      have hq0 : (0 : Int) ≤ (q : Int) := by omega
      have hq3 : (q : Int) < (n : Int) := by omega
      have HC := uh (l22MessageC d ve wr hE1 hwd)
      have HTY := uh hE1.typ
      clear hE hE1 hwd hd hg hR hr
      go_wp2_with (refine wpList_load_mid rfl 89 _ rfl p (o + q * 8) rfl ve _ hg2 Tryz.underlying89 rfl (by rw [HL.out]; kernel_rfl) ?_)
      refine HC.out.mono ?_
      rintro e w2 ⟨c', F', rfl, rep, nd, fr, hb⟩
      have HF := uh fr
      have HB2 := uh hb
      obtain ⟨a0, a1, a2, a3, a4, a5, a6, n7, e7, hde, t7⟩ := typRecMessage HTY.out
      subst hde
      obtain ⟨F7, v7, hFF, hcc, r7⟩ := repRecMessage rep
      subst hcc
      obtain ⟨wa7, wc7, hva⟩ := r7.raw.len0
      subst hva
      have HRP := uh (And.intro rep nd)
      clear rep nd fr hb HC HTY r7 t7 hFF
      go_wp2_with (at_builtin; refine wpList_append_lies _ rfl _ _ 35 rfl W.heap.size 89 i0 _ 8 88 Tryz.cunderRecMessage hi0 hz0 hz1 hz2 rfl (by decide) (.slice ua q uc) q xs rfl ?h1a ⟨w2.heap.size, 0, none⟩ 1 1 [.int .i64 a0, .int .i64 a1, .int .i64 a2, .int .i64 a3, .int .i64 a4, .int .i64 a5, .string a6, .slice wa7 n7 wc7] rfl ?h1b ?h1c ?h1d ?h1e ?h1f ?h1g ?h1h _ rfl ?_)
      case h1a => exact owns_lt_later (HG.out.later HB2.out).row (blw_alloc (Below.refl _ _) _)
      try (case h1b => rfl)
      case h1c => exact news_new w2 #[.int .i64 a0, .int .i64 a1, .int .i64 a2, .int .i64 a3, .int .i64 a4, .int .i64 a5, .string a6, .slice wa7 n7 wc7] 89
      case h1d => exact fun u hu => HRP.out.1.raw.one u hu
      case h1e => decide
      case h1f => unfold maxLen; omega
      case h1g => omega
      case h1h => have := HB.out.size; have := HB2.out.size; simp; omega
      intro g cap w3 hown hgrow hgg _
      have hbt : Below wr.heap.size wr (w2.alloc (.cells #[.int .i64 a0, .int .i64 a1, .int .i64 a2, .int .i64 a3, .int .i64 a4, .int .i64 a5, .string a6, .slice wa7 n7 wc7] 89)) := blw_trans HB2.out (blw_alloc (Below.refl _ _) _)
      have HN2 : Hid (Gr w3 W.heap.size 89 shRecMessage (.slice (some ⟨g, 0, none⟩) (q + 1) cap) (q + 1) (G ++ F') (es.take ((q + 1) * 8)) (xs ++ [.int .i64 a0, .int .i64 a1, .int .i64 a2, .int .i64 a3, .int .i64 a4, .int .i64 a5, .string a6, .slice wa7 n7 wc7])) := by
        have := HG.out.push (F := F') hbt (HRP.out.1.later (blw_alloc (Below.refl _ _) _)) HRP.out.2 HF.out HB.out.size hown hgrow (H := w2.heap.size + 1) (by simp) hgg
        rw [Nat.succ_mul, el_take, ← HD.out]
        exact this
      have HB3 : Hid (Below W.heap.size W w3) := blw_grown (blw_trans HB.out hbt) hgrow (fun b hb => (owns_blk_lt HG.out.row hb).1)
      clear hown hgrow hbt HG HB HB2 HRP HF
      go_wp2
      go_roundw
      case rel => exact ⟨q + 1, _, _, _, by omega, by go_num, rfl, HN2.out, HB3.out⟩
      case measure => simp [intOf]; omega
    · obtain rfl : q = n := by omega
      have el_ : es.length = q * 8 := HT.out.rows
      rw [← el_, List.take_length] at HG
      obtain ⟨F, r, nd, fr⟩ := HG.out.done
      have HRR := uh (And.intro r (And.intro nd fr))
      clear r nd fr el_
      go_wp2
      go_ret
      exact ⟨_, F, rfl, HRR.out.1, HRR.out.2.1, HRR.out.2.2, HB.out⟩
end Go.Proofs.YtnifdpjmpbocnaaGreat
