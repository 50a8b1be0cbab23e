/-
  Copies of messages and acks one by one: the program.
-/
import Derived.Test.YtnifdpjmpbocnaaGreatKCx
namespace Go.Proofs.YtnifdpjmpbocnaaGreat
open Go.RowKit Go.Deep

set_option maxRecDepth 8000 in
set_option maxHeartbeats 4000000 in
theorem copySlotsI (n : Nat) (es : List Dt) (v : Value) (W : World) (h : Raw W [.row 98 shRecSlot] [.row n es] [v]) (hn : n ≤ 4194304) :
    Calls Tryz.prog 74 #[v] W (AnsL [.row 98 shRecSlot] (.row n es) W) := by
  obtain ⟨va, vc, hva⟩ := h.len0
  subst hva
  obtain ⟨v', W', xs, hrun, hg, hb⟩ := app_copy (P := Tryz.prog) W.heap.size 32 32 98 98 2 24 _ Tryz.cunderRecSlot Tryz.cinfoRecSlot rfl (by decide) (by decide) shRecSlot rfl (by simp [flatB]) W (.slice none 0 0) (Or.inl rfl) (Nat.le_refl _) n es (.slice va n vc) h hn
  have HG := uh (And.intro hg hb)
  clear hg hb h
  obtain ⟨wx, wc, hvx⟩ := HG.out.1.shape
  subst hvx
  go_enter Tryz.func74, Tryz.ntmps74
  go_wp2_with (at_builtin; refine Go.Lib.wpList_append_run _ rfl _ _ 32 32 rfl _ _ rfl rfl _ W' hrun ?_)
  clear hrun
  obtain ⟨F, r, nd, fr⟩ := HG.out.1.done
  have HR := uh (And.intro r (And.intro nd fr))
  clear r nd fr
  go_wp2
  go_ret
  exact ⟨_, F, rfl, HR.out.1, HR.out.2.1, HR.out.2.2, HG.out.2⟩
set_option maxRecDepth 8000 in
set_option maxHeartbeats 4000000 in
theorem copyTextsI (n : Nat) (es : List Dt) (v : Value) (W : World) (h : Raw W [.row 9 [.s]] [.row n es] [v]) (hn : n ≤ 4194304) :
    Calls Tryz.prog 77 #[v] W (AnsL [.row 9 [.s]] (.row n es) W) := by
  obtain ⟨va, vc, hva⟩ := h.len0
  subst hva
  obtain ⟨v', W', xs, hrun, hg, hb⟩ := app_copy (P := Tryz.prog) W.heap.size 26 26 9 9 1 16 _ Tryz.cunderT1 Tryz.cinfoT1 rfl (by decide) (by decide) [.s] rfl (by simp [flatB]) W (.slice none 0 0) (Or.inl rfl) (Nat.le_refl _) n es (.slice va n vc) h hn
  have HG := uh (And.intro hg hb)
  clear hg hb h
  obtain ⟨wx, wc, hvx⟩ := HG.out.1.shape
  subst hvx
  go_enter Tryz.func77, Tryz.ntmps77
  go_wp2_with (at_builtin; refine Go.Lib.wpList_append_run _ rfl _ _ 26 26 rfl _ _ rfl rfl _ W' hrun ?_)
  clear hrun
  obtain ⟨F, r, nd, fr⟩ := HG.out.1.done
  have HR := uh (And.intro r (And.intro nd fr))
  clear r nd fr
  go_wp2
  go_ret
  exact ⟨_, F, rfl, HR.out.1, HR.out.2.1, HR.out.2.2, HG.out.2⟩
set_option maxRecDepth 8000 in
set_option maxHeartbeats 8000000 in
theorem copyMessageI (ds : List Dt) (cs : List Value) (W : World) (h : Raw W shRecMessage ds cs) (hw : wtL ds ≤ 4194304) :
    Calls Tryz.prog 76 #[.agg cs.toArray] W (Ans shRecMessage ds W) := by
  obtain ⟨a0, a1, a2, a3, a4, a5, a6, n7, e7, rfl, t7⟩ := typRecMessage h.typ
  obtain ⟨v7, hcs, r7⟩ := rawRecMessage h
  simp only [wtL] at hw
  have HW := uh hw
  have R7 := uh r7
  have HCS := uh hcs
  obtain ⟨wa, hwa⟩ : ∃ wa, wa = (W.alloc (.cells cs.toArray 89)).alloc (.cells #[.int .i64 0, .int .i64 0, .int .i64 0, .int .i64 0, .int .i64 0, .int .i64 0, .string { data := #[] }, .slice none 0 0] 89) := ⟨_, rfl⟩
  have HB : Hid (Below W.heap.size W wa) := by show Below _ _ _; rw [hwa]; exact blw_alloc (blw_alloc (Below.refl _ _) _) _
  have HX : Hid (WBox wa W.heap.size 89 [.int .i64 a0, .int .i64 a1, .int .i64 a2, .int .i64 a3, .int .i64 a4, .int .i64 a5, .string a6, v7]) := by show WBox _ _ _ _; rw [hwa, ← hcs]; exact (WBox.new W cs _ _ rfl).later (blw_alloc (Below.refl _ _) _)
  have HRS : Hid (OwnBlk wa (W.heap.size + 1) 89 8) := by show OwnBlk _ _ _ _; rw [hwa]; exact OwnBlk.alloc_at3 _ _ _ _ _ rfl (by simp)
  clear h hcs hw r7 t7
  go_enter Tryz.func76, Tryz.ntmps76
  go_upto_region 1 with fail
  rw [← hwa]
  clear hwa
  obtain ⟨va7, vc7, hva⟩ := R7.out.len0
  subst hva
  have hz := HX.out.own.lt
  have hfz := HX.out.own.frozen
  have gc := HX.out.get 7 _ rfl
  go_wp2_with fail
  refine (copySlotsI n7 e7 (.slice va7 n7 vc7) wa (R7.out.later HB.out) (by have := HW.out; omega)).mono ?_
  rintro e x7 ⟨w7, F7, rfl, rep, nd, fr, hb⟩
  obtain ⟨wa7, wc7, hva⟩ := rep.raw.len0
  subst hva
  obtain ⟨y7, hy⟩ : ∃ y, y = x7.setCell ⟨W.heap.size, 7, none⟩ (.slice wa7 n7 wc7) := ⟨_, rfl⟩
  have HS0 := uh HX.out.own.lt
  have HX1 := uh (HX.out.later hb)
  have HRS1 := uh (HRS.out.later hb)
  have HB1 := uh (blw_trans HB.out hb)
  have HX2 : Hid (WBox y7 W.heap.size 89 [.int .i64 a0, .int .i64 a1, .int .i64 a2, .int .i64 a3, .int .i64 a4, .int .i64 a5, .string a6, .slice wa7 n7 wc7]) := by show WBox _ _ _ _; rw [hy]; exact HX1.out.set 7 (.slice wa7 n7 wc7) (by show 7 < 8; decide)
  have HRS2 : Hid (OwnBlk y7 (W.heap.size + 1) 89 8) := by show OwnBlk _ _ _ _; rw [hy]; exact HRS1.out.sc_other (by omega) _ _
  have HB2 : Hid (Below W.heap.size W y7) := by show Below _ _ _; rw [hy]; exact HB1.out.setCell (p := ⟨W.heap.size, 7, none⟩) (Nat.le_refl _) _
  have HM : Hid (Marks (fun b => b = W.heap.size) x7 y7) := (by rw [hy]; exact Marks.sc (S := fun b => b = W.heap.size) _ rfl _ _)
  have D7 := uh (rep.keep HM.out (fun b hb e => by have := fr b hb; have := HS0.out; omega))
  have HSZ7 : Hid (wa.heap.size ≤ x7.heap.size ∧ x7.heap.size ≤ y7.heap.size) := ⟨hb.size, HM.out.size⟩
  have FB7 : Hid (∀ b ∈ F7, wa.heap.size ≤ b ∧ b < x7.heap.size) := fun b hb => ⟨fr b hb, rep.lt b hb⟩
  have ND7 := uh nd
  have HWA : Hid (W.heap.size + 1 < wa.heap.size) := HRS.out.lt
  have hqz := HX1.out.own.lt
  have hqf := HX1.out.own.frozen
  obtain ⟨ux, eu⟩ := HX1.out.own.cell 7 (by show 7 < 8; decide)
  clear rep nd fr HX HRS HB
  go_upto_region 2 with fail
  rw [← hy]
  clear hy gc hz hfz hqz hqf eu HX1 HRS1 HB1 hb HM HS0
  have HX := HX2
  have HRS := HRS2
  have HB := HB2
  clear HX2 HRS2 HB2
  have hth : y7.there (W.heap.size + 1) 0 8 := uthere HRS.out _ _ (by omega)
  obtain ⟨we, hwe⟩ : ∃ we, we = y7.setCells (W.heap.size + 1) 0 [.int .i64 a0, .int .i64 a1, .int .i64 a2, .int .i64 a3, .int .i64 a4, .int .i64 a5, .string a6, .slice wa7 n7 wc7] := ⟨_, rfl⟩
  have hrt : we.rangeAt (W.heap.size + 1) 0 [.int .i64 a0, .int .i64 a1, .int .i64 a2, .int .i64 a3, .int .i64 a4, .int .i64 a5, .string a6, .slice wa7 n7 wc7] := by rw [hwe]; exact World.rangeAt_setCells_same _ _ _ _ hth
  have HBE : Hid (Below W.heap.size W we) := by show Below _ _ _; rw [hwe]; exact blw_scs (by omega) _ _ _ HB.out
  have HM : Hid (Marks (fun b => b = W.heap.size + 1) y7 we) := by show Marks _ _ _; rw [hwe]; exact mks_scs (S := fun b => b = W.heap.size + 1) rfl _ _ _
  replace D7 := uh (D7.out.keep HM.out (fun b hb e => by have := FB7.out b hb; have := HWA.out; have := HSZ7.out; omega))
  refine wp_region_lit ?_
  refine wpList_load_mid rfl 89 _ rfl W.heap.size 0 rfl [.int .i64 a0, .int .i64 a1, .int .i64 a2, .int .i64 a3, .int .i64 a4, .int .i64 a5, .string a6, .slice wa7 n7 wc7] _ HX.out.at_ Tryz.underlying89 rfl (by kernel_rfl) ?_
  refine wpList_store_mid rfl 89 _ _ rfl (W.heap.size + 1) 0 ([.int .i64 a0, .int .i64 a1, .int .i64 a2, .int .i64 a3, .int .i64 a4, .int .i64 a5, .string a6, .slice wa7 n7 wc7] : List Value).toArray rfl rfl hth (by kernel_rfl) (by simp [Value.oneCell']) ?_
  simp only [Act.put, List.setIfInBounds_toArray, List.set_cons_zero, List.set_cons_succ]
  rw [← hwe]
  clear hwe hth
  go_wp2
  refine bodyPost_ret (v := .agg ([.int .i64 a0, .int .i64 a1, .int .i64 a2, .int .i64 a3, .int .i64 a4, .int .i64 a5, .string a6, .slice wa7 n7 wc7] : List Value).toArray) (by simp [results, Tryz.results76, asAddr, run_loadVar_mid (P := Tryz.prog) _ _ _ 89 [.int .i64 a0, .int .i64 a1, .int .i64 a2, .int .i64 a3, .int .i64 a4, .int .i64 a5, .string a6, .slice wa7 n7 wc7] _ hrt Tryz.underlying89 rfl (by kernel_rfl)]) rfl ⟨[.int .i64 a0, .int .i64 a1, .int .i64 a2, .int .i64 a3, .int .i64 a4, .int .i64 a5, .string a6, .slice wa7 n7 wc7], F7 ++ [], rfl, ?_, ?_, ?_, HBE.out⟩
  · exact repRecMessage_mk _ _ _ _ _ _ _ D7.out
  · exact (by rw [List.append_nil]; exact ND7.out)
  · exact (lo_join (fun b hb => by have := FB7.out b hb; have := HWA.out; have := HSZ7.out; omega) (by simp))
set_option maxRecDepth 8000 in
set_option maxHeartbeats 8000000 in
theorem copyAckI (ds : List Dt) (cs : List Value) (W : World) (h : Raw W shRecAck ds cs) (hw : wtL ds ≤ 4194304) :
    Calls Tryz.prog 79 #[.agg cs.toArray] W (Ans shRecAck ds W) := by
  obtain ⟨a0, n1, e1, rfl, t1⟩ := typRecAck h.typ
  obtain ⟨v1, hcs, r1⟩ := rawRecAck h
  simp only [wtL] at hw
  have HW := uh hw
  have R1 := uh r1
  have HCS := uh hcs
  obtain ⟨wa, hwa⟩ : ∃ wa, wa = (W.alloc (.cells cs.toArray 96)).alloc (.cells #[.int .i64 0, .slice none 0 0] 96) := ⟨_, rfl⟩
  have HB : Hid (Below W.heap.size W wa) := by show Below _ _ _; rw [hwa]; exact blw_alloc (blw_alloc (Below.refl _ _) _) _
  have HX : Hid (WBox wa W.heap.size 96 [.int .i64 a0, v1]) := by show WBox _ _ _ _; rw [hwa, ← hcs]; exact (WBox.new W cs _ _ rfl).later (blw_alloc (Below.refl _ _) _)
  have HRS : Hid (OwnBlk wa (W.heap.size + 1) 96 2) := by show OwnBlk _ _ _ _; rw [hwa]; exact OwnBlk.alloc_at3 _ _ _ _ _ rfl (by simp)
  clear h hcs hw r1 t1
  go_enter Tryz.func79, Tryz.ntmps79
  go_upto_region 1 with fail
  rw [← hwa]
  clear hwa
  obtain ⟨va1, vc1, hva⟩ := R1.out.len0
  subst hva
  have hz := HX.out.own.lt
  have hfz := HX.out.own.frozen
  have gc := HX.out.get 1 _ rfl
  obtain ⟨v', x1, xs, hrun, hg, hb⟩ := app_copy (P := Tryz.prog) wa.heap.size 27 27 3 3 1 8 _ Tryz.cunderN1 Tryz.cinfoN1 rfl (by decide) (by decide) [.i] rfl (by simp [flatB]) wa (.slice none 0 0) (Or.inl rfl) (Nat.le_refl _) n1 e1 (.slice va1 n1 vc1) (R1.out.later HB.out) (by have := HW.out; omega)
  obtain ⟨wa1, wc1, hva⟩ := hg.shape
  subst hva
  obtain ⟨F1, rep, nd, fr⟩ := hg.done
  clear hg
  obtain ⟨y1, hy⟩ : ∃ y, y = x1.setCell ⟨W.heap.size, 1, none⟩ (.slice wa1 n1 wc1) := ⟨_, rfl⟩
  have HS0 := uh HX.out.own.lt
  have HX1 := uh (HX.out.later hb)
  have HRS1 := uh (HRS.out.later hb)
  have HB1 := uh (blw_trans HB.out hb)
  have HX2 : Hid (WBox y1 W.heap.size 96 [.int .i64 a0, .slice wa1 n1 wc1]) := by show WBox _ _ _ _; rw [hy]; exact HX1.out.set 1 (.slice wa1 n1 wc1) (by show 1 < 2; decide)
  have HRS2 : Hid (OwnBlk y1 (W.heap.size + 1) 96 2) := by show OwnBlk _ _ _ _; rw [hy]; exact HRS1.out.sc_other (by omega) _ _
  have HB2 : Hid (Below W.heap.size W y1) := by show Below _ _ _; rw [hy]; exact HB1.out.setCell (p := ⟨W.heap.size, 1, none⟩) (Nat.le_refl _) _
  have HM : Hid (Marks (fun b => b = W.heap.size) x1 y1) := (by rw [hy]; exact Marks.sc (S := fun b => b = W.heap.size) _ rfl _ _)
  have D1 := uh (rep.keep HM.out (fun b hb e => by have := fr b hb; have := HS0.out; omega))
  have HSZ1 : Hid (wa.heap.size ≤ x1.heap.size ∧ x1.heap.size ≤ y1.heap.size) := ⟨hb.size, HM.out.size⟩
  have FB1 : Hid (∀ b ∈ F1, wa.heap.size ≤ b ∧ b < x1.heap.size) := fun b hb => ⟨fr b hb, rep.lt b hb⟩
  have ND1 := uh nd
  have HWA : Hid (W.heap.size + 1 < wa.heap.size) := HRS.out.lt
  have hqz := HX1.out.own.lt
  have hqf := HX1.out.own.frozen
  obtain ⟨ux, eu⟩ := HX1.out.own.cell 1 (by show 1 < 2; decide)
  clear rep nd fr HX HRS HB
  go_upto_region 2 with (at_builtin; refine Go.Lib.wpList_append_run _ rfl _ _ 27 27 rfl _ _ rfl rfl _ x1 hrun ?_)
  rw [← hy]
  clear hy gc hz hfz hqz hqf eu HX1 HRS1 HB1 hb HM HS0 hrun
  have HX := HX2
  have HRS := HRS2
  have HB := HB2
  clear HX2 HRS2 HB2
  have hth : y1.there (W.heap.size + 1) 0 2 := uthere HRS.out _ _ (by omega)
  obtain ⟨we, hwe⟩ : ∃ we, we = y1.setCells (W.heap.size + 1) 0 [.int .i64 a0, .slice wa1 n1 wc1] := ⟨_, rfl⟩
  have hrt : we.rangeAt (W.heap.size + 1) 0 [.int .i64 a0, .slice wa1 n1 wc1] := by rw [hwe]; exact World.rangeAt_setCells_same _ _ _ _ hth
  have HBE : Hid (Below W.heap.size W we) := by show Below _ _ _; rw [hwe]; exact blw_scs (by omega) _ _ _ HB.out
  have HM : Hid (Marks (fun b => b = W.heap.size + 1) y1 we) := by show Marks _ _ _; rw [hwe]; exact mks_scs (S := fun b => b = W.heap.size + 1) rfl _ _ _
  replace D1 := uh (D1.out.keep HM.out (fun b hb e => by have := FB1.out b hb; have := HWA.out; have := HSZ1.out; omega))
  refine wp_region_lit ?_
  refine wpList_load_mid rfl 96 _ rfl W.heap.size 0 rfl [.int .i64 a0, .slice wa1 n1 wc1] _ HX.out.at_ Tryz.underlying96 rfl (by kernel_rfl) ?_
  refine wpList_store_mid rfl 96 _ _ rfl (W.heap.size + 1) 0 ([.int .i64 a0, .slice wa1 n1 wc1] : List Value).toArray rfl rfl hth (by kernel_rfl) (by simp [Value.oneCell']) ?_
  simp only [Act.put, List.setIfInBounds_toArray, List.set_cons_zero, List.set_cons_succ]
  rw [← hwe]
  clear hwe hth
  go_wp2
  refine bodyPost_ret (v := .agg ([.int .i64 a0, .slice wa1 n1 wc1] : List Value).toArray) (by simp [results, Tryz.results79, asAddr, run_loadVar_mid (P := Tryz.prog) _ _ _ 96 [.int .i64 a0, .slice wa1 n1 wc1] _ hrt Tryz.underlying96 rfl (by kernel_rfl)]) rfl ⟨[.int .i64 a0, .slice wa1 n1 wc1], F1 ++ [], rfl, ?_, ?_, ?_, HBE.out⟩
  · exact repRecAck_mk _ D1.out
  · exact (by rw [List.append_nil]; exact ND1.out)
  · exact (lo_join (fun b hb => by have := FB1.out b hb; have := HWA.out; have := HSZ1.out; omega) (by simp))
end Go.Proofs.YtnifdpjmpbocnaaGreat

namespace Go.Proofs.YtnifdpjmpbocnaaGreat
open Go.RowKit Go.Deep

set_option maxRecDepth 8000 in
set_option maxHeartbeats 4000000 in
theorem growMsgI (n : Nat) (W : World) (hn : n ≤ 4194304) :
    Calls Tryz.prog 95 #[.slice none 0 0, .int .i64 (n : Int)] W fun e w' => ∃ v, e = .returned v ∧ Gr w' W.heap.size 89 shRecMessage v 0 [] [] [] ∧ Below W.heap.size W w' := by
  obtain ⟨i0, hi0, hzz⟩ := Option.map_eq_some_iff.1 Tryz.cinfoRecMessage
  simp only [Prod.mk.injEq] at hzz
  obtain ⟨hz0, hz1, hz2⟩ := hzz
  have hn0 : ¬ (n : Int) < 0 := by omega
  by_cases h0 : n = 0
  · subst h0
    go_enter Tryz.func95, Tryz.ntmps95
    go_wp2
    go_ret
    exact ⟨_, rfl, Gr.nil _ _ _ _, Below.refl _ _⟩
  have hp : 0 < n := by omega
  have hpi : (0 : Int) < (n : Int) := by omega
  have hrun := Go.Lib.run_append_nil_zeros (P := Tryz.prog) W 35 3 35 89 i0 _ .i64 .i64 Tryz.cunderRecMessage Tryz.underlying3 hi0 hz0 n hp (by rw [hz1]; decide) (by omega) (by rw [hz2]; omega)
  have hge := grownCap_ge W n 0 89
  have hle := grownCap_le_maxLen W n 0 89 (by unfold maxLen; omega)
  obtain ⟨cap, hcap⟩ : ∃ cap, cap = grownCap W n 0 89 := ⟨_, rfl⟩
  rw [← hcap] at hrun hge hle
  obtain ⟨w2, hw2⟩ : ∃ w2, w2 = W.drew.alloc (.cells (Builtin.zeroCells (.agg #[.int .i64 0, .int .i64 0, .int .i64 0, .int .i64 0, .int .i64 0, .int .i64 0, .string ByteArray.empty, .slice none 0 0] : Value).cells n ++ Builtin.zeroCells (.agg #[.int .i64 0, .int .i64 0, .int .i64 0, .int .i64 0, .int .i64 0, .int .i64 0, .string ByteArray.empty, .slice none 0 0] : Value).cells (cap - n)) 89) := ⟨_, rfl⟩
  rw [← hw2] at hrun
  have HG : Hid (Gr w2 W.heap.size 89 shRecMessage (.slice (some ⟨W.heap.size, 0, none⟩) 0 cap) 0 [] [] []) := by
    refine ⟨⟨by simp, Or.inr ⟨W.heap.size, cap, _, rfl, Nat.le_refl _, by rw [hw2]; exact heap_alloc_new W.drew _, Nat.zero_le _, hle, ?_, by simp⟩⟩, .nil, List.nodup_nil, by simp⟩
    rw [Array.size_append, size_zeroCells, size_zeroCells, ← Nat.add_mul]
    show (n + (cap - n)) * 8 = cap * 8
    congr 1; omega
  have HB : Hid (Below W.heap.size W w2) := by show Below _ _ _; rw [hw2]; exact blw_alloc (Below.drew (Below.refl _ _)) _
  have hcc : (0 : Int) ≤ (cap : Int) := by omega
  clear hw2 hcap
  go_enter Tryz.func95, Tryz.ntmps95
  go_wp2_with (at_builtin; refine Go.Lib.wpList_append_run _ rfl _ _ 35 3 rfl _ _ rfl rfl _ w2 hrun ?_)
  clear hrun
  go_wp2
  go_ret
  exact ⟨_, rfl, HG.out, HB.out⟩
set_option maxRecDepth 8000 in
set_option maxHeartbeats 4000000 in
theorem growAckI (n : Nat) (W : World) (hn : n ≤ 4194304) :
    Calls Tryz.prog 96 #[.slice none 0 0, .int .i64 (n : Int)] W fun e w' => ∃ v, e = .returned v ∧ Gr w' W.heap.size 96 shRecAck v 0 [] [] [] ∧ Below W.heap.size W w' := by
  obtain ⟨i0, hi0, hzz⟩ := Option.map_eq_some_iff.1 Tryz.cinfoRecAck
  simp only [Prod.mk.injEq] at hzz
  obtain ⟨hz0, hz1, hz2⟩ := hzz
  have hn0 : ¬ (n : Int) < 0 := by omega
  by_cases h0 : n = 0
  · subst h0
    go_enter Tryz.func96, Tryz.ntmps96
    go_wp2
    go_ret
    exact ⟨_, rfl, Gr.nil _ _ _ _, Below.refl _ _⟩
  have hp : 0 < n := by omega
  have hpi : (0 : Int) < (n : Int) := by omega
  have hrun := Go.Lib.run_append_nil_zeros (P := Tryz.prog) W 36 3 36 96 i0 _ .i64 .i64 Tryz.cunderRecAck Tryz.underlying3 hi0 hz0 n hp (by rw [hz1]; decide) (by omega) (by rw [hz2]; omega)
  have hge := grownCap_ge W n 0 96
  have hle := grownCap_le_maxLen W n 0 96 (by unfold maxLen; omega)
  obtain ⟨cap, hcap⟩ : ∃ cap, cap = grownCap W n 0 96 := ⟨_, rfl⟩
  rw [← hcap] at hrun hge hle
  obtain ⟨w2, hw2⟩ : ∃ w2, w2 = W.drew.alloc (.cells (Builtin.zeroCells (.agg #[.int .i64 0, .slice none 0 0] : Value).cells n ++ Builtin.zeroCells (.agg #[.int .i64 0, .slice none 0 0] : Value).cells (cap - n)) 96) := ⟨_, rfl⟩
  rw [← hw2] at hrun
  have HG : Hid (Gr w2 W.heap.size 96 shRecAck (.slice (some ⟨W.heap.size, 0, none⟩) 0 cap) 0 [] [] []) := by
    refine ⟨⟨by simp, Or.inr ⟨W.heap.size, cap, _, rfl, Nat.le_refl _, by rw [hw2]; exact heap_alloc_new W.drew _, Nat.zero_le _, hle, ?_, by simp⟩⟩, .nil, List.nodup_nil, by simp⟩
    rw [Array.size_append, size_zeroCells, size_zeroCells, ← Nat.add_mul]
    show (n + (cap - n)) * 2 = cap * 2
    congr 1; omega
  have HB : Hid (Below W.heap.size W w2) := by show Below _ _ _; rw [hw2]; exact blw_alloc (Below.drew (Below.refl _ _)) _
  have hcc : (0 : Int) ≤ (cap : Int) := by omega
  clear hw2 hcap
  go_enter Tryz.func96, Tryz.ntmps96
  go_wp2_with (at_builtin; refine Go.Lib.wpList_append_run _ rfl _ _ 36 3 rfl _ _ rfl rfl _ w2 hrun ?_)
  clear hrun
  go_wp2
  go_ret
  exact ⟨_, rfl, HG.out, HB.out⟩
set_option maxRecDepth 8000 in
set_option maxHeartbeats 8000000 in
theorem copyMsgsI (n : Nat) (es : List Dt) (v : Value) (W : World) (h : Raw W [.row 89 shRecMessage] [.row n es] [v]) (hw : n + wtL es ≤ 4194304) :
    Calls Tryz.prog 75 #[v, .func (.func 76) #[] #[]] W (AnsL [.row 89 shRecMessage] (.row n es) W) := by
  obtain ⟨va, vc, hva⟩ := h.len0
  subst hva
  have HH := uh h
  have HW := uh hw
  have hn : n ≤ 4194304 := by omega
  have HT : Hid (Typ (reps n shRecMessage) es) := by obtain ⟨_, _, _, q, t, _⟩ := h.typ.c_r; injection q with e1 e2; injection e1 with e3 e4; subst e3; subst e4; exact t
  clear h hw
  obtain ⟨i0, hi0, hzz⟩ := Option.map_eq_some_iff.1 Tryz.cinfoRecMessage
  simp only [Prod.mk.injEq] at hzz
  obtain ⟨hz0, hz1, hz2⟩ := hzz
  go_enter Tryz.func75, Tryz.ntmps75
  go_wp2_with fail
  refine (growMsgI n W hn).mono ?_
  rintro e wa ⟨v0, rfl, hg, hb⟩
  have HG := uh hg
  have HB := uh hb
  clear hg hb
  obtain ⟨ga, gc, hgv⟩ := HG.out.shape
  subst hgv
  go_wp2
  go_loopw [5, 13] (fun o i wr => ∃ (q : Nat) (u : Value) (G : List Nat) (xs : List Value), q ≤ n ∧ i = .int .i64 (q : Int) ∧ o = u ∧ Gr wr W.heap.size 89 shRecMessage u q G (es.take (q * 8)) xs ∧ Below W.heap.size W wr) (fun _ i _ => n - (intOf i).toNat)
  case atStart => exact ⟨0, _, _, _, Nat.zero_le _, rfl, rfl, by rw [Nat.zero_mul, List.take_zero]; exact HG.out, HB.out⟩
  case round =>
    obtain ⟨q, u, G, xs, hq, rfl, rfl, hG, hB⟩ := hrel
    have HG := uh hG
    have HB := uh hB
    clear hG hB
    obtain ⟨ua, uc, huu⟩ := HG.out.shape
    subst huu
    by_cases hlt : q < n
    · rcases (HH.out.later HB.out).slice with ⟨e0, _⟩ | ⟨p, o, c2, hv, hp, _, vs, hr, hR⟩
      · omega
      injection hv with e1 _ e3
      subst e1
      subst e3
      obtain ⟨ve, hE, hg⟩ := hR.el hlt hr
      obtain ⟨d, hd⟩ : ∃ d, d = el 8 q es := ⟨_, rfl⟩
      have hE1 : Raw wr shRecMessage d ve := by rw [hd]; exact hE
      have hg2 : wr.rangeAt p (o + q * 8) ve := hg
      have hwd : wtL d ≤ 4194304 := by rw [hd]; have := HW.out; have := wt_next 8 q es; have := wt_le ((q + 1) * 8) es; omega
      have HD := uh hd
      have HL := uh hE1.len
      have HBL := uh (Nat.lt_of_lt_of_le hp (Nat.le_refl _))
      have hq0 : (0 : Int) ≤ (q : Int) := by omega
      have hq3 : (q : Int) < (n : Int) := by omega
      have HTY := uh hE1.typ
      obtain ⟨wb, hwb⟩ : ∃ wb, wb = (wr.alloc (.cells #[.int .i64 0, .int .i64 0, .int .i64 0, .int .i64 0, .int .i64 0, .int .i64 0, .string { data := #[] }, .slice none 0 0] 89)).setCells wr.heap.size 0 ve := ⟨_, rfl⟩
      have hth := nv_there wr #[.int .i64 0, .int .i64 0, .int .i64 0, .int .i64 0, .int .i64 0, .int .i64 0, .string { data := #[] }, .slice none 0 0] 89 ve (by rw [HL.out]; rfl)
      have hone := all_oneCell_toArray hE1.one
      have hsz : (Tryz.prog.info? 89).map (·.size) = some ve.toArray.size := by rw [List.size_toArray, HL.out]; kernel_rfl
      have HBX : Hid (LBox wb wr.heap.size ve) := by show LBox _ _ _; rw [hwb]; exact nv_box wr #[.int .i64 0, .int .i64 0, .int .i64 0, .int .i64 0, .int .i64 0, .int .i64 0, .string { data := #[] }, .slice none 0 0] 89 ve (by rw [HL.out]; rfl)
      have HBb : Hid (Below wr.heap.size wr wb) := by show Below _ _ _; rw [hwb]; exact nv_below wr #[.int .i64 0, .int .i64 0, .int .i64 0, .int .i64 0, .int .i64 0, .int .i64 0, .string { data := #[] }, .slice none 0 0] 89 ve
      have HC := uh (copyMessageI d ve wb (hE1.later HBb.out) hwd)
      clear hE hE1 hwd hd hg hR hr
      go_upto_region 5 with (first | refine wpList_load_mid rfl 89 _ rfl p (o + q * 8) rfl ve _ hg2 Tryz.underlying89 rfl (by rw [HL.out]; kernel_rfl) ?_ | refine wpList_store_mid rfl 89 _ _ rfl wr.heap.size 0 ve.toArray rfl rfl hth hsz hone ?_)
      first | rw [← hwb] | (simp only [List.toList_toArray]; rw [← hwb])
      clear hwb hth hone hsz hg2
      have hzb := HBX.out.lt
      have hab := HBX.out.at_
      go_wp2_with (refine wpList_load_mid rfl 89 _ rfl wr.heap.size 0 rfl ve _ hab Tryz.underlying89 rfl (by rw [HL.out]; kernel_rfl) ?_)
      refine HC.out.mono ?_
      rintro e w2 ⟨c', F', rfl, rep, nd, fr, hb⟩
      have HF : Hid (∀ b ∈ F', wr.heap.size ≤ b) := fun b hb => Nat.le_trans HBb.out.size (fr b hb)
      have HB2 := uh (blw_trans HBb.out hb)
      clear hzb hab
      obtain ⟨a0, a1, a2, a3, a4, a5, a6, n7, e7, hde, t7⟩ := typRecMessage HTY.out
      subst hde
      obtain ⟨F7, v7, hFF, hcc, r7⟩ := repRecMessage rep
      subst hcc
      obtain ⟨wa7, wc7, hva⟩ := r7.raw.len0
      subst hva
      have HRP := uh (And.intro rep nd)
      clear rep nd fr hb HC HTY r7 t7 hFF
      go_wp2_with (at_builtin; refine wpList_append_lies _ rfl _ _ 35 rfl W.heap.size 89 i0 _ 8 88 Tryz.cunderRecMessage hi0 hz0 hz1 hz2 rfl (by decide) (.slice ua q uc) q xs rfl ?h1a ⟨w2.heap.size, 0, none⟩ 1 1 [.int .i64 a0, .int .i64 a1, .int .i64 a2, .int .i64 a3, .int .i64 a4, .int .i64 a5, .string a6, .slice wa7 n7 wc7] rfl ?h1b ?h1c ?h1d ?h1e ?h1f ?h1g ?h1h _ rfl ?_)
      case h1a => exact owns_lt_later (HG.out.later HB2.out).row (blw_alloc (Below.refl _ _) _)
      try (case h1b => rfl)
      case h1c => exact news_new w2 #[.int .i64 a0, .int .i64 a1, .int .i64 a2, .int .i64 a3, .int .i64 a4, .int .i64 a5, .string a6, .slice wa7 n7 wc7] 89
      case h1d => exact fun u hu => HRP.out.1.raw.one u hu
      case h1e => decide
      case h1f => unfold maxLen; omega
      case h1g => omega
      case h1h => have := HB.out.size; have := HB2.out.size; simp; omega
      intro g cap w3 hown hgrow hgg _
      have hbt : Below wr.heap.size wr (w2.alloc (.cells #[.int .i64 a0, .int .i64 a1, .int .i64 a2, .int .i64 a3, .int .i64 a4, .int .i64 a5, .string a6, .slice wa7 n7 wc7] 89)) := blw_trans HB2.out (blw_alloc (Below.refl _ _) _)
      have HN2 : Hid (Gr w3 W.heap.size 89 shRecMessage (.slice (some ⟨g, 0, none⟩) (q + 1) cap) (q + 1) (G ++ F') (es.take ((q + 1) * 8)) (xs ++ [.int .i64 a0, .int .i64 a1, .int .i64 a2, .int .i64 a3, .int .i64 a4, .int .i64 a5, .string a6, .slice wa7 n7 wc7])) := by
        have := HG.out.push (F := F') hbt (HRP.out.1.later (blw_alloc (Below.refl _ _) _)) HRP.out.2 HF.out HB.out.size hown hgrow (H := w2.heap.size + 1) (by simp) hgg
        rw [Nat.succ_mul, el_take, ← HD.out]
        exact this
      have HB3 : Hid (Below W.heap.size W w3) := blw_grown (blw_trans HB.out hbt) hgrow (fun b hb => (owns_blk_lt HG.out.row hb).1)
      clear hown hgrow hbt HG HB HB2 HRP HF
      go_wp2
      go_roundw
      case rel => exact ⟨q + 1, _, _, _, by omega, by go_num, rfl, HN2.out, HB3.out⟩
      case measure => simp [intOf]; omega
    · obtain rfl : q = n := by omega
      have el_ : es.length = q * 8 := HT.out.rows
      rw [← el_, List.take_length] at HG
      obtain ⟨F, r, nd, fr⟩ := HG.out.done
      have HRR := uh (And.intro r (And.intro nd fr))
      clear r nd fr el_
      go_wp2
      go_ret
      exact ⟨_, F, rfl, HRR.out.1, HRR.out.2.1, HRR.out.2.2, HB.out⟩
set_option maxRecDepth 8000 in
set_option maxHeartbeats 8000000 in
theorem copyAcksI (n : Nat) (es : List Dt) (v : Value) (W : World) (h : Raw W [.row 96 shRecAck] [.row n es] [v]) (hw : n + wtL es ≤ 4194304) :
    Calls Tryz.prog 78 #[v, .func (.func 79) #[] #[]] W (AnsL [.row 96 shRecAck] (.row n es) W) := by
  obtain ⟨va, vc, hva⟩ := h.len0
  subst hva
  have HH := uh h
  have HW := uh hw
  have hn : n ≤ 4194304 := by omega
  have HT : Hid (Typ (reps n shRecAck) es) := by obtain ⟨_, _, _, q, t, _⟩ := h.typ.c_r; injection q with e1 e2; injection e1 with e3 e4; subst e3; subst e4; exact t
  clear h hw
  obtain ⟨i0, hi0, hzz⟩ := Option.map_eq_some_iff.1 Tryz.cinfoRecAck
  simp only [Prod.mk.injEq] at hzz
  obtain ⟨hz0, hz1, hz2⟩ := hzz
  go_enter Tryz.func78, Tryz.ntmps78
  go_wp2_with fail
  refine (growAckI n W hn).mono ?_
  rintro e wa ⟨v0, rfl, hg, hb⟩
  have HG := uh hg
  have HB := uh hb
  clear hg hb
  obtain ⟨ga, gc, hgv⟩ := HG.out.shape
  subst hgv
  go_wp2
  go_loopw [5, 13] (fun o i wr => ∃ (q : Nat) (u : Value) (G : List Nat) (xs : List Value), q ≤ n ∧ i = .int .i64 (q : Int) ∧ o = u ∧ Gr wr W.heap.size 96 shRecAck u q G (es.take (q * 2)) xs ∧ Below W.heap.size W wr) (fun _ i _ => n - (intOf i).toNat)
  case atStart => exact ⟨0, _, _, _, Nat.zero_le _, rfl, rfl, by rw [Nat.zero_mul, List.take_zero]; exact HG.out, HB.out⟩
  case round =>
    obtain ⟨q, u, G, xs, hq, rfl, rfl, hG, hB⟩ := hrel
    have HG := uh hG
    have HB := uh hB
    clear hG hB
    obtain ⟨ua, uc, huu⟩ := HG.out.shape
    subst huu
    by_cases hlt : q < n
    · rcases (HH.out.later HB.out).slice with ⟨e0, _⟩ | ⟨p, o, c2, hv, hp, _, vs, hr, hR⟩
      · omega
      injection hv with e1 _ e3
      subst e1
      subst e3
      obtain ⟨ve, hE, hg⟩ := hR.el hlt hr
      obtain ⟨d, hd⟩ : ∃ d, d = el 2 q es := ⟨_, rfl⟩
      have hE1 : Raw wr shRecAck d ve := by rw [hd]; exact hE
      have hg2 : wr.rangeAt p (o + q * 2) ve := hg
      have hwd : wtL d ≤ 4194304 := by rw [hd]; have := HW.out; have := wt_next 2 q es; have := wt_le ((q + 1) * 2) es; omega
      have HD := uh hd
      have HL := uh hE1.len
      have HBL := uh (Nat.lt_of_lt_of_le hp (Nat.le_refl _))
      have hq0 : (0 : Int) ≤ (q : Int) := by omega
      have hq3 : (q : Int) < (n : Int) := by omega
      have HTY := uh hE1.typ
      obtain ⟨wb, hwb⟩ : ∃ wb, wb = (wr.alloc (.cells #[.int .i64 0, .slice none 0 0] 96)).setCells wr.heap.size 0 ve := ⟨_, rfl⟩
      have hth := nv_there wr #[.int .i64 0, .slice none 0 0] 96 ve (by rw [HL.out]; rfl)
      have hone := all_oneCell_toArray hE1.one
      have hsz : (Tryz.prog.info? 96).map (·.size) = some ve.toArray.size := by rw [List.size_toArray, HL.out]; kernel_rfl
      have HBX : Hid (LBox wb wr.heap.size ve) := by show LBox _ _ _; rw [hwb]; exact nv_box wr #[.int .i64 0, .slice none 0 0] 96 ve (by rw [HL.out]; rfl)
      have HBb : Hid (Below wr.heap.size wr wb) := by show Below _ _ _; rw [hwb]; exact nv_below wr #[.int .i64 0, .slice none 0 0] 96 ve
      have HC := uh (copyAckI d ve wb (hE1.later HBb.out) hwd)
      clear hE hE1 hwd hd hg hR hr
      go_upto_region 5 with (first | refine wpList_load_mid rfl 96 _ rfl p (o + q * 2) rfl ve _ hg2 Tryz.underlying96 rfl (by rw [HL.out]; kernel_rfl) ?_ | refine wpList_store_mid rfl 96 _ _ rfl wr.heap.size 0 ve.toArray rfl rfl hth hsz hone ?_)
      first | rw [← hwb] | (simp only [List.toList_toArray]; rw [← hwb])
      clear hwb hth hone hsz hg2
      have hzb := HBX.out.lt
      have hab := HBX.out.at_
      go_wp2_with (refine wpList_load_mid rfl 96 _ rfl wr.heap.size 0 rfl ve _ hab Tryz.underlying96 rfl (by rw [HL.out]; kernel_rfl) ?_)
      refine HC.out.mono ?_
      rintro e w2 ⟨c', F', rfl, rep, nd, fr, hb⟩
      have HF : Hid (∀ b ∈ F', wr.heap.size ≤ b) := fun b hb => Nat.le_trans HBb.out.size (fr b hb)
      have HB2 := uh (blw_trans HBb.out hb)
      clear hzb hab
      obtain ⟨a0, n1, e1, hde, t1⟩ := typRecAck HTY.out
      subst hde
      obtain ⟨F1, v1, hFF, hcc, r1⟩ := repRecAck rep
      subst hcc
      obtain ⟨wa1, wc1, hva⟩ := r1.raw.len0
      subst hva
      have HRP := uh (And.intro rep nd)
      clear rep nd fr hb HC HTY r1 t1 hFF
      go_wp2_with (at_builtin; refine wpList_append_lies _ rfl _ _ 36 rfl W.heap.size 96 i0 _ 2 32 Tryz.cunderRecAck hi0 hz0 hz1 hz2 rfl (by decide) (.slice ua q uc) q xs rfl ?h1a ⟨w2.heap.size, 0, none⟩ 1 1 [.int .i64 a0, .slice wa1 n1 wc1] rfl ?h1b ?h1c ?h1d ?h1e ?h1f ?h1g ?h1h _ rfl ?_)
      case h1a => exact owns_lt_later (HG.out.later HB2.out).row (blw_alloc (Below.refl _ _) _)
      try (case h1b => rfl)
      case h1c => exact news_new w2 #[.int .i64 a0, .slice wa1 n1 wc1] 96
      case h1d => exact fun u hu => HRP.out.1.raw.one u hu
      case h1e => decide
      case h1f => unfold maxLen; omega
      case h1g => omega
      case h1h => have := HB.out.size; have := HB2.out.size; simp; omega
      intro g cap w3 hown hgrow hgg _
      have hbt : Below wr.heap.size wr (w2.alloc (.cells #[.int .i64 a0, .slice wa1 n1 wc1] 96)) := blw_trans HB2.out (blw_alloc (Below.refl _ _) _)
      have HN2 : Hid (Gr w3 W.heap.size 96 shRecAck (.slice (some ⟨g, 0, none⟩) (q + 1) cap) (q + 1) (G ++ F') (es.take ((q + 1) * 2)) (xs ++ [.int .i64 a0, .slice wa1 n1 wc1])) := by
        have := HG.out.push (F := F') hbt (HRP.out.1.later (blw_alloc (Below.refl _ _) _)) HRP.out.2 HF.out HB.out.size hown hgrow (H := w2.heap.size + 1) (by simp) hgg
        rw [Nat.succ_mul, el_take, ← HD.out]
        exact this
      have HB3 : Hid (Below W.heap.size W w3) := blw_grown (blw_trans HB.out hbt) hgrow (fun b hb => (owns_blk_lt HG.out.row hb).1)
      clear hown hgrow hbt HG HB HB2 HRP HF
      go_wp2
      go_roundw
      case rel => exact ⟨q + 1, _, _, _, by omega, by go_num, rfl, HN2.out, HB3.out⟩
      case measure => simp [intOf]; omega
    · obtain rfl : q = n := by omega
      have el_ : es.length = q * 2 := HT.out.rows
      rw [← el_, List.take_length] at HG
      obtain ⟨F, r, nd, fr⟩ := HG.out.done
      have HRR := uh (And.intro r (And.intro nd fr))
      clear r nd fr el_
      go_wp2
      go_ret
      exact ⟨_, F, rfl, HRR.out.1, HRR.out.2.1, HRR.out.2.2, HB.out⟩
end Go.Proofs.YtnifdpjmpbocnaaGreat
