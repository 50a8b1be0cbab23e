/-
  RecFall by the program.
-/
import Derived.Test.YtnifdpjmpbocnaaKFp
import Derived.Test.YtnifdpjmpbocnaaKFh
import Derived.Test.YtnifdpjmpbocnaaKDc
import Derived.Test.YtnifdpjmpbocnaaRvI
import Derived.Test.YtnifdpjmpbocnaaKDb
namespace Go.Proofs.Ytnifdpjmpbocnaa
open Go.RowKit Go.Deep

set_option maxRecDepth 8000 in
set_option maxHeartbeats 8000000 in
theorem copyDiskI (ds : List Dt) (cs : List Value) (W : World) (h : Raw W shRecDisk ds cs) (hw : wtL ds ≤ 4194304) :
    Calls Try.prog 34 #[.agg cs.toArray] W (Ans shRecDisk ds W) := by
  obtain ⟨a0, a1, n2, e2, rfl, t2⟩ := typRecDisk h.typ
  obtain ⟨v2, hcs, r2⟩ := rawRecDisk h
  simp only [wtL] at hw
  have HW := uh hw
  have R2 := uh r2
  have HCS := uh hcs
  obtain ⟨wa, hwa⟩ : ∃ wa, wa = (W.alloc (.cells cs.toArray 36)).alloc (.cells #[.int .i64 0, .int .i64 0, .slice none 0 0] 36) := ⟨_, rfl⟩
  have HB : Hid (Below W.heap.size W wa) := by show Below _ _ _; rw [hwa]; exact blw_alloc (blw_alloc (Below.refl _ _) _) _
  have HX : Hid (WBox wa W.heap.size 36 [.int .i64 a0, .int .i64 a1, v2]) := by show WBox _ _ _ _; rw [hwa, ← hcs]; exact (WBox.new W cs _ _ rfl).later (blw_alloc (Below.refl _ _) _)
  have HRS : Hid (OwnBlk wa (W.heap.size + 1) 36 3) := by show OwnBlk _ _ _ _; rw [hwa]; exact OwnBlk.alloc_at3 _ _ _ _ _ rfl (by simp)
  clear h hcs hw r2 t2
  go_enter Try.func34, Try.ntmps34
  go_upto_region 1 with fail
  rw [← hwa]
  clear hwa
  obtain ⟨va2, vc2, hva⟩ := R2.out.len0
  subst hva
  have hz := HX.out.own.lt
  have hfz := HX.out.own.frozen
  have gc := HX.out.get 2 _ rfl
  go_wp2_with fail
  refine (copySlotsI n2 e2 (.slice va2 n2 vc2) wa (R2.out.later HB.out) (by have := HW.out; omega)).mono ?_
  rintro e x2 ⟨w2, F2, rfl, rep, nd, fr, hb⟩
  obtain ⟨wa2, wc2, hva⟩ := rep.raw.len0
  subst hva
  obtain ⟨y2, hy⟩ : ∃ y, y = x2.setCell ⟨W.heap.size, 2, none⟩ (.slice wa2 n2 wc2) := ⟨_, rfl⟩
  have HS0 := uh HX.out.own.lt
  have HX1 := uh (HX.out.later hb)
  have HRS1 := uh (HRS.out.later hb)
  have HB1 := uh (blw_trans HB.out hb)
  have HX2 : Hid (WBox y2 W.heap.size 36 [.int .i64 a0, .int .i64 a1, .slice wa2 n2 wc2]) := by show WBox _ _ _ _; rw [hy]; exact HX1.out.set 2 (.slice wa2 n2 wc2) (by show 2 < 3; decide)
  have HRS2 : Hid (OwnBlk y2 (W.heap.size + 1) 36 3) := by show OwnBlk _ _ _ _; rw [hy]; exact HRS1.out.sc_other (by omega) _ _
  have HB2 : Hid (Below W.heap.size W y2) := by show Below _ _ _; rw [hy]; exact HB1.out.setCell (p := ⟨W.heap.size, 2, none⟩) (Nat.le_refl _) _
  have HM : Hid (Marks (fun b => b = W.heap.size) x2 y2) := (by rw [hy]; exact Marks.sc (S := fun b => b = W.heap.size) _ rfl _ _)
  have D2 := uh (rep.keep HM.out (fun b hb e => by have := fr b hb; have := HS0.out; omega))
  have HSZ2 : Hid (wa.heap.size ≤ x2.heap.size ∧ x2.heap.size ≤ y2.heap.size) := ⟨hb.size, HM.out.size⟩
  have FB2 : Hid (∀ b ∈ F2, wa.heap.size ≤ b ∧ b < x2.heap.size) := fun b hb => ⟨fr b hb, rep.lt b hb⟩
  have ND2 := uh nd
  have HWA : Hid (W.heap.size + 1 < wa.heap.size) := HRS.out.lt
  have hqz := HX1.out.own.lt
  have hqf := HX1.out.own.frozen
  obtain ⟨ux, eu⟩ := HX1.out.own.cell 2 (by show 2 < 3; decide)
  clear rep nd fr HX HRS HB
  go_upto_region 2 with fail
  rw [← hy]
  clear hy gc hz hfz hqz hqf eu HX1 HRS1 HB1 hb HM HS0
  have HX := HX2
  have HRS := HRS2
  have HB := HB2
  clear HX2 HRS2 HB2
  have hth : y2.there (W.heap.size + 1) 0 3 := uthere HRS.out _ _ (by omega)
  obtain ⟨we, hwe⟩ : ∃ we, we = y2.setCells (W.heap.size + 1) 0 [.int .i64 a0, .int .i64 a1, .slice wa2 n2 wc2] := ⟨_, rfl⟩
  have hrt : we.rangeAt (W.heap.size + 1) 0 [.int .i64 a0, .int .i64 a1, .slice wa2 n2 wc2] := by rw [hwe]; exact World.rangeAt_setCells_same _ _ _ _ hth
  have HBE : Hid (Below W.heap.size W we) := by show Below _ _ _; rw [hwe]; exact blw_scs (by omega) _ _ _ HB.out
  have HM : Hid (Marks (fun b => b = W.heap.size + 1) y2 we) := by show Marks _ _ _; rw [hwe]; exact mks_scs (S := fun b => b = W.heap.size + 1) rfl _ _ _
  replace D2 := uh (D2.out.keep HM.out (fun b hb e => by have := FB2.out b hb; have := HWA.out; have := HSZ2.out; omega))
  refine wp_region_lit ?_
  refine wpList_load_mid rfl 36 _ rfl W.heap.size 0 rfl [.int .i64 a0, .int .i64 a1, .slice wa2 n2 wc2] _ HX.out.at_ Try.underlying36 rfl (by kernel_rfl) ?_
  refine wpList_store_mid rfl 36 _ _ rfl (W.heap.size + 1) 0 ([.int .i64 a0, .int .i64 a1, .slice wa2 n2 wc2] : List Value).toArray rfl rfl hth (by kernel_rfl) (by simp [Value.oneCell']) ?_
  simp only [Act.put, List.setIfInBounds_toArray, List.set_cons_zero, List.set_cons_succ]
  rw [← hwe]
  clear hwe hth
  go_wp2
  refine bodyPost_ret (v := .agg ([.int .i64 a0, .int .i64 a1, .slice wa2 n2 wc2] : List Value).toArray) (by simp [results, Try.results34, asAddr, run_loadVar_mid (P := Try.prog) _ _ _ 36 [.int .i64 a0, .int .i64 a1, .slice wa2 n2 wc2] _ hrt Try.underlying36 rfl (by kernel_rfl)]) rfl ⟨[.int .i64 a0, .int .i64 a1, .slice wa2 n2 wc2], F2 ++ [], rfl, ?_, ?_, ?_, HBE.out⟩
  · exact repRecDisk_mk _ _ D2.out
  · exact (by rw [List.append_nil]; exact ND2.out)
  · exact (lo_join (fun b hb => by have := FB2.out b hb; have := HWA.out; have := HSZ2.out; omega) (by simp))
end Go.Proofs.Ytnifdpjmpbocnaa

namespace Go.Proofs.Ytnifdpjmpbocnaa
open Go.RowKit Go.Deep

set_option maxRecDepth 8000 in
set_option maxHeartbeats 16000000 in
theorem recFallI (K : Rr) (cs : List Value) (W : World) (h : Raw W shRecorder (eRr K) cs) (hw : wtL (eRr K) ≤ 1048576) :
    Calls Try.prog 10 #[.agg cs.toArray] W (Ans shRecorder (eRr (fallK K)) W) := by
  obtain ⟨a0, a1, a2, a3, a4, a5, a6, c0, c1, c2, c3, c4, c5, c6, hcs, hv, hc0, hc1, hc3⟩ := vRr h hw
  have HC := uh hcs
  have HV := uh hv
  have HRW := uh h
  have HWT := uh hw
  have HCall : Hid (∀ X, Below W.heap.size W X → Calls Try.prog 31 #[.agg cs.toArray] X fun e w' => e = .returned (.bool (recOk K)) ∧ Below X.heap.size X w') := fun X hX =>
    recValidV K a0 a1 a2 a3 a4 a5 a6 c0 c1 c2 c3 c4 c5 c6 cs HC.out X (HV.out.later hX) hc0 hc1 hc3
  have HLC : Hid (cs.length = 18) := h.len
  clear h hcs hv hw
  obtain ⟨wa, hwa⟩ : ∃ wa, wa = (W.alloc (.cells cs.toArray 40)).alloc (.cells #[.int .i64 0, .int .i64 0, .bool false, .int .i64 0, .int .i64 0, .slice none 0 0, .int .i64 0, .int .i64 0, .slice none 0 0, .slice none 0 0, .slice none 0 0, .bool false, .bool false, .int .i64 0, .slice none 0 0, .slice none 0 0, .slice none 0 0, .int .i64 0] 40) := ⟨_, rfl⟩
  have HB : Hid (Below W.heap.size W wa) := by show Below _ _ _; rw [hwa]; exact blw_alloc (blw_alloc (Below.refl _ _) _) _
  have HX : Hid (LBox wa W.heap.size cs) := by show LBox _ _ _; rw [hwa]; exact (LBox.new W cs.toArray _ _ rfl).past _
  have HRS : Hid (OwnBlk wa (W.heap.size + 1) 40 18) := by show OwnBlk _ _ _ _; rw [hwa]; exact OwnBlk.alloc_at3 _ _ _ _ _ rfl (by simp)
  go_enter Try.func10, Try.ntmps10
  go_upto_region 1 with fail
  rw [← hwa]
  clear hwa
  have hz := HX.out.lt
  have ha := HX.out.at_
  go_wp2_with (refine wpList_load_mid rfl 40 _ rfl W.heap.size 0 rfl cs _ ha Try.underlying40 rfl (by rw [HLC.out]; kernel_rfl) ?_)
  refine (HCall.out wa HB.out).mono ?_
  rintro e w1 ⟨rfl, hb⟩
  replace HX := uh (HX.out.later hb)
  replace HRS := uh (HRS.out.later hb)
  replace HB := uh (blw_trans HB.out hb)
  clear hb hz ha HCall
  cases hok : recOk K
  · have hrz := HRS.out.lt
    have hth : w1.there (W.heap.size + 1) 0 18 := uthere HRS.out _ _ (by omega)
    obtain ⟨we, hwe⟩ : ∃ we, we = w1.setCells (W.heap.size + 1) 0 [.int .i64 0, .int .i64 0, .bool false, .int .i64 0, .int .i64 0, .slice none 0 0, .int .i64 0, .int .i64 0, .slice none 0 0, .slice none 0 0, .slice none 0 0, .bool false, .bool false, .int .i64 0, .slice none 0 0, .slice none 0 0, .slice none 0 0, .int .i64 0] := ⟨_, rfl⟩
    have hrt : we.rangeAt (W.heap.size + 1) 0 [.int .i64 0, .int .i64 0, .bool false, .int .i64 0, .int .i64 0, .slice none 0 0, .int .i64 0, .int .i64 0, .slice none 0 0, .slice none 0 0, .slice none 0 0, .bool false, .bool false, .int .i64 0, .slice none 0 0, .slice none 0 0, .slice none 0 0, .int .i64 0] := by rw [hwe]; exact World.rangeAt_setCells_same _ _ _ _ hth
    have HBE : Hid (Below W.heap.size W we) := by show Below _ _ _; rw [hwe]; exact blw_scs (by omega) _ _ _ HB.out
    have HE : Hid (fallK K = Rr.zero) := by show _ = _; unfold fallK; rw [hok]; rfl
    go_wp2_with (refine wpList_store_mid rfl 40 _ _ rfl (W.heap.size + 1) 0 #[.int .i64 0, .int .i64 0, .bool false, .int .i64 0, .int .i64 0, .slice none 0 0, .int .i64 0, .int .i64 0, .slice none 0 0, .slice none 0 0, .slice none 0 0, .bool false, .bool false, .int .i64 0, .slice none 0 0, .slice none 0 0, .slice none 0 0, .int .i64 0] rfl rfl hth (by kernel_rfl) (by simp [Value.oneCell']) ?_)
    rw [← hwe]
    clear hwe hth hrz
    simp only [Act.put]
    refine bodyPost_ret (v := .agg #[.int .i64 0, .int .i64 0, .bool false, .int .i64 0, .int .i64 0, .slice none 0 0, .int .i64 0, .int .i64 0, .slice none 0 0, .slice none 0 0, .slice none 0 0, .bool false, .bool false, .int .i64 0, .slice none 0 0, .slice none 0 0, .slice none 0 0, .int .i64 0]) (by simp [results, Try.results10, asAddr, run_loadVar_mid (P := Try.prog) _ _ _ 40 [.int .i64 0, .int .i64 0, .bool false, .int .i64 0, .int .i64 0, .slice none 0 0, .int .i64 0, .int .i64 0, .slice none 0 0, .slice none 0 0, .slice none 0 0, .bool false, .bool false, .int .i64 0, .slice none 0 0, .slice none 0 0, .slice none 0 0, .int .i64 0] _ hrt Try.underlying40 rfl (by kernel_rfl)]) rfl ⟨[.int .i64 0, .int .i64 0, .bool false, .int .i64 0, .int .i64 0, .slice none 0 0, .int .i64 0, .int .i64 0, .slice none 0 0, .slice none 0 0, .slice none 0 0, .bool false, .bool false, .int .i64 0, .slice none 0 0, .slice none 0 0, .slice none 0 0, .int .i64 0], [], rfl, ?_, List.nodup_nil, by simp, HBE.out⟩
    rw [HE.out]
    exact zero_rep _ false rfl
  have HE : Hid (fallK K = { Rr.zero with num := K.num, of_ := K.of_, safe := K.safe, disk := K.safe }) := by show _ = _; unfold fallK; rw [hok]; rfl
  have HS1 : Hid (W.heap.size + 1 < w1.heap.size) := HRS.out.lt
  have HCP := uh (copyRecI (eRr K) cs w1 (HRW.out.later HB.out) (by have := HWT.out; omega))
  have hz := HX.out.lt
  have ha := HX.out.at_
  go_upto_region 3 with fail
  go_wp2_with (refine wpList_load_mid rfl 40 _ rfl W.heap.size 0 rfl cs _ ha Try.underlying40 rfl (by rw [HLC.out]; kernel_rfl) ?_)
  refine HCP.out.mono ?_
  rintro e w2 ⟨d1, F1, rfl, rp, nd, fr, hb⟩
  have rp2 : Rep w2 false shRecorder F1 [.i K.num, .i K.of_, .b K.up, .i K.safe.prom, .i K.safe.known, .row K.safe.slots.length (K.safe.slots.flatMap eRs), .i K.disk.prom, .i K.disk.known, .row K.disk.slots.length (K.disk.slots.flatMap eRs), .row K.held.length (K.held.flatMap eRm), .row K.wish.length (K.wish.flatMap eTx), .b K.lead, .b K.try_, .i K.bal, .row K.yes.length (K.yes.flatMap eNu), .row K.best.length (K.best.flatMap eRs), .row K.acks.length (K.acks.flatMap eRa), .i K.heard] d1 := rp
  obtain ⟨F5, v5, F8, v8, F9, v9, F10, v10, F14, v14, F15, v15, F16, v16, hFF, hd1, r5, r8, r9, r10, r14, r15, r16⟩ := repRecorder rp2
  obtain ⟨b5, e5, hv5⟩ := r5.raw.len0
  subst hv5
  obtain ⟨b8, e8, hv8⟩ := r8.raw.len0
  subst hv8
  obtain ⟨b9, e9, hv9⟩ := r9.raw.len0
  subst hv9
  obtain ⟨b10, e10, hv10⟩ := r10.raw.len0
  subst hv10
  obtain ⟨b14, e14, hv14⟩ := r14.raw.len0
  subst hv14
  obtain ⟨b15, e15, hv15⟩ := r15.raw.len0
  subst hv15
  obtain ⟨b16, e16, hv16⟩ := r16.raw.len0
  subst hv16
  subst hd1
  replace HRS := uh (HRS.out.later hb)
  replace HB := uh (blw_trans HB.out hb)
  have R5 := uh r5
  have LT45 := uh r5.lt
  have FR5 : Hid (∀ b ∈ F5, w1.heap.size ≤ b) := fun b hb => fr b (by rw [hFF]; simp [hb])
  have ND5 : Hid F5.Nodup := by rw [hFF] at nd; exact (nd_app nd).1
  have HS2 := uh hb.size
  clear rp rp2 nd fr hb hFF HCP ha hz r5 r8 r9 r10 r14 r15 r16
  go_wp2_with fail
  refine (partI K.num K.of_ K.safe.prom K.safe.known K.disk.prom K.disk.known K.bal K.heard K.up K.lead K.try_ b5 K.safe.slots.length e5 b8 K.disk.slots.length e8 b9 K.held.length e9 b10 K.wish.length e10 b14 K.yes.length e14 b15 K.best.length e15 b16 K.acks.length e16 w2).mono ?_
  rintro e w3 ⟨rfl, hb⟩
  replace HRS := uh (HRS.out.later hb)
  replace HB := uh (blw_trans HB.out hb)
  replace R5 := uh (R5.out.later hb)
  have HS3 := uh hb.size
  clear hb
  obtain ⟨w4, hw4⟩ : ∃ w4, w4 = (w3.alloc (.cells #[.int .i64 0, .int .i64 0, .int .i64 0, .int .i64 0, .slice none 0 0, .bool false, .int .i64 0, .int .i64 0, .slice none 0 0, .slice none 0 0, .slice none 0 0, .bool false, .bool false, .int .i64 0, .slice none 0 0, .slice none 0 0, .slice none 0 0, .int .i64 0] 66)).setCells w3.heap.size 0 [.int .i64 K.num, .int .i64 K.of_, .int .i64 K.safe.prom, .int .i64 K.safe.known, .slice b5 K.safe.slots.length e5, .bool K.up, .int .i64 K.disk.prom, .int .i64 K.disk.known, .slice b8 K.disk.slots.length e8, .slice b9 K.held.length e9, .slice b10 K.wish.length e10, .bool K.lead, .bool K.try_, .int .i64 K.bal, .slice b14 K.yes.length e14, .slice b15 K.best.length e15, .slice b16 K.acks.length e16, .int .i64 K.heard] := ⟨_, rfl⟩
  have hth := nv_there w3 #[.int .i64 0, .int .i64 0, .int .i64 0, .int .i64 0, .slice none 0 0, .bool false, .int .i64 0, .int .i64 0, .slice none 0 0, .slice none 0 0, .slice none 0 0, .bool false, .bool false, .int .i64 0, .slice none 0 0, .slice none 0 0, .slice none 0 0, .int .i64 0] 66 [.int .i64 K.num, .int .i64 K.of_, .int .i64 K.safe.prom, .int .i64 K.safe.known, .slice b5 K.safe.slots.length e5, .bool K.up, .int .i64 K.disk.prom, .int .i64 K.disk.known, .slice b8 K.disk.slots.length e8, .slice b9 K.held.length e9, .slice b10 K.wish.length e10, .bool K.lead, .bool K.try_, .int .i64 K.bal, .slice b14 K.yes.length e14, .slice b15 K.best.length e15, .slice b16 K.acks.length e16, .int .i64 K.heard] rfl
  have HNB : Hid (Below w3.heap.size w3 w4) := by show Below _ _ _; rw [hw4]; exact nv_below _ _ _ _
  have HNX : Hid (WBox w4 w3.heap.size 66 [.int .i64 K.num, .int .i64 K.of_, .int .i64 K.safe.prom, .int .i64 K.safe.known, .slice b5 K.safe.slots.length e5, .bool K.up, .int .i64 K.disk.prom, .int .i64 K.disk.known, .slice b8 K.disk.slots.length e8, .slice b9 K.held.length e9, .slice b10 K.wish.length e10, .bool K.lead, .bool K.try_, .int .i64 K.bal, .slice b14 K.yes.length e14, .slice b15 K.best.length e15, .slice b16 K.acks.length e16, .int .i64 K.heard]) := by show WBox _ _ _ _; rw [hw4]; exact ⟨own_scs _ 0 _ (OwnBlk.alloc w3 _ _ _ rfl), (nv_box w3 #[.int .i64 0, .int .i64 0, .int .i64 0, .int .i64 0, .slice none 0 0, .bool false, .int .i64 0, .int .i64 0, .slice none 0 0, .slice none 0 0, .slice none 0 0, .bool false, .bool false, .int .i64 0, .slice none 0 0, .slice none 0 0, .slice none 0 0, .int .i64 0] 66 [.int .i64 K.num, .int .i64 K.of_, .int .i64 K.safe.prom, .int .i64 K.safe.known, .slice b5 K.safe.slots.length e5, .bool K.up, .int .i64 K.disk.prom, .int .i64 K.disk.known, .slice b8 K.disk.slots.length e8, .slice b9 K.held.length e9, .slice b10 K.wish.length e10, .bool K.lead, .bool K.try_, .int .i64 K.bal, .slice b14 K.yes.length e14, .slice b15 K.best.length e15, .slice b16 K.acks.length e16, .int .i64 K.heard] rfl).at_⟩
  replace HRS := uh (HRS.out.later HNB.out)
  replace HB := uh (blw_trans HB.out HNB.out)
  replace R5 := uh (R5.out.later HNB.out)
  go_upto_region 4 with (refine wpList_store_mid rfl 66 _ _ rfl w3.heap.size 0 #[.int .i64 K.num, .int .i64 K.of_, .int .i64 K.safe.prom, .int .i64 K.safe.known, .slice b5 K.safe.slots.length e5, .bool K.up, .int .i64 K.disk.prom, .int .i64 K.disk.known, .slice b8 K.disk.slots.length e8, .slice b9 K.held.length e9, .slice b10 K.wish.length e10, .bool K.lead, .bool K.try_, .int .i64 K.bal, .slice b14 K.yes.length e14, .slice b15 K.best.length e15, .slice b16 K.acks.length e16, .int .i64 K.heard] rfl rfl hth (by kernel_rfl) (by simp [Value.oneCell']) ?_)
  first | rw [← hw4] | (simp only [List.toList_toArray]; rw [← hw4])
  clear hw4 hth HNB
  have hg : w4.rangeAt w3.heap.size 2 [.int .i64 K.safe.prom, .int .i64 K.safe.known, .slice b5 K.safe.slots.length e5] := by
    intro j x hx
    refine HNX.out.get (2 + j) x ?_
    match j, hx with
    | 0, hx => exact hx
    | 1, hx => exact hx
    | 2, hx => exact hx
    | j + 3, hx => simp at hx
  have hz := HNX.out.own.lt
  have HC5 := uh (copyDiskI (eRd K.safe) [.int .i64 K.safe.prom, .int .i64 K.safe.known, .slice b5 K.safe.slots.length e5] w4 (.i _ (.i _ R5.out.raw)) (by have := HWT.out; have := safe_wt K; omega))
  go_wp2_with (refine wpList_load_mid rfl 36 _ rfl w3.heap.size 2 rfl [.int .i64 K.safe.prom, .int .i64 K.safe.known, .slice b5 K.safe.slots.length e5] _ hg Try.underlying36 rfl (by kernel_rfl) ?_)
  refine HC5.out.mono ?_
  rintro e w5 ⟨c6, F6, rfl, r6, nd6, fr6, hb⟩
  obtain ⟨v6, rfl, s6⟩ := repRec3 r6
  obtain ⟨b6, e6, hv6⟩ := s6.raw.len0
  subst hv6
  replace HRS := uh (HRS.out.later hb)
  replace HB := uh (blw_trans HB.out hb)
  replace R5 := uh (R5.out.later hb)
  have HS5 := uh hb.size
  replace HNX := uh (HNX.out.later hb)
  have S6 := uh s6
  have FR6 := uh fr6
  have ND6 := uh nd6
  have LT5 := uh R5.out.lt
  have HW34 : Hid (w3.heap.size < w4.heap.size) := hz
  clear r6 nd6 fr6 hb hg hz HC5 s6
  obtain ⟨w6, hw6⟩ : ∃ w6, w6 = w5.setCells w3.heap.size 5 [.bool false, .int .i64 K.safe.prom, .int .i64 K.safe.known, .slice b6 K.safe.slots.length e6, .slice none 0 0, .slice none 0 0, .bool false, .bool false, .int .i64 0, .slice none 0 0, .slice none 0 0, .slice none 0 0, .int .i64 0] := ⟨_, rfl⟩
  have HNX6 : Hid (WBox w6 w3.heap.size 66 [.int .i64 K.num, .int .i64 K.of_, .int .i64 K.safe.prom, .int .i64 K.safe.known, .slice b5 K.safe.slots.length e5, .bool false, .int .i64 K.safe.prom, .int .i64 K.safe.known, .slice b6 K.safe.slots.length e6, .slice none 0 0, .slice none 0 0, .bool false, .bool false, .int .i64 0, .slice none 0 0, .slice none 0 0, .slice none 0 0, .int .i64 0]) := by show WBox _ _ _ _; rw [hw6]; exact WBox.puts (x := [.int .i64 K.num, .int .i64 K.of_, .int .i64 K.safe.prom, .int .i64 K.safe.known, .slice b5 K.safe.slots.length e5]) (y := [.bool K.up, .int .i64 K.disk.prom, .int .i64 K.disk.known, .slice b8 K.disk.slots.length e8, .slice b9 K.held.length e9, .slice b10 K.wish.length e10, .bool K.lead, .bool K.try_, .int .i64 K.bal, .slice b14 K.yes.length e14, .slice b15 K.best.length e15, .slice b16 K.acks.length e16, .int .i64 K.heard]) (z := []) HNX.out [.bool false, .int .i64 K.safe.prom, .int .i64 K.safe.known, .slice b6 K.safe.slots.length e6, .slice none 0 0, .slice none 0 0, .bool false, .bool false, .int .i64 0, .slice none 0 0, .slice none 0 0, .slice none 0 0, .int .i64 0] rfl
  have hth : w5.there w3.heap.size 5 13 := uthere HNX.out.own _ _ (by show 5 + 13 ≤ 18; omega)
  have hM : Marks (fun b => b = w3.heap.size) w5 w6 := by rw [hw6]; exact mks_scs (S := fun b => b = w3.heap.size) rfl _ _ _
  have hzz := HNX.out.own.lt
  have HLO : Hid (W.heap.size + 1 < w3.heap.size) := by show _ < _; have := HS1.out; have := HS2.out; have := HS3.out; omega
  replace HRS := uh (hM.own _ _ _ HRS.out)
  replace HB := uh (hM.below (fun b e => by rw [e]; have := HLO.out; omega) HB.out)
  replace R5 := uh (R5.out.keep hM (fun b hb e => by have := LT45.out b hb; have := HS3.out; omega))
  replace S6 := uh (S6.out.keep hM (fun b hb e => by have := FR6.out b hb; have := HW34.out; omega))
  go_upto_region 5 with (refine wpList_store_mid rfl 64 _ _ rfl w3.heap.size 5 #[.bool false, .int .i64 K.safe.prom, .int .i64 K.safe.known, .slice b6 K.safe.slots.length e6, .slice none 0 0, .slice none 0 0, .bool false, .bool false, .int .i64 0, .slice none 0 0, .slice none 0 0, .slice none 0 0, .int .i64 0] rfl rfl hth (by kernel_rfl) (by simp [Value.oneCell']) ?_)
  first | rw [← hw6] | (simp only [List.toList_toArray]; rw [← hw6])
  clear hw6 hth hM HNX hzz
  have ha6 := HNX6.out.at_
  have hz6 := HNX6.out.own.lt
  go_wp2_with (refine wpList_load_mid rfl 66 _ rfl w3.heap.size 0 rfl [.int .i64 K.num, .int .i64 K.of_, .int .i64 K.safe.prom, .int .i64 K.safe.known, .slice b5 K.safe.slots.length e5, .bool false, .int .i64 K.safe.prom, .int .i64 K.safe.known, .slice b6 K.safe.slots.length e6, .slice none 0 0, .slice none 0 0, .bool false, .bool false, .int .i64 0, .slice none 0 0, .slice none 0 0, .slice none 0 0, .int .i64 0] _ ha6 Try.underlying66 rfl (by kernel_rfl) ?_)
  refine (joinI K.num K.of_ K.safe.prom K.safe.known K.safe.prom K.safe.known 0 0 false false false b5 K.safe.slots.length e5 b6 K.safe.slots.length e6 none 0 0 none 0 0 none 0 0 none 0 0 none 0 0 w6).mono ?_
  rintro e w7 ⟨rfl, hb⟩
  replace HRS := uh (HRS.out.later hb)
  replace HB := uh (blw_trans HB.out hb)
  replace R5 := uh (R5.out.later hb)
  replace S6 := uh (S6.out.later hb)
  clear hb ha6 hz6
  have hth : w7.there (W.heap.size + 1) 0 18 := uthere HRS.out _ _ (by omega)
  have hrz := HRS.out.lt
  obtain ⟨we, hwe⟩ : ∃ we, we = w7.setCells (W.heap.size + 1) 0 [.int .i64 K.num, .int .i64 K.of_, .bool false, .int .i64 K.safe.prom, .int .i64 K.safe.known, .slice b5 K.safe.slots.length e5, .int .i64 K.safe.prom, .int .i64 K.safe.known, .slice b6 K.safe.slots.length e6, .slice none 0 0, .slice none 0 0, .bool false, .bool false, .int .i64 0, .slice none 0 0, .slice none 0 0, .slice none 0 0, .int .i64 0] := ⟨_, rfl⟩
  have hrt : we.rangeAt (W.heap.size + 1) 0 [.int .i64 K.num, .int .i64 K.of_, .bool false, .int .i64 K.safe.prom, .int .i64 K.safe.known, .slice b5 K.safe.slots.length e5, .int .i64 K.safe.prom, .int .i64 K.safe.known, .slice b6 K.safe.slots.length e6, .slice none 0 0, .slice none 0 0, .bool false, .bool false, .int .i64 0, .slice none 0 0, .slice none 0 0, .slice none 0 0, .int .i64 0] := by rw [hwe]; exact World.rangeAt_setCells_same _ _ _ _ hth
  have hM : Marks (fun b => b = W.heap.size + 1) w7 we := by rw [hwe]; exact mks_scs (S := fun b => b = W.heap.size + 1) rfl _ _ _
  have HBE : Hid (Below W.heap.size W we) := hM.below (fun b e => by rw [e]; omega) HB.out
  replace R5 := uh (R5.out.keep hM (fun b hb e => by have := FR5.out b hb; have := HS1.out; omega))
  replace S6 := uh (S6.out.keep hM (fun b hb e => by have := FR6.out b hb; have := HW34.out; have := HLO.out; omega))
  go_wp2_with (refine wpList_store_mid rfl 40 _ _ rfl (W.heap.size + 1) 0 #[.int .i64 K.num, .int .i64 K.of_, .bool false, .int .i64 K.safe.prom, .int .i64 K.safe.known, .slice b5 K.safe.slots.length e5, .int .i64 K.safe.prom, .int .i64 K.safe.known, .slice b6 K.safe.slots.length e6, .slice none 0 0, .slice none 0 0, .bool false, .bool false, .int .i64 0, .slice none 0 0, .slice none 0 0, .slice none 0 0, .int .i64 0] rfl rfl hth (by kernel_rfl) (by simp [Value.oneCell']) ?_)
  first | rw [← hwe] | (simp only [List.toList_toArray]; rw [← hwe])
  clear hwe hth hrz hM
  try simp only [Act.put]
  refine bodyPost_ret (v := .agg #[.int .i64 K.num, .int .i64 K.of_, .bool false, .int .i64 K.safe.prom, .int .i64 K.safe.known, .slice b5 K.safe.slots.length e5, .int .i64 K.safe.prom, .int .i64 K.safe.known, .slice b6 K.safe.slots.length e6, .slice none 0 0, .slice none 0 0, .bool false, .bool false, .int .i64 0, .slice none 0 0, .slice none 0 0, .slice none 0 0, .int .i64 0]) (by simp [results, Try.results10, asAddr, run_loadVar_mid (P := Try.prog) _ _ _ 40 [.int .i64 K.num, .int .i64 K.of_, .bool false, .int .i64 K.safe.prom, .int .i64 K.safe.known, .slice b5 K.safe.slots.length e5, .int .i64 K.safe.prom, .int .i64 K.safe.known, .slice b6 K.safe.slots.length e6, .slice none 0 0, .slice none 0 0, .bool false, .bool false, .int .i64 0, .slice none 0 0, .slice none 0 0, .slice none 0 0, .int .i64 0] _ hrt Try.underlying40 rfl (by kernel_rfl)]) rfl ⟨[.int .i64 K.num, .int .i64 K.of_, .bool false, .int .i64 K.safe.prom, .int .i64 K.safe.known, .slice b5 K.safe.slots.length e5, .int .i64 K.safe.prom, .int .i64 K.safe.known, .slice b6 K.safe.slots.length e6, .slice none 0 0, .slice none 0 0, .bool false, .bool false, .int .i64 0, .slice none 0 0, .slice none 0 0, .slice none 0 0, .int .i64 0], F5 ++ (F6 ++ []), rfl, ?_, ?_, ?_, HBE.out⟩
  · rw [HE.out]
    exact .i _ (.i _ (.b _ (.i _ (.i _ (Rep.app R5.out (.i _ (.i _ (Rep.app S6.out (.emp _ _ none rfl (.emp _ _ none rfl (.b _ (.b _ (.i _ (.emp _ _ none rfl (.emp _ _ none rfl (.emp _ _ none rfl (.i _ .nil)))))))))))))))))
  · rw [List.append_nil, List.nodup_append]
    refine ⟨ND5.out, ND6.out, fun x hx y hy e => ?_⟩
    have := LT45.out x hx; have := FR6.out y hy; have := HW34.out; have := HS3.out; omega
  · intro b q
    rw [List.append_nil] at q
    rcases List.mem_append.1 q with q | q
    · have := FR5.out b q; have := HS1.out; omega
    · have := FR6.out b q; have := HW34.out; have := HLO.out; omega
end Go.Proofs.Ytnifdpjmpbocnaa
