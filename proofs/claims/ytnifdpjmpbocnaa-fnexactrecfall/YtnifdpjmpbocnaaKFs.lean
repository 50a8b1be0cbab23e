/-
  RecFall by the specification.
-/
import Derived.Test.YtnifdpjmpbocnaaKCx
import Derived.Test.YtnifdpjmpbocnaaKFp
import Derived.Test.YtnifdpjmpbocnaaRgMk
import Derived.Test.YtnifdpjmpbocnaaRvC
namespace Go.Proofs.Ytnifdpjmpbocnaa
open Go.RowKit Go.Deep

set_option maxRecDepth 8000 in
set_option maxHeartbeats 4000000 in
theorem l21SlotsC (n : Nat) (es : List Dt) (v : Value) (W : World) (h : Raw W [.row 98 shRecSlot] [.row n es] [v]) (hn : n ≤ 4194304) :
    Calls Try.prog 64 #[v] W (AnsL [.row 98 shRecSlot] (.row n es) W) := by
  obtain ⟨va, vc, hva⟩ := h.len0
  subst hva
  obtain ⟨wa, hwa⟩ : ∃ wa, wa = W.alloc (.cells #[] 98) := ⟨_, rfl⟩
  have HB : Hid (Below W.heap.size W wa) := by show Below _ _ _; rw [hwa]; exact blw_alloc (Below.refl _ _) _
  obtain ⟨v', W', xs, hrun, hg, hb⟩ := app_copy (P := Try.prog) W.heap.size 34 34 98 98 2 24 _ Try.cunderRecSlot Try.cinfoRecSlot rfl (by decide) (by decide) shRecSlot rfl (by simp [flatB]) wa (.slice (some ⟨W.heap.size, 0, none⟩) 0 0) (Or.inr ⟨W.heap.size, rfl, Nat.le_refl _, by rw [hwa]; exact heap_alloc_new _ _⟩) HB.out.size n es (.slice va n vc) (h.later HB.out) hn
  have HG := uh (And.intro hg hb)
  clear hg hb h
  obtain ⟨wx, wc, hvx⟩ := HG.out.1.shape
  subst hvx
  rw [hwa] at hrun
  go_enter Try.func64, Try.ntmps64
  go_wp2_with (at_builtin; refine Go.Lib.wpList_append_run _ rfl _ _ 34 34 rfl _ _ rfl rfl _ W' hrun ?_)
  clear hrun
  obtain ⟨F, r, nd, fr⟩ := HG.out.1.done
  have HR := uh (And.intro r (And.intro nd fr))
  clear r nd fr
  go_wp2
  go_ret
  exact ⟨_, F, rfl, HR.out.1, HR.out.2.1, HR.out.2.2, blw_trans HB.out HG.out.2⟩
set_option maxRecDepth 8000 in
set_option maxHeartbeats 8000000 in
theorem l21DiskC (ds : List Dt) (cs : List Value) (W : World) (h : Raw W shRecDisk ds cs) (hw : wtL ds ≤ 4194304) :
    Calls Try.prog 24 #[.agg cs.toArray] W (Ans shRecDisk ds W) := by
  obtain ⟨a0, a1, n2, e2, rfl, t2⟩ := typRecDisk h.typ
  obtain ⟨v2, hcs, r2⟩ := rawRecDisk h
  simp only [wtL] at hw
  have HW := uh hw
  have R2 := uh r2
  have HCS := uh hcs
  obtain ⟨wa, hwa⟩ : ∃ wa, wa = (W.alloc (.cells cs.toArray 36)).alloc (.cells #[.int .i64 0, .int .i64 0, .slice none 0 0] 36) := ⟨_, rfl⟩
  have HB : Hid (Below W.heap.size W wa) := by show Below _ _ _; rw [hwa]; exact blw_alloc (blw_alloc (Below.refl _ _) _) _
  have HX : Hid (WBox wa W.heap.size 36 [.int .i64 a0, .int .i64 a1, v2]) := by show WBox _ _ _ _; rw [hwa, ← hcs]; exact (WBox.new W cs _ _ rfl).later (blw_alloc (Below.refl _ _) _)
  have HRS : Hid (OwnBlk wa (W.heap.size + 1) 36 3) := by show OwnBlk _ _ _ _; rw [hwa]; exact OwnBlk.alloc_at3 _ _ _ _ _ rfl (by simp)
  clear h hcs hw r2 t2
  go_enter Try.func24, Try.ntmps24
  go_upto_region 1 with fail
  rw [← hwa]
  clear hwa
  obtain ⟨va2, vc2, hva⟩ := R2.out.len0
  subst hva
  have hz := HX.out.own.lt
  have hfz := HX.out.own.frozen
  have gc := HX.out.get 2 _ rfl
  go_wp2_with fail
  refine (l21SlotsC n2 e2 (.slice va2 n2 vc2) wa (R2.out.later HB.out) (by have := HW.out; omega)).mono ?_
  rintro e x2 ⟨w2, F2, rfl, rep, nd, fr, hb⟩
  obtain ⟨wa2, wc2, hva⟩ := rep.raw.len0
  subst hva
  obtain ⟨y2, hy⟩ : ∃ y, y = x2.setCell ⟨W.heap.size, 2, none⟩ (.slice wa2 n2 wc2) := ⟨_, rfl⟩
  have HS0 := uh HX.out.own.lt
  have HX1 := uh (HX.out.later hb)
  have HRS1 := uh (HRS.out.later hb)
  have HB1 := uh (blw_trans HB.out hb)
  have HX2 : Hid (WBox y2 W.heap.size 36 [.int .i64 a0, .int .i64 a1, .slice wa2 n2 wc2]) := by show WBox _ _ _ _; rw [hy]; exact HX1.out.set 2 (.slice wa2 n2 wc2) (by show 2 < 3; decide)
  have HRS2 : Hid (OwnBlk y2 (W.heap.size + 1) 36 3) := by show OwnBlk _ _ _ _; rw [hy]; exact HRS1.out.sc_other (by omega) _ _
  have HB2 : Hid (Below W.heap.size W y2) := by show Below _ _ _; rw [hy]; exact HB1.out.setCell (p := ⟨W.heap.size, 2, none⟩) (Nat.le_refl _) _
  have HM : Hid (Marks (fun b => b = W.heap.size) x2 y2) := (by rw [hy]; exact Marks.sc (S := fun b => b = W.heap.size) _ rfl _ _)
  have D2 := uh (rep.keep HM.out (fun b hb e => by have := fr b hb; have := HS0.out; omega))
  have HSZ2 : Hid (wa.heap.size ≤ x2.heap.size ∧ x2.heap.size ≤ y2.heap.size) := ⟨hb.size, HM.out.size⟩
  have FB2 : Hid (∀ b ∈ F2, wa.heap.size ≤ b ∧ b < x2.heap.size) := fun b hb => ⟨fr b hb, rep.lt b hb⟩
  have ND2 := uh nd
  have HWA : Hid (W.heap.size + 1 < wa.heap.size) := HRS.out.lt
  have hqz := HX1.out.own.lt
  have hqf := HX1.out.own.frozen
  obtain ⟨ux, eu⟩ := HX1.out.own.cell 2 (by show 2 < 3; decide)
  clear rep nd fr HX HRS HB
  go_upto_region 2 with fail
  rw [← hy]
  clear hy gc hz hfz hqz hqf eu HX1 HRS1 HB1 hb HM HS0
  have HX := HX2
  have HRS := HRS2
  have HB := HB2
  clear HX2 HRS2 HB2
  have hth : y2.there (W.heap.size + 1) 0 3 := uthere HRS.out _ _ (by omega)
  obtain ⟨we, hwe⟩ : ∃ we, we = y2.setCells (W.heap.size + 1) 0 [.int .i64 a0, .int .i64 a1, .slice wa2 n2 wc2] := ⟨_, rfl⟩
  have hrt : we.rangeAt (W.heap.size + 1) 0 [.int .i64 a0, .int .i64 a1, .slice wa2 n2 wc2] := by rw [hwe]; exact World.rangeAt_setCells_same _ _ _ _ hth
  have HBE : Hid (Below W.heap.size W we) := by show Below _ _ _; rw [hwe]; exact blw_scs (by omega) _ _ _ HB.out
  have HM : Hid (Marks (fun b => b = W.heap.size + 1) y2 we) := by show Marks _ _ _; rw [hwe]; exact mks_scs (S := fun b => b = W.heap.size + 1) rfl _ _ _
  replace D2 := uh (D2.out.keep HM.out (fun b hb e => by have := FB2.out b hb; have := HWA.out; have := HSZ2.out; omega))
  refine wp_region_lit ?_
  refine wpList_load_mid rfl 36 _ rfl W.heap.size 0 rfl [.int .i64 a0, .int .i64 a1, .slice wa2 n2 wc2] _ HX.out.at_ Try.underlying36 rfl (by kernel_rfl) ?_
  refine wpList_store_mid rfl 36 _ _ rfl (W.heap.size + 1) 0 ([.int .i64 a0, .int .i64 a1, .slice wa2 n2 wc2] : List Value).toArray rfl rfl hth (by kernel_rfl) (by simp [Value.oneCell']) ?_
  simp only [Act.put, List.setIfInBounds_toArray, List.set_cons_zero, List.set_cons_succ]
  rw [← hwe]
  clear hwe hth
  go_wp2
  refine bodyPost_ret (v := .agg ([.int .i64 a0, .int .i64 a1, .slice wa2 n2 wc2] : List Value).toArray) (by simp [results, Try.results24, asAddr, run_loadVar_mid (P := Try.prog) _ _ _ 36 [.int .i64 a0, .int .i64 a1, .slice wa2 n2 wc2] _ hrt Try.underlying36 rfl (by kernel_rfl)]) rfl ⟨[.int .i64 a0, .int .i64 a1, .slice wa2 n2 wc2], F2 ++ [], rfl, ?_, ?_, ?_, HBE.out⟩
  · exact repRecDisk_mk _ _ D2.out
  · exact (by rw [List.append_nil]; exact ND2.out)
  · exact (lo_join (fun b hb => by have := FB2.out b hb; have := HWA.out; have := HSZ2.out; omega) (by simp))
end Go.Proofs.Ytnifdpjmpbocnaa

namespace Go.Proofs.Ytnifdpjmpbocnaa
open Go.RowKit Go.Deep

/-- What the operations of 'Recorder{Number: .., Of: .., Safe: copy, Disk: copy}' yield. -/
def VFall (K : Rr) (B : Nat) (sd : List Value) (i : Nat) (u : Value) (W : World) (lo hi : Nat) : Prop :=
  match i with
  | 0 => u = .pointer (some ⟨B, 0, none⟩)
  | 1 => u = .int .i64 K.num
  | 2 => u = .pointer (some ⟨B, 1, none⟩)
  | 3 => u = .int .i64 K.of_
  | 4 => u = .pointer (some ⟨B, 3, none⟩)
  | 5 => u = .agg sd.toArray
  | 6 => ∃ c F, u = .agg c.toArray ∧ Rep W false shRecDisk F (eRd K.safe) c ∧ F.Nodup ∧ ∀ b ∈ F, lo ≤ b ∧ b < hi
  | 7 => u = .pointer (some ⟨B, 3, none⟩)
  | 8 => u = .agg sd.toArray
  | _ => ∃ c F, u = .agg c.toArray ∧ Rep W false shRecDisk F (eRd K.safe) c ∧ F.Nodup ∧ ∀ b ∈ F, lo ≤ b ∧ b < hi
theorem VFall_mono (K : Rr) (B : Nat) (sd : List Value) : ∀ j u W W' lo hi, Below W.heap.size W W' → VFall K B sd j u W lo hi → VFall K B sd j u W' lo hi := by
  intro j u W W' lo hi hb h
  match j, h with
  | 0, h => exact h
  | 1, h => exact h
  | 2, h => exact h
  | 3, h => exact h
  | 4, h => exact h
  | 5, h => exact h
  | 6, h => obtain ⟨c, F, h1, h2, h3, h4⟩ := h; exact ⟨c, F, h1, h2.later hb, h3, h4⟩
  | 7, h => exact h
  | 8, h => exact h
  | n + 9, h => obtain ⟨c, F, h1, h2, h3, h4⟩ := h; exact ⟨c, F, h1, h2.later hb, h3, h4⟩
def bFall (f : Nat → Value) : Value := .agg (#[f 1, f 3, .bool false] ++ (f 6).cells ++ (f 9).cells ++ #[.slice none 0 0, .slice none 0 0, .bool false, .bool false, .int .i64 0, .slice none 0 0, .slice none 0 0, .slice none 0 0, .int .i64 0])
/-- What is stored in the end. -/
def KFall (K : Rr) (base : World) (p : Nat) (W : World) : Prop := ∃ c F, W.rangeAt p 0 c ∧ Rep W false shRecorder F (eRr { Rr.zero with num := K.num, of_ := K.of_, safe := K.safe, disk := K.safe }) c ∧ F.Nodup ∧ (∀ b ∈ F, base.heap.size ≤ b) ∧ Below base.heap.size base W

set_option maxRecDepth 8000 in
set_option maxHeartbeats 16000000 in
theorem recFallS (K : Rr) (cs : List Value) (W : World) (h : Raw W shRecorder (eRr K) cs) (hw : wtL (eRr K) ≤ 1048576) :
    Calls Try.prog 8 #[.agg cs.toArray] W (Ans shRecorder (eRr (fallK K)) W) := by
  obtain ⟨a0, a1, a2, a3, a4, a5, a6, c0, c1, c2, c3, c4, c5, c6, hcs, hv, hc0, hc1, hc3⟩ := vRr h hw
  have HC := uh hcs
  have HV := uh hv
  have HRW := uh h
  have HWT := uh hw
  have HCall : Hid (∀ X, Below W.heap.size W X → Calls Try.prog 23 #[.agg cs.toArray] X fun e w' => e = .returned (.bool (recOk K)) ∧ Below X.heap.size X w') := fun X hX => by
    rw [HC.out]; exact recValidS K a0 a1 a2 a3 a4 a5 a6 c0 c1 c2 c3 c4 c5 c6 X (HV.out.later hX)
  have HLC : Hid (cs.length = 18) := h.len
  clear h hcs hv hw
  obtain ⟨wa, hwa⟩ : ∃ wa, wa = (W.alloc (.cells cs.toArray 40)).alloc (.cells #[.int .i64 0, .int .i64 0, .bool false, .int .i64 0, .int .i64 0, .slice none 0 0, .int .i64 0, .int .i64 0, .slice none 0 0, .slice none 0 0, .slice none 0 0, .bool false, .bool false, .int .i64 0, .slice none 0 0, .slice none 0 0, .slice none 0 0, .int .i64 0] 40) := ⟨_, rfl⟩
  have HB : Hid (Below W.heap.size W wa) := by show Below _ _ _; rw [hwa]; exact blw_alloc (blw_alloc (Below.refl _ _) _) _
  have HX : Hid (LBox wa W.heap.size cs) := by show LBox _ _ _; rw [hwa]; exact (LBox.new W cs.toArray _ _ rfl).past _
  have HRS : Hid (OwnBlk wa (W.heap.size + 1) 40 18) := by show OwnBlk _ _ _ _; rw [hwa]; exact OwnBlk.alloc_at3 _ _ _ _ _ rfl (by simp)
  go_enter Try.func8, Try.ntmps8
  go_upto_region 1 with fail
  rw [← hwa]
  clear hwa
  have hz := HX.out.lt
  have ha := HX.out.at_
  go_wp2_with (refine wpList_load_mid rfl 40 _ rfl W.heap.size 0 rfl cs _ ha Try.underlying40 rfl (by rw [HLC.out]; kernel_rfl) ?_)
  refine (HCall.out wa HB.out).mono ?_
  rintro e w1 ⟨rfl, hb⟩
  replace HX := uh (HX.out.later hb)
  replace HRS := uh (HRS.out.later hb)
  replace HB := uh (blw_trans HB.out hb)
  clear hb hz ha HCall
  cases hok : recOk K
  · have hrz := HRS.out.lt
    have hth : w1.there (W.heap.size + 1) 0 18 := uthere HRS.out _ _ (by omega)
    obtain ⟨we, hwe⟩ : ∃ we, we = w1.setCells (W.heap.size + 1) 0 [.int .i64 0, .int .i64 0, .bool false, .int .i64 0, .int .i64 0, .slice none 0 0, .int .i64 0, .int .i64 0, .slice none 0 0, .slice none 0 0, .slice none 0 0, .bool false, .bool false, .int .i64 0, .slice none 0 0, .slice none 0 0, .slice none 0 0, .int .i64 0] := ⟨_, rfl⟩
    have hrt : we.rangeAt (W.heap.size + 1) 0 [.int .i64 0, .int .i64 0, .bool false, .int .i64 0, .int .i64 0, .slice none 0 0, .int .i64 0, .int .i64 0, .slice none 0 0, .slice none 0 0, .slice none 0 0, .bool false, .bool false, .int .i64 0, .slice none 0 0, .slice none 0 0, .slice none 0 0, .int .i64 0] := by rw [hwe]; exact World.rangeAt_setCells_same _ _ _ _ hth
    have HBE : Hid (Below W.heap.size W we) := by show Below _ _ _; rw [hwe]; exact blw_scs (by omega) _ _ _ HB.out
    have HE : Hid (fallK K = Rr.zero) := by show _ = _; unfold fallK; rw [hok]; rfl
    go_wp2_with (refine wpList_store_mid rfl 40 _ _ rfl (W.heap.size + 1) 0 #[.int .i64 0, .int .i64 0, .bool false, .int .i64 0, .int .i64 0, .slice none 0 0, .int .i64 0, .int .i64 0, .slice none 0 0, .slice none 0 0, .slice none 0 0, .bool false, .bool false, .int .i64 0, .slice none 0 0, .slice none 0 0, .slice none 0 0, .int .i64 0] rfl rfl hth (by kernel_rfl) (by simp [Value.oneCell']) ?_)
    rw [← hwe]
    clear hwe hth hrz
    simp only [Act.put]
    refine bodyPost_ret (v := .agg #[.int .i64 0, .int .i64 0, .bool false, .int .i64 0, .int .i64 0, .slice none 0 0, .int .i64 0, .int .i64 0, .slice none 0 0, .slice none 0 0, .slice none 0 0, .bool false, .bool false, .int .i64 0, .slice none 0 0, .slice none 0 0, .slice none 0 0, .int .i64 0]) (by simp [results, Try.results8, asAddr, run_loadVar_mid (P := Try.prog) _ _ _ 40 [.int .i64 0, .int .i64 0, .bool false, .int .i64 0, .int .i64 0, .slice none 0 0, .int .i64 0, .int .i64 0, .slice none 0 0, .slice none 0 0, .slice none 0 0, .bool false, .bool false, .int .i64 0, .slice none 0 0, .slice none 0 0, .slice none 0 0, .int .i64 0] _ hrt Try.underlying40 rfl (by kernel_rfl)]) rfl ⟨[.int .i64 0, .int .i64 0, .bool false, .int .i64 0, .int .i64 0, .slice none 0 0, .int .i64 0, .int .i64 0, .slice none 0 0, .slice none 0 0, .slice none 0 0, .bool false, .bool false, .int .i64 0, .slice none 0 0, .slice none 0 0, .slice none 0 0, .int .i64 0], [], rfl, ?_, List.nodup_nil, by simp, HBE.out⟩
    rw [HE.out]
    exact zero_rep _ false rfl
  have HE : Hid (fallK K = { Rr.zero with num := K.num, of_ := K.of_, safe := K.safe, disk := K.safe }) := by show _ = _; unfold fallK; rw [hok]; rfl
  obtain ⟨sd, hsd⟩ : ∃ sd : List Value, sd = [.int .i64 K.safe.prom, .int .i64 K.safe.known, .slice a0 K.safe.slots.length c0] := ⟨_, rfl⟩
  have HSD := uh hsd
  have HRD : Hid (Raw W shRecDisk (eRd K.safe) sd) := by
    show Raw _ _ _ _
    have r := HRW.out
    rw [HC.out] at r
    obtain ⟨x0, e0, h1⟩ := r.c_i
    injection e0 with _ e0; subst e0
    obtain ⟨x1, e1, h2⟩ := h1.c_i
    injection e1 with _ e1; subst e1
    obtain ⟨x2, e2, h3⟩ := h2.c_b
    injection e2 with _ e2; subst e2
    obtain ⟨x3, e3, h4⟩ := h3.c_i
    injection e3 with _ e3; subst e3
    obtain ⟨x4, e4, h5⟩ := h4.c_i
    injection e4 with _ e4; subst e4
    obtain ⟨v5, x5, e5, r5, _⟩ := h5.c_r
    injection e5 with e5 _; subst e5
    rw [hsd]
    exact .i _ (.i _ r5)
  have HCP : Hid (∀ X, Below W.heap.size W X → Calls Try.prog 24 #[.agg sd.toArray] X (Ans shRecDisk (eRd K.safe) X)) := fun X hX => l21DiskC (eRd K.safe) sd X (HRD.out.later hX) (by have := HWT.out; have := safe_wt K; omega)
  have HG0 : Hid (w1.cell? ⟨W.heap.size, 0, none⟩ = some (.int .i64 K.num)) := HX.out.get 0 _ (by rw [HC.out]; rfl)
  have HG1 : Hid (w1.cell? ⟨W.heap.size, 1, none⟩ = some (.int .i64 K.of_)) := HX.out.get 1 _ (by rw [HC.out]; rfl)
  have HG3 : Hid (w1.rangeAt W.heap.size 3 sd) := by
    intro j x hx
    have h2 : cs[3 + j]? = some x := by
      rw [HC.out]
      rw [HSD.out] at hx
      match j, hx with
      | 0, hx => exact hx
      | 1, hx => exact hx
      | 2, hx => exact hx
      | j + 3, hx => simp at hx
    exact HX.out.get (3 + j) x h2
  have HLB : Hid (W.heap.size < w1.heap.size) := HX.out.lt
  have HS1 : Hid (W.heap.size + 1 < w1.heap.size) := HRS.out.lt
  clear hsd
  go_upto_region 3 with fail
  refine RY.region_mk w1 (Below.refl _ _) (VFall K W.heap.size sd) (VFall_mono K W.heap.size sd) bFall [1, 3, 6, 9] ?_ (fun _ X => KFall K W (W.heap.size + 1) X) 10 17 10 (by kernel_rfl) (by kernel_rfl) (by kernel_rfl) (by kernel_rfl) rfl (by kernel_rfl) (by kernel_rfl) _ _ rfl rfl rfl rfl (by kernel_rfl) (by kernel_rfl) ?_ ?_ ?_ ?_
  · intro f g hfg
    unfold bFall
    rw [hfg 1 (by simp), hfg 3 (by simp), hfg 6 (by simp), hfg 9 (by simp)]
  · intro i o ho hin a X hX hk hd
    have xz := Nat.lt_of_lt_of_le HLB.out hX.size
    have y0 : X.cell? ⟨W.heap.size, 0, none⟩ = some (.int .i64 K.num) := (hX.cell (p := ⟨W.heap.size, 0, none⟩) HLB.out).trans HG0.out
    have y1 : X.cell? ⟨W.heap.size, 1, none⟩ = some (.int .i64 K.of_) := (hX.cell (p := ⟨W.heap.size, 1, none⟩) HLB.out).trans HG1.out
    have y3 : X.rangeAt W.heap.size 3 sd := rA_later HG3.out HLB.out hX
    have t1 : a.tmps[1]?.getD undef = .pointer (some ⟨W.heap.size, 0, none⟩) := (RY.ev_tmp a 1).trans ((hk 1 (by kernel_rfl)).trans rfl)
    match i, ho with
    | 0, ho =>
      injection ho with ho; subst ho
      exact Or.inl ⟨_, X, by simp [execOp, go_sem, t1], Below.refl _ _, rfl⟩
    | 1, ho =>
      injection ho with ho; subst ho
      have e0 : a.tmps[7]?.getD undef = _ := (RY.ev_tmp a 7).trans ((hd 0 _ 7 rfl rfl ⟨⟨0, .data⟩, by simp, rfl, rfl⟩ (by decide)).elim fun _ h => h.elim fun _ h => h)
      exact Or.inl ⟨_, X, by simp [execOp, go_sem, e0, y0], Below.refl _ _, rfl⟩
    | 2, ho =>
      injection ho with ho; subst ho
      exact Or.inl ⟨_, X, by simp [execOp, go_sem, t1], Below.refl _ _, rfl⟩
    | 3, ho =>
      injection ho with ho; subst ho
      have e0 : a.tmps[9]?.getD undef = _ := (RY.ev_tmp a 9).trans ((hd 2 _ 9 rfl rfl ⟨⟨2, .data⟩, by simp, rfl, rfl⟩ (by decide)).elim fun _ h => h.elim fun _ h => h)
      exact Or.inl ⟨_, X, by simp [execOp, go_sem, e0, y1], Below.refl _ _, rfl⟩
    | 4, ho =>
      injection ho with ho; subst ho
      exact Or.inl ⟨_, X, by simp [execOp, go_sem, t1], Below.refl _ _, rfl⟩
    | 5, ho =>
      injection ho with ho; subst ho
      have e0 : a.eval (.tmp 11) = _ := (hd 4 _ 11 rfl rfl ⟨⟨4, .data⟩, by simp, rfl, rfl⟩ (by decide)).elim fun _ h => h.elim fun _ h => h
      exact Or.inl ⟨_, X, exec_load_mid 36 _ rfl W.heap.size 3 e0 sd _ y3 Try.underlying36 rfl (by rw [HSD.out]; kernel_rfl), Below.refl _ _, rfl⟩
    | 6, ho =>
      injection ho with ho; subst ho
      have e0 : a.tmps[12]?.getD undef = _ := (RY.ev_tmp a 12).trans ((hd 5 _ 12 rfl rfl ⟨⟨5, .data⟩, by simp, rfl, rfl⟩ (by decide)).elim fun _ h => h.elim fun _ h => h)
      refine Or.inr ⟨24, #[.agg sd.toArray], by simp [go_sem, e0], (HCP.out X (blw_trans HB.out hX)).mono ?_⟩
      rintro e X' ⟨c, F, rfl, hr, nd, fr, hb⟩
      exact ⟨_, rfl, hb, c, F, rfl, hr, nd, fun b hb => ⟨fr b hb, hr.lt b hb⟩⟩
    | 7, ho =>
      injection ho with ho; subst ho
      exact Or.inl ⟨_, X, by simp [execOp, go_sem, t1], Below.refl _ _, rfl⟩
    | 8, ho =>
      injection ho with ho; subst ho
      have e0 : a.eval (.tmp 14) = _ := (hd 7 _ 14 rfl rfl ⟨⟨7, .data⟩, by simp, rfl, rfl⟩ (by decide)).elim fun _ h => h.elim fun _ h => h
      exact Or.inl ⟨_, X, exec_load_mid 36 _ rfl W.heap.size 3 e0 sd _ y3 Try.underlying36 rfl (by rw [HSD.out]; kernel_rfl), Below.refl _ _, rfl⟩
    | 9, ho =>
      injection ho with ho; subst ho
      have e0 : a.tmps[15]?.getD undef = _ := (RY.ev_tmp a 15).trans ((hd 8 _ 15 rfl rfl ⟨⟨8, .data⟩, by simp, rfl, rfl⟩ (by decide)).elim fun _ h => h.elim fun _ h => h)
      refine Or.inr ⟨24, #[.agg sd.toArray], by simp [go_sem, e0], (HCP.out X (blw_trans HB.out hX)).mono ?_⟩
      rintro e X' ⟨c, F, rfl, hr, nd, fr, hb⟩
      exact ⟨_, rfl, hb, c, F, rfl, hr, nd, fun b hb => ⟨fr b hb, hr.lt b hb⟩⟩
    | n + 10, ho => omega
  · intro a X vals hX hk hd
    obtain ⟨e1, _, _, q1⟩ := hd 1 _ 8 rfl rfl ⟨⟨1, .data⟩, by simp, rfl, rfl⟩ (by decide)
    obtain ⟨e3, _, _, q3⟩ := hd 3 _ 10 rfl rfl ⟨⟨3, .data⟩, by simp, rfl, rfl⟩ (by decide)
    obtain ⟨e6, _, _, c6, F6, q6, r6, _⟩ := hd 6 _ 13 rfl rfl ⟨⟨6, .data⟩, by simp, rfl, rfl⟩ (by decide)
    obtain ⟨e9, _, _, c9, F9, q9, r9, _⟩ := hd 9 _ 16 rfl rfl ⟨⟨9, .data⟩, by simp, rfl, rfl⟩ (by decide)
    obtain ⟨v6, rfl, _⟩ := repRec3 r6
    obtain ⟨v9, rfl, _⟩ := repRec3 r9
    have q1 : vals 1 = _ := q1
    have q3 : vals 3 = _ := q3
    rw [← RY.ev_tmp, q1] at e1
    rw [← RY.ev_tmp, q3] at e3
    rw [← RY.ev_tmp, q6] at e6
    rw [← RY.ev_tmp, q9] at e9
    unfold bFall
    rw [q1, q3, q6, q9]
    simp [execOp, go_sem, e1, e3, e6, e9]
  · intro a X vals lo hi hX hk hV hdj hb
    obtain ⟨_, _, q1⟩ := hV 1 (by decide)
    obtain ⟨_, _, q3⟩ := hV 3 (by decide)
    obtain ⟨l6, _, c6, F6, q6, r6, n6, f6⟩ := hV 6 (by decide)
    obtain ⟨l9, _, c9, F9, q9, r9, n9, f9⟩ := hV 9 (by decide)
    obtain ⟨v6, rfl, s6⟩ := repRec3 r6
    obtain ⟨v9, rfl, s9⟩ := repRec3 r9
    have q1 : vals 1 = _ := q1
    have q3 : vals 3 = _ := q3
    have hbf : bFall vals = .agg ([.int .i64 K.num, .int .i64 K.of_, .bool false, .int .i64 K.safe.prom, .int .i64 K.safe.known, v6, .int .i64 K.safe.prom, .int .i64 K.safe.known, v9, .slice none 0 0, .slice none 0 0, .bool false, .bool false, .int .i64 0, .slice none 0 0, .slice none 0 0, .slice none 0 0, .int .i64 0] : List Value).toArray := by unfold bFall; rw [q1, q3, q6, q9]; rfl
    have hown := HRS.out.later hX
    have hth : X.there (W.heap.size + 1) 0 18 := uthere hown _ _ (by omega)
    have t2 : a.eval (.tmp 2) = .pointer (some ⟨W.heap.size + 1, 0, none⟩) := (hk 2 (by kernel_rfl)).trans rfl
    obtain ⟨x6, y6, hx6⟩ := s6.raw.len0
    obtain ⟨x9, y9, hx9⟩ := s9.raw.len0
    refine ⟨X.setCells (W.heap.size + 1) 0 [.int .i64 K.num, .int .i64 K.of_, .bool false, .int .i64 K.safe.prom, .int .i64 K.safe.known, v6, .int .i64 K.safe.prom, .int .i64 K.safe.known, v9, .slice none 0 0, .slice none 0 0, .bool false, .bool false, .int .i64 0, .slice none 0 0, .slice none 0 0, .slice none 0 0, .int .i64 0], ?_, ?_⟩
    · exact RY.exec_store_mid _ _ _ rfl t2 (hb.trans hbf) hth (by kernel_rfl) (by rw [hx6, hx9]; simp [Value.oneCell'])
    · have hM : Marks (fun b => b = W.heap.size + 1) X (X.setCells (W.heap.size + 1) 0 [.int .i64 K.num, .int .i64 K.of_, .bool false, .int .i64 K.safe.prom, .int .i64 K.safe.known, v6, .int .i64 K.safe.prom, .int .i64 K.safe.known, v9, .slice none 0 0, .slice none 0 0, .bool false, .bool false, .int .i64 0, .slice none 0 0, .slice none 0 0, .slice none 0 0, .int .i64 0]) := mks_scs (S := fun b => b = W.heap.size + 1) rfl _ _ _
      refine ⟨_, F6 ++ (F9 ++ []), World.rangeAt_setCells_same _ _ _ _ hth, ?_, ?_, ?_, ?_⟩
      · refine Rep.keep (w := X) ?_ hM (fun b hb' e => ?_)
        · exact .i _ (.i _ (.b _ (.i _ (.i _ (Rep.app s6 (.i _ (.i _ (Rep.app s9 (.emp _ _ none rfl (.emp _ _ none rfl (.b _ (.b _ (.i _ (.emp _ _ none rfl (.emp _ _ none rfl (.emp _ _ none rfl (.i _ .nil)))))))))))))))))
        · have h1 := HS1.out
          rcases List.mem_append.1 hb' with q | q
          · have := f6 b q; omega
          · rw [List.append_nil] at q; have := f9 b q; omega
      · rw [List.append_nil, List.nodup_append]
        refine ⟨n6, n9, fun x hx y hy e => ?_⟩
        have := f6 x hx; have := f9 y hy; have := hdj 6 9 (by decide) (by decide) (by decide); omega
      · have h1 := HB.out.size
        intro b q
        rw [List.append_nil] at q
        rcases List.mem_append.1 q with q | q
        · have := f6 b q; omega
        · have := f9 b q; omega
      · exact hM.below (fun b e => by rw [e]; omega) (blw_trans HB.out hX)
  · rintro vals vs X ⟨c, F, hrt, rp, nd, fr, bel⟩ hvs
    simp only [RY.putAll, Act.put, List.setIfInBounds_toArray, List.set_cons_zero, List.set_cons_succ]
    have HLn : Hid (c.length = 18) := rp.len
    have HEND := uh (And.intro rp (And.intro nd (And.intro fr bel)))
    clear rp nd fr bel hvs
    generalize vs 7 = s7
    generalize vs 8 = s8
    generalize vs 9 = s9
    generalize vs 10 = s10
    generalize vs 11 = s11
    generalize vs 12 = s12
    generalize vs 13 = s13
    generalize vs 14 = s14
    generalize vs 15 = s15
    generalize vs 16 = s16
    generalize vs 17 = s17
    go_wp2
    refine bodyPost_ret (v := .agg c.toArray) (by simp [results, Try.results8, asAddr, run_loadVar_mid (P := Try.prog) _ _ _ 40 c _ hrt Try.underlying40 rfl (by rw [HLn.out]; kernel_rfl)]) rfl ⟨c, F, rfl, ?_, HEND.out.2.1, HEND.out.2.2.1, HEND.out.2.2.2⟩
    rw [HE.out]
    exact HEND.out.1
end Go.Proofs.Ytnifdpjmpbocnaa
