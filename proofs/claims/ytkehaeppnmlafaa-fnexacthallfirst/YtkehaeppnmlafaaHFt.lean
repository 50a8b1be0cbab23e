/-
  The first books of a house: by the specification.
-/
import Derived.Test.YtkehaeppnmlafaaHFs
import Derived.Test.YtkehaeppnmlafaaHKs
namespace Go.Proofs.Ytkehaeppnmlafaa
open Go.RowKit Go.Deep


set_option maxRecDepth 8000 in
set_option maxHeartbeats 16000000 in
theorem hallFirstS (K : Hs) (c : List Value) (F : List Nat) (W : World) (hr : Rep W true shHallHouse F (eHs K) c) (hw : wtL (eHs K) ≤ 1048576) : Calls Try.prog 5 #[.agg c.toArray] W (Ans shHallBook (firstD K) W) := by
  obtain ⟨p0, p1, hc, hv⟩ := vHs hr hw
  obtain ⟨F0, v0, F1, v1, _, hc2, r0, r1⟩ := repHallHouse hr
  have hwg : K.grs.length + wtL (K.grs.flatMap eGn) ≤ 1048576 := by simp only [eHs, wtL] at hw; omega
  obtain ⟨p2, hp2, hG⟩ := vGnR r1 hwg
  subst hc
  have e2 : p1 = p2 := by
    injection hc2 with _ e2
    injection e2 with e2 _
    rw [hp2] at e2
    injection e2 with e2
    injection e2 with e2
    injection e2 with e2
  subst e2
  have HG := uh hG
  have HV := uh hv
  have hn := hG.len
  clear hr hw r0 r1 hwg hG hv hp2 hc2
  obtain ⟨wa, hwa⟩ : ∃ wa, wa = (W.alloc (.cells #[.slice (some ⟨p0, 0, none⟩) K.tms.length K.tms.length, .slice (some ⟨p1, 0, none⟩) K.grs.length K.grs.length] 43)).alloc (.cells #[.int .i64 0, .int .i64 0, .int .i64 0, .slice none 0 0, .slice none 0 0, .slice none 0 0, .slice none 0 0, .int .i64 0, .slice none 0 0, .slice none 0 0, .slice none 0 0] 39) := ⟨_, rfl⟩
  have HB : Hid (Below W.heap.size W wa) := by show Below _ _ _; rw [hwa]; exact blw_alloc (blw_alloc (Below.refl _ _) _) _
  have HX : Hid (LBox wa W.heap.size [.slice (some ⟨p0, 0, none⟩) K.tms.length K.tms.length, .slice (some ⟨p1, 0, none⟩) K.grs.length K.grs.length]) := by show LBox _ _ _; rw [hwa]; exact (LBox.new W #[.slice (some ⟨p0, 0, none⟩) K.tms.length K.tms.length, .slice (some ⟨p1, 0, none⟩) K.grs.length K.grs.length] _ _ rfl).later (blw_alloc (Below.refl _ _) _)
  have HO : Hid (OwnBlk wa (W.heap.size + 1) 39 11) := by show OwnBlk _ _ _ _; rw [hwa]; exact OwnBlk.alloc_at3 _ _ _ _ _ rfl (by simp)
  have HC := uh (hallHouseOkS K p0 p1 wa (HV.out.later HB.out))
  go_enter Try.func5, Try.ntmps5
  go_upto_region 1 with fail
  rw [← hwa]
  clear hwa
  have xz := HX.out.lt
  have xa := HX.out.at_
  go_wp2_with (refine wpList_load_mid rfl 43 _ rfl W.heap.size 0 rfl [.slice (some ⟨p0, 0, none⟩) K.tms.length K.tms.length, .slice (some ⟨p1, 0, none⟩) K.grs.length K.grs.length] _ xa Try.underlying43 rfl (by kernel_rfl) ?_)
  refine HC.out.mono ?_
  rintro e w1 ⟨rfl, hb⟩
  replace HB := uh (blw_trans HB.out hb)
  replace HX := uh (HX.out.later hb)
  replace HO := uh (HO.out.later hb)
  clear hb xz xa HC
  cases hok : houseOk K
  · have HE : Hid (firstD K = [.i 0, .i 0, .i 0, .row 0 [], .row 0 [], .row 0 [], .row 0 [], .i 0, .row 0 [], .row 0 [], .row 0 []]) := by show _ = _; unfold firstD; rw [hok]; rfl
    have hth : w1.there (W.heap.size + 1) 0 (#[.int .i64 0, .int .i64 0, .int .i64 0, .slice none 0 0, .slice none 0 0, .slice none 0 0, .slice none 0 0, .int .i64 0, .slice none 0 0, .slice none 0 0, .slice none 0 0] : Array Value).size := uthere HO.out _ _ (by simp)
    obtain ⟨we, hwe⟩ : ∃ we, we = w1.setCells (W.heap.size + 1) 0 [.int .i64 0, .int .i64 0, .int .i64 0, .slice none 0 0, .slice none 0 0, .slice none 0 0, .slice none 0 0, .int .i64 0, .slice none 0 0, .slice none 0 0, .slice none 0 0] := ⟨_, rfl⟩
    have hrt : we.rangeAt (W.heap.size + 1) 0 [.int .i64 0, .int .i64 0, .int .i64 0, .slice none 0 0, .slice none 0 0, .slice none 0 0, .slice none 0 0, .int .i64 0, .slice none 0 0, .slice none 0 0, .slice none 0 0] := by rw [hwe]; exact World.rangeAt_setCells_same _ _ _ _ hth
    have HMK : Hid (Marks (fun b => b = W.heap.size + 1) w1 we) := by show Marks _ _ _; rw [hwe]; exact mks_scs (S := fun b => b = W.heap.size + 1) rfl _ _ _
    have HBB : Hid (Below W.heap.size W we) := by show Below _ _ _; rw [hwe]; exact blw_scs (by omega) _ _ _ HB.out
    go_wp2_with (refine wpList_store_mid rfl 39 _ _ rfl (W.heap.size + 1) 0 #[.int .i64 0, .int .i64 0, .int .i64 0, .slice none 0 0, .slice none 0 0, .slice none 0 0, .slice none 0 0, .int .i64 0, .slice none 0 0, .slice none 0 0, .slice none 0 0] rfl rfl hth (by kernel_rfl) (by simp [Value.oneCell']) ?_)
    first | rw [← hwe] | (simp only [List.toList_toArray]; rw [← hwe])
    try simp only [Act.put]
    refine bodyPost_ret (v := .agg #[.int .i64 0, .int .i64 0, .int .i64 0, .slice none 0 0, .slice none 0 0, .slice none 0 0, .slice none 0 0, .int .i64 0, .slice none 0 0, .slice none 0 0, .slice none 0 0]) (by simp [results, Try.results5, asAddr, run_loadVar_mid (P := Try.prog) _ _ _ 39 [.int .i64 0, .int .i64 0, .int .i64 0, .slice none 0 0, .slice none 0 0, .slice none 0 0, .slice none 0 0, .int .i64 0, .slice none 0 0, .slice none 0 0, .slice none 0 0] _ hrt Try.underlying39 rfl (by kernel_rfl)]) rfl ?_
    have hnil : ∀ (t : TypeId) (sh : List Sh), Rep we false [.row t sh] [] [.row 0 []] [.slice none 0 0] := fun t sh => .emp _ _ _ rfl .nil
    rw [HE.out]
    refine ⟨[.int .i64 0, .int .i64 0, .int .i64 0, .slice none 0 0, .slice none 0 0, .slice none 0 0, .slice none 0 0, .int .i64 0, .slice none 0 0, .slice none 0 0, .slice none 0 0], _, rfl, repHallBook_mk _ _ _ (hnil _ _) (hnil _ _) (hnil _ _) (hnil _ _) _ (hnil _ _) (hnil _ _) (hnil _ _), by simp, fun b hb => ?_, HBB.out⟩
    simp at hb
  · have HE : Hid (firstD K = [.i (K.grs.length : Int), .i 0, .i (K.grs.length : Int), .row 0 [], .row K.grs.length (K.grs.flatMap eGn), .row 0 [], .row 0 [], .i 0, .row 0 [], .row 0 [], .row 0 []]) := by show _ = _; unfold firstD; rw [hok]; rfl
    have xz := HX.out.lt
    have x1 := HX.out.get 1 _ rfl
    have HZ : Hid (W.heap.size + 1 < w1.heap.size) := HO.out.lt
    go_wp2_with fail
    refine (l5CopyG (K.grs.length : Int) 0 (K.grs.length : Int) K.grs p1 w1 (HG.out.later HB.out)).mono ?_
    rintro e w2 ⟨cc, FF, rfl, rep, nd, fr, hb⟩
    obtain ⟨G3, v3, G4, v4, G5, v5, G6, v6, hFF, rfl, r3, r4, r5, r6⟩ := repGateBook rep
    obtain ⟨a3, m3, e3⟩ := r3.raw.len0
    obtain ⟨a4, m4, e4⟩ := r4.raw.len0
    obtain ⟨a5, m5, e5⟩ := r5.raw.len0
    obtain ⟨a6, m6, e6⟩ := r6.raw.len0
    subst e3
    subst e4
    subst e5
    subst e6
    have HND : Hid ((G3 ++ (G4 ++ (G5 ++ (G6 ++ [])))).Nodup ∧ ∀ b ∈ G3 ++ (G4 ++ (G5 ++ (G6 ++ []))), w1.heap.size ≤ b) := by rw [hFF] at nd fr; exact ⟨nd, fr⟩
    have R3 := uh r3
    have R4 := uh r4
    have R5 := uh r5
    have R6 := uh r6
    replace HB := uh (blw_trans HB.out hb)
    replace HO := uh (HO.out.later hb)
    clear rep nd fr r3 r4 r5 r6 hFF
    clear xz x1
    have hth : w2.there (W.heap.size + 1) 0 (#[.int .i64 (K.grs.length : Int), .int .i64 0, .int .i64 (K.grs.length : Int), .slice a3 0 m3, .slice a4 K.grs.length m4, .slice a5 0 m5, .slice a6 0 m6, .int .i64 0, .slice none 0 0, .slice none 0 0, .slice none 0 0] : Array Value).size := uthere HO.out _ _ (by simp)
    obtain ⟨we, hwe⟩ : ∃ we, we = w2.setCells (W.heap.size + 1) 0 [.int .i64 (K.grs.length : Int), .int .i64 0, .int .i64 (K.grs.length : Int), .slice a3 0 m3, .slice a4 K.grs.length m4, .slice a5 0 m5, .slice a6 0 m6, .int .i64 0, .slice none 0 0, .slice none 0 0, .slice none 0 0] := ⟨_, rfl⟩
    have hrt : we.rangeAt (W.heap.size + 1) 0 [.int .i64 (K.grs.length : Int), .int .i64 0, .int .i64 (K.grs.length : Int), .slice a3 0 m3, .slice a4 K.grs.length m4, .slice a5 0 m5, .slice a6 0 m6, .int .i64 0, .slice none 0 0, .slice none 0 0, .slice none 0 0] := by rw [hwe]; exact World.rangeAt_setCells_same _ _ _ _ hth
    have HMK : Hid (Marks (fun b => b = W.heap.size + 1) w2 we) := by show Marks _ _ _; rw [hwe]; exact mks_scs (S := fun b => b = W.heap.size + 1) rfl _ _ _
    have HBB : Hid (Below W.heap.size W we) := by show Below _ _ _; rw [hwe]; exact blw_scs (by omega) _ _ _ HB.out
    go_wp2_with (refine wpList_store_mid rfl 39 _ _ rfl (W.heap.size + 1) 0 #[.int .i64 (K.grs.length : Int), .int .i64 0, .int .i64 (K.grs.length : Int), .slice a3 0 m3, .slice a4 K.grs.length m4, .slice a5 0 m5, .slice a6 0 m6, .int .i64 0, .slice none 0 0, .slice none 0 0, .slice none 0 0] rfl rfl hth (by kernel_rfl) (by simp [Value.oneCell']) ?_)
    first | rw [← hwe] | (simp only [List.toList_toArray]; rw [← hwe])
    try simp only [Act.put]
    refine bodyPost_ret (v := .agg #[.int .i64 (K.grs.length : Int), .int .i64 0, .int .i64 (K.grs.length : Int), .slice a3 0 m3, .slice a4 K.grs.length m4, .slice a5 0 m5, .slice a6 0 m6, .int .i64 0, .slice none 0 0, .slice none 0 0, .slice none 0 0]) (by simp [results, Try.results5, asAddr, run_loadVar_mid (P := Try.prog) _ _ _ 39 [.int .i64 (K.grs.length : Int), .int .i64 0, .int .i64 (K.grs.length : Int), .slice a3 0 m3, .slice a4 K.grs.length m4, .slice a5 0 m5, .slice a6 0 m6, .int .i64 0, .slice none 0 0, .slice none 0 0, .slice none 0 0] _ hrt Try.underlying39 rfl (by kernel_rfl)]) rfl ?_
    have hnil : ∀ (t : TypeId) (sh : List Sh), Rep we false [.row t sh] [] [.row 0 []] [.slice none 0 0] := fun t sh => .emp _ _ _ rfl .nil
    rw [HE.out]
    refine ⟨[.int .i64 (K.grs.length : Int), .int .i64 0, .int .i64 (K.grs.length : Int), .slice a3 0 m3, .slice a4 K.grs.length m4, .slice a5 0 m5, .slice a6 0 m6, .int .i64 0, .slice none 0 0, .slice none 0 0, .slice none 0 0], _, rfl, repHallBook_mk _ _ _ (R3.out.keep HMK.out (fun b hb e => by have := HND.out.2 b (by simp [hb]); have := HZ.out; omega)) (R4.out.keep HMK.out (fun b hb e => by have := HND.out.2 b (by simp [hb]); have := HZ.out; omega)) (R5.out.keep HMK.out (fun b hb e => by have := HND.out.2 b (by simp [hb]); have := HZ.out; omega)) (R6.out.keep HMK.out (fun b hb e => by have := HND.out.2 b (by simp [hb]); have := HZ.out; omega)) _ (hnil _ _) (hnil _ _) (hnil _ _), by simpa using HND.out.1, fun b hb => ?_, HBB.out⟩
    have hb2 := HND.out.2 b (by simpa using hb)
    have := HZ.out; omega
end Go.Proofs.Ytkehaeppnmlafaa
