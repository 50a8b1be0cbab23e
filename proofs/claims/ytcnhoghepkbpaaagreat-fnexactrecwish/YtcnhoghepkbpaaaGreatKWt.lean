/-
  RecWish by the specification.
-/
import Derived.Test.YtcnhoghepkbpaaaGreatKWp
import Derived.Test.YtcnhoghepkbpaaaGreatKCx
import Derived.Test.YtcnhoghepkbpaaaGreatKCc
import Derived.Test.YtcnhoghepkbpaaaGreatRvC
namespace Go.Proofs.YtcnhoghepkbpaaaGreat
open Go.RowKit Go.Deep

set_option maxRecDepth 8000 in
set_option maxHeartbeats 4000000 in
theorem l23HasS (l : List Rs) (kn : Nat) (x : Tx) (a : Option Addr) (c : Nat) (w : World) (h : RssV w a l) (hk : kn ≤ l.length) (hl : l.length ≤ 1048576) :
    Calls Tryz.prog 61 #[.slice a kn c, .string x] w fun e w' => e = .returned (.bool (hasSl l kn x)) ∧ w = w' := by
  have HL := uh h
  have HK := uh (And.intro hk hl)
  have hkn : kn ≤ 1048576 := by omega
  clear h hk hl
  go_enter Tryz.func61, Tryz.ntmps61
  go_wp2
  go_loopw [5] (fun i wr => ∃ k : Nat, k ≤ kn ∧ i = .int .i64 k ∧ (∀ j, j < k → (!(decide (0 < (l.getD j Rs.none).bal) && same (l.getD j Rs.none).txt x)) = true) ∧ wr = w) (fun i _ => kn - (intOf i).toNat)
  case atStart => exact ⟨0, Nat.zero_le _, rfl, fun j hj => absurd hj (Nat.not_lt_zero j), rfl⟩
  case round =>
    obtain ⟨k, hk, rfl, hall, hW⟩ := hrel
    subst hW
    have HA := uh hall
    clear hall
    by_cases hlt : k < kn
    · obtain ⟨b1, off1, ha1, hbl1, e0, e1, _⟩ := HL.out.at_ k (by have := HK.out; omega)
      subst ha1
      obtain ⟨y, hy⟩ : ∃ y : ByteArray, y = (l.getD k Rs.none).txt := ⟨_, rfl⟩
      obtain ⟨bl, hbl⟩ : ∃ bl, bl = (l.getD k Rs.none).bal := ⟨_, rfl⟩
      rw [← hy] at e1
      rw [← hbl] at e0
      have HY := uh (And.intro hy hbl)
      clear hy hbl
      have hm0 : (0 : Int) ≤ (k : Int) := by omega
      have hm3 : (k : Int) < (kn : Int) := by omega
      have HS : Hid (∀ B : Bool, (decide (0 < bl) && (y.toList == x.toList)) = B → ((!(decide (0 < (l.getD k Rs.none).bal) && same (l.getD k Rs.none).txt x)) = !B)) := fun B hB => by
        rw [← HY.out.1, ← HY.out.2]; unfold same; rw [hB]
      cases h1 : decide (0 < bl)
      · have h1' : ¬ 0 < bl := of_decide_eq_false h1
        have HN : Hid (∀ j, j < k + 1 → (!(decide (0 < (l.getD j Rs.none).bal) && same (l.getD j Rs.none).txt x)) = true) := fun j hj => by
          by_cases e : j = k
          · subst e; rw [HS.out false (by rw [h1]; rfl)]; rfl
          · exact HA.out j (by omega)
        go_wp2
        go_roundw
        case rel => exact ⟨k + 1, by omega, by go_num, HN.out, by first | rfl | trivial⟩
        case measure => simp [intOf]; omega
      · have h1' : 0 < bl := of_decide_eq_true h1
        cases hd : (y.toList == x.toList)
        · have HN : Hid (∀ j, j < k + 1 → (!(decide (0 < (l.getD j Rs.none).bal) && same (l.getD j Rs.none).txt x)) = true) := fun j hj => by
            by_cases e : j = k
            · subst e; rw [HS.out false (by rw [h1, hd]; rfl)]; rfl
            · exact HA.out j (by omega)
          go_wp2
          go_roundw
          case rel => exact ⟨k + 1, by omega, by go_num, HN.out, by first | rfl | trivial⟩
          case measure => simp [intOf]; omega
        · have HN : Hid (hasSl l kn x = true) := by
            show _ = _
            unfold hasSl
            rw [allTo_false (k := k) (by rw [HS.out true (by rw [h1, hd]; rfl)]; rfl) _ hlt]; rfl
          go_wp2
          go_ret
          exact ⟨Pl.ret_bool HN.out.symm, rfl⟩
    · obtain rfl : k = kn := by omega
      have HN : Hid (hasSl l k x = false) := by
        show _ = _
        unfold hasSl
        rw [(allTo_iff _ _).2 HA.out]; rfl
      go_wp2
      go_ret
      exact ⟨Pl.ret_bool HN.out.symm, rfl⟩
end Go.Proofs.YtcnhoghepkbpaaaGreat

namespace Go.Proofs.YtcnhoghepkbpaaaGreat
open Go.RowKit Go.Deep

set_option maxRecDepth 8000 in
set_option maxHeartbeats 16000000 in
theorem l23WishS (K : Rr) (x : Tx) (base : World) (F : List Nat) (cs : List Value) (W : World) (h : Rep W false shRecorder F (eRr K) cs) (hnd : F.Nodup) (hF : ∀ b ∈ F, base.heap.size ≤ b) (hbs : Below base.heap.size base W) (hw : wtL (eRr K) ≤ 1048576) (hx : x.size ≤ 1048576) (hok : recOk K = true) :
    Calls Tryz.prog 19 #[.agg cs.toArray, .string x] W fun e w' => ∃ cs', e = .returned (.agg cs'.toArray) ∧ Raw w' shRecorder (eRr (wishK K x)) cs' ∧ Below base.heap.size base w' := by
  obtain ⟨kn, hk1, hk2, hk3⟩ := disk_facts (rec_disk hok).2
  have HHE := uh (has_eq (rec_disk hok).2 hk1 hk2 x)
  have HRW := uh h.raw
  have HBS := uh hbs
  have HON := uh (all_oneCell_toArray h.raw.one)
  have HLC : Hid (cs.length = 18) := h.len
  have HLT := uh h.lt
  have h2 : Rep W false shRecorder F [.i K.num, .i K.of_, .b K.up, .i K.safe.prom, .i K.safe.known, .row K.safe.slots.length (K.safe.slots.flatMap eRs), .i K.disk.prom, .i K.disk.known, .row K.disk.slots.length (K.disk.slots.flatMap eRs), .row K.held.length (K.held.flatMap eRm), .row K.wish.length (K.wish.flatMap eTx), .b K.lead, .b K.try_, .i K.bal, .row K.yes.length (K.yes.flatMap eNu), .row K.best.length (K.best.flatMap eRs), .row K.acks.length (K.acks.flatMap eRa), .i K.heard] cs := h
  obtain ⟨F5, v5, F8, v8, F9, v9, F10, v10, F14, v14, F15, v15, F16, v16, hFF, hcs, r5, r8, r9, r10, r14, r15, r16⟩ := repRecorder h2
  subst hFF
  have HCS := uh hcs
  obtain ⟨nd5, ndr5, dj5⟩ := nd_app hnd
  have DJ5 := uh dj5
  obtain ⟨nd8, ndr8, dj8⟩ := nd_app ndr5
  have DJ8 := uh dj8
  obtain ⟨nd9, ndr9, dj9⟩ := nd_app ndr8
  have DJ9 := uh dj9
  obtain ⟨nd10, ndr10, dj10⟩ := nd_app ndr9
  have DJ10 := uh dj10
  obtain ⟨nd14, ndr14, dj14⟩ := nd_app ndr10
  have DJ14 := uh dj14
  obtain ⟨nd15, ndr15, dj15⟩ := nd_app ndr14
  have DJ15 := uh dj15
  obtain ⟨nd16, ndr16, dj16⟩ := nd_app ndr15
  have DJ16 := uh dj16
  have ND10 := uh nd10
  have R5 := uh r5
  have R8 := uh r8
  have R9 := uh r9
  have R10 := uh r10
  have R14 := uh r14
  have R15 := uh r15
  have R16 := uh r16
  have HF := uh hF
  simp only [eRr, eRd, wtL, wtL_app] at hw
  have HW := uh hw
  obtain ⟨a8, c8, q8, k8, V8⟩ := vRs r8.raw (by omega)
  obtain ⟨a10, c10, q10, k10, V10⟩ := vTx r10.raw (by omega)
  subst q8
  subst q10
  have HV8 := uh V8
  have HV10 := uh V10
  have hl8 : K.disk.slots.length ≤ 120 := hk3
  have HKN := uh (And.intro hk2 k8)
  clear h h2 hnd hbs hF hw V8 V10 nd5 ndr5 dj5 r5 nd8 ndr8 dj8 r8 nd9 ndr9 dj9 r9 nd10 ndr10 dj10 r10 nd14 ndr14 dj14 r14 nd15 ndr15 dj15 r15 nd16 ndr16 dj16 r16
  obtain ⟨wa, hwa⟩ : ∃ wa, wa = (W.alloc (.cells cs.toArray 38)).alloc (.cells #[.int .i64 0, .int .i64 0, .bool false, .int .i64 0, .int .i64 0, .slice none 0 0, .int .i64 0, .int .i64 0, .slice none 0 0, .slice none 0 0, .slice none 0 0, .bool false, .bool false, .int .i64 0, .slice none 0 0, .slice none 0 0, .slice none 0 0, .int .i64 0] 38) := ⟨_, rfl⟩
  have HB : Hid (Below W.heap.size W wa) := by show Below _ _ _; rw [hwa]; exact blw_alloc (blw_alloc (Below.refl _ _) _) _
  have HX : Hid (WBox wa W.heap.size 38 cs) := by show WBox _ _ _ _; rw [hwa]; exact (WBox.new W cs _ _ rfl).later (blw_alloc (Below.refl _ _) _)
  have HRS : Hid (OwnBlk wa (W.heap.size + 1) 38 18) := by show OwnBlk _ _ _ _; rw [hwa]; exact OwnBlk.alloc_at3 _ _ _ _ _ rfl (by simp)
  have g7 : wa.cell? ⟨W.heap.size, 7, none⟩ = some (.int .i64 (kn : Int)) := HX.out.get 7 _ (by rw [HCS.out, ← hk1]; rfl)
  have g8 : wa.cell? ⟨W.heap.size, 8, none⟩ = some (.slice a8 K.disk.slots.length c8) := HX.out.get 8 _ (by rw [HCS.out]; rfl)
  have g10 : wa.cell? ⟨W.heap.size, 10, none⟩ = some (.slice a10 K.wish.length c10) := HX.out.get 10 _ (by rw [HCS.out]; rfl)
  have hz := HX.out.own.lt
  have hrz := HRS.out.lt
  have hcc : (kn : Int) ≤ (c8 : Int) := by have := HKN.out; omega
  have hkk : (0 : Int) ≤ (kn : Int) := by omega
  clear hk1 hcs
  go_enter Tryz.func19, Tryz.ntmps19
  go_upto_region 1 with fail
  rw [← hwa]
  clear hwa
  by_cases h1 : (x.size : Int) < 1
  · have HQ : Hid (wishB K x = false) := by show _ = _; unfold wishB; rw [show decide (1 ≤ x.size) = false from decide_eq_false (by omega)]; rfl
    have hth : wa.there (W.heap.size + 1) 0 cs.toArray.size := uthere HRS.out _ _ (by rw [List.size_toArray, HLC.out]; omega)
    have ha := HX.out.at_
    obtain ⟨we, hwe⟩ : ∃ we, we = wa.setCells (W.heap.size + 1) 0 cs := ⟨_, rfl⟩
    have hrt : we.rangeAt (W.heap.size + 1) 0 cs := by rw [hwe]; exact World.rangeAt_setCells_same _ _ _ _ (by simpa using hth)
    have HBE : Hid (Below W.heap.size W we) := by show Below _ _ _; rw [hwe]; exact blw_scs (by omega) _ _ _ HB.out
    go_upto_region 2 with fail
    refine wp_region_lit ?_
    refine wpList_load_mid rfl 38 _ rfl W.heap.size 0 rfl cs _ ha Tryz.underlying38 rfl (by rw [HLC.out]; kernel_rfl) ?_
    refine wpList_store_mid rfl 38 _ _ rfl (W.heap.size + 1) 0 cs.toArray rfl rfl hth (by rw [List.size_toArray, HLC.out]; kernel_rfl) HON.out ?_
    simp only [Act.put, List.setIfInBounds_toArray, List.set_cons_zero, List.set_cons_succ]
    first | rw [← hwe] | (simp only [List.toList_toArray]; rw [← hwe])
    clear hwe hth ha
    go_wp2
    refine bodyPost_ret (v := .agg cs.toArray) (by simp [results, Tryz.results19, asAddr, run_loadVar_mid (P := Tryz.prog) _ _ _ 38 cs _ hrt Tryz.underlying38 rfl (by rw [HLC.out]; kernel_rfl)]) rfl ⟨cs, rfl, ?_, blw_trans HBS.out HBE.out⟩
    have e : wishK K x = K := by unfold wishK; rw [if_neg (by rw [HQ.out]; decide)]
    rw [e]
    exact HRW.out.later HBE.out
  by_cases h2 : 160 < (x.size : Int)
  · have HQ : Hid (wishB K x = false) := by show _ = _; unfold wishB; rw [show decide (x.size ≤ 160) = false from decide_eq_false (by omega)]; simp
    have hth : wa.there (W.heap.size + 1) 0 cs.toArray.size := uthere HRS.out _ _ (by rw [List.size_toArray, HLC.out]; omega)
    have ha := HX.out.at_
    obtain ⟨we, hwe⟩ : ∃ we, we = wa.setCells (W.heap.size + 1) 0 cs := ⟨_, rfl⟩
    have hrt : we.rangeAt (W.heap.size + 1) 0 cs := by rw [hwe]; exact World.rangeAt_setCells_same _ _ _ _ (by simpa using hth)
    have HBE : Hid (Below W.heap.size W we) := by show Below _ _ _; rw [hwe]; exact blw_scs (by omega) _ _ _ HB.out
    go_upto_region 2 with fail
    refine wp_region_lit ?_
    refine wpList_load_mid rfl 38 _ rfl W.heap.size 0 rfl cs _ ha Tryz.underlying38 rfl (by rw [HLC.out]; kernel_rfl) ?_
    refine wpList_store_mid rfl 38 _ _ rfl (W.heap.size + 1) 0 cs.toArray rfl rfl hth (by rw [List.size_toArray, HLC.out]; kernel_rfl) HON.out ?_
    simp only [Act.put, List.setIfInBounds_toArray, List.set_cons_zero, List.set_cons_succ]
    first | rw [← hwe] | (simp only [List.toList_toArray]; rw [← hwe])
    clear hwe hth ha
    go_wp2
    refine bodyPost_ret (v := .agg cs.toArray) (by simp [results, Tryz.results19, asAddr, run_loadVar_mid (P := Tryz.prog) _ _ _ 38 cs _ hrt Tryz.underlying38 rfl (by rw [HLC.out]; kernel_rfl)]) rfl ⟨cs, rfl, ?_, blw_trans HBS.out HBE.out⟩
    have e : wishK K x = K := by unfold wishK; rw [if_neg (by rw [HQ.out]; decide)]
    rw [e]
    exact HRW.out.later HBE.out
  by_cases h3 : 20 ≤ (K.wish.length : Int)
  · have HQ : Hid (wishB K x = false) := by show _ = _; unfold wishB; rw [show decide (K.wish.length < 20) = false from decide_eq_false (by omega)]; simp
    have hth : wa.there (W.heap.size + 1) 0 cs.toArray.size := uthere HRS.out _ _ (by rw [List.size_toArray, HLC.out]; omega)
    have ha := HX.out.at_
    obtain ⟨we, hwe⟩ : ∃ we, we = wa.setCells (W.heap.size + 1) 0 cs := ⟨_, rfl⟩
    have hrt : we.rangeAt (W.heap.size + 1) 0 cs := by rw [hwe]; exact World.rangeAt_setCells_same _ _ _ _ (by simpa using hth)
    have HBE : Hid (Below W.heap.size W we) := by show Below _ _ _; rw [hwe]; exact blw_scs (by omega) _ _ _ HB.out
    go_upto_region 2 with fail
    refine wp_region_lit ?_
    refine wpList_load_mid rfl 38 _ rfl W.heap.size 0 rfl cs _ ha Tryz.underlying38 rfl (by rw [HLC.out]; kernel_rfl) ?_
    refine wpList_store_mid rfl 38 _ _ rfl (W.heap.size + 1) 0 cs.toArray rfl rfl hth (by rw [List.size_toArray, HLC.out]; kernel_rfl) HON.out ?_
    simp only [Act.put, List.setIfInBounds_toArray, List.set_cons_zero, List.set_cons_succ]
    first | rw [← hwe] | (simp only [List.toList_toArray]; rw [← hwe])
    clear hwe hth ha
    go_wp2
    refine bodyPost_ret (v := .agg cs.toArray) (by simp [results, Tryz.results19, asAddr, run_loadVar_mid (P := Tryz.prog) _ _ _ 38 cs _ hrt Tryz.underlying38 rfl (by rw [HLC.out]; kernel_rfl)]) rfl ⟨cs, rfl, ?_, blw_trans HBS.out HBE.out⟩
    have e : wishK K x = K := by unfold wishK; rw [if_neg (by rw [HQ.out]; decide)]
    rw [e]
    exact HRW.out.later HBE.out
  have HC := uh (l23HasS K.disk.slots kn x a8 c8 wa (HV8.out.later HB.out) hk2 (by omega))
  obtain ⟨H, hH⟩ : ∃ H, H = hasSl K.disk.slots kn x := ⟨_, rfl⟩
  rw [← hH] at HC HHE
  clear hH
  rcases (Bool.eq_false_or_eq_true H) with hHH | hHH
  · subst hHH
    have HQ : Hid (wishB K x = false) := by show _ = _; unfold wishB; rw [← HHE.out]; simp
    have hth : wa.there (W.heap.size + 1) 0 cs.toArray.size := uthere HRS.out _ _ (by rw [List.size_toArray, HLC.out]; omega)
    have ha := HX.out.at_
    obtain ⟨we, hwe⟩ : ∃ we, we = wa.setCells (W.heap.size + 1) 0 cs := ⟨_, rfl⟩
    have hrt : we.rangeAt (W.heap.size + 1) 0 cs := by rw [hwe]; exact World.rangeAt_setCells_same _ _ _ _ (by simpa using hth)
    have HBE : Hid (Below W.heap.size W we) := by show Below _ _ _; rw [hwe]; exact blw_scs (by omega) _ _ _ HB.out
    go_upto_region 2 with (go_at_call 61; refine HC.out.mono ?_; rintro e w2 ⟨rfl, rfl⟩)
    refine wp_region_lit ?_
    refine wpList_load_mid rfl 38 _ rfl W.heap.size 0 rfl cs _ ha Tryz.underlying38 rfl (by rw [HLC.out]; kernel_rfl) ?_
    refine wpList_store_mid rfl 38 _ _ rfl (W.heap.size + 1) 0 cs.toArray rfl rfl hth (by rw [List.size_toArray, HLC.out]; kernel_rfl) HON.out ?_
    simp only [Act.put, List.setIfInBounds_toArray, List.set_cons_zero, List.set_cons_succ]
    first | rw [← hwe] | (simp only [List.toList_toArray]; rw [← hwe])
    clear hwe hth ha
    go_wp2
    refine bodyPost_ret (v := .agg cs.toArray) (by simp [results, Tryz.results19, asAddr, run_loadVar_mid (P := Tryz.prog) _ _ _ 38 cs _ hrt Tryz.underlying38 rfl (by rw [HLC.out]; kernel_rfl)]) rfl ⟨cs, rfl, ?_, blw_trans HBS.out HBE.out⟩
    have e : wishK K x = K := by unfold wishK; rw [if_neg (by rw [HQ.out]; decide)]
    rw [e]
    exact HRW.out.later HBE.out
  subst hHH
  go_upto_region 3 with (go_at_call 61; refine HC.out.mono ?_; rintro e w2 ⟨rfl, rfl⟩)
  go_wp2
  go_loopw [5] (fun i wr => ∃ k : Nat, k ≤ K.wish.length ∧ i = .int .i64 k ∧ (∀ j, j < k → (!same (K.wish.getD j ByteArray.empty) x) = true) ∧ wr = wa) (fun i _ => K.wish.length - (intOf i).toNat)
  case atStart => exact ⟨0, Nat.zero_le _, rfl, fun j hj => absurd hj (Nat.not_lt_zero j), rfl⟩
  case round =>
    obtain ⟨k, hk, rfl, hall, hWW⟩ := hrel
    replace hWW := hWW.symm
    subst hWW
    have HA := uh hall
    clear hall
    by_cases hlt : k < K.wish.length
    · obtain ⟨b1, off1, ha1, hbl1, e0, _⟩ := (HV10.out.later HB.out).at_ k hlt
      subst ha1
      obtain ⟨y, hy⟩ : ∃ y : ByteArray, y = K.wish.getD k ByteArray.empty := ⟨_, rfl⟩
      rw [← hy] at e0
      have HY := uh hy
      clear hy
      have hm0 : (0 : Int) ≤ (k : Int) := by omega
      have hm3 : (k : Int) < (K.wish.length : Int) := by omega
      cases hd : (y.toList == x.toList)
      · have HN : Hid (∀ j, j < k + 1 → (!same (K.wish.getD j ByteArray.empty) x) = true) := fun j hj => by
          by_cases e : j = k
          · subst e; rw [← HY.out]; unfold same; rw [hd]; rfl
          · exact HA.out j (by omega)
        go_wp2
        go_roundw
        case rel => exact ⟨k + 1, by omega, by go_num, HN.out, by first | rfl | trivial⟩
        case measure => simp [intOf]; omega
      · have HQ : Hid (wishB K x = false) := by
          show _ = _; unfold wishB hasT; rw [allTo_false (p := fun i => !same (K.wish.getD i ByteArray.empty) x) (k := k) (by rw [← HY.out]; unfold same; rw [hd]; rfl) _ hlt]; simp
        have hth : wa.there (W.heap.size + 1) 0 cs.toArray.size := uthere HRS.out _ _ (by rw [List.size_toArray, HLC.out]; omega)
        have ha := HX.out.at_
        obtain ⟨we, hwe⟩ : ∃ we, we = wa.setCells (W.heap.size + 1) 0 cs := ⟨_, rfl⟩
        have hrt : we.rangeAt (W.heap.size + 1) 0 cs := by rw [hwe]; exact World.rangeAt_setCells_same _ _ _ _ (by simpa using hth)
        have HBE : Hid (Below W.heap.size W we) := by show Below _ _ _; rw [hwe]; exact blw_scs (by omega) _ _ _ HB.out
        go_upto_region 7 with fail
        refine wp_region_lit ?_
        refine wpList_load_mid rfl 38 _ rfl W.heap.size 0 rfl cs _ ha Tryz.underlying38 rfl (by rw [HLC.out]; kernel_rfl) ?_
        refine wpList_store_mid rfl 38 _ _ rfl (W.heap.size + 1) 0 cs.toArray rfl rfl hth (by rw [List.size_toArray, HLC.out]; kernel_rfl) HON.out ?_
        simp only [Act.put, List.setIfInBounds_toArray, List.set_cons_zero, List.set_cons_succ]
        first | rw [← hwe] | (simp only [List.toList_toArray]; rw [← hwe])
        clear hwe hth ha
        go_wp2
        refine bodyPost_ret (v := .agg cs.toArray) (by simp [results, Tryz.results19, asAddr, run_loadVar_mid (P := Tryz.prog) _ _ _ 38 cs _ hrt Tryz.underlying38 rfl (by rw [HLC.out]; kernel_rfl)]) rfl ⟨cs, rfl, ?_, blw_trans HBS.out HBE.out⟩
        have e : wishK K x = K := by unfold wishK; rw [if_neg (by rw [HQ.out]; decide)]
        rw [e]
        exact HRW.out.later HBE.out
    · obtain rfl : k = K.wish.length := by omega
      have HQ : Hid (wishB K x = true) := by
        show _ = _; unfold wishB; rw [← HHE.out]; unfold hasT; rw [(allTo_iff _ _).2 HA.out]
        rw [show decide (1 ≤ x.size) = true from decide_eq_true (by omega), show decide (x.size ≤ 160) = true from decide_eq_true (by omega), show decide (K.wish.length < 20) = true from decide_eq_true (by omega)]; rfl
      obtain ⟨wb, hwb⟩ : ∃ wb, wb = wa.alloc (.cells #[.string x] 9) := ⟨_, rfl⟩
      have HBb : Hid (Below wa.heap.size wa wb) := by show Below _ _ _; rw [hwb]; exact blw_alloc (Below.refl _ _) _
      obtain ⟨v', x3, F3, row, hrun, rep, nd, hsub, hgr, hrow⟩ := rep_append (P := Tryz.prog) 26 26 9 1 16 _ Tryz.cunderT1 Tryz.cinfoT1 rfl (by decide) [.s] rfl wb ((R10.out.later HB.out).later HBb.out) ND10.out (by omega) (F' := []) (d := eTx x) (c' := [.string x]) ⟨wa.heap.size, 0, none⟩ (.s x .nil) List.nodup_nil (by simp) (by rw [hwb]; exact news_new wa #[.string x] 9)
      obtain ⟨wx, wc, hvx⟩ := rep.raw.len0
      subst hvx
      rw [hwb] at hrun
      clear hwb
      have HLR : Hid (∀ b, row = some b → b ∈ F10 ∧ b < W.heap.size) := fun b hb => ⟨hrow b hb, HLT.out b (by simp [hrow b hb])⟩
      have HX3 : Hid (WBox x3 W.heap.size 38 cs) := (HX.out.later HBb.out).grown hgr (fun e => by have := (HLR.out _ e).2; omega)
      have HRS3 : Hid (OwnBlk x3 (W.heap.size + 1) 38 18) := (HRS.out.later HBb.out).grown hgr (fun e => by have := (HLR.out _ e).2; omega)
      have HB3 : Hid (Below base.heap.size base x3) := blw_grown (blw_trans (blw_trans HBS.out HB.out) HBb.out) hgr (fun b hb => HF.out b (by simp [hrow b hb]))
      have HBW := uh HBS.out.size
      have S5 := uh (((R5.out.later HB.out).later HBb.out).grown hgr (fun b hb e => DJ5.out b hb (by simp [(HLR.out b e).1])))
      have S8 := uh (((R8.out.later HB.out).later HBb.out).grown hgr (fun b hb e => DJ8.out b hb (by simp [(HLR.out b e).1])))
      have S9 := uh (((R9.out.later HB.out).later HBb.out).grown hgr (fun b hb e => DJ9.out b hb (by simp [(HLR.out b e).1])))
      have S14 := uh (((R14.out.later HB.out).later HBb.out).grown hgr (fun b hb e => DJ10.out b (HLR.out b e).1 (by simp [hb])))
      have S15 := uh (((R15.out.later HB.out).later HBb.out).grown hgr (fun b hb e => DJ10.out b (HLR.out b e).1 (by simp [hb])))
      have S16 := uh (((R16.out.later HB.out).later HBb.out).grown hgr (fun b hb e => DJ10.out b (HLR.out b e).1 (by simp [hb])))
      obtain ⟨y, hy⟩ : ∃ y, y = x3.setCell ⟨W.heap.size, 10, none⟩ (.slice wx (K.wish.length + 1) wc) := ⟨_, rfl⟩
      have HX4 : Hid (WBox y W.heap.size 38 [.int .i64 K.num, .int .i64 K.of_, .bool K.up, .int .i64 K.safe.prom, .int .i64 K.safe.known, v5, .int .i64 K.disk.prom, .int .i64 K.disk.known, .slice a8 K.disk.slots.length c8, v9, .slice wx (K.wish.length + 1) wc, .bool K.lead, .bool K.try_, .int .i64 K.bal, v14, v15, v16, .int .i64 K.heard]) := by
        show WBox _ _ _ _; rw [hy]; have := HX3.out.set 10 (.slice wx (K.wish.length + 1) wc) (by rw [HLC.out]; decide); rw [HCS.out] at this; exact this
      have HM : Hid (Marks (fun b => b = W.heap.size) x3 y) := by show Marks _ _ _; rw [hy]; exact Marks.sc (S := fun b => b = W.heap.size) _ rfl _ _
      have hfz := HX3.out.own.frozen
      have hz3 := HX3.out.own.lt
      obtain ⟨ux, eu⟩ := HX3.out.own.cell 10 (by rw [HLC.out]; decide)
      have HRS4 := uh (HM.out.own _ _ _ HRS3.out)
      obtain ⟨we, hwe⟩ : ∃ we, we = y.setCells (W.heap.size + 1) 0 [.int .i64 K.num, .int .i64 K.of_, .bool K.up, .int .i64 K.safe.prom, .int .i64 K.safe.known, v5, .int .i64 K.disk.prom, .int .i64 K.disk.known, .slice a8 K.disk.slots.length c8, v9, .slice wx (K.wish.length + 1) wc, .bool K.lead, .bool K.try_, .int .i64 K.bal, v14, v15, v16, .int .i64 K.heard] := ⟨_, rfl⟩
      have hth : y.there (W.heap.size + 1) 0 18 := uthere HRS4.out _ _ (by omega)
      have hrt : we.rangeAt (W.heap.size + 1) 0 [.int .i64 K.num, .int .i64 K.of_, .bool K.up, .int .i64 K.safe.prom, .int .i64 K.safe.known, v5, .int .i64 K.disk.prom, .int .i64 K.disk.known, .slice a8 K.disk.slots.length c8, v9, .slice wx (K.wish.length + 1) wc, .bool K.lead, .bool K.try_, .int .i64 K.bal, v14, v15, v16, .int .i64 K.heard] := by rw [hwe]; exact World.rangeAt_setCells_same _ _ _ _ hth
      have HM2 : Hid (Marks (fun b => b = W.heap.size + 1) y we) := by show Marks _ _ _; rw [hwe]; exact mks_scs (S := fun b => b = W.heap.size + 1) rfl _ _ _
      have HBE : Hid (Below base.heap.size base we) := HM2.out.below (fun b e => by have := HBW.out; omega) (HM.out.below (fun b e => by have := HBW.out; omega) HB3.out)
      have HZ : Hid (W.heap.size + 1 < wb.heap.size) := Nat.lt_of_lt_of_le hrz HBb.out.size
      have U5 := uh ((S5.out.keep HM.out (fun b hb e => by have := HLT.out b (by simp [hb]); omega)).keep HM2.out (fun b hb e => by have := HLT.out b (by simp [hb]); omega))
      have U8 := uh ((S8.out.keep HM.out (fun b hb e => by have := HLT.out b (by simp [hb]); omega)).keep HM2.out (fun b hb e => by have := HLT.out b (by simp [hb]); omega))
      have U9 := uh ((S9.out.keep HM.out (fun b hb e => by have := HLT.out b (by simp [hb]); omega)).keep HM2.out (fun b hb e => by have := HLT.out b (by simp [hb]); omega))
      have U10 := uh ((rep.keep HM.out (fun b hb e => by rcases hsub b hb with q | q | q; have := HLT.out b (by simp [q]); omega; cases q; have := HZ.out; omega)).keep HM2.out (fun b hb e => by rcases hsub b hb with q | q | q; have := HLT.out b (by simp [q]); omega; cases q; have := HZ.out; omega))
      have U14 := uh ((S14.out.keep HM.out (fun b hb e => by have := HLT.out b (by simp [hb]); omega)).keep HM2.out (fun b hb e => by have := HLT.out b (by simp [hb]); omega))
      have U15 := uh ((S15.out.keep HM.out (fun b hb e => by have := HLT.out b (by simp [hb]); omega)).keep HM2.out (fun b hb e => by have := HLT.out b (by simp [hb]); omega))
      have U16 := uh ((S16.out.keep HM.out (fun b hb e => by have := HLT.out b (by simp [hb]); omega)).keep HM2.out (fun b hb e => by have := HLT.out b (by simp [hb]); omega))
      have ha4 := HX4.out.at_
      clear rep nd hsub hgr hrow
      go_upto_region 9 with (at_builtin; refine Go.Lib.wpList_append_run _ rfl _ _ 26 26 rfl _ _ rfl rfl _ x3 hrun ?_)
      rw [← hy]
      clear hy hrun eu hfz hz3
      refine wp_region_lit ?_
      refine wpList_load_mid rfl 38 _ rfl W.heap.size 0 rfl [.int .i64 K.num, .int .i64 K.of_, .bool K.up, .int .i64 K.safe.prom, .int .i64 K.safe.known, v5, .int .i64 K.disk.prom, .int .i64 K.disk.known, .slice a8 K.disk.slots.length c8, v9, .slice wx (K.wish.length + 1) wc, .bool K.lead, .bool K.try_, .int .i64 K.bal, v14, v15, v16, .int .i64 K.heard] _ ha4 Tryz.underlying38 rfl (by kernel_rfl) ?_
      refine wpList_store_mid rfl 38 _ _ rfl (W.heap.size + 1) 0 ([.int .i64 K.num, .int .i64 K.of_, .bool K.up, .int .i64 K.safe.prom, .int .i64 K.safe.known, v5, .int .i64 K.disk.prom, .int .i64 K.disk.known, .slice a8 K.disk.slots.length c8, v9, .slice wx (K.wish.length + 1) wc, .bool K.lead, .bool K.try_, .int .i64 K.bal, v14, v15, v16, .int .i64 K.heard] : List Value).toArray rfl rfl hth (by kernel_rfl) (all_oneCell_toArray (rawRecorder_mk _ _ _ _ _ U5.out.raw _ _ U8.out.raw U9.out.raw U10.out.raw _ _ _ U14.out.raw U15.out.raw U16.out.raw _).one) ?_
      simp only [Act.put, List.setIfInBounds_toArray, List.set_cons_zero, List.set_cons_succ]
      rw [← hwe]
      clear hwe hth ha4
      go_wp2
      refine bodyPost_ret (v := .agg ([.int .i64 K.num, .int .i64 K.of_, .bool K.up, .int .i64 K.safe.prom, .int .i64 K.safe.known, v5, .int .i64 K.disk.prom, .int .i64 K.disk.known, .slice a8 K.disk.slots.length c8, v9, .slice wx (K.wish.length + 1) wc, .bool K.lead, .bool K.try_, .int .i64 K.bal, v14, v15, v16, .int .i64 K.heard] : List Value).toArray) (by simp [results, Tryz.results19, asAddr, run_loadVar_mid (P := Tryz.prog) _ _ _ 38 [.int .i64 K.num, .int .i64 K.of_, .bool K.up, .int .i64 K.safe.prom, .int .i64 K.safe.known, v5, .int .i64 K.disk.prom, .int .i64 K.disk.known, .slice a8 K.disk.slots.length c8, v9, .slice wx (K.wish.length + 1) wc, .bool K.lead, .bool K.try_, .int .i64 K.bal, v14, v15, v16, .int .i64 K.heard] _ hrt Tryz.underlying38 rfl (by kernel_rfl)]) rfl ⟨[.int .i64 K.num, .int .i64 K.of_, .bool K.up, .int .i64 K.safe.prom, .int .i64 K.safe.known, v5, .int .i64 K.disk.prom, .int .i64 K.disk.known, .slice a8 K.disk.slots.length c8, v9, .slice wx (K.wish.length + 1) wc, .bool K.lead, .bool K.try_, .int .i64 K.bal, v14, v15, v16, .int .i64 K.heard], rfl, ?_, HBE.out⟩
      have e : wishK K x = { K with wish := K.wish ++ [x] } := by unfold wishK; rw [if_pos HQ.out]
      rw [e]
      have hfm : (K.wish ++ [x]).flatMap eTx = K.wish.flatMap eTx ++ eTx x := fm_snoc eTx K.wish x
      have hln : (K.wish ++ [x]).length = K.wish.length + 1 := by simp
      simp only [eRr, eRd]
      rw [hfm, hln]
      exact rawRecorder_mk _ _ _ _ _ U5.out.raw _ _ U8.out.raw U9.out.raw U10.out.raw _ _ _ U14.out.raw U15.out.raw U16.out.raw _
end Go.Proofs.YtcnhoghepkbpaaaGreat

namespace Go.Proofs.YtcnhoghepkbpaaaGreat
open Go.RowKit Go.Deep

set_option maxRecDepth 8000 in
set_option maxHeartbeats 16000000 in
theorem recWishS (K : Rr) (x : Tx) (cs : List Value) (W : World) (h : Raw W shRecorder (eRr K) cs) (hw : wtL (eRr K) ≤ 1048576) (hx : x.size ≤ 1048576) :
    Calls Tryz.prog 5 #[.agg cs.toArray, .string x] W (Ans shRecorder (eRr (ansW K x)) W) := by
  obtain ⟨a0, a1, a2, a3, a4, a5, a6, c0, c1, c2, c3, c4, c5, c6, hcs, hv, hc0, hc1, hc3⟩ := vRr h hw
  have HC := uh hcs
  have HV := uh hv
  have HRW := uh h
  have HWT := uh hw
  have HCall : Hid (∀ X, Below W.heap.size W X → Calls Tryz.prog 17 #[.agg cs.toArray] X fun e w' => e = .returned (.bool (recOk K)) ∧ Below X.heap.size X w') := fun X hX => by
    rw [HC.out]; exact recValidS K a0 a1 a2 a3 a4 a5 a6 c0 c1 c2 c3 c4 c5 c6 X (HV.out.later hX)
  have HLC : Hid (cs.length = 18) := h.len
  clear h hcs hv hw
  obtain ⟨wa, hwa⟩ : ∃ wa, wa = (W.alloc (.cells cs.toArray 38)).alloc (.cells #[.int .i64 0, .int .i64 0, .bool false, .int .i64 0, .int .i64 0, .slice none 0 0, .int .i64 0, .int .i64 0, .slice none 0 0, .slice none 0 0, .slice none 0 0, .bool false, .bool false, .int .i64 0, .slice none 0 0, .slice none 0 0, .slice none 0 0, .int .i64 0] 38) := ⟨_, rfl⟩
  have HB : Hid (Below W.heap.size W wa) := by show Below _ _ _; rw [hwa]; exact blw_alloc (blw_alloc (Below.refl _ _) _) _
  have HX : Hid (LBox wa W.heap.size cs) := by show LBox _ _ _; rw [hwa]; exact (LBox.new W cs.toArray _ _ rfl).past _
  have HRS : Hid (OwnBlk wa (W.heap.size + 1) 38 18) := by show OwnBlk _ _ _ _; rw [hwa]; exact OwnBlk.alloc_at3 _ _ _ _ _ rfl (by simp)
  go_enter Tryz.func5, Tryz.ntmps5
  go_upto_region 1 with fail
  rw [← hwa]
  clear hwa
  have hz := HX.out.lt
  have ha := HX.out.at_
  go_wp2_with (refine wpList_load_mid rfl 38 _ rfl W.heap.size 0 rfl cs _ ha Tryz.underlying38 rfl (by rw [HLC.out]; kernel_rfl) ?_)
  refine (HCall.out wa HB.out).mono ?_
  rintro e w1 ⟨rfl, hb⟩
  replace HX := uh (HX.out.later hb)
  replace HRS := uh (HRS.out.later hb)
  replace HB := uh (blw_trans HB.out hb)
  clear hb hz ha HCall
  cases hok : recOk K
  · have hrz := HRS.out.lt
    have hth : w1.there (W.heap.size + 1) 0 18 := uthere HRS.out _ _ (by omega)
    obtain ⟨we, hwe⟩ : ∃ we, we = w1.setCells (W.heap.size + 1) 0 [.int .i64 0, .int .i64 0, .bool false, .int .i64 0, .int .i64 0, .slice none 0 0, .int .i64 0, .int .i64 0, .slice none 0 0, .slice none 0 0, .slice none 0 0, .bool false, .bool false, .int .i64 0, .slice none 0 0, .slice none 0 0, .slice none 0 0, .int .i64 0] := ⟨_, rfl⟩
    have hrt : we.rangeAt (W.heap.size + 1) 0 [.int .i64 0, .int .i64 0, .bool false, .int .i64 0, .int .i64 0, .slice none 0 0, .int .i64 0, .int .i64 0, .slice none 0 0, .slice none 0 0, .slice none 0 0, .bool false, .bool false, .int .i64 0, .slice none 0 0, .slice none 0 0, .slice none 0 0, .int .i64 0] := by rw [hwe]; exact World.rangeAt_setCells_same _ _ _ _ hth
    have HBE : Hid (Below W.heap.size W we) := by show Below _ _ _; rw [hwe]; exact blw_scs (by omega) _ _ _ HB.out
    have HE : Hid (ansW K x = Rr.zero) := by show _ = _; unfold ansW; rw [hok]; rfl
    go_wp2_with (refine wpList_store_mid rfl 38 _ _ rfl (W.heap.size + 1) 0 #[.int .i64 0, .int .i64 0, .bool false, .int .i64 0, .int .i64 0, .slice none 0 0, .int .i64 0, .int .i64 0, .slice none 0 0, .slice none 0 0, .slice none 0 0, .bool false, .bool false, .int .i64 0, .slice none 0 0, .slice none 0 0, .slice none 0 0, .int .i64 0] rfl rfl hth (by kernel_rfl) (by simp [Value.oneCell']) ?_)
    rw [← hwe]
    clear hwe hth hrz
    simp only [Act.put]
    refine bodyPost_ret (v := .agg #[.int .i64 0, .int .i64 0, .bool false, .int .i64 0, .int .i64 0, .slice none 0 0, .int .i64 0, .int .i64 0, .slice none 0 0, .slice none 0 0, .slice none 0 0, .bool false, .bool false, .int .i64 0, .slice none 0 0, .slice none 0 0, .slice none 0 0, .int .i64 0]) (by simp [results, Tryz.results5, asAddr, run_loadVar_mid (P := Tryz.prog) _ _ _ 38 [.int .i64 0, .int .i64 0, .bool false, .int .i64 0, .int .i64 0, .slice none 0 0, .int .i64 0, .int .i64 0, .slice none 0 0, .slice none 0 0, .slice none 0 0, .bool false, .bool false, .int .i64 0, .slice none 0 0, .slice none 0 0, .slice none 0 0, .int .i64 0] _ hrt Tryz.underlying38 rfl (by kernel_rfl)]) rfl ⟨[.int .i64 0, .int .i64 0, .bool false, .int .i64 0, .int .i64 0, .slice none 0 0, .int .i64 0, .int .i64 0, .slice none 0 0, .slice none 0 0, .slice none 0 0, .bool false, .bool false, .int .i64 0, .slice none 0 0, .slice none 0 0, .slice none 0 0, .int .i64 0], [], rfl, ?_, List.nodup_nil, by simp, HBE.out⟩
    rw [HE.out]
    exact zero_rep _ false rfl
  have hz := HX.out.lt
  have ha := HX.out.at_
  have hrz := HRS.out.lt
  have g2 := HX.out.get 2 (.bool K.up) (by rw [HC.out]; rfl)
  have HS1 : Hid (W.heap.size + 1 < w1.heap.size) := HRS.out.lt
  have HCP := uh (l22CopyC (eRr K) cs w1 (HRW.out.later HB.out) (by have := HWT.out; omega))
  rcases (Bool.eq_false_or_eq_true K.up) with hup | hup
  · rw [hup] at g2
    have HE : Hid (ansW K x = wishK K x) := by show _ = _; unfold ansW; rw [hok, hup]; rfl
    clear hup
    go_upto_region 5 with fail
    go_wp2_with (refine wpList_load_mid rfl 38 _ rfl W.heap.size 0 rfl cs _ ha Tryz.underlying38 rfl (by rw [HLC.out]; kernel_rfl) ?_)
    refine HCP.out.mono ?_
    rintro e w2 ⟨d1, F1, rfl, rp, nd, fr, hb⟩
    have HC2 := uh (l23WishS K x w1 F1 d1 w2 rp nd fr hb HWT.out hx hok)
    clear rp nd fr hb ha hz hrz g2 HCP
    go_wp2_with fail
    refine HC2.out.mono ?_
    rintro e w3 ⟨d3, rfl, rw3, hb3⟩
    replace HRS := uh (HRS.out.later hb3)
    replace HB := uh (blw_trans HB.out hb3)
    have HS3 : Hid (W.heap.size + 1 < w3.heap.size) := HRS.out.lt
    have HC3 := uh (l22CopyC (eRr (wishK K x)) d3 w3 rw3 (by have := wish_wt K x; have := HWT.out; omega))
    clear rw3 hb3 HC2
    go_wp2_with fail
    refine HC3.out.mono ?_
    rintro e w4 ⟨d4, F4, rfl, rp, nd, fr, hb⟩
    replace HRS := uh (HRS.out.later hb)
    replace HB := uh (blw_trans HB.out hb)
    have RP := uh rp
    have ND := uh nd
    have FR := uh fr
    have HLn : Hid (d4.length = 18) := rp.len
    clear rp nd fr hb HC3
    have hth : w4.there (W.heap.size + 1) 0 d4.toArray.size := uthere HRS.out _ _ (by rw [List.size_toArray, HLn.out]; omega)
    obtain ⟨we, hwe⟩ : ∃ we, we = w4.setCells (W.heap.size + 1) 0 d4 := ⟨_, rfl⟩
    have hrt : we.rangeAt (W.heap.size + 1) 0 d4 := by rw [hwe]; exact World.rangeAt_setCells_same _ _ _ _ (by simpa using hth)
    have HBE : Hid (Below W.heap.size W we) := by show Below _ _ _; rw [hwe]; exact blw_scs (by omega) _ _ _ HB.out
    have HRE := uh (RP.out.keep (w' := we) (S := fun b => b = W.heap.size + 1) (by rw [hwe]; exact mks_scs (S := fun b => b = W.heap.size + 1) rfl _ _ _) (fun b hb e => by have := FR.out b hb; have := HS3.out; omega))
    have hone := all_oneCell_toArray RP.out.raw.one
    have hsz : (Tryz.prog.info? 38).map (·.size) = some d4.toArray.size := by rw [List.size_toArray, HLn.out]; kernel_rfl
    have hrz := HRS.out.lt
    go_wp2_with (refine wpList_store_mid rfl 38 _ _ rfl (W.heap.size + 1) 0 d4.toArray rfl rfl hth hsz hone ?_)
    first | rw [← hwe] | (simp only [List.toList_toArray]; rw [← hwe])
    clear hwe hth hone hsz
    simp only [Act.put]
    refine bodyPost_ret (v := .agg d4.toArray) (by simp [results, Tryz.results5, asAddr, run_loadVar_mid (P := Tryz.prog) _ _ _ 38 d4 _ hrt Tryz.underlying38 rfl (by rw [HLn.out]; kernel_rfl)]) rfl ⟨d4, _, rfl, ?_, ND.out, fun b hb => by have := FR.out b hb; have := HS3.out; omega, HBE.out⟩
    rw [HE.out]
    exact HRE.out
  rw [hup] at g2
  have HE : Hid (ansW K x = K) := by show _ = _; unfold ansW; rw [hok, hup]; rfl
  clear hup
  go_upto_region 4 with fail
  go_wp2_with (refine wpList_load_mid rfl 38 _ rfl W.heap.size 0 rfl cs _ ha Tryz.underlying38 rfl (by rw [HLC.out]; kernel_rfl) ?_)
  refine HCP.out.mono ?_
  rintro e w4 ⟨d4, F4, rfl, rp, nd, fr, hb⟩
  replace HRS := uh (HRS.out.later hb)
  replace HB := uh (blw_trans HB.out hb)
  have RP := uh rp
  have ND := uh nd
  have FR := uh fr
  have HLn : Hid (d4.length = 18) := rp.len
  clear rp nd fr hb HCP ha hz hrz g2
  have hth : w4.there (W.heap.size + 1) 0 d4.toArray.size := uthere HRS.out _ _ (by rw [List.size_toArray, HLn.out]; omega)
  obtain ⟨we, hwe⟩ : ∃ we, we = w4.setCells (W.heap.size + 1) 0 d4 := ⟨_, rfl⟩
  have hrt : we.rangeAt (W.heap.size + 1) 0 d4 := by rw [hwe]; exact World.rangeAt_setCells_same _ _ _ _ (by simpa using hth)
  have HBE : Hid (Below W.heap.size W we) := by show Below _ _ _; rw [hwe]; exact blw_scs (by omega) _ _ _ HB.out
  have HRE := uh (RP.out.keep (w' := we) (S := fun b => b = W.heap.size + 1) (by rw [hwe]; exact mks_scs (S := fun b => b = W.heap.size + 1) rfl _ _ _) (fun b hb e => by have := FR.out b hb; have := HS1.out; omega))
  have hone := all_oneCell_toArray RP.out.raw.one
  have hsz : (Tryz.prog.info? 38).map (·.size) = some d4.toArray.size := by rw [List.size_toArray, HLn.out]; kernel_rfl
  have hrz := HRS.out.lt
  go_wp2_with (refine wpList_store_mid rfl 38 _ _ rfl (W.heap.size + 1) 0 d4.toArray rfl rfl hth hsz hone ?_)
  first | rw [← hwe] | (simp only [List.toList_toArray]; rw [← hwe])
  clear hwe hth hone hsz
  simp only [Act.put]
  refine bodyPost_ret (v := .agg d4.toArray) (by simp [results, Tryz.results5, asAddr, run_loadVar_mid (P := Tryz.prog) _ _ _ 38 d4 _ hrt Tryz.underlying38 rfl (by rw [HLn.out]; kernel_rfl)]) rfl ⟨d4, _, rfl, ?_, ND.out, fun b hb => by have := FR.out b hb; have := HS1.out; omega, HBE.out⟩
  rw [HE.out]
  exact HRE.out
end Go.Proofs.YtcnhoghepkbpaaaGreat
