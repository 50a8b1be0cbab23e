/-
  HallNew by the specification.
-/
import Derived.BigFrame
import Derived.Test.YtfkkohfjkofgnaaGreatHPa
import Derived.Test.YtfkkohfjkofgnaaGreatWalkUC
import Derived.Test.YtfkkohfjkofgnaaGreatWalkRC
import Derived.Test.YtfkkohfjkofgnaaGreatHNs
namespace Go.Proofs.YtfkkohfjkofgnaaGreat
open Go.RowKit Go.Deep


set_option maxRecDepth 8000 in
set_option maxHeartbeats 16000000 in
theorem hallHouseOkS (K : Hs) (p0 p1 : Nat) (w : World) (h : HsV w p0 p1 K) :
    Calls Tryz.prog 15 #[.agg #[.slice (some ⟨p0, 0, none⟩) K.tms.length K.tms.length, .slice (some ⟨p1, 0, none⟩) K.grs.length K.grs.length]] w fun e w' => e = .returned (.bool (houseOk K)) ∧ Below w.heap.size w w' := by
  have HH := uh h
  have hl0 := h.l0.len
  have hl1 := h.l1.len
  clear h
  obtain ⟨R, hR⟩ : ∃ R, R = houseOk K := ⟨_, rfl⟩
  have HR : Hid (R = (teamsOk K.tms && decide (K.grs.length ≤ 24) && allH (grantAt K.grs) K.grs.length)) := hR
  rw [← hR]
  clear hR
  obtain ⟨wa, hwa⟩ : ∃ wa, wa = w.alloc (.cells #[.slice (some ⟨p0, 0, none⟩) K.tms.length K.tms.length, .slice (some ⟨p1, 0, none⟩) K.grs.length K.grs.length] 30) := ⟨_, rfl⟩
  have HB : Hid (Below w.heap.size w wa) := by show Below _ _ _; rw [hwa]; exact blw_alloc (Below.refl _ _) _
  have HX : Hid (LBox wa w.heap.size [.slice (some ⟨p0, 0, none⟩) K.tms.length K.tms.length, .slice (some ⟨p1, 0, none⟩) K.grs.length K.grs.length]) := by show LBox _ _ _; rw [hwa]; exact LBox.new w #[.slice (some ⟨p0, 0, none⟩) K.tms.length K.tms.length, .slice (some ⟨p1, 0, none⟩) K.grs.length K.grs.length] _ _ rfl
  have HT := uh (teamsOkS (CT := K.tms.length) p0 K.tms wa (HH.out.l0.later HB.out))
  go_enter Tryz.func15, Tryz.ntmps15
  go_upto_region 1 with fail
  rw [← hwa]
  clear hwa
  have yz := HX.out.lt
  have y0 := HX.out.get 0 _ rfl
  go_wp2_with fail
  refine HT.out.mono ?_
  rintro e w1 ⟨rfl, hb⟩
  replace HB := uh (blw_trans HB.out hb)
  replace HX := uh (HX.out.later hb)
  replace yz := HX.out.lt
  replace y0 := HX.out.get 0 _ rfl
  have y1 := HX.out.get 1 _ rfl
  clear hb HT
  cases h0 : teamsOk K.tms
  · have HE : Hid (R = false) := by show R = _; rw [HR.out, h0]; rfl
    go_wp2
    go_ret
    exact ⟨Pl.ret_bool HE.out.symm, HB.out⟩
  by_cases h1 : (24 : Int) < (K.grs.length : Int)
  · have HE : Hid (R = false) := by show R = _; rw [HR.out, decide_eq_false (p := K.grs.length ≤ 24) (by omega), Bool.and_false]; rfl
    go_wp2
    go_ret
    exact ⟨Pl.ret_bool HE.out.symm, HB.out⟩
  have HR1 : Hid (R = allH (grantAt K.grs) K.grs.length) := by show R = _; rw [HR.out, h0, decide_eq_true (p := K.grs.length ≤ 24) (by omega)]; simp
  clear HR
  go_wp2_with fail
  clear y0 y1 yz h0
  go_loopw [3] (fun i wr => ∃ q : Nat, q ≤ K.grs.length ∧ i = .int .i64 q ∧ allH (grantAt K.grs) q = true ∧ LBox wr w.heap.size [.slice (some ⟨p0, 0, none⟩) K.tms.length K.tms.length, .slice (some ⟨p1, 0, none⟩) K.grs.length K.grs.length] ∧ Below w.heap.size w wr) (fun i _ => K.grs.length - (intOf i).toNat)
  case atStart => exact ⟨0, Nat.zero_le _, rfl, rfl, HX.out, HB.out⟩
  case round =>
    obtain ⟨q, hq, rfl, ha, hX, hW⟩ := hrel
    have HQ := uh ha
    have HB2 := uh hW
    have HX2 := uh hX
    clear ha hW hX HX HB
    have yz := HX2.out.lt
    have y1 := HX2.out.get 1 _ rfl
    by_cases hlt : q < K.grs.length
    · have H1 := uh (HH.out.l1.later HB2.out)
      obtain ⟨g, hg⟩ : ∃ g : Gn, g = K.grs.getD q Gn.none := ⟨_, rfl⟩
      obtain ⟨vb, hrg, hvI, hsz, hs1, hs2⟩ := H1.out.at_ q hlt
      rw [← hg] at hrg hvI hsz hs1 hs2
      have HP : Hid (grantAt K.grs q = ((g.num == (q : Int) + 1) && Pl.nameOk g.to_ && g.by_.toList.isEmpty && ruleOk g.rul)) := by show _ = _; rw [grantAt, ← hg, grantOk]
      obtain ⟨ve, hve⟩ : ∃ ve : List Value, ve = [.int .i64 g.num, .string g.to_, .string g.by_, .slice (some ⟨vb, 0, none⟩) g.rul.verbs.length g.rul.verbs.length, .string g.rul.kind, .string g.rul.team, .string g.rul.pre] := ⟨_, rfl⟩
      have hrv : wr.rangeAt p1 (q * 7) ve := by rw [hve]; exact hrg
      have HL : Hid (ve.length = 7) := by show _ = _; rw [hve]; rfl
      obtain ⟨y, hy⟩ : ∃ y, y = (wr.alloc (.cells #[.int .i64 0, .string { data := #[] }, .string { data := #[] }, .slice none 0 0, .string { data := #[] }, .string { data := #[] }, .string { data := #[] }] 74)).setCells wr.heap.size 0 ve := ⟨_, rfl⟩
      have hth := nv_there wr #[.int .i64 0, .string { data := #[] }, .string { data := #[] }, .slice none 0 0, .string { data := #[] }, .string { data := #[] }, .string { data := #[] }] 74 ve (by rw [HL.out]; rfl)
      have hone : ve.toArray.all Value.oneCell' = true := by rw [hve]; simp [Value.oneCell']
      have hsi : (Tryz.prog.info? 74).map (·.size) = some ve.toArray.size := by rw [List.size_toArray, HL.out]; kernel_rfl
      have HY : Hid (LBox y wr.heap.size [.int .i64 g.num, .string g.to_, .string g.by_, .slice (some ⟨vb, 0, none⟩) g.rul.verbs.length g.rul.verbs.length, .string g.rul.kind, .string g.rul.team, .string g.rul.pre]) := by show LBox _ _ _; rw [hy, ← hve]; exact nv_box wr #[.int .i64 0, .string { data := #[] }, .string { data := #[] }, .slice none 0 0, .string { data := #[] }, .string { data := #[] }, .string { data := #[] }] 74 ve (by rw [HL.out]; rfl)
      have hby : Below wr.heap.size wr y := by rw [hy]; exact nv_below wr #[.int .i64 0, .string { data := #[] }, .string { data := #[] }, .slice none 0 0, .string { data := #[] }, .string { data := #[] }, .string { data := #[] }] 74 ve
      have HB3 := uh (blw_trans HB2.out hby)
      have HX3 := uh (HX2.out.later hby)
      have HRC := uh (l4RuleOk (CV := g.rul.verbs.length) vb g.rul y (hvI.later hby) hsz)
      have HSZ : Hid (g.to_.size ≤ 1048576 ∧ g.by_.size ≤ 1048576) := ⟨hs1, hs2⟩
      have hpl := H1.out.lt
      clear hg hrg hvI hsz hs1 hs2 hve hby
      have hm0 : (0 : Int) ≤ (q : Int) := by omega
      have hm3 : (q : Int) < (K.grs.length : Int) := by omega
      go_upto_region 7 with (first | refine wpList_load_mid rfl 74 _ rfl p1 (q * 7) rfl ve _ hrv Tryz.underlying74 rfl (by rw [HL.out]; kernel_rfl) ?_ | refine wpList_store_mid rfl 74 _ _ rfl wr.heap.size 0 ve.toArray rfl rfl hth hsi hone ?_)
      first | rw [← hy] | (simp only [List.toList_toArray]; rw [← hy])
      clear hy hth hone hsi hrv yz y1 H1
      have hyl := HY.out.lt
      have e0 := HY.out.get 0 _ rfl
      have e1 := HY.out.get 1 _ rfl
      have e2 := HY.out.get 2 _ rfl
      have e3 := HY.out.get 3 _ rfl
      have e4 := HY.out.get 4 _ rfl
      have e5 := HY.out.get 5 _ rfl
      have e6 := HY.out.get 6 _ rfl
      cases hn : (g.num == (q : Int) + 1)
      · have hn2 : (g.num != (q : Int) + 1) = true := by rw [bne, hn]; rfl
        have HE : Hid (R = false) := by show R = _; rw [HR1.out, allH_false (k := q) (by rw [HP.out]; simp [hn]) _ hlt]
        go_wp2_with (first | (go_at_call 38; refine (l1NameOk_any _ _ (by have := HSZ.out.1; show _ ≤ 9223372036854775807; omega)).mono ?_; rintro e w' ⟨rfl, rfl⟩) | (go_at_call 39; refine HRC.out.mono ?_; rintro e w5 ⟨rfl, hb5⟩))
        go_ret
        exact ⟨Pl.ret_bool HE.out.symm, HB3.out⟩

      have hn2 : (g.num != (q : Int) + 1) = false := by rw [bne, hn]; rfl
      cases hnm : Pl.nameOk g.to_
      ·
        have HE : Hid (R = false) := by show R = _; rw [HR1.out, allH_false (k := q) (by rw [HP.out]; simp [hnm]) _ hlt]
        go_wp2_with (first | (go_at_call 38; refine (l1NameOk_any _ _ (by have := HSZ.out.1; show _ ≤ 9223372036854775807; omega)).mono ?_; rintro e w' ⟨rfl, rfl⟩) | (go_at_call 39; refine HRC.out.mono ?_; rintro e w5 ⟨rfl, hb5⟩))
        go_ret
        exact ⟨Pl.ret_bool HE.out.symm, HB3.out⟩

      cases hby : g.by_.toList.isEmpty
      · have hby2 : (g.by_.toList != []) = true := by rw [not_beq_empty, hby]; rfl
        have HE : Hid (R = false) := by show R = _; rw [HR1.out, allH_false (k := q) (by rw [HP.out]; simp [hby]) _ hlt]
        go_wp2_with (first | (go_at_call 38; refine (l1NameOk_any _ _ (by have := HSZ.out.1; show _ ≤ 9223372036854775807; omega)).mono ?_; rintro e w' ⟨rfl, rfl⟩) | (go_at_call 39; refine HRC.out.mono ?_; rintro e w5 ⟨rfl, hb5⟩))
        go_ret
        exact ⟨Pl.ret_bool HE.out.symm, HB3.out⟩

      have hby2 : (g.by_.toList != []) = false := by rw [not_beq_empty, hby]; rfl
      cases hru : ruleOk g.rul
      · rw [hru] at HRC
        have HE : Hid (R = false) := by show R = _; rw [HR1.out, allH_false (k := q) (by rw [HP.out]; simp [hru]) _ hlt]
        go_wp2_with (first | (go_at_call 38; refine (l1NameOk_any _ _ (by have := HSZ.out.1; show _ ≤ 9223372036854775807; omega)).mono ?_; rintro e w' ⟨rfl, rfl⟩) | (go_at_call 39; refine HRC.out.mono ?_; rintro e w5 ⟨rfl, hb5⟩))
        go_ret
        exact ⟨Pl.ret_bool HE.out.symm, blw_trans HB3.out hb5⟩

      rw [hru] at HRC
      have HN : Hid (allH (grantAt K.grs) (q + 1) = true) := by show (allH _ q && grantAt K.grs q) = true; rw [HQ.out, HP.out, hn, hnm, hby, hru]; rfl
      go_wp2_with (first | (go_at_call 38; refine (l1NameOk_any _ _ (by have := HSZ.out.1; show _ ≤ 9223372036854775807; omega)).mono ?_; rintro e w' ⟨rfl, rfl⟩) | (go_at_call 39; refine HRC.out.mono ?_; rintro e w5 ⟨rfl, hb5⟩))
      go_roundw
      case rel => exact ⟨q + 1, by omega, by go_num, HN.out, HX3.out.later hb5, blw_trans HB3.out hb5⟩
      case measure => simp [intOf]; omega
    obtain rfl : q = K.grs.length := by omega
    have HE : Hid (R = true) := by show R = _; rw [HR1.out, HQ.out]
    go_wp2
    go_ret
    exact ⟨Pl.ret_bool HE.out.symm, HB2.out⟩
end Go.Proofs.YtfkkohfjkofgnaaGreat

namespace Go.Proofs.YtfkkohfjkofgnaaGreat
open Go.RowKit Go.Deep


set_option maxRecDepth 8000 in
set_option maxHeartbeats 16000000 in
theorem hallNewS (K : Hs) (n : Int) (c : List Value) (F : List Nat) (W : World) (hr : Rep W true shHallHouse F (eHs K) c) (hw : wtL (eHs K) ≤ 1048576) : Calls Tryz.prog 5 #[.agg c.toArray, .int .i64 n] W (Ans shHallWorld (nwD K n) W) := by
  obtain ⟨p0, p1, hc, hv⟩ := hsR hr hw
  subst hc
  have HV := uh hv
  clear hr hw hv
  obtain ⟨wa, hwa⟩ : ∃ wa, wa = (W.alloc (.cells #[.slice (some ⟨p0, 0, none⟩) K.tms.length K.tms.length, .slice (some ⟨p1, 0, none⟩) K.grs.length K.grs.length] 30)).alloc (.cells #[.slice none 0 0, .slice none 0 0, .slice none 0 0, .slice none 0 0, .slice none 0 0, .int .i64 0, .slice none 0 0] 38) := ⟨_, rfl⟩
  have HB : Hid (Below W.heap.size W wa) := by show Below _ _ _; rw [hwa]; exact blw_alloc (blw_alloc (Below.refl _ _) _) _
  have HX : Hid (LBox wa W.heap.size [.slice (some ⟨p0, 0, none⟩) K.tms.length K.tms.length, .slice (some ⟨p1, 0, none⟩) K.grs.length K.grs.length]) := by show LBox _ _ _; rw [hwa]; exact (LBox.new W #[.slice (some ⟨p0, 0, none⟩) K.tms.length K.tms.length, .slice (some ⟨p1, 0, none⟩) K.grs.length K.grs.length] _ _ rfl).later (blw_alloc (Below.refl _ _) _)
  have HO : Hid (OwnBlk wa (W.heap.size + 1) 38 7) := by show OwnBlk _ _ _ _; rw [hwa]; exact OwnBlk.alloc_at3 _ _ _ _ _ rfl (by simp)
  go_enter Tryz.func5, Tryz.ntmps5
  go_upto_region 1 with fail
  rw [← hwa]
  clear hwa
  have HC := uh (hallHouseOkS K p0 p1 wa (HV.out.v.later HB.out))
  have xz := HX.out.lt
  have xa := HX.out.at_
  go_wp2_with (refine wpList_load_mid rfl 30 _ rfl W.heap.size 0 rfl [.slice (some ⟨p0, 0, none⟩) K.tms.length K.tms.length, .slice (some ⟨p1, 0, none⟩) K.grs.length K.grs.length] _ xa Tryz.underlying30 rfl (by kernel_rfl) ?_)
  refine HC.out.mono ?_
  rintro e w1 ⟨rfl, hb⟩
  replace HB := uh (blw_trans HB.out hb)
  replace HX := uh (HX.out.later hb)
  replace HO := uh (HO.out.later hb)
  clear hb xz xa HC
  cases hok : houseOk K
  · have HE : Hid (nwD K n = nwZ) := by show _ = _; unfold nwD; rw [hok]; rfl
    have hth : w1.there (W.heap.size + 1) 0 (#[.slice none 0 0, .slice none 0 0, .slice none 0 0, .slice none 0 0, .slice none 0 0, .int .i64 0, .slice none 0 0] : Array Value).size := uthere HO.out _ _ (by simp)
    obtain ⟨we, hwe⟩ : ∃ we, we = w1.setCells (W.heap.size + 1) 0 [.slice none 0 0, .slice none 0 0, .slice none 0 0, .slice none 0 0, .slice none 0 0, .int .i64 0, .slice none 0 0] := ⟨_, rfl⟩
    have hrt : we.rangeAt (W.heap.size + 1) 0 [.slice none 0 0, .slice none 0 0, .slice none 0 0, .slice none 0 0, .slice none 0 0, .int .i64 0, .slice none 0 0] := by rw [hwe]; exact World.rangeAt_setCells_same _ _ _ _ hth
    have HMK : Hid (Marks (fun b => b = W.heap.size + 1) w1 we) := by show Marks _ _ _; rw [hwe]; exact mks_scs (S := fun b => b = W.heap.size + 1) rfl _ _ _
    have HBB : Hid (Below W.heap.size W we) := by show Below _ _ _; rw [hwe]; exact blw_scs (by omega) _ _ _ HB.out
    go_wp2_with (refine wpList_store_mid rfl 38 _ _ rfl (W.heap.size + 1) 0 #[.slice none 0 0, .slice none 0 0, .slice none 0 0, .slice none 0 0, .slice none 0 0, .int .i64 0, .slice none 0 0] rfl rfl hth (by kernel_rfl) (by simp [Value.oneCell']) ?_)
    first | rw [← hwe] | (simp only [List.toList_toArray]; rw [← hwe])
    try simp only [Act.put]
    refine bodyPost_ret (v := .agg #[.slice none 0 0, .slice none 0 0, .slice none 0 0, .slice none 0 0, .slice none 0 0, .int .i64 0, .slice none 0 0]) (by simp [results, Tryz.results5, asAddr, run_loadVar_mid (P := Tryz.prog) _ _ _ 38 [.slice none 0 0, .slice none 0 0, .slice none 0 0, .slice none 0 0, .slice none 0 0, .int .i64 0, .slice none 0 0] _ hrt Tryz.underlying38 rfl (by kernel_rfl)]) rfl ?_
    have hnil : ∀ (t : TypeId) (sh : List Sh), Rep we false [.row t sh] [] [.row 0 []] [.slice none 0 0] := fun t sh => .emp _ _ _ rfl .nil
    rw [HE.out]
    refine ⟨[.slice none 0 0, .slice none 0 0, .slice none 0 0, .slice none 0 0, .slice none 0 0, .int .i64 0, .slice none 0 0], _, rfl, repHallWorld_mk (hnil _ _) (hnil _ _) (hnil _ _) (hnil _ _) (hnil _ _) _ (hnil _ _), by simp, fun b hb => ?_, HBB.out⟩
    simp at hb
  cases hin : inB n 1 5
  · have HE : Hid (nwD K n = nwZ) := by show _ = _; unfold nwD; rw [hok, hin]; rfl
    have hi2 : (decide ((1 : Int) ≤ n) && decide (n ≤ 5)) = false := hin
    have hth : w1.there (W.heap.size + 1) 0 (#[.slice none 0 0, .slice none 0 0, .slice none 0 0, .slice none 0 0, .slice none 0 0, .int .i64 0, .slice none 0 0] : Array Value).size := uthere HO.out _ _ (by simp)
    obtain ⟨we, hwe⟩ : ∃ we, we = w1.setCells (W.heap.size + 1) 0 [.slice none 0 0, .slice none 0 0, .slice none 0 0, .slice none 0 0, .slice none 0 0, .int .i64 0, .slice none 0 0] := ⟨_, rfl⟩
    have hrt : we.rangeAt (W.heap.size + 1) 0 [.slice none 0 0, .slice none 0 0, .slice none 0 0, .slice none 0 0, .slice none 0 0, .int .i64 0, .slice none 0 0] := by rw [hwe]; exact World.rangeAt_setCells_same _ _ _ _ hth
    have HMK : Hid (Marks (fun b => b = W.heap.size + 1) w1 we) := by show Marks _ _ _; rw [hwe]; exact mks_scs (S := fun b => b = W.heap.size + 1) rfl _ _ _
    have HBB : Hid (Below W.heap.size W we) := by show Below _ _ _; rw [hwe]; exact blw_scs (by omega) _ _ _ HB.out
    go_wp2_with (first | (go_at_call 16; refine (l1In_any _ _ _ _).mono ?_; rintro e w' ⟨rfl, rfl⟩) | refine wpList_store_mid rfl 38 _ _ rfl (W.heap.size + 1) 0 #[.slice none 0 0, .slice none 0 0, .slice none 0 0, .slice none 0 0, .slice none 0 0, .int .i64 0, .slice none 0 0] rfl rfl hth (by kernel_rfl) (by simp [Value.oneCell']) ?_)
    first | rw [← hwe] | (simp only [List.toList_toArray]; rw [← hwe])
    try simp only [Act.put]
    refine bodyPost_ret (v := .agg #[.slice none 0 0, .slice none 0 0, .slice none 0 0, .slice none 0 0, .slice none 0 0, .int .i64 0, .slice none 0 0]) (by simp [results, Tryz.results5, asAddr, run_loadVar_mid (P := Tryz.prog) _ _ _ 38 [.slice none 0 0, .slice none 0 0, .slice none 0 0, .slice none 0 0, .slice none 0 0, .int .i64 0, .slice none 0 0] _ hrt Tryz.underlying38 rfl (by kernel_rfl)]) rfl ?_
    have hnil : ∀ (t : TypeId) (sh : List Sh), Rep we false [.row t sh] [] [.row 0 []] [.slice none 0 0] := fun t sh => .emp _ _ _ rfl .nil
    rw [HE.out]
    refine ⟨[.slice none 0 0, .slice none 0 0, .slice none 0 0, .slice none 0 0, .slice none 0 0, .int .i64 0, .slice none 0 0], _, rfl, repHallWorld_mk (hnil _ _) (hnil _ _) (hnil _ _) (hnil _ _) (hnil _ _) _ (hnil _ _), by simp, fun b hb => ?_, HBB.out⟩
    simp at hb
  have HE : Hid (nwD K n = nwOk K n) := by show _ = _; unfold nwD; rw [hok, hin]; rfl
  have HNW : Hid (newW n = [.row n.toNat (newRow n n.toNat), .row 0 [], .row 0 []]) := by show _ = _; unfold newW; rw [hin]; rfl
  have hi2 : (decide ((1 : Int) ≤ n) && decide (n ≤ 5)) = true := hin
  have HC := uh (l34HouseS K p0 p1 w1 (HV.out.later HB.out))
  have xz := HX.out.lt
  have xa := HX.out.at_
  go_wp2_with (first | (go_at_call 16; refine (l1In_any _ _ _ _).mono ?_; rintro e w' ⟨rfl, rfl⟩) | refine wpList_load_mid rfl 30 _ rfl W.heap.size 0 rfl [.slice (some ⟨p0, 0, none⟩) K.tms.length K.tms.length, .slice (some ⟨p1, 0, none⟩) K.grs.length K.grs.length] _ xa Tryz.underlying30 rfl (by kernel_rfl) ?_)
  clear hi2
  refine HC.out.mono ?_
  rintro e w2 ⟨cc, FF, rfl, rep, nd, fr, hb⟩
  obtain ⟨G0, v0, G1, v1, hFF, rfl, r0, r1⟩ := repHallHouse rep
  obtain ⟨a0, m0, e0⟩ := r0.raw.len0
  obtain ⟨a1, m1, e1⟩ := r1.raw.len0
  subst e0
  subst e1
  have HND : Hid ((G0 ++ G1).Nodup ∧ ∀ b ∈ G0 ++ G1, w1.heap.size ≤ b ∧ b < w2.heap.size) := by rw [hFF, List.append_nil] at nd fr; exact ⟨nd, fun b hb => ⟨fr b hb, rep.lt b (by rw [hFF, List.append_nil]; exact hb)⟩⟩
  have R0 := uh r0
  have R1 := uh r1
  have HZ : Hid (W.heap.size + 1 < w1.heap.size) := HO.out.lt
  have HZW : Hid (w1.heap.size ≤ w2.heap.size) := hb.size
  replace HB := uh (blw_trans HB.out hb)
  replace HX := uh (HX.out.later hb)
  replace HO := uh (HO.out.later hb)
  clear rep nd fr r0 r1 hFF hb xz xa HC
  have HC := uh (recNewWorldS n w2)
  go_wp2_with fail
  refine HC.out.mono ?_
  rintro e w3 ⟨cc, FF, rfl, rep, nd, fr, hb⟩
  rw [HNW.out] at rep
  obtain ⟨G2, v2, G3, v3, G4, v4, hFF, rfl, r2, r3, r4⟩ := repRecWorld rep
  obtain ⟨a2, m2, e2⟩ := r2.raw.len0
  obtain ⟨a3, m3, e3⟩ := r3.raw.len0
  obtain ⟨a4, m4, e4⟩ := r4.raw.len0
  subst e2
  subst e3
  subst e4
  have HNR : Hid ((G2 ++ (G3 ++ G4)).Nodup ∧ ∀ b ∈ G2 ++ (G3 ++ G4), w2.heap.size ≤ b) := by rw [hFF, List.append_nil] at nd fr; exact ⟨nd, fr⟩
  have R2 := uh r2
  have R3 := uh r3
  have R4 := uh r4
  have HZ2 : Hid (w1.heap.size ≤ w2.heap.size) := HZW.out
  replace HB := uh (blw_trans HB.out hb)
  replace HX := uh (HX.out.later hb)
  replace HO := uh (HO.out.later hb)
  replace R0 := uh (R0.out.later hb)
  replace R1 := uh (R1.out.later hb)
  clear rep nd fr r2 r3 r4 hFF hb HC
  have hth : w3.there (W.heap.size + 1) 0 (#[.slice a0 K.tms.length m0, .slice a1 K.grs.length m1, .slice a2 n.toNat m2, .slice a3 0 m3, .slice a4 0 m4, .int .i64 0, .slice none 0 0] : Array Value).size := uthere HO.out _ _ (by simp)
  obtain ⟨we, hwe⟩ : ∃ we, we = w3.setCells (W.heap.size + 1) 0 [.slice a0 K.tms.length m0, .slice a1 K.grs.length m1, .slice a2 n.toNat m2, .slice a3 0 m3, .slice a4 0 m4, .int .i64 0, .slice none 0 0] := ⟨_, rfl⟩
  have hrt : we.rangeAt (W.heap.size + 1) 0 [.slice a0 K.tms.length m0, .slice a1 K.grs.length m1, .slice a2 n.toNat m2, .slice a3 0 m3, .slice a4 0 m4, .int .i64 0, .slice none 0 0] := by rw [hwe]; exact World.rangeAt_setCells_same _ _ _ _ hth
  have HMK : Hid (Marks (fun b => b = W.heap.size + 1) w3 we) := by show Marks _ _ _; rw [hwe]; exact mks_scs (S := fun b => b = W.heap.size + 1) rfl _ _ _
  have HBB : Hid (Below W.heap.size W we) := by show Below _ _ _; rw [hwe]; exact blw_scs (by omega) _ _ _ HB.out
  go_wp2_with (refine wpList_store_mid rfl 38 _ _ rfl (W.heap.size + 1) 0 #[.slice a0 K.tms.length m0, .slice a1 K.grs.length m1, .slice a2 n.toNat m2, .slice a3 0 m3, .slice a4 0 m4, .int .i64 0, .slice none 0 0] rfl rfl hth (by kernel_rfl) (by simp [Value.oneCell']) ?_)
  first | rw [← hwe] | (simp only [List.toList_toArray]; rw [← hwe])
  try simp only [Act.put]
  refine bodyPost_ret (v := .agg #[.slice a0 K.tms.length m0, .slice a1 K.grs.length m1, .slice a2 n.toNat m2, .slice a3 0 m3, .slice a4 0 m4, .int .i64 0, .slice none 0 0]) (by simp [results, Tryz.results5, asAddr, run_loadVar_mid (P := Tryz.prog) _ _ _ 38 [.slice a0 K.tms.length m0, .slice a1 K.grs.length m1, .slice a2 n.toNat m2, .slice a3 0 m3, .slice a4 0 m4, .int .i64 0, .slice none 0 0] _ hrt Tryz.underlying38 rfl (by kernel_rfl)]) rfl ?_
  have hnil : ∀ (t : TypeId) (sh : List Sh), Rep we false [.row t sh] [] [.row 0 []] [.slice none 0 0] := fun t sh => .emp _ _ _ rfl .nil
  rw [HE.out]
  refine ⟨[.slice a0 K.tms.length m0, .slice a1 K.grs.length m1, .slice a2 n.toNat m2, .slice a3 0 m3, .slice a4 0 m4, .int .i64 0, .slice none 0 0], _, rfl, repHallWorld_mk (R0.out.keep HMK.out (fun b hb e => by have := HND.out.2 b (by simp [hb]); have := HZ.out; omega)) (R1.out.keep HMK.out (fun b hb e => by have := HND.out.2 b (by simp [hb]); have := HZ.out; omega)) (R2.out.keep HMK.out (fun b hb e => by have := HNR.out.2 b (by simp [hb]); have := HZ.out; have := HZ2.out; omega)) (R3.out.keep HMK.out (fun b hb e => by have := HNR.out.2 b (by simp [hb]); have := HZ.out; have := HZ2.out; omega)) (R4.out.keep HMK.out (fun b hb e => by have := HNR.out.2 b (by simp [hb]); have := HZ.out; have := HZ2.out; omega)) _ (hnil _ _), ?nd, ?fr, HBB.out⟩
  case nd =>
    have e : G0 ++ (G1 ++ (G2 ++ (G3 ++ (G4 ++ [] )))) = (G0 ++ G1) ++ (G2 ++ (G3 ++ G4)) := by simp
    have := List.nodup_append.2 ⟨HND.out.1, HNR.out.1, fun x hx y hy e => by have := HND.out.2 x hx; have := HNR.out.2 y hy; omega⟩
    simpa using this
  case fr =>
    intro b hb
    have hz := HZ.out
    have hz2 := HZ2.out
    have hb2 : b ∈ (G0 ++ G1) ++ (G2 ++ (G3 ++ G4)) := by simpa using hb
    rcases List.mem_append.1 hb2 with q | q
    · have := HND.out.2 b q; omega
    · have := HNR.out.2 b q; omega
end Go.Proofs.YtfkkohfjkofgnaaGreat
