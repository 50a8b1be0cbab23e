/-
  A house that is ok: by the specification.
-/
import Derived.BigFrame
import Derived.Test.YtkehaeppnmlafaaHPa
import Derived.Test.YtkehaeppnmlafaaWalkUC
import Derived.Test.YtkehaeppnmlafaaWalkRC
namespace Go.Proofs.Ytkehaeppnmlafaa
open Go.RowKit Go.Deep


set_option maxRecDepth 8000 in
set_option maxHeartbeats 16000000 in
theorem hallHouseOkS (K : Hs) (p0 p1 : Nat) (w : World) (h : HsV w p0 p1 K) :
    Calls Try.prog 15 #[.agg #[.slice (some ⟨p0, 0, none⟩) K.tms.length K.tms.length, .slice (some ⟨p1, 0, none⟩) K.grs.length K.grs.length]] w fun e w' => e = .returned (.bool (houseOk K)) ∧ Below w.heap.size w w' := by
  have HH := uh h
  have hl0 := h.l0.len
  have hl1 := h.l1.len
  clear h
  obtain ⟨R, hR⟩ : ∃ R, R = houseOk K := ⟨_, rfl⟩
  have HR : Hid (R = (teamsOk K.tms && decide (K.grs.length ≤ 24) && allH (grantAt K.grs) K.grs.length)) := hR
  rw [← hR]
  clear hR
  obtain ⟨wa, hwa⟩ : ∃ wa, wa = w.alloc (.cells #[.slice (some ⟨p0, 0, none⟩) K.tms.length K.tms.length, .slice (some ⟨p1, 0, none⟩) K.grs.length K.grs.length] 43) := ⟨_, rfl⟩
  have HB : Hid (Below w.heap.size w wa) := by show Below _ _ _; rw [hwa]; exact blw_alloc (Below.refl _ _) _
  have HX : Hid (LBox wa w.heap.size [.slice (some ⟨p0, 0, none⟩) K.tms.length K.tms.length, .slice (some ⟨p1, 0, none⟩) K.grs.length K.grs.length]) := by show LBox _ _ _; rw [hwa]; exact LBox.new w #[.slice (some ⟨p0, 0, none⟩) K.tms.length K.tms.length, .slice (some ⟨p1, 0, none⟩) K.grs.length K.grs.length] _ _ rfl
  have HT := uh (teamsOkS (CT := K.tms.length) p0 K.tms wa (HH.out.l0.later HB.out))
  go_enter Try.func15, Try.ntmps15
  go_upto_region 1 with fail
  rw [← hwa]
  clear hwa
  have yz := HX.out.lt
  have y0 := HX.out.get 0 _ rfl
  go_wp2_with fail
  refine HT.out.mono ?_
  rintro e w1 ⟨rfl, hb⟩
  replace HB := uh (blw_trans HB.out hb)
  replace HX := uh (HX.out.later hb)
  replace yz := HX.out.lt
  replace y0 := HX.out.get 0 _ rfl
  have y1 := HX.out.get 1 _ rfl
  clear hb HT
  cases h0 : teamsOk K.tms
  · have HE : Hid (R = false) := by show R = _; rw [HR.out, h0]; rfl
    go_wp2
    go_ret
    exact ⟨Pl.ret_bool HE.out.symm, HB.out⟩
  by_cases h1 : (24 : Int) < (K.grs.length : Int)
  · have HE : Hid (R = false) := by show R = _; rw [HR.out, decide_eq_false (p := K.grs.length ≤ 24) (by omega), Bool.and_false]; rfl
    go_wp2
    go_ret
    exact ⟨Pl.ret_bool HE.out.symm, HB.out⟩
  have HR1 : Hid (R = allH (grantAt K.grs) K.grs.length) := by show R = _; rw [HR.out, h0, decide_eq_true (p := K.grs.length ≤ 24) (by omega)]; simp
  clear HR
  go_wp2_with fail
  clear y0 y1 yz h0
  go_loopw [3] (fun i wr => ∃ q : Nat, q ≤ K.grs.length ∧ i = .int .i64 q ∧ allH (grantAt K.grs) q = true ∧ LBox wr w.heap.size [.slice (some ⟨p0, 0, none⟩) K.tms.length K.tms.length, .slice (some ⟨p1, 0, none⟩) K.grs.length K.grs.length] ∧ Below w.heap.size w wr) (fun i _ => K.grs.length - (intOf i).toNat)
  case atStart => exact ⟨0, Nat.zero_le _, rfl, rfl, HX.out, HB.out⟩
  case round =>
    obtain ⟨q, hq, rfl, ha, hX, hW⟩ := hrel
    have HQ := uh ha
    have HB2 := uh hW
    have HX2 := uh hX
    clear ha hW hX HX HB
    have yz := HX2.out.lt
    have y1 := HX2.out.get 1 _ rfl
    by_cases hlt : q < K.grs.length
    · have H1 := uh (HH.out.l1.later HB2.out)
      obtain ⟨g, hg⟩ : ∃ g : Gn, g = K.grs.getD q Gn.none := ⟨_, rfl⟩
      obtain ⟨vb, hrg, hvI, hsz, hs1, hs2⟩ := H1.out.at_ q hlt
      rw [← hg] at hrg hvI hsz hs1 hs2
      have HP : Hid (grantAt K.grs q = ((g.num == (q : Int) + 1) && Pl.nameOk g.to_ && g.by_.toList.isEmpty && ruleOk g.rul)) := by show _ = _; rw [grantAt, ← hg, grantOk]
      obtain ⟨ve, hve⟩ : ∃ ve : List Value, ve = [.int .i64 g.num, .string g.to_, .string g.by_, .slice (some ⟨vb, 0, none⟩) g.rul.verbs.length g.rul.verbs.length, .string g.rul.kind, .string g.rul.team, .string g.rul.pre] := ⟨_, rfl⟩
      have hrv : wr.rangeAt p1 (q * 7) ve := by rw [hve]; exact hrg
      have HL : Hid (ve.length = 7) := by show _ = _; rw [hve]; rfl
      obtain ⟨y, hy⟩ : ∃ y, y = (wr.alloc (.cells #[.int .i64 0, .string { data := #[] }, .string { data := #[] }, .slice none 0 0, .string { data := #[] }, .string { data := #[] }, .string { data := #[] }] 61)).setCells wr.heap.size 0 ve := ⟨_, rfl⟩
      have hth := nv_there wr #[.int .i64 0, .string { data := #[] }, .string { data := #[] }, .slice none 0 0, .string { data := #[] }, .string { data := #[] }, .string { data := #[] }] 61 ve (by rw [HL.out]; rfl)
      have hone : ve.toArray.all Value.oneCell' = true := by rw [hve]; simp [Value.oneCell']
      have hsi : (Try.prog.info? 61).map (·.size) = some ve.toArray.size := by rw [List.size_toArray, HL.out]; kernel_rfl
      have HY : Hid (LBox y wr.heap.size [.int .i64 g.num, .string g.to_, .string g.by_, .slice (some ⟨vb, 0, none⟩) g.rul.verbs.length g.rul.verbs.length, .string g.rul.kind, .string g.rul.team, .string g.rul.pre]) := by show LBox _ _ _; rw [hy, ← hve]; exact nv_box wr #[.int .i64 0, .string { data := #[] }, .string { data := #[] }, .slice none 0 0, .string { data := #[] }, .string { data := #[] }, .string { data := #[] }] 61 ve (by rw [HL.out]; rfl)
      have hby : Below wr.heap.size wr y := by rw [hy]; exact nv_below wr #[.int .i64 0, .string { data := #[] }, .string { data := #[] }, .slice none 0 0, .string { data := #[] }, .string { data := #[] }, .string { data := #[] }] 61 ve
      have HB3 := uh (blw_trans HB2.out hby)
      have HX3 := uh (HX2.out.later hby)
      have HRC := uh (l4RuleOk (CV := g.rul.verbs.length) vb g.rul y (hvI.later hby) hsz)
      have HSZ : Hid (g.to_.size ≤ 1048576 ∧ g.by_.size ≤ 1048576) := ⟨hs1, hs2⟩
      have hpl := H1.out.lt
      clear hg hrg hvI hsz hs1 hs2 hve hby
      have hm0 : (0 : Int) ≤ (q : Int) := by omega
      have hm3 : (q : Int) < (K.grs.length : Int) := by omega
      go_upto_region 7 with (first | refine wpList_load_mid rfl 61 _ rfl p1 (q * 7) rfl ve _ hrv Try.underlying61 rfl (by rw [HL.out]; kernel_rfl) ?_ | refine wpList_store_mid rfl 61 _ _ rfl wr.heap.size 0 ve.toArray rfl rfl hth hsi hone ?_)
      first | rw [← hy] | (simp only [List.toList_toArray]; rw [← hy])
      clear hy hth hone hsi hrv yz y1 H1
      have hyl := HY.out.lt
      have e0 := HY.out.get 0 _ rfl
      have e1 := HY.out.get 1 _ rfl
      have e2 := HY.out.get 2 _ rfl
      have e3 := HY.out.get 3 _ rfl
      have e4 := HY.out.get 4 _ rfl
      have e5 := HY.out.get 5 _ rfl
      have e6 := HY.out.get 6 _ rfl
      cases hn : (g.num == (q : Int) + 1)
      · have hn2 : (g.num != (q : Int) + 1) = true := by rw [bne, hn]; rfl
        have HE : Hid (R = false) := by show R = _; rw [HR1.out, allH_false (k := q) (by rw [HP.out]; simp [hn]) _ hlt]
        go_wp2_with (first | (go_at_call 35; refine (l1NameOk_any _ _ (by have := HSZ.out.1; show _ ≤ 9223372036854775807; omega)).mono ?_; rintro e w' ⟨rfl, rfl⟩) | (go_at_call 36; refine HRC.out.mono ?_; rintro e w5 ⟨rfl, hb5⟩))
        go_ret
        exact ⟨Pl.ret_bool HE.out.symm, HB3.out⟩

      have hn2 : (g.num != (q : Int) + 1) = false := by rw [bne, hn]; rfl
      cases hnm : Pl.nameOk g.to_
      ·
        have HE : Hid (R = false) := by show R = _; rw [HR1.out, allH_false (k := q) (by rw [HP.out]; simp [hnm]) _ hlt]
        go_wp2_with (first | (go_at_call 35; refine (l1NameOk_any _ _ (by have := HSZ.out.1; show _ ≤ 9223372036854775807; omega)).mono ?_; rintro e w' ⟨rfl, rfl⟩) | (go_at_call 36; refine HRC.out.mono ?_; rintro e w5 ⟨rfl, hb5⟩))
        go_ret
        exact ⟨Pl.ret_bool HE.out.symm, HB3.out⟩

      cases hby : g.by_.toList.isEmpty
      · have hby2 : (g.by_.toList != []) = true := by rw [not_beq_empty, hby]; rfl
        have HE : Hid (R = false) := by show R = _; rw [HR1.out, allH_false (k := q) (by rw [HP.out]; simp [hby]) _ hlt]
        go_wp2_with (first | (go_at_call 35; refine (l1NameOk_any _ _ (by have := HSZ.out.1; show _ ≤ 9223372036854775807; omega)).mono ?_; rintro e w' ⟨rfl, rfl⟩) | (go_at_call 36; refine HRC.out.mono ?_; rintro e w5 ⟨rfl, hb5⟩))
        go_ret
        exact ⟨Pl.ret_bool HE.out.symm, HB3.out⟩

      have hby2 : (g.by_.toList != []) = false := by rw [not_beq_empty, hby]; rfl
      cases hru : ruleOk g.rul
      · rw [hru] at HRC
        have HE : Hid (R = false) := by show R = _; rw [HR1.out, allH_false (k := q) (by rw [HP.out]; simp [hru]) _ hlt]
        go_wp2_with (first | (go_at_call 35; refine (l1NameOk_any _ _ (by have := HSZ.out.1; show _ ≤ 9223372036854775807; omega)).mono ?_; rintro e w' ⟨rfl, rfl⟩) | (go_at_call 36; refine HRC.out.mono ?_; rintro e w5 ⟨rfl, hb5⟩))
        go_ret
        exact ⟨Pl.ret_bool HE.out.symm, blw_trans HB3.out hb5⟩

      rw [hru] at HRC
      have HN : Hid (allH (grantAt K.grs) (q + 1) = true) := by show (allH _ q && grantAt K.grs q) = true; rw [HQ.out, HP.out, hn, hnm, hby, hru]; rfl
      go_wp2_with (first | (go_at_call 35; refine (l1NameOk_any _ _ (by have := HSZ.out.1; show _ ≤ 9223372036854775807; omega)).mono ?_; rintro e w' ⟨rfl, rfl⟩) | (go_at_call 36; refine HRC.out.mono ?_; rintro e w5 ⟨rfl, hb5⟩))
      go_roundw
      case rel => exact ⟨q + 1, by omega, by go_num, HN.out, HX3.out.later hb5, blw_trans HB3.out hb5⟩
      case measure => simp [intOf]; omega
    obtain rfl : q = K.grs.length := by omega
    have HE : Hid (R = true) := by show R = _; rw [HR1.out, HQ.out]
    go_wp2
    go_ret
    exact ⟨Pl.ret_bool HE.out.symm, HB2.out⟩
end Go.Proofs.Ytkehaeppnmlafaa
