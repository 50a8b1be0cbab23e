/-
  What all agree on: the specification.
-/
import Derived.Test.YtcefgacmagobnaaKAp
namespace Go.Proofs.Ytcefgacmagobnaa
open Go.RowKit Go.Deep


set_option maxRecDepth 8000 in
set_option maxHeartbeats 8000000 in
theorem l27FixedS (K : Rw) (ix : Int) (a0 a1 a2 : Option Addr) (c0 c1 c2 : Nat) (w : World) (h : RwV w a0 a1 a2 K) :
    Calls Try.prog 36 #[.agg #[.slice a0 K.recs.length c0, .slice a1 K.fl.length c1, .slice a2 K.fx.length c2], .int .i64 ix] w fun e w' => e = .returned (.tuple #[.string (fixOf K.fx ix).1, .bool (fixOf K.fx ix).2]) ∧ Below w.heap.size w w' := by
  have HH := hid h.l2
  have hl2 := h.l2.len
  clear h
  obtain ⟨R, hR⟩ : ∃ R, R = fixOf K.fx ix := ⟨_, rfl⟩
  have HR : Hid (R = if 0 ≤ firstTo (fun i => (K.fx.getD i Rf.none).ix == ix) K.fx.length then ((K.fx.getD (firstTo (fun i => (K.fx.getD i Rf.none).ix == ix) K.fx.length).toNat Rf.none).txt, true) else (ByteArray.empty, false)) := hR
  rw [← hR]
  clear hR
  obtain ⟨wa, hwa⟩ : ∃ wa, wa = w.alloc (.cells #[.slice a0 K.recs.length c0, .slice a1 K.fl.length c1, .slice a2 K.fx.length c2] 33) := ⟨_, rfl⟩
  have HB : Hid (Below w.heap.size w wa) := by show Below _ _ _; rw [hwa]; exact blw_alloc (Below.refl _ _) _
  have HX : Hid (LBox wa w.heap.size [.slice a0 K.recs.length c0, .slice a1 K.fl.length c1, .slice a2 K.fx.length c2]) := by show LBox _ _ _; rw [hwa]; exact LBox.new w #[.slice a0 K.recs.length c0, .slice a1 K.fl.length c1, .slice a2 K.fx.length c2] _ _ rfl
  go_enter Try.func36, Try.ntmps36
  go_upto_region 1 with fail
  rw [← hwa]
  clear hwa
  go_wp2
  go_loopw [6] (fun i wr => ∃ q : Nat, q ≤ K.fx.length ∧ i = .int .i64 q ∧ (∀ j, j < q → ((K.fx.getD j Rf.none).ix == ix) = false) ∧ LBox wr w.heap.size [.slice a0 K.recs.length c0, .slice a1 K.fl.length c1, .slice a2 K.fx.length c2] ∧ Below w.heap.size w wr) (fun i _ => K.fx.length - (intOf i).toNat)
  case atStart => exact ⟨0, Nat.zero_le _, rfl, fun j hj => absurd hj (Nat.not_lt_zero _), HX.out, HB.out⟩
  case round =>
    obtain ⟨q, hq, rfl, ha, hX, hW⟩ := hrel
    have HQ := hid ha
    have HB2 := hid hW
    have HX2 := hid hX
    clear ha hW hX HX HB
    have yz := HX2.out.lt
    have y2 := HX2.out.get 2 _ rfl
    by_cases hlt : q < K.fx.length
    · obtain ⟨b, off, hab, hbl, e0, e1, _⟩ := (HH.out.later HB2.out).at_ q hlt
      subst hab
      obtain ⟨x, hx⟩ : ∃ x : Rf, x = K.fx.getD q Rf.none := ⟨_, rfl⟩
      rw [← hx] at e0 e1
      have HXE := hid hx
      clear hx
      have hm0 : (0 : Int) ≤ (q : Int) := by omega
      have hm3 : (q : Int) < (K.fx.length : Int) := by omega
      cases hd : (x.ix == ix)
      · have HN : Hid (∀ j, j < q + 1 → ((K.fx.getD j Rf.none).ix == ix) = false) := fun j hj => by
          by_cases e : j = q
          · subst e; rw [← HXE.out]; exact hd
          · exact HQ.out j (by omega)
        go_wp2
        go_roundw
        case rel => exact ⟨q + 1, by omega, by go_num, HN.out, HX2.out, HB2.out⟩
        case measure => simp [intOf]; omega
      · have HF : Hid (R = (x.txt, true)) := by
          show R = _
          rw [HR.out, firstTo_hit hlt (by rw [← HXE.out]; exact hd) HQ.out, if_pos (by omega), Int.toNat_natCast, ← HXE.out]
        go_wp2
        go_ret2
        exact ⟨by rw [HF.out]; rfl, HB2.out⟩
    · obtain rfl : q = K.fx.length := by omega
      have HF : Hid (R = (ByteArray.empty, false)) := by show R = _; rw [HR.out, firstTo_none HQ.out]; rfl
      go_wp2
      go_ret2
      exact ⟨by rw [HF.out]; rfl, HB2.out⟩

theorem wt_txs : ∀ l : List Rs, wtL ((l.map (·.txt)).flatMap eTx) ≤ wtL (l.flatMap eRs)
  | [] => by simp [wtL]
  | x :: xs => by
    have := wt_txs xs
    simp only [List.map_cons, List.flatMap_cons, wtL_app, eTx, eRs, wtL] at this ⊢
    omega
theorem wt_take (l : List Rs) (n : Nat) : wtL ((l.take n).flatMap eRs) ≤ wtL (l.flatMap eRs) := by
  have : l.flatMap eRs = (l.take n).flatMap eRs ++ (l.drop n).flatMap eRs := by rw [← List.flatMap_append, List.take_append_drop]
  rw [this, wtL_app]; omega
theorem book_wt (K : Rr) : (bookOf K).length + wtL ((bookOf K).flatMap eTx) ≤ wtL (eRr K) := by
  have h1 := book_len K
  have h2 : wtL ((bookOf K).flatMap eTx) ≤ wtL (K.disk.slots.flatMap eRs) := by
    unfold bookOf
    split
    · exact Nat.le_trans (wt_txs _) (wt_take _ _)
    · simp [wtL]
  simp only [eRr, eRd, wtL, wtL_app]
  omega
theorem same_cmm (a b : ByteArray) : (a.toList == b.toList) = same a b := rfl

set_option maxRecDepth 8000 in
set_option maxHeartbeats 16000000 in
theorem recAgreeS (K : Rw) (a0 a1 a2 : Option Addr) (c0 c1 c2 : Nat) (w : World) (h : RwV w a0 a1 a2 K) :
    Calls Try.prog 13 #[.agg #[.slice a0 K.recs.length c0, .slice a1 K.fl.length c1, .slice a2 K.fx.length c2]] w fun e w' => e = .returned (.bool (agreeW K)) ∧ Below w.heap.size w w' := by
  have HH := hid h
  have hl0 := h.l0.len
  clear h
  obtain ⟨R, hR⟩ : ∃ R, R = agreeW K := ⟨_, rfl⟩
  have HR : Hid (R = (worldOk K && (allTo (bookAt K) K.recs.length && allTo (majAg K) 120))) := hR
  rw [← hR]
  clear hR
  obtain ⟨wa, hwa⟩ : ∃ wa, wa = w.alloc (.cells #[.slice a0 K.recs.length c0, .slice a1 K.fl.length c1, .slice a2 K.fx.length c2] 33) := ⟨_, rfl⟩
  have HB : Hid (Below w.heap.size w wa) := by show Below _ _ _; rw [hwa]; exact blw_alloc (Below.refl _ _) _
  have HX : Hid (LBox wa w.heap.size [.slice a0 K.recs.length c0, .slice a1 K.fl.length c1, .slice a2 K.fx.length c2]) := by show LBox _ _ _; rw [hwa]; exact LBox.new w #[.slice a0 K.recs.length c0, .slice a1 K.fl.length c1, .slice a2 K.fx.length c2] _ _ rfl
  go_enter Try.func13, Try.ntmps13
  go_upto_region 1 with fail
  rw [← hwa]
  clear hwa
  have yz := HX.out.lt
  have y := HX.out.at_
  have HC := hid (recWorldOkS K a0 a1 a2 c0 c1 c2 wa (HH.out.later HB.out))
  go_wp2_with (refine wpList_load_mid rfl 33 _ rfl w.heap.size 0 rfl [.slice a0 K.recs.length c0, .slice a1 K.fl.length c1, .slice a2 K.fx.length c2] _ y Try.underlying33 rfl (by kernel_rfl) ?_)
  refine HC.out.mono ?_
  rintro e w1 ⟨rfl, hb⟩
  have HB2 := hid (blw_trans HB.out hb)
  have HX2 := hid (HX.out.later hb)
  clear hb HC yz y HX HB
  cases hok : worldOk K
  · have HE : Hid (R = false) := by show R = _; rw [HR.out, hok]; rfl
    go_wp2
    go_ret
    exact ⟨Pl.ret_bool HE.out.symm, HB2.out⟩
  have HR1 : Hid (R = (allTo (bookAt K) K.recs.length && allTo (majAg K) 120)) := by show R = _; rw [HR.out, hok]; rfl
  clear HR
  go_wp2
  go_loopw [3, 4, 5, 6, 7] (fun i _ _ _ _ wr => ∃ q : Nat, q ≤ K.recs.length ∧ i = .int .i64 q ∧ allTo (bookAt K) q = true ∧ LBox wr w.heap.size [.slice a0 K.recs.length c0, .slice a1 K.fl.length c1, .slice a2 K.fx.length c2] ∧ Below w.heap.size w wr) (fun i _ _ _ _ _ => K.recs.length - (intOf i).toNat)
  case atStart => exact ⟨0, Nat.zero_le _, rfl, rfl, HX2.out, HB2.out⟩
  case round =>
    obtain ⟨wo, rfl⟩ : ∃ wo, wo = wr := ⟨_, rfl⟩
    obtain ⟨q, hq, rfl, ha, hX, hW⟩ := hrel
    have HQ := hid ha
    have HB3 := hid hW
    have HX3 := hid hX
    clear ha hW hX HX2 HB2
    have yz := HX3.out.lt
    have y0 := HX3.out.get 0 _ rfl
    by_cases hlt : q < K.recs.length
    · obtain ⟨b, off, ve, hab, hbl, hlen, hrg, hE, hwt⟩ := (HH.out.l0.later HB3.out).spec q hlt
      subst hab
      obtain ⟨x, hx⟩ : ∃ x : Rr, x = K.recs.getD q Rr.nil := ⟨_, rfl⟩
      rw [← hx] at hE hwt
      have HL := hid hlen
      have HP : Hid (bookAt K q = allTo (fun k : Nat => isFix K.fx ((k : Int) + 1) ((bookOf x).getD k ByteArray.empty)) (bookOf x).length) := by show _ = _; rw [bookAt, ← hx]
      have HC := hid (recBookS x ve wo hE hwt)
      have HBW : Hid ((bookOf x).length + wtL ((bookOf x).flatMap eTx) ≤ 1048576) := by
        show _ ≤ _
        have := book_wt x
        omega
      have hm0 : (0 : Int) ≤ (q : Int) := by omega
      have hm3 : (q : Int) < (K.recs.length : Int) := by omega
      clear hx hE hwt hlen
      go_wp2_with (refine wpList_load_mid rfl 52 _ rfl b (off + q * 18) rfl ve _ hrg Try.underlying52 rfl (by rw [HL.out]; kernel_rfl) ?_)
      refine HC.out.mono ?_
      rintro e w2 ⟨vb, F, rfl, rep, nd, fr, hb⟩
      obtain ⟨ab, cb, hvb, hcb, hTx⟩ := vTx rep.raw HBW.out
      subst hvb
      have HB4 := hid (blw_trans HB3.out hb)
      have HX4 := hid (HX3.out.later hb)
      have HTX := hid hTx
      have hbl2 := hTx.len
      clear hb HC hrg HL hTx rep nd fr yz y0 hbl hcb
      obtain ⟨B, hB⟩ : ∃ B, B = bookOf x := ⟨_, rfl⟩
      rw [← hB] at HTX HP hbl2 ⊢
      clear hB HBW
      go_wp2
      go_loopw [5, 6, 7] (fun i _ _ wr => ∃ k : Nat, k ≤ B.length ∧ i = .int .i64 k ∧ allTo (fun k : Nat => isFix K.fx ((k : Int) + 1) (B.getD k ByteArray.empty)) k = true ∧ Below w2.heap.size w2 wr) (fun i _ _ _ => B.length - (intOf i).toNat)
      case atStart => exact ⟨0, Nat.zero_le _, rfl, rfl, Below.refl _ _⟩
      case round =>
        obtain ⟨k, hk, rfl, ha, hW⟩ := hrel
        have HK := hid ha
        have HBX := hid hW
        have HX5 := hid (HX4.out.later hW)
        have HB5 := hid (blw_trans HB4.out hW)
        clear ha hW
        by_cases hlk : k < B.length
        · obtain ⟨bt, ot, hat, hbt, ht, _⟩ := (HTX.out.later HBX.out).at_ k hlk
          subst hat
          obtain ⟨t, ht0⟩ : ∃ t : ByteArray, t = B.getD k ByteArray.empty := ⟨_, rfl⟩
          rw [← ht0] at ht
          have HPK : Hid ((fun k : Nat => isFix K.fx ((k : Int) + 1) (B.getD k ByteArray.empty)) k = ((fixOf K.fx ((k : Int) + 1)).2 && same (fixOf K.fx ((k : Int) + 1)).1 t)) := by show isFix _ _ _ = _; rw [isFix, ← ht0]
          have yz := HX5.out.lt
          have y := HX5.out.at_
          have HC := hid (l27FixedS K ((k : Int) + 1) (some ⟨b, off, none⟩) a1 a2 c0 c1 c2 _ (HH.out.later HB5.out))
          clear ht0
          go_wp2_with (refine wpList_load_mid rfl 33 _ rfl w.heap.size 0 rfl [.slice (some ⟨b, off, none⟩) K.recs.length c0, .slice a1 K.fl.length c1, .slice a2 K.fx.length c2] _ y Try.underlying33 rfl (by kernel_rfl) ?_)
          refine HC.out.mono ?_
          rintro e w3 ⟨rfl, hb⟩
          have HBX2 := hid (blw_trans HBX.out hb)
          have HB6 := hid (blw_trans HB5.out hb)
          replace ht := (hb.cell (p := ⟨bt, ot + k, none⟩) hbt).trans ht
          replace hbt := Nat.lt_of_lt_of_le hbt hb.size
          have hk0 : (0 : Int) ≤ (k : Int) := by omega
          have hk3 : (k : Int) < (B.length : Int) := by omega
          obtain ⟨f1, hf1⟩ : ∃ f1, f1 = (fixOf K.fx ((k : Int) + 1)).1 := ⟨_, rfl⟩
          obtain ⟨f2, hf2⟩ : ∃ f2, f2 = (fixOf K.fx ((k : Int) + 1)).2 := ⟨_, rfl⟩
          rw [← hf1, ← hf2] at HPK ⊢
          clear hb HC yz y hf1 hf2 HX5 HB5 HBX
          cases f2
          · have HE : Hid (R = false) := by
              show R = _
              rw [HR1.out, allTo_false (k := q) (by rw [HP.out]; exact allTo_false (k := k) (HPK.out.trans rfl) _ hlk) _ hlt]; rfl
            go_wp2
            go_ret
            exact ⟨Pl.ret_bool HE.out.symm, HB6.out⟩
          cases hs : (f1.toList == t.toList)
          · have hs2 : (f1.toList != t.toList) = true := by rw [bne, hs]; rfl
            have HE : Hid (R = false) := by
              show R = _
              rw [HR1.out, allTo_false (k := q) (by rw [HP.out]; exact allTo_false (k := k) (HPK.out.trans (by simp [same, hs])) _ hlk) _ hlt]; rfl
            go_wp2
            go_ret
            exact ⟨Pl.ret_bool HE.out.symm, HB6.out⟩
          · have hs2 : (f1.toList != t.toList) = false := by rw [bne, hs]; rfl
            have HN := hid (allTo_stepS HK.out (HPK.out.trans (by simp [same, hs])))
            go_wp2
            go_roundw
            case rel => exact ⟨k + 1, by omega, by go_num, HN.out, HBX2.out⟩
            case measure => simp [intOf]; omega
        · obtain rfl : k = B.length := by omega
          have HN : Hid (allTo (bookAt K) (q + 1) = true) := allTo_stepS HQ.out (HP.out.trans HK.out)
          go_wp2
          go_roundw
          case rel => exact ⟨q + 1, by omega, by go_num, HN.out, HX5.out, HB5.out⟩
          case measure => simp [intOf]; omega
    · obtain rfl : q = K.recs.length := by omega
      have HR2 : Hid (R = allTo (majAg K) 120) := by show R = _; rw [HR1.out, HQ.out]; rfl
      clear HR1 HQ
      go_wp2
      clear yz y0
      go_loopw [8, 9, 10, 11, 12] (fun i _ _ _ _ wr => ∃ k : Nat, k ≤ 120 ∧ i = .int .i64 ((k : Int) + 1) ∧ allTo (majAg K) k = true ∧ LBox wr w.heap.size [.slice a0 K.recs.length c0, .slice a1 K.fl.length c1, .slice a2 K.fx.length c2] ∧ Below w.heap.size w wr) (fun i _ _ _ _ _ => 121 - (intOf i).toNat)
      case atStart => exact ⟨0, Nat.zero_le _, rfl, rfl, HX3.out, HB3.out⟩
      case round =>
        obtain ⟨k, hk, rfl, ha, hX, hW⟩ := hrel
        have HK := hid ha
        have HB4 := hid hW
        have HX4 := hid hX
        clear ha hW hX HX3 HB3
        by_cases hlk : k < 120
        · have hk1 : (k : Int) + 1 ≤ 120 := by omega
          have yz := HX4.out.lt
          have y := HX4.out.at_
          have HC := hid (l27MajorS K ((k : Int) + 1) a0 a1 a2 c0 c1 c2 _ (HH.out.later HB4.out))
          have HPK : Hid (majAg K k = (!(major K.recs ((k : Int) + 1)).2 || ((fixOf K.fx ((k : Int) + 1)).2 && same (fixOf K.fx ((k : Int) + 1)).1 (major K.recs ((k : Int) + 1)).1))) := rfl
          obtain ⟨m1, hm1⟩ : ∃ m1, m1 = (major K.recs ((k : Int) + 1)).1 := ⟨_, rfl⟩
          obtain ⟨m2, hm2⟩ : ∃ m2, m2 = (major K.recs ((k : Int) + 1)).2 := ⟨_, rfl⟩
          rw [← hm1, ← hm2] at HPK HC
          clear hm1 hm2
          go_wp2_with (refine wpList_load_mid rfl 33 _ rfl w.heap.size 0 rfl [.slice a0 K.recs.length c0, .slice a1 K.fl.length c1, .slice a2 K.fx.length c2] _ y Try.underlying33 rfl (by kernel_rfl) ?_)
          refine HC.out.mono ?_
          rintro e w3 ⟨rfl, hb⟩
          have HB5 := hid (blw_trans HB4.out hb)
          have HX5 := hid (HX4.out.later hb)
          clear hb HC yz y HX4 HB4
          have yz := HX5.out.lt
          have y := HX5.out.at_
          have HC := hid (l27FixedS K ((k : Int) + 1) a0 a1 a2 c0 c1 c2 w3 (HH.out.later HB5.out))
          obtain ⟨f1, hf1⟩ : ∃ f1, f1 = (fixOf K.fx ((k : Int) + 1)).1 := ⟨_, rfl⟩
          obtain ⟨f2, hf2⟩ : ∃ f2, f2 = (fixOf K.fx ((k : Int) + 1)).2 := ⟨_, rfl⟩
          rw [← hf1, ← hf2] at HPK HC
          clear hf1 hf2
          go_wp2_with (refine wpList_load_mid rfl 33 _ rfl w.heap.size 0 rfl [.slice a0 K.recs.length c0, .slice a1 K.fl.length c1, .slice a2 K.fx.length c2] _ y Try.underlying33 rfl (by kernel_rfl) ?_)
          refine HC.out.mono ?_
          rintro e w4 ⟨rfl, hb⟩
          have HB6 := hid (blw_trans HB5.out hb)
          have HX6 := hid (HX5.out.later hb)
          clear hb HC yz y HX5 HB5
          cases m2
          · have HN := hid (allTo_stepS HK.out (HPK.out.trans rfl))
            go_wp2
            go_roundw
            case rel => exact ⟨k + 1, by omega, by go_num, HN.out, HX6.out, HB6.out⟩
            case measure => simp [intOf]; omega
          cases f2
          · have HE : Hid (R = false) := by show R = _; rw [HR2.out]; exact allTo_false (k := k) (HPK.out.trans rfl) _ hlk
            go_wp2
            go_ret
            exact ⟨Pl.ret_bool HE.out.symm, HB6.out⟩
          cases hs : (f1.toList == m1.toList)
          · have hs2 : (f1.toList != m1.toList) = true := by rw [bne, hs]; rfl
            have HE : Hid (R = false) := by show R = _; rw [HR2.out]; exact allTo_false (k := k) (HPK.out.trans (by simp [same, hs])) _ hlk
            go_wp2
            go_ret
            exact ⟨Pl.ret_bool HE.out.symm, HB6.out⟩
          · have hs2 : (f1.toList != m1.toList) = false := by rw [bne, hs]; rfl
            have HN := hid (allTo_stepS HK.out (HPK.out.trans (by simp [same, hs])))
            go_wp2
            go_roundw
            case rel => exact ⟨k + 1, by omega, by go_num, HN.out, HX6.out, HB6.out⟩
            case measure => simp [intOf]; omega
        · obtain rfl : k = 120 := by omega
          have hk1 : ¬ (((120 : Nat) : Int) + 1 ≤ 120) := by omega
          have HE : Hid (R = true) := by show R = _; rw [HR2.out, HK.out]
          go_wp2
          go_ret
          exact ⟨Pl.ret_bool HE.out.symm, HB4.out⟩
end Go.Proofs.Ytcefgacmagobnaa
