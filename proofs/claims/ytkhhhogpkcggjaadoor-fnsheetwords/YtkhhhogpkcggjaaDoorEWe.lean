/-
  Sheets: the words of a line: the specification.
-/
import Derived.Test.YtkhhhogpkcggjaaDoorEWd
import Derived.Test.YtkhhhogpkcggjaaDoorEPw
import Derived.Test.YtkhhhogpkcggjaaDoorETx
import Derived.Test.YtkhhhogpkcggjaaDoorECs
namespace Go.Proofs.YtkhhhogpkcggjaaDoor
open Go.RowKit Go.Deep

/-- The words of a line as data. -/
def cutD (l : List UInt8) : List Dt := match Pl.cutL l 0 with
  | some ws => [.row ws.length (txD ws), .b false]
  | none => [.row 0 [], .b true]
/-- While a line is cut: the answer's variable, a bad answer, the words so far. -/
structure WC (w wr : World) (v : Value) (ws : List ByteArray) : Prop where
  bel : Below w.heap.size w wr
  res : WBox wr w.heap.size 26 [.slice none 0 0, .bool false]
  bad : WBox wr (w.heap.size + 1) 26 [.slice none 0 0, .bool true]
  out : WBox wr (w.heap.size + 2) 26 [v, .bool false]
  row : TxR wr (w.heap.size + 3) v ws
theorem WC.later {w wr wr' : World} {v : Value} {ws : List ByteArray} (h : WC w wr v ws) (hb : Below wr.heap.size wr wr') : WC w wr' v ws := ⟨blw_trans h.bel hb, h.res.later hb, h.bad.later hb, h.out.later hb, h.row.later hb⟩
theorem ansBad (w : World) (l : List UInt8) (h : Pl.cutL l 0 = none) (we : World) (hb : Below w.heap.size w we) : Ans shSheetCut (cutD l) w (.returned (.agg [.slice none 0 0, .bool true].toArray)) we := by
  rw [cutD, h]
  exact ⟨[.slice none 0 0, .bool true], [], rfl, .emp _ _ none rfl (.b _ .nil), List.nodup_nil, by simp, hb⟩
theorem ansCut (w : World) (l : List UInt8) (ws : List ByteArray) (v : Value) (h : Pl.cutL l 0 = some ws) (we : World) (hb : Below w.heap.size w we) (hr : TxR we (w.heap.size + 3) v ws) : Ans shSheetCut (cutD l) w (.returned (.agg [v, .bool false].toArray)) we := by
  rw [cutD, h]
  obtain ⟨F, h1, h2, h3⟩ := hr.done
  exact ⟨[v, .bool false], F ++ [], rfl, h1.app (.b false .nil), by rw [List.append_nil]; exact h2, fun b hb' => by rw [List.append_nil] at hb'; have := h3 b hb'; omega, hb⟩

theorem WC.grown {w wr w1 : World} {v : Value} {ws : List ByteArray} (h : WC w wr v ws) (hg : wr.grownBy w1 v.ownBlock) : Below w.heap.size w w1 ∧ WBox w1 (w.heap.size + 2) 26 [v, .bool false] ∧ WBox w1 w.heap.size 26 [.slice none 0 0, .bool false] ∧ WBox w1 (w.heap.size + 1) 26 [.slice none 0 0, .bool true] := by
  have hn : ∀ p, p < w.heap.size + 3 → v.ownBlock ≠ some p := fun p hp e => by have := (owns_blk_lt h.row e).1; omega
  exact ⟨h.row.below (lo := w.heap.size + 3) h.bel hg (by omega), h.out.grow hg (hn _ (by omega)), h.res.grow hg (hn _ (by omega)), h.bad.grow hg (hn _ (by omega))⟩
theorem WC.put {w w1 : World} {v v' : Value} {ws : List ByteArray} (hb : Below w.heap.size w w1) (ho : WBox w1 (w.heap.size + 2) 26 [v, .bool false]) (hr : WBox w1 w.heap.size 26 [.slice none 0 0, .bool false]) (hd : WBox w1 (w.heap.size + 1) 26 [.slice none 0 0, .bool true])
    (hx : TxR w1 (w.heap.size + 3) v' ws) : WC w (w1.setCell ⟨w.heap.size + 2, 0, none⟩ v') v' ws :=
  ⟨hb.setCell (p := ⟨w.heap.size + 2, 0, none⟩) (by show w.heap.size ≤ w.heap.size + 2; omega) _, hr.other (by omega) _ _, hd.other (by omega) _ _, ho.set 0 v' (by simp), owns_mks hx (Marks.sc (S := fun b => b = w.heap.size + 2) w1 rfl 0 v') fun b hb e => by omega⟩

set_option maxRecDepth 8000 in
set_option maxHeartbeats 8000000 in
theorem sheetWordsS (s : ByteArray) (w : World) (hs : s.size ≤ 1048576) :
    Calls Tryd.prog 6 #[.string s] w (Ans shSheetCut (cutD s.data.toList) w) := by
  obtain ⟨wa, hwa⟩ : ∃ wa, wa = ((w.alloc (.cells #[.slice none 0 0, .bool false] 26)).alloc (.cells #[.slice none 0 0, .bool true] 26)).alloc (.cells #[.slice none 0 0, .bool false] 26) := ⟨_, rfl⟩
  have H0 : Hid (WC w wa (.slice none 0 0) []) := by
    show WC _ _ _ _
    rw [hwa]
    exact ⟨blw_alloc (blw_alloc (blw_alloc (Below.refl _ _) _) _) _, ((WBox.new w [.slice none 0 0, .bool false] 26 _ rfl).later (blw_alloc (Below.refl _ _) _)).later (blw_alloc (Below.refl _ _) _), (WBox.new (w.alloc (.cells #[.slice none 0 0, .bool false] 26)) [.slice none 0 0, .bool true] 26 _ (by simp)).later (blw_alloc (Below.refl _ _) _), WBox.new _ [.slice none 0 0, .bool false] 26 _ (by simp), TxR.nil _ _⟩
  go_enter Tryd.func6, Tryd.ntmps6
  go_upto_region 3 with fail
  rw [← hwa]
  clear hwa
  go_wp2
  go_loopw [5] (fun i wr => ∃ (k : Nat) (v : Value) (ws : List ByteArray), k ≤ s.size ∧ i = .int .i64 k ∧ WC w wr v ws ∧ ws.length ≤ 8 ∧ Pl.cutL s.data.toList 0 = (Pl.cutL (s.data.toList.drop k) ws.length).map (ws ++ ·)) (fun i _ => s.size - (intOf i).toNat)
  case atStart => exact ⟨0, _, [], Nat.zero_le _, rfl, H0.out, Nat.zero_le _, by simp⟩
  case round =>
    obtain ⟨k, v, ws, hk, rfl, hWC, h8, hCU⟩ := hrel
    have HWC := uh hWC
    have HCU := uh hCU
    obtain ⟨va, vc, hv⟩ := hWC.row.shape
    subst hv
    clear hWC hCU H0
    by_cases hlt : k < s.size
    rotate_left
    · obtain rfl : k = s.size := by omega
      have HNO : Hid (Pl.cutL s.data.toList 0 = some ws) := by show _ = _; rw [HCU.out, List.drop_of_length_le (by rw [Pl.len_data]; exact Nat.le_refl _), Pl.cutL]; simp
      go_upto_region 26 with fail
      have hxa := HWC.out.out.at_
      have hxl := HWC.out.out.own.lt
      have hol := HWC.out.res.own.lt
      have hth : wr.there w.heap.size 0 (#[.slice va ws.length vc, .bool false] : Array Value).size := uthere HWC.out.res.own _ _ (by simp)
      obtain ⟨we, hwe⟩ : ∃ we, we = wr.setCells w.heap.size 0 [.slice va ws.length vc, .bool false] := ⟨_, rfl⟩
      have hrt : we.rangeAt w.heap.size 0 [.slice va ws.length vc, .bool false] := by rw [hwe]; exact World.rangeAt_setCells_same _ _ _ _ hth
      have HBB : Hid (Below w.heap.size w we) := by show Below _ _ _; rw [hwe]; exact blw_scs (Nat.le_refl _) _ _ _ HWC.out.bel
      have HWE : Hid (∀ v l, TxR wr (w.heap.size + 3) v l → TxR we (w.heap.size + 3) v l) := by
        intro v l h; rw [hwe]; exact owns_scs_lo h (by omega) _
      go_wp2_with (first | (refine wpList_load_mid rfl 26 _ rfl (w.heap.size + 2) 0 rfl [.slice va ws.length vc, .bool false] _ hxa Tryd.underlying26 rfl (by kernel_rfl) ?_) | (refine wpList_store_mid rfl 26 _ _ rfl w.heap.size 0 #[.slice va ws.length vc, .bool false] rfl rfl hth (by kernel_rfl) (by simp [Value.oneCell']) ?_))
      first | rw [← hwe] | (simp only [List.toList_toArray]; rw [← hwe])
      try simp only [Act.put]
      refine bodyPost_ret (v := .agg #[.slice va ws.length vc, .bool false]) (by simp [results, Tryd.results6, asAddr, run_loadVar_mid (P := Tryd.prog) _ _ _ 26 [.slice va ws.length vc, .bool false] _ hrt Tryd.underlying26 rfl (by kernel_rfl)]) rfl ?_
      exact ansCut w _ ws _ HNO.out we HBB.out (HWE.out _ _ HWC.out.row)
    rw [Pl.drop_at s k hlt] at HCU
    by_cases c1 : s[k].toNat = 32
    · have d1 : ((s[k].toNat : Int) == 32) = true := by simp; omega
      have HNX : Hid (Pl.cutL s.data.toList 0 = (Pl.cutL (s.data.toList.drop (k + 1)) ws.length).map (ws ++ ·)) := by show _ = _; rw [HCU.out, Pl.cutL, if_pos c1]
      clear c1
      go_wp2
      go_roundw
      case rel => exact ⟨k + 1, _, ws, by omega, by go_num, HWC.out, h8, HNX.out⟩
      case measure => simp [intOf]; omega
    have d1 : ((s[k].toNat : Int) == 32) = false := by simp; omega
    by_cases c2 : s[k].toNat = 35
    · have d2 : ((s[k].toNat : Int) == 35) = true := by simp; omega
      have HNO : Hid (Pl.cutL s.data.toList 0 = some ws) := by show _ = _; rw [HCU.out, Pl.cutL, if_neg c1, if_pos c2]; simp
      clear c1 c2
      go_upto_region 15 with fail
      have hxa := HWC.out.out.at_
      have hxl := HWC.out.out.own.lt
      have hol := HWC.out.res.own.lt
      have hth : wr.there w.heap.size 0 (#[.slice va ws.length vc, .bool false] : Array Value).size := uthere HWC.out.res.own _ _ (by simp)
      obtain ⟨we, hwe⟩ : ∃ we, we = wr.setCells w.heap.size 0 [.slice va ws.length vc, .bool false] := ⟨_, rfl⟩
      have hrt : we.rangeAt w.heap.size 0 [.slice va ws.length vc, .bool false] := by rw [hwe]; exact World.rangeAt_setCells_same _ _ _ _ hth
      have HBB : Hid (Below w.heap.size w we) := by show Below _ _ _; rw [hwe]; exact blw_scs (Nat.le_refl _) _ _ _ HWC.out.bel
      have HWE : Hid (∀ v l, TxR wr (w.heap.size + 3) v l → TxR we (w.heap.size + 3) v l) := by
        intro v l h; rw [hwe]; exact owns_scs_lo h (by omega) _
      go_wp2_with (first | (refine wpList_load_mid rfl 26 _ rfl (w.heap.size + 2) 0 rfl [.slice va ws.length vc, .bool false] _ hxa Tryd.underlying26 rfl (by kernel_rfl) ?_) | (refine wpList_store_mid rfl 26 _ _ rfl w.heap.size 0 #[.slice va ws.length vc, .bool false] rfl rfl hth (by kernel_rfl) (by simp [Value.oneCell']) ?_))
      first | rw [← hwe] | (simp only [List.toList_toArray]; rw [← hwe])
      try simp only [Act.put]
      refine bodyPost_ret (v := .agg #[.slice va ws.length vc, .bool false]) (by simp [results, Tryd.results6, asAddr, run_loadVar_mid (P := Tryd.prog) _ _ _ 26 [.slice va ws.length vc, .bool false] _ hrt Tryd.underlying26 rfl (by kernel_rfl)]) rfl ?_
      exact ansCut w _ ws _ HNO.out we HBB.out (HWE.out _ _ HWC.out.row)
    have d2 : ((s[k].toNat : Int) == 35) = false := by simp; omega
    have HCN := uh (fun (h : Pl.nextW s[k] (s.data.toList.drop (k + 1)) = none) => Pl.cutN (s.data.toList.drop (k + 1)) s[k] ws.length c1 c2 h)
    have HCX := uh (fun x n (h : Pl.nextW s[k] (s.data.toList.drop (k + 1)) = some (x, n)) hb => Pl.cutX (s.data.toList.drop (k + 1)) s[k] ws.length x n c1 c2 h hb)
    have HCY := uh (fun x n (h : Pl.nextW s[k] (s.data.toList.drop (k + 1)) = some (x, n)) hb => Pl.cutY (s.data.toList.drop (k + 1)) s[k] ws.length x n c1 c2 h hb)
    by_cases c3 : s[k].toNat = 34
    · have d3 : ((s[k].toNat : Int) == 34) = true := by simp; omega
      have HNW : Hid (Pl.nextW s[k] (s.data.toList.drop (k + 1)) = Pl.quoL (s.data.toList.drop (k + 1))) := by show _ = _; rw [Pl.nextW, if_pos c3]
      clear c1 c2 c3
      have hexs : (s.extract (k + 1) s.size).size ≤ 1048576 := by rw [ByteArray.size_extract]; omega
      have HCQ := uh (fun W => l37QuotedS (s.extract (k + 1) s.size) W hexs)
      rw [Pl.ext_end] at HCQ
      cases hqq : Pl.quoL (s.data.toList.drop (k + 1)) with
      | none =>
        have HNO : Hid (Pl.cutL s.data.toList 0 = none) := by show _ = _; rw [HCU.out, HCN.out (by rw [HNW.out, hqq])]; rfl
        rw [show Pl.quoT (s.data.toList.drop (k + 1)) = ([], 0) by rw [Pl.quoT, hqq]; rfl] at HCQ
        clear hqq hexs
        go_upto_region 19 with (go_at_call 19; refine (HCQ.out _).mono ?_; rintro e wq ⟨rfl, hb⟩)
        replace HWC := uh (HWC.out.later hb)
        clear hb
        have hxa := HWC.out.bad.at_
        have hxl := HWC.out.bad.own.lt
        have hol := HWC.out.res.own.lt
        have hth : wq.there w.heap.size 0 (#[.slice none 0 0, .bool true] : Array Value).size := uthere HWC.out.res.own _ _ (by simp)
        obtain ⟨we, hwe⟩ : ∃ we, we = wq.setCells w.heap.size 0 [.slice none 0 0, .bool true] := ⟨_, rfl⟩
        have hrt : we.rangeAt w.heap.size 0 [.slice none 0 0, .bool true] := by rw [hwe]; exact World.rangeAt_setCells_same _ _ _ _ hth
        have HBB : Hid (Below w.heap.size w we) := by show Below _ _ _; rw [hwe]; exact blw_scs (Nat.le_refl _) _ _ _ HWC.out.bel
        have HWE : Hid (∀ v l, TxR wq (w.heap.size + 3) v l → TxR we (w.heap.size + 3) v l) := by
          intro v l h; rw [hwe]; exact owns_scs_lo h (by omega) _
        go_wp2_with (first | (refine wpList_load_mid rfl 26 _ rfl (w.heap.size + 1) 0 rfl [.slice none 0 0, .bool true] _ hxa Tryd.underlying26 rfl (by kernel_rfl) ?_) | (refine wpList_store_mid rfl 26 _ _ rfl w.heap.size 0 #[.slice none 0 0, .bool true] rfl rfl hth (by kernel_rfl) (by simp [Value.oneCell']) ?_))
        first | rw [← hwe] | (simp only [List.toList_toArray]; rw [← hwe])
        try simp only [Act.put]
        refine bodyPost_ret (v := .agg #[.slice none 0 0, .bool true]) (by simp [results, Tryd.results6, asAddr, run_loadVar_mid (P := Tryd.prog) _ _ _ 26 [.slice none 0 0, .bool true] _ hrt Tryd.underlying26 rfl (by kernel_rfl)]) rfl ?_
        exact ansBad w _ HNO.out we HBB.out
      | some xn =>
        obtain ⟨x, n⟩ := xn
        have hlen := Pl.quoL_len _ _ (Nat.le_refl _) x n hqq
        rw [Pl.drop_len] at hlen
        obtain ⟨hn1, hn2⟩ := hlen
        rw [show Pl.quoT (s.data.toList.drop (k + 1)) = (x, n) by rw [Pl.quoT, hqq]; rfl] at HCQ
        obtain ⟨p, hp⟩ : ∃ p, p = k + 1 + n := ⟨_, rfl⟩
        obtain ⟨X, hX⟩ : ∃ X : ByteArray, X = ⟨x.toArray⟩ := ⟨_, rfl⟩
        have HXS : Hid (X.size = x.length) := by show _ = _; rw [hX]; simp [ByteArray.size]
        have HXX : Hid ((Pl.behind (s.data.toList.drop p) && decide (X.size ≤ 200) && decide (ws.length < 8)) = false → Pl.cutL (s[k] :: s.data.toList.drop (k + 1)) ws.length = none) := fun h => HCX.out x n (by rw [HNW.out, hqq]) (by rw [List.drop_drop, ← hp, ← HXS.out]; exact h)
        have HYY : Hid ((Pl.behind (s.data.toList.drop p) && decide (X.size ≤ 200) && decide (ws.length < 8)) = true → Pl.cutL (s[k] :: s.data.toList.drop (k + 1)) ws.length = (Pl.cutL (s.data.toList.drop p) (ws.length + 1)).map (X :: ·)) := fun h => by
          have := HCY.out x n (by rw [HNW.out, hqq]) (by rw [List.drop_drop, ← hp, ← HXS.out]; exact h)
          rw [List.drop_drop, ← hp, ← hX] at this; exact this
        rw [← hX] at HCQ
        have HPK : Hid (k < p) := by show k < p; omega
        have e1 : IntKind.i64.wrap ((k : Int) + 1) = (k : Int) + 1 := IntWalk.i64_in _ ⟨by omega, by omega⟩
        have e2 : IntKind.i64.wrap ((k : Int) + 1 + (n : Int)) = (p : Int) := by rw [IntWalk.i64_in _ ⟨by omega, by omega⟩]; omega
        have e3 : ((n : Int) == 0) = false := by simp; omega
        have hps0 : p ≤ s.size := by omega
        clear hqq hexs hn1 hn2 hp hX
        go_upto_region 22 with (go_at_call 19; refine (HCQ.out _).mono ?_; rintro e wq ⟨rfl, hb⟩)
        replace HWC := uh (HWC.out.later hb)
        clear hb e1 e2 e3 HCQ d1 d2 d3
        by_cases hA : Pl.behind (s.data.toList.drop p) = true
        rotate_left
        · have HNO : Hid (Pl.cutL s.data.toList 0 = none) := by show _ = _; rw [HCU.out, HXX.out (by simp [hA])]; rfl
          have hps : p < s.size := by
            rcases Nat.lt_or_ge p s.size with h | h
            · exact h
            · exact absurd (by rw [List.drop_of_length_le (by rw [Pl.len_data]; exact h)]; rfl) hA
          rw [Pl.drop_at s p hps] at hA
          have f1 : ((s[p].toNat : Int) != 32) = true := by simp [Pl.behind] at hA; simp; omega
          have f2 : ((s[p].toNat : Int) != 35) = true := by simp [Pl.behind] at hA; simp; omega
          clear hA
          go_upto_region 23 with fail
          clear f1 f2
          have hxa := HWC.out.bad.at_
          have hxl := HWC.out.bad.own.lt
          have hol := HWC.out.res.own.lt
          have hth : wq.there w.heap.size 0 (#[.slice none 0 0, .bool true] : Array Value).size := uthere HWC.out.res.own _ _ (by simp)
          obtain ⟨we, hwe⟩ : ∃ we, we = wq.setCells w.heap.size 0 [.slice none 0 0, .bool true] := ⟨_, rfl⟩
          have hrt : we.rangeAt w.heap.size 0 [.slice none 0 0, .bool true] := by rw [hwe]; exact World.rangeAt_setCells_same _ _ _ _ hth
          have HBB : Hid (Below w.heap.size w we) := by show Below _ _ _; rw [hwe]; exact blw_scs (Nat.le_refl _) _ _ _ HWC.out.bel
          have HWE : Hid (∀ v l, TxR wq (w.heap.size + 3) v l → TxR we (w.heap.size + 3) v l) := by
            intro v l h; rw [hwe]; exact owns_scs_lo h (by omega) _
          go_wp2_with (first | (refine wpList_load_mid rfl 26 _ rfl (w.heap.size + 1) 0 rfl [.slice none 0 0, .bool true] _ hxa Tryd.underlying26 rfl (by kernel_rfl) ?_) | (refine wpList_store_mid rfl 26 _ _ rfl w.heap.size 0 #[.slice none 0 0, .bool true] rfl rfl hth (by kernel_rfl) (by simp [Value.oneCell']) ?_))
          first | rw [← hwe] | (simp only [List.toList_toArray]; rw [← hwe])
          try simp only [Act.put]
          refine bodyPost_ret (v := .agg #[.slice none 0 0, .bool true]) (by simp [results, Tryd.results6, asAddr, run_loadVar_mid (P := Tryd.prog) _ _ _ 26 [.slice none 0 0, .bool true] _ hrt Tryd.underlying26 rfl (by kernel_rfl)]) rfl ?_
          exact ansBad w _ HNO.out we HBB.out
        have hA3 : (¬ (p : Int) < (s.size : Int)) ∨ (∃ h : p < s.size, (((s[p].toNat : Int) != 32) = false)) ∨ (∃ h : p < s.size, (((s[p].toNat : Int) != 32) = true) ∧ (((s[p].toNat : Int) != 35) = false)) := by
          by_cases h : p < s.size
          · rw [Pl.drop_at s p h] at hA
            simp [Pl.behind] at hA
            by_cases h2 : s[p].toNat = 32
            · exact Or.inr (Or.inl ⟨h, by simp; omega⟩)
            · exact Or.inr (Or.inr ⟨h, by simp; omega, by simp; omega⟩)
          · exact Or.inl (by omega)
        rcases hA3 with f0 | ⟨f0, f1⟩ | ⟨f0, f1, f2⟩
        all_goals
          by_cases hB : (200 : Int) < (X.size : Int)
          · have HNO : Hid (Pl.cutL s.data.toList 0 = none) := by show _ = _; rw [HCU.out, HXX.out (by have := HXS.out; simp; omega)]; rfl
            go_upto_region 23 with fail
            clear hB
            have hxa := HWC.out.bad.at_
            have hxl := HWC.out.bad.own.lt
            have hol := HWC.out.res.own.lt
            have hth : wq.there w.heap.size 0 (#[.slice none 0 0, .bool true] : Array Value).size := uthere HWC.out.res.own _ _ (by simp)
            obtain ⟨we, hwe⟩ : ∃ we, we = wq.setCells w.heap.size 0 [.slice none 0 0, .bool true] := ⟨_, rfl⟩
            have hrt : we.rangeAt w.heap.size 0 [.slice none 0 0, .bool true] := by rw [hwe]; exact World.rangeAt_setCells_same _ _ _ _ hth
            have HBB : Hid (Below w.heap.size w we) := by show Below _ _ _; rw [hwe]; exact blw_scs (Nat.le_refl _) _ _ _ HWC.out.bel
            have HWE : Hid (∀ v l, TxR wq (w.heap.size + 3) v l → TxR we (w.heap.size + 3) v l) := by
              intro v l h; rw [hwe]; exact owns_scs_lo h (by omega) _
            go_wp2_with (first | (refine wpList_load_mid rfl 26 _ rfl (w.heap.size + 1) 0 rfl [.slice none 0 0, .bool true] _ hxa Tryd.underlying26 rfl (by kernel_rfl) ?_) | (refine wpList_store_mid rfl 26 _ _ rfl w.heap.size 0 #[.slice none 0 0, .bool true] rfl rfl hth (by kernel_rfl) (by simp [Value.oneCell']) ?_))
            first | rw [← hwe] | (simp only [List.toList_toArray]; rw [← hwe])
            try simp only [Act.put]
            refine bodyPost_ret (v := .agg #[.slice none 0 0, .bool true]) (by simp [results, Tryd.results6, asAddr, run_loadVar_mid (P := Tryd.prog) _ _ _ 26 [.slice none 0 0, .bool true] _ hrt Tryd.underlying26 rfl (by kernel_rfl)]) rfl ?_
            exact ansBad w _ HNO.out we HBB.out
          have hout := HWC.out.out.get 0 _ rfl
          have houl := HWC.out.out.own.lt
          by_cases hC : (8 : Int) ≤ (ws.length : Int)
          · have HNO : Hid (Pl.cutL s.data.toList 0 = none) := by show _ = _; rw [HCU.out, HXX.out (by simp; omega)]; rfl
            go_upto_region 23 with fail
            clear hB hC hout houl
            have hxa := HWC.out.bad.at_
            have hxl := HWC.out.bad.own.lt
            have hol := HWC.out.res.own.lt
            have hth : wq.there w.heap.size 0 (#[.slice none 0 0, .bool true] : Array Value).size := uthere HWC.out.res.own _ _ (by simp)
            obtain ⟨we, hwe⟩ : ∃ we, we = wq.setCells w.heap.size 0 [.slice none 0 0, .bool true] := ⟨_, rfl⟩
            have hrt : we.rangeAt w.heap.size 0 [.slice none 0 0, .bool true] := by rw [hwe]; exact World.rangeAt_setCells_same _ _ _ _ hth
            have HBB : Hid (Below w.heap.size w we) := by show Below _ _ _; rw [hwe]; exact blw_scs (Nat.le_refl _) _ _ _ HWC.out.bel
            have HWE : Hid (∀ v l, TxR wq (w.heap.size + 3) v l → TxR we (w.heap.size + 3) v l) := by
              intro v l h; rw [hwe]; exact owns_scs_lo h (by omega) _
            go_wp2_with (first | (refine wpList_load_mid rfl 26 _ rfl (w.heap.size + 1) 0 rfl [.slice none 0 0, .bool true] _ hxa Tryd.underlying26 rfl (by kernel_rfl) ?_) | (refine wpList_store_mid rfl 26 _ _ rfl w.heap.size 0 #[.slice none 0 0, .bool true] rfl rfl hth (by kernel_rfl) (by simp [Value.oneCell']) ?_))
            first | rw [← hwe] | (simp only [List.toList_toArray]; rw [← hwe])
            try simp only [Act.put]
            refine bodyPost_ret (v := .agg #[.slice none 0 0, .bool true]) (by simp [results, Tryd.results6, asAddr, run_loadVar_mid (P := Tryd.prog) _ _ _ 26 [.slice none 0 0, .bool true] _ hrt Tryd.underlying26 rfl (by kernel_rfl)]) rfl ?_
            exact ansBad w _ HNO.out we HBB.out
          have HNX : Hid (Pl.cutL s.data.toList 0 = (Pl.cutL (s.data.toList.drop p) (ws ++ [X]).length).map ((ws ++ [X]) ++ ·)) := Pl.cutC HCU.out (HYY.out (by have := HXS.out; simp [hA]; omega))
          have hofz := HWC.out.out.own.frozen
          have hC8 : ws.length < 8 := by omega
          clear hA
          go_upto_region 24 with fail
          clear hB hC
          go_wp2_with (refine tx_push rfl _ _ rfl (w.heap.size + 3) (.slice va ws.length vc) ws rfl (HWC.out.row.later (blw_alloc (Below.refl _ _) _)) wq.heap.size 1 1 [X] rfl rfl (World.news_of_block (cs := #[.string X]) (heap_alloc_new wq _)) (by decide) (by omega) (by have := HWC.out.out.own.lt; simp; omega) ?_; intro gg1 cc1 w1 q1 q2; have HQ := uh (And.intro q1 q2); have HW1 := uh (WC.grown (HWC.out.later (blw_alloc (Below.refl _ _) _)) q2); have hout2 := HW1.out.2.1.get 0 _ rfl; have houl2 := HW1.out.2.1.own.lt; have hofz2 := HW1.out.2.1.own.frozen; clear q1 q2 hout houl hofz)
          go_roundw
          case rel => exact ⟨p, _, ws ++ [X], by omega, rfl, WC.put HW1.out.1 HW1.out.2.1 HW1.out.2.2.1 HW1.out.2.2.2 HQ.out.1, by rw [List.length_append]; simp; omega, HNX.out⟩
          case measure => simp [intOf]; have := HPK.out; omega
    have d3 : ((s[k].toNat : Int) == 34) = false := by simp; omega
    go_upto_region 6 with fail
    go_wp2
    go_loop [7] (fun v => ∃ p : Nat, k ≤ p ∧ p ≤ s.size ∧ v = .int .i64 p ∧ ∀ i (hi : i < s.size), k ≤ i → i < p → Pl.bareB s[i] = true) (fun v => s.size - (intOf v).toNat)
    case atStart => exact ⟨k, Nat.le_refl _, by omega, rfl, fun i hi h1 h2 => by omega⟩
    case round =>
      obtain ⟨p, hkp, hps0, rfl, hall⟩ := hrel
      have HALL : Hid (∀ i (hi : i < s.size), k ≤ i → i < p → Pl.bareB s[i] = true) := hall
      clear hall
      by_cases hst : ∃ h : p < s.size, Pl.bareB s[p] = true
      · obtain ⟨h, hbb⟩ := hst
        go_wp2_with (go_at_call 20; refine (l37Bare_any _ _).mono ?_; rintro e w' ⟨rfl, rfl⟩)
        go_round
        case rel => exact ⟨p + 1, by omega, by omega, by go_num, fun i hi h1 h2 => by
          by_cases e : i = p
          · subst e; exact hbb
          · exact HALL.out i hi h1 (by omega)⟩
        case measure => simp [intOf]; omega
      have HST : Hid (∀ h : p < s.size, Pl.bareB s[p] = false) := fun h => by
        cases e : Pl.bareB s[p]
        · rfl
        · exact absurd ⟨h, e⟩ hst
      clear hst
      have HNB0 := uh (fun h => Pl.nextB0 s k hlt c3 h)
      have HNB := uh (fun h => Pl.nextB s k p hlt c3 h hps0 HALL.out HST.out)
      have g1 : (p : Int) ≤ (s.size : Int) := by omega
      have g2 : (k : Int) ≤ (p : Int) := by omega
      clear c1 c2 c3
      by_cases hpk : k < p
      rotate_left
      · obtain rfl : p = k := by omega
        have hbf := HST.out hlt
        have HNO : Hid (Pl.cutL s.data.toList 0 = none) := by show _ = _; rw [HCU.out, HCN.out (HNB0.out hbf)]; rfl
        go_upto_region 11 with (go_at_call 20; refine (l37Bare_any _ _).mono ?_; rintro e w' ⟨rfl, rfl⟩)
        clear hbf g1 g2
        have hxa := HWC.out.bad.at_
        have hxl := HWC.out.bad.own.lt
        have hol := HWC.out.res.own.lt
        have hth : wr.there w.heap.size 0 (#[.slice none 0 0, .bool true] : Array Value).size := uthere HWC.out.res.own _ _ (by simp)
        obtain ⟨we, hwe⟩ : ∃ we, we = wr.setCells w.heap.size 0 [.slice none 0 0, .bool true] := ⟨_, rfl⟩
        have hrt : we.rangeAt w.heap.size 0 [.slice none 0 0, .bool true] := by rw [hwe]; exact World.rangeAt_setCells_same _ _ _ _ hth
        have HBB : Hid (Below w.heap.size w we) := by show Below _ _ _; rw [hwe]; exact blw_scs (Nat.le_refl _) _ _ _ HWC.out.bel
        have HWE : Hid (∀ v l, TxR wr (w.heap.size + 3) v l → TxR we (w.heap.size + 3) v l) := by
          intro v l h; rw [hwe]; exact owns_scs_lo h (by omega) _
        go_wp2_with (first | (refine wpList_load_mid rfl 26 _ rfl (w.heap.size + 1) 0 rfl [.slice none 0 0, .bool true] _ hxa Tryd.underlying26 rfl (by kernel_rfl) ?_) | (refine wpList_store_mid rfl 26 _ _ rfl w.heap.size 0 #[.slice none 0 0, .bool true] rfl rfl hth (by kernel_rfl) (by simp [Value.oneCell']) ?_))
        first | rw [← hwe] | (simp only [List.toList_toArray]; rw [← hwe])
        try simp only [Act.put]
        refine bodyPost_ret (v := .agg #[.slice none 0 0, .bool true]) (by simp [results, Tryd.results6, asAddr, run_loadVar_mid (P := Tryd.prog) _ _ _ 26 [.slice none 0 0, .bool true] _ hrt Tryd.underlying26 rfl (by kernel_rfl)]) rfl ?_
        exact ansBad w _ HNO.out we HBB.out
      obtain ⟨X, hX⟩ : ∃ X : ByteArray, X = s.extract k p := ⟨_, rfl⟩
      have hxl : X.data.toList.length = p - k := by rw [hX, Pl.ext_list, List.length_take, Pl.drop_len]; omega
      have HXS : Hid (X.size = X.data.toList.length) := by show _ = _; rw [Pl.len_data]
      have hdd : (s.data.toList.drop (k + 1)).drop (p - k - 1) = s.data.toList.drop p := by rw [List.drop_drop]; congr 1; omega
      have HXX : Hid ((Pl.behind (s.data.toList.drop p) && decide (X.size ≤ 200) && decide (ws.length < 8)) = false → Pl.cutL (s[k] :: s.data.toList.drop (k + 1)) ws.length = none) := fun h => HCX.out X.data.toList (p - k - 1) (by rw [hX]; exact HNB.out hpk) (by rw [hdd, ← HXS.out]; exact h)
      have HYY : Hid ((Pl.behind (s.data.toList.drop p) && decide (X.size ≤ 200) && decide (ws.length < 8)) = true → Pl.cutL (s[k] :: s.data.toList.drop (k + 1)) ws.length = (Pl.cutL (s.data.toList.drop p) (ws.length + 1)).map (X :: ·)) := fun h => by
        have := HCY.out X.data.toList (p - k - 1) (by rw [hX]; exact HNB.out hpk) (by rw [hdd, ← HXS.out]; exact h)
        rw [hdd, Pl.back] at this; exact this
      have HPK := uh hpk
      have hne : ((p : Int) == (k : Int)) = false := by simp; omega
      have hxx : s.extract k p = X := hX.symm
      clear hX hxl hdd
      by_cases hpz : p < s.size
      · have hbf := HST.out hpz
        obtain ⟨bp, hbp⟩ : ∃ b, b = s[p] := ⟨_, rfl⟩
        have hix : s[p] = bp := hbp.symm
        rw [hix] at hbf
        clear hbp
        go_upto_region 22 with (go_at_call 20; refine (l37Bare_any _ _).mono ?_; rintro e w' ⟨rfl, rfl⟩)
        clear hbf hix g1 g2 hne hxx d1 d2 d3 HALL HST HNB HNB0 hpz
        by_cases hA : Pl.behind (s.data.toList.drop p) = true
        rotate_left
        · have HNO : Hid (Pl.cutL s.data.toList 0 = none) := by show _ = _; rw [HCU.out, HXX.out (by simp [hA])]; rfl
          have hps : p < s.size := by
            rcases Nat.lt_or_ge p s.size with h | h
            · exact h
            · exact absurd (by rw [List.drop_of_length_le (by rw [Pl.len_data]; exact h)]; rfl) hA
          rw [Pl.drop_at s p hps] at hA
          have f1 : ((s[p].toNat : Int) != 32) = true := by simp [Pl.behind] at hA; simp; omega
          have f2 : ((s[p].toNat : Int) != 35) = true := by simp [Pl.behind] at hA; simp; omega
          clear hA
          go_upto_region 23 with fail
          clear f1 f2
          have hxa := HWC.out.bad.at_
          have hxl := HWC.out.bad.own.lt
          have hol := HWC.out.res.own.lt
          have hth : wr.there w.heap.size 0 (#[.slice none 0 0, .bool true] : Array Value).size := uthere HWC.out.res.own _ _ (by simp)
          obtain ⟨we, hwe⟩ : ∃ we, we = wr.setCells w.heap.size 0 [.slice none 0 0, .bool true] := ⟨_, rfl⟩
          have hrt : we.rangeAt w.heap.size 0 [.slice none 0 0, .bool true] := by rw [hwe]; exact World.rangeAt_setCells_same _ _ _ _ hth
          have HBB : Hid (Below w.heap.size w we) := by show Below _ _ _; rw [hwe]; exact blw_scs (Nat.le_refl _) _ _ _ HWC.out.bel
          have HWE : Hid (∀ v l, TxR wr (w.heap.size + 3) v l → TxR we (w.heap.size + 3) v l) := by
            intro v l h; rw [hwe]; exact owns_scs_lo h (by omega) _
          go_wp2_with (first | (refine wpList_load_mid rfl 26 _ rfl (w.heap.size + 1) 0 rfl [.slice none 0 0, .bool true] _ hxa Tryd.underlying26 rfl (by kernel_rfl) ?_) | (refine wpList_store_mid rfl 26 _ _ rfl w.heap.size 0 #[.slice none 0 0, .bool true] rfl rfl hth (by kernel_rfl) (by simp [Value.oneCell']) ?_))
          first | rw [← hwe] | (simp only [List.toList_toArray]; rw [← hwe])
          try simp only [Act.put]
          refine bodyPost_ret (v := .agg #[.slice none 0 0, .bool true]) (by simp [results, Tryd.results6, asAddr, run_loadVar_mid (P := Tryd.prog) _ _ _ 26 [.slice none 0 0, .bool true] _ hrt Tryd.underlying26 rfl (by kernel_rfl)]) rfl ?_
          exact ansBad w _ HNO.out we HBB.out
        have hA3 : (¬ (p : Int) < (s.size : Int)) ∨ (∃ h : p < s.size, (((s[p].toNat : Int) != 32) = false)) ∨ (∃ h : p < s.size, (((s[p].toNat : Int) != 32) = true) ∧ (((s[p].toNat : Int) != 35) = false)) := by
          by_cases h : p < s.size
          · rw [Pl.drop_at s p h] at hA
            simp [Pl.behind] at hA
            by_cases h2 : s[p].toNat = 32
            · exact Or.inr (Or.inl ⟨h, by simp; omega⟩)
            · exact Or.inr (Or.inr ⟨h, by simp; omega, by simp; omega⟩)
          · exact Or.inl (by omega)
        rcases hA3 with f0 | ⟨f0, f1⟩ | ⟨f0, f1, f2⟩
        all_goals
          by_cases hB : (200 : Int) < (X.size : Int)
          · have HNO : Hid (Pl.cutL s.data.toList 0 = none) := by show _ = _; rw [HCU.out, HXX.out (by have := HXS.out; simp; omega)]; rfl
            go_upto_region 23 with fail
            clear hB
            have hxa := HWC.out.bad.at_
            have hxl := HWC.out.bad.own.lt
            have hol := HWC.out.res.own.lt
            have hth : wr.there w.heap.size 0 (#[.slice none 0 0, .bool true] : Array Value).size := uthere HWC.out.res.own _ _ (by simp)
            obtain ⟨we, hwe⟩ : ∃ we, we = wr.setCells w.heap.size 0 [.slice none 0 0, .bool true] := ⟨_, rfl⟩
            have hrt : we.rangeAt w.heap.size 0 [.slice none 0 0, .bool true] := by rw [hwe]; exact World.rangeAt_setCells_same _ _ _ _ hth
            have HBB : Hid (Below w.heap.size w we) := by show Below _ _ _; rw [hwe]; exact blw_scs (Nat.le_refl _) _ _ _ HWC.out.bel
            have HWE : Hid (∀ v l, TxR wr (w.heap.size + 3) v l → TxR we (w.heap.size + 3) v l) := by
              intro v l h; rw [hwe]; exact owns_scs_lo h (by omega) _
            go_wp2_with (first | (refine wpList_load_mid rfl 26 _ rfl (w.heap.size + 1) 0 rfl [.slice none 0 0, .bool true] _ hxa Tryd.underlying26 rfl (by kernel_rfl) ?_) | (refine wpList_store_mid rfl 26 _ _ rfl w.heap.size 0 #[.slice none 0 0, .bool true] rfl rfl hth (by kernel_rfl) (by simp [Value.oneCell']) ?_))
            first | rw [← hwe] | (simp only [List.toList_toArray]; rw [← hwe])
            try simp only [Act.put]
            refine bodyPost_ret (v := .agg #[.slice none 0 0, .bool true]) (by simp [results, Tryd.results6, asAddr, run_loadVar_mid (P := Tryd.prog) _ _ _ 26 [.slice none 0 0, .bool true] _ hrt Tryd.underlying26 rfl (by kernel_rfl)]) rfl ?_
            exact ansBad w _ HNO.out we HBB.out
          have hout := HWC.out.out.get 0 _ rfl
          have houl := HWC.out.out.own.lt
          by_cases hC : (8 : Int) ≤ (ws.length : Int)
          · have HNO : Hid (Pl.cutL s.data.toList 0 = none) := by show _ = _; rw [HCU.out, HXX.out (by simp; omega)]; rfl
            go_upto_region 23 with fail
            clear hB hC hout houl
            have hxa := HWC.out.bad.at_
            have hxl := HWC.out.bad.own.lt
            have hol := HWC.out.res.own.lt
            have hth : wr.there w.heap.size 0 (#[.slice none 0 0, .bool true] : Array Value).size := uthere HWC.out.res.own _ _ (by simp)
            obtain ⟨we, hwe⟩ : ∃ we, we = wr.setCells w.heap.size 0 [.slice none 0 0, .bool true] := ⟨_, rfl⟩
            have hrt : we.rangeAt w.heap.size 0 [.slice none 0 0, .bool true] := by rw [hwe]; exact World.rangeAt_setCells_same _ _ _ _ hth
            have HBB : Hid (Below w.heap.size w we) := by show Below _ _ _; rw [hwe]; exact blw_scs (Nat.le_refl _) _ _ _ HWC.out.bel
            have HWE : Hid (∀ v l, TxR wr (w.heap.size + 3) v l → TxR we (w.heap.size + 3) v l) := by
              intro v l h; rw [hwe]; exact owns_scs_lo h (by omega) _
            go_wp2_with (first | (refine wpList_load_mid rfl 26 _ rfl (w.heap.size + 1) 0 rfl [.slice none 0 0, .bool true] _ hxa Tryd.underlying26 rfl (by kernel_rfl) ?_) | (refine wpList_store_mid rfl 26 _ _ rfl w.heap.size 0 #[.slice none 0 0, .bool true] rfl rfl hth (by kernel_rfl) (by simp [Value.oneCell']) ?_))
            first | rw [← hwe] | (simp only [List.toList_toArray]; rw [← hwe])
            try simp only [Act.put]
            refine bodyPost_ret (v := .agg #[.slice none 0 0, .bool true]) (by simp [results, Tryd.results6, asAddr, run_loadVar_mid (P := Tryd.prog) _ _ _ 26 [.slice none 0 0, .bool true] _ hrt Tryd.underlying26 rfl (by kernel_rfl)]) rfl ?_
            exact ansBad w _ HNO.out we HBB.out
          have HNX : Hid (Pl.cutL s.data.toList 0 = (Pl.cutL (s.data.toList.drop p) (ws ++ [X]).length).map ((ws ++ [X]) ++ ·)) := Pl.cutC HCU.out (HYY.out (by have := HXS.out; simp [hA]; omega))
          have hofz := HWC.out.out.own.frozen
          have hC8 : ws.length < 8 := by omega
          clear hA
          go_upto_region 24 with fail
          clear hB hC
          go_wp2_with (refine tx_push rfl _ _ rfl (w.heap.size + 3) (.slice va ws.length vc) ws rfl (HWC.out.row.later (blw_alloc (Below.refl _ _) _)) wr.heap.size 1 1 [X] rfl rfl (World.news_of_block (cs := #[.string X]) (heap_alloc_new wr _)) (by decide) (by omega) (by have := HWC.out.out.own.lt; simp; omega) ?_; intro gg1 cc1 w1 q1 q2; have HQ := uh (And.intro q1 q2); have HW1 := uh (WC.grown (HWC.out.later (blw_alloc (Below.refl _ _) _)) q2); have hout2 := HW1.out.2.1.get 0 _ rfl; have houl2 := HW1.out.2.1.own.lt; have hofz2 := HW1.out.2.1.own.frozen; clear q1 q2 hout houl hofz)
          go_roundw
          case rel => exact ⟨p, _, ws ++ [X], by omega, rfl, WC.put HW1.out.1 HW1.out.2.1 HW1.out.2.2.1 HW1.out.2.2.2 HQ.out.1, by rw [List.length_append]; simp; omega, HNX.out⟩
          case measure => simp [intOf]; have := HPK.out; omega
      · go_upto_region 22 with fail
        clear g1 g2 hne hxx d1 d2 d3 HALL HST HNB HNB0 hpz
        by_cases hA : Pl.behind (s.data.toList.drop p) = true
        rotate_left
        · have HNO : Hid (Pl.cutL s.data.toList 0 = none) := by show _ = _; rw [HCU.out, HXX.out (by simp [hA])]; rfl
          have hps : p < s.size := by
            rcases Nat.lt_or_ge p s.size with h | h
            · exact h
            · exact absurd (by rw [List.drop_of_length_le (by rw [Pl.len_data]; exact h)]; rfl) hA
          rw [Pl.drop_at s p hps] at hA
          have f1 : ((s[p].toNat : Int) != 32) = true := by simp [Pl.behind] at hA; simp; omega
          have f2 : ((s[p].toNat : Int) != 35) = true := by simp [Pl.behind] at hA; simp; omega
          clear hA
          go_upto_region 23 with fail
          clear f1 f2
          have hxa := HWC.out.bad.at_
          have hxl := HWC.out.bad.own.lt
          have hol := HWC.out.res.own.lt
          have hth : wr.there w.heap.size 0 (#[.slice none 0 0, .bool true] : Array Value).size := uthere HWC.out.res.own _ _ (by simp)
          obtain ⟨we, hwe⟩ : ∃ we, we = wr.setCells w.heap.size 0 [.slice none 0 0, .bool true] := ⟨_, rfl⟩
          have hrt : we.rangeAt w.heap.size 0 [.slice none 0 0, .bool true] := by rw [hwe]; exact World.rangeAt_setCells_same _ _ _ _ hth
          have HBB : Hid (Below w.heap.size w we) := by show Below _ _ _; rw [hwe]; exact blw_scs (Nat.le_refl _) _ _ _ HWC.out.bel
          have HWE : Hid (∀ v l, TxR wr (w.heap.size + 3) v l → TxR we (w.heap.size + 3) v l) := by
            intro v l h; rw [hwe]; exact owns_scs_lo h (by omega) _
          go_wp2_with (first | (refine wpList_load_mid rfl 26 _ rfl (w.heap.size + 1) 0 rfl [.slice none 0 0, .bool true] _ hxa Tryd.underlying26 rfl (by kernel_rfl) ?_) | (refine wpList_store_mid rfl 26 _ _ rfl w.heap.size 0 #[.slice none 0 0, .bool true] rfl rfl hth (by kernel_rfl) (by simp [Value.oneCell']) ?_))
          first | rw [← hwe] | (simp only [List.toList_toArray]; rw [← hwe])
          try simp only [Act.put]
          refine bodyPost_ret (v := .agg #[.slice none 0 0, .bool true]) (by simp [results, Tryd.results6, asAddr, run_loadVar_mid (P := Tryd.prog) _ _ _ 26 [.slice none 0 0, .bool true] _ hrt Tryd.underlying26 rfl (by kernel_rfl)]) rfl ?_
          exact ansBad w _ HNO.out we HBB.out
        have hA3 : (¬ (p : Int) < (s.size : Int)) ∨ (∃ h : p < s.size, (((s[p].toNat : Int) != 32) = false)) ∨ (∃ h : p < s.size, (((s[p].toNat : Int) != 32) = true) ∧ (((s[p].toNat : Int) != 35) = false)) := by
          by_cases h : p < s.size
          · rw [Pl.drop_at s p h] at hA
            simp [Pl.behind] at hA
            by_cases h2 : s[p].toNat = 32
            · exact Or.inr (Or.inl ⟨h, by simp; omega⟩)
            · exact Or.inr (Or.inr ⟨h, by simp; omega, by simp; omega⟩)
          · exact Or.inl (by omega)
        rcases hA3 with f0 | ⟨f0, f1⟩ | ⟨f0, f1, f2⟩
        all_goals
          by_cases hB : (200 : Int) < (X.size : Int)
          · have HNO : Hid (Pl.cutL s.data.toList 0 = none) := by show _ = _; rw [HCU.out, HXX.out (by have := HXS.out; simp; omega)]; rfl
            go_upto_region 23 with fail
            clear hB
            have hxa := HWC.out.bad.at_
            have hxl := HWC.out.bad.own.lt
            have hol := HWC.out.res.own.lt
            have hth : wr.there w.heap.size 0 (#[.slice none 0 0, .bool true] : Array Value).size := uthere HWC.out.res.own _ _ (by simp)
            obtain ⟨we, hwe⟩ : ∃ we, we = wr.setCells w.heap.size 0 [.slice none 0 0, .bool true] := ⟨_, rfl⟩
            have hrt : we.rangeAt w.heap.size 0 [.slice none 0 0, .bool true] := by rw [hwe]; exact World.rangeAt_setCells_same _ _ _ _ hth
            have HBB : Hid (Below w.heap.size w we) := by show Below _ _ _; rw [hwe]; exact blw_scs (Nat.le_refl _) _ _ _ HWC.out.bel
            have HWE : Hid (∀ v l, TxR wr (w.heap.size + 3) v l → TxR we (w.heap.size + 3) v l) := by
              intro v l h; rw [hwe]; exact owns_scs_lo h (by omega) _
            go_wp2_with (first | (refine wpList_load_mid rfl 26 _ rfl (w.heap.size + 1) 0 rfl [.slice none 0 0, .bool true] _ hxa Tryd.underlying26 rfl (by kernel_rfl) ?_) | (refine wpList_store_mid rfl 26 _ _ rfl w.heap.size 0 #[.slice none 0 0, .bool true] rfl rfl hth (by kernel_rfl) (by simp [Value.oneCell']) ?_))
            first | rw [← hwe] | (simp only [List.toList_toArray]; rw [← hwe])
            try simp only [Act.put]
            refine bodyPost_ret (v := .agg #[.slice none 0 0, .bool true]) (by simp [results, Tryd.results6, asAddr, run_loadVar_mid (P := Tryd.prog) _ _ _ 26 [.slice none 0 0, .bool true] _ hrt Tryd.underlying26 rfl (by kernel_rfl)]) rfl ?_
            exact ansBad w _ HNO.out we HBB.out
          have hout := HWC.out.out.get 0 _ rfl
          have houl := HWC.out.out.own.lt
          by_cases hC : (8 : Int) ≤ (ws.length : Int)
          · have HNO : Hid (Pl.cutL s.data.toList 0 = none) := by show _ = _; rw [HCU.out, HXX.out (by simp; omega)]; rfl
            go_upto_region 23 with fail
            clear hB hC hout houl
            have hxa := HWC.out.bad.at_
            have hxl := HWC.out.bad.own.lt
            have hol := HWC.out.res.own.lt
            have hth : wr.there w.heap.size 0 (#[.slice none 0 0, .bool true] : Array Value).size := uthere HWC.out.res.own _ _ (by simp)
            obtain ⟨we, hwe⟩ : ∃ we, we = wr.setCells w.heap.size 0 [.slice none 0 0, .bool true] := ⟨_, rfl⟩
            have hrt : we.rangeAt w.heap.size 0 [.slice none 0 0, .bool true] := by rw [hwe]; exact World.rangeAt_setCells_same _ _ _ _ hth
            have HBB : Hid (Below w.heap.size w we) := by show Below _ _ _; rw [hwe]; exact blw_scs (Nat.le_refl _) _ _ _ HWC.out.bel
            have HWE : Hid (∀ v l, TxR wr (w.heap.size + 3) v l → TxR we (w.heap.size + 3) v l) := by
              intro v l h; rw [hwe]; exact owns_scs_lo h (by omega) _
            go_wp2_with (first | (refine wpList_load_mid rfl 26 _ rfl (w.heap.size + 1) 0 rfl [.slice none 0 0, .bool true] _ hxa Tryd.underlying26 rfl (by kernel_rfl) ?_) | (refine wpList_store_mid rfl 26 _ _ rfl w.heap.size 0 #[.slice none 0 0, .bool true] rfl rfl hth (by kernel_rfl) (by simp [Value.oneCell']) ?_))
            first | rw [← hwe] | (simp only [List.toList_toArray]; rw [← hwe])
            try simp only [Act.put]
            refine bodyPost_ret (v := .agg #[.slice none 0 0, .bool true]) (by simp [results, Tryd.results6, asAddr, run_loadVar_mid (P := Tryd.prog) _ _ _ 26 [.slice none 0 0, .bool true] _ hrt Tryd.underlying26 rfl (by kernel_rfl)]) rfl ?_
            exact ansBad w _ HNO.out we HBB.out
          have HNX : Hid (Pl.cutL s.data.toList 0 = (Pl.cutL (s.data.toList.drop p) (ws ++ [X]).length).map ((ws ++ [X]) ++ ·)) := Pl.cutC HCU.out (HYY.out (by have := HXS.out; simp [hA]; omega))
          have hofz := HWC.out.out.own.frozen
          have hC8 : ws.length < 8 := by omega
          clear hA
          go_upto_region 24 with fail
          clear hB hC
          go_wp2_with (refine tx_push rfl _ _ rfl (w.heap.size + 3) (.slice va ws.length vc) ws rfl (HWC.out.row.later (blw_alloc (Below.refl _ _) _)) wr.heap.size 1 1 [X] rfl rfl (World.news_of_block (cs := #[.string X]) (heap_alloc_new wr _)) (by decide) (by omega) (by have := HWC.out.out.own.lt; simp; omega) ?_; intro gg1 cc1 w1 q1 q2; have HQ := uh (And.intro q1 q2); have HW1 := uh (WC.grown (HWC.out.later (blw_alloc (Below.refl _ _) _)) q2); have hout2 := HW1.out.2.1.get 0 _ rfl; have houl2 := HW1.out.2.1.own.lt; have hofz2 := HW1.out.2.1.own.frozen; clear q1 q2 hout houl hofz)
          go_roundw
          case rel => exact ⟨p, _, ws ++ [X], by omega, rfl, WC.put HW1.out.1 HW1.out.2.1 HW1.out.2.2.1 HW1.out.2.2.2 HQ.out.1, by rw [List.length_append]; simp; omega, HNX.out⟩
          case measure => simp [intOf]; have := HPK.out; omega

end Go.Proofs.YtkhhhogpkcggjaaDoor
