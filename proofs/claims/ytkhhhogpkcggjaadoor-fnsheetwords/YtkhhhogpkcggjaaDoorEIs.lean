/-
  Sheets: the words of a line: the program.
-/
import Derived.Test.YtkhhhogpkcggjaaDoorEIq
import Derived.Test.YtkhhhogpkcggjaaDoorEWe
namespace Go.Proofs.YtkhhhogpkcggjaaDoor
open Go.RowKit Go.Deep

/-- What a scanner answers at a text that begins with c. -/
def ScA (c : UInt8) (r : List UInt8) (w : World) (e : Ending) (w' : World) : Prop :=
  Below w.heap.size w w' ∧ ((Pl.nextW c r = none ∧ ∃ a b, e = .returned (.tuple #[.string a, .string b, .bool false])) ∨ ∃ y n b, Pl.nextW c r = some (y, n) ∧ ByteArray.toList b = r.drop n ∧ e = .returned (.tuple #[.string ⟨y.toArray⟩, .string b, .bool true]))
theorem quotedI (s : ByteArray) (c : UInt8) (r : List UInt8) (w : World) (hc : s.data.toList = c :: r) (hs : s.size ≤ 1048576) (h34 : c.toNat = 34) :
    Calls Tryd.prog 58 #[.agg #[], .string s] w (ScA c r w) := by
  refine (quotedScanI s c r w hc hs).mono ?_
  have e0 : Pl.nextW c r = Pl.quoL r := by unfold Pl.nextW; rw [if_pos h34]
  rintro e w' ⟨hb, ⟨h1, h2⟩ | ⟨x, n, b, h1, h2, _, h3⟩⟩
  · exact ⟨hb, Or.inl ⟨by rw [e0, h1], h2⟩⟩
  · exact ⟨hb, Or.inr ⟨x, n, b, by rw [e0, h1], h2, h3⟩⟩
theorem bareI (s : ByteArray) (c : UInt8) (r : List UInt8) (w : World) (hc : s.data.toList = c :: r) (hs : s.size ≤ 1048576) (h34 : c.toNat ≠ 34) :
    Calls Tryd.prog 25 #[.agg #[], .string s] w (ScA c r w) := by
  refine (bareScanI s w hs).mono ?_
  rintro e w' ⟨p, hp, ht, he, hb⟩
  rw [hc] at ht
  have hlen : r.length + 1 = s.size := by rw [← Pl.len_data, hc, List.length_cons]
  refine ⟨hb, ?_⟩
  cases p with
  | zero =>
    left
    refine ⟨?_, _, _, he⟩
    have hbc : Pl.bareB c = false := by
      rw [List.takeWhile_cons] at ht
      cases hq : Pl.bareB c
      · rfl
      · rw [hq] at ht; simp at ht
    unfold Pl.nextW
    rw [if_neg h34, hbc]; rfl
  | succ p =>
    right
    have hbc : Pl.bareB c = true := by
      rw [List.takeWhile_cons] at ht
      cases hq : Pl.bareB c
      · rw [hq] at ht; simp at ht
      · rfl
    have hl : ((c :: r).takeWhile Pl.bareB).length = p + 1 := by rw [ht, List.length_take, List.length_cons]; omega
    have e1 : s.extract 0 (p + 1) = ⟨((c :: r).takeWhile Pl.bareB).toArray⟩ := Pl.ba_of (by rw [Pl.ext_list, hc, ht]; rfl)
    refine ⟨(c :: r).takeWhile Pl.bareB, p, s.extract (p + 1) s.size, ?_, ?_, ?_⟩
    · unfold Pl.nextW
      rw [if_neg h34, hbc, hl]; rfl
    · rw [Pl.tl, Pl.ext_end, hc]; rfl
    · rw [he, e1]
      have : decide (0 < p + 1) = true := by simp
      rw [this]
theorem ansCut1 (w : World) (l : List UInt8) (ws : List ByteArray) (v : Value) (h : Pl.cutL l 0 = some ws) (we : World) (hb : Below w.heap.size w we) (hr : TxR we (w.heap.size + 1) v ws) : Ans shSheetCut (cutD l) w (.returned (.agg [v, .bool false].toArray)) we := by
  rw [cutD, h]
  obtain ⟨F, h1, h2, h3⟩ := hr.done
  exact ⟨[v, .bool false], F ++ [], rfl, h1.app (.b false .nil), by rw [List.append_nil]; exact h2, fun b hb' => by rw [List.append_nil] at hb'; have := h3 b hb'; omega, hb⟩
theorem methQ (w : World) : (method 192 52 (.agg #[]) "loop.example/wharfdesk/impl.scan").run Tryd.prog w = .ok (58, .agg #[]) w := by kernel_rfl
theorem methB (w : World) : (method 192 53 (.agg #[]) "loop.example/wharfdesk/impl.scan").run Tryd.prog w = .ok (25, .agg #[]) w := by kernel_rfl
/-- While a line is cut: the answer's variable, the words so far. -/
structure WI (w wr : World) (v : Value) (ws : List ByteArray) : Prop where
  bel : Below w.heap.size w wr
  res : WBox wr w.heap.size 26 [.slice none 0 0, .bool false]
  row : TxR wr (w.heap.size + 1) v ws
theorem WI.later {w wr wr' : World} {v : Value} {ws : List ByteArray} (h : WI w wr v ws) (hb : Below wr.heap.size wr wr') : WI w wr' v ws := ⟨blw_trans h.bel hb, h.res.later hb, h.row.later hb⟩

set_option maxRecDepth 8000 in
set_option maxHeartbeats 8000000 in
theorem sheetWordsI (s : ByteArray) (w : World) (hs : s.size ≤ 1048576) :
    Calls Tryd.prog 5 #[.string s] w (Ans shSheetCut (cutD s.data.toList) w) := by
  have HNX := uh (fun (x : ByteArray) W => nextWordI x W)
  go_enter Tryd.func5, Tryd.ntmps5
  go_wp2_with fail
  refine (HNX.out _ _).mono ?_
  rintro e w1 ⟨x0, rfl, hx0, hz0, hw1⟩
  subst hw1
  have H0 : Hid (Pl.cutL s.data.toList 0 = (Pl.cutL x0.data.toList 0).map ([] ++ ·) ∧ ∀ c r, x0.data.toList = c :: r → c.toNat ≠ 32 ∧ c.toNat ≠ 35) := by
    refine ⟨?_, fun c r h => Pl.nextT_cons (l := s.data.toList) (by rw [← hx0, h])⟩
    rw [hx0, Pl.cut_next]; simp
  clear hx0
  go_wp2
  go_loopw [3, 4] (fun v u wr => ∃ (ws : List ByteArray) (x : ByteArray), u = .string x ∧ x.size ≤ s.size ∧ ws.length ≤ 8 ∧ WI w wr v ws ∧ Pl.cutL s.data.toList 0 = (Pl.cutL x.data.toList ws.length).map (ws ++ ·) ∧ ∀ c r, x.data.toList = c :: r → c.toNat ≠ 32 ∧ c.toNat ≠ 35) (fun _ u _ => strLen u)
  case atStart => exact ⟨[], x0, rfl, hz0, by simp, ⟨blw_alloc (Below.refl _ _) _, WBox.new _ [.slice none 0 0, .bool false] _ _ rfl, TxR.nil _ _⟩, H0.out.1, H0.out.2⟩
  case round =>
    obtain ⟨ws, x, rfl, hxs, hw8, hWI, hcu, hcr⟩ := hrel
    have HWI := uh hWI
    have HCU := uh hcu
    obtain ⟨va, vc, hv⟩ := hWI.row.shape
    subst hv
    clear hWI hcu H0
    by_cases hx1 : 1 ≤ x.size
    rotate_left
    · have h0 := Pl.empty_yes x hx1
      have HR : Hid (Pl.cutL s.data.toList 0 = some ws) := by
        show _ = _
        have e : x.data.toList = [] := List.eq_nil_of_length_eq_zero (by rw [Pl.len_data]; omega)
        rw [HCU.out, e, Pl.cutL]; simp
      have hth : wr.there w.heap.size 0 (#[.slice va ws.length vc, .bool false] : Array Value).size := uthere HWI.out.res.own _ _ (by simp)
      obtain ⟨we, hwe⟩ : ∃ we, we = wr.setCells w.heap.size 0 [.slice va ws.length vc, .bool false] := ⟨_, rfl⟩
      have hrt : we.rangeAt w.heap.size 0 [.slice va ws.length vc, .bool false] := by rw [hwe]; exact World.rangeAt_setCells_same _ _ _ _ hth
      have HBB : Hid (Below w.heap.size w we) := by show Below _ _ _; rw [hwe]; exact blw_scs (Nat.le_refl _) _ _ _ HWI.out.bel
      have HWE : Hid (TxR we (w.heap.size + 1) (.slice va ws.length vc) ws) := by show TxR _ _ _ _; rw [hwe]; exact owns_scs_lo HWI.out.row (by omega) _
      clear hcr
      go_wp2_with (refine wpList_store_mid rfl 26 _ _ rfl w.heap.size 0 #[.slice va ws.length vc, .bool false] rfl rfl hth (by kernel_rfl) (by simp [Value.oneCell']) ?_)
      first | rw [← hwe] | (simp only [List.toList_toArray]; rw [← hwe])
      try simp only [Act.put]
      refine bodyPost_ret (v := .agg #[.slice va ws.length vc, .bool false]) (by simp [results, Tryd.results5, asAddr, run_loadVar_mid (P := Tryd.prog) _ _ _ 26 [.slice va ws.length vc, .bool false] _ hrt Tryd.underlying26 rfl (by kernel_rfl)]) rfl ?_
      exact ansCut1 w _ ws _ HR.out we HBB.out HWE.out
    have h0 := Pl.empty_no x hx1
    obtain ⟨c, hcx⟩ : ∃ c, c = x[0] := ⟨_, rfl⟩
    obtain ⟨r, hr⟩ : ∃ r, r = x.data.toList.drop 1 := ⟨_, rfl⟩
    have hdr : x.data.toList = c :: r := by
      have := Pl.drop_at x 0 (by omega)
      rw [List.drop_zero] at this
      rw [hcx, hr]; exact this
    have HCN := uh (hcr c r hdr)
    have hrl : r.length + 1 = x.size := by rw [← Pl.len_data, hdr, List.length_cons]
    have HSO : Hid (∀ W, Calls Tryd.prog 17 #[.string x] W fun e w' => e = .returned (if c.toNat = 34 then .iface 52 (.agg #[]) else .iface 53 (.agg #[])) ∧ W = w') := by rw [hcx]; exact fun W => scannerOfI x W hx1
    rw [hdr] at HCU
    have hcase : ((if c.toNat = 34 then Value.iface 52 (.agg #[]) else .iface 53 (.agg #[])) = .iface 52 (.agg #[]) ∧ ∀ W, Calls Tryd.prog 58 #[.agg #[], .string x] W (ScA c r W)) ∨ ((if c.toNat = 34 then Value.iface 52 (.agg #[]) else .iface 53 (.agg #[])) = .iface 53 (.agg #[]) ∧ ∀ W, Calls Tryd.prog 25 #[.agg #[], .string x] W (ScA c r W)) := by
      by_cases h34 : c.toNat = 34
      · exact Or.inl ⟨by rw [if_pos h34], fun W => quotedI x c r W hdr (by omega) h34⟩
      · exact Or.inr ⟨by rw [if_neg h34], fun W => bareI x c r W hdr (by omega) h34⟩
    have hme := methQ
    have hmf := methB
    rcases hcase with ⟨hif, hsc⟩ | ⟨hif, hsc⟩
    all_goals
      rw [hif] at HSO
      have HSC := uh hsc
      clear hif hsc hdr hcx hr hcr
      go_wp2_with fail
      refine (HSO.out _).mono ?_
      rintro e w1 ⟨rfl, hw1⟩
      subst hw1
      go_wp2_with fail
      refine (HSC.out _).mono ?_
      rintro e w1 ⟨hb1, ⟨hno, a1, a2, rfl⟩ | ⟨y, n, b, hye, hbd, rfl⟩⟩
      · have HNO : Hid (Pl.cutL s.data.toList 0 = none) := by show _ = _; rw [HCU.out, Pl.cutN r c _ HCN.out.1 HCN.out.2 hno]; rfl
        have HWJ := uh (HWI.out.later hb1)
        clear hno hb1 HWI HSC hme hmf
        have hth : w1.there w.heap.size 0 (#[.slice none 0 0, .bool true] : Array Value).size := uthere HWJ.out.res.own _ _ (by simp)
        obtain ⟨we, hwe⟩ : ∃ we, we = w1.setCells w.heap.size 0 [.slice none 0 0, .bool true] := ⟨_, rfl⟩
        have hrt : we.rangeAt w.heap.size 0 [.slice none 0 0, .bool true] := by rw [hwe]; exact World.rangeAt_setCells_same _ _ _ _ hth
        have HBB : Hid (Below w.heap.size w we) := by show Below _ _ _; rw [hwe]; exact blw_scs (Nat.le_refl _) _ _ _ HWJ.out.bel
        go_wp2_with (refine wpList_store_mid rfl 26 _ _ rfl w.heap.size 0 #[.slice none 0 0, .bool true] rfl rfl hth (by kernel_rfl) (by simp [Value.oneCell']) ?_)
        first | rw [← hwe] | (simp only [List.toList_toArray]; rw [← hwe])
        try simp only [Act.put]
        refine bodyPost_ret (v := .agg #[.slice none 0 0, .bool true]) (by simp [results, Tryd.results5, asAddr, run_loadVar_mid (P := Tryd.prog) _ _ _ 26 [.slice none 0 0, .bool true] _ hrt Tryd.underlying26 rfl (by kernel_rfl)]) rfl ?_
        exact ansBad w _ HNO.out we HBB.out
      have HWJ := uh (HWI.out.later hb1)
      have HYE := uh hye
      have HBD := uh hbd
      have hbs : b.size ≤ r.length := by
        have e : b.data.toList = r.drop n := by rw [← Pl.tl]; exact hbd
        rw [← Pl.len_data, e, List.length_drop]; omega
      have HPT := uh (fun W => partedI b W)
      have HBE : Hid (b.data.toList = r.drop n) := by show _ = _; rw [← Pl.tl]; exact hbd
      rw [HBE.out] at HPT
      obtain ⟨X, hX⟩ : ∃ X : ByteArray, X = ⟨y.toArray⟩ := ⟨_, rfl⟩
      have HXE := uh hX
      have hXl : X.size = y.length := by rw [hX]; rfl
      rw [← hX]
      clear hX hye hbd hb1 HWI HSC hme hmf
      have HXX := uh (fun h => Pl.cutX r c ws.length y n HCN.out.1 HCN.out.2 HYE.out h)
      have HYY := uh (fun h => Pl.cutY r c ws.length y n HCN.out.1 HCN.out.2 HYE.out h)
      cases hA : Pl.behind (r.drop n)
      · have HNO : Hid (Pl.cutL s.data.toList 0 = none) := by show _ = _; rw [HCU.out, HXX.out (by simp [hA])]; rfl
        rw [hA] at HPT
        clear hA
        go_wp2_with fail
        refine (HPT.out _).mono ?_
        rintro e w2 ⟨rfl, hw2⟩
        subst hw2
        have hth : w1.there w.heap.size 0 (#[.slice none 0 0, .bool true] : Array Value).size := uthere HWJ.out.res.own _ _ (by simp)
        obtain ⟨we, hwe⟩ : ∃ we, we = w1.setCells w.heap.size 0 [.slice none 0 0, .bool true] := ⟨_, rfl⟩
        have hrt : we.rangeAt w.heap.size 0 [.slice none 0 0, .bool true] := by rw [hwe]; exact World.rangeAt_setCells_same _ _ _ _ hth
        have HBB : Hid (Below w.heap.size w we) := by show Below _ _ _; rw [hwe]; exact blw_scs (Nat.le_refl _) _ _ _ HWJ.out.bel
        go_wp2_with (refine wpList_store_mid rfl 26 _ _ rfl w.heap.size 0 #[.slice none 0 0, .bool true] rfl rfl hth (by kernel_rfl) (by simp [Value.oneCell']) ?_)
        first | rw [← hwe] | (simp only [List.toList_toArray]; rw [← hwe])
        try simp only [Act.put]
        refine bodyPost_ret (v := .agg #[.slice none 0 0, .bool true]) (by simp [results, Tryd.results5, asAddr, run_loadVar_mid (P := Tryd.prog) _ _ _ 26 [.slice none 0 0, .bool true] _ hrt Tryd.underlying26 rfl (by kernel_rfl)]) rfl ?_
        exact ansBad w _ HNO.out we HBB.out
      have HAA := uh hA
      rw [hA] at HPT
      clear hA
      by_cases hB : (200 : Int) < (X.size : Int)
      · have HNO : Hid (Pl.cutL s.data.toList 0 = none) := by show _ = _; rw [HCU.out, HXX.out (by simp; omega)]; rfl
        go_wp2_with fail
        refine (HPT.out _).mono ?_
        rintro e w2 ⟨rfl, hw2⟩
        subst hw2
        have hth : w1.there w.heap.size 0 (#[.slice none 0 0, .bool true] : Array Value).size := uthere HWJ.out.res.own _ _ (by simp)
        obtain ⟨we, hwe⟩ : ∃ we, we = w1.setCells w.heap.size 0 [.slice none 0 0, .bool true] := ⟨_, rfl⟩
        have hrt : we.rangeAt w.heap.size 0 [.slice none 0 0, .bool true] := by rw [hwe]; exact World.rangeAt_setCells_same _ _ _ _ hth
        have HBB : Hid (Below w.heap.size w we) := by show Below _ _ _; rw [hwe]; exact blw_scs (Nat.le_refl _) _ _ _ HWJ.out.bel
        go_wp2_with (refine wpList_store_mid rfl 26 _ _ rfl w.heap.size 0 #[.slice none 0 0, .bool true] rfl rfl hth (by kernel_rfl) (by simp [Value.oneCell']) ?_)
        first | rw [← hwe] | (simp only [List.toList_toArray]; rw [← hwe])
        try simp only [Act.put]
        refine bodyPost_ret (v := .agg #[.slice none 0 0, .bool true]) (by simp [results, Tryd.results5, asAddr, run_loadVar_mid (P := Tryd.prog) _ _ _ 26 [.slice none 0 0, .bool true] _ hrt Tryd.underlying26 rfl (by kernel_rfl)]) rfl ?_
        exact ansBad w _ HNO.out we HBB.out
      by_cases hC : ws.length = 8
      · have HNO : Hid (Pl.cutL s.data.toList 0 = none) := by show _ = _; rw [HCU.out, HXX.out (by simp; omega)]; rfl
        have d8 : ((ws.length : Int) == 8) = true := by simp; omega
        go_wp2_with fail
        refine (HPT.out _).mono ?_
        rintro e w2 ⟨rfl, hw2⟩
        subst hw2
        have hth : w1.there w.heap.size 0 (#[.slice none 0 0, .bool true] : Array Value).size := uthere HWJ.out.res.own _ _ (by simp)
        obtain ⟨we, hwe⟩ : ∃ we, we = w1.setCells w.heap.size 0 [.slice none 0 0, .bool true] := ⟨_, rfl⟩
        have hrt : we.rangeAt w.heap.size 0 [.slice none 0 0, .bool true] := by rw [hwe]; exact World.rangeAt_setCells_same _ _ _ _ hth
        have HBB : Hid (Below w.heap.size w we) := by show Below _ _ _; rw [hwe]; exact blw_scs (Nat.le_refl _) _ _ _ HWJ.out.bel
        go_wp2_with (refine wpList_store_mid rfl 26 _ _ rfl w.heap.size 0 #[.slice none 0 0, .bool true] rfl rfl hth (by kernel_rfl) (by simp [Value.oneCell']) ?_)
        first | rw [← hwe] | (simp only [List.toList_toArray]; rw [← hwe])
        try simp only [Act.put]
        refine bodyPost_ret (v := .agg #[.slice none 0 0, .bool true]) (by simp [results, Tryd.results5, asAddr, run_loadVar_mid (P := Tryd.prog) _ _ _ 26 [.slice none 0 0, .bool true] _ hrt Tryd.underlying26 rfl (by kernel_rfl)]) rfl ?_
        exact ansBad w _ HNO.out we HBB.out
      have d8 : ((ws.length : Int) == 8) = false := by simp; omega
      have HNW : Hid (Pl.cutL s.data.toList 0 = (Pl.cutL (r.drop n) (ws ++ [X]).length).map ((ws ++ [X]) ++ ·)) := Pl.cutC HCU.out (by rw [HYY.out (by rw [HAA.out]; simp; omega), HXE.out])
      go_wp2_with fail
      refine (HPT.out _).mono ?_
      rintro e w2 ⟨rfl, hw2⟩
      subst hw2
      go_wp2_with (refine tx_push rfl _ _ rfl (w.heap.size + 1) (.slice va ws.length vc) ws rfl (HWJ.out.row.later (blw_alloc (Below.refl _ _) _)) w1.heap.size 1 1 [X] rfl rfl (World.news_of_block (cs := #[.string X]) (heap_alloc_new w1 _)) (by decide) (by omega) (by have := HWJ.out.bel.size; have := HWJ.out.res.own.lt; simp; omega) ?_; intro g1 c1 w3 q1 q2)
      refine (HNX.out _ _).mono ?_
      rintro e w4 ⟨x', rfl, hx', hz', hw4⟩
      subst hw4
      have HWA := HWJ.out.later (blw_alloc (Below.refl _ _) (.cells #[.string X] 9))
      have hnb : (Value.slice va ws.length vc).ownBlock ≠ some w.heap.size := fun e => by have := (owns_blk_lt HWA.row e).1; omega
      have HW3 : Hid (WI w w3 (.slice (some ⟨g1, 0, none⟩) (ws.length + 1) c1) (ws ++ [X])) := ⟨HWA.row.below HWA.bel q2 (by omega), HWA.res.grow q2 hnb, q1⟩
      have HCC : Hid (Pl.cutL s.data.toList 0 = (Pl.cutL x'.data.toList (ws ++ [X]).length).map ((ws ++ [X]) ++ ·) ∧ ∀ c r, x'.data.toList = c :: r → c.toNat ≠ 32 ∧ c.toNat ≠ 35) := by
        refine ⟨?_, fun c' r' h => Pl.nextT_cons (l := b.data.toList) (by rw [← hx', h])⟩
        rw [HNW.out, hx', Pl.cut_next, HBE.out]
      clear hx' q1 q2 hnb HWA
      go_wp2
      go_roundw
      case rel => exact ⟨ws ++ [X], x', rfl, by omega, by simp; omega, HW3.out, HCC.out.1, HCC.out.2⟩
      case measure => simp [strLen]; omega

end Go.Proofs.YtkhhhogpkcggjaaDoor
