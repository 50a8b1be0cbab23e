/-
  A new world: the program.
-/
import Derived.Test.YtfkkohfjkofgnaaGreatKNw
namespace Go.Proofs.YtfkkohfjkofgnaaGreat
open Go.RowKit Go.Deep


set_option maxRecDepth 8000 in
set_option maxHeartbeats 16000000 in
theorem recNewWorldI (n : Int) (W : World) : Calls Tryz.prog 21 #[.int .i64 n] W (Ans shRecWorld (newW n) W) := by
  obtain ⟨i0, hi0, hzz⟩ := Option.map_eq_some_iff.1 Tryz.cinfoRecorder
  simp only [Prod.mk.injEq] at hzz
  obtain ⟨hz0, hz1, hz2⟩ := hzz
  have HI0 := uh (And.intro hi0 (And.intro hz0 (And.intro hz1 hz2)))
  clear hi0 hz0 hz1 hz2
  go_enter Tryz.func21, Tryz.ntmps21
  obtain ⟨wz, hwz⟩ : ∃ wz, wz = W.alloc (.cells #[.slice none 0 0, .slice none 0 0, .slice none 0 0] 35) := ⟨_, rfl⟩
  have HBz : Hid (Below W.heap.size W wz) := by show Below _ _ _; rw [hwz]; exact blw_alloc (Below.refl _ _) _
  have HOz : Hid (OwnBlk wz W.heap.size 35 3) := by show OwnBlk _ _ _ _; rw [hwz]; exact OwnBlk.alloc W _ _ _ rfl
  have HSz : Hid (wz.heap.size = W.heap.size + 1) := by show _ = _; rw [hwz]; simp
  go_upto_region 1 with fail
  rw [← hwz]
  clear hwz
  cases hin : inB n 1 5
  · have HE : Hid (newW n = [.row 0 [], .row 0 [], .row 0 []]) := by show _ = _; unfold newW; rw [hin]; rfl
    have hth : wz.there W.heap.size 0 (#[.slice none 0 0, .slice none 0 0, .slice none 0 0] : Array Value).size := uthere HOz.out _ _ (by simp)
    obtain ⟨we, hwe⟩ : ∃ we, we = wz.setCells W.heap.size 0 [.slice none 0 0, .slice none 0 0, .slice none 0 0] := ⟨_, rfl⟩
    have hrt : we.rangeAt W.heap.size 0 [.slice none 0 0, .slice none 0 0, .slice none 0 0] := by rw [hwe]; exact World.rangeAt_setCells_same _ _ _ _ hth
    have HBB : Hid (Below W.heap.size W we) := by show Below _ _ _; rw [hwe]; exact blw_scs (Nat.le_refl _) _ _ _ HBz.out
    go_wp2_with (first | (go_at_call 45; refine (withinI _ _ _ _).mono ?_; rintro e w' ⟨rfl, rfl⟩) | (refine wpList_store_mid rfl 35 _ _ rfl W.heap.size 0 #[.slice none 0 0, .slice none 0 0, .slice none 0 0] rfl rfl hth (by kernel_rfl) (by simp [Value.oneCell']) ?_))
    first | rw [← hwe] | (simp only [List.toList_toArray]; rw [← hwe])
    try simp only [Act.put]
    refine bodyPost_ret (v := .agg #[.slice none 0 0, .slice none 0 0, .slice none 0 0]) (by simp [results, Tryz.results21, asAddr, run_loadVar_mid (P := Tryz.prog) _ _ _ 35 [.slice none 0 0, .slice none 0 0, .slice none 0 0] _ hrt Tryz.underlying35 rfl (by kernel_rfl)]) rfl ?_
    exact ⟨[.slice none 0 0, .slice none 0 0, .slice none 0 0], [], rfl, by rw [HE.out]; exact .emp _ _ _ rfl (.emp _ _ _ rfl (.emp _ _ _ rfl .nil)), List.nodup_nil, by simp, HBB.out⟩
  obtain ⟨N, rfl, hN⟩ : ∃ N : Nat, n = (N : Int) ∧ N ≤ 5 := by
    have h := hin
    simp only [inB, Bool.and_eq_true, decide_eq_true_eq] at h
    exact ⟨n.toNat, by omega, by omega⟩
  obtain ⟨wa, hwa⟩ : ∃ wa, wa = wz.alloc (.cells #[.slice none 0 0, .slice none 0 0, .slice none 0 0] 35) := ⟨_, rfl⟩
  have HB : Hid (Below W.heap.size W wa) := by show Below _ _ _; rw [hwa]; exact blw_alloc HBz.out _
  have HX : Hid (WBox wa (W.heap.size + 1) 35 [.slice none 0 0, .slice none 0 0, .slice none 0 0]) := by show WBox _ _ _ _; rw [hwa]; exact WBox.new _ [.slice none 0 0, .slice none 0 0, .slice none 0 0] _ _ HSz.out.symm
  have HO : Hid (OwnBlk wa W.heap.size 35 3) := by show OwnBlk _ _ _ _; rw [hwa]; exact HOz.out.later (blw_alloc (Below.refl _ _) _)
  go_upto_region 4 with (go_at_call 45; refine (withinI _ _ _ _).mono ?_; rintro e w' ⟨rfl, rfl⟩)
  rw [← hwa, HSz.out]
  clear hwa HBz HOz
  go_wp2
  have HNW : Hid (newW (N : Int) = [.row N (newRow (N : Int) N), .row 0 [], .row 0 []]) := by show _ = _; unfold newW; rw [hin]; rfl
  go_loopw [4] (fun i wr => ∃ (q : Nat) (v : Value) (G : List Nat) (xs : List Value), q ≤ N ∧ i = .int .i64 ((q : Int) + 1) ∧ WBox wr (W.heap.size + 1) 35 [v, .slice none 0 0, .slice none 0 0] ∧ Gr wr (W.heap.size + 2) 84 shRecorder v q G (newRow (N : Int) q) xs ∧ OwnBlk wr W.heap.size 35 3 ∧ Below W.heap.size W wr) (fun i _ => N + 1 - (intOf i).toNat)
  case atStart => exact ⟨0, _, [], [], Nat.zero_le _, rfl, HX.out, Gr.nil _ _ _ _, HO.out, HB.out⟩
  case round =>
    obtain ⟨q, v, G, xs, hq, rfl, hX, hG, hO, hW⟩ := hrel
    have HX2 := uh hX
    have HG2 := uh hG
    have HO2 := uh hO
    have HB2 := uh hW
    clear hX hG hO hW HX HB HO
    by_cases hlt : q < N
    · have hlt2 : (q : Int) + 1 ≤ (N : Int) := by omega
      obtain ⟨va, vc, hvv⟩ := HG2.out.shape
      subst hvv
      have HNO : Hid (newOk ((q : Int) + 1) (N : Int) = true) := by
        show _ = _
        unfold newOk; rw [hin]
        simp only [inB, Bool.true_and, Bool.and_eq_true, decide_eq_true_eq]
        omega
      have HCall : Hid (∀ X, Calls Tryz.prog 46 #[.int .i64 ((q : Int) + 1), .int .i64 (N : Int)] X fun e w' => e = .returned (.agg (newV (N : Int) ((q : Int) + 1)).toArray) ∧ Below X.heap.size X w') := fun X => by
        refine (recNewV _ _ X).mono fun e w' h => ⟨?_, h.2⟩
        rw [h.1, newN, newO, HNO.out]; rfl
      obtain ⟨Rc, hRc⟩ : ∃ Rc, Rc = newV (N : Int) ((q : Int) + 1) := ⟨_, rfl⟩
      have HRep : Hid (∀ X, Rep X false shRecorder [] (newD (N : Int) ((q : Int) + 1)) Rc) := fun X => by rw [hRc]; exact newRep X _ _
      have HLn : Hid (Rc.length = 18) := by show _ = _; rw [hRc]; rfl
      rw [← hRc] at HCall
      clear hRc
      have HSZ : Hid (W.heap.size + 2 ≤ wr.heap.size) := by have := HX2.out.own.lt; show _ ≤ _; omega
      go_upto_region 7 with fail
      refine RY.region_TC (Vn (W.heap.size + 1) q (N : Int) (.slice va q vc) Rc) (Tn (W.heap.size + 2) (W.heap.size + 1) q wr Rc (newRow (N : Int) (q + 1))) (by kernel_rfl) (by kernel_rfl) (by kernel_rfl) (by kernel_rfl) ?_ ?_ ?_
      · intro vals
        exact ⟨fun _ => Below.drew (Below.refl _ _), fun h => (by cases h), fun h => (by cases h), fun h => (by cases h)⟩
      · intro up vals i o ho hi hcl a X hk hd hT
        have c8_6 : up 8 = true → up 6 = true := hcl 8 _ ⟨6, .data⟩ rfl (by simp) rfl
        have c6_5 : up 6 = true → up 5 = true := hcl 6 _ ⟨5, .data⟩ rfl (by simp) rfl
        have c6_1 : up 6 = true → up 1 = true := hcl 6 _ ⟨1, .data⟩ rfl (by simp) rfl
        have c5_4 : up 5 = true → up 4 = true := hcl 5 _ ⟨4, .data⟩ rfl (by simp) rfl
        have et3 : a.tmps[3]?.getD undef = .pointer (some ⟨W.heap.size + 1, 0, none⟩) := (RY.ev_tmp a 3).trans ((hk 3 rfl).trans rfl)
        have et4 : a.tmps[4]?.getD undef = .int .i64 ((q : Int) + 1) := (RY.ev_tmp a 4).trans ((hk 4 rfl).trans rfl)
        have et0 : a.tmps[0]?.getD undef = .int .i64 (N : Int) := (RY.ev_tmp a 0).trans ((hk 0 rfl).trans rfl)
        match i, ho with
        | 0, ho =>
          injection ho with ho; subst ho
          exact Or.inl ⟨.pointer (some ⟨W.heap.size + 1, 0, none⟩), X, by simp [execOp, go_sem, et3], rfl, rfl, hT.pure 0 _ (by decide) (by decide) (by decide)⟩
        | 1, ho =>
          injection ho with ho; subst ho
          have d0 := hd 0 _ 15 rfl rfl ⟨⟨0, .data⟩, by simp, rfl, rfl⟩
          have e0 : a.tmps[15]?.getD undef = .pointer (some ⟨W.heap.size + 1, 0, none⟩) := (RY.ev_tmp a 15).trans (d0.2.1.trans d0.2.2)
          have n6 : up 6 = false := by
            cases e : up 6
            · rfl
            · have := c6_1 e; rw [hi] at this; cases this
          have hx := HX2.out.later (hT.bel n6)
          have x0 := hx.get 0 _ rfl
          have xz := hx.own.lt
          exact Or.inl ⟨.slice va q vc, X, by simp [execOp, go_sem, e0, x0], rfl, rfl, hT.pure 1 _ (by decide) (by decide) (by decide)⟩
        | 2, ho =>
          injection ho with ho; subst ho
          exact Or.inl ⟨.int .i64 ((q : Int) + 1), X, by simp [execOp, go_sem, et4], rfl, rfl, hT.pure 2 _ (by decide) (by decide) (by decide)⟩
        | 3, ho =>
          injection ho with ho; subst ho
          exact Or.inl ⟨.int .i64 (N : Int), X, by simp [execOp, go_sem, et0], rfl, rfl, hT.pure 3 _ (by decide) (by decide) (by decide)⟩
        | 4, ho =>
          injection ho with ho; subst ho
          have d0 := hd 2 _ 17 rfl rfl ⟨⟨2, .data⟩, by simp, rfl, rfl⟩
          have e0 : a.tmps[17]?.getD undef = .int .i64 ((q : Int) + 1) := (RY.ev_tmp a 17).trans (d0.2.1.trans d0.2.2)
          have d1 := hd 3 _ 18 rfl rfl ⟨⟨3, .data⟩, by simp, rfl, rfl⟩
          have e1 : a.tmps[18]?.getD undef = .int .i64 (N : Int) := (RY.ev_tmp a 18).trans (d1.2.1.trans d1.2.2)
          have n5 : up 5 = false := by
            cases e : up 5
            · rfl
            · have := c5_4 e; rw [hi] at this; cases this
          have n6 : up 6 = false := by
            cases e : up 6
            · rfl
            · have := c6_5 e; rw [n5] at this; cases this
          have n8 : up 8 = false := by
            cases e : up 8
            · rfl
            · have := c8_6 e; rw [n6] at this; cases this
          refine Or.inr (Or.inr ⟨46, #[.int .i64 ((q : Int) + 1), .int .i64 (N : Int)], by simp [go_sem, e0, e1], rfl, (HCall.out X).mono ?_⟩)
          rintro e X' ⟨rfl, hb⟩
          refine ⟨_, rfl, rfl, fun _ => blw_trans (hT.bel n6) hb, ?_, ?_, ?_⟩
          · show ((5 == 4) || up 5) = true → _; rw [n5]; intro h; cases h
          · show ((6 == 4) || up 6) = true → _; rw [n6]; intro h; cases h
          · show ((8 == 4) || up 8) = true → _; rw [n8]; intro h; cases h
        | 5, ho =>
          injection ho with ho; subst ho
          have d0 := hd 4 _ 19 rfl rfl ⟨⟨4, .data⟩, by simp, rfl, rfl⟩
          have e0 : a.tmps[19]?.getD undef = .agg Rc.toArray := (RY.ev_tmp a 19).trans (d0.2.1.trans d0.2.2)
          have n6 : up 6 = false := by
            cases e : up 6
            · rfl
            · have := c6_5 e; rw [hi] at this; cases this
          have n8 : up 8 = false := by
            cases e : up 8
            · rfl
            · have := c8_6 e; rw [n6] at this; cases this
          refine Or.inl ⟨.slice (some ⟨X.heap.size, 0, none⟩) 1 1, X.alloc (.cells Rc.toArray 84), ?_, rfl, trivial, fun _ => blw_trans (hT.bel n6) (blw_alloc (Below.refl _ _) _), fun _ _ => ⟨X.heap.size, rfl, heap_alloc_new X _⟩, ?_, ?_⟩
          · have e18 := HLn.out
            obtain ⟨x0, x1, x2, x3, x4, x5, x6, x7, x8, x9, x10, x11, x12, x13, x14, x15, x16, x17, rfl⟩ := list18 e18
            simp [execOp, go_sem, e0]
          · show ((6 == 5) || up 6) = true → _; rw [n6]; intro h; cases h
          · show ((8 == 5) || up 8) = true → _; rw [n8]; intro h; cases h
        | 6, ho =>
          injection ho with ho; subst ho
          have d0 := hd 1 _ 16 rfl rfl ⟨⟨1, .data⟩, by simp, rfl, rfl⟩
          have e0 : a.eval (.tmp 16) = .slice va q vc := d0.2.1.trans d0.2.2
          have d1 := hd 5 _ 20 rfl rfl ⟨⟨5, .data⟩, by simp, rfl, rfl⟩
          obtain ⟨b, hb5, hbb⟩ := hT.b5 d1.1 hi
          have e1 : a.eval (.tmp 20) = .slice (some ⟨b, 0, none⟩) 1 1 := d1.2.1.trans hb5
          have n8 : up 8 = false := by
            cases e : up 8
            · rfl
            · have := c8_6 e; rw [hi] at this; cases this
          have hX := hT.bel hi
          have hGX := HG2.out.later hX
          obtain ⟨g, cap, X', hrun, hown, hgrow, hgg, _⟩ := run_append_lies (P := Tryz.prog) (w := X) 31 31 (W.heap.size + 2) 84 i0 _ 18 248 Tryz.cunderRecorder HI0.out.1 HI0.out.2.1 HI0.out.2.2.1 HI0.out.2.2.2 rfl (by decide) (.slice va q vc) q xs hGX.row ⟨b, 0, none⟩ 1 1 Rc (by rw [HLn.out]) (fun j x hx => by rw [Addr.add_mid, Nat.zero_add]; simp only [World.cell?, hbb]; simpa using hx) (fun x hx => (HRep.out X).raw.one x hx) (by decide) (by unfold maxLen; omega) (by omega) (by have := HSZ.out; have := hX.size; omega) X.heap.size rfl
          refine Or.inl ⟨_, X', uexec_append (.tmp 16) (.tmp 20) 31 rfl e0 e1 hrun, rfl, trivial, ?_, ?_, ?_, ?_⟩
          · show ((6 == 6) || up 6) = false → _; intro h; cases h
          · show _ → ((6 == 6) || up 6) = false → _; intro _ h; cases h
          · intro _ _
            refine ⟨g, cap, G ++ [], xs ++ Rc, rfl, ?_, ?_⟩
            · have := HG2.out.push (F := []) (e := newD (N : Int) ((q : Int) + 1)) hX (HRep.out X) List.nodup_nil (by simp) HSZ.out hown hgrow (Nat.le_refl _) hgg
              rw [newRow_succ]
              exact this
            · exact blw_grown2 hX hgrow HSZ.out (fun b hb => (owns_blk_lt hGX.row hb).1)
          · show ((8 == 6) || up 8) = true → _; rw [n8]; intro h; cases h
        | 7, ho =>
          injection ho with ho; subst ho
          exact Or.inl ⟨.pointer (some ⟨W.heap.size + 1, 0, none⟩), X, by simp [execOp, go_sem, et3], rfl, rfl, hT.pure 7 _ (by decide) (by decide) (by decide)⟩
        | 8, ho =>
          injection ho with ho; subst ho
          have d0 := hd 7 _ 22 rfl rfl ⟨⟨7, .data⟩, by simp, rfl, rfl⟩
          have e0 : a.tmps[22]?.getD undef = .pointer (some ⟨W.heap.size + 1, 0, none⟩) := (RY.ev_tmp a 22).trans (d0.2.1.trans d0.2.2)
          have d1 := hd 6 _ 21 rfl rfl ⟨⟨6, .data⟩, by simp, rfl, rfl⟩
          obtain ⟨g, cap, G', xs', ev, hgr, hbl⟩ := hT.a6 d1.1 hi
          have e1 : a.tmps[21]?.getD undef = .slice (some ⟨g, 0, none⟩) (q + 1) cap := (RY.ev_tmp a 21).trans (d1.2.1.trans ev)
          have hx := HX2.out.blw hbl (by omega)
          have x0 := hx.get 0 _ rfl
          have xz := hx.own.lt
          have xf := hx.own.frozen 0
          refine Or.inr (Or.inl ⟨X.setCell ⟨W.heap.size + 1, 0, none⟩ (.slice (some ⟨g, 0, none⟩) (q + 1) cap), by simp [execOp, go_sem, e0, e1, x0, xf], rfl, ?_, ?_, ?_, ?_⟩)
          · show ((6 == 8) || up 6) = false → _; rw [d1.1]; intro h; cases h
          · show _ → ((6 == 8) || up 6) = false → _; rw [d1.1]; intro _ h; cases h
          · show _ → ((8 == 8) || up 8) = false → _; intro _ h; cases h
          · intro _
            exact ⟨X, g, cap, G', xs', hgr, hbl, rfl⟩
        | n + 9, ho => simp at ho
      intro up vals vs X hall hvs hT
      obtain ⟨X0, g, cap, G', xs', hgr, hbl, hXX⟩ := hT.s8 (hall 8 (by decide))
      have HX3 : Hid (WBox X (W.heap.size + 1) 35 [.slice (some ⟨g, 0, none⟩) (q + 1) cap, .slice none 0 0, .slice none 0 0]) := by
        show WBox _ _ _ _
        rw [hXX]; exact (HX2.out.blw hbl (by omega)).set 0 _ (by simp)
      have HG3 : Hid (Gr X (W.heap.size + 2) 84 shRecorder (.slice (some ⟨g, 0, none⟩) (q + 1) cap) (q + 1) G' (newRow (N : Int) (q + 1)) xs') := by
        show Gr _ _ _ _ _ _ _ _ _
        rw [hXX]; exact hgr.sc (by omega) _ _
      have HO3 : Hid (OwnBlk X W.heap.size 35 3) := by
        obtain ⟨c0, h1, h2⟩ := HO2.out
        rw [hXX]
        exact ⟨c0, (Below.heap_setCell X0 ⟨W.heap.size + 1, 0, none⟩ _ W.heap.size (by show W.heap.size ≠ W.heap.size + 1; omega)).trans ((hbl.block _ (by omega)).trans h1), h2⟩
      have HB3 : Hid (Below W.heap.size W X) := by
        show Below _ _ _
        rw [hXX]
        exact Below.setCell (HB2.out.trans (hbl.mono (by omega))) (p := ⟨W.heap.size + 1, 0, none⟩) (by show _ ≤ _ + 1; omega) _
      simp only [RY.putAll, Act.put, List.setIfInBounds_toArray, List.set_cons_zero, List.set_cons_succ]
      generalize vs 15 = g0
      generalize vs 16 = g1
      generalize vs 17 = g2
      generalize vs 18 = g3
      generalize vs 19 = g4
      generalize vs 20 = g5
      generalize vs 21 = g6
      generalize vs 22 = g7
      clear hvs hall hT hgr hbl hXX HX2 HG2 HO2 HB2
      go_wp2
      go_roundw
      case rel => exact ⟨q + 1, _, G', xs', by omega, by go_num, HX3.out, HG3.out, HO3.out, HB3.out⟩
      case measure => simp [intOf]; omega
    · obtain rfl : q = N := by omega
      have hlt2 : ¬ ((q : Int) + 1 ≤ (q : Int)) := by omega
      obtain ⟨va, vc, hvv⟩ := HG2.out.shape
      subst hvv
      obtain ⟨F, r, nd, fr⟩ := HG2.out.done
      have HRR := uh (And.intro r (And.intro nd fr))
      clear r nd fr
      have yz := HX2.out.own.lt
      have y := HX2.out.at_
      have hth : wr.there W.heap.size 0 (#[.slice va q vc, .slice none 0 0, .slice none 0 0] : Array Value).size := uthere HO2.out _ _ (by simp)
      obtain ⟨we, hwe⟩ : ∃ we, we = wr.setCells W.heap.size 0 [.slice va q vc, .slice none 0 0, .slice none 0 0] := ⟨_, rfl⟩
      have hrt : we.rangeAt W.heap.size 0 [.slice va q vc, .slice none 0 0, .slice none 0 0] := by rw [hwe]; exact World.rangeAt_setCells_same _ _ _ _ hth
      have HBB : Hid (Below W.heap.size W we) := by show Below _ _ _; rw [hwe]; exact blw_scs (Nat.le_refl _) _ _ _ HB2.out
      have HME : Hid (Marks (fun b => b = W.heap.size) wr we) := by show Marks _ _ _; rw [hwe]; exact mks_scs (S := fun b => b = W.heap.size) rfl _ _ _
      go_wp2_with (first | (refine wpList_load_mid rfl 35 _ rfl (W.heap.size + 1) 0 rfl [.slice va q vc, .slice none 0 0, .slice none 0 0] _ y Tryz.underlying35 rfl (by kernel_rfl) ?_) | (refine wpList_store_mid rfl 35 _ _ rfl W.heap.size 0 #[.slice va q vc, .slice none 0 0, .slice none 0 0] rfl rfl hth (by kernel_rfl) (by simp [Value.oneCell']) ?_))
      first | rw [← hwe] | (simp only [List.toList_toArray]; rw [← hwe])
      try simp only [Act.put, List.setIfInBounds_toArray, List.set_cons_zero, List.set_cons_succ]
      refine bodyPost_ret (v := .agg #[.slice va q vc, .slice none 0 0, .slice none 0 0]) (by simp [results, Tryz.results21, asAddr, run_loadVar_mid (P := Tryz.prog) _ _ _ 35 [.slice va q vc, .slice none 0 0, .slice none 0 0] _ hrt Tryz.underlying35 rfl (by kernel_rfl)]) rfl ?_
      refine ⟨[.slice va q vc, .slice none 0 0, .slice none 0 0], F ++ [], rfl, ?_, by rw [List.append_nil]; exact HRR.out.2.1, fun b hb => by rw [List.append_nil] at hb; have := HRR.out.2.2 b hb; omega, HBB.out⟩
      rw [HNW.out]
      exact (HRR.out.1.keep HME.out (fun b hb e => by have := HRR.out.2.2 b hb; omega)).app (.emp _ _ _ rfl (.emp _ _ _ rfl .nil))
end Go.Proofs.YtfkkohfjkofgnaaGreat
