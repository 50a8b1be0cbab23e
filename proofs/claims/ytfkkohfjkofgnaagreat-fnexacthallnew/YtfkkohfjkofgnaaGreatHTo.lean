/-
  Copies of houses.
-/
import Derived.Test.YtfkkohfjkofgnaaGreatHSh
namespace Go.Proofs.YtfkkohfjkofgnaaGreat
open Go.RowKit Go.Deep

theorem Tryz.uinfoN1 : (Tryz.prog.info? 3).map (fun i => (i.zero, i.size, decide (i.bytes ≤ 4096))) = some (some (.int .i64 0), 1, true) := by kernel_rfl
theorem Tryz.uunderN1 : Tryz.prog.underlying 66 = some (.slice 3) := by kernel_rfl
theorem umakeN1 (n : Nat) (h : n ≤ 1048576) : ∃ cs : Array Value, cs.size = n * 1 ∧ ∀ W : World,
    (Instr.makeSlice 66 (.int .i64 (n : Int)) (.int .i64 (n : Int))).run Tryz.prog W = .ok (.slice (some ⟨W.heap.size, 0, none⟩) n n) (W.alloc (.cells cs 3)) := by
  obtain ⟨i, hi, hzz⟩ := Option.map_eq_some_iff.1 Tryz.uinfoN1
  simp only [Prod.mk.injEq, decide_eq_true_eq] at hzz
  obtain ⟨hz, hs, hb⟩ := hzz
  refine ⟨madeCells ((.int .i64 0) : Value).cells (n * 1), size_madeCells _ _, fun W => ?_⟩
  have hmx : (i.bytes : Int) * (n : Int) ≤ 281474976710656 := by
    have e : ((i.bytes * n : Nat) : Int) ≤ ((4096 * 1048576 : Nat) : Int) := Int.ofNat_le.2 (Nat.mul_le_mul hb h)
    rw [Int.natCast_mul] at e
    exact Int.le_trans e (by decide)
  have hr := run_make (P := Tryz.prog) W 66 3 i _ Tryz.uunderN1 hi hz .i64 .i64 n n (by omega) (Int.le_refl _) hmx (by omega)
  simp only [Int.toNat_natCast, hs] at hr
  exact hr
set_option maxRecDepth 8000 in
set_option maxHeartbeats 8000000 in
theorem toIntS (n : Nat) (es : List Dt) (v : Value) (w : World) (h : Raw w [.row 3 [.i]] [.row n es] [v]) (hs : n + wtL es ≤ 1048576) :
    Calls Tryz.prog 92 #[v] w fun e w' => ∃ v' F, e = .returned v' ∧ Rep w' true [.row 3 [.i]] F [.row n es] [v'] ∧ F.Nodup ∧ (∀ b ∈ F, w.heap.size ≤ b) ∧ Below w.heap.size w w' := by
  obtain ⟨zs, hzs, hmk⟩ := umakeN1 n (by omega)
  by_cases h0 : n = 0
  · subst h0
    have he0 : es = [] := List.eq_nil_of_length_eq_zero (by have := h.typ; obtain ⟨_, _, _, e, t, _⟩ := this.c_r; injection e with e1 e2; injection e1 with e3 e4; subst e3; subst e4; have := t.rows; omega)
    subst he0
    obtain ⟨a, c, rfl⟩ := h.len0
    have hmk0 : ∀ W : World, (Instr.makeSlice 66 (.int .i64 0) (.int .i64 0)).run Tryz.prog W = .ok (.slice (some ⟨W.heap.size, 0, none⟩) 0 0) (W.alloc (.cells zs 3)) := hmk
    clear hmk
    go_enter Tryz.func92, Tryz.ntmps92
    go_wp2
    refine wp_loop_rounds 1 ?_
    rw [rounds_succ]
    go_wp2
    go_ret
    exact ⟨_, [w.heap.size], rfl, Rep.row 3 [.i] w.heap.size 0 0 0 3 0 [] [] [] (OwnBlk.alloc w zs _ _ (by simpa using hzs)) (by simp) (fun _ => ⟨rfl, by simp, rfl, rfl⟩) ⟨Nat.zero_le _, Nat.le_refl _⟩ (rA_nil _ _ _) .nil .nil, by simp, by simp, blw_alloc (Below.refl _ _) _⟩
  rcases h.slice with ⟨e0, _⟩ | ⟨p, o, c, rfl, hp, hn, vs, hr, hR⟩
  · exact absurd e0 h0
  have HR := uh (And.intro hR (And.intro hr hp))
  have HT := uh hR.typ
  have HS := uh hs
  have hn1 : n ≤ 1048576 := by omega
  clear h hr hR hp hs hn
  go_enter Tryz.func92, Tryz.ntmps92
  go_wp2
  go_loopw [4] (fun i wr => ∃ (q : Nat) (G : List Nat) (D : List Value), q ≤ n ∧ i = .int .i64 q ∧ Below w.heap.size w wr ∧ Bld wr w.heap.size 3 (n * 1) (reps q [.i]) G (es.take (q * 1)) D) (fun i _ => n - (intOf i).toNat)
  case atStart => exact ⟨0, [], [], Nat.zero_le _, rfl, blw_alloc (Below.refl _ _) _, by rw [Nat.zero_mul, List.take_zero]; exact Bld.nil (OwnBlk.alloc w zs 3 _ hzs)⟩
  case round =>
    obtain ⟨q, G, D, hq, rfl, hW, hD⟩ := hrel
    have HB := uh hW
    have HD := uh hD
    clear hW hD hmk hzs
    by_cases hlt : q < n
    · obtain ⟨ve, hE, hg⟩ := (HR.out.1.later HB.out).el hlt (rA_later HR.out.2.1 HR.out.2.2 HB.out)
      have hbp : p < wr.heap.size := Nat.lt_of_lt_of_le HR.out.2.2 HB.out.size
      have hm0 : (0 : Int) ≤ (q : Int) := by omega
      have hm3 : (q : Int) < (n : Int) := by omega
      have hmul : q * 1 + 1 ≤ n * 1 := by omega
      have hqz := HD.out.own.lt
      have hfz := HD.out.own.frozen
      obtain ⟨d, hd⟩ : ∃ d, d = el 1 q es := ⟨_, rfl⟩
      have hE1 : Raw wr [.i] d ve := by rw [hd]; exact hE
      obtain ⟨a0, rfl⟩ := typN1 hE1.typ
      obtain rfl := rawN1 hE1
      have gc : wr.cell? ⟨p, o + q, none⟩ = some (.int .i64 a0) := by have := rA_get hg 0 _ rfl; simpa using this
      obtain ⟨y, hy⟩ : ∃ y, y = wr.setCell ⟨w.heap.size, q, none⟩ (.int .i64 a0) := ⟨_, rfl⟩
      have HN : Hid (Below w.heap.size w y ∧ Bld y w.heap.size 3 (n * 1) (reps (q + 1) [.i]) (G ++ []) (es.take ((q + 1) * 1)) (D ++ [.int .i64 a0])) := by
        refine ⟨by rw [hy]; exact HB.out.setCell (p := ⟨w.heap.size, q, none⟩) (Nat.le_refl _) _, ?_⟩
        rw [hy, reps_snoc, Nat.succ_mul, el_take, ← hd, List.append_nil]
        exact HD.out.put1 (by rw [reps_len]; simp) (.i a0 .nil) (by omega)
      obtain ⟨ux, eu⟩ := HD.out.own.cell q (by omega)
      clear hE hE1 hd hg HR HD
      go_upto_region 4 with fail
      rw [← hy]
      clear hy eu gc
      go_wp2
      go_roundw
      case rel => exact ⟨q + 1, _, _, by omega, by go_num, HN.out.1, HN.out.2⟩
      case measure => simp [intOf]; omega
    · obtain rfl : q = n := by omega
      have el_ : es.length = q * 1 := HT.out.rows
      rw [← el_, List.take_length, el_] at HD
      go_wp2
      go_ret
      refine ⟨_, w.heap.size :: (G ++ []), rfl, Rep.row 3 [.i] w.heap.size 0 q q 3 (q * 1) D es G HD.out.own (by show 0 + q * 1 ≤ q * 1; omega) (fun _ => ⟨rfl, rfl, rfl, rfl⟩) ⟨by show q ≤ 9223372036854775807; omega, Nat.le_refl _⟩ HD.out.at_ HD.out.rep .nil, ?_, ?_, HB.out⟩
      · rw [List.append_nil, List.nodup_cons]; exact ⟨fun e => Nat.lt_irrefl _ (HD.out.fr _ e), HD.out.nd⟩
      · intro b hb; rw [List.append_nil] at hb; rcases List.mem_cons.1 hb with rfl | hb; exact Nat.le_refl _; exact Nat.le_of_lt (HD.out.fr b hb)
set_option maxRecDepth 8000 in
set_option maxHeartbeats 8000000 in
theorem toGateTeam (ds : List Dt) (cs : List Value) (w : World) (h : Raw w shGateTeam ds cs) (hs : wtL ds ≤ 1048576) :
    Calls Tryz.prog 43 #[.agg cs.toArray] w fun e w' => ∃ cs' F, e = .returned (.agg cs'.toArray) ∧ Rep w' true shGateTeam F ds cs' ∧ F.Nodup ∧ (∀ b ∈ F, w.heap.size ≤ b) ∧ Below w.heap.size w w' := by
  obtain ⟨a0, a1, rfl, hcs⟩ := segRawGateTeam h
  have HCS := uh hcs
  simp only [wtL] at hs
  have HS := uh hs
  obtain ⟨wa, hwa⟩ : ∃ wa, wa = ((w.alloc (.cells cs.toArray 64)).alloc (.cells #[.string { data := #[] }, .string { data := #[] }] 86)).alloc (.cells #[.string { data := #[] }, .string { data := #[] }] 86) := ⟨_, rfl⟩
  have HB : Hid (Below w.heap.size w wa) := by show Below _ _ _; rw [hwa]; exact blw_alloc (blw_alloc (blw_alloc (Below.refl _ _) _) _) _
  have HX : Hid (LBox wa w.heap.size cs) := by show LBox _ _ _; rw [hwa]; exact ((LBox.new w cs.toArray _ _ rfl).past _).past _
  have HRS : Hid (OwnBlk wa (w.heap.size + 1) 86 2) := by show OwnBlk _ _ _ _; rw [hwa]; exact (OwnBlk.alloc_at3 _ _ _ _ _ rfl (by simp)).past _
  have HD : Hid (Bld wa (w.heap.size + 2) 86 2 [] [] [] []) := by show Bld _ _ _ _ _ _ _ _; rw [hwa]; exact Bld.nil (OwnBlk.alloc_at3 _ _ _ _ _ rfl (by simp))
  clear hcs hs h
  go_enter Tryz.func43, Tryz.ntmps43
  go_upto_region 2 with fail
  rw [← hwa]
  clear hwa
  have hbz := HX.out.lt
  have hqz := HD.out.own.lt
  have hfz := HD.out.own.frozen
  have hbx := boxGateTeam  (by have := HX.out.at_; rw [HCS.out] at this; exact this)
  have gc := hbx.1
  clear hbx
  obtain ⟨y0, hy⟩ : ∃ y, y = wa.setCell ⟨w.heap.size + 2, 0, none⟩ (.string a0) := ⟨_, rfl⟩
  obtain ⟨ux, eu⟩ := HD.out.own.cell 0 (by omega)
  have HD2 := uh (HD.out.put1 (j := 0) rfl (.s a0 .nil) (by omega))
  rw [← hy] at HD2
  replace HX : Hid (LBox y0 w.heap.size cs) := by show LBox _ _ _; rw [hy]; exact HX.out.other_ (by omega) _ _
  replace HRS : Hid (OwnBlk y0 (w.heap.size + 1) 86 2) := by show OwnBlk _ _ _ _; rw [hy]; exact HRS.out.sc_other (by omega) _ _
  replace HB : Hid (Below w.heap.size w y0) := by show Below _ _ _; rw [hy]; exact HB.out.setCell (p := ⟨w.heap.size + 2, 0, none⟩) (by show w.heap.size ≤ w.heap.size + 2; omega) _
  obtain ⟨D0, hD⟩ : ∃ D : List Value, D = [] ++ [.string a0] := ⟨_, rfl⟩
  rw [← hD] at HD2
  clear hD HD
  go_upto_region 3 with fail
  rw [← hy]
  clear hy eu gc hbz hqz hfz
  have HD := HD2
  clear HD2
  have hbz := HX.out.lt
  have hqz := HD.out.own.lt
  have hfz := HD.out.own.frozen
  have hbx := boxGateTeam  (by have := HX.out.at_; rw [HCS.out] at this; exact this)
  have gc := hbx.2
  clear hbx
  obtain ⟨y1, hy⟩ : ∃ y, y = y0.setCell ⟨w.heap.size + 2, 1, none⟩ (.string a1) := ⟨_, rfl⟩
  obtain ⟨ux, eu⟩ := HD.out.own.cell 1 (by omega)
  have HD2 := uh (HD.out.put1 (j := 1) rfl (.s a1 .nil) (by omega))
  rw [← hy] at HD2
  replace HX : Hid (LBox y1 w.heap.size cs) := by show LBox _ _ _; rw [hy]; exact HX.out.other_ (by omega) _ _
  replace HRS : Hid (OwnBlk y1 (w.heap.size + 1) 86 2) := by show OwnBlk _ _ _ _; rw [hy]; exact HRS.out.sc_other (by omega) _ _
  replace HB : Hid (Below w.heap.size w y1) := by show Below _ _ _; rw [hy]; exact HB.out.setCell (p := ⟨w.heap.size + 2, 1, none⟩) (by show w.heap.size ≤ w.heap.size + 2; omega) _
  obtain ⟨D1, hD⟩ : ∃ D : List Value, D = D0 ++ [.string a1] := ⟨_, rfl⟩
  rw [← hD] at HD2
  clear hD HD
  go_upto_region 4 with fail
  rw [← hy]
  clear hy eu gc hbz hqz hfz
  have HD := HD2
  clear HD2
  have hlD : D1.length = 2 := HD.out.len
  have hth : y1.there (w.heap.size + 1) 0 D1.toArray.size := uthere HRS.out _ _ (by rw [List.size_toArray, hlD]; omega)
  have hone := all_oneCell_toArray HD.out.rep.raw.one
  have hsz : (Tryz.prog.info? 86).map (·.size) = some D1.toArray.size := by rw [List.size_toArray, hlD]; kernel_rfl
  obtain ⟨we, hwe⟩ : ∃ we, we = y1.setCells (w.heap.size + 1) 0 D1 := ⟨_, rfl⟩
  have hrt : we.rangeAt (w.heap.size + 1) 0 D1 := by rw [hwe]; exact World.rangeAt_setCells_same _ _ _ _ (by simpa using hth)
  have HBE : Hid (Below w.heap.size w we) := by show Below _ _ _; rw [hwe]; exact blw_scs (by omega) _ _ _ HB.out
  have HRE := uh (HD.out.rep.keep (w' := we) (S := fun b => b = w.heap.size + 1) (by rw [hwe]; exact mks_scs (S := fun b => b = w.heap.size + 1) rfl _ _ _) (fun b hb e => by have := HD.out.fr b hb; omega))
  refine wp_region_lit ?_
  refine wpList_load_mid rfl 86 _ rfl (w.heap.size + 2) 0 rfl D1 _ HD.out.at_ Tryz.underlying86 rfl (by rw [hlD]; kernel_rfl) ?_
  refine wpList_store_mid rfl 86 _ _ rfl (w.heap.size + 1) 0 D1.toArray rfl rfl hth hsz hone ?_
  simp only [Act.put, List.setIfInBounds_toArray, List.set_cons_zero, List.set_cons_succ]
  rw [← hwe]
  clear hwe hth hone hsz
  go_wp2
  refine bodyPost_ret (v := .agg D1.toArray) (by simp [results, Tryz.results43, asAddr, run_loadVar_mid (P := Tryz.prog) _ _ _ 86 D1 _ hrt Tryz.underlying86 rfl (by rw [hlD]; kernel_rfl)]) rfl ⟨D1, _, rfl, ?_, HD.out.nd, fun b hb => by have := HD.out.fr b hb; omega, HBE.out⟩
  exact HRE.out
theorem Tryz.uinfoGateTeam : (Tryz.prog.info? 86).map (fun i => (i.zero, i.size, decide (i.bytes ≤ 4096))) = some (some (.agg #[.string ByteArray.empty, .string ByteArray.empty]), 2, true) := by kernel_rfl
theorem Tryz.uunderGateTeam : Tryz.prog.underlying 27 = some (.slice 86) := by kernel_rfl
theorem umakeGateTeam (n : Nat) (h : n ≤ 1048576) : ∃ cs : Array Value, cs.size = n * 2 ∧ ∀ W : World,
    (Instr.makeSlice 27 (.int .i64 (n : Int)) (.int .i64 (n : Int))).run Tryz.prog W = .ok (.slice (some ⟨W.heap.size, 0, none⟩) n n) (W.alloc (.cells cs 86)) := by
  obtain ⟨i, hi, hzz⟩ := Option.map_eq_some_iff.1 Tryz.uinfoGateTeam
  simp only [Prod.mk.injEq, decide_eq_true_eq] at hzz
  obtain ⟨hz, hs, hb⟩ := hzz
  refine ⟨madeCells ((.agg #[.string ByteArray.empty, .string ByteArray.empty]) : Value).cells (n * 2), size_madeCells _ _, fun W => ?_⟩
  have hmx : (i.bytes : Int) * (n : Int) ≤ 281474976710656 := by
    have e : ((i.bytes * n : Nat) : Int) ≤ ((4096 * 1048576 : Nat) : Int) := Int.ofNat_le.2 (Nat.mul_le_mul hb h)
    rw [Int.natCast_mul] at e
    exact Int.le_trans e (by decide)
  have hr := run_make (P := Tryz.prog) W 27 86 i _ Tryz.uunderGateTeam hi hz .i64 .i64 n n (by omega) (Int.le_refl _) hmx (by omega)
  simp only [Int.toNat_natCast, hs] at hr
  exact hr
set_option maxRecDepth 8000 in
set_option maxHeartbeats 8000000 in
theorem toGateTeamS (n : Nat) (es : List Dt) (v : Value) (w : World) (h : Raw w [.row 86 shGateTeam] [.row n es] [v]) (hs : n + wtL es ≤ 1048576) :
    Calls Tryz.prog 19 #[v] w fun e w' => ∃ v' F, e = .returned v' ∧ Rep w' true [.row 86 shGateTeam] F [.row n es] [v'] ∧ F.Nodup ∧ (∀ b ∈ F, w.heap.size ≤ b) ∧ Below w.heap.size w w' := by
  obtain ⟨zs, hzs, hmk⟩ := umakeGateTeam n (by omega)
  by_cases h0 : n = 0
  · subst h0
    have he0 : es = [] := List.eq_nil_of_length_eq_zero (by have := h.typ; obtain ⟨_, _, _, e, t, _⟩ := this.c_r; injection e with e1 e2; injection e1 with e3 e4; subst e3; subst e4; have := t.rows; omega)
    subst he0
    obtain ⟨a, c, rfl⟩ := h.len0
    have hmk0 : ∀ W : World, (Instr.makeSlice 27 (.int .i64 0) (.int .i64 0)).run Tryz.prog W = .ok (.slice (some ⟨W.heap.size, 0, none⟩) 0 0) (W.alloc (.cells zs 86)) := hmk
    clear hmk
    go_enter Tryz.func19, Tryz.ntmps19
    go_wp2
    refine wp_loop_rounds 1 ?_
    rw [rounds_succ]
    go_wp2
    go_ret
    exact ⟨_, [w.heap.size], rfl, Rep.row 86 shGateTeam w.heap.size 0 0 0 86 0 [] [] [] (OwnBlk.alloc w zs _ _ (by simpa using hzs)) (by simp) (fun _ => ⟨rfl, by simp, rfl, rfl⟩) ⟨Nat.zero_le _, Nat.le_refl _⟩ (rA_nil _ _ _) .nil .nil, by simp, by simp, blw_alloc (Below.refl _ _) _⟩
  rcases h.slice with ⟨e0, _⟩ | ⟨p, o, c, rfl, hp, hn, vs, hr, hR⟩
  · exact absurd e0 h0
  have HR := uh (And.intro hR (And.intro hr hp))
  have HT := uh hR.typ
  have HS := uh hs
  have hn1 : n ≤ 1048576 := by omega
  clear h hr hR hp hs hn
  go_enter Tryz.func19, Tryz.ntmps19
  go_wp2
  go_loopw [4] (fun i wr => ∃ (q : Nat) (G : List Nat) (D : List Value), q ≤ n ∧ i = .int .i64 q ∧ Below w.heap.size w wr ∧ Bld wr w.heap.size 86 (n * 2) (reps q shGateTeam) G (es.take (q * 2)) D) (fun i _ => n - (intOf i).toNat)
  case atStart => exact ⟨0, [], [], Nat.zero_le _, rfl, blw_alloc (Below.refl _ _) _, by rw [Nat.zero_mul, List.take_zero]; exact Bld.nil (OwnBlk.alloc w zs 86 _ hzs)⟩
  case round =>
    obtain ⟨q, G, D, hq, rfl, hW, hD⟩ := hrel
    have HB := uh hW
    have HD := uh hD
    clear hW hD hmk hzs
    by_cases hlt : q < n
    · obtain ⟨ve, hE, hg⟩ := (HR.out.1.later HB.out).el hlt (rA_later HR.out.2.1 HR.out.2.2 HB.out)
      have hbp : p < wr.heap.size := Nat.lt_of_lt_of_le HR.out.2.2 HB.out.size
      have hm0 : (0 : Int) ≤ (q : Int) := by omega
      have hm3 : (q : Int) < (n : Int) := by omega
      have hmul : q * 2 + 2 ≤ n * 2 := by omega
      have hqz := HD.out.own.lt
      have hfz := HD.out.own.frozen
      have hg2 : wr.rangeAt p (o + q * 2) ve := hg
      have HL := uh hE.len
      have HX : Hid (Calls Tryz.prog 43 #[.agg ve.toArray] wr fun e w' => ∃ cs' F, e = .returned (.agg cs'.toArray) ∧ Rep w' true shGateTeam F (el 2 q es) cs' ∧ F.Nodup ∧ (∀ b ∈ F, wr.heap.size ≤ b) ∧ Below wr.heap.size wr w') := toGateTeam _ ve wr hE (by have := HS.out; have := wt_next 2 q es; have := wt_le ((q + 1) * 2) es; show wtL (el 2 q es) ≤ _; omega)
      clear hE hg HR
      go_wp2_with (refine wpList_load_mid rfl 64 _ rfl p (o + q * 2) rfl ve _ hg2 Tryz.underlying64 rfl (by rw [HL.out]; kernel_rfl) ?_)
      refine HX.out.mono ?_
      rintro e w2 ⟨cs', F', rfl, rep, nd, fr, hb⟩
      obtain ⟨y, hy⟩ : ∃ y, y = w2.setCells w.heap.size (q * 2) cs' := ⟨_, rfl⟩
      have hl := rep.len
      have HN : Hid (Below w.heap.size w y ∧ Bld y w.heap.size 86 (n * 2) (reps (q + 1) shGateTeam) (G ++ F') (es.take ((q + 1) * 2)) (D ++ cs')) := by
        refine ⟨by rw [hy]; exact blw_scs (Nat.le_refl _) _ _ _ (blw_trans HB.out hb), ?_⟩
        rw [hy, reps_snoc, Nat.succ_mul, el_take]
        exact (HD.out.later hb).put (reps_len _ _) rep nd fr (fun b hb => HD.out.rep.lt b hb) HD.out.own.lt (by show q * 2 + 2 ≤ n * 2; omega)
      have hth : w2.there w.heap.size (q * 2) cs'.toArray.size := uthere (HD.out.later hb).own _ _ (by rw [List.size_toArray, hl]; exact hmul)
      have hone := all_oneCell_toArray rep.raw.one
      have hsz : (Tryz.prog.info? 86).map (·.size) = some cs'.toArray.size := by rw [List.size_toArray, hl]; kernel_rfl
      have hqz := (HD.out.later hb).own.lt
      clear HD HX hg2 rep nd fr hl
      go_upto_region 4 with (refine wpList_store_mid rfl 86 _ _ rfl w.heap.size (q * 2) cs'.toArray rfl rfl hth hsz hone ?_)
      first | rw [← hy] | (simp only [List.toList_toArray]; rw [← hy])
      clear hy hth hone hsz hb
      go_wp2
      go_roundw
      case rel => exact ⟨q + 1, _, _, by omega, by go_num, HN.out.1, HN.out.2⟩
      case measure => simp [intOf]; omega
    · obtain rfl : q = n := by omega
      have el_ : es.length = q * 2 := HT.out.rows
      rw [← el_, List.take_length, el_] at HD
      go_wp2
      go_ret
      refine ⟨_, w.heap.size :: (G ++ []), rfl, Rep.row 86 shGateTeam w.heap.size 0 q q 86 (q * 2) D es G HD.out.own (by show 0 + q * 2 ≤ q * 2; omega) (fun _ => ⟨rfl, rfl, rfl, rfl⟩) ⟨by show q ≤ 9223372036854775807; omega, Nat.le_refl _⟩ HD.out.at_ HD.out.rep .nil, ?_, ?_, HB.out⟩
      · rw [List.append_nil, List.nodup_cons]; exact ⟨fun e => Nat.lt_irrefl _ (HD.out.fr _ e), HD.out.nd⟩
      · intro b hb; rw [List.append_nil] at hb; rcases List.mem_cons.1 hb with rfl | hb; exact Nat.le_refl _; exact Nat.le_of_lt (HD.out.fr b hb)
set_option maxRecDepth 8000 in
set_option maxHeartbeats 8000000 in
theorem toGateRule (ds : List Dt) (cs : List Value) (w : World) (h : Raw w shGateRule ds cs) (hs : wtL ds ≤ 1048576) :
    Calls Tryz.prog 72 #[.agg cs.toArray] w fun e w' => ∃ cs' F, e = .returned (.agg cs'.toArray) ∧ Rep w' true shGateRule F ds cs' ∧ F.Nodup ∧ (∀ b ∈ F, w.heap.size ≤ b) ∧ Below w.heap.size w w' := by
  obtain ⟨n0, e0, v0, a1, a2, a3, rfl, hcs, r0⟩ := segRawGateRule h
  have R0 := uh r0
  have HCS := uh hcs
  simp only [wtL] at hs
  have HS := uh hs
  obtain ⟨wa, hwa⟩ : ∃ wa, wa = ((w.alloc (.cells cs.toArray 68)).alloc (.cells #[.slice none 0 0, .string { data := #[] }, .string { data := #[] }, .string { data := #[] }] 72)).alloc (.cells #[.slice none 0 0, .string { data := #[] }, .string { data := #[] }, .string { data := #[] }] 72) := ⟨_, rfl⟩
  have HB : Hid (Below w.heap.size w wa) := by show Below _ _ _; rw [hwa]; exact blw_alloc (blw_alloc (blw_alloc (Below.refl _ _) _) _) _
  have HX : Hid (LBox wa w.heap.size cs) := by show LBox _ _ _; rw [hwa]; exact ((LBox.new w cs.toArray _ _ rfl).past _).past _
  have HRS : Hid (OwnBlk wa (w.heap.size + 1) 72 4) := by show OwnBlk _ _ _ _; rw [hwa]; exact (OwnBlk.alloc_at3 _ _ _ _ _ rfl (by simp)).past _
  have HD : Hid (Bld wa (w.heap.size + 2) 72 4 [] [] [] []) := by show Bld _ _ _ _ _ _ _ _; rw [hwa]; exact Bld.nil (OwnBlk.alloc_at3 _ _ _ _ _ rfl (by simp))
  clear hcs hs h r0
  go_enter Tryz.func72, Tryz.ntmps72
  go_upto_region 2 with fail
  rw [← hwa]
  clear hwa
  have hbz := HX.out.lt
  have hqz := HD.out.own.lt
  have hfz := HD.out.own.frozen
  have hbx := boxGateRule  (by have := HX.out.at_; rw [HCS.out] at this; exact this)
  have gc := hbx.1
  clear hbx
  obtain ⟨va0, vc0, hva⟩ := R0.out.len0
  subst hva
  go_wp2_with fail
  refine (toIntS n0 e0 (.slice va0 n0 vc0) wa (R0.out.later HB.out) (by have := HS.out; omega)).mono ?_
  rintro e x0 ⟨w0, F0, rfl, rep, nd, fr, hb⟩
  obtain ⟨wa0, wc0, hva⟩ := rep.raw.len0
  subst hva
  obtain ⟨y0, hy⟩ : ∃ y, y = x0.setCell ⟨w.heap.size + 2, 0, none⟩ (.slice wa0 n0 wc0) := ⟨_, rfl⟩
  replace HB := uh (blw_trans HB.out hb)
  replace HX := uh (HX.out.later hb)
  replace HRS := uh (HRS.out.later hb)
  have HD2 := uh ((HD.out.later hb).put (j := 0) rfl rep nd fr (fun b hb => HD.out.rep.lt b hb) HD.out.own.lt (by decide))
  have hy2 : x0.setCells (w.heap.size + 2) 0 [.slice wa0 n0 wc0] = y0 := hy.symm
  rw [hy2] at HD2
  have HD3 := HD2
  clear HD2 hy2
  have hqz := (HD.out.later hb).own.lt
  have hfz := (HD.out.later hb).own.frozen
  obtain ⟨ux, eu⟩ := (HD.out.later hb).own.cell 0 (by omega)
  replace HX : Hid (LBox y0 w.heap.size cs) := by show LBox _ _ _; rw [hy]; exact HX.out.other_ (by omega) _ _
  replace HRS : Hid (OwnBlk y0 (w.heap.size + 1) 72 4) := by show OwnBlk _ _ _ _; rw [hy]; exact HRS.out.sc_other (by omega) _ _
  replace HB : Hid (Below w.heap.size w y0) := by show Below _ _ _; rw [hy]; exact HB.out.setCell (p := ⟨w.heap.size + 2, 0, none⟩) (by show w.heap.size ≤ w.heap.size + 2; omega) _
  obtain ⟨D0, hD⟩ : ∃ D : List Value, D = [] ++ [.slice wa0 n0 wc0] := ⟨_, rfl⟩
  rw [← hD] at HD3
  clear hD HD rep nd fr
  go_upto_region 3 with fail
  rw [← hy]
  clear hy gc hbz hqz hfz hb eu
  have HD := HD3
  clear HD3
  have hbz := HX.out.lt
  have hqz := HD.out.own.lt
  have hfz := HD.out.own.frozen
  have hbx := boxGateRule  (by have := HX.out.at_; rw [HCS.out] at this; exact this)
  have gc := hbx.2.1
  clear hbx
  obtain ⟨y1, hy⟩ : ∃ y, y = y0.setCell ⟨w.heap.size + 2, 1, none⟩ (.string a1) := ⟨_, rfl⟩
  obtain ⟨ux, eu⟩ := HD.out.own.cell 1 (by omega)
  have HD2 := uh (HD.out.put1 (j := 1) rfl (.s a1 .nil) (by omega))
  rw [← hy] at HD2
  replace HX : Hid (LBox y1 w.heap.size cs) := by show LBox _ _ _; rw [hy]; exact HX.out.other_ (by omega) _ _
  replace HRS : Hid (OwnBlk y1 (w.heap.size + 1) 72 4) := by show OwnBlk _ _ _ _; rw [hy]; exact HRS.out.sc_other (by omega) _ _
  replace HB : Hid (Below w.heap.size w y1) := by show Below _ _ _; rw [hy]; exact HB.out.setCell (p := ⟨w.heap.size + 2, 1, none⟩) (by show w.heap.size ≤ w.heap.size + 2; omega) _
  obtain ⟨D1, hD⟩ : ∃ D : List Value, D = D0 ++ [.string a1] := ⟨_, rfl⟩
  rw [← hD] at HD2
  clear hD HD
  go_upto_region 4 with fail
  rw [← hy]
  clear hy eu gc hbz hqz hfz
  have HD := HD2
  clear HD2
  have hbz := HX.out.lt
  have hqz := HD.out.own.lt
  have hfz := HD.out.own.frozen
  have hbx := boxGateRule  (by have := HX.out.at_; rw [HCS.out] at this; exact this)
  have gc := hbx.2.2.1
  clear hbx
  obtain ⟨y2, hy⟩ : ∃ y, y = y1.setCell ⟨w.heap.size + 2, 2, none⟩ (.string a2) := ⟨_, rfl⟩
  obtain ⟨ux, eu⟩ := HD.out.own.cell 2 (by omega)
  have HD2 := uh (HD.out.put1 (j := 2) rfl (.s a2 .nil) (by omega))
  rw [← hy] at HD2
  replace HX : Hid (LBox y2 w.heap.size cs) := by show LBox _ _ _; rw [hy]; exact HX.out.other_ (by omega) _ _
  replace HRS : Hid (OwnBlk y2 (w.heap.size + 1) 72 4) := by show OwnBlk _ _ _ _; rw [hy]; exact HRS.out.sc_other (by omega) _ _
  replace HB : Hid (Below w.heap.size w y2) := by show Below _ _ _; rw [hy]; exact HB.out.setCell (p := ⟨w.heap.size + 2, 2, none⟩) (by show w.heap.size ≤ w.heap.size + 2; omega) _
  obtain ⟨D2, hD⟩ : ∃ D : List Value, D = D1 ++ [.string a2] := ⟨_, rfl⟩
  rw [← hD] at HD2
  clear hD HD
  go_upto_region 5 with fail
  rw [← hy]
  clear hy eu gc hbz hqz hfz
  have HD := HD2
  clear HD2
  have hbz := HX.out.lt
  have hqz := HD.out.own.lt
  have hfz := HD.out.own.frozen
  have hbx := boxGateRule  (by have := HX.out.at_; rw [HCS.out] at this; exact this)
  have gc := hbx.2.2.2
  clear hbx
  obtain ⟨y3, hy⟩ : ∃ y, y = y2.setCell ⟨w.heap.size + 2, 3, none⟩ (.string a3) := ⟨_, rfl⟩
  obtain ⟨ux, eu⟩ := HD.out.own.cell 3 (by omega)
  have HD2 := uh (HD.out.put1 (j := 3) rfl (.s a3 .nil) (by omega))
  rw [← hy] at HD2
  replace HX : Hid (LBox y3 w.heap.size cs) := by show LBox _ _ _; rw [hy]; exact HX.out.other_ (by omega) _ _
  replace HRS : Hid (OwnBlk y3 (w.heap.size + 1) 72 4) := by show OwnBlk _ _ _ _; rw [hy]; exact HRS.out.sc_other (by omega) _ _
  replace HB : Hid (Below w.heap.size w y3) := by show Below _ _ _; rw [hy]; exact HB.out.setCell (p := ⟨w.heap.size + 2, 3, none⟩) (by show w.heap.size ≤ w.heap.size + 2; omega) _
  obtain ⟨D3, hD⟩ : ∃ D : List Value, D = D2 ++ [.string a3] := ⟨_, rfl⟩
  rw [← hD] at HD2
  clear hD HD
  go_upto_region 6 with fail
  rw [← hy]
  clear hy eu gc hbz hqz hfz
  have HD := HD2
  clear HD2
  have hlD : D3.length = 4 := HD.out.len
  have hth : y3.there (w.heap.size + 1) 0 D3.toArray.size := uthere HRS.out _ _ (by rw [List.size_toArray, hlD]; omega)
  have hone := all_oneCell_toArray HD.out.rep.raw.one
  have hsz : (Tryz.prog.info? 72).map (·.size) = some D3.toArray.size := by rw [List.size_toArray, hlD]; kernel_rfl
  obtain ⟨we, hwe⟩ : ∃ we, we = y3.setCells (w.heap.size + 1) 0 D3 := ⟨_, rfl⟩
  have hrt : we.rangeAt (w.heap.size + 1) 0 D3 := by rw [hwe]; exact World.rangeAt_setCells_same _ _ _ _ (by simpa using hth)
  have HBE : Hid (Below w.heap.size w we) := by show Below _ _ _; rw [hwe]; exact blw_scs (by omega) _ _ _ HB.out
  have HRE := uh (HD.out.rep.keep (w' := we) (S := fun b => b = w.heap.size + 1) (by rw [hwe]; exact mks_scs (S := fun b => b = w.heap.size + 1) rfl _ _ _) (fun b hb e => by have := HD.out.fr b hb; omega))
  refine wp_region_lit ?_
  refine wpList_load_mid rfl 72 _ rfl (w.heap.size + 2) 0 rfl D3 _ HD.out.at_ Tryz.underlying72 rfl (by rw [hlD]; kernel_rfl) ?_
  refine wpList_store_mid rfl 72 _ _ rfl (w.heap.size + 1) 0 D3.toArray rfl rfl hth hsz hone ?_
  simp only [Act.put, List.setIfInBounds_toArray, List.set_cons_zero, List.set_cons_succ]
  rw [← hwe]
  clear hwe hth hone hsz
  go_wp2
  refine bodyPost_ret (v := .agg D3.toArray) (by simp [results, Tryz.results72, asAddr, run_loadVar_mid (P := Tryz.prog) _ _ _ 72 D3 _ hrt Tryz.underlying72 rfl (by rw [hlD]; kernel_rfl)]) rfl ⟨D3, _, rfl, ?_, HD.out.nd, fun b hb => by have := HD.out.fr b hb; omega, HBE.out⟩
  exact HRE.out
set_option maxRecDepth 8000 in
set_option maxHeartbeats 8000000 in
theorem toGateGrant (ds : List Dt) (cs : List Value) (w : World) (h : Raw w shGateGrant ds cs) (hs : wtL ds ≤ 1048576) :
    Calls Tryz.prog 44 #[.agg cs.toArray] w fun e w' => ∃ cs' F, e = .returned (.agg cs'.toArray) ∧ Rep w' true shGateGrant F ds cs' ∧ F.Nodup ∧ (∀ b ∈ F, w.heap.size ≤ b) ∧ Below w.heap.size w w' := by
  obtain ⟨a0, a1, a2, d3, c3, rfl, hcs, r3⟩ := segRawGateGrant h
  have L3 : Hid (c3.length = 4) := r3.len
  have R3 := uh r3
  have HCS := uh hcs
  simp only [wtL, wtL_app] at hs
  have HS := uh hs
  obtain ⟨wa, hwa⟩ : ∃ wa, wa = ((w.alloc (.cells cs.toArray 70)).alloc (.cells #[.int .i64 0, .string { data := #[] }, .string { data := #[] }, .slice none 0 0, .string { data := #[] }, .string { data := #[] }, .string { data := #[] }] 74)).alloc (.cells #[.int .i64 0, .string { data := #[] }, .string { data := #[] }, .slice none 0 0, .string { data := #[] }, .string { data := #[] }, .string { data := #[] }] 74) := ⟨_, rfl⟩
  have HB : Hid (Below w.heap.size w wa) := by show Below _ _ _; rw [hwa]; exact blw_alloc (blw_alloc (blw_alloc (Below.refl _ _) _) _) _
  have HX : Hid (LBox wa w.heap.size cs) := by show LBox _ _ _; rw [hwa]; exact ((LBox.new w cs.toArray _ _ rfl).past _).past _
  have HRS : Hid (OwnBlk wa (w.heap.size + 1) 74 7) := by show OwnBlk _ _ _ _; rw [hwa]; exact (OwnBlk.alloc_at3 _ _ _ _ _ rfl (by simp)).past _
  have HD : Hid (Bld wa (w.heap.size + 2) 74 7 [] [] [] []) := by show Bld _ _ _ _ _ _ _ _; rw [hwa]; exact Bld.nil (OwnBlk.alloc_at3 _ _ _ _ _ rfl (by simp))
  clear hcs hs h r3
  go_enter Tryz.func44, Tryz.ntmps44
  go_upto_region 2 with fail
  rw [← hwa]
  clear hwa
  have hbz := HX.out.lt
  have hqz := HD.out.own.lt
  have hfz := HD.out.own.frozen
  have hbx := boxGateGrant L3.out (by have := HX.out.at_; rw [HCS.out] at this; exact this)
  have gc := hbx.1
  clear hbx
  obtain ⟨y0, hy⟩ : ∃ y, y = wa.setCell ⟨w.heap.size + 2, 0, none⟩ (.int .i64 a0) := ⟨_, rfl⟩
  obtain ⟨ux, eu⟩ := HD.out.own.cell 0 (by omega)
  have HD2 := uh (HD.out.put1 (j := 0) rfl (.i a0 .nil) (by omega))
  rw [← hy] at HD2
  replace HX : Hid (LBox y0 w.heap.size cs) := by show LBox _ _ _; rw [hy]; exact HX.out.other_ (by omega) _ _
  replace HRS : Hid (OwnBlk y0 (w.heap.size + 1) 74 7) := by show OwnBlk _ _ _ _; rw [hy]; exact HRS.out.sc_other (by omega) _ _
  replace HB : Hid (Below w.heap.size w y0) := by show Below _ _ _; rw [hy]; exact HB.out.setCell (p := ⟨w.heap.size + 2, 0, none⟩) (by show w.heap.size ≤ w.heap.size + 2; omega) _
  obtain ⟨D0, hD⟩ : ∃ D : List Value, D = [] ++ [.int .i64 a0] := ⟨_, rfl⟩
  rw [← hD] at HD2
  clear hD HD
  go_upto_region 3 with fail
  rw [← hy]
  clear hy eu gc hbz hqz hfz
  have HD := HD2
  clear HD2
  have hbz := HX.out.lt
  have hqz := HD.out.own.lt
  have hfz := HD.out.own.frozen
  have hbx := boxGateGrant L3.out (by have := HX.out.at_; rw [HCS.out] at this; exact this)
  have gc := hbx.2.1
  clear hbx
  obtain ⟨y1, hy⟩ : ∃ y, y = y0.setCell ⟨w.heap.size + 2, 1, none⟩ (.string a1) := ⟨_, rfl⟩
  obtain ⟨ux, eu⟩ := HD.out.own.cell 1 (by omega)
  have HD2 := uh (HD.out.put1 (j := 1) rfl (.s a1 .nil) (by omega))
  rw [← hy] at HD2
  replace HX : Hid (LBox y1 w.heap.size cs) := by show LBox _ _ _; rw [hy]; exact HX.out.other_ (by omega) _ _
  replace HRS : Hid (OwnBlk y1 (w.heap.size + 1) 74 7) := by show OwnBlk _ _ _ _; rw [hy]; exact HRS.out.sc_other (by omega) _ _
  replace HB : Hid (Below w.heap.size w y1) := by show Below _ _ _; rw [hy]; exact HB.out.setCell (p := ⟨w.heap.size + 2, 1, none⟩) (by show w.heap.size ≤ w.heap.size + 2; omega) _
  obtain ⟨D1, hD⟩ : ∃ D : List Value, D = D0 ++ [.string a1] := ⟨_, rfl⟩
  rw [← hD] at HD2
  clear hD HD
  go_upto_region 4 with fail
  rw [← hy]
  clear hy eu gc hbz hqz hfz
  have HD := HD2
  clear HD2
  have hbz := HX.out.lt
  have hqz := HD.out.own.lt
  have hfz := HD.out.own.frozen
  have hbx := boxGateGrant L3.out (by have := HX.out.at_; rw [HCS.out] at this; exact this)
  have gc := hbx.2.2.1
  clear hbx
  obtain ⟨y2, hy⟩ : ∃ y, y = y1.setCell ⟨w.heap.size + 2, 2, none⟩ (.string a2) := ⟨_, rfl⟩
  obtain ⟨ux, eu⟩ := HD.out.own.cell 2 (by omega)
  have HD2 := uh (HD.out.put1 (j := 2) rfl (.s a2 .nil) (by omega))
  rw [← hy] at HD2
  replace HX : Hid (LBox y2 w.heap.size cs) := by show LBox _ _ _; rw [hy]; exact HX.out.other_ (by omega) _ _
  replace HRS : Hid (OwnBlk y2 (w.heap.size + 1) 74 7) := by show OwnBlk _ _ _ _; rw [hy]; exact HRS.out.sc_other (by omega) _ _
  replace HB : Hid (Below w.heap.size w y2) := by show Below _ _ _; rw [hy]; exact HB.out.setCell (p := ⟨w.heap.size + 2, 2, none⟩) (by show w.heap.size ≤ w.heap.size + 2; omega) _
  obtain ⟨D2, hD⟩ : ∃ D : List Value, D = D1 ++ [.string a2] := ⟨_, rfl⟩
  rw [← hD] at HD2
  clear hD HD
  go_upto_region 5 with fail
  rw [← hy]
  clear hy eu gc hbz hqz hfz
  have HD := HD2
  clear HD2
  have hbz := HX.out.lt
  have hqz := HD.out.own.lt
  have hfz := HD.out.own.frozen
  have hbx := boxGateGrant L3.out (by have := HX.out.at_; rw [HCS.out] at this; exact this)
  have gc := hbx.2.2.2
  clear hbx
  go_wp2_with (refine wpList_load_mid rfl 68 _ rfl w.heap.size 3 rfl c3 _ gc Tryz.underlying68 rfl (by rw [L3.out]; kernel_rfl) ?_)
  refine (toGateRule d3 c3 y2 (R3.out.later HB.out) (by have := HS.out; omega)).mono ?_
  rintro e x3 ⟨w3, F3, rfl, rep, nd, fr, hb⟩
  obtain ⟨y3, hy⟩ : ∃ y, y = x3.setCells (w.heap.size + 2) 3 w3 := ⟨_, rfl⟩
  have hl := rep.len
  have hth : x3.there (w.heap.size + 2) 3 w3.toArray.size := uthere (HD.out.later hb).own _ _ (by rw [List.size_toArray, hl]; show 3 + 4 ≤ 7; omega)
  have hone := all_oneCell_toArray rep.raw.one
  have hsz : (Tryz.prog.info? 72).map (·.size) = some w3.toArray.size := by rw [List.size_toArray, hl]; kernel_rfl
  replace HB := uh (blw_trans HB.out hb)
  replace HX := uh (HX.out.later hb)
  replace HRS := uh (HRS.out.later hb)
  have HD2 := uh ((HD.out.later hb).put (j := 3) rfl rep nd fr (fun b hb => HD.out.rep.lt b hb) HD.out.own.lt (by decide))
  have hy2 : x3.setCells (w.heap.size + 2) 3 w3 = y3 := hy.symm
  rw [hy2] at HD2
  have HD3 := HD2
  clear HD2 hy2
  have hqz := (HD.out.later hb).own.lt
  have hfz := (HD.out.later hb).own.frozen
  replace HX : Hid (LBox y3 w.heap.size cs) := by show LBox _ _ _; rw [hy]; exact HX.out.mks (mks_scs (S := fun b => b = w.heap.size + 2) rfl _ _ _) (by show ¬ w.heap.size = w.heap.size + 2; omega)
  replace HRS : Hid (OwnBlk y3 (w.heap.size + 1) 74 7) := by show OwnBlk _ _ _ _; rw [hy]; exact own_scs _ _ _ HRS.out
  replace HB : Hid (Below w.heap.size w y3) := by show Below _ _ _; rw [hy]; exact blw_scs (by omega) _ _ _ HB.out
  obtain ⟨D3, hD⟩ : ∃ D : List Value, D = D2 ++ w3 := ⟨_, rfl⟩
  rw [← hD] at HD3
  clear hD HD rep nd fr hl
  go_upto_region 6 with (refine wpList_store_mid rfl 72 _ _ rfl (w.heap.size + 2) 3 w3.toArray rfl rfl hth hsz hone ?_)
  first | rw [← hy] | (simp only [List.toList_toArray]; rw [← hy])
  clear hy gc hbz hqz hfz hb hth hone hsz
  have HD := HD3
  clear HD3
  have hlD : D3.length = 7 := HD.out.len
  have hth : y3.there (w.heap.size + 1) 0 D3.toArray.size := uthere HRS.out _ _ (by rw [List.size_toArray, hlD]; omega)
  have hone := all_oneCell_toArray HD.out.rep.raw.one
  have hsz : (Tryz.prog.info? 74).map (·.size) = some D3.toArray.size := by rw [List.size_toArray, hlD]; kernel_rfl
  obtain ⟨we, hwe⟩ : ∃ we, we = y3.setCells (w.heap.size + 1) 0 D3 := ⟨_, rfl⟩
  have hrt : we.rangeAt (w.heap.size + 1) 0 D3 := by rw [hwe]; exact World.rangeAt_setCells_same _ _ _ _ (by simpa using hth)
  have HBE : Hid (Below w.heap.size w we) := by show Below _ _ _; rw [hwe]; exact blw_scs (by omega) _ _ _ HB.out
  have HRE := uh (HD.out.rep.keep (w' := we) (S := fun b => b = w.heap.size + 1) (by rw [hwe]; exact mks_scs (S := fun b => b = w.heap.size + 1) rfl _ _ _) (fun b hb e => by have := HD.out.fr b hb; omega))
  refine wp_region_lit ?_
  refine wpList_load_mid rfl 74 _ rfl (w.heap.size + 2) 0 rfl D3 _ HD.out.at_ Tryz.underlying74 rfl (by rw [hlD]; kernel_rfl) ?_
  refine wpList_store_mid rfl 74 _ _ rfl (w.heap.size + 1) 0 D3.toArray rfl rfl hth hsz hone ?_
  simp only [Act.put, List.setIfInBounds_toArray, List.set_cons_zero, List.set_cons_succ]
  rw [← hwe]
  clear hwe hth hone hsz
  go_wp2
  refine bodyPost_ret (v := .agg D3.toArray) (by simp [results, Tryz.results44, asAddr, run_loadVar_mid (P := Tryz.prog) _ _ _ 74 D3 _ hrt Tryz.underlying74 rfl (by rw [hlD]; kernel_rfl)]) rfl ⟨D3, _, rfl, ?_, HD.out.nd, fun b hb => by have := HD.out.fr b hb; omega, HBE.out⟩
  have hde : ((((([] ++ [.i a0]) ++ [.s a1]) ++ [.s a2]) ++ d3) : List Dt) = .i a0 :: .s a1 :: .s a2 :: (d3 ++ ([])) := by simp
  have := HRE.out
  rw [hde] at this
  exact this
theorem Tryz.uinfoGateGrant : (Tryz.prog.info? 74).map (fun i => (i.zero, i.size, decide (i.bytes ≤ 4096))) = some (some (.agg #[.int .i64 0, .string ByteArray.empty, .string ByteArray.empty, .slice none 0 0, .string ByteArray.empty, .string ByteArray.empty, .string ByteArray.empty]), 7, true) := by kernel_rfl
theorem Tryz.uunderGateGrant : Tryz.prog.underlying 28 = some (.slice 74) := by kernel_rfl
theorem umakeGateGrant (n : Nat) (h : n ≤ 1048576) : ∃ cs : Array Value, cs.size = n * 7 ∧ ∀ W : World,
    (Instr.makeSlice 28 (.int .i64 (n : Int)) (.int .i64 (n : Int))).run Tryz.prog W = .ok (.slice (some ⟨W.heap.size, 0, none⟩) n n) (W.alloc (.cells cs 74)) := by
  obtain ⟨i, hi, hzz⟩ := Option.map_eq_some_iff.1 Tryz.uinfoGateGrant
  simp only [Prod.mk.injEq, decide_eq_true_eq] at hzz
  obtain ⟨hz, hs, hb⟩ := hzz
  refine ⟨madeCells ((.agg #[.int .i64 0, .string ByteArray.empty, .string ByteArray.empty, .slice none 0 0, .string ByteArray.empty, .string ByteArray.empty, .string ByteArray.empty]) : Value).cells (n * 7), size_madeCells _ _, fun W => ?_⟩
  have hmx : (i.bytes : Int) * (n : Int) ≤ 281474976710656 := by
    have e : ((i.bytes * n : Nat) : Int) ≤ ((4096 * 1048576 : Nat) : Int) := Int.ofNat_le.2 (Nat.mul_le_mul hb h)
    rw [Int.natCast_mul] at e
    exact Int.le_trans e (by decide)
  have hr := run_make (P := Tryz.prog) W 28 74 i _ Tryz.uunderGateGrant hi hz .i64 .i64 n n (by omega) (Int.le_refl _) hmx (by omega)
  simp only [Int.toNat_natCast, hs] at hr
  exact hr
set_option maxRecDepth 8000 in
set_option maxHeartbeats 8000000 in
theorem toGateGrantS (n : Nat) (es : List Dt) (v : Value) (w : World) (h : Raw w [.row 74 shGateGrant] [.row n es] [v]) (hs : n + wtL es ≤ 1048576) :
    Calls Tryz.prog 20 #[v] w fun e w' => ∃ v' F, e = .returned v' ∧ Rep w' true [.row 74 shGateGrant] F [.row n es] [v'] ∧ F.Nodup ∧ (∀ b ∈ F, w.heap.size ≤ b) ∧ Below w.heap.size w w' := by
  obtain ⟨zs, hzs, hmk⟩ := umakeGateGrant n (by omega)
  by_cases h0 : n = 0
  · subst h0
    have he0 : es = [] := List.eq_nil_of_length_eq_zero (by have := h.typ; obtain ⟨_, _, _, e, t, _⟩ := this.c_r; injection e with e1 e2; injection e1 with e3 e4; subst e3; subst e4; have := t.rows; omega)
    subst he0
    obtain ⟨a, c, rfl⟩ := h.len0
    have hmk0 : ∀ W : World, (Instr.makeSlice 28 (.int .i64 0) (.int .i64 0)).run Tryz.prog W = .ok (.slice (some ⟨W.heap.size, 0, none⟩) 0 0) (W.alloc (.cells zs 74)) := hmk
    clear hmk
    go_enter Tryz.func20, Tryz.ntmps20
    go_wp2
    refine wp_loop_rounds 1 ?_
    rw [rounds_succ]
    go_wp2
    go_ret
    exact ⟨_, [w.heap.size], rfl, Rep.row 74 shGateGrant w.heap.size 0 0 0 74 0 [] [] [] (OwnBlk.alloc w zs _ _ (by simpa using hzs)) (by simp) (fun _ => ⟨rfl, by simp, rfl, rfl⟩) ⟨Nat.zero_le _, Nat.le_refl _⟩ (rA_nil _ _ _) .nil .nil, by simp, by simp, blw_alloc (Below.refl _ _) _⟩
  rcases h.slice with ⟨e0, _⟩ | ⟨p, o, c, rfl, hp, hn, vs, hr, hR⟩
  · exact absurd e0 h0
  have HR := uh (And.intro hR (And.intro hr hp))
  have HT := uh hR.typ
  have HS := uh hs
  have hn1 : n ≤ 1048576 := by omega
  clear h hr hR hp hs hn
  go_enter Tryz.func20, Tryz.ntmps20
  go_wp2
  go_loopw [4] (fun i wr => ∃ (q : Nat) (G : List Nat) (D : List Value), q ≤ n ∧ i = .int .i64 q ∧ Below w.heap.size w wr ∧ Bld wr w.heap.size 74 (n * 7) (reps q shGateGrant) G (es.take (q * 7)) D) (fun i _ => n - (intOf i).toNat)
  case atStart => exact ⟨0, [], [], Nat.zero_le _, rfl, blw_alloc (Below.refl _ _) _, by rw [Nat.zero_mul, List.take_zero]; exact Bld.nil (OwnBlk.alloc w zs 74 _ hzs)⟩
  case round =>
    obtain ⟨q, G, D, hq, rfl, hW, hD⟩ := hrel
    have HB := uh hW
    have HD := uh hD
    clear hW hD hmk hzs
    by_cases hlt : q < n
    · obtain ⟨ve, hE, hg⟩ := (HR.out.1.later HB.out).el hlt (rA_later HR.out.2.1 HR.out.2.2 HB.out)
      have hbp : p < wr.heap.size := Nat.lt_of_lt_of_le HR.out.2.2 HB.out.size
      have hm0 : (0 : Int) ≤ (q : Int) := by omega
      have hm3 : (q : Int) < (n : Int) := by omega
      have hmul : q * 7 + 7 ≤ n * 7 := by omega
      have hqz := HD.out.own.lt
      have hfz := HD.out.own.frozen
      have hg2 : wr.rangeAt p (o + q * 7) ve := hg
      have HL := uh hE.len
      have HX : Hid (Calls Tryz.prog 44 #[.agg ve.toArray] wr fun e w' => ∃ cs' F, e = .returned (.agg cs'.toArray) ∧ Rep w' true shGateGrant F (el 7 q es) cs' ∧ F.Nodup ∧ (∀ b ∈ F, wr.heap.size ≤ b) ∧ Below wr.heap.size wr w') := toGateGrant _ ve wr hE (by have := HS.out; have := wt_next 7 q es; have := wt_le ((q + 1) * 7) es; show wtL (el 7 q es) ≤ _; omega)
      clear hE hg HR
      go_wp2_with (refine wpList_load_mid rfl 70 _ rfl p (o + q * 7) rfl ve _ hg2 Tryz.underlying70 rfl (by rw [HL.out]; kernel_rfl) ?_)
      refine HX.out.mono ?_
      rintro e w2 ⟨cs', F', rfl, rep, nd, fr, hb⟩
      obtain ⟨y, hy⟩ : ∃ y, y = w2.setCells w.heap.size (q * 7) cs' := ⟨_, rfl⟩
      have hl := rep.len
      have HN : Hid (Below w.heap.size w y ∧ Bld y w.heap.size 74 (n * 7) (reps (q + 1) shGateGrant) (G ++ F') (es.take ((q + 1) * 7)) (D ++ cs')) := by
        refine ⟨by rw [hy]; exact blw_scs (Nat.le_refl _) _ _ _ (blw_trans HB.out hb), ?_⟩
        rw [hy, reps_snoc, Nat.succ_mul, el_take]
        exact (HD.out.later hb).put (reps_len _ _) rep nd fr (fun b hb => HD.out.rep.lt b hb) HD.out.own.lt (by show q * 7 + 7 ≤ n * 7; omega)
      have hth : w2.there w.heap.size (q * 7) cs'.toArray.size := uthere (HD.out.later hb).own _ _ (by rw [List.size_toArray, hl]; exact hmul)
      have hone := all_oneCell_toArray rep.raw.one
      have hsz : (Tryz.prog.info? 74).map (·.size) = some cs'.toArray.size := by rw [List.size_toArray, hl]; kernel_rfl
      have hqz := (HD.out.later hb).own.lt
      clear HD HX hg2 rep nd fr hl
      go_upto_region 4 with (refine wpList_store_mid rfl 74 _ _ rfl w.heap.size (q * 7) cs'.toArray rfl rfl hth hsz hone ?_)
      first | rw [← hy] | (simp only [List.toList_toArray]; rw [← hy])
      clear hy hth hone hsz hb
      go_wp2
      go_roundw
      case rel => exact ⟨q + 1, _, _, by omega, by go_num, HN.out.1, HN.out.2⟩
      case measure => simp [intOf]; omega
    · obtain rfl : q = n := by omega
      have el_ : es.length = q * 7 := HT.out.rows
      rw [← el_, List.take_length, el_] at HD
      go_wp2
      go_ret
      refine ⟨_, w.heap.size :: (G ++ []), rfl, Rep.row 74 shGateGrant w.heap.size 0 q q 74 (q * 7) D es G HD.out.own (by show 0 + q * 7 ≤ q * 7; omega) (fun _ => ⟨rfl, rfl, rfl, rfl⟩) ⟨by show q ≤ 9223372036854775807; omega, Nat.le_refl _⟩ HD.out.at_ HD.out.rep .nil, ?_, ?_, HB.out⟩
      · rw [List.append_nil, List.nodup_cons]; exact ⟨fun e => Nat.lt_irrefl _ (HD.out.fr _ e), HD.out.nd⟩
      · intro b hb; rw [List.append_nil] at hb; rcases List.mem_cons.1 hb with rfl | hb; exact Nat.le_refl _; exact Nat.le_of_lt (HD.out.fr b hb)
set_option maxRecDepth 8000 in
set_option maxHeartbeats 8000000 in
theorem toHallHouse (ds : List Dt) (cs : List Value) (w : World) (h : Raw w shHallHouse ds cs) (hs : wtL ds ≤ 1048576) :
    Calls Tryz.prog 6 #[.agg cs.toArray] w fun e w' => ∃ cs' F, e = .returned (.agg cs'.toArray) ∧ Rep w' true shHallHouse F ds cs' ∧ F.Nodup ∧ (∀ b ∈ F, w.heap.size ≤ b) ∧ Below w.heap.size w w' := by
  obtain ⟨n0, e0, v0, n1, e1, v1, rfl, hcs, r0, r1⟩ := segRawHallHouse h
  have R0 := uh r0
  have R1 := uh r1
  have HCS := uh hcs
  simp only [wtL] at hs
  have HS := uh hs
  obtain ⟨wa, hwa⟩ : ∃ wa, wa = ((w.alloc (.cells cs.toArray 25)).alloc (.cells #[.slice none 0 0, .slice none 0 0] 30)).alloc (.cells #[.slice none 0 0, .slice none 0 0] 30) := ⟨_, rfl⟩
  have HB : Hid (Below w.heap.size w wa) := by show Below _ _ _; rw [hwa]; exact blw_alloc (blw_alloc (blw_alloc (Below.refl _ _) _) _) _
  have HX : Hid (LBox wa w.heap.size cs) := by show LBox _ _ _; rw [hwa]; exact ((LBox.new w cs.toArray _ _ rfl).past _).past _
  have HRS : Hid (OwnBlk wa (w.heap.size + 1) 30 2) := by show OwnBlk _ _ _ _; rw [hwa]; exact (OwnBlk.alloc_at3 _ _ _ _ _ rfl (by simp)).past _
  have HD : Hid (Bld wa (w.heap.size + 2) 30 2 [] [] [] []) := by show Bld _ _ _ _ _ _ _ _; rw [hwa]; exact Bld.nil (OwnBlk.alloc_at3 _ _ _ _ _ rfl (by simp))
  clear hcs hs h r0 r1
  go_enter Tryz.func6, Tryz.ntmps6
  go_upto_region 2 with fail
  rw [← hwa]
  clear hwa
  have hbz := HX.out.lt
  have hqz := HD.out.own.lt
  have hfz := HD.out.own.frozen
  have hbx := boxHallHouse  (by have := HX.out.at_; rw [HCS.out] at this; exact this)
  have gc := hbx.1
  clear hbx
  obtain ⟨va0, vc0, hva⟩ := R0.out.len0
  subst hva
  go_wp2_with fail
  refine (toGateTeamS n0 e0 (.slice va0 n0 vc0) wa (R0.out.later HB.out) (by have := HS.out; omega)).mono ?_
  rintro e x0 ⟨w0, F0, rfl, rep, nd, fr, hb⟩
  obtain ⟨wa0, wc0, hva⟩ := rep.raw.len0
  subst hva
  obtain ⟨y0, hy⟩ : ∃ y, y = x0.setCell ⟨w.heap.size + 2, 0, none⟩ (.slice wa0 n0 wc0) := ⟨_, rfl⟩
  replace HB := uh (blw_trans HB.out hb)
  replace HX := uh (HX.out.later hb)
  replace HRS := uh (HRS.out.later hb)
  have HD2 := uh ((HD.out.later hb).put (j := 0) rfl rep nd fr (fun b hb => HD.out.rep.lt b hb) HD.out.own.lt (by decide))
  have hy2 : x0.setCells (w.heap.size + 2) 0 [.slice wa0 n0 wc0] = y0 := hy.symm
  rw [hy2] at HD2
  have HD3 := HD2
  clear HD2 hy2
  have hqz := (HD.out.later hb).own.lt
  have hfz := (HD.out.later hb).own.frozen
  obtain ⟨ux, eu⟩ := (HD.out.later hb).own.cell 0 (by omega)
  replace HX : Hid (LBox y0 w.heap.size cs) := by show LBox _ _ _; rw [hy]; exact HX.out.other_ (by omega) _ _
  replace HRS : Hid (OwnBlk y0 (w.heap.size + 1) 30 2) := by show OwnBlk _ _ _ _; rw [hy]; exact HRS.out.sc_other (by omega) _ _
  replace HB : Hid (Below w.heap.size w y0) := by show Below _ _ _; rw [hy]; exact HB.out.setCell (p := ⟨w.heap.size + 2, 0, none⟩) (by show w.heap.size ≤ w.heap.size + 2; omega) _
  obtain ⟨D0, hD⟩ : ∃ D : List Value, D = [] ++ [.slice wa0 n0 wc0] := ⟨_, rfl⟩
  rw [← hD] at HD3
  clear hD HD rep nd fr
  go_upto_region 3 with fail
  rw [← hy]
  clear hy gc hbz hqz hfz hb eu
  have HD := HD3
  clear HD3
  have hbz := HX.out.lt
  have hqz := HD.out.own.lt
  have hfz := HD.out.own.frozen
  have hbx := boxHallHouse  (by have := HX.out.at_; rw [HCS.out] at this; exact this)
  have gc := hbx.2
  clear hbx
  obtain ⟨va1, vc1, hva⟩ := R1.out.len0
  subst hva
  go_wp2_with fail
  refine (toGateGrantS n1 e1 (.slice va1 n1 vc1) y0 (R1.out.later HB.out) (by have := HS.out; omega)).mono ?_
  rintro e x1 ⟨w1, F1, rfl, rep, nd, fr, hb⟩
  obtain ⟨wa1, wc1, hva⟩ := rep.raw.len0
  subst hva
  obtain ⟨y1, hy⟩ : ∃ y, y = x1.setCell ⟨w.heap.size + 2, 1, none⟩ (.slice wa1 n1 wc1) := ⟨_, rfl⟩
  replace HB := uh (blw_trans HB.out hb)
  replace HX := uh (HX.out.later hb)
  replace HRS := uh (HRS.out.later hb)
  have HD2 := uh ((HD.out.later hb).put (j := 1) rfl rep nd fr (fun b hb => HD.out.rep.lt b hb) HD.out.own.lt (by decide))
  have hy2 : x1.setCells (w.heap.size + 2) 1 [.slice wa1 n1 wc1] = y1 := hy.symm
  rw [hy2] at HD2
  have HD3 := HD2
  clear HD2 hy2
  have hqz := (HD.out.later hb).own.lt
  have hfz := (HD.out.later hb).own.frozen
  obtain ⟨ux, eu⟩ := (HD.out.later hb).own.cell 1 (by omega)
  replace HX : Hid (LBox y1 w.heap.size cs) := by show LBox _ _ _; rw [hy]; exact HX.out.other_ (by omega) _ _
  replace HRS : Hid (OwnBlk y1 (w.heap.size + 1) 30 2) := by show OwnBlk _ _ _ _; rw [hy]; exact HRS.out.sc_other (by omega) _ _
  replace HB : Hid (Below w.heap.size w y1) := by show Below _ _ _; rw [hy]; exact HB.out.setCell (p := ⟨w.heap.size + 2, 1, none⟩) (by show w.heap.size ≤ w.heap.size + 2; omega) _
  obtain ⟨D1, hD⟩ : ∃ D : List Value, D = D0 ++ [.slice wa1 n1 wc1] := ⟨_, rfl⟩
  rw [← hD] at HD3
  clear hD HD rep nd fr
  go_upto_region 4 with fail
  rw [← hy]
  clear hy gc hbz hqz hfz hb eu
  have HD := HD3
  clear HD3
  have hlD : D1.length = 2 := HD.out.len
  have hth : y1.there (w.heap.size + 1) 0 D1.toArray.size := uthere HRS.out _ _ (by rw [List.size_toArray, hlD]; omega)
  have hone := all_oneCell_toArray HD.out.rep.raw.one
  have hsz : (Tryz.prog.info? 30).map (·.size) = some D1.toArray.size := by rw [List.size_toArray, hlD]; kernel_rfl
  obtain ⟨we, hwe⟩ : ∃ we, we = y1.setCells (w.heap.size + 1) 0 D1 := ⟨_, rfl⟩
  have hrt : we.rangeAt (w.heap.size + 1) 0 D1 := by rw [hwe]; exact World.rangeAt_setCells_same _ _ _ _ (by simpa using hth)
  have HBE : Hid (Below w.heap.size w we) := by show Below _ _ _; rw [hwe]; exact blw_scs (by omega) _ _ _ HB.out
  have HRE := uh (HD.out.rep.keep (w' := we) (S := fun b => b = w.heap.size + 1) (by rw [hwe]; exact mks_scs (S := fun b => b = w.heap.size + 1) rfl _ _ _) (fun b hb e => by have := HD.out.fr b hb; omega))
  refine wp_region_lit ?_
  refine wpList_load_mid rfl 30 _ rfl (w.heap.size + 2) 0 rfl D1 _ HD.out.at_ Tryz.underlying30 rfl (by rw [hlD]; kernel_rfl) ?_
  refine wpList_store_mid rfl 30 _ _ rfl (w.heap.size + 1) 0 D1.toArray rfl rfl hth hsz hone ?_
  simp only [Act.put, List.setIfInBounds_toArray, List.set_cons_zero, List.set_cons_succ]
  rw [← hwe]
  clear hwe hth hone hsz
  go_wp2
  refine bodyPost_ret (v := .agg D1.toArray) (by simp [results, Tryz.results6, asAddr, run_loadVar_mid (P := Tryz.prog) _ _ _ 30 D1 _ hrt Tryz.underlying30 rfl (by rw [hlD]; kernel_rfl)]) rfl ⟨D1, _, rfl, ?_, HD.out.nd, fun b hb => by have := HD.out.fr b hb; omega, HBE.out⟩
  exact HRE.out
end Go.Proofs.YtfkkohfjkofgnaaGreat
