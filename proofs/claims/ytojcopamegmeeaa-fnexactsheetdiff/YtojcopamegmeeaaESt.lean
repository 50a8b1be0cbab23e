/-
  Copies of sheets.
-/
import Derived.Test.YtojcopamegmeeaaESs
namespace Go.Proofs.Ytojcopamegmeeaa
open Go.RowKit Go.Deep

theorem Try.uinfoT1 : (Try.prog.info? 9).map (fun i => (i.zero, i.size, decide (i.bytes ≤ 4096))) = some (some (.string ByteArray.empty), 1, true) := by kernel_rfl
theorem Try.uunderT1 : Try.prog.underlying 67 = some (.slice 9) := by kernel_rfl
theorem umakeT1 (n : Nat) (h : n ≤ 1048576) : ∃ cs : Array Value, cs.size = n * 1 ∧ ∀ W : World,
    (Instr.makeSlice 67 (.int .i64 (n : Int)) (.int .i64 (n : Int))).run Try.prog W = .ok (.slice (some ⟨W.heap.size, 0, none⟩) n n) (W.alloc (.cells cs 9)) := by
  obtain ⟨i, hi, hzz⟩ := Option.map_eq_some_iff.1 Try.uinfoT1
  simp only [Prod.mk.injEq, decide_eq_true_eq] at hzz
  obtain ⟨hz, hs, hb⟩ := hzz
  refine ⟨madeCells ((.string ByteArray.empty) : Value).cells (n * 1), size_madeCells _ _, fun W => ?_⟩
  have hmx : (i.bytes : Int) * (n : Int) ≤ 281474976710656 := by
    have e : ((i.bytes * n : Nat) : Int) ≤ ((4096 * 1048576 : Nat) : Int) := Int.ofNat_le.2 (Nat.mul_le_mul hb h)
    rw [Int.natCast_mul] at e
    exact Int.le_trans e (by decide)
  have hr := run_make (P := Try.prog) W 67 9 i _ Try.uunderT1 hi hz .i64 .i64 n n (by omega) (Int.le_refl _) hmx (by omega)
  simp only [Int.toNat_natCast, hs] at hr
  exact hr
set_option maxRecDepth 8000 in
set_option maxHeartbeats 8000000 in
theorem toStringS (n : Nat) (es : List Dt) (v : Value) (w : World) (h : Raw w [.row 9 [.s]] [.row n es] [v]) (hs : n + wtL es ≤ 1048576) :
    Calls Try.prog 82 #[v] w fun e w' => ∃ v' F, e = .returned v' ∧ Rep w' true [.row 9 [.s]] F [.row n es] [v'] ∧ F.Nodup ∧ (∀ b ∈ F, w.heap.size ≤ b) ∧ Below w.heap.size w w' := by
  obtain ⟨zs, hzs, hmk⟩ := umakeT1 n (by omega)
  by_cases h0 : n = 0
  · subst h0
    have he0 : es = [] := List.eq_nil_of_length_eq_zero (by have := h.typ; obtain ⟨_, _, _, e, t, _⟩ := this.c_r; injection e with e1 e2; injection e1 with e3 e4; subst e3; subst e4; have := t.rows; omega)
    subst he0
    obtain ⟨a, c, rfl⟩ := h.len0
    have hmk0 : ∀ W : World, (Instr.makeSlice 67 (.int .i64 0) (.int .i64 0)).run Try.prog W = .ok (.slice (some ⟨W.heap.size, 0, none⟩) 0 0) (W.alloc (.cells zs 9)) := hmk
    clear hmk
    go_enter Try.func82, Try.ntmps82
    go_wp2
    refine wp_loop_rounds 1 ?_
    rw [rounds_succ]
    go_wp2
    go_ret
    exact ⟨_, [w.heap.size], rfl, Rep.row 9 [.s] w.heap.size 0 0 0 9 0 [] [] [] (OwnBlk.alloc w zs _ _ (by simpa using hzs)) (by simp) (fun _ => ⟨rfl, by simp, rfl, rfl⟩) ⟨Nat.zero_le _, Nat.le_refl _⟩ (rA_nil _ _ _) .nil .nil, by simp, by simp, blw_alloc (Below.refl _ _) _⟩
  rcases h.slice with ⟨e0, _⟩ | ⟨p, o, c, rfl, hp, hn, vs, hr, hR⟩
  · exact absurd e0 h0
  have HR := uh (And.intro hR (And.intro hr hp))
  have HT := uh hR.typ
  have HS := uh hs
  have hn1 : n ≤ 1048576 := by omega
  clear h hr hR hp hs hn
  go_enter Try.func82, Try.ntmps82
  go_wp2
  go_loopw [4] (fun i wr => ∃ (q : Nat) (G : List Nat) (D : List Value), q ≤ n ∧ i = .int .i64 q ∧ Below w.heap.size w wr ∧ Bld wr w.heap.size 9 (n * 1) (reps q [.s]) G (es.take (q * 1)) D) (fun i _ => n - (intOf i).toNat)
  case atStart => exact ⟨0, [], [], Nat.zero_le _, rfl, blw_alloc (Below.refl _ _) _, by rw [Nat.zero_mul, List.take_zero]; exact Bld.nil (OwnBlk.alloc w zs 9 _ hzs)⟩
  case round =>
    obtain ⟨q, G, D, hq, rfl, hW, hD⟩ := hrel
    have HB := uh hW
    have HD := uh hD
    clear hW hD hmk hzs
    by_cases hlt : q < n
    · obtain ⟨ve, hE, hg⟩ := (HR.out.1.later HB.out).el hlt (rA_later HR.out.2.1 HR.out.2.2 HB.out)
      have hbp : p < wr.heap.size := Nat.lt_of_lt_of_le HR.out.2.2 HB.out.size
      have hm0 : (0 : Int) ≤ (q : Int) := by omega
      have hm3 : (q : Int) < (n : Int) := by omega
      have hmul : q * 1 + 1 ≤ n * 1 := by omega
      have hqz := HD.out.own.lt
      have hfz := HD.out.own.frozen
      obtain ⟨d, hd⟩ : ∃ d, d = el 1 q es := ⟨_, rfl⟩
      have hE1 : Raw wr [.s] d ve := by rw [hd]; exact hE
      obtain ⟨a0, rfl⟩ := typT1 hE1.typ
      obtain rfl := rawT1 hE1
      have gc : wr.cell? ⟨p, o + q, none⟩ = some (.string a0) := by have := rA_get hg 0 _ rfl; simpa using this
      obtain ⟨y, hy⟩ : ∃ y, y = wr.setCell ⟨w.heap.size, q, none⟩ (.string a0) := ⟨_, rfl⟩
      have HN : Hid (Below w.heap.size w y ∧ Bld y w.heap.size 9 (n * 1) (reps (q + 1) [.s]) (G ++ []) (es.take ((q + 1) * 1)) (D ++ [.string a0])) := by
        refine ⟨by rw [hy]; exact HB.out.setCell (p := ⟨w.heap.size, q, none⟩) (Nat.le_refl _) _, ?_⟩
        rw [hy, reps_snoc, Nat.succ_mul, el_take, ← hd, List.append_nil]
        exact HD.out.put1 (by rw [reps_len]; simp) (.s a0 .nil) (by omega)
      obtain ⟨ux, eu⟩ := HD.out.own.cell q (by omega)
      clear hE hE1 hd hg HR HD
      go_upto_region 4 with fail
      rw [← hy]
      clear hy eu gc
      go_wp2
      go_roundw
      case rel => exact ⟨q + 1, _, _, by omega, by go_num, HN.out.1, HN.out.2⟩
      case measure => simp [intOf]; omega
    · obtain rfl : q = n := by omega
      have el_ : es.length = q * 1 := HT.out.rows
      rw [← el_, List.take_length, el_] at HD
      go_wp2
      go_ret
      refine ⟨_, w.heap.size :: (G ++ []), rfl, Rep.row 9 [.s] w.heap.size 0 q q 9 (q * 1) D es G HD.out.own (by show 0 + q * 1 ≤ q * 1; omega) (fun _ => ⟨rfl, rfl, rfl, rfl⟩) ⟨by show q ≤ 9223372036854775807; omega, Nat.le_refl _⟩ HD.out.at_ HD.out.rep .nil, ?_, ?_, HB.out⟩
      · rw [List.append_nil, List.nodup_cons]; exact ⟨fun e => Nat.lt_irrefl _ (HD.out.fr _ e), HD.out.nd⟩
      · intro b hb; rw [List.append_nil] at hb; rcases List.mem_cons.1 hb with rfl | hb; exact Nat.le_refl _; exact Nat.le_of_lt (HD.out.fr b hb)
set_option maxRecDepth 8000 in
set_option maxHeartbeats 8000000 in
theorem toSheetLine (ds : List Dt) (cs : List Value) (w : World) (h : Raw w shSheetLine ds cs) (hs : wtL ds ≤ 1048576) :
    Calls Try.prog 73 #[.agg cs.toArray] w fun e w' => ∃ cs' F, e = .returned (.agg cs'.toArray) ∧ Rep w' true shSheetLine F ds cs' ∧ F.Nodup ∧ (∀ b ∈ F, w.heap.size ≤ b) ∧ Below w.heap.size w w' := by
  obtain ⟨a0, n1, e1, v1, rfl, hcs, r1⟩ := segRawSheetLine h
  have R1 := uh r1
  have HCS := uh hcs
  simp only [wtL] at hs
  have HS := uh hs
  obtain ⟨wa, hwa⟩ : ∃ wa, wa = ((w.alloc (.cells cs.toArray 123)).alloc (.cells #[.string { data := #[] }, .slice none 0 0] 69)).alloc (.cells #[.string { data := #[] }, .slice none 0 0] 69) := ⟨_, rfl⟩
  have HB : Hid (Below w.heap.size w wa) := by show Below _ _ _; rw [hwa]; exact blw_alloc (blw_alloc (blw_alloc (Below.refl _ _) _) _) _
  have HX : Hid (LBox wa w.heap.size cs) := by show LBox _ _ _; rw [hwa]; exact ((LBox.new w cs.toArray _ _ rfl).past _).past _
  have HRS : Hid (OwnBlk wa (w.heap.size + 1) 69 2) := by show OwnBlk _ _ _ _; rw [hwa]; exact (OwnBlk.alloc_at3 _ _ _ _ _ rfl (by simp)).past _
  have HD : Hid (Bld wa (w.heap.size + 2) 69 2 [] [] [] []) := by show Bld _ _ _ _ _ _ _ _; rw [hwa]; exact Bld.nil (OwnBlk.alloc_at3 _ _ _ _ _ rfl (by simp))
  clear hcs hs h r1
  go_enter Try.func73, Try.ntmps73
  go_upto_region 2 with fail
  rw [← hwa]
  clear hwa
  have hbz := HX.out.lt
  have hqz := HD.out.own.lt
  have hfz := HD.out.own.frozen
  have hbx := boxSheetLine  (by have := HX.out.at_; rw [HCS.out] at this; exact this)
  have gc := hbx.1
  clear hbx
  obtain ⟨y0, hy⟩ : ∃ y, y = wa.setCell ⟨w.heap.size + 2, 0, none⟩ (.string a0) := ⟨_, rfl⟩
  obtain ⟨ux, eu⟩ := HD.out.own.cell 0 (by omega)
  have HD2 := uh (HD.out.put1 (j := 0) rfl (.s a0 .nil) (by omega))
  rw [← hy] at HD2
  replace HX : Hid (LBox y0 w.heap.size cs) := by show LBox _ _ _; rw [hy]; exact HX.out.other_ (by omega) _ _
  replace HRS : Hid (OwnBlk y0 (w.heap.size + 1) 69 2) := by show OwnBlk _ _ _ _; rw [hy]; exact HRS.out.sc_other (by omega) _ _
  replace HB : Hid (Below w.heap.size w y0) := by show Below _ _ _; rw [hy]; exact HB.out.setCell (p := ⟨w.heap.size + 2, 0, none⟩) (by show w.heap.size ≤ w.heap.size + 2; omega) _
  obtain ⟨D0, hD⟩ : ∃ D : List Value, D = [] ++ [.string a0] := ⟨_, rfl⟩
  rw [← hD] at HD2
  clear hD HD
  go_upto_region 3 with fail
  rw [← hy]
  clear hy eu gc hbz hqz hfz
  have HD := HD2
  clear HD2
  have hbz := HX.out.lt
  have hqz := HD.out.own.lt
  have hfz := HD.out.own.frozen
  have hbx := boxSheetLine  (by have := HX.out.at_; rw [HCS.out] at this; exact this)
  have gc := hbx.2
  clear hbx
  obtain ⟨va1, vc1, hva⟩ := R1.out.len0
  subst hva
  go_wp2_with fail
  refine (toStringS n1 e1 (.slice va1 n1 vc1) y0 (R1.out.later HB.out) (by have := HS.out; omega)).mono ?_
  rintro e x1 ⟨w1, F1, rfl, rep, nd, fr, hb⟩
  obtain ⟨wa1, wc1, hva⟩ := rep.raw.len0
  subst hva
  obtain ⟨y1, hy⟩ : ∃ y, y = x1.setCell ⟨w.heap.size + 2, 1, none⟩ (.slice wa1 n1 wc1) := ⟨_, rfl⟩
  replace HB := uh (blw_trans HB.out hb)
  replace HX := uh (HX.out.later hb)
  replace HRS := uh (HRS.out.later hb)
  have HD2 := uh ((HD.out.later hb).put (j := 1) rfl rep nd fr (fun b hb => HD.out.rep.lt b hb) HD.out.own.lt (by decide))
  have hy2 : x1.setCells (w.heap.size + 2) 1 [.slice wa1 n1 wc1] = y1 := hy.symm
  rw [hy2] at HD2
  have HD3 := HD2
  clear HD2 hy2
  have hqz := (HD.out.later hb).own.lt
  have hfz := (HD.out.later hb).own.frozen
  obtain ⟨ux, eu⟩ := (HD.out.later hb).own.cell 1 (by omega)
  replace HX : Hid (LBox y1 w.heap.size cs) := by show LBox _ _ _; rw [hy]; exact HX.out.other_ (by omega) _ _
  replace HRS : Hid (OwnBlk y1 (w.heap.size + 1) 69 2) := by show OwnBlk _ _ _ _; rw [hy]; exact HRS.out.sc_other (by omega) _ _
  replace HB : Hid (Below w.heap.size w y1) := by show Below _ _ _; rw [hy]; exact HB.out.setCell (p := ⟨w.heap.size + 2, 1, none⟩) (by show w.heap.size ≤ w.heap.size + 2; omega) _
  obtain ⟨D1, hD⟩ : ∃ D : List Value, D = D0 ++ [.slice wa1 n1 wc1] := ⟨_, rfl⟩
  rw [← hD] at HD3
  clear hD HD rep nd fr
  go_upto_region 4 with fail
  rw [← hy]
  clear hy gc hbz hqz hfz hb eu
  have HD := HD3
  clear HD3
  have hlD : D1.length = 2 := HD.out.len
  have hth : y1.there (w.heap.size + 1) 0 D1.toArray.size := uthere HRS.out _ _ (by rw [List.size_toArray, hlD]; omega)
  have hone := all_oneCell_toArray HD.out.rep.raw.one
  have hsz : (Try.prog.info? 69).map (·.size) = some D1.toArray.size := by rw [List.size_toArray, hlD]; kernel_rfl
  obtain ⟨we, hwe⟩ : ∃ we, we = y1.setCells (w.heap.size + 1) 0 D1 := ⟨_, rfl⟩
  have hrt : we.rangeAt (w.heap.size + 1) 0 D1 := by rw [hwe]; exact World.rangeAt_setCells_same _ _ _ _ (by simpa using hth)
  have HBE : Hid (Below w.heap.size w we) := by show Below _ _ _; rw [hwe]; exact blw_scs (by omega) _ _ _ HB.out
  have HRE := uh (HD.out.rep.keep (w' := we) (S := fun b => b = w.heap.size + 1) (by rw [hwe]; exact mks_scs (S := fun b => b = w.heap.size + 1) rfl _ _ _) (fun b hb e => by have := HD.out.fr b hb; omega))
  refine wp_region_lit ?_
  refine wpList_load_mid rfl 69 _ rfl (w.heap.size + 2) 0 rfl D1 _ HD.out.at_ Try.underlying69 rfl (by rw [hlD]; kernel_rfl) ?_
  refine wpList_store_mid rfl 69 _ _ rfl (w.heap.size + 1) 0 D1.toArray rfl rfl hth hsz hone ?_
  simp only [Act.put, List.setIfInBounds_toArray, List.set_cons_zero, List.set_cons_succ]
  rw [← hwe]
  clear hwe hth hone hsz
  go_wp2
  refine bodyPost_ret (v := .agg D1.toArray) (by simp [results, Try.results73, asAddr, run_loadVar_mid (P := Try.prog) _ _ _ 69 D1 _ hrt Try.underlying69 rfl (by rw [hlD]; kernel_rfl)]) rfl ⟨D1, _, rfl, ?_, HD.out.nd, fun b hb => by have := HD.out.fr b hb; omega, HBE.out⟩
  exact HRE.out
theorem Try.uinfoSheetLine : (Try.prog.info? 69).map (fun i => (i.zero, i.size, decide (i.bytes ≤ 4096))) = some (some (.agg #[.string ByteArray.empty, .slice none 0 0]), 2, true) := by kernel_rfl
theorem Try.uunderSheetLine : Try.prog.underlying 40 = some (.slice 69) := by kernel_rfl
theorem umakeSheetLine (n : Nat) (h : n ≤ 1048576) : ∃ cs : Array Value, cs.size = n * 2 ∧ ∀ W : World,
    (Instr.makeSlice 40 (.int .i64 (n : Int)) (.int .i64 (n : Int))).run Try.prog W = .ok (.slice (some ⟨W.heap.size, 0, none⟩) n n) (W.alloc (.cells cs 69)) := by
  obtain ⟨i, hi, hzz⟩ := Option.map_eq_some_iff.1 Try.uinfoSheetLine
  simp only [Prod.mk.injEq, decide_eq_true_eq] at hzz
  obtain ⟨hz, hs, hb⟩ := hzz
  refine ⟨madeCells ((.agg #[.string ByteArray.empty, .slice none 0 0]) : Value).cells (n * 2), size_madeCells _ _, fun W => ?_⟩
  have hmx : (i.bytes : Int) * (n : Int) ≤ 281474976710656 := by
    have e : ((i.bytes * n : Nat) : Int) ≤ ((4096 * 1048576 : Nat) : Int) := Int.ofNat_le.2 (Nat.mul_le_mul hb h)
    rw [Int.natCast_mul] at e
    exact Int.le_trans e (by decide)
  have hr := run_make (P := Try.prog) W 40 69 i _ Try.uunderSheetLine hi hz .i64 .i64 n n (by omega) (Int.le_refl _) hmx (by omega)
  simp only [Int.toNat_natCast, hs] at hr
  exact hr
set_option maxRecDepth 8000 in
set_option maxHeartbeats 8000000 in
theorem toSheetLineS (n : Nat) (es : List Dt) (v : Value) (w : World) (h : Raw w [.row 69 shSheetLine] [.row n es] [v]) (hs : n + wtL es ≤ 1048576) :
    Calls Try.prog 55 #[v] w fun e w' => ∃ v' F, e = .returned v' ∧ Rep w' true [.row 69 shSheetLine] F [.row n es] [v'] ∧ F.Nodup ∧ (∀ b ∈ F, w.heap.size ≤ b) ∧ Below w.heap.size w w' := by
  obtain ⟨zs, hzs, hmk⟩ := umakeSheetLine n (by omega)
  by_cases h0 : n = 0
  · subst h0
    have he0 : es = [] := List.eq_nil_of_length_eq_zero (by have := h.typ; obtain ⟨_, _, _, e, t, _⟩ := this.c_r; injection e with e1 e2; injection e1 with e3 e4; subst e3; subst e4; have := t.rows; omega)
    subst he0
    obtain ⟨a, c, rfl⟩ := h.len0
    have hmk0 : ∀ W : World, (Instr.makeSlice 40 (.int .i64 0) (.int .i64 0)).run Try.prog W = .ok (.slice (some ⟨W.heap.size, 0, none⟩) 0 0) (W.alloc (.cells zs 69)) := hmk
    clear hmk
    go_enter Try.func55, Try.ntmps55
    go_wp2
    refine wp_loop_rounds 1 ?_
    rw [rounds_succ]
    go_wp2
    go_ret
    exact ⟨_, [w.heap.size], rfl, Rep.row 69 shSheetLine w.heap.size 0 0 0 69 0 [] [] [] (OwnBlk.alloc w zs _ _ (by simpa using hzs)) (by simp) (fun _ => ⟨rfl, by simp, rfl, rfl⟩) ⟨Nat.zero_le _, Nat.le_refl _⟩ (rA_nil _ _ _) .nil .nil, by simp, by simp, blw_alloc (Below.refl _ _) _⟩
  rcases h.slice with ⟨e0, _⟩ | ⟨p, o, c, rfl, hp, hn, vs, hr, hR⟩
  · exact absurd e0 h0
  have HR := uh (And.intro hR (And.intro hr hp))
  have HT := uh hR.typ
  have HS := uh hs
  have hn1 : n ≤ 1048576 := by omega
  clear h hr hR hp hs hn
  go_enter Try.func55, Try.ntmps55
  go_wp2
  go_loopw [4] (fun i wr => ∃ (q : Nat) (G : List Nat) (D : List Value), q ≤ n ∧ i = .int .i64 q ∧ Below w.heap.size w wr ∧ Bld wr w.heap.size 69 (n * 2) (reps q shSheetLine) G (es.take (q * 2)) D) (fun i _ => n - (intOf i).toNat)
  case atStart => exact ⟨0, [], [], Nat.zero_le _, rfl, blw_alloc (Below.refl _ _) _, by rw [Nat.zero_mul, List.take_zero]; exact Bld.nil (OwnBlk.alloc w zs 69 _ hzs)⟩
  case round =>
    obtain ⟨q, G, D, hq, rfl, hW, hD⟩ := hrel
    have HB := uh hW
    have HD := uh hD
    clear hW hD hmk hzs
    by_cases hlt : q < n
    · obtain ⟨ve, hE, hg⟩ := (HR.out.1.later HB.out).el hlt (rA_later HR.out.2.1 HR.out.2.2 HB.out)
      have hbp : p < wr.heap.size := Nat.lt_of_lt_of_le HR.out.2.2 HB.out.size
      have hm0 : (0 : Int) ≤ (q : Int) := by omega
      have hm3 : (q : Int) < (n : Int) := by omega
      have hmul : q * 2 + 2 ≤ n * 2 := by omega
      have hqz := HD.out.own.lt
      have hfz := HD.out.own.frozen
      have hg2 : wr.rangeAt p (o + q * 2) ve := hg
      have HL := uh hE.len
      have HX : Hid (Calls Try.prog 73 #[.agg ve.toArray] wr fun e w' => ∃ cs' F, e = .returned (.agg cs'.toArray) ∧ Rep w' true shSheetLine F (el 2 q es) cs' ∧ F.Nodup ∧ (∀ b ∈ F, wr.heap.size ≤ b) ∧ Below wr.heap.size wr w') := toSheetLine _ ve wr hE (by have := HS.out; have := wt_next 2 q es; have := wt_le ((q + 1) * 2) es; show wtL (el 2 q es) ≤ _; omega)
      clear hE hg HR
      go_wp2_with (refine wpList_load_mid rfl 123 _ rfl p (o + q * 2) rfl ve _ hg2 Try.underlying123 rfl (by rw [HL.out]; kernel_rfl) ?_)
      refine HX.out.mono ?_
      rintro e w2 ⟨cs', F', rfl, rep, nd, fr, hb⟩
      obtain ⟨y, hy⟩ : ∃ y, y = w2.setCells w.heap.size (q * 2) cs' := ⟨_, rfl⟩
      have hl := rep.len
      have HN : Hid (Below w.heap.size w y ∧ Bld y w.heap.size 69 (n * 2) (reps (q + 1) shSheetLine) (G ++ F') (es.take ((q + 1) * 2)) (D ++ cs')) := by
        refine ⟨by rw [hy]; exact blw_scs (Nat.le_refl _) _ _ _ (blw_trans HB.out hb), ?_⟩
        rw [hy, reps_snoc, Nat.succ_mul, el_take]
        exact (HD.out.later hb).put (reps_len _ _) rep nd fr (fun b hb => HD.out.rep.lt b hb) HD.out.own.lt (by show q * 2 + 2 ≤ n * 2; omega)
      have hth : w2.there w.heap.size (q * 2) cs'.toArray.size := uthere (HD.out.later hb).own _ _ (by rw [List.size_toArray, hl]; exact hmul)
      have hone := all_oneCell_toArray rep.raw.one
      have hsz : (Try.prog.info? 69).map (·.size) = some cs'.toArray.size := by rw [List.size_toArray, hl]; kernel_rfl
      have hqz := (HD.out.later hb).own.lt
      clear HD HX hg2 rep nd fr hl
      go_upto_region 4 with (refine wpList_store_mid rfl 69 _ _ rfl w.heap.size (q * 2) cs'.toArray rfl rfl hth hsz hone ?_)
      first | rw [← hy] | (simp only [List.toList_toArray]; rw [← hy])
      clear hy hth hone hsz hb
      go_wp2
      go_roundw
      case rel => exact ⟨q + 1, _, _, by omega, by go_num, HN.out.1, HN.out.2⟩
      case measure => simp [intOf]; omega
    · obtain rfl : q = n := by omega
      have el_ : es.length = q * 2 := HT.out.rows
      rw [← el_, List.take_length, el_] at HD
      go_wp2
      go_ret
      refine ⟨_, w.heap.size :: (G ++ []), rfl, Rep.row 69 shSheetLine w.heap.size 0 q q 69 (q * 2) D es G HD.out.own (by show 0 + q * 2 ≤ q * 2; omega) (fun _ => ⟨rfl, rfl, rfl, rfl⟩) ⟨by show q ≤ 9223372036854775807; omega, Nat.le_refl _⟩ HD.out.at_ HD.out.rep .nil, ?_, ?_, HB.out⟩
      · rw [List.append_nil, List.nodup_cons]; exact ⟨fun e => Nat.lt_irrefl _ (HD.out.fr _ e), HD.out.nd⟩
      · intro b hb; rw [List.append_nil] at hb; rcases List.mem_cons.1 hb with rfl | hb; exact Nat.le_refl _; exact Nat.le_of_lt (HD.out.fr b hb)
set_option maxRecDepth 8000 in
set_option maxHeartbeats 8000000 in
theorem toSheetBlock (ds : List Dt) (cs : List Value) (w : World) (h : Raw w shSheetBlock ds cs) (hs : wtL ds ≤ 1048576) :
    Calls Try.prog 34 #[.agg cs.toArray] w fun e w' => ∃ cs' F, e = .returned (.agg cs'.toArray) ∧ Rep w' true shSheetBlock F ds cs' ∧ F.Nodup ∧ (∀ b ∈ F, w.heap.size ≤ b) ∧ Below w.heap.size w w' := by
  obtain ⟨a0, a1, n2, e2, v2, rfl, hcs, r2⟩ := segRawSheetBlock h
  have R2 := uh r2
  have HCS := uh hcs
  simp only [wtL] at hs
  have HS := uh hs
  obtain ⟨wa, hwa⟩ : ∃ wa, wa = ((w.alloc (.cells cs.toArray 61)).alloc (.cells #[.string { data := #[] }, .string { data := #[] }, .slice none 0 0] 42)).alloc (.cells #[.string { data := #[] }, .string { data := #[] }, .slice none 0 0] 42) := ⟨_, rfl⟩
  have HB : Hid (Below w.heap.size w wa) := by show Below _ _ _; rw [hwa]; exact blw_alloc (blw_alloc (blw_alloc (Below.refl _ _) _) _) _
  have HX : Hid (LBox wa w.heap.size cs) := by show LBox _ _ _; rw [hwa]; exact ((LBox.new w cs.toArray _ _ rfl).past _).past _
  have HRS : Hid (OwnBlk wa (w.heap.size + 1) 42 3) := by show OwnBlk _ _ _ _; rw [hwa]; exact (OwnBlk.alloc_at3 _ _ _ _ _ rfl (by simp)).past _
  have HD : Hid (Bld wa (w.heap.size + 2) 42 3 [] [] [] []) := by show Bld _ _ _ _ _ _ _ _; rw [hwa]; exact Bld.nil (OwnBlk.alloc_at3 _ _ _ _ _ rfl (by simp))
  clear hcs hs h r2
  go_enter Try.func34, Try.ntmps34
  go_upto_region 2 with fail
  rw [← hwa]
  clear hwa
  have hbz := HX.out.lt
  have hqz := HD.out.own.lt
  have hfz := HD.out.own.frozen
  have hbx := boxSheetBlock  (by have := HX.out.at_; rw [HCS.out] at this; exact this)
  have gc := hbx.1
  clear hbx
  obtain ⟨y0, hy⟩ : ∃ y, y = wa.setCell ⟨w.heap.size + 2, 0, none⟩ (.string a0) := ⟨_, rfl⟩
  obtain ⟨ux, eu⟩ := HD.out.own.cell 0 (by omega)
  have HD2 := uh (HD.out.put1 (j := 0) rfl (.s a0 .nil) (by omega))
  rw [← hy] at HD2
  replace HX : Hid (LBox y0 w.heap.size cs) := by show LBox _ _ _; rw [hy]; exact HX.out.other_ (by omega) _ _
  replace HRS : Hid (OwnBlk y0 (w.heap.size + 1) 42 3) := by show OwnBlk _ _ _ _; rw [hy]; exact HRS.out.sc_other (by omega) _ _
  replace HB : Hid (Below w.heap.size w y0) := by show Below _ _ _; rw [hy]; exact HB.out.setCell (p := ⟨w.heap.size + 2, 0, none⟩) (by show w.heap.size ≤ w.heap.size + 2; omega) _
  obtain ⟨D0, hD⟩ : ∃ D : List Value, D = [] ++ [.string a0] := ⟨_, rfl⟩
  rw [← hD] at HD2
  clear hD HD
  go_upto_region 3 with fail
  rw [← hy]
  clear hy eu gc hbz hqz hfz
  have HD := HD2
  clear HD2
  have hbz := HX.out.lt
  have hqz := HD.out.own.lt
  have hfz := HD.out.own.frozen
  have hbx := boxSheetBlock  (by have := HX.out.at_; rw [HCS.out] at this; exact this)
  have gc := hbx.2.1
  clear hbx
  obtain ⟨y1, hy⟩ : ∃ y, y = y0.setCell ⟨w.heap.size + 2, 1, none⟩ (.string a1) := ⟨_, rfl⟩
  obtain ⟨ux, eu⟩ := HD.out.own.cell 1 (by omega)
  have HD2 := uh (HD.out.put1 (j := 1) rfl (.s a1 .nil) (by omega))
  rw [← hy] at HD2
  replace HX : Hid (LBox y1 w.heap.size cs) := by show LBox _ _ _; rw [hy]; exact HX.out.other_ (by omega) _ _
  replace HRS : Hid (OwnBlk y1 (w.heap.size + 1) 42 3) := by show OwnBlk _ _ _ _; rw [hy]; exact HRS.out.sc_other (by omega) _ _
  replace HB : Hid (Below w.heap.size w y1) := by show Below _ _ _; rw [hy]; exact HB.out.setCell (p := ⟨w.heap.size + 2, 1, none⟩) (by show w.heap.size ≤ w.heap.size + 2; omega) _
  obtain ⟨D1, hD⟩ : ∃ D : List Value, D = D0 ++ [.string a1] := ⟨_, rfl⟩
  rw [← hD] at HD2
  clear hD HD
  go_upto_region 4 with fail
  rw [← hy]
  clear hy eu gc hbz hqz hfz
  have HD := HD2
  clear HD2
  have hbz := HX.out.lt
  have hqz := HD.out.own.lt
  have hfz := HD.out.own.frozen
  have hbx := boxSheetBlock  (by have := HX.out.at_; rw [HCS.out] at this; exact this)
  have gc := hbx.2.2
  clear hbx
  obtain ⟨va2, vc2, hva⟩ := R2.out.len0
  subst hva
  go_wp2_with fail
  refine (toSheetLineS n2 e2 (.slice va2 n2 vc2) y1 (R2.out.later HB.out) (by have := HS.out; omega)).mono ?_
  rintro e x2 ⟨w2, F2, rfl, rep, nd, fr, hb⟩
  obtain ⟨wa2, wc2, hva⟩ := rep.raw.len0
  subst hva
  obtain ⟨y2, hy⟩ : ∃ y, y = x2.setCell ⟨w.heap.size + 2, 2, none⟩ (.slice wa2 n2 wc2) := ⟨_, rfl⟩
  replace HB := uh (blw_trans HB.out hb)
  replace HX := uh (HX.out.later hb)
  replace HRS := uh (HRS.out.later hb)
  have HD2 := uh ((HD.out.later hb).put (j := 2) rfl rep nd fr (fun b hb => HD.out.rep.lt b hb) HD.out.own.lt (by decide))
  have hy2 : x2.setCells (w.heap.size + 2) 2 [.slice wa2 n2 wc2] = y2 := hy.symm
  rw [hy2] at HD2
  have HD3 := HD2
  clear HD2 hy2
  have hqz := (HD.out.later hb).own.lt
  have hfz := (HD.out.later hb).own.frozen
  obtain ⟨ux, eu⟩ := (HD.out.later hb).own.cell 2 (by omega)
  replace HX : Hid (LBox y2 w.heap.size cs) := by show LBox _ _ _; rw [hy]; exact HX.out.other_ (by omega) _ _
  replace HRS : Hid (OwnBlk y2 (w.heap.size + 1) 42 3) := by show OwnBlk _ _ _ _; rw [hy]; exact HRS.out.sc_other (by omega) _ _
  replace HB : Hid (Below w.heap.size w y2) := by show Below _ _ _; rw [hy]; exact HB.out.setCell (p := ⟨w.heap.size + 2, 2, none⟩) (by show w.heap.size ≤ w.heap.size + 2; omega) _
  obtain ⟨D2, hD⟩ : ∃ D : List Value, D = D1 ++ [.slice wa2 n2 wc2] := ⟨_, rfl⟩
  rw [← hD] at HD3
  clear hD HD rep nd fr
  go_upto_region 5 with fail
  rw [← hy]
  clear hy gc hbz hqz hfz hb eu
  have HD := HD3
  clear HD3
  have hlD : D2.length = 3 := HD.out.len
  have hth : y2.there (w.heap.size + 1) 0 D2.toArray.size := uthere HRS.out _ _ (by rw [List.size_toArray, hlD]; omega)
  have hone := all_oneCell_toArray HD.out.rep.raw.one
  have hsz : (Try.prog.info? 42).map (·.size) = some D2.toArray.size := by rw [List.size_toArray, hlD]; kernel_rfl
  obtain ⟨we, hwe⟩ : ∃ we, we = y2.setCells (w.heap.size + 1) 0 D2 := ⟨_, rfl⟩
  have hrt : we.rangeAt (w.heap.size + 1) 0 D2 := by rw [hwe]; exact World.rangeAt_setCells_same _ _ _ _ (by simpa using hth)
  have HBE : Hid (Below w.heap.size w we) := by show Below _ _ _; rw [hwe]; exact blw_scs (by omega) _ _ _ HB.out
  have HRE := uh (HD.out.rep.keep (w' := we) (S := fun b => b = w.heap.size + 1) (by rw [hwe]; exact mks_scs (S := fun b => b = w.heap.size + 1) rfl _ _ _) (fun b hb e => by have := HD.out.fr b hb; omega))
  refine wp_region_lit ?_
  refine wpList_load_mid rfl 42 _ rfl (w.heap.size + 2) 0 rfl D2 _ HD.out.at_ Try.underlying42 rfl (by rw [hlD]; kernel_rfl) ?_
  refine wpList_store_mid rfl 42 _ _ rfl (w.heap.size + 1) 0 D2.toArray rfl rfl hth hsz hone ?_
  simp only [Act.put, List.setIfInBounds_toArray, List.set_cons_zero, List.set_cons_succ]
  rw [← hwe]
  clear hwe hth hone hsz
  go_wp2
  refine bodyPost_ret (v := .agg D2.toArray) (by simp [results, Try.results34, asAddr, run_loadVar_mid (P := Try.prog) _ _ _ 42 D2 _ hrt Try.underlying42 rfl (by rw [hlD]; kernel_rfl)]) rfl ⟨D2, _, rfl, ?_, HD.out.nd, fun b hb => by have := HD.out.fr b hb; omega, HBE.out⟩
  exact HRE.out
theorem Try.uinfoSheetBlock : (Try.prog.info? 42).map (fun i => (i.zero, i.size, decide (i.bytes ≤ 4096))) = some (some (.agg #[.string ByteArray.empty, .string ByteArray.empty, .slice none 0 0]), 3, true) := by kernel_rfl
theorem Try.uunderSheetBlock : Try.prog.underlying 28 = some (.slice 42) := by kernel_rfl
theorem umakeSheetBlock (n : Nat) (h : n ≤ 1048576) : ∃ cs : Array Value, cs.size = n * 3 ∧ ∀ W : World,
    (Instr.makeSlice 28 (.int .i64 (n : Int)) (.int .i64 (n : Int))).run Try.prog W = .ok (.slice (some ⟨W.heap.size, 0, none⟩) n n) (W.alloc (.cells cs 42)) := by
  obtain ⟨i, hi, hzz⟩ := Option.map_eq_some_iff.1 Try.uinfoSheetBlock
  simp only [Prod.mk.injEq, decide_eq_true_eq] at hzz
  obtain ⟨hz, hs, hb⟩ := hzz
  refine ⟨madeCells ((.agg #[.string ByteArray.empty, .string ByteArray.empty, .slice none 0 0]) : Value).cells (n * 3), size_madeCells _ _, fun W => ?_⟩
  have hmx : (i.bytes : Int) * (n : Int) ≤ 281474976710656 := by
    have e : ((i.bytes * n : Nat) : Int) ≤ ((4096 * 1048576 : Nat) : Int) := Int.ofNat_le.2 (Nat.mul_le_mul hb h)
    rw [Int.natCast_mul] at e
    exact Int.le_trans e (by decide)
  have hr := run_make (P := Try.prog) W 28 42 i _ Try.uunderSheetBlock hi hz .i64 .i64 n n (by omega) (Int.le_refl _) hmx (by omega)
  simp only [Int.toNat_natCast, hs] at hr
  exact hr
set_option maxRecDepth 8000 in
set_option maxHeartbeats 8000000 in
theorem toSheetBlockS (n : Nat) (es : List Dt) (v : Value) (w : World) (h : Raw w [.row 42 shSheetBlock] [.row n es] [v]) (hs : n + wtL es ≤ 1048576) :
    Calls Try.prog 18 #[v] w fun e w' => ∃ v' F, e = .returned v' ∧ Rep w' true [.row 42 shSheetBlock] F [.row n es] [v'] ∧ F.Nodup ∧ (∀ b ∈ F, w.heap.size ≤ b) ∧ Below w.heap.size w w' := by
  obtain ⟨zs, hzs, hmk⟩ := umakeSheetBlock n (by omega)
  by_cases h0 : n = 0
  · subst h0
    have he0 : es = [] := List.eq_nil_of_length_eq_zero (by have := h.typ; obtain ⟨_, _, _, e, t, _⟩ := this.c_r; injection e with e1 e2; injection e1 with e3 e4; subst e3; subst e4; have := t.rows; omega)
    subst he0
    obtain ⟨a, c, rfl⟩ := h.len0
    have hmk0 : ∀ W : World, (Instr.makeSlice 28 (.int .i64 0) (.int .i64 0)).run Try.prog W = .ok (.slice (some ⟨W.heap.size, 0, none⟩) 0 0) (W.alloc (.cells zs 42)) := hmk
    clear hmk
    go_enter Try.func18, Try.ntmps18
    go_wp2
    refine wp_loop_rounds 1 ?_
    rw [rounds_succ]
    go_wp2
    go_ret
    exact ⟨_, [w.heap.size], rfl, Rep.row 42 shSheetBlock w.heap.size 0 0 0 42 0 [] [] [] (OwnBlk.alloc w zs _ _ (by simpa using hzs)) (by simp) (fun _ => ⟨rfl, by simp, rfl, rfl⟩) ⟨Nat.zero_le _, Nat.le_refl _⟩ (rA_nil _ _ _) .nil .nil, by simp, by simp, blw_alloc (Below.refl _ _) _⟩
  rcases h.slice with ⟨e0, _⟩ | ⟨p, o, c, rfl, hp, hn, vs, hr, hR⟩
  · exact absurd e0 h0
  have HR := uh (And.intro hR (And.intro hr hp))
  have HT := uh hR.typ
  have HS := uh hs
  have hn1 : n ≤ 1048576 := by omega
  clear h hr hR hp hs hn
  go_enter Try.func18, Try.ntmps18
  go_wp2
  go_loopw [4] (fun i wr => ∃ (q : Nat) (G : List Nat) (D : List Value), q ≤ n ∧ i = .int .i64 q ∧ Below w.heap.size w wr ∧ Bld wr w.heap.size 42 (n * 3) (reps q shSheetBlock) G (es.take (q * 3)) D) (fun i _ => n - (intOf i).toNat)
  case atStart => exact ⟨0, [], [], Nat.zero_le _, rfl, blw_alloc (Below.refl _ _) _, by rw [Nat.zero_mul, List.take_zero]; exact Bld.nil (OwnBlk.alloc w zs 42 _ hzs)⟩
  case round =>
    obtain ⟨q, G, D, hq, rfl, hW, hD⟩ := hrel
    have HB := uh hW
    have HD := uh hD
    clear hW hD hmk hzs
    by_cases hlt : q < n
    · obtain ⟨ve, hE, hg⟩ := (HR.out.1.later HB.out).el hlt (rA_later HR.out.2.1 HR.out.2.2 HB.out)
      have hbp : p < wr.heap.size := Nat.lt_of_lt_of_le HR.out.2.2 HB.out.size
      have hm0 : (0 : Int) ≤ (q : Int) := by omega
      have hm3 : (q : Int) < (n : Int) := by omega
      have hmul : q * 3 + 3 ≤ n * 3 := by omega
      have hqz := HD.out.own.lt
      have hfz := HD.out.own.frozen
      have hg2 : wr.rangeAt p (o + q * 3) ve := hg
      have HL := uh hE.len
      have HX : Hid (Calls Try.prog 34 #[.agg ve.toArray] wr fun e w' => ∃ cs' F, e = .returned (.agg cs'.toArray) ∧ Rep w' true shSheetBlock F (el 3 q es) cs' ∧ F.Nodup ∧ (∀ b ∈ F, wr.heap.size ≤ b) ∧ Below wr.heap.size wr w') := toSheetBlock _ ve wr hE (by have := HS.out; have := wt_next 3 q es; have := wt_le ((q + 1) * 3) es; show wtL (el 3 q es) ≤ _; omega)
      clear hE hg HR
      go_wp2_with (refine wpList_load_mid rfl 61 _ rfl p (o + q * 3) rfl ve _ hg2 Try.underlying61 rfl (by rw [HL.out]; kernel_rfl) ?_)
      refine HX.out.mono ?_
      rintro e w2 ⟨cs', F', rfl, rep, nd, fr, hb⟩
      obtain ⟨y, hy⟩ : ∃ y, y = w2.setCells w.heap.size (q * 3) cs' := ⟨_, rfl⟩
      have hl := rep.len
      have HN : Hid (Below w.heap.size w y ∧ Bld y w.heap.size 42 (n * 3) (reps (q + 1) shSheetBlock) (G ++ F') (es.take ((q + 1) * 3)) (D ++ cs')) := by
        refine ⟨by rw [hy]; exact blw_scs (Nat.le_refl _) _ _ _ (blw_trans HB.out hb), ?_⟩
        rw [hy, reps_snoc, Nat.succ_mul, el_take]
        exact (HD.out.later hb).put (reps_len _ _) rep nd fr (fun b hb => HD.out.rep.lt b hb) HD.out.own.lt (by show q * 3 + 3 ≤ n * 3; omega)
      have hth : w2.there w.heap.size (q * 3) cs'.toArray.size := uthere (HD.out.later hb).own _ _ (by rw [List.size_toArray, hl]; exact hmul)
      have hone := all_oneCell_toArray rep.raw.one
      have hsz : (Try.prog.info? 42).map (·.size) = some cs'.toArray.size := by rw [List.size_toArray, hl]; kernel_rfl
      have hqz := (HD.out.later hb).own.lt
      clear HD HX hg2 rep nd fr hl
      go_upto_region 4 with (refine wpList_store_mid rfl 42 _ _ rfl w.heap.size (q * 3) cs'.toArray rfl rfl hth hsz hone ?_)
      first | rw [← hy] | (simp only [List.toList_toArray]; rw [← hy])
      clear hy hth hone hsz hb
      go_wp2
      go_roundw
      case rel => exact ⟨q + 1, _, _, by omega, by go_num, HN.out.1, HN.out.2⟩
      case measure => simp [intOf]; omega
    · obtain rfl : q = n := by omega
      have el_ : es.length = q * 3 := HT.out.rows
      rw [← el_, List.take_length, el_] at HD
      go_wp2
      go_ret
      refine ⟨_, w.heap.size :: (G ++ []), rfl, Rep.row 42 shSheetBlock w.heap.size 0 q q 42 (q * 3) D es G HD.out.own (by show 0 + q * 3 ≤ q * 3; omega) (fun _ => ⟨rfl, rfl, rfl, rfl⟩) ⟨by show q ≤ 9223372036854775807; omega, Nat.le_refl _⟩ HD.out.at_ HD.out.rep .nil, ?_, ?_, HB.out⟩
      · rw [List.append_nil, List.nodup_cons]; exact ⟨fun e => Nat.lt_irrefl _ (HD.out.fr _ e), HD.out.nd⟩
      · intro b hb; rw [List.append_nil] at hb; rcases List.mem_cons.1 hb with rfl | hb; exact Nat.le_refl _; exact Nat.le_of_lt (HD.out.fr b hb)
set_option maxRecDepth 8000 in
set_option maxHeartbeats 8000000 in
theorem toSheet (ds : List Dt) (cs : List Value) (w : World) (h : Raw w shSheet ds cs) (hs : wtL ds ≤ 1048576) :
    Calls Try.prog 6 #[.agg cs.toArray] w fun e w' => ∃ cs' F, e = .returned (.agg cs'.toArray) ∧ Rep w' true shSheet F ds cs' ∧ F.Nodup ∧ (∀ b ∈ F, w.heap.size ≤ b) ∧ Below w.heap.size w w' := by
  obtain ⟨n0, e0, v0, rfl, hcs, r0⟩ := segRawSheet h
  have R0 := uh r0
  have HCS := uh hcs
  simp only [wtL] at hs
  have HS := uh hs
  obtain ⟨wa, hwa⟩ : ∃ wa, wa = ((w.alloc (.cells cs.toArray 24)).alloc (.cells #[.slice none 0 0] 30)).alloc (.cells #[.slice none 0 0] 30) := ⟨_, rfl⟩
  have HB : Hid (Below w.heap.size w wa) := by show Below _ _ _; rw [hwa]; exact blw_alloc (blw_alloc (blw_alloc (Below.refl _ _) _) _) _
  have HX : Hid (LBox wa w.heap.size cs) := by show LBox _ _ _; rw [hwa]; exact ((LBox.new w cs.toArray _ _ rfl).past _).past _
  have HRS : Hid (OwnBlk wa (w.heap.size + 1) 30 1) := by show OwnBlk _ _ _ _; rw [hwa]; exact (OwnBlk.alloc_at3 _ _ _ _ _ rfl (by simp)).past _
  have HD : Hid (Bld wa (w.heap.size + 2) 30 1 [] [] [] []) := by show Bld _ _ _ _ _ _ _ _; rw [hwa]; exact Bld.nil (OwnBlk.alloc_at3 _ _ _ _ _ rfl (by simp))
  clear hcs hs h r0
  go_enter Try.func6, Try.ntmps6
  go_upto_region 2 with fail
  rw [← hwa]
  clear hwa
  have hbz := HX.out.lt
  have hqz := HD.out.own.lt
  have hfz := HD.out.own.frozen
  have hbx := boxSheet  (by have := HX.out.at_; rw [HCS.out] at this; exact this)
  have gc := hbx
  clear hbx
  obtain ⟨va0, vc0, hva⟩ := R0.out.len0
  subst hva
  go_wp2_with fail
  refine (toSheetBlockS n0 e0 (.slice va0 n0 vc0) wa (R0.out.later HB.out) (by have := HS.out; omega)).mono ?_
  rintro e x0 ⟨w0, F0, rfl, rep, nd, fr, hb⟩
  obtain ⟨wa0, wc0, hva⟩ := rep.raw.len0
  subst hva
  obtain ⟨y0, hy⟩ : ∃ y, y = x0.setCell ⟨w.heap.size + 2, 0, none⟩ (.slice wa0 n0 wc0) := ⟨_, rfl⟩
  replace HB := uh (blw_trans HB.out hb)
  replace HX := uh (HX.out.later hb)
  replace HRS := uh (HRS.out.later hb)
  have HD2 := uh ((HD.out.later hb).put (j := 0) rfl rep nd fr (fun b hb => HD.out.rep.lt b hb) HD.out.own.lt (by decide))
  have hy2 : x0.setCells (w.heap.size + 2) 0 [.slice wa0 n0 wc0] = y0 := hy.symm
  rw [hy2] at HD2
  have HD3 := HD2
  clear HD2 hy2
  have hqz := (HD.out.later hb).own.lt
  have hfz := (HD.out.later hb).own.frozen
  obtain ⟨ux, eu⟩ := (HD.out.later hb).own.cell 0 (by omega)
  replace HX : Hid (LBox y0 w.heap.size cs) := by show LBox _ _ _; rw [hy]; exact HX.out.other_ (by omega) _ _
  replace HRS : Hid (OwnBlk y0 (w.heap.size + 1) 30 1) := by show OwnBlk _ _ _ _; rw [hy]; exact HRS.out.sc_other (by omega) _ _
  replace HB : Hid (Below w.heap.size w y0) := by show Below _ _ _; rw [hy]; exact HB.out.setCell (p := ⟨w.heap.size + 2, 0, none⟩) (by show w.heap.size ≤ w.heap.size + 2; omega) _
  obtain ⟨D0, hD⟩ : ∃ D : List Value, D = [] ++ [.slice wa0 n0 wc0] := ⟨_, rfl⟩
  rw [← hD] at HD3
  clear hD HD rep nd fr
  go_upto_region 3 with fail
  rw [← hy]
  clear hy gc hbz hqz hfz hb eu
  have HD := HD3
  clear HD3
  have hlD : D0.length = 1 := HD.out.len
  have hth : y0.there (w.heap.size + 1) 0 D0.toArray.size := uthere HRS.out _ _ (by rw [List.size_toArray, hlD]; omega)
  have hone := all_oneCell_toArray HD.out.rep.raw.one
  have hsz : (Try.prog.info? 30).map (·.size) = some D0.toArray.size := by rw [List.size_toArray, hlD]; kernel_rfl
  obtain ⟨we, hwe⟩ : ∃ we, we = y0.setCells (w.heap.size + 1) 0 D0 := ⟨_, rfl⟩
  have hrt : we.rangeAt (w.heap.size + 1) 0 D0 := by rw [hwe]; exact World.rangeAt_setCells_same _ _ _ _ (by simpa using hth)
  have HBE : Hid (Below w.heap.size w we) := by show Below _ _ _; rw [hwe]; exact blw_scs (by omega) _ _ _ HB.out
  have HRE := uh (HD.out.rep.keep (w' := we) (S := fun b => b = w.heap.size + 1) (by rw [hwe]; exact mks_scs (S := fun b => b = w.heap.size + 1) rfl _ _ _) (fun b hb e => by have := HD.out.fr b hb; omega))
  refine wp_region_lit ?_
  refine wpList_load_mid rfl 30 _ rfl (w.heap.size + 2) 0 rfl D0 _ HD.out.at_ Try.underlying30 rfl (by rw [hlD]; kernel_rfl) ?_
  refine wpList_store_mid rfl 30 _ _ rfl (w.heap.size + 1) 0 D0.toArray rfl rfl hth hsz hone ?_
  simp only [Act.put, List.setIfInBounds_toArray, List.set_cons_zero, List.set_cons_succ]
  rw [← hwe]
  clear hwe hth hone hsz
  go_wp2
  refine bodyPost_ret (v := .agg D0.toArray) (by simp [results, Try.results6, asAddr, run_loadVar_mid (P := Try.prog) _ _ _ 30 D0 _ hrt Try.underlying30 rfl (by rw [hlD]; kernel_rfl)]) rfl ⟨D0, _, rfl, ?_, HD.out.nd, fun b hb => by have := HD.out.fr b hb; omega, HBE.out⟩
  exact HRE.out
end Go.Proofs.Ytojcopamegmeeaa
