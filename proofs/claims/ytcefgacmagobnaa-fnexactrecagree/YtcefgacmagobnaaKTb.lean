/-
  Copies of messages and acks.
-/
import Derived.Test.YtcefgacmagobnaaKTa
namespace Go.Proofs.Ytcefgacmagobnaa
open Go.RowKit Go.Deep

set_option maxRecDepth 8000 in
set_option maxHeartbeats 8000000 in
theorem toRecMessage (ds : List Dt) (cs : List Value) (w : World) (h : Raw w shRecMessage ds cs) (hs : wtL ds ≤ 1048576) :
    Calls Try.prog 50 #[.agg cs.toArray] w fun e w' => ∃ cs' F, e = .returned (.agg cs'.toArray) ∧ Rep w' true shRecMessage F ds cs' ∧ F.Nodup ∧ (∀ b ∈ F, w.heap.size ≤ b) ∧ Below w.heap.size w w' := by
  obtain ⟨a0, a1, a2, a3, a4, a5, a6, n7, e7, v7, rfl, hcs, r7⟩ := segRawRecMessage h
  have R7 := uh r7
  have HCS := uh hcs
  simp only [wtL] at hs
  have HS := uh hs
  obtain ⟨wa, hwa⟩ : ∃ wa, wa = ((w.alloc (.cells cs.toArray 86)).alloc (.cells #[.int .i64 0, .int .i64 0, .int .i64 0, .int .i64 0, .int .i64 0, .int .i64 0, .string { data := #[] }, .slice none 0 0] 55)).alloc (.cells #[.int .i64 0, .int .i64 0, .int .i64 0, .int .i64 0, .int .i64 0, .int .i64 0, .string { data := #[] }, .slice none 0 0] 55) := ⟨_, rfl⟩
  have HB : Hid (Below w.heap.size w wa) := by show Below _ _ _; rw [hwa]; exact blw_alloc (blw_alloc (blw_alloc (Below.refl _ _) _) _) _
  have HX : Hid (LBox wa w.heap.size cs) := by show LBox _ _ _; rw [hwa]; exact ((LBox.new w cs.toArray _ _ rfl).past _).past _
  have HRS : Hid (OwnBlk wa (w.heap.size + 1) 55 8) := by show OwnBlk _ _ _ _; rw [hwa]; exact (OwnBlk.alloc_at3 _ _ _ _ _ rfl (by simp)).past _
  have HD : Hid (Bld wa (w.heap.size + 2) 55 8 [] [] [] []) := by show Bld _ _ _ _ _ _ _ _; rw [hwa]; exact Bld.nil (OwnBlk.alloc_at3 _ _ _ _ _ rfl (by simp))
  clear hcs hs h r7
  go_enter Try.func50, Try.ntmps50
  go_upto_region 2 with fail
  rw [← hwa]
  clear hwa
  have hbz := HX.out.lt
  have hqz := HD.out.own.lt
  have hfz := HD.out.own.frozen
  have hbx := boxRecMessage  (by have := HX.out.at_; rw [HCS.out] at this; exact this)
  have gc := hbx.1
  clear hbx
  obtain ⟨y0, hy⟩ : ∃ y, y = wa.setCell ⟨w.heap.size + 2, 0, none⟩ (.int .i64 a0) := ⟨_, rfl⟩
  obtain ⟨ux, eu⟩ := HD.out.own.cell 0 (by omega)
  have HD2 := uh (HD.out.put1 (j := 0) rfl (.i a0 .nil) (by omega))
  rw [← hy] at HD2
  replace HX : Hid (LBox y0 w.heap.size cs) := by show LBox _ _ _; rw [hy]; exact HX.out.other_ (by omega) _ _
  replace HRS : Hid (OwnBlk y0 (w.heap.size + 1) 55 8) := by show OwnBlk _ _ _ _; rw [hy]; exact HRS.out.sc_other (by omega) _ _
  replace HB : Hid (Below w.heap.size w y0) := by show Below _ _ _; rw [hy]; exact HB.out.setCell (p := ⟨w.heap.size + 2, 0, none⟩) (by show w.heap.size ≤ w.heap.size + 2; omega) _
  obtain ⟨D0, hD⟩ : ∃ D : List Value, D = [] ++ [.int .i64 a0] := ⟨_, rfl⟩
  rw [← hD] at HD2
  clear hD HD
  go_upto_region 3 with fail
  rw [← hy]
  clear hy eu gc hbz hqz hfz
  have HD := HD2
  clear HD2
  have hbz := HX.out.lt
  have hqz := HD.out.own.lt
  have hfz := HD.out.own.frozen
  have hbx := boxRecMessage  (by have := HX.out.at_; rw [HCS.out] at this; exact this)
  have gc := hbx.2.1
  clear hbx
  obtain ⟨y1, hy⟩ : ∃ y, y = y0.setCell ⟨w.heap.size + 2, 1, none⟩ (.int .i64 a1) := ⟨_, rfl⟩
  obtain ⟨ux, eu⟩ := HD.out.own.cell 1 (by omega)
  have HD2 := uh (HD.out.put1 (j := 1) rfl (.i a1 .nil) (by omega))
  rw [← hy] at HD2
  replace HX : Hid (LBox y1 w.heap.size cs) := by show LBox _ _ _; rw [hy]; exact HX.out.other_ (by omega) _ _
  replace HRS : Hid (OwnBlk y1 (w.heap.size + 1) 55 8) := by show OwnBlk _ _ _ _; rw [hy]; exact HRS.out.sc_other (by omega) _ _
  replace HB : Hid (Below w.heap.size w y1) := by show Below _ _ _; rw [hy]; exact HB.out.setCell (p := ⟨w.heap.size + 2, 1, none⟩) (by show w.heap.size ≤ w.heap.size + 2; omega) _
  obtain ⟨D1, hD⟩ : ∃ D : List Value, D = D0 ++ [.int .i64 a1] := ⟨_, rfl⟩
  rw [← hD] at HD2
  clear hD HD
  go_upto_region 4 with fail
  rw [← hy]
  clear hy eu gc hbz hqz hfz
  have HD := HD2
  clear HD2
  have hbz := HX.out.lt
  have hqz := HD.out.own.lt
  have hfz := HD.out.own.frozen
  have hbx := boxRecMessage  (by have := HX.out.at_; rw [HCS.out] at this; exact this)
  have gc := hbx.2.2.1
  clear hbx
  obtain ⟨y2, hy⟩ : ∃ y, y = y1.setCell ⟨w.heap.size + 2, 2, none⟩ (.int .i64 a2) := ⟨_, rfl⟩
  obtain ⟨ux, eu⟩ := HD.out.own.cell 2 (by omega)
  have HD2 := uh (HD.out.put1 (j := 2) rfl (.i a2 .nil) (by omega))
  rw [← hy] at HD2
  replace HX : Hid (LBox y2 w.heap.size cs) := by show LBox _ _ _; rw [hy]; exact HX.out.other_ (by omega) _ _
  replace HRS : Hid (OwnBlk y2 (w.heap.size + 1) 55 8) := by show OwnBlk _ _ _ _; rw [hy]; exact HRS.out.sc_other (by omega) _ _
  replace HB : Hid (Below w.heap.size w y2) := by show Below _ _ _; rw [hy]; exact HB.out.setCell (p := ⟨w.heap.size + 2, 2, none⟩) (by show w.heap.size ≤ w.heap.size + 2; omega) _
  obtain ⟨D2, hD⟩ : ∃ D : List Value, D = D1 ++ [.int .i64 a2] := ⟨_, rfl⟩
  rw [← hD] at HD2
  clear hD HD
  go_upto_region 5 with fail
  rw [← hy]
  clear hy eu gc hbz hqz hfz
  have HD := HD2
  clear HD2
  have hbz := HX.out.lt
  have hqz := HD.out.own.lt
  have hfz := HD.out.own.frozen
  have hbx := boxRecMessage  (by have := HX.out.at_; rw [HCS.out] at this; exact this)
  have gc := hbx.2.2.2.1
  clear hbx
  obtain ⟨y3, hy⟩ : ∃ y, y = y2.setCell ⟨w.heap.size + 2, 3, none⟩ (.int .i64 a3) := ⟨_, rfl⟩
  obtain ⟨ux, eu⟩ := HD.out.own.cell 3 (by omega)
  have HD2 := uh (HD.out.put1 (j := 3) rfl (.i a3 .nil) (by omega))
  rw [← hy] at HD2
  replace HX : Hid (LBox y3 w.heap.size cs) := by show LBox _ _ _; rw [hy]; exact HX.out.other_ (by omega) _ _
  replace HRS : Hid (OwnBlk y3 (w.heap.size + 1) 55 8) := by show OwnBlk _ _ _ _; rw [hy]; exact HRS.out.sc_other (by omega) _ _
  replace HB : Hid (Below w.heap.size w y3) := by show Below _ _ _; rw [hy]; exact HB.out.setCell (p := ⟨w.heap.size + 2, 3, none⟩) (by show w.heap.size ≤ w.heap.size + 2; omega) _
  obtain ⟨D3, hD⟩ : ∃ D : List Value, D = D2 ++ [.int .i64 a3] := ⟨_, rfl⟩
  rw [← hD] at HD2
  clear hD HD
  go_upto_region 6 with fail
  rw [← hy]
  clear hy eu gc hbz hqz hfz
  have HD := HD2
  clear HD2
  have hbz := HX.out.lt
  have hqz := HD.out.own.lt
  have hfz := HD.out.own.frozen
  have hbx := boxRecMessage  (by have := HX.out.at_; rw [HCS.out] at this; exact this)
  have gc := hbx.2.2.2.2.1
  clear hbx
  obtain ⟨y4, hy⟩ : ∃ y, y = y3.setCell ⟨w.heap.size + 2, 4, none⟩ (.int .i64 a4) := ⟨_, rfl⟩
  obtain ⟨ux, eu⟩ := HD.out.own.cell 4 (by omega)
  have HD2 := uh (HD.out.put1 (j := 4) rfl (.i a4 .nil) (by omega))
  rw [← hy] at HD2
  replace HX : Hid (LBox y4 w.heap.size cs) := by show LBox _ _ _; rw [hy]; exact HX.out.other_ (by omega) _ _
  replace HRS : Hid (OwnBlk y4 (w.heap.size + 1) 55 8) := by show OwnBlk _ _ _ _; rw [hy]; exact HRS.out.sc_other (by omega) _ _
  replace HB : Hid (Below w.heap.size w y4) := by show Below _ _ _; rw [hy]; exact HB.out.setCell (p := ⟨w.heap.size + 2, 4, none⟩) (by show w.heap.size ≤ w.heap.size + 2; omega) _
  obtain ⟨D4, hD⟩ : ∃ D : List Value, D = D3 ++ [.int .i64 a4] := ⟨_, rfl⟩
  rw [← hD] at HD2
  clear hD HD
  go_upto_region 7 with fail
  rw [← hy]
  clear hy eu gc hbz hqz hfz
  have HD := HD2
  clear HD2
  have hbz := HX.out.lt
  have hqz := HD.out.own.lt
  have hfz := HD.out.own.frozen
  have hbx := boxRecMessage  (by have := HX.out.at_; rw [HCS.out] at this; exact this)
  have gc := hbx.2.2.2.2.2.1
  clear hbx
  obtain ⟨y5, hy⟩ : ∃ y, y = y4.setCell ⟨w.heap.size + 2, 5, none⟩ (.int .i64 a5) := ⟨_, rfl⟩
  obtain ⟨ux, eu⟩ := HD.out.own.cell 5 (by omega)
  have HD2 := uh (HD.out.put1 (j := 5) rfl (.i a5 .nil) (by omega))
  rw [← hy] at HD2
  replace HX : Hid (LBox y5 w.heap.size cs) := by show LBox _ _ _; rw [hy]; exact HX.out.other_ (by omega) _ _
  replace HRS : Hid (OwnBlk y5 (w.heap.size + 1) 55 8) := by show OwnBlk _ _ _ _; rw [hy]; exact HRS.out.sc_other (by omega) _ _
  replace HB : Hid (Below w.heap.size w y5) := by show Below _ _ _; rw [hy]; exact HB.out.setCell (p := ⟨w.heap.size + 2, 5, none⟩) (by show w.heap.size ≤ w.heap.size + 2; omega) _
  obtain ⟨D5, hD⟩ : ∃ D : List Value, D = D4 ++ [.int .i64 a5] := ⟨_, rfl⟩
  rw [← hD] at HD2
  clear hD HD
  go_upto_region 8 with fail
  rw [← hy]
  clear hy eu gc hbz hqz hfz
  have HD := HD2
  clear HD2
  have hbz := HX.out.lt
  have hqz := HD.out.own.lt
  have hfz := HD.out.own.frozen
  have hbx := boxRecMessage  (by have := HX.out.at_; rw [HCS.out] at this; exact this)
  have gc := hbx.2.2.2.2.2.2.1
  clear hbx
  obtain ⟨y6, hy⟩ : ∃ y, y = y5.setCell ⟨w.heap.size + 2, 6, none⟩ (.string a6) := ⟨_, rfl⟩
  obtain ⟨ux, eu⟩ := HD.out.own.cell 6 (by omega)
  have HD2 := uh (HD.out.put1 (j := 6) rfl (.s a6 .nil) (by omega))
  rw [← hy] at HD2
  replace HX : Hid (LBox y6 w.heap.size cs) := by show LBox _ _ _; rw [hy]; exact HX.out.other_ (by omega) _ _
  replace HRS : Hid (OwnBlk y6 (w.heap.size + 1) 55 8) := by show OwnBlk _ _ _ _; rw [hy]; exact HRS.out.sc_other (by omega) _ _
  replace HB : Hid (Below w.heap.size w y6) := by show Below _ _ _; rw [hy]; exact HB.out.setCell (p := ⟨w.heap.size + 2, 6, none⟩) (by show w.heap.size ≤ w.heap.size + 2; omega) _
  obtain ⟨D6, hD⟩ : ∃ D : List Value, D = D5 ++ [.string a6] := ⟨_, rfl⟩
  rw [← hD] at HD2
  clear hD HD
  go_upto_region 9 with fail
  rw [← hy]
  clear hy eu gc hbz hqz hfz
  have HD := HD2
  clear HD2
  have hbz := HX.out.lt
  have hqz := HD.out.own.lt
  have hfz := HD.out.own.frozen
  have hbx := boxRecMessage  (by have := HX.out.at_; rw [HCS.out] at this; exact this)
  have gc := hbx.2.2.2.2.2.2.2
  clear hbx
  obtain ⟨va7, vc7, hva⟩ := R7.out.len0
  subst hva
  go_wp2_with fail
  refine (toRecSlotS n7 e7 (.slice va7 n7 vc7) y6 (R7.out.later HB.out) (by have := HS.out; omega)).mono ?_
  rintro e x7 ⟨w7, F7, rfl, rep, nd, fr, hb⟩
  obtain ⟨wa7, wc7, hva⟩ := rep.raw.len0
  subst hva
  obtain ⟨y7, hy⟩ : ∃ y, y = x7.setCell ⟨w.heap.size + 2, 7, none⟩ (.slice wa7 n7 wc7) := ⟨_, rfl⟩
  replace HB := uh (blw_trans HB.out hb)
  replace HX := uh (HX.out.later hb)
  replace HRS := uh (HRS.out.later hb)
  have HD2 := uh ((HD.out.later hb).put (j := 7) rfl rep nd fr (fun b hb => HD.out.rep.lt b hb) HD.out.own.lt (by decide))
  have hy2 : x7.setCells (w.heap.size + 2) 7 [.slice wa7 n7 wc7] = y7 := hy.symm
  rw [hy2] at HD2
  have HD3 := HD2
  clear HD2 hy2
  have hqz := (HD.out.later hb).own.lt
  have hfz := (HD.out.later hb).own.frozen
  obtain ⟨ux, eu⟩ := (HD.out.later hb).own.cell 7 (by omega)
  replace HX : Hid (LBox y7 w.heap.size cs) := by show LBox _ _ _; rw [hy]; exact HX.out.other_ (by omega) _ _
  replace HRS : Hid (OwnBlk y7 (w.heap.size + 1) 55 8) := by show OwnBlk _ _ _ _; rw [hy]; exact HRS.out.sc_other (by omega) _ _
  replace HB : Hid (Below w.heap.size w y7) := by show Below _ _ _; rw [hy]; exact HB.out.setCell (p := ⟨w.heap.size + 2, 7, none⟩) (by show w.heap.size ≤ w.heap.size + 2; omega) _
  obtain ⟨D7, hD⟩ : ∃ D : List Value, D = D6 ++ [.slice wa7 n7 wc7] := ⟨_, rfl⟩
  rw [← hD] at HD3
  clear hD HD rep nd fr
  go_upto_region 10 with fail
  rw [← hy]
  clear hy gc hbz hqz hfz hb eu
  have HD := HD3
  clear HD3
  have hlD : D7.length = 8 := HD.out.len
  have hth : y7.there (w.heap.size + 1) 0 D7.toArray.size := uthere HRS.out _ _ (by rw [List.size_toArray, hlD]; omega)
  have hone := all_oneCell_toArray HD.out.rep.raw.one
  have hsz : (Try.prog.info? 55).map (·.size) = some D7.toArray.size := by rw [List.size_toArray, hlD]; kernel_rfl
  obtain ⟨we, hwe⟩ : ∃ we, we = y7.setCells (w.heap.size + 1) 0 D7 := ⟨_, rfl⟩
  have hrt : we.rangeAt (w.heap.size + 1) 0 D7 := by rw [hwe]; exact World.rangeAt_setCells_same _ _ _ _ (by simpa using hth)
  have HBE : Hid (Below w.heap.size w we) := by show Below _ _ _; rw [hwe]; exact blw_scs (by omega) _ _ _ HB.out
  have HRE := uh (HD.out.rep.keep (w' := we) (S := fun b => b = w.heap.size + 1) (by rw [hwe]; exact mks_scs (S := fun b => b = w.heap.size + 1) rfl _ _ _) (fun b hb e => by have := HD.out.fr b hb; omega))
  refine wp_region_lit ?_
  refine wpList_load_mid rfl 55 _ rfl (w.heap.size + 2) 0 rfl D7 _ HD.out.at_ Try.underlying55 rfl (by rw [hlD]; kernel_rfl) ?_
  refine wpList_store_mid rfl 55 _ _ rfl (w.heap.size + 1) 0 D7.toArray rfl rfl hth hsz hone ?_
  simp only [Act.put, List.setIfInBounds_toArray, List.set_cons_zero, List.set_cons_succ]
  rw [← hwe]
  clear hwe hth hone hsz
  go_wp2
  refine bodyPost_ret (v := .agg D7.toArray) (by simp [results, Try.results50, asAddr, run_loadVar_mid (P := Try.prog) _ _ _ 55 D7 _ hrt Try.underlying55 rfl (by rw [hlD]; kernel_rfl)]) rfl ⟨D7, _, rfl, ?_, HD.out.nd, fun b hb => by have := HD.out.fr b hb; omega, HBE.out⟩
  exact HRE.out
theorem Try.uinfoRecMessage : (Try.prog.info? 55).map (fun i => (i.zero, i.size, decide (i.bytes ≤ 4096))) = some (some (.agg #[.int .i64 0, .int .i64 0, .int .i64 0, .int .i64 0, .int .i64 0, .int .i64 0, .string ByteArray.empty, .slice none 0 0]), 8, true) := by kernel_rfl
theorem Try.uunderRecMessage : Try.prog.underlying 30 = some (.slice 55) := by kernel_rfl
theorem umakeRecMessage (n : Nat) (h : n ≤ 1048576) : ∃ cs : Array Value, cs.size = n * 8 ∧ ∀ W : World,
    (Instr.makeSlice 30 (.int .i64 (n : Int)) (.int .i64 (n : Int))).run Try.prog W = .ok (.slice (some ⟨W.heap.size, 0, none⟩) n n) (W.alloc (.cells cs 55)) := by
  obtain ⟨i, hi, hzz⟩ := Option.map_eq_some_iff.1 Try.uinfoRecMessage
  simp only [Prod.mk.injEq, decide_eq_true_eq] at hzz
  obtain ⟨hz, hs, hb⟩ := hzz
  refine ⟨madeCells ((.agg #[.int .i64 0, .int .i64 0, .int .i64 0, .int .i64 0, .int .i64 0, .int .i64 0, .string ByteArray.empty, .slice none 0 0]) : Value).cells (n * 8), size_madeCells _ _, fun W => ?_⟩
  have hmx : (i.bytes : Int) * (n : Int) ≤ 281474976710656 := by
    have e : ((i.bytes * n : Nat) : Int) ≤ ((4096 * 1048576 : Nat) : Int) := Int.ofNat_le.2 (Nat.mul_le_mul hb h)
    rw [Int.natCast_mul] at e
    exact Int.le_trans e (by decide)
  have hr := run_make (P := Try.prog) W 30 55 i _ Try.uunderRecMessage hi hz .i64 .i64 n n (by omega) (Int.le_refl _) hmx (by omega)
  simp only [Int.toNat_natCast, hs] at hr
  exact hr
set_option maxRecDepth 8000 in
set_option maxHeartbeats 8000000 in
theorem toRecMessageS (n : Nat) (es : List Dt) (v : Value) (w : World) (h : Raw w [.row 55 shRecMessage] [.row n es] [v]) (hs : n + wtL es ≤ 1048576) :
    Calls Try.prog 22 #[v] w fun e w' => ∃ v' F, e = .returned v' ∧ Rep w' true [.row 55 shRecMessage] F [.row n es] [v'] ∧ F.Nodup ∧ (∀ b ∈ F, w.heap.size ≤ b) ∧ Below w.heap.size w w' := by
  obtain ⟨zs, hzs, hmk⟩ := umakeRecMessage n (by omega)
  by_cases h0 : n = 0
  · subst h0
    have he0 : es = [] := List.eq_nil_of_length_eq_zero (by have := h.typ; obtain ⟨_, _, _, e, t, _⟩ := this.c_r; injection e with e1 e2; injection e1 with e3 e4; subst e3; subst e4; have := t.rows; omega)
    subst he0
    obtain ⟨a, c, rfl⟩ := h.len0
    have hmk0 : ∀ W : World, (Instr.makeSlice 30 (.int .i64 0) (.int .i64 0)).run Try.prog W = .ok (.slice (some ⟨W.heap.size, 0, none⟩) 0 0) (W.alloc (.cells zs 55)) := hmk
    clear hmk
    go_enter Try.func22, Try.ntmps22
    go_wp2
    refine wp_loop_rounds 1 ?_
    rw [rounds_succ]
    go_wp2
    go_ret
    exact ⟨_, [w.heap.size], rfl, Rep.row 55 shRecMessage w.heap.size 0 0 0 55 0 [] [] [] (OwnBlk.alloc w zs _ _ (by simpa using hzs)) (by simp) (fun _ => ⟨rfl, by simp, rfl, rfl⟩) ⟨Nat.zero_le _, Nat.le_refl _⟩ (rA_nil _ _ _) .nil .nil, by simp, by simp, blw_alloc (Below.refl _ _) _⟩
  rcases h.slice with ⟨e0, _⟩ | ⟨p, o, c, rfl, hp, hn, vs, hr, hR⟩
  · exact absurd e0 h0
  have HR := uh (And.intro hR (And.intro hr hp))
  have HT := uh hR.typ
  have HS := uh hs
  have hn1 : n ≤ 1048576 := by omega
  clear h hr hR hp hs hn
  go_enter Try.func22, Try.ntmps22
  go_wp2
  go_loopw [4] (fun i wr => ∃ (q : Nat) (G : List Nat) (D : List Value), q ≤ n ∧ i = .int .i64 q ∧ Below w.heap.size w wr ∧ Bld wr w.heap.size 55 (n * 8) (reps q shRecMessage) G (es.take (q * 8)) D) (fun i _ => n - (intOf i).toNat)
  case atStart => exact ⟨0, [], [], Nat.zero_le _, rfl, blw_alloc (Below.refl _ _) _, by rw [Nat.zero_mul, List.take_zero]; exact Bld.nil (OwnBlk.alloc w zs 55 _ hzs)⟩
  case round =>
    obtain ⟨q, G, D, hq, rfl, hW, hD⟩ := hrel
    have HB := uh hW
    have HD := uh hD
    clear hW hD hmk hzs
    by_cases hlt : q < n
    · obtain ⟨ve, hE, hg⟩ := (HR.out.1.later HB.out).el hlt (rA_later HR.out.2.1 HR.out.2.2 HB.out)
      have hbp : p < wr.heap.size := Nat.lt_of_lt_of_le HR.out.2.2 HB.out.size
      have hm0 : (0 : Int) ≤ (q : Int) := by omega
      have hm3 : (q : Int) < (n : Int) := by omega
      have hmul : q * 8 + 8 ≤ n * 8 := by omega
      have hqz := HD.out.own.lt
      have hfz := HD.out.own.frozen
      have hg2 : wr.rangeAt p (o + q * 8) ve := hg
      have HL := uh hE.len
      have HX : Hid (Calls Try.prog 50 #[.agg ve.toArray] wr fun e w' => ∃ cs' F, e = .returned (.agg cs'.toArray) ∧ Rep w' true shRecMessage F (el 8 q es) cs' ∧ F.Nodup ∧ (∀ b ∈ F, wr.heap.size ≤ b) ∧ Below wr.heap.size wr w') := toRecMessage _ ve wr hE (by have := HS.out; have := wt_next 8 q es; have := wt_le ((q + 1) * 8) es; show wtL (el 8 q es) ≤ _; omega)
      clear hE hg HR
      go_wp2_with (refine wpList_load_mid rfl 86 _ rfl p (o + q * 8) rfl ve _ hg2 Try.underlying86 rfl (by rw [HL.out]; kernel_rfl) ?_)
      refine HX.out.mono ?_
      rintro e w2 ⟨cs', F', rfl, rep, nd, fr, hb⟩
      obtain ⟨y, hy⟩ : ∃ y, y = w2.setCells w.heap.size (q * 8) cs' := ⟨_, rfl⟩
      have hl := rep.len
      have HN : Hid (Below w.heap.size w y ∧ Bld y w.heap.size 55 (n * 8) (reps (q + 1) shRecMessage) (G ++ F') (es.take ((q + 1) * 8)) (D ++ cs')) := by
        refine ⟨by rw [hy]; exact blw_scs (Nat.le_refl _) _ _ _ (blw_trans HB.out hb), ?_⟩
        rw [hy, reps_snoc, Nat.succ_mul, el_take]
        exact (HD.out.later hb).put (reps_len _ _) rep nd fr (fun b hb => HD.out.rep.lt b hb) HD.out.own.lt (by show q * 8 + 8 ≤ n * 8; omega)
      have hth : w2.there w.heap.size (q * 8) cs'.toArray.size := uthere (HD.out.later hb).own _ _ (by rw [List.size_toArray, hl]; exact hmul)
      have hone := all_oneCell_toArray rep.raw.one
      have hsz : (Try.prog.info? 55).map (·.size) = some cs'.toArray.size := by rw [List.size_toArray, hl]; kernel_rfl
      have hqz := (HD.out.later hb).own.lt
      clear HD HX hg2 rep nd fr hl
      go_upto_region 4 with (refine wpList_store_mid rfl 55 _ _ rfl w.heap.size (q * 8) cs'.toArray rfl rfl hth hsz hone ?_)
      first | rw [← hy] | (simp only [List.toList_toArray]; rw [← hy])
      clear hy hth hone hsz hb
      go_wp2
      go_roundw
      case rel => exact ⟨q + 1, _, _, by omega, by go_num, HN.out.1, HN.out.2⟩
      case measure => simp [intOf]; omega
    · obtain rfl : q = n := by omega
      have el_ : es.length = q * 8 := HT.out.rows
      rw [← el_, List.take_length, el_] at HD
      go_wp2
      go_ret
      refine ⟨_, w.heap.size :: (G ++ []), rfl, Rep.row 55 shRecMessage w.heap.size 0 q q 55 (q * 8) D es G HD.out.own (by show 0 + q * 8 ≤ q * 8; omega) (fun _ => ⟨rfl, rfl, rfl, rfl⟩) ⟨by show q ≤ 9223372036854775807; omega, Nat.le_refl _⟩ HD.out.at_ HD.out.rep .nil, ?_, ?_, HB.out⟩
      · rw [List.append_nil, List.nodup_cons]; exact ⟨fun e => Nat.lt_irrefl _ (HD.out.fr _ e), HD.out.nd⟩
      · intro b hb; rw [List.append_nil] at hb; rcases List.mem_cons.1 hb with rfl | hb; exact Nat.le_refl _; exact Nat.le_of_lt (HD.out.fr b hb)
set_option maxRecDepth 8000 in
set_option maxHeartbeats 8000000 in
theorem toRecAck (ds : List Dt) (cs : List Value) (w : World) (h : Raw w shRecAck ds cs) (hs : wtL ds ≤ 1048576) :
    Calls Try.prog 96 #[.agg cs.toArray] w fun e w' => ∃ cs' F, e = .returned (.agg cs'.toArray) ∧ Rep w' true shRecAck F ds cs' ∧ F.Nodup ∧ (∀ b ∈ F, w.heap.size ≤ b) ∧ Below w.heap.size w w' := by
  obtain ⟨a0, n1, e1, v1, rfl, hcs, r1⟩ := segRawRecAck h
  have R1 := uh r1
  have HCS := uh hcs
  simp only [wtL] at hs
  have HS := uh hs
  obtain ⟨wa, hwa⟩ : ∃ wa, wa = ((w.alloc (.cells cs.toArray 147)).alloc (.cells #[.int .i64 0, .slice none 0 0] 122)).alloc (.cells #[.int .i64 0, .slice none 0 0] 122) := ⟨_, rfl⟩
  have HB : Hid (Below w.heap.size w wa) := by show Below _ _ _; rw [hwa]; exact blw_alloc (blw_alloc (blw_alloc (Below.refl _ _) _) _) _
  have HX : Hid (LBox wa w.heap.size cs) := by show LBox _ _ _; rw [hwa]; exact ((LBox.new w cs.toArray _ _ rfl).past _).past _
  have HRS : Hid (OwnBlk wa (w.heap.size + 1) 122 2) := by show OwnBlk _ _ _ _; rw [hwa]; exact (OwnBlk.alloc_at3 _ _ _ _ _ rfl (by simp)).past _
  have HD : Hid (Bld wa (w.heap.size + 2) 122 2 [] [] [] []) := by show Bld _ _ _ _ _ _ _ _; rw [hwa]; exact Bld.nil (OwnBlk.alloc_at3 _ _ _ _ _ rfl (by simp))
  clear hcs hs h r1
  go_enter Try.func96, Try.ntmps96
  go_upto_region 2 with fail
  rw [← hwa]
  clear hwa
  have hbz := HX.out.lt
  have hqz := HD.out.own.lt
  have hfz := HD.out.own.frozen
  have hbx := boxRecAck  (by have := HX.out.at_; rw [HCS.out] at this; exact this)
  have gc := hbx.1
  clear hbx
  obtain ⟨y0, hy⟩ : ∃ y, y = wa.setCell ⟨w.heap.size + 2, 0, none⟩ (.int .i64 a0) := ⟨_, rfl⟩
  obtain ⟨ux, eu⟩ := HD.out.own.cell 0 (by omega)
  have HD2 := uh (HD.out.put1 (j := 0) rfl (.i a0 .nil) (by omega))
  rw [← hy] at HD2
  replace HX : Hid (LBox y0 w.heap.size cs) := by show LBox _ _ _; rw [hy]; exact HX.out.other_ (by omega) _ _
  replace HRS : Hid (OwnBlk y0 (w.heap.size + 1) 122 2) := by show OwnBlk _ _ _ _; rw [hy]; exact HRS.out.sc_other (by omega) _ _
  replace HB : Hid (Below w.heap.size w y0) := by show Below _ _ _; rw [hy]; exact HB.out.setCell (p := ⟨w.heap.size + 2, 0, none⟩) (by show w.heap.size ≤ w.heap.size + 2; omega) _
  obtain ⟨D0, hD⟩ : ∃ D : List Value, D = [] ++ [.int .i64 a0] := ⟨_, rfl⟩
  rw [← hD] at HD2
  clear hD HD
  go_upto_region 3 with fail
  rw [← hy]
  clear hy eu gc hbz hqz hfz
  have HD := HD2
  clear HD2
  have hbz := HX.out.lt
  have hqz := HD.out.own.lt
  have hfz := HD.out.own.frozen
  have hbx := boxRecAck  (by have := HX.out.at_; rw [HCS.out] at this; exact this)
  have gc := hbx.2
  clear hbx
  obtain ⟨va1, vc1, hva⟩ := R1.out.len0
  subst hva
  go_wp2_with fail
  refine (toIntS n1 e1 (.slice va1 n1 vc1) y0 (R1.out.later HB.out) (by have := HS.out; omega)).mono ?_
  rintro e x1 ⟨w1, F1, rfl, rep, nd, fr, hb⟩
  obtain ⟨wa1, wc1, hva⟩ := rep.raw.len0
  subst hva
  obtain ⟨y1, hy⟩ : ∃ y, y = x1.setCell ⟨w.heap.size + 2, 1, none⟩ (.slice wa1 n1 wc1) := ⟨_, rfl⟩
  replace HB := uh (blw_trans HB.out hb)
  replace HX := uh (HX.out.later hb)
  replace HRS := uh (HRS.out.later hb)
  have HD2 := uh ((HD.out.later hb).put (j := 1) rfl rep nd fr (fun b hb => HD.out.rep.lt b hb) HD.out.own.lt (by decide))
  have hy2 : x1.setCells (w.heap.size + 2) 1 [.slice wa1 n1 wc1] = y1 := hy.symm
  rw [hy2] at HD2
  have HD3 := HD2
  clear HD2 hy2
  have hqz := (HD.out.later hb).own.lt
  have hfz := (HD.out.later hb).own.frozen
  obtain ⟨ux, eu⟩ := (HD.out.later hb).own.cell 1 (by omega)
  replace HX : Hid (LBox y1 w.heap.size cs) := by show LBox _ _ _; rw [hy]; exact HX.out.other_ (by omega) _ _
  replace HRS : Hid (OwnBlk y1 (w.heap.size + 1) 122 2) := by show OwnBlk _ _ _ _; rw [hy]; exact HRS.out.sc_other (by omega) _ _
  replace HB : Hid (Below w.heap.size w y1) := by show Below _ _ _; rw [hy]; exact HB.out.setCell (p := ⟨w.heap.size + 2, 1, none⟩) (by show w.heap.size ≤ w.heap.size + 2; omega) _
  obtain ⟨D1, hD⟩ : ∃ D : List Value, D = D0 ++ [.slice wa1 n1 wc1] := ⟨_, rfl⟩
  rw [← hD] at HD3
  clear hD HD rep nd fr
  go_upto_region 4 with fail
  rw [← hy]
  clear hy gc hbz hqz hfz hb eu
  have HD := HD3
  clear HD3
  have hlD : D1.length = 2 := HD.out.len
  have hth : y1.there (w.heap.size + 1) 0 D1.toArray.size := uthere HRS.out _ _ (by rw [List.size_toArray, hlD]; omega)
  have hone := all_oneCell_toArray HD.out.rep.raw.one
  have hsz : (Try.prog.info? 122).map (·.size) = some D1.toArray.size := by rw [List.size_toArray, hlD]; kernel_rfl
  obtain ⟨we, hwe⟩ : ∃ we, we = y1.setCells (w.heap.size + 1) 0 D1 := ⟨_, rfl⟩
  have hrt : we.rangeAt (w.heap.size + 1) 0 D1 := by rw [hwe]; exact World.rangeAt_setCells_same _ _ _ _ (by simpa using hth)
  have HBE : Hid (Below w.heap.size w we) := by show Below _ _ _; rw [hwe]; exact blw_scs (by omega) _ _ _ HB.out
  have HRE := uh (HD.out.rep.keep (w' := we) (S := fun b => b = w.heap.size + 1) (by rw [hwe]; exact mks_scs (S := fun b => b = w.heap.size + 1) rfl _ _ _) (fun b hb e => by have := HD.out.fr b hb; omega))
  refine wp_region_lit ?_
  refine wpList_load_mid rfl 122 _ rfl (w.heap.size + 2) 0 rfl D1 _ HD.out.at_ Try.underlying122 rfl (by rw [hlD]; kernel_rfl) ?_
  refine wpList_store_mid rfl 122 _ _ rfl (w.heap.size + 1) 0 D1.toArray rfl rfl hth hsz hone ?_
  simp only [Act.put, List.setIfInBounds_toArray, List.set_cons_zero, List.set_cons_succ]
  rw [← hwe]
  clear hwe hth hone hsz
  go_wp2
  refine bodyPost_ret (v := .agg D1.toArray) (by simp [results, Try.results96, asAddr, run_loadVar_mid (P := Try.prog) _ _ _ 122 D1 _ hrt Try.underlying122 rfl (by rw [hlD]; kernel_rfl)]) rfl ⟨D1, _, rfl, ?_, HD.out.nd, fun b hb => by have := HD.out.fr b hb; omega, HBE.out⟩
  exact HRE.out
theorem Try.uinfoRecAck : (Try.prog.info? 122).map (fun i => (i.zero, i.size, decide (i.bytes ≤ 4096))) = some (some (.agg #[.int .i64 0, .slice none 0 0]), 2, true) := by kernel_rfl
theorem Try.uunderRecAck : Try.prog.underlying 50 = some (.slice 122) := by kernel_rfl
theorem umakeRecAck (n : Nat) (h : n ≤ 1048576) : ∃ cs : Array Value, cs.size = n * 2 ∧ ∀ W : World,
    (Instr.makeSlice 50 (.int .i64 (n : Int)) (.int .i64 (n : Int))).run Try.prog W = .ok (.slice (some ⟨W.heap.size, 0, none⟩) n n) (W.alloc (.cells cs 122)) := by
  obtain ⟨i, hi, hzz⟩ := Option.map_eq_some_iff.1 Try.uinfoRecAck
  simp only [Prod.mk.injEq, decide_eq_true_eq] at hzz
  obtain ⟨hz, hs, hb⟩ := hzz
  refine ⟨madeCells ((.agg #[.int .i64 0, .slice none 0 0]) : Value).cells (n * 2), size_madeCells _ _, fun W => ?_⟩
  have hmx : (i.bytes : Int) * (n : Int) ≤ 281474976710656 := by
    have e : ((i.bytes * n : Nat) : Int) ≤ ((4096 * 1048576 : Nat) : Int) := Int.ofNat_le.2 (Nat.mul_le_mul hb h)
    rw [Int.natCast_mul] at e
    exact Int.le_trans e (by decide)
  have hr := run_make (P := Try.prog) W 50 122 i _ Try.uunderRecAck hi hz .i64 .i64 n n (by omega) (Int.le_refl _) hmx (by omega)
  simp only [Int.toNat_natCast, hs] at hr
  exact hr
set_option maxRecDepth 8000 in
set_option maxHeartbeats 8000000 in
theorem toRecAckS (n : Nat) (es : List Dt) (v : Value) (w : World) (h : Raw w [.row 122 shRecAck] [.row n es] [v]) (hs : n + wtL es ≤ 1048576) :
    Calls Try.prog 80 #[v] w fun e w' => ∃ v' F, e = .returned v' ∧ Rep w' true [.row 122 shRecAck] F [.row n es] [v'] ∧ F.Nodup ∧ (∀ b ∈ F, w.heap.size ≤ b) ∧ Below w.heap.size w w' := by
  obtain ⟨zs, hzs, hmk⟩ := umakeRecAck n (by omega)
  by_cases h0 : n = 0
  · subst h0
    have he0 : es = [] := List.eq_nil_of_length_eq_zero (by have := h.typ; obtain ⟨_, _, _, e, t, _⟩ := this.c_r; injection e with e1 e2; injection e1 with e3 e4; subst e3; subst e4; have := t.rows; omega)
    subst he0
    obtain ⟨a, c, rfl⟩ := h.len0
    have hmk0 : ∀ W : World, (Instr.makeSlice 50 (.int .i64 0) (.int .i64 0)).run Try.prog W = .ok (.slice (some ⟨W.heap.size, 0, none⟩) 0 0) (W.alloc (.cells zs 122)) := hmk
    clear hmk
    go_enter Try.func80, Try.ntmps80
    go_wp2
    refine wp_loop_rounds 1 ?_
    rw [rounds_succ]
    go_wp2
    go_ret
    exact ⟨_, [w.heap.size], rfl, Rep.row 122 shRecAck w.heap.size 0 0 0 122 0 [] [] [] (OwnBlk.alloc w zs _ _ (by simpa using hzs)) (by simp) (fun _ => ⟨rfl, by simp, rfl, rfl⟩) ⟨Nat.zero_le _, Nat.le_refl _⟩ (rA_nil _ _ _) .nil .nil, by simp, by simp, blw_alloc (Below.refl _ _) _⟩
  rcases h.slice with ⟨e0, _⟩ | ⟨p, o, c, rfl, hp, hn, vs, hr, hR⟩
  · exact absurd e0 h0
  have HR := uh (And.intro hR (And.intro hr hp))
  have HT := uh hR.typ
  have HS := uh hs
  have hn1 : n ≤ 1048576 := by omega
  clear h hr hR hp hs hn
  go_enter Try.func80, Try.ntmps80
  go_wp2
  go_loopw [4] (fun i wr => ∃ (q : Nat) (G : List Nat) (D : List Value), q ≤ n ∧ i = .int .i64 q ∧ Below w.heap.size w wr ∧ Bld wr w.heap.size 122 (n * 2) (reps q shRecAck) G (es.take (q * 2)) D) (fun i _ => n - (intOf i).toNat)
  case atStart => exact ⟨0, [], [], Nat.zero_le _, rfl, blw_alloc (Below.refl _ _) _, by rw [Nat.zero_mul, List.take_zero]; exact Bld.nil (OwnBlk.alloc w zs 122 _ hzs)⟩
  case round =>
    obtain ⟨q, G, D, hq, rfl, hW, hD⟩ := hrel
    have HB := uh hW
    have HD := uh hD
    clear hW hD hmk hzs
    by_cases hlt : q < n
    · obtain ⟨ve, hE, hg⟩ := (HR.out.1.later HB.out).el hlt (rA_later HR.out.2.1 HR.out.2.2 HB.out)
      have hbp : p < wr.heap.size := Nat.lt_of_lt_of_le HR.out.2.2 HB.out.size
      have hm0 : (0 : Int) ≤ (q : Int) := by omega
      have hm3 : (q : Int) < (n : Int) := by omega
      have hmul : q * 2 + 2 ≤ n * 2 := by omega
      have hqz := HD.out.own.lt
      have hfz := HD.out.own.frozen
      have hg2 : wr.rangeAt p (o + q * 2) ve := hg
      have HL := uh hE.len
      have HX : Hid (Calls Try.prog 96 #[.agg ve.toArray] wr fun e w' => ∃ cs' F, e = .returned (.agg cs'.toArray) ∧ Rep w' true shRecAck F (el 2 q es) cs' ∧ F.Nodup ∧ (∀ b ∈ F, wr.heap.size ≤ b) ∧ Below wr.heap.size wr w') := toRecAck _ ve wr hE (by have := HS.out; have := wt_next 2 q es; have := wt_le ((q + 1) * 2) es; show wtL (el 2 q es) ≤ _; omega)
      clear hE hg HR
      go_wp2_with (refine wpList_load_mid rfl 147 _ rfl p (o + q * 2) rfl ve _ hg2 Try.underlying147 rfl (by rw [HL.out]; kernel_rfl) ?_)
      refine HX.out.mono ?_
      rintro e w2 ⟨cs', F', rfl, rep, nd, fr, hb⟩
      obtain ⟨y, hy⟩ : ∃ y, y = w2.setCells w.heap.size (q * 2) cs' := ⟨_, rfl⟩
      have hl := rep.len
      have HN : Hid (Below w.heap.size w y ∧ Bld y w.heap.size 122 (n * 2) (reps (q + 1) shRecAck) (G ++ F') (es.take ((q + 1) * 2)) (D ++ cs')) := by
        refine ⟨by rw [hy]; exact blw_scs (Nat.le_refl _) _ _ _ (blw_trans HB.out hb), ?_⟩
        rw [hy, reps_snoc, Nat.succ_mul, el_take]
        exact (HD.out.later hb).put (reps_len _ _) rep nd fr (fun b hb => HD.out.rep.lt b hb) HD.out.own.lt (by show q * 2 + 2 ≤ n * 2; omega)
      have hth : w2.there w.heap.size (q * 2) cs'.toArray.size := uthere (HD.out.later hb).own _ _ (by rw [List.size_toArray, hl]; exact hmul)
      have hone := all_oneCell_toArray rep.raw.one
      have hsz : (Try.prog.info? 122).map (·.size) = some cs'.toArray.size := by rw [List.size_toArray, hl]; kernel_rfl
      have hqz := (HD.out.later hb).own.lt
      clear HD HX hg2 rep nd fr hl
      go_upto_region 4 with (refine wpList_store_mid rfl 122 _ _ rfl w.heap.size (q * 2) cs'.toArray rfl rfl hth hsz hone ?_)
      first | rw [← hy] | (simp only [List.toList_toArray]; rw [← hy])
      clear hy hth hone hsz hb
      go_wp2
      go_roundw
      case rel => exact ⟨q + 1, _, _, by omega, by go_num, HN.out.1, HN.out.2⟩
      case measure => simp [intOf]; omega
    · obtain rfl : q = n := by omega
      have el_ : es.length = q * 2 := HT.out.rows
      rw [← el_, List.take_length, el_] at HD
      go_wp2
      go_ret
      refine ⟨_, w.heap.size :: (G ++ []), rfl, Rep.row 122 shRecAck w.heap.size 0 q q 122 (q * 2) D es G HD.out.own (by show 0 + q * 2 ≤ q * 2; omega) (fun _ => ⟨rfl, rfl, rfl, rfl⟩) ⟨by show q ≤ 9223372036854775807; omega, Nat.le_refl _⟩ HD.out.at_ HD.out.rep .nil, ?_, ?_, HB.out⟩
      · rw [List.append_nil, List.nodup_cons]; exact ⟨fun e => Nat.lt_irrefl _ (HD.out.fr _ e), HD.out.nd⟩
      · intro b hb; rw [List.append_nil] at hb; rcases List.mem_cons.1 hb with rfl | hb; exact Nat.le_refl _; exact Nat.le_of_lt (HD.out.fr b hb)
end Go.Proofs.Ytcefgacmagobnaa
