/-
  Copies of an object and of a service.
-/
import Derived.Test.YtiiahpegdpbkgaaOSh
namespace Go.Proofs.Ytiiahpegdpbkgaa
open Go.RowKit Go.Deep

theorem Try.uinfoT1 : (Try.prog.info? 9).map (fun i => (i.zero, i.size, decide (i.bytes ≤ 4096))) = some (some (.string ByteArray.empty), 1, true) := by kernel_rfl
theorem Try.uunderT1 : Try.prog.underlying 22 = some (.slice 9) := by kernel_rfl
theorem umakeT1 (n : Nat) (h : n ≤ 1048576) : ∃ cs : Array Value, cs.size = n * 1 ∧ ∀ W : World,
    (Instr.makeSlice 22 (.int .i64 (n : Int)) (.int .i64 (n : Int))).run Try.prog W = .ok (.slice (some ⟨W.heap.size, 0, none⟩) n n) (W.alloc (.cells cs 9)) := by
  obtain ⟨i, hi, hzz⟩ := Option.map_eq_some_iff.1 Try.uinfoT1
  simp only [Prod.mk.injEq, decide_eq_true_eq] at hzz
  obtain ⟨hz, hs, hb⟩ := hzz
  refine ⟨madeCells ((.string ByteArray.empty) : Value).cells (n * 1), size_madeCells _ _, fun W => ?_⟩
  have hmx : (i.bytes : Int) * (n : Int) ≤ 281474976710656 := by
    have e : ((i.bytes * n : Nat) : Int) ≤ ((4096 * 1048576 : Nat) : Int) := Int.ofNat_le.2 (Nat.mul_le_mul hb h)
    rw [Int.natCast_mul] at e
    exact Int.le_trans e (by decide)
  have hr := run_make (P := Try.prog) W 22 9 i _ Try.uunderT1 hi hz .i64 .i64 n n (by omega) (Int.le_refl _) hmx (by omega)
  simp only [Int.toNat_natCast, hs] at hr
  exact hr
set_option maxRecDepth 8000 in
set_option maxHeartbeats 8000000 in
theorem toStringS (n : Nat) (es : List Dt) (v : Value) (w : World) (h : Raw w [.row 9 [.s]] [.row n es] [v]) (hs : n + wtL es ≤ 1048576) :
    Calls Try.prog 14 #[v] w fun e w' => ∃ v' F, e = .returned v' ∧ Rep w' true [.row 9 [.s]] F [.row n es] [v'] ∧ F.Nodup ∧ (∀ b ∈ F, w.heap.size ≤ b) ∧ Below w.heap.size w w' := by
  obtain ⟨zs, hzs, hmk⟩ := umakeT1 n (by omega)
  by_cases h0 : n = 0
  · subst h0
    have he0 : es = [] := List.eq_nil_of_length_eq_zero (by have := h.typ; obtain ⟨_, _, _, e, t, _⟩ := this.c_r; injection e with e1 e2; injection e1 with e3 e4; subst e3; subst e4; have := t.rows; omega)
    subst he0
    obtain ⟨a, c, rfl⟩ := h.len0
    have hmk0 : ∀ W : World, (Instr.makeSlice 22 (.int .i64 0) (.int .i64 0)).run Try.prog W = .ok (.slice (some ⟨W.heap.size, 0, none⟩) 0 0) (W.alloc (.cells zs 9)) := hmk
    clear hmk
    go_enter Try.func14, Try.ntmps14
    go_wp2
    refine wp_loop_rounds 1 ?_
    rw [rounds_succ]
    go_wp2
    go_ret
    exact ⟨_, [w.heap.size], rfl, Rep.row 9 [.s] w.heap.size 0 0 0 9 0 [] [] [] (OwnBlk.alloc w zs _ _ (by simpa using hzs)) (by simp) (fun _ => ⟨rfl, by simp, rfl, rfl⟩) ⟨Nat.zero_le _, Nat.le_refl _⟩ (rA_nil _ _ _) .nil .nil, by simp, by simp, blw_alloc (Below.refl _ _) _⟩
  rcases h.slice with ⟨e0, _⟩ | ⟨p, o, c, rfl, hp, hn, vs, hr, hR⟩
  · exact absurd e0 h0
  have HR := uh (And.intro hR (And.intro hr hp))
  have HT := uh hR.typ
  have HS := uh hs
  have hn1 : n ≤ 1048576 := by omega
  clear h hr hR hp hs hn
  go_enter Try.func14, Try.ntmps14
  go_wp2
  go_loopw [4] (fun i wr => ∃ (q : Nat) (G : List Nat) (D : List Value), q ≤ n ∧ i = .int .i64 q ∧ Below w.heap.size w wr ∧ Bld wr w.heap.size 9 (n * 1) (reps q [.s]) G (es.take (q * 1)) D) (fun i _ => n - (intOf i).toNat)
  case atStart => exact ⟨0, [], [], Nat.zero_le _, rfl, blw_alloc (Below.refl _ _) _, by rw [Nat.zero_mul, List.take_zero]; exact Bld.nil (OwnBlk.alloc w zs 9 _ hzs)⟩
  case round =>
    obtain ⟨q, G, D, hq, rfl, hW, hD⟩ := hrel
    have HB := uh hW
    have HD := uh hD
    clear hW hD hmk hzs
    by_cases hlt : q < n
    · obtain ⟨ve, hE, hg⟩ := (HR.out.1.later HB.out).el hlt (rA_later HR.out.2.1 HR.out.2.2 HB.out)
      have hbp : p < wr.heap.size := Nat.lt_of_lt_of_le HR.out.2.2 HB.out.size
      have hm0 : (0 : Int) ≤ (q : Int) := by omega
      have hm3 : (q : Int) < (n : Int) := by omega
      have hmul : q * 1 + 1 ≤ n * 1 := by omega
      have hqz := HD.out.own.lt
      have hfz := HD.out.own.frozen
      obtain ⟨d, hd⟩ : ∃ d, d = el 1 q es := ⟨_, rfl⟩
      have hE1 : Raw wr [.s] d ve := by rw [hd]; exact hE
      obtain ⟨a0, rfl⟩ := typT1 hE1.typ
      obtain rfl := rawT1 hE1
      have gc : wr.cell? ⟨p, o + q, none⟩ = some (.string a0) := by have := rA_get hg 0 _ rfl; simpa using this
      obtain ⟨y, hy⟩ : ∃ y, y = wr.setCell ⟨w.heap.size, q, none⟩ (.string a0) := ⟨_, rfl⟩
      have HN : Hid (Below w.heap.size w y ∧ Bld y w.heap.size 9 (n * 1) (reps (q + 1) [.s]) (G ++ []) (es.take ((q + 1) * 1)) (D ++ [.string a0])) := by
        refine ⟨by rw [hy]; exact HB.out.setCell (p := ⟨w.heap.size, q, none⟩) (Nat.le_refl _) _, ?_⟩
        rw [hy, reps_snoc, Nat.succ_mul, el_take, ← hd, List.append_nil]
        exact HD.out.put1 (by rw [reps_len]; simp) (.s a0 .nil) (by omega)
      obtain ⟨ux, eu⟩ := HD.out.own.cell q (by omega)
      clear hE hE1 hd hg HR HD
      go_upto_region 4 with fail
      rw [← hy]
      clear hy eu gc
      go_wp2
      go_roundw
      case rel => exact ⟨q + 1, _, _, by omega, by go_num, HN.out.1, HN.out.2⟩
      case measure => simp [intOf]; omega
    · obtain rfl : q = n := by omega
      have el_ : es.length = q * 1 := HT.out.rows
      rw [← el_, List.take_length, el_] at HD
      go_wp2
      go_ret
      refine ⟨_, w.heap.size :: (G ++ []), rfl, Rep.row 9 [.s] w.heap.size 0 q q 9 (q * 1) D es G HD.out.own (by show 0 + q * 1 ≤ q * 1; omega) (fun _ => ⟨rfl, rfl, rfl, rfl⟩) ⟨by show q ≤ 9223372036854775807; omega, Nat.le_refl _⟩ HD.out.at_ HD.out.rep .nil, ?_, ?_, HB.out⟩
      · rw [List.append_nil, List.nodup_cons]; exact ⟨fun e => Nat.lt_irrefl _ (HD.out.fr _ e), HD.out.nd⟩
      · intro b hb; rw [List.append_nil] at hb; rcases List.mem_cons.1 hb with rfl | hb; exact Nat.le_refl _; exact Nat.le_of_lt (HD.out.fr b hb)
set_option maxRecDepth 8000 in
set_option maxHeartbeats 8000000 in
theorem toGateObject (ds : List Dt) (cs : List Value) (w : World) (h : Raw w shGateObject ds cs) (hs : wtL ds ≤ 1048576) :
    Calls Try.prog 7 #[.agg cs.toArray] w fun e w' => ∃ cs' F, e = .returned (.agg cs'.toArray) ∧ Rep w' true shGateObject F ds cs' ∧ F.Nodup ∧ (∀ b ∈ F, w.heap.size ≤ b) ∧ Below w.heap.size w w' := by
  obtain ⟨a0, a1, a2, n3, e3, v3, a4, n5, e5, v5, a6, rfl, hcs, r3, r5⟩ := segRawGateObject h
  have R3 := uh r3
  have R5 := uh r5
  have HCS := uh hcs
  simp only [wtL] at hs
  have HS := uh hs
  obtain ⟨wa, hwa⟩ : ∃ wa, wa = ((w.alloc (.cells cs.toArray 24)).alloc (.cells #[.string { data := #[] }, .string { data := #[] }, .string { data := #[] }, .slice none 0 0, .bool false, .slice none 0 0, .int .i64 0] 31)).alloc (.cells #[.string { data := #[] }, .string { data := #[] }, .string { data := #[] }, .slice none 0 0, .bool false, .slice none 0 0, .int .i64 0] 31) := ⟨_, rfl⟩
  have HB : Hid (Below w.heap.size w wa) := by show Below _ _ _; rw [hwa]; exact blw_alloc (blw_alloc (blw_alloc (Below.refl _ _) _) _) _
  have HX : Hid (LBox wa w.heap.size cs) := by show LBox _ _ _; rw [hwa]; exact ((LBox.new w cs.toArray _ _ rfl).past _).past _
  have HRS : Hid (OwnBlk wa (w.heap.size + 1) 31 7) := by show OwnBlk _ _ _ _; rw [hwa]; exact (OwnBlk.alloc_at3 _ _ _ _ _ rfl (by simp)).past _
  have HD : Hid (Bld wa (w.heap.size + 2) 31 7 [] [] [] []) := by show Bld _ _ _ _ _ _ _ _; rw [hwa]; exact Bld.nil (OwnBlk.alloc_at3 _ _ _ _ _ rfl (by simp))
  clear hcs hs h r3 r5
  go_enter Try.func7, Try.ntmps7
  go_upto_region 2 with fail
  rw [← hwa]
  clear hwa
  have hbz := HX.out.lt
  have hqz := HD.out.own.lt
  have hfz := HD.out.own.frozen
  have hbx := boxGateObject  (by have := HX.out.at_; rw [HCS.out] at this; exact this)
  have gc := hbx.1
  clear hbx
  obtain ⟨y0, hy⟩ : ∃ y, y = wa.setCell ⟨w.heap.size + 2, 0, none⟩ (.string a0) := ⟨_, rfl⟩
  obtain ⟨ux, eu⟩ := HD.out.own.cell 0 (by omega)
  have HD2 := uh (HD.out.put1 (j := 0) rfl (.s a0 .nil) (by omega))
  rw [← hy] at HD2
  replace HX : Hid (LBox y0 w.heap.size cs) := by show LBox _ _ _; rw [hy]; exact HX.out.other_ (by omega) _ _
  replace HRS : Hid (OwnBlk y0 (w.heap.size + 1) 31 7) := by show OwnBlk _ _ _ _; rw [hy]; exact HRS.out.sc_other (by omega) _ _
  replace HB : Hid (Below w.heap.size w y0) := by show Below _ _ _; rw [hy]; exact HB.out.setCell (p := ⟨w.heap.size + 2, 0, none⟩) (by show w.heap.size ≤ w.heap.size + 2; omega) _
  obtain ⟨D0, hD⟩ : ∃ D : List Value, D = [] ++ [.string a0] := ⟨_, rfl⟩
  rw [← hD] at HD2
  clear hD HD
  go_upto_region 3 with fail
  rw [← hy]
  clear hy eu gc hbz hqz hfz
  have HD := HD2
  clear HD2
  have hbz := HX.out.lt
  have hqz := HD.out.own.lt
  have hfz := HD.out.own.frozen
  have hbx := boxGateObject  (by have := HX.out.at_; rw [HCS.out] at this; exact this)
  have gc := hbx.2.1
  clear hbx
  obtain ⟨y1, hy⟩ : ∃ y, y = y0.setCell ⟨w.heap.size + 2, 1, none⟩ (.string a1) := ⟨_, rfl⟩
  obtain ⟨ux, eu⟩ := HD.out.own.cell 1 (by omega)
  have HD2 := uh (HD.out.put1 (j := 1) rfl (.s a1 .nil) (by omega))
  rw [← hy] at HD2
  replace HX : Hid (LBox y1 w.heap.size cs) := by show LBox _ _ _; rw [hy]; exact HX.out.other_ (by omega) _ _
  replace HRS : Hid (OwnBlk y1 (w.heap.size + 1) 31 7) := by show OwnBlk _ _ _ _; rw [hy]; exact HRS.out.sc_other (by omega) _ _
  replace HB : Hid (Below w.heap.size w y1) := by show Below _ _ _; rw [hy]; exact HB.out.setCell (p := ⟨w.heap.size + 2, 1, none⟩) (by show w.heap.size ≤ w.heap.size + 2; omega) _
  obtain ⟨D1, hD⟩ : ∃ D : List Value, D = D0 ++ [.string a1] := ⟨_, rfl⟩
  rw [← hD] at HD2
  clear hD HD
  go_upto_region 4 with fail
  rw [← hy]
  clear hy eu gc hbz hqz hfz
  have HD := HD2
  clear HD2
  have hbz := HX.out.lt
  have hqz := HD.out.own.lt
  have hfz := HD.out.own.frozen
  have hbx := boxGateObject  (by have := HX.out.at_; rw [HCS.out] at this; exact this)
  have gc := hbx.2.2.1
  clear hbx
  obtain ⟨y2, hy⟩ : ∃ y, y = y1.setCell ⟨w.heap.size + 2, 2, none⟩ (.string a2) := ⟨_, rfl⟩
  obtain ⟨ux, eu⟩ := HD.out.own.cell 2 (by omega)
  have HD2 := uh (HD.out.put1 (j := 2) rfl (.s a2 .nil) (by omega))
  rw [← hy] at HD2
  replace HX : Hid (LBox y2 w.heap.size cs) := by show LBox _ _ _; rw [hy]; exact HX.out.other_ (by omega) _ _
  replace HRS : Hid (OwnBlk y2 (w.heap.size + 1) 31 7) := by show OwnBlk _ _ _ _; rw [hy]; exact HRS.out.sc_other (by omega) _ _
  replace HB : Hid (Below w.heap.size w y2) := by show Below _ _ _; rw [hy]; exact HB.out.setCell (p := ⟨w.heap.size + 2, 2, none⟩) (by show w.heap.size ≤ w.heap.size + 2; omega) _
  obtain ⟨D2, hD⟩ : ∃ D : List Value, D = D1 ++ [.string a2] := ⟨_, rfl⟩
  rw [← hD] at HD2
  clear hD HD
  go_upto_region 5 with fail
  rw [← hy]
  clear hy eu gc hbz hqz hfz
  have HD := HD2
  clear HD2
  have hbz := HX.out.lt
  have hqz := HD.out.own.lt
  have hfz := HD.out.own.frozen
  have hbx := boxGateObject  (by have := HX.out.at_; rw [HCS.out] at this; exact this)
  have gc := hbx.2.2.2.1
  clear hbx
  obtain ⟨va3, vc3, hva⟩ := R3.out.len0
  subst hva
  go_wp2_with fail
  refine (toStringS n3 e3 (.slice va3 n3 vc3) y2 (R3.out.later HB.out) (by have := HS.out; omega)).mono ?_
  rintro e x3 ⟨w3, F3, rfl, rep, nd, fr, hb⟩
  obtain ⟨wa3, wc3, hva⟩ := rep.raw.len0
  subst hva
  obtain ⟨y3, hy⟩ : ∃ y, y = x3.setCell ⟨w.heap.size + 2, 3, none⟩ (.slice wa3 n3 wc3) := ⟨_, rfl⟩
  replace HB := uh (blw_trans HB.out hb)
  replace HX := uh (HX.out.later hb)
  replace HRS := uh (HRS.out.later hb)
  have HD2 := uh ((HD.out.later hb).put (j := 3) rfl rep nd fr (fun b hb => HD.out.rep.lt b hb) HD.out.own.lt (by decide))
  have hy2 : x3.setCells (w.heap.size + 2) 3 [.slice wa3 n3 wc3] = y3 := hy.symm
  rw [hy2] at HD2
  have HD3 := HD2
  clear HD2 hy2
  have hqz := (HD.out.later hb).own.lt
  have hfz := (HD.out.later hb).own.frozen
  obtain ⟨ux, eu⟩ := (HD.out.later hb).own.cell 3 (by omega)
  replace HX : Hid (LBox y3 w.heap.size cs) := by show LBox _ _ _; rw [hy]; exact HX.out.other_ (by omega) _ _
  replace HRS : Hid (OwnBlk y3 (w.heap.size + 1) 31 7) := by show OwnBlk _ _ _ _; rw [hy]; exact HRS.out.sc_other (by omega) _ _
  replace HB : Hid (Below w.heap.size w y3) := by show Below _ _ _; rw [hy]; exact HB.out.setCell (p := ⟨w.heap.size + 2, 3, none⟩) (by show w.heap.size ≤ w.heap.size + 2; omega) _
  obtain ⟨D3, hD⟩ : ∃ D : List Value, D = D2 ++ [.slice wa3 n3 wc3] := ⟨_, rfl⟩
  rw [← hD] at HD3
  clear hD HD rep nd fr
  go_upto_region 6 with fail
  rw [← hy]
  clear hy gc hbz hqz hfz hb eu
  have HD := HD3
  clear HD3
  have hbz := HX.out.lt
  have hqz := HD.out.own.lt
  have hfz := HD.out.own.frozen
  have hbx := boxGateObject  (by have := HX.out.at_; rw [HCS.out] at this; exact this)
  have gc := hbx.2.2.2.2.1
  clear hbx
  obtain ⟨y4, hy⟩ : ∃ y, y = y3.setCell ⟨w.heap.size + 2, 4, none⟩ (.bool a4) := ⟨_, rfl⟩
  obtain ⟨ux, eu⟩ := HD.out.own.cell 4 (by omega)
  have HD2 := uh (HD.out.put1 (j := 4) rfl (.b a4 .nil) (by omega))
  rw [← hy] at HD2
  replace HX : Hid (LBox y4 w.heap.size cs) := by show LBox _ _ _; rw [hy]; exact HX.out.other_ (by omega) _ _
  replace HRS : Hid (OwnBlk y4 (w.heap.size + 1) 31 7) := by show OwnBlk _ _ _ _; rw [hy]; exact HRS.out.sc_other (by omega) _ _
  replace HB : Hid (Below w.heap.size w y4) := by show Below _ _ _; rw [hy]; exact HB.out.setCell (p := ⟨w.heap.size + 2, 4, none⟩) (by show w.heap.size ≤ w.heap.size + 2; omega) _
  obtain ⟨D4, hD⟩ : ∃ D : List Value, D = D3 ++ [.bool a4] := ⟨_, rfl⟩
  rw [← hD] at HD2
  clear hD HD
  go_upto_region 7 with fail
  rw [← hy]
  clear hy eu gc hbz hqz hfz
  have HD := HD2
  clear HD2
  have hbz := HX.out.lt
  have hqz := HD.out.own.lt
  have hfz := HD.out.own.frozen
  have hbx := boxGateObject  (by have := HX.out.at_; rw [HCS.out] at this; exact this)
  have gc := hbx.2.2.2.2.2.1
  clear hbx
  obtain ⟨va5, vc5, hva⟩ := R5.out.len0
  subst hva
  go_wp2_with fail
  refine (toStringS n5 e5 (.slice va5 n5 vc5) y4 (R5.out.later HB.out) (by have := HS.out; omega)).mono ?_
  rintro e x5 ⟨w5, F5, rfl, rep, nd, fr, hb⟩
  obtain ⟨wa5, wc5, hva⟩ := rep.raw.len0
  subst hva
  obtain ⟨y5, hy⟩ : ∃ y, y = x5.setCell ⟨w.heap.size + 2, 5, none⟩ (.slice wa5 n5 wc5) := ⟨_, rfl⟩
  replace HB := uh (blw_trans HB.out hb)
  replace HX := uh (HX.out.later hb)
  replace HRS := uh (HRS.out.later hb)
  have HD2 := uh ((HD.out.later hb).put (j := 5) rfl rep nd fr (fun b hb => HD.out.rep.lt b hb) HD.out.own.lt (by decide))
  have hy2 : x5.setCells (w.heap.size + 2) 5 [.slice wa5 n5 wc5] = y5 := hy.symm
  rw [hy2] at HD2
  have HD3 := HD2
  clear HD2 hy2
  have hqz := (HD.out.later hb).own.lt
  have hfz := (HD.out.later hb).own.frozen
  obtain ⟨ux, eu⟩ := (HD.out.later hb).own.cell 5 (by omega)
  replace HX : Hid (LBox y5 w.heap.size cs) := by show LBox _ _ _; rw [hy]; exact HX.out.other_ (by omega) _ _
  replace HRS : Hid (OwnBlk y5 (w.heap.size + 1) 31 7) := by show OwnBlk _ _ _ _; rw [hy]; exact HRS.out.sc_other (by omega) _ _
  replace HB : Hid (Below w.heap.size w y5) := by show Below _ _ _; rw [hy]; exact HB.out.setCell (p := ⟨w.heap.size + 2, 5, none⟩) (by show w.heap.size ≤ w.heap.size + 2; omega) _
  obtain ⟨D5, hD⟩ : ∃ D : List Value, D = D4 ++ [.slice wa5 n5 wc5] := ⟨_, rfl⟩
  rw [← hD] at HD3
  clear hD HD rep nd fr
  go_upto_region 8 with fail
  rw [← hy]
  clear hy gc hbz hqz hfz hb eu
  have HD := HD3
  clear HD3
  have hbz := HX.out.lt
  have hqz := HD.out.own.lt
  have hfz := HD.out.own.frozen
  have hbx := boxGateObject  (by have := HX.out.at_; rw [HCS.out] at this; exact this)
  have gc := hbx.2.2.2.2.2.2
  clear hbx
  obtain ⟨y6, hy⟩ : ∃ y, y = y5.setCell ⟨w.heap.size + 2, 6, none⟩ (.int .i64 a6) := ⟨_, rfl⟩
  obtain ⟨ux, eu⟩ := HD.out.own.cell 6 (by omega)
  have HD2 := uh (HD.out.put1 (j := 6) rfl (.i a6 .nil) (by omega))
  rw [← hy] at HD2
  replace HX : Hid (LBox y6 w.heap.size cs) := by show LBox _ _ _; rw [hy]; exact HX.out.other_ (by omega) _ _
  replace HRS : Hid (OwnBlk y6 (w.heap.size + 1) 31 7) := by show OwnBlk _ _ _ _; rw [hy]; exact HRS.out.sc_other (by omega) _ _
  replace HB : Hid (Below w.heap.size w y6) := by show Below _ _ _; rw [hy]; exact HB.out.setCell (p := ⟨w.heap.size + 2, 6, none⟩) (by show w.heap.size ≤ w.heap.size + 2; omega) _
  obtain ⟨D6, hD⟩ : ∃ D : List Value, D = D5 ++ [.int .i64 a6] := ⟨_, rfl⟩
  rw [← hD] at HD2
  clear hD HD
  go_upto_region 9 with fail
  rw [← hy]
  clear hy eu gc hbz hqz hfz
  have HD := HD2
  clear HD2
  have hlD : D6.length = 7 := HD.out.len
  have hth : y6.there (w.heap.size + 1) 0 D6.toArray.size := uthere HRS.out _ _ (by rw [List.size_toArray, hlD]; omega)
  have hone := all_oneCell_toArray HD.out.rep.raw.one
  have hsz : (Try.prog.info? 31).map (·.size) = some D6.toArray.size := by rw [List.size_toArray, hlD]; kernel_rfl
  obtain ⟨we, hwe⟩ : ∃ we, we = y6.setCells (w.heap.size + 1) 0 D6 := ⟨_, rfl⟩
  have hrt : we.rangeAt (w.heap.size + 1) 0 D6 := by rw [hwe]; exact World.rangeAt_setCells_same _ _ _ _ (by simpa using hth)
  have HBE : Hid (Below w.heap.size w we) := by show Below _ _ _; rw [hwe]; exact blw_scs (by omega) _ _ _ HB.out
  have HRE := uh (HD.out.rep.keep (w' := we) (S := fun b => b = w.heap.size + 1) (by rw [hwe]; exact mks_scs (S := fun b => b = w.heap.size + 1) rfl _ _ _) (fun b hb e => by have := HD.out.fr b hb; omega))
  refine wp_region_lit ?_
  refine wpList_load_mid rfl 31 _ rfl (w.heap.size + 2) 0 rfl D6 _ HD.out.at_ Try.underlying31 rfl (by rw [hlD]; kernel_rfl) ?_
  refine wpList_store_mid rfl 31 _ _ rfl (w.heap.size + 1) 0 D6.toArray rfl rfl hth hsz hone ?_
  simp only [Act.put, List.setIfInBounds_toArray, List.set_cons_zero, List.set_cons_succ]
  rw [← hwe]
  clear hwe hth hone hsz
  go_wp2
  refine bodyPost_ret (v := .agg D6.toArray) (by simp [results, Try.results7, asAddr, run_loadVar_mid (P := Try.prog) _ _ _ 31 D6 _ hrt Try.underlying31 rfl (by rw [hlD]; kernel_rfl)]) rfl ⟨D6, _, rfl, ?_, HD.out.nd, fun b hb => by have := HD.out.fr b hb; omega, HBE.out⟩
  exact HRE.out
set_option maxRecDepth 8000 in
set_option maxHeartbeats 8000000 in
theorem toStewService (ds : List Dt) (cs : List Value) (w : World) (h : Raw w shStewService ds cs) (hs : wtL ds ≤ 1048576) :
    Calls Try.prog 8 #[.agg cs.toArray] w fun e w' => ∃ cs' F, e = .returned (.agg cs'.toArray) ∧ Rep w' true shStewService F ds cs' ∧ F.Nodup ∧ (∀ b ∈ F, w.heap.size ≤ b) ∧ Below w.heap.size w w' := by
  obtain ⟨a0, a1, a2, a3, a4, a5, a6, a7, a8, a9, a10, a11, a12, rfl, hcs⟩ := segRawStewService h
  have HCS := uh hcs
  simp only [wtL] at hs
  have HS := uh hs
  obtain ⟨wa, hwa⟩ : ∃ wa, wa = ((w.alloc (.cells cs.toArray 26)).alloc (.cells #[.string { data := #[] }, .int .i64 0, .bool false, .int .i64 0, .int .i64 0, .int .i64 0, .int .i64 0, .int .i64 0, .int .i64 0, .int .i64 0, .int .i64 0, .int .i64 0, .int .i64 0] 29)).alloc (.cells #[.string { data := #[] }, .int .i64 0, .bool false, .int .i64 0, .int .i64 0, .int .i64 0, .int .i64 0, .int .i64 0, .int .i64 0, .int .i64 0, .int .i64 0, .int .i64 0, .int .i64 0] 29) := ⟨_, rfl⟩
  have HB : Hid (Below w.heap.size w wa) := by show Below _ _ _; rw [hwa]; exact blw_alloc (blw_alloc (blw_alloc (Below.refl _ _) _) _) _
  have HX : Hid (LBox wa w.heap.size cs) := by show LBox _ _ _; rw [hwa]; exact ((LBox.new w cs.toArray _ _ rfl).past _).past _
  have HRS : Hid (OwnBlk wa (w.heap.size + 1) 29 13) := by show OwnBlk _ _ _ _; rw [hwa]; exact (OwnBlk.alloc_at3 _ _ _ _ _ rfl (by simp)).past _
  have HD : Hid (Bld wa (w.heap.size + 2) 29 13 [] [] [] []) := by show Bld _ _ _ _ _ _ _ _; rw [hwa]; exact Bld.nil (OwnBlk.alloc_at3 _ _ _ _ _ rfl (by simp))
  clear hcs hs h
  go_enter Try.func8, Try.ntmps8
  go_upto_region 2 with fail
  rw [← hwa]
  clear hwa
  have hbz := HX.out.lt
  have hqz := HD.out.own.lt
  have hfz := HD.out.own.frozen
  have hbx := boxStewService  (by have := HX.out.at_; rw [HCS.out] at this; exact this)
  have gc := hbx.1
  clear hbx
  obtain ⟨y0, hy⟩ : ∃ y, y = wa.setCell ⟨w.heap.size + 2, 0, none⟩ (.string a0) := ⟨_, rfl⟩
  obtain ⟨ux, eu⟩ := HD.out.own.cell 0 (by omega)
  have HD2 := uh (HD.out.put1 (j := 0) rfl (.s a0 .nil) (by omega))
  rw [← hy] at HD2
  replace HX : Hid (LBox y0 w.heap.size cs) := by show LBox _ _ _; rw [hy]; exact HX.out.other_ (by omega) _ _
  replace HRS : Hid (OwnBlk y0 (w.heap.size + 1) 29 13) := by show OwnBlk _ _ _ _; rw [hy]; exact HRS.out.sc_other (by omega) _ _
  replace HB : Hid (Below w.heap.size w y0) := by show Below _ _ _; rw [hy]; exact HB.out.setCell (p := ⟨w.heap.size + 2, 0, none⟩) (by show w.heap.size ≤ w.heap.size + 2; omega) _
  obtain ⟨D0, hD⟩ : ∃ D : List Value, D = [] ++ [.string a0] := ⟨_, rfl⟩
  rw [← hD] at HD2
  clear hD HD
  go_upto_region 3 with fail
  rw [← hy]
  clear hy eu gc hbz hqz hfz
  have HD := HD2
  clear HD2
  have hbz := HX.out.lt
  have hqz := HD.out.own.lt
  have hfz := HD.out.own.frozen
  have hbx := boxStewService  (by have := HX.out.at_; rw [HCS.out] at this; exact this)
  have gc := hbx.2.1
  clear hbx
  obtain ⟨y1, hy⟩ : ∃ y, y = y0.setCell ⟨w.heap.size + 2, 1, none⟩ (.int .i64 a1) := ⟨_, rfl⟩
  obtain ⟨ux, eu⟩ := HD.out.own.cell 1 (by omega)
  have HD2 := uh (HD.out.put1 (j := 1) rfl (.i a1 .nil) (by omega))
  rw [← hy] at HD2
  replace HX : Hid (LBox y1 w.heap.size cs) := by show LBox _ _ _; rw [hy]; exact HX.out.other_ (by omega) _ _
  replace HRS : Hid (OwnBlk y1 (w.heap.size + 1) 29 13) := by show OwnBlk _ _ _ _; rw [hy]; exact HRS.out.sc_other (by omega) _ _
  replace HB : Hid (Below w.heap.size w y1) := by show Below _ _ _; rw [hy]; exact HB.out.setCell (p := ⟨w.heap.size + 2, 1, none⟩) (by show w.heap.size ≤ w.heap.size + 2; omega) _
  obtain ⟨D1, hD⟩ : ∃ D : List Value, D = D0 ++ [.int .i64 a1] := ⟨_, rfl⟩
  rw [← hD] at HD2
  clear hD HD
  go_upto_region 4 with fail
  rw [← hy]
  clear hy eu gc hbz hqz hfz
  have HD := HD2
  clear HD2
  have hbz := HX.out.lt
  have hqz := HD.out.own.lt
  have hfz := HD.out.own.frozen
  have hbx := boxStewService  (by have := HX.out.at_; rw [HCS.out] at this; exact this)
  have gc := hbx.2.2.1
  clear hbx
  obtain ⟨y2, hy⟩ : ∃ y, y = y1.setCell ⟨w.heap.size + 2, 2, none⟩ (.bool a2) := ⟨_, rfl⟩
  obtain ⟨ux, eu⟩ := HD.out.own.cell 2 (by omega)
  have HD2 := uh (HD.out.put1 (j := 2) rfl (.b a2 .nil) (by omega))
  rw [← hy] at HD2
  replace HX : Hid (LBox y2 w.heap.size cs) := by show LBox _ _ _; rw [hy]; exact HX.out.other_ (by omega) _ _
  replace HRS : Hid (OwnBlk y2 (w.heap.size + 1) 29 13) := by show OwnBlk _ _ _ _; rw [hy]; exact HRS.out.sc_other (by omega) _ _
  replace HB : Hid (Below w.heap.size w y2) := by show Below _ _ _; rw [hy]; exact HB.out.setCell (p := ⟨w.heap.size + 2, 2, none⟩) (by show w.heap.size ≤ w.heap.size + 2; omega) _
  obtain ⟨D2, hD⟩ : ∃ D : List Value, D = D1 ++ [.bool a2] := ⟨_, rfl⟩
  rw [← hD] at HD2
  clear hD HD
  go_upto_region 5 with fail
  rw [← hy]
  clear hy eu gc hbz hqz hfz
  have HD := HD2
  clear HD2
  have hbz := HX.out.lt
  have hqz := HD.out.own.lt
  have hfz := HD.out.own.frozen
  have hbx := boxStewService  (by have := HX.out.at_; rw [HCS.out] at this; exact this)
  have gc := hbx.2.2.2.1
  clear hbx
  obtain ⟨y3, hy⟩ : ∃ y, y = y2.setCell ⟨w.heap.size + 2, 3, none⟩ (.int .i64 a3) := ⟨_, rfl⟩
  obtain ⟨ux, eu⟩ := HD.out.own.cell 3 (by omega)
  have HD2 := uh (HD.out.put1 (j := 3) rfl (.i a3 .nil) (by omega))
  rw [← hy] at HD2
  replace HX : Hid (LBox y3 w.heap.size cs) := by show LBox _ _ _; rw [hy]; exact HX.out.other_ (by omega) _ _
  replace HRS : Hid (OwnBlk y3 (w.heap.size + 1) 29 13) := by show OwnBlk _ _ _ _; rw [hy]; exact HRS.out.sc_other (by omega) _ _
  replace HB : Hid (Below w.heap.size w y3) := by show Below _ _ _; rw [hy]; exact HB.out.setCell (p := ⟨w.heap.size + 2, 3, none⟩) (by show w.heap.size ≤ w.heap.size + 2; omega) _
  obtain ⟨D3, hD⟩ : ∃ D : List Value, D = D2 ++ [.int .i64 a3] := ⟨_, rfl⟩
  rw [← hD] at HD2
  clear hD HD
  go_upto_region 6 with fail
  rw [← hy]
  clear hy eu gc hbz hqz hfz
  have HD := HD2
  clear HD2
  have hbz := HX.out.lt
  have hqz := HD.out.own.lt
  have hfz := HD.out.own.frozen
  have hbx := boxStewService  (by have := HX.out.at_; rw [HCS.out] at this; exact this)
  have gc := hbx.2.2.2.2.1
  clear hbx
  obtain ⟨y4, hy⟩ : ∃ y, y = y3.setCell ⟨w.heap.size + 2, 4, none⟩ (.int .i64 a4) := ⟨_, rfl⟩
  obtain ⟨ux, eu⟩ := HD.out.own.cell 4 (by omega)
  have HD2 := uh (HD.out.put1 (j := 4) rfl (.i a4 .nil) (by omega))
  rw [← hy] at HD2
  replace HX : Hid (LBox y4 w.heap.size cs) := by show LBox _ _ _; rw [hy]; exact HX.out.other_ (by omega) _ _
  replace HRS : Hid (OwnBlk y4 (w.heap.size + 1) 29 13) := by show OwnBlk _ _ _ _; rw [hy]; exact HRS.out.sc_other (by omega) _ _
  replace HB : Hid (Below w.heap.size w y4) := by show Below _ _ _; rw [hy]; exact HB.out.setCell (p := ⟨w.heap.size + 2, 4, none⟩) (by show w.heap.size ≤ w.heap.size + 2; omega) _
  obtain ⟨D4, hD⟩ : ∃ D : List Value, D = D3 ++ [.int .i64 a4] := ⟨_, rfl⟩
  rw [← hD] at HD2
  clear hD HD
  go_upto_region 7 with fail
  rw [← hy]
  clear hy eu gc hbz hqz hfz
  have HD := HD2
  clear HD2
  have hbz := HX.out.lt
  have hqz := HD.out.own.lt
  have hfz := HD.out.own.frozen
  have hbx := boxStewService  (by have := HX.out.at_; rw [HCS.out] at this; exact this)
  have gc := hbx.2.2.2.2.2.1
  clear hbx
  obtain ⟨y5, hy⟩ : ∃ y, y = y4.setCell ⟨w.heap.size + 2, 5, none⟩ (.int .i64 a5) := ⟨_, rfl⟩
  obtain ⟨ux, eu⟩ := HD.out.own.cell 5 (by omega)
  have HD2 := uh (HD.out.put1 (j := 5) rfl (.i a5 .nil) (by omega))
  rw [← hy] at HD2
  replace HX : Hid (LBox y5 w.heap.size cs) := by show LBox _ _ _; rw [hy]; exact HX.out.other_ (by omega) _ _
  replace HRS : Hid (OwnBlk y5 (w.heap.size + 1) 29 13) := by show OwnBlk _ _ _ _; rw [hy]; exact HRS.out.sc_other (by omega) _ _
  replace HB : Hid (Below w.heap.size w y5) := by show Below _ _ _; rw [hy]; exact HB.out.setCell (p := ⟨w.heap.size + 2, 5, none⟩) (by show w.heap.size ≤ w.heap.size + 2; omega) _
  obtain ⟨D5, hD⟩ : ∃ D : List Value, D = D4 ++ [.int .i64 a5] := ⟨_, rfl⟩
  rw [← hD] at HD2
  clear hD HD
  go_upto_region 8 with fail
  rw [← hy]
  clear hy eu gc hbz hqz hfz
  have HD := HD2
  clear HD2
  have hbz := HX.out.lt
  have hqz := HD.out.own.lt
  have hfz := HD.out.own.frozen
  have hbx := boxStewService  (by have := HX.out.at_; rw [HCS.out] at this; exact this)
  have gc := hbx.2.2.2.2.2.2.1
  clear hbx
  obtain ⟨y6, hy⟩ : ∃ y, y = y5.setCell ⟨w.heap.size + 2, 6, none⟩ (.int .i64 a6) := ⟨_, rfl⟩
  obtain ⟨ux, eu⟩ := HD.out.own.cell 6 (by omega)
  have HD2 := uh (HD.out.put1 (j := 6) rfl (.i a6 .nil) (by omega))
  rw [← hy] at HD2
  replace HX : Hid (LBox y6 w.heap.size cs) := by show LBox _ _ _; rw [hy]; exact HX.out.other_ (by omega) _ _
  replace HRS : Hid (OwnBlk y6 (w.heap.size + 1) 29 13) := by show OwnBlk _ _ _ _; rw [hy]; exact HRS.out.sc_other (by omega) _ _
  replace HB : Hid (Below w.heap.size w y6) := by show Below _ _ _; rw [hy]; exact HB.out.setCell (p := ⟨w.heap.size + 2, 6, none⟩) (by show w.heap.size ≤ w.heap.size + 2; omega) _
  obtain ⟨D6, hD⟩ : ∃ D : List Value, D = D5 ++ [.int .i64 a6] := ⟨_, rfl⟩
  rw [← hD] at HD2
  clear hD HD
  go_upto_region 9 with fail
  rw [← hy]
  clear hy eu gc hbz hqz hfz
  have HD := HD2
  clear HD2
  have hbz := HX.out.lt
  have hqz := HD.out.own.lt
  have hfz := HD.out.own.frozen
  have hbx := boxStewService  (by have := HX.out.at_; rw [HCS.out] at this; exact this)
  have gc := hbx.2.2.2.2.2.2.2.1
  clear hbx
  obtain ⟨y7, hy⟩ : ∃ y, y = y6.setCell ⟨w.heap.size + 2, 7, none⟩ (.int .i64 a7) := ⟨_, rfl⟩
  obtain ⟨ux, eu⟩ := HD.out.own.cell 7 (by omega)
  have HD2 := uh (HD.out.put1 (j := 7) rfl (.i a7 .nil) (by omega))
  rw [← hy] at HD2
  replace HX : Hid (LBox y7 w.heap.size cs) := by show LBox _ _ _; rw [hy]; exact HX.out.other_ (by omega) _ _
  replace HRS : Hid (OwnBlk y7 (w.heap.size + 1) 29 13) := by show OwnBlk _ _ _ _; rw [hy]; exact HRS.out.sc_other (by omega) _ _
  replace HB : Hid (Below w.heap.size w y7) := by show Below _ _ _; rw [hy]; exact HB.out.setCell (p := ⟨w.heap.size + 2, 7, none⟩) (by show w.heap.size ≤ w.heap.size + 2; omega) _
  obtain ⟨D7, hD⟩ : ∃ D : List Value, D = D6 ++ [.int .i64 a7] := ⟨_, rfl⟩
  rw [← hD] at HD2
  clear hD HD
  go_upto_region 10 with fail
  rw [← hy]
  clear hy eu gc hbz hqz hfz
  have HD := HD2
  clear HD2
  have hbz := HX.out.lt
  have hqz := HD.out.own.lt
  have hfz := HD.out.own.frozen
  have hbx := boxStewService  (by have := HX.out.at_; rw [HCS.out] at this; exact this)
  have gc := hbx.2.2.2.2.2.2.2.2.1
  clear hbx
  obtain ⟨y8, hy⟩ : ∃ y, y = y7.setCell ⟨w.heap.size + 2, 8, none⟩ (.int .i64 a8) := ⟨_, rfl⟩
  obtain ⟨ux, eu⟩ := HD.out.own.cell 8 (by omega)
  have HD2 := uh (HD.out.put1 (j := 8) rfl (.i a8 .nil) (by omega))
  rw [← hy] at HD2
  replace HX : Hid (LBox y8 w.heap.size cs) := by show LBox _ _ _; rw [hy]; exact HX.out.other_ (by omega) _ _
  replace HRS : Hid (OwnBlk y8 (w.heap.size + 1) 29 13) := by show OwnBlk _ _ _ _; rw [hy]; exact HRS.out.sc_other (by omega) _ _
  replace HB : Hid (Below w.heap.size w y8) := by show Below _ _ _; rw [hy]; exact HB.out.setCell (p := ⟨w.heap.size + 2, 8, none⟩) (by show w.heap.size ≤ w.heap.size + 2; omega) _
  obtain ⟨D8, hD⟩ : ∃ D : List Value, D = D7 ++ [.int .i64 a8] := ⟨_, rfl⟩
  rw [← hD] at HD2
  clear hD HD
  go_upto_region 11 with fail
  rw [← hy]
  clear hy eu gc hbz hqz hfz
  have HD := HD2
  clear HD2
  have hbz := HX.out.lt
  have hqz := HD.out.own.lt
  have hfz := HD.out.own.frozen
  have hbx := boxStewService  (by have := HX.out.at_; rw [HCS.out] at this; exact this)
  have gc := hbx.2.2.2.2.2.2.2.2.2.1
  clear hbx
  obtain ⟨y9, hy⟩ : ∃ y, y = y8.setCell ⟨w.heap.size + 2, 9, none⟩ (.int .i64 a9) := ⟨_, rfl⟩
  obtain ⟨ux, eu⟩ := HD.out.own.cell 9 (by omega)
  have HD2 := uh (HD.out.put1 (j := 9) rfl (.i a9 .nil) (by omega))
  rw [← hy] at HD2
  replace HX : Hid (LBox y9 w.heap.size cs) := by show LBox _ _ _; rw [hy]; exact HX.out.other_ (by omega) _ _
  replace HRS : Hid (OwnBlk y9 (w.heap.size + 1) 29 13) := by show OwnBlk _ _ _ _; rw [hy]; exact HRS.out.sc_other (by omega) _ _
  replace HB : Hid (Below w.heap.size w y9) := by show Below _ _ _; rw [hy]; exact HB.out.setCell (p := ⟨w.heap.size + 2, 9, none⟩) (by show w.heap.size ≤ w.heap.size + 2; omega) _
  obtain ⟨D9, hD⟩ : ∃ D : List Value, D = D8 ++ [.int .i64 a9] := ⟨_, rfl⟩
  rw [← hD] at HD2
  clear hD HD
  go_upto_region 12 with fail
  rw [← hy]
  clear hy eu gc hbz hqz hfz
  have HD := HD2
  clear HD2
  have hbz := HX.out.lt
  have hqz := HD.out.own.lt
  have hfz := HD.out.own.frozen
  have hbx := boxStewService  (by have := HX.out.at_; rw [HCS.out] at this; exact this)
  have gc := hbx.2.2.2.2.2.2.2.2.2.2.1
  clear hbx
  obtain ⟨y10, hy⟩ : ∃ y, y = y9.setCell ⟨w.heap.size + 2, 10, none⟩ (.int .i64 a10) := ⟨_, rfl⟩
  obtain ⟨ux, eu⟩ := HD.out.own.cell 10 (by omega)
  have HD2 := uh (HD.out.put1 (j := 10) rfl (.i a10 .nil) (by omega))
  rw [← hy] at HD2
  replace HX : Hid (LBox y10 w.heap.size cs) := by show LBox _ _ _; rw [hy]; exact HX.out.other_ (by omega) _ _
  replace HRS : Hid (OwnBlk y10 (w.heap.size + 1) 29 13) := by show OwnBlk _ _ _ _; rw [hy]; exact HRS.out.sc_other (by omega) _ _
  replace HB : Hid (Below w.heap.size w y10) := by show Below _ _ _; rw [hy]; exact HB.out.setCell (p := ⟨w.heap.size + 2, 10, none⟩) (by show w.heap.size ≤ w.heap.size + 2; omega) _
  obtain ⟨D10, hD⟩ : ∃ D : List Value, D = D9 ++ [.int .i64 a10] := ⟨_, rfl⟩
  rw [← hD] at HD2
  clear hD HD
  go_upto_region 13 with fail
  rw [← hy]
  clear hy eu gc hbz hqz hfz
  have HD := HD2
  clear HD2
  have hbz := HX.out.lt
  have hqz := HD.out.own.lt
  have hfz := HD.out.own.frozen
  have hbx := boxStewService  (by have := HX.out.at_; rw [HCS.out] at this; exact this)
  have gc := hbx.2.2.2.2.2.2.2.2.2.2.2.1
  clear hbx
  obtain ⟨y11, hy⟩ : ∃ y, y = y10.setCell ⟨w.heap.size + 2, 11, none⟩ (.int .i64 a11) := ⟨_, rfl⟩
  obtain ⟨ux, eu⟩ := HD.out.own.cell 11 (by omega)
  have HD2 := uh (HD.out.put1 (j := 11) rfl (.i a11 .nil) (by omega))
  rw [← hy] at HD2
  replace HX : Hid (LBox y11 w.heap.size cs) := by show LBox _ _ _; rw [hy]; exact HX.out.other_ (by omega) _ _
  replace HRS : Hid (OwnBlk y11 (w.heap.size + 1) 29 13) := by show OwnBlk _ _ _ _; rw [hy]; exact HRS.out.sc_other (by omega) _ _
  replace HB : Hid (Below w.heap.size w y11) := by show Below _ _ _; rw [hy]; exact HB.out.setCell (p := ⟨w.heap.size + 2, 11, none⟩) (by show w.heap.size ≤ w.heap.size + 2; omega) _
  obtain ⟨D11, hD⟩ : ∃ D : List Value, D = D10 ++ [.int .i64 a11] := ⟨_, rfl⟩
  rw [← hD] at HD2
  clear hD HD
  go_upto_region 14 with fail
  rw [← hy]
  clear hy eu gc hbz hqz hfz
  have HD := HD2
  clear HD2
  have hbz := HX.out.lt
  have hqz := HD.out.own.lt
  have hfz := HD.out.own.frozen
  have hbx := boxStewService  (by have := HX.out.at_; rw [HCS.out] at this; exact this)
  have gc := hbx.2.2.2.2.2.2.2.2.2.2.2.2
  clear hbx
  obtain ⟨y12, hy⟩ : ∃ y, y = y11.setCell ⟨w.heap.size + 2, 12, none⟩ (.int .i64 a12) := ⟨_, rfl⟩
  obtain ⟨ux, eu⟩ := HD.out.own.cell 12 (by omega)
  have HD2 := uh (HD.out.put1 (j := 12) rfl (.i a12 .nil) (by omega))
  rw [← hy] at HD2
  replace HX : Hid (LBox y12 w.heap.size cs) := by show LBox _ _ _; rw [hy]; exact HX.out.other_ (by omega) _ _
  replace HRS : Hid (OwnBlk y12 (w.heap.size + 1) 29 13) := by show OwnBlk _ _ _ _; rw [hy]; exact HRS.out.sc_other (by omega) _ _
  replace HB : Hid (Below w.heap.size w y12) := by show Below _ _ _; rw [hy]; exact HB.out.setCell (p := ⟨w.heap.size + 2, 12, none⟩) (by show w.heap.size ≤ w.heap.size + 2; omega) _
  obtain ⟨D12, hD⟩ : ∃ D : List Value, D = D11 ++ [.int .i64 a12] := ⟨_, rfl⟩
  rw [← hD] at HD2
  clear hD HD
  go_upto_region 15 with fail
  rw [← hy]
  clear hy eu gc hbz hqz hfz
  have HD := HD2
  clear HD2
  have hlD : D12.length = 13 := HD.out.len
  have hth : y12.there (w.heap.size + 1) 0 D12.toArray.size := uthere HRS.out _ _ (by rw [List.size_toArray, hlD]; omega)
  have hone := all_oneCell_toArray HD.out.rep.raw.one
  have hsz : (Try.prog.info? 29).map (·.size) = some D12.toArray.size := by rw [List.size_toArray, hlD]; kernel_rfl
  obtain ⟨we, hwe⟩ : ∃ we, we = y12.setCells (w.heap.size + 1) 0 D12 := ⟨_, rfl⟩
  have hrt : we.rangeAt (w.heap.size + 1) 0 D12 := by rw [hwe]; exact World.rangeAt_setCells_same _ _ _ _ (by simpa using hth)
  have HBE : Hid (Below w.heap.size w we) := by show Below _ _ _; rw [hwe]; exact blw_scs (by omega) _ _ _ HB.out
  have HRE := uh (HD.out.rep.keep (w' := we) (S := fun b => b = w.heap.size + 1) (by rw [hwe]; exact mks_scs (S := fun b => b = w.heap.size + 1) rfl _ _ _) (fun b hb e => by have := HD.out.fr b hb; omega))
  refine wp_region_lit ?_
  refine wpList_load_mid rfl 29 _ rfl (w.heap.size + 2) 0 rfl D12 _ HD.out.at_ Try.underlying29 rfl (by rw [hlD]; kernel_rfl) ?_
  refine wpList_store_mid rfl 29 _ _ rfl (w.heap.size + 1) 0 D12.toArray rfl rfl hth hsz hone ?_
  simp only [Act.put, List.setIfInBounds_toArray, List.set_cons_zero, List.set_cons_succ]
  rw [← hwe]
  clear hwe hth hone hsz
  go_wp2
  refine bodyPost_ret (v := .agg D12.toArray) (by simp [results, Try.results8, asAddr, run_loadVar_mid (P := Try.prog) _ _ _ 29 D12 _ hrt Try.underlying29 rfl (by rw [hlD]; kernel_rfl)]) rfl ⟨D12, _, rfl, ?_, HD.out.nd, fun b hb => by have := HD.out.fr b hb; omega, HBE.out⟩
  exact HRE.out
end Go.Proofs.Ytiiahpegdpbkgaa
