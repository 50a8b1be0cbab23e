/-
  A wish by the program.
-/
import Derived.Test.YtcnhoghepkbpaaaGreatUL
import Derived.Test.YtcnhoghepkbpaaaGreatKWp
import Derived.Test.YtcnhoghepkbpaaaGreatKCx
namespace Go.Proofs.YtcnhoghepkbpaaaGreat
open Go.RowKit Go.Deep

theorem Tryz.txInfo : (Tryz.prog.info? 9).map (fun i => (i.zero, i.size, i.bytes)) = some (some (.string ByteArray.empty), 1, 16) := by kernel_rfl
theorem Tryz.txUnder : Tryz.prog.underlying 26 = some (.slice 9) := by kernel_rfl

set_option maxRecDepth 8000 in
set_option maxHeartbeats 8000000 in
theorem knownTextsI (d : Rd) (a1 : Option Addr) (c1 kn : Nat) (W : World) (hk : d.known = (kn : Int)) (hn : kn ≤ d.slots.length) (hc : d.slots.length ≤ c1) (h3 : d.slots.length ≤ 120) (hs : RssV W a1 d.slots) :
    Calls Tryz.prog 82 #[.agg #[.int .i64 d.prom, .int .i64 d.known, .slice a1 d.slots.length c1]] W (AnsL [.row 9 [.s]] (.row (knownTx d).length ((knownTx d).flatMap eTx)) W) := by
  have HE : Hid (knownTx d = (d.slots.take kn).map (·.txt)) := by show _ = _; rw [knownTx, hk]; rfl
  rw [hk]
  clear hk
  have HS := uh hs
  have HN := uh (And.intro hn (And.intro hc h3))
  obtain ⟨n, hnn⟩ : ∃ n, n = d.slots.length := ⟨_, rfl⟩
  have hn1 : kn ≤ n := by omega
  have hc1 : n ≤ c1 := by omega
  have h31 : n ≤ 120 := by omega
  rw [← hnn]
  have HNN := uh hnn
  clear hs hn hc h3 hnn
  obtain ⟨wa, hwa⟩ : ∃ wa, wa = W.alloc (.cells #[.int .i64 d.prom, .int .i64 (kn : Int), .slice a1 n c1] 34) := ⟨_, rfl⟩
  have HB : Hid (Below W.heap.size W wa) := by show Below _ _ _; rw [hwa]; exact blw_alloc (Below.refl _ _) _
  have HX : Hid (LBox wa W.heap.size [.int .i64 d.prom, .int .i64 (kn : Int), .slice a1 n c1]) := by show LBox _ _ _; rw [hwa]; exact LBox.new W _ _ _ rfl
  obtain ⟨i0, hi0, hzz⟩ := Option.map_eq_some_iff.1 Tryz.txInfo
  simp only [Prod.mk.injEq] at hzz
  obtain ⟨hz0, hz1, hz2⟩ := hzz
  go_enter Tryz.func82, Tryz.ntmps82
  go_upto_region 1 with fail
  rw [← hwa]
  clear hwa
  have hz := HX.out.lt
  have c1' := HX.out.get 1 _ rfl
  have c2' := HX.out.get 2 _ rfl
  have hs1 : (kn : Int) ≤ (c1 : Int) := by omega
  have hs0 : (0 : Int) ≤ (kn : Int) := by omega
  go_wp2
  clear c1' c2' hz
  go_loopw [3, 12] (fun o i wr => ∃ (q : Nat) (v : Value) (xs : List Value), q ≤ kn ∧ i = .int .i64 (q : Int) ∧ o = v ∧ Gr wr (W.heap.size + 1) 9 [.s] v q [] (((d.slots.take q).map (·.txt)).flatMap eTx) xs ∧ W.heap.size < wr.heap.size ∧ Below W.heap.size W wr) (fun _ i _ => kn - (intOf i).toNat)
  case atStart => exact ⟨0, _, _, Nat.zero_le _, rfl, rfl, Gr.nil _ _ _ _, HX.out.lt, HB.out⟩
  case round =>
    obtain ⟨q, v, xs, hq, rfl, rfl, hG, hX, hB⟩ := hrel
    have HG := uh hG
    have HXs := uh hX
    have HB := uh hB
    clear hG hX hB
    by_cases hlt : q < kn
    · obtain ⟨b, off, hab, hbl, hm, ht, _⟩ := (HS.out.later HB.out).at_ q (by have := HN.out; omega)
      obtain ⟨tx, htx⟩ : ∃ tx, tx = (d.slots.getD q Rs.none).txt := ⟨_, rfl⟩
      obtain ⟨bl, hbal⟩ : ∃ bl, bl = (d.slots.getD q Rs.none).bal := ⟨_, rfl⟩
      rw [← htx] at ht
      rw [← hbal] at hm
      subst hab
      have hn0 : (0 : Int) ≤ (q : Int) := by omega
      have hnk : (q : Int) < (kn : Int) := by omega
      have HT := uh htx
      clear htx hbal
      obtain ⟨va, vc, hvv⟩ := HG.out.shape
      subst hvv
      obtain ⟨wb, hwb⟩ : ∃ wb, wb = wr.alloc (.cells #[.int .i64 bl, .string tx] 94) := ⟨_, rfl⟩
      have HBb : Hid (Below wr.heap.size wr wb) := by show Below _ _ _; rw [hwb]; exact blw_alloc (Below.refl _ _) _
      have HXb : Hid (LBox wb wr.heap.size [.int .i64 bl, .string tx]) := by show LBox _ _ _; rw [hwb]; exact LBox.new wr _ _ _ rfl
      go_upto_region 5 with fail
      rw [← hwb]
      clear hwb hm ht
      have hzb := HXb.out.lt
      have cb := HXb.out.get 1 _ rfl
      go_wp2_with (at_builtin; refine wpList_append_lies _ rfl _ _ 26 rfl (W.heap.size + 1) 9 i0 _ 1 16 Tryz.txUnder hi0 hz0 hz1 hz2 rfl (by decide) (.slice va q vc) q xs rfl ?h1a ⟨wb.heap.size, 0, none⟩ 1 1 [.string tx] rfl ?h1b ?h1c ?h1d ?h1e ?h1f ?h1g ?h1h _ rfl ?_)
      case h1a => exact owns_lt_later (HG.out.later HBb.out).row (blw_alloc (Below.refl _ _) _)
      try (case h1b => rfl)
      case h1c => exact news_new wb #[.string tx] 9
      case h1d => intro u hu; simp at hu; subst hu; rfl
      case h1e => decide
      case h1f => unfold maxLen; omega
      case h1g => omega
      case h1h => have := HXs.out; simp; omega
      intro g cap w3 hown hgrow hgg _
      have hbt : Below wr.heap.size wr (wb.alloc (.cells #[.string tx] 9)) := blw_trans HBb.out (blw_alloc (Below.refl _ _) _)
      have HN2 : Hid (Gr w3 (W.heap.size + 1) 9 [.s] (.slice (some ⟨g, 0, none⟩) (q + 1) cap) (q + 1) [] (((d.slots.take (q + 1)).map (·.txt)).flatMap eTx) (xs ++ [.string tx])) := by
        have := HG.out.push (F := []) (e := eTx tx) hbt (.s tx .nil) List.nodup_nil (by simp) HXs.out hown hgrow (H := wb.heap.size + 1) (by simp) hgg
        rw [txs_snoc _ _ (by have := HN.out; omega), fm_snoc, ← HT.out]
        exact this
      have HX2 : Hid (W.heap.size < w3.heap.size) := Nat.lt_of_lt_of_le HXs.out (Nat.le_trans hbt.size hgrow.size)
      have HB2 : Hid (Below W.heap.size W w3) := blw_grown (blw_trans HB.out hbt) hgrow (fun b hb => by have := (owns_blk_lt HG.out.row hb).1; omega)
      clear hown hgrow hbt HG HXs HB cb hzb
      go_wp2
      go_roundw
      case rel => exact ⟨q + 1, _, _, by omega, by go_num, rfl, HN2.out, HX2.out, HB2.out⟩
      case measure => simp [intOf]; omega
    · obtain rfl : q = kn := by omega
      obtain ⟨F, r, nd, fr⟩ := HG.out.done
      obtain ⟨va, vc, hvv⟩ := HG.out.shape
      subst hvv
      have HL : Hid (q = ((d.slots.take q).map (·.txt)).length) := by show _ = _; rw [List.length_map, List.length_take]; have := HN.out; omega
      have HRR := uh (And.intro r (And.intro nd fr))
      clear r nd fr
      go_wp2
      go_ret
      refine ⟨_, F, rfl, ?_, HRR.out.2.1, fun b hb => by have := HRR.out.2.2 b hb; omega, HB.out⟩
      rw [HE.out, ← HL.out]
      exact HRR.out.1

end Go.Proofs.YtcnhoghepkbpaaaGreat

namespace Go.Proofs.YtcnhoghepkbpaaaGreat
open Go.RowKit Go.Deep

theorem known_wt : ∀ (l : List Rs) (k : Nat), wtL (((l.take k).map (·.txt)).flatMap eTx) ≤ wtL (l.flatMap eRs)
  | [], k => by simp [wtL]
  | s :: l, 0 => by simp [wtL]
  | s :: l, k + 1 => by
    have := known_wt l k
    simp only [List.take_succ_cons, List.map_cons, List.flatMap_cons, wtL_app, eTx, eRs, wtL]
    omega
theorem known_len (d : Rd) : (knownTx d).length ≤ d.slots.length := by
  rw [knownTx, List.length_map, List.length_take]; omega
theorem nd_swap {F F5 F8 F9 F10 F14 F15 F16 F3 : List Nat} {m : Nat} (hF : F = F5 ++ (F8 ++ (F9 ++ (F10 ++ (F14 ++ (F15 ++ (F16 ++ []))))))) (hnd : F.Nodup) (h3n : F3.Nodup) (h3 : ∀ b ∈ F3, b ∈ F10 ∨ b = m) (hlt : ∀ b ∈ F, b < m) : (F5 ++ (F8 ++ (F9 ++ (F3 ++ (F14 ++ (F15 ++ (F16 ++ []))))))).Nodup := by
  subst hF
  obtain ⟨n5, hnd, d5⟩ := nd_app hnd
  obtain ⟨n8, hnd, d8⟩ := nd_app hnd
  obtain ⟨n9, hnd, d9⟩ := nd_app hnd
  obtain ⟨n10, hnd, d10⟩ := nd_app hnd
  have sw : ∀ (X : List Nat), (∀ b ∈ X, b < m) → (∀ b ∈ X, b ∉ F10) → ∀ b ∈ X, b ∉ F3 := fun X h1 h2 b hb q => by
    rcases h3 b q with q | q
    · exact h2 b hb q
    · have := h1 b hb; omega
  have j : ∀ {A B : List Nat}, A.Nodup → B.Nodup → (∀ x ∈ A, x ∉ B) → (A ++ B).Nodup := fun ha hb hd => by
    rw [List.nodup_append]; exact ⟨ha, hb, fun a ha b hb e => hd a ha (by rw [e]; exact hb)⟩
  have m5 := sw F5 (fun b hb => hlt b (by simp [hb])) (fun b hb q => d5 b hb (by simp [q]))
  have m8 := sw F8 (fun b hb => hlt b (by simp [hb])) (fun b hb q => d8 b hb (by simp [q]))
  have m9 := sw F9 (fun b hb => hlt b (by simp [hb])) (fun b hb q => d9 b hb (by simp [q]))
  refine j n5 (j n8 (j n9 (j h3n hnd ?_) ?_) ?_) ?_
  · intro b hb q
    rcases h3 b hb with e | e
    · exact d10 b e q
    · have := hlt b (by simp only [List.mem_append] at q ⊢; exact Or.inr (Or.inr (Or.inr (Or.inr q)))); omega
  · intro b hb q
    rcases List.mem_append.1 q with q | q
    · exact m9 b hb q
    · exact d9 b hb (List.mem_append_right _ q)
  · intro b hb q
    rcases List.mem_append.1 q with q | q
    · exact d8 b hb (List.mem_append_left _ q)
    · rcases List.mem_append.1 q with q | q
      · exact m8 b hb q
      · exact d8 b hb (List.mem_append_right _ (List.mem_append_right _ q))
  · intro b hb q
    rcases List.mem_append.1 q with q | q
    · exact d5 b hb (List.mem_append_left _ q)
    · rcases List.mem_append.1 q with q | q
      · exact d5 b hb (List.mem_append_right _ (List.mem_append_left _ q))
      · rcases List.mem_append.1 q with q | q
        · exact m5 b hb q
        · exact d5 b hb (List.mem_append_right _ (List.mem_append_right _ (List.mem_append_right _ q)))
set_option maxRecDepth 8000 in
set_option maxHeartbeats 16000000 in
theorem wishForI (K : Rr) (x : Tx) (base : World) (p : Nat) (F : List Nat) (cs : List Value) (W : World) (hbx : WBox W p 38 cs) (h : Rep W false shRecorder F (eRr K) cs) (hnd : F.Nodup) (hp : p ∉ F) (hF : ∀ b ∈ F, base.heap.size ≤ b) (hpb : base.heap.size ≤ p) (hbs : Below base.heap.size base W) (hw : wtL (eRr K) ≤ 1048576) (hx : x.size ≤ 1048576) (hok : recOk K = true) :
    Calls Tryz.prog 28 #[.pointer (some ⟨p, 0, none⟩), .string x] W fun e w' => ∃ v cs' F', e = .returned v ∧ WBox w' p 38 cs' ∧ Rep w' false shRecorder F' (eRr (wishK K x)) cs' ∧ F'.Nodup ∧ (∀ b ∈ F', b ∈ F ∨ W.heap.size ≤ b) ∧ Below base.heap.size base w' := by
  obtain ⟨kn, hk1, hk2, hk3⟩ := disk_facts (rec_disk hok).2
  have hwl := wishes_len hok
  have HRW := uh h
  have HBS := uh hbs
  have HLC : Hid (cs.length = 18) := h.len
  have HLT := uh h.lt
  have HX := uh hbx
  have HNDF := uh (And.intro hnd (And.intro hp hpb))
  have h2 : Rep W false shRecorder F [.i K.num, .i K.of_, .b K.up, .i K.safe.prom, .i K.safe.known, .row K.safe.slots.length (K.safe.slots.flatMap eRs), .i K.disk.prom, .i K.disk.known, .row K.disk.slots.length (K.disk.slots.flatMap eRs), .row K.held.length (K.held.flatMap eRm), .row K.wish.length (K.wish.flatMap eTx), .b K.lead, .b K.try_, .i K.bal, .row K.yes.length (K.yes.flatMap eNu), .row K.best.length (K.best.flatMap eRs), .row K.acks.length (K.acks.flatMap eRa), .i K.heard] cs := h
  obtain ⟨F5, v5, F8, v8, F9, v9, F10, v10, F14, v14, F15, v15, F16, v16, hFF, hcs, r5, r8, r9, r10, r14, r15, r16⟩ := repRecorder h2
  have HFF := uh hFF
  have hnd2 := hnd
  rw [hFF] at hnd2
  obtain ⟨nd5, ndr5, dj5⟩ := nd_app hnd2
  have DJ5 := uh dj5
  have ND5 := uh nd5
  obtain ⟨nd8, ndr8, dj8⟩ := nd_app ndr5
  have DJ8 := uh dj8
  have ND8 := uh nd8
  obtain ⟨nd9, ndr9, dj9⟩ := nd_app ndr8
  have DJ9 := uh dj9
  have ND9 := uh nd9
  obtain ⟨nd10, ndr10, dj10⟩ := nd_app ndr9
  have DJ10 := uh dj10
  have ND10 := uh nd10
  obtain ⟨nd14, ndr14, dj14⟩ := nd_app ndr10
  have DJ14 := uh dj14
  have ND14 := uh nd14
  obtain ⟨nd15, ndr15, dj15⟩ := nd_app ndr14
  have DJ15 := uh dj15
  have ND15 := uh nd15
  obtain ⟨nd16, ndr16, dj16⟩ := nd_app ndr15
  have DJ16 := uh dj16
  have ND16 := uh nd16
  have R5 := uh r5
  have R8 := uh r8
  have R9 := uh r9
  have R10 := uh r10
  have R14 := uh r14
  have R15 := uh r15
  have R16 := uh r16
  have HCS := uh hcs
  have HF := uh hF
  simp only [eRr, eRd, wtL, wtL_app] at hw
  have HW := uh hw
  obtain ⟨a8, c8, q8, k8, V8⟩ := vRs r8.raw (by omega)
  obtain ⟨a10, c10, q10, k10, V10⟩ := vTx r10.raw (by omega)
  subst q8
  subst q10
  have HV8 := uh V8
  have HV10 := uh V10
  have g10 : W.cell? ⟨p, 10, none⟩ = some (.slice a10 K.wish.length c10) := HX.out.get 10 _ (by rw [HCS.out]; rfl)
  have hr6 : W.rangeAt p 6 [.int .i64 K.disk.prom, .int .i64 K.disk.known, .slice a8 K.disk.slots.length c8] := by
    have := HX.out.at_; rw [HCS.out] at this
    exact (rA_cut (rA_cut (x := [.int .i64 K.num, .int .i64 K.of_, .bool K.up, .int .i64 K.safe.prom, .int .i64 K.safe.known, v5]) (y := [.int .i64 K.disk.prom, .int .i64 K.disk.known, .slice a8 K.disk.slots.length c8] ++ [v9, .slice a10 K.wish.length c10, .bool K.lead, .bool K.try_, .int .i64 K.bal, v14, v15, v16, .int .i64 K.heard]) this).2).1
  have hz := HX.out.own.lt
  have HKI := uh (knownTextsI K.disk a8 c8 kn W hk1 hk2 k8 hk3 HV8.out)
  clear h h2 hbx hnd hnd2 hp hpb hbs hF hw hcs hFF hk1 V8 V10 nd5 ndr5 dj5 r5 nd8 ndr8 dj8 r8 nd9 ndr9 dj9 r9 nd10 ndr10 dj10 r10 nd14 ndr14 dj14 r14 nd15 ndr15 dj15 r15 nd16 ndr16 dj16 r16
  have HC1 := uh (withinI (x.size : Int) 1 160 W)
  obtain ⟨B1, hB1⟩ : ∃ B, B = inB (x.size : Int) 1 160 := ⟨_, rfl⟩
  rw [← hB1] at HC1
  have HB1 := uh hB1
  clear hB1
  have HC2 := uh (containsTx K.wish x a10 c10 W HV10.out)
  obtain ⟨B2, hB2⟩ : ∃ B, B = hasT K.wish x := ⟨_, rfl⟩
  have HC2b : Hid (Calls Tryz.prog 81 #[.slice a10 K.wish.length c10, .string x] W fun e w' => e = .returned (.bool B2) ∧ W = w') := by rw [hB2]; exact HC2.out
  have HB2 := uh hB2
  clear hB2 HC2
  go_enter Tryz.func28, Tryz.ntmps28
  rcases (Bool.eq_false_or_eq_true B1) with h1 | h1
  case inr =>
    subst h1
    have HQ : Hid (wishB K x = false) := by
      show _ = _; have := HB1.out; unfold inB at this; unfold wishB
      by_cases q1 : 1 ≤ x.size
      · rw [show decide (x.size ≤ 160) = false from decide_eq_false (fun q2 => by rw [show decide ((1 : Int) ≤ (x.size : Int)) = true from decide_eq_true (by omega), show decide ((x.size : Int) ≤ 160) = true from decide_eq_true (by omega)] at this; cases this)]; simp
      · rw [show decide (1 ≤ x.size) = false from decide_eq_false q1]; rfl
    go_wp2_with (go_at_call 69; refine HC1.out.mono ?_; rintro e w2 ⟨rfl, rfl⟩)
    first | go_end0 | refine bodyPost_ret (results_none rfl _ _ _) rfl ?_
    have e : wishK K x = K := by unfold wishK; rw [if_neg (by rw [HQ.out]; decide)]
    rw [e]
    exact ⟨_, cs, F, rfl, HX.out, HRW.out, HNDF.out.1, fun b hb => Or.inl hb, HBS.out⟩
  subst h1
  have hs1 : 1 ≤ x.size ∧ x.size ≤ 160 := by have := HB1.out.symm; unfold inB at this; simp only [Bool.and_eq_true, decide_eq_true_eq] at this; omega
  by_cases h3 : (K.wish.length : Int) = 20
  · have HQ : Hid (wishB K x = false) := by show _ = _; unfold wishB; rw [show decide (K.wish.length < 20) = false from decide_eq_false (by omega)]; simp
    have h3b : ((K.wish.length : Int) == 20) = true := by rw [h3]; rfl
    have h3c : K.wish.length = 20 := by omega
    clear h3
    go_wp2_with (go_at_call 69; refine HC1.out.mono ?_; rintro e w2 ⟨rfl, rfl⟩)
    first | go_end0 | refine bodyPost_ret (results_none rfl _ _ _) rfl ?_
    have e : wishK K x = K := by unfold wishK; rw [if_neg (by rw [HQ.out]; decide)]
    rw [e]
    exact ⟨_, cs, F, rfl, HX.out, HRW.out, HNDF.out.1, fun b hb => Or.inl hb, HBS.out⟩
  have h3b : ((K.wish.length : Int) == 20) = false := by simpa using h3
  have h3c : ¬ K.wish.length = 20 := by omega
  go_upto_region 1 with (go_at_call 69; refine HC1.out.mono ?_; rintro e w2 ⟨rfl, rfl⟩)
  rcases (Bool.eq_false_or_eq_true B2) with h4 | h4
  · subst h4
    have HQ : Hid (wishB K x = false) := by show _ = _; unfold wishB; rw [← HB2.out]; simp
    go_wp2_with (go_at_call 81; refine HC2b.out.mono ?_; rintro e w2 ⟨rfl, rfl⟩)
    first | go_end0 | refine bodyPost_ret (results_none rfl _ _ _) rfl ?_
    have e : wishK K x = K := by unfold wishK; rw [if_neg (by rw [HQ.out]; decide)]
    rw [e]
    exact ⟨_, cs, F, rfl, HX.out, HRW.out, HNDF.out.1, fun b hb => Or.inl hb, HBS.out⟩
  subst h4
  go_wp2_with (first | (go_at_call 81; refine HC2b.out.mono ?_; rintro e w2 ⟨rfl, rfl⟩) | (refine uload_g (by kernel_rfl) 34 _ rfl p 6 rfl [.int .i64 K.disk.prom, .int .i64 K.disk.known, .slice a8 K.disk.slots.length c8] _ hr6 Tryz.underlying34 rfl (by kernel_rfl) ?_))
  refine HKI.out.mono ?_
  rintro e w2 ⟨kv, FK, rfl, krep, _, _, hb⟩
  obtain ⟨ka, kc, kq, _, KV⟩ := vTx krep.raw (by have := known_len K.disk; have := known_wt K.disk.slots K.disk.known.toNat; have := HW.out; show (knownTx K.disk).length + wtL ((knownTx K.disk).flatMap eTx) ≤ _; unfold knownTx at *; omega)
  subst kq
  have HBk := uh hb
  clear krep hb HKI hr6 HC1 HC2b
  have HC5 := uh (containsTx (knownTx K.disk) x ka kc w2 KV)
  obtain ⟨B3, hB3⟩ : ∃ B, B = hasT (knownTx K.disk) x := ⟨_, rfl⟩
  have HC5b : Hid (Calls Tryz.prog 81 #[.slice ka (knownTx K.disk).length kc, .string x] w2 fun e w' => e = .returned (.bool B3) ∧ w2 = w') := by rw [hB3]; exact HC5.out
  have HB3 := uh hB3
  clear hB3 HC5 KV
  rcases (Bool.eq_false_or_eq_true B3) with h5 | h5
  · subst h5
    have HQ : Hid (wishB K x = false) := by show _ = _; unfold wishB; rw [← HB3.out]; simp
    go_wp2_with (go_at_call 81; refine HC5b.out.mono ?_; rintro e w3 ⟨rfl, rfl⟩)
    first | go_end0 | refine bodyPost_ret (results_none rfl _ _ _) rfl ?_
    have e : wishK K x = K := by unfold wishK; rw [if_neg (by rw [HQ.out]; decide)]
    rw [e]
    exact ⟨_, cs, F, rfl, HX.out.later HBk.out, HRW.out.later HBk.out, HNDF.out.1, fun b hb => Or.inl hb, blw_trans HBS.out HBk.out⟩
  subst h5
  have HQ : Hid (wishB K x = true) := by
    show _ = _; unfold wishB; rw [← HB3.out, ← HB2.out]
    rw [show decide (1 ≤ x.size) = true from decide_eq_true hs1.1, show decide (x.size ≤ 160) = true from decide_eq_true hs1.2, show decide (K.wish.length < 20) = true from decide_eq_true (by omega)]; rfl
  go_upto_region 2 with (go_at_call 81; refine HC5b.out.mono ?_; rintro e w3 ⟨rfl, rfl⟩)
  obtain ⟨wb, hwb⟩ : ∃ wb, wb = w2.alloc (.cells #[.string x] 9) := ⟨_, rfl⟩
  have HBb : Hid (Below W.heap.size W wb) := by show Below _ _ _; rw [hwb]; exact blw_alloc HBk.out _
  obtain ⟨v', x3, F3, row, hrun, rep, nd, hsub, hgr, hrow⟩ := rep_append (P := Tryz.prog) 26 26 9 1 16 _ Tryz.cunderT1 Tryz.cinfoT1 rfl (by decide) [.s] rfl wb (R10.out.later HBb.out) ND10.out (by omega) (F' := []) (d := eTx x) (c' := [.string x]) ⟨w2.heap.size, 0, none⟩ (.s x .nil) List.nodup_nil (by simp) (by rw [hwb]; exact news_new w2 #[.string x] 9)
  obtain ⟨wx, wc, hvx⟩ := rep.raw.len0
  subst hvx
  rw [hwb] at hrun
  clear hwb
  have HI : Hid (∀ b, b ∈ F10 → b ∈ F) := fun b hb => by rw [HFF.out]; simp [hb]
  have HLR : Hid (∀ b, row = some b → b ∈ F10 ∧ b ≠ p) := fun b hb => ⟨hrow b hb, fun e => HNDF.out.2.1 (by rw [← e]; exact HI.out b (hrow b hb))⟩
  have HX3 : Hid (WBox x3 p 38 cs) := (HX.out.later HBb.out).grown hgr (fun e => (HLR.out _ e).2 rfl)
  have HB3b : Hid (Below base.heap.size base x3) := blw_grown (blw_trans HBS.out HBb.out) hgr (fun b hb => HF.out b (HI.out b (hrow b hb)))
  have S5 := uh ((R5.out.later HBb.out).grown hgr (fun b hb e => DJ5.out b hb (by simp [(HLR.out b e).1])))
  have S8 := uh ((R8.out.later HBb.out).grown hgr (fun b hb e => DJ8.out b hb (by simp [(HLR.out b e).1])))
  have S9 := uh ((R9.out.later HBb.out).grown hgr (fun b hb e => DJ9.out b hb (by simp [(HLR.out b e).1])))
  have S14 := uh ((R14.out.later HBb.out).grown hgr (fun b hb e => DJ10.out b (HLR.out b e).1 (by simp [hb])))
  have S15 := uh ((R15.out.later HBb.out).grown hgr (fun b hb e => DJ10.out b (HLR.out b e).1 (by simp [hb])))
  have S16 := uh ((R16.out.later HBb.out).grown hgr (fun b hb e => DJ10.out b (HLR.out b e).1 (by simp [hb])))
  obtain ⟨y, hy⟩ : ∃ y, y = x3.setCell ⟨p, 10, none⟩ (.slice wx (K.wish.length + 1) wc) := ⟨_, rfl⟩
  have HX4 : Hid (WBox y p 38 [.int .i64 K.num, .int .i64 K.of_, .bool K.up, .int .i64 K.safe.prom, .int .i64 K.safe.known, v5, .int .i64 K.disk.prom, .int .i64 K.disk.known, .slice a8 K.disk.slots.length c8, v9, .slice wx (K.wish.length + 1) wc, .bool K.lead, .bool K.try_, .int .i64 K.bal, v14, v15, v16, .int .i64 K.heard]) := by
    show WBox _ _ _ _; rw [hy]; have := HX3.out.set 10 (.slice wx (K.wish.length + 1) wc) (by rw [HLC.out]; decide); rw [HCS.out] at this; exact this
  have HM : Hid (Marks (fun b => b = p) x3 y) := by show Marks _ _ _; rw [hy]; exact Marks.sc (S := fun b => b = p) _ rfl _ _
  have HBE : Hid (Below base.heap.size base y) := HM.out.below (fun b e => by rw [e]; exact HNDF.out.2.2) HB3b.out
  have HPB : Hid (p < wb.heap.size) := Nat.lt_of_lt_of_le HX.out.own.lt HBb.out.size
  have HPN : Hid (∀ b ∈ F, b ≠ p) := fun b hb e => HNDF.out.2.1 (by rw [← e]; exact hb)
  have U5 := uh (S5.out.keep HM.out (fun b hb e => HPN.out b (by rw [HFF.out]; simp [hb]) e))
  have U8 := uh (S8.out.keep HM.out (fun b hb e => HPN.out b (by rw [HFF.out]; simp [hb]) e))
  have U9 := uh (S9.out.keep HM.out (fun b hb e => HPN.out b (by rw [HFF.out]; simp [hb]) e))
  have U10 := uh (rep.keep HM.out (fun b hb e => by rcases hsub b hb with q | q | q; exact HPN.out b (HI.out b q) e; cases q; have := HPB.out; omega))
  have U14 := uh (S14.out.keep HM.out (fun b hb e => HPN.out b (by rw [HFF.out]; simp [hb]) e))
  have U15 := uh (S15.out.keep HM.out (fun b hb e => HPN.out b (by rw [HFF.out]; simp [hb]) e))
  have U16 := uh (S16.out.keep HM.out (fun b hb e => HPN.out b (by rw [HFF.out]; simp [hb]) e))
  have HSUB := uh hsub
  have NDN := uh nd
  have HSZ := uh HBb.out.size
  have hfz := HX3.out.own.frozen
  have hz3 := HX3.out.own.lt
  obtain ⟨ux, eu⟩ := HX3.out.own.cell 10 (by rw [HLC.out]; decide)
  have g10b : w2.cell? ⟨p, 10, none⟩ = some (.slice a10 K.wish.length c10) := (HX.out.later HBk.out).get 10 _ (by rw [HCS.out]; rfl)
  have hz2 := (HX.out.later HBk.out).own.lt
  clear rep nd hsub hgr hrow g10 hz
  go_wp2_with (at_builtin; refine Go.Lib.wpList_append_run _ rfl _ _ 26 26 rfl _ _ rfl rfl _ x3 hrun ?_)
  clear hrun
  go_wp2
  rw [← hy]
  clear hy eu hfz hz3 g10b hz2
  first | go_end0 | refine bodyPost_ret (results_none rfl _ _ _) rfl ?_
  refine ⟨_, [.int .i64 K.num, .int .i64 K.of_, .bool K.up, .int .i64 K.safe.prom, .int .i64 K.safe.known, v5, .int .i64 K.disk.prom, .int .i64 K.disk.known, .slice a8 K.disk.slots.length c8, v9, .slice wx (K.wish.length + 1) wc, .bool K.lead, .bool K.try_, .int .i64 K.bal, v14, v15, v16, .int .i64 K.heard], F5 ++ (F8 ++ (F9 ++ (F3 ++ (F14 ++ (F15 ++ (F16 ++ [])))))), rfl, HX4.out, ?_, ?_, ?_, HBE.out⟩
  · have e : wishK K x = { K with wish := K.wish ++ [x] } := by unfold wishK; rw [if_pos HQ.out]
    rw [e]
    have hfm : (K.wish ++ [x]).flatMap eTx = K.wish.flatMap eTx ++ eTx x := fm_snoc eTx K.wish x
    have hln : (K.wish ++ [x]).length = K.wish.length + 1 := by simp
    simp only [eRr, eRd]
    rw [hfm, hln]
    exact repRecorder_mk _ _ _ _ _ U5.out _ _ U8.out U9.out U10.out _ _ _ U14.out U15.out U16.out _
  · have hlw : ∀ b ∈ F, b < wb.heap.size := fun b hb => Nat.lt_of_lt_of_le (HLT.out b hb) HSZ.out
    have h3 : ∀ b ∈ F3, b ∈ F10 ∨ b = wb.heap.size := fun b hb => by rcases HSUB.out b hb with q | q | q; exact Or.inl q; cases q; exact Or.inr q
    exact nd_swap HFF.out HNDF.out.1 NDN.out h3 hlw
  · intro b hb
    by_cases e : b ∈ F3
    · rcases HSUB.out b e with q | q | q; exact Or.inl (HI.out b q); cases q; exact Or.inr (by have := HSZ.out; omega)
    · refine Or.inl ?_; rw [HFF.out]; simp only [List.mem_append, e, false_or] at hb; simp only [List.mem_append]; rcases hb with hb | hb | hb | hb | hb | hb | hb <;> simp [hb]
end Go.Proofs.YtcnhoghepkbpaaaGreat
