/-
  The law of a house: by the program.
-/
import Derived.BigFrame
import Derived.Great.BuildSlice
import Derived.LoopN
import Derived.Laws.EntriesVeiled
import Derived.Test.YtdojomnfephbhaaHLc
namespace Go.Proofs.Ytdojomnfephbhaa
open Go.RowKit Go.Deep


set_option maxRecDepth 8000 in
set_option maxHeartbeats 16000000 in
theorem hallLawOfI (bp q1 q2 q3 q4 : Nat) (va : Option Addr) (n vc : Nat) (es : List Dt) (kd : ByteArray) (fa : Option Addr) (fn fc : Nat) (Ff : List Nat) (fes : List Dt) (W : World) (hB : LBox W bp [.func (.func 46) #[] #[.pointer (some ⟨q1, 0, none⟩)], .func (.func 47) #[] #[.pointer (some ⟨q2, 0, none⟩), .pointer (some ⟨q3, 0, none⟩)], .func (.func 48) #[] #[.pointer (some ⟨q4, 0, none⟩)]]) (h1 : LBox W q1 [.slice va n vc]) (hr : Raw W [.row 85 shGateTeam] [.row n es] [.slice va n vc]) (hn : n ≤ 1048576) (h2 : LBox W q2 [.string kd]) (h3 : LBox W q3 [.slice fa fn fc]) (hf : Rep W false [.row 47 shGateField] Ff [.row fn fes] [.slice fa fn fc]) (hnd : Ff.Nodup) (h4 : LBox W q4 mndV) :
    Calls Try.prog 21 #[.slice (some ⟨bp, 0, none⟩) 3 3] W fun e w' => ∃ c F, e = .returned (.agg c.toArray) ∧ Rep w' false shGateLaw F [.row 1 [.s kd, .row fn fes], .row 1 mndD, .row n es] c ∧ F.Nodup ∧ (∀ b ∈ F, b ∈ Ff ∨ W.heap.size ≤ b) ∧ Below W.heap.size W w' := by
  obtain ⟨wa, hwa⟩ : ∃ wa, wa = (W.alloc (.cells #[.slice none 0 0, .slice none 0 0, .slice none 0 0] 31)).alloc (.cells #[.slice none 0 0, .slice none 0 0, .slice none 0 0] 31) := ⟨_, rfl⟩
  have hb : Below W.heap.size W wa := by rw [hwa]; exact blw_alloc (blw_alloc (Below.refl _ _) _) _
  have HB := uh hb
  have HX : Hid (WBox wa (W.heap.size + 1) 31 [.slice none 0 0, .slice none 0 0, .slice none 0 0]) := by show WBox _ _ _ _; rw [hwa]; exact WBox.new _ [.slice none 0 0, .slice none 0 0, .slice none 0 0] _ _ (by simp)
  have HO : Hid (OwnBlk wa W.heap.size 31 3) := by show OwnBlk _ _ _ _; rw [hwa]; exact (OwnBlk.alloc W _ _ _ rfl).later (blw_alloc (Below.refl _ _) _)
  have HQ : Hid (bp < W.heap.size ∧ q1 < W.heap.size ∧ q2 < W.heap.size ∧ q3 < W.heap.size ∧ q4 < W.heap.size) := ⟨hB.lt, h1.lt, h2.lt, h3.lt, h4.lt⟩
  have HX0 : Hid (wa.heap.size = W.heap.size + 2) := by show _ = _; rw [hwa]; simp
  have HFl : Hid (∀ b ∈ Ff, b < W.heap.size) := hf.lt
  have HBp := uh (hB.later hb)
  have H1 := uh (h1.later hb)
  have H2 := uh (h2.later hb)
  have H3 := uh (h3.later hb)
  have H4 := uh (h4.later hb)
  have HR := uh (hr.later hb)
  have HF := uh (hf.later hb)
  have HN := uh (And.intro hnd hn)
  clear hb hB h1 h2 h3 h4 hr hf hnd hn
  go_enter Try.func21, Try.ntmps21
  go_upto_region 2 with fail
  rw [← hwa]
  clear hwa
  go_wp2
  refine wp_loop_rounds 4 ?_
  rw [rounds_succ]
  have bz := HBp.out.lt
  have b0 := HBp.out.get 0 _ rfl
  go_wp2_with fail
  refine (withTeamsI (W.heap.size + 1) q1 _ _ va n vc es wa HX.out H1.out HR.out HN.out.2).mono ?_
  rintro e w1 ⟨u1, tx, tc, FT, rfl, hX, rT, ndT, frT, hM⟩
  clear bz b0 HX HR
  have HX := uh hX
  have RT := uh rT
  have NT : Hid (FT.Nodup ∧ ∀ b ∈ FT, W.heap.size + 2 ≤ b ∧ b < w1.heap.size) := ⟨ndT, fun b hb => ⟨by have := frT b hb; have := HX0.out; omega, rT.lt b hb⟩⟩
  replace HBp := uh (HBp.out.mks hM (by show ¬ _ = _; have := HQ.out; omega))
  replace H1 := uh (H1.out.mks hM (by show ¬ _ = _; have := HQ.out; omega))
  replace H2 := uh (H2.out.mks hM (by show ¬ _ = _; have := HQ.out; omega))
  replace H3 := uh (H3.out.mks hM (by show ¬ _ = _; have := HQ.out; omega))
  replace H4 := uh (H4.out.mks hM (by show ¬ _ = _; have := HQ.out; omega))
  replace HO := uh (hM.own _ _ _ HO.out)
  replace HB := uh (hM.below (fun b e => by rw [e]; omega) HB.out)
  replace HF := uh (HF.out.keep hM (fun b hb e => by have := HFl.out b hb; omega))
  have Z1 : Hid (W.heap.size + 1 < w1.heap.size) := HX.out.own.lt
  clear hX rT ndT frT hM
  go_wp2
  rw [rounds_succ]
  have bz := HBp.out.lt
  have b0 := HBp.out.get 1 _ rfl
  go_wp2_with fail
  refine (withShapeI (W.heap.size + 1) q2 q3 _ _ kd fa fn fc Ff fes w1 HX.out H2.out H3.out HF.out HN.out.1 (fun e => by have := HFl.out _ e; omega)).mono ?_
  rintro e w2 ⟨u2, sx, sc, FS, rfl, hX, rS, ndS, frS, hM⟩
  clear bz b0 HX HF
  have HX := uh hX
  have RS := uh rS
  have NS : Hid (FS.Nodup ∧ ∀ b ∈ FS, (b ∈ Ff ∨ w1.heap.size ≤ b) ∧ b < w2.heap.size) := ⟨ndS, fun b hb => ⟨frS b hb, rS.lt b hb⟩⟩
  replace HBp := uh (HBp.out.mks hM (by show ¬ _ = _; have := HQ.out; omega))
  replace H4 := uh (H4.out.mks hM (by show ¬ _ = _; have := HQ.out; omega))
  replace HO := uh (hM.own _ _ _ HO.out)
  replace HB := uh (hM.below (fun b e => by rw [e]; omega) HB.out)
  replace RT := uh (RT.out.keep hM (fun b hb e => by have := (NT.out.2 b hb).1; omega))
  have Z2 : Hid (w1.heap.size ≤ w2.heap.size) := hM.size
  clear hX rS ndS frS hM H1 H2 H3
  go_wp2
  rw [rounds_succ]
  have bz := HBp.out.lt
  have b0 := HBp.out.get 2 _ rfl
  go_wp2_with fail
  refine (withMendI (W.heap.size + 1) q4 _ _ w2 HX.out H4.out).mono ?_
  rintro e w3 ⟨u3, mx, mc, FM, rfl, hX, rM, ndM, frM, hM⟩
  clear bz b0 HX
  have HX := uh hX
  have RM := uh rM
  have NM : Hid (FM.Nodup ∧ ∀ b ∈ FM, w2.heap.size ≤ b) := ⟨ndM, fun b hb => (frM b hb).elim (fun e => by cases e) id⟩
  replace HBp := uh (HBp.out.mks hM (by show ¬ _ = _; have := HQ.out; omega))
  replace HO := uh (hM.own _ _ _ HO.out)
  replace HB := uh (hM.below (fun b e => by rw [e]; omega) HB.out)
  replace RT := uh (RT.out.keep hM (fun b hb e => by have := (NT.out.2 b hb).1; omega))
  replace RS := uh (RS.out.keep hM (fun b hb e => by rcases (NS.out.2 b hb).1 with q | q; (have := HFl.out b q; omega); have := Z1.out; omega))
  clear hX rM ndM frM hM H4
  go_wp2
  rw [rounds_succ]
  have hxl := HX.out.own.lt
  have hxa := HX.out.at_
  have hth : w3.there W.heap.size 0 (#[.slice sx 1 sc, .slice mx 1 mc, .slice tx n tc] : Array Value).size := uthere HO.out _ _ (by simp)
  obtain ⟨we, hwe⟩ : ∃ we, we = w3.setCells W.heap.size 0 [.slice sx 1 sc, .slice mx 1 mc, .slice tx n tc] := ⟨_, rfl⟩
  have hrt : we.rangeAt W.heap.size 0 [.slice sx 1 sc, .slice mx 1 mc, .slice tx n tc] := by rw [hwe]; exact World.rangeAt_setCells_same _ _ _ _ hth
  have HMK : Hid (Marks (fun b => b = W.heap.size) w3 we) := by show Marks _ _ _; rw [hwe]; exact mks_scs (S := fun b => b = W.heap.size) rfl _ _ _
  have HBB : Hid (Below W.heap.size W we) := by show Below _ _ _; rw [hwe]; exact blw_scs (Nat.le_refl _) _ _ _ HB.out
  go_wp2_with (first | (refine wpList_load_mid rfl 31 _ rfl (W.heap.size + 1) 0 rfl [.slice sx 1 sc, .slice mx 1 mc, .slice tx n tc] _ hxa Try.underlying31 rfl (by kernel_rfl) ?_) | (refine wpList_store_mid rfl 31 _ _ rfl W.heap.size 0 #[.slice sx 1 sc, .slice mx 1 mc, .slice tx n tc] rfl rfl hth (by kernel_rfl) (by simp [Value.oneCell']) ?_))
  first | rw [← hwe] | (simp only [List.toList_toArray]; rw [← hwe])
  try simp only [Act.put]
  refine bodyPost_ret (v := .agg #[.slice sx 1 sc, .slice mx 1 mc, .slice tx n tc]) (by simp [results, Try.results21, asAddr, run_loadVar_mid (P := Try.prog) _ _ _ 31 [.slice sx 1 sc, .slice mx 1 mc, .slice tx n tc] _ hrt Try.underlying31 rfl (by kernel_rfl)]) rfl ?_
  have z1 := Z1.out
  have z2 := Z2.out
  have MS := RS.out.keep HMK.out (fun b hb e => by rcases (NS.out.2 b hb).1 with q | q; (have := HFl.out b q; omega); omega)
  have MM := RM.out.keep HMK.out (fun b hb e => by have := NM.out.2 b hb; omega)
  have MT := RT.out.keep HMK.out (fun b hb e => by have := (NT.out.2 b hb).1; omega)
  refine ⟨_, _, rfl, repGateLaw_mk MS MM MT, ?_, ?_, HBB.out⟩
  · rw [List.append_nil]
    have hMT : (FM ++ FT).Nodup := by
      rw [List.nodup_append]
      exact ⟨NM.out.1, NT.out.1, fun a ha b hb e => by have := NM.out.2 a ha; have := (NT.out.2 b hb).2; omega⟩
    rw [List.nodup_append]
    refine ⟨NS.out.1, hMT, fun a ha b hb e => ?_⟩
    obtain ⟨q1, q2⟩ := NS.out.2 a ha
    rcases List.mem_append.1 hb with hb | hb
    · have := NM.out.2 b hb; omega
    · obtain ⟨q3, q4⟩ := NT.out.2 b hb
      rcases q1 with q1 | q1
      · have := HFl.out a q1; omega
      · omega
  · intro b hb
    rw [List.append_nil] at hb
    rcases List.mem_append.1 hb with hb | hb
    · rcases (NS.out.2 b hb).1 with q | q
      · exact Or.inl q
      · exact Or.inr (by omega)
    · rcases List.mem_append.1 hb with hb | hb
      · have := NM.out.2 b hb; exact Or.inr (by omega)
      · have := (NT.out.2 b hb).1; exact Or.inr (by omega)

set_option maxHeartbeats 4000000 in
theorem mkTeams (va : Option Addr) (n vc : Nat) (W : World) : Calls Try.prog 22 #[.slice va n vc] W fun e w' => e = .returned (.func (.func 46) #[] #[.pointer (some ⟨W.heap.size, 0, none⟩)]) ∧ LBox w' W.heap.size [.slice va n vc] ∧ Below W.heap.size W w' ∧ W.heap.size + 1 ≤ w'.heap.size := by
  go_enter Try.func22, Try.ntmps22
  go_wp2
  go_ret
  exact ⟨rfl, LBox.new W #[.slice va n vc] _ _ rfl, blw_alloc (Below.refl _ _) _, by simp⟩

set_option maxHeartbeats 4000000 in
theorem mkShape (kd : ByteArray) (fa : Option Addr) (fn fc : Nat) (W : World) : Calls Try.prog 23 #[.string kd, .slice fa fn fc] W fun e w' => e = .returned (.func (.func 47) #[] #[.pointer (some ⟨W.heap.size, 0, none⟩), .pointer (some ⟨W.heap.size + 1, 0, none⟩)]) ∧ LBox w' W.heap.size [.string kd] ∧ LBox w' (W.heap.size + 1) [.slice fa fn fc] ∧ Below W.heap.size W w' ∧ W.heap.size + 2 ≤ w'.heap.size := by
  go_enter Try.func23, Try.ntmps23
  go_wp2
  go_ret
  exact ⟨rfl, (LBox.new W #[.string kd] _ _ rfl).past _, LBox.new _ #[.slice fa fn fc] _ _ (by simp), blw_alloc (blw_alloc (Below.refl _ _) _) _, by simp⟩

set_option maxHeartbeats 4000000 in
theorem mkMend  (W : World) : Calls Try.prog 24 #[.agg mndV.toArray] W fun e w' => e = .returned (.func (.func 48) #[] #[.pointer (some ⟨W.heap.size, 0, none⟩)]) ∧ LBox w' W.heap.size mndV ∧ Below W.heap.size W w' ∧ W.heap.size + 1 ≤ w'.heap.size := by
  go_enter Try.func24, Try.ntmps24
  go_wp2
  go_ret
  exact ⟨rfl, LBox.new W mndV.toArray _ _ rfl, blw_alloc (Below.refl _ _) _, by simp⟩

set_option maxRecDepth 8000 in
set_option maxHeartbeats 16000000 in
theorem hallLawI (K : Hs) (c : List Value) (F : List Nat) (W : World) (hr : Rep W true shHallHouse F (eHs K) c) (hw : wtL (eHs K) ≤ 1048576) : Calls Try.prog 8 #[.agg c.toArray] W (Ans shGateLaw (lawD K) W) := by
  obtain ⟨F0, v0, F1, v1, _, rfl, r0, r1⟩ := repHallHouse hr
  obtain ⟨va, vc, hva⟩ := r0.raw.len0
  subst hva
  have R0 := uh r0.raw
  simp only [eHs, wtL] at hw
  have hn : K.tms.length ≤ 1048576 := by omega
  obtain ⟨i0, hi0, hzz⟩ := Option.map_eq_some_iff.1 Try.cinfoGateField
  simp only [Prod.mk.injEq] at hzz
  obtain ⟨hz0, hz1⟩ := hzz
  clear hr r0 r1 hw
  obtain ⟨wa, hwa⟩ : ∃ wa, wa = (W.alloc (.cells #[.slice va K.tms.length vc, v1] 35)).alloc (.cells #[.slice none 0 0, .slice none 0 0, .slice none 0 0] 31) := ⟨_, rfl⟩
  have HB : Hid (Below W.heap.size W wa) := by show Below _ _ _; rw [hwa]; exact blw_alloc (blw_alloc (Below.refl _ _) _) _
  have HX : Hid (LBox wa W.heap.size [.slice va K.tms.length vc, v1]) := by show LBox _ _ _; rw [hwa]; exact (LBox.new W #[.slice va K.tms.length vc, v1] _ _ rfl).later (blw_alloc (Below.refl _ _) _)
  have HO : Hid (OwnBlk wa (W.heap.size + 1) 31 3) := by show OwnBlk _ _ _ _; rw [hwa]; exact OwnBlk.alloc_at3 _ _ _ _ _ rfl (by simp)
  go_enter Try.func8, Try.ntmps8
  go_upto_region 1 with fail
  rw [← hwa]
  clear hwa
  have x0 := HX.out.get 0 _ rfl
  have xl := HX.out.lt
  have ZA : Hid (W.heap.size + 2 ≤ wa.heap.size) := by have := HO.out.lt; show _ ≤ _; omega
  go_wp2_with fail
  refine (mkTeams va K.tms.length vc wa).mono ?_
  rintro e w1 ⟨rfl, h1, hb, hz⟩
  clear x0 xl HX
  have H1 := uh h1
  have Z1 := uh hz
  replace HB := uh (blw_trans HB.out hb)
  replace HO := uh (HO.out.later hb)
  clear h1 hb hz
  obtain ⟨p1, hp1⟩ : ∃ p, p = wa.heap.size := ⟨_, rfl⟩
  rw [← hp1] at H1 Z1 ZA ⊢
  clear hp1
  obtain ⟨w2, hw2⟩ : ∃ w2, w2 = w1.alloc (.cells flds.toArray 47) := ⟨_, rfl⟩
  have hb2 : Below w1.heap.size w1 w2 := by rw [hw2]; exact blw_alloc (Below.refl _ _) _
  have HF : Hid (WBox w2 w1.heap.size 47 flds) := by show WBox _ _ _ _; rw [hw2]; exact WBox.new _ flds _ _ rfl
  replace HB := uh (blw_trans HB.out hb2)
  replace HO := uh (HO.out.later hb2)
  replace H1 := uh (H1.out.later hb2)
  clear hb2
  obtain ⟨pf, hpf⟩ : ∃ p, p = w1.heap.size := ⟨_, rfl⟩
  rw [← hpf] at HF Z1
  go_wp2_with (refine wpList_buildSlice rfl 49 47 6 _ rfl flds.toArray i0 _ Try.cunderGateField hi0 hz0 (by rw [hz1]; decide) (by rw [hz1]; decide) (by rw [hz1]; kernel_rfl) ?_)
  rw [← hw2, ← hpf]
  clear hw2 hpf
  refine (mkShape _ _ _ _ w2).mono ?_
  rintro e w3 ⟨rfl, h2, h3, hb, hz⟩
  have H2 := uh h2
  have H3 := uh h3
  have Z2 : Hid (pf < w2.heap.size) := HF.out.own.lt
  have Z3 := uh hz
  replace HB := uh (blw_trans HB.out hb)
  replace HO := uh (HO.out.later hb)
  replace H1 := uh (H1.out.later hb)
  replace HF := uh (HF.out.later hb)
  clear h2 h3 hb hz
  obtain ⟨p2, hp2⟩ : ∃ p, p = w2.heap.size := ⟨_, rfl⟩
  rw [← hp2] at H2 H3 Z2 Z3 ⊢
  clear hp2
  go_wp2_with fail
  refine (mkMend w3).mono ?_
  rintro e w4 ⟨rfl, h4, hb, hz⟩
  have H4 := uh h4
  have Z4 := uh hz
  replace HB := uh (blw_trans HB.out hb)
  replace HO := uh (HO.out.later hb)
  replace H1 := uh (H1.out.later hb)
  replace H2 := uh (H2.out.later hb)
  replace H3 := uh (H3.out.later hb)
  replace HF := uh (HF.out.later hb)
  clear h4 hb hz
  obtain ⟨p4, hp4⟩ : ∃ p, p = w3.heap.size := ⟨_, rfl⟩
  rw [← hp4] at H4 Z3 Z4 ⊢
  clear hp4
  obtain ⟨w5, hw5⟩ : ∃ w5, w5 = w4.alloc (.cells #[.func (.func 46) #[] #[.pointer (some ⟨p1, 0, none⟩)], .func (.func 47) #[] #[.pointer (some ⟨p2, 0, none⟩), .pointer (some ⟨p2 + 1, 0, none⟩)], .func (.func 48) #[] #[.pointer (some ⟨p4, 0, none⟩)]] 58) := ⟨_, rfl⟩
  have hb5 : Below w4.heap.size w4 w5 := by rw [hw5]; exact blw_alloc (Below.refl _ _) _
  have H5 : Hid (LBox w5 w4.heap.size [.func (.func 46) #[] #[.pointer (some ⟨p1, 0, none⟩)], .func (.func 47) #[] #[.pointer (some ⟨p2, 0, none⟩), .pointer (some ⟨p2 + 1, 0, none⟩)], .func (.func 48) #[] #[.pointer (some ⟨p4, 0, none⟩)]]) := by show LBox _ _ _; rw [hw5]; exact LBox.new _ #[.func (.func 46) #[] #[.pointer (some ⟨p1, 0, none⟩)], .func (.func 47) #[] #[.pointer (some ⟨p2, 0, none⟩), .pointer (some ⟨p2 + 1, 0, none⟩)], .func (.func 48) #[] #[.pointer (some ⟨p4, 0, none⟩)]] _ _ rfl
  replace HB := uh (blw_trans HB.out hb5)
  replace HO := uh (HO.out.later hb5)
  replace H1 := uh (H1.out.later hb5)
  replace H2 := uh (H2.out.later hb5)
  replace H3 := uh (H3.out.later hb5)
  replace H4 := uh (H4.out.later hb5)
  replace HF := uh (HF.out.later hb5)
  clear hb5
  go_wp2_with fail
  rw [← hw5]
  clear hw5
  refine (hallLawOfI w4.heap.size p1 p2 (p2 + 1) p4 va K.tms.length vc (K.tms.flatMap eTm) _ (some ⟨pf, 0, none⟩) 6 6 [pf] fldsD w5 H5.out H1.out (R0.out.later HB.out) hn H2.out H3.out (fldsRow HF.out) (by simp) H4.out).mono ?_
  rintro e w6 ⟨cc, FF, rfl, rep, nd, fr, hb⟩
  have HR := uh rep
  have HND := uh nd
  have Z5 : Hid (W.heap.size + 2 ≤ w5.heap.size) := by have := HO.out.lt; show _ ≤ _; omega
  have HFR : Hid (∀ b ∈ FF, W.heap.size + 2 ≤ b) := fun b hb => by
    have z1 := Z1.out
    have za := ZA.out
    have z5 := Z5.out
    rcases fr b hb with q | q
    · simp at q; omega
    · omega
  replace HB := uh (blw_trans HB.out hb)
  replace HO := uh (HO.out.later hb)
  have HL : Hid (cc.length = 3) := rep.len
  have hone := all_oneCell_toArray rep.raw.one
  clear rep nd fr hb H1 H2 H3 H4 H5 HF
  have hth : w6.there (W.heap.size + 1) 0 cc.toArray.size := uthere HO.out _ _ (by rw [List.size_toArray, HL.out]; decide)
  have hsz : (Try.prog.info? 31).map (·.size) = some cc.toArray.size := by rw [List.size_toArray, HL.out]; kernel_rfl
  obtain ⟨we, hwe⟩ : ∃ we, we = w6.setCells (W.heap.size + 1) 0 cc := ⟨_, rfl⟩
  have hrt : we.rangeAt (W.heap.size + 1) 0 cc := by rw [hwe]; exact World.rangeAt_setCells_same _ _ _ _ (by simpa using hth)
  have HMK : Hid (Marks (fun b => b = W.heap.size + 1) w6 we) := by show Marks _ _ _; rw [hwe]; exact mks_scs (S := fun b => b = W.heap.size + 1) rfl _ _ _
  have HBB : Hid (Below W.heap.size W we) := by show Below _ _ _; rw [hwe]; exact blw_scs (by omega) _ _ _ HB.out
  go_wp2_with (refine wpList_store_mid rfl 31 _ _ rfl (W.heap.size + 1) 0 cc.toArray rfl rfl hth hsz hone ?_)
  first | rw [← hwe] | (simp only [List.toList_toArray]; rw [← hwe])
  try simp only [Act.put]
  refine bodyPost_ret (v := .agg cc.toArray) (by simp [results, Try.results8, asAddr, run_loadVar_mid (P := Try.prog) _ _ _ 31 cc _ hrt Try.underlying31 rfl (by rw [HL.out]; kernel_rfl)]) rfl ?_
  exact ⟨cc, FF, rfl, HR.out.keep HMK.out (fun b hb e => by have := HFR.out b hb; omega), HND.out, fun b hb => by have := HFR.out b hb; omega, HBB.out⟩
end Go.Proofs.Ytdojomnfephbhaa
