/-
  What all agree on: the program.
-/
import Derived.Test.YtcefgacmagobnaaKAq
import Derived.Test.YtcefgacmagobnaaKXi
namespace Go.Proofs.Ytcefgacmagobnaa
open Go.RowKit Go.Deep


theorem keeps_blw {B : Nat} {W W' : World} (h : Below W.heap.size W W') : KeepsFrom B W W' := ⟨h.size, fun k _ _ hk _ => (h.block k (Array.getElem?_eq_some_iff.1 hk).1).trans hk⟩

theorem retA {tmps : Array Value} {W : World} {B : Nat} {b : Bool} {R' : Ending → World → Prop} (ht : tmps[2]?.getD undef = .pointer (some ⟨B, 0, none⟩)) (hc : W.cell? ⟨B, 0, none⟩ = some (.bool b)) (hR : R' (.returned (.bool b)) W) :
    bodyPostM Fence.wide 8 Try.prog Try.f14 R' .ret { tmps := tmps, defers := [] } W :=
  ⟨.bool b, by simp [results, Try.f14, go_sem, ht, hc], hR⟩
theorem boxed_blw {W W' : World} {B : Nat} {t : TypeId} {v : Value} (h : Boxed W B t v) (hb : Below W.heap.size W W') : Boxed W' B t v := (hb.block B h.lt).trans h

attribute [local go_sem] Oper.semAt_some

set_option maxRecDepth 100000 in
set_option maxHeartbeats 40000000 in
theorem recAgreeP (K : Rw) (a0 a1 a2 : Option Addr) (c0 c1 c2 : Nat) (w : World) (h : RwV w a0 a1 a2 K) :
    Calls Try.prog 14 #[.agg #[.slice a0 K.recs.length c0, .slice a1 K.fl.length c1, .slice a2 K.fx.length c2]] w fun e w' => e = .returned (.bool (agreeP K)) ∧ Below w.heap.size w w' := by
  have HH := hid h
  clear h
  obtain ⟨R, hR⟩ : ∃ R, R = agreeP K := ⟨_, rfl⟩
  have HR : Hid (R = (worldOk K && allTo (agP K) (lastTo K.recs K.recs.length))) := hR
  rw [← hR]
  clear hR
  obtain ⟨B, hB⟩ : ∃ B, B = w.heap.size := ⟨_, rfl⟩
  obtain ⟨wa, hwa⟩ : ∃ wa, wa = (w.alloc (.cells #[.slice a0 K.recs.length c0, .slice a1 K.fl.length c1, .slice a2 K.fx.length c2] 33)).alloc (.cells #[.bool false] 4) := ⟨_, rfl⟩
  have HBa : Hid (Below w.heap.size w wa) := by show Below _ _ _; rw [hwa]; exact blw_alloc (blw_alloc (Below.refl _ _) _) _
  have HXa : Hid (LBox wa B [.slice a0 K.recs.length c0, .slice a1 K.fl.length c1, .slice a2 K.fx.length c2]) := by show LBox _ _ _; rw [hwa, hB]; exact (LBox.new w #[.slice a0 K.recs.length c0, .slice a1 K.fl.length c1, .slice a2 K.fx.length c2] _ _ rfl).past _
  have HRa : Hid (Boxed wa (B + 1) 4 (.bool false)) := by
    have := Boxed.new (w.alloc (.cells #[.slice a0 K.recs.length c0, .slice a1 K.fl.length c1, .slice a2 K.fx.length c2] 33)) 4 (.bool false)
    rw [← hwa, World.size_alloc, ← hB] at this
    exact this
  refine (callsIn_wide (n := 8)).1 (callsIn_of_wp_marks Try.func14 rfl trivial ?_)
  simp only [Try.ntmps14, List.size_toArray, List.length_cons, List.length_nil, Nat.reduceAdd, Nat.reduceSub, Array.replicate_succ, Array.replicate_zero, List.push_toArray, List.append_toArray, List.nil_append, List.cons_append]
  refine wpIn_wide.2 ?_
  go_upto_region 1 with fail
  rw [← hwa, ← hB]
  have HBW := hid hB
  clear hwa hB
  have yz := HXa.out.lt
  have y := HXa.out.at_
  have HC := hid (recWorldOkV K a0 a1 a2 c0 c1 c2 wa (HH.out.later HBa.out))
  go_wp2_with (refine wpList_load_mid rfl 33 _ rfl B 0 rfl [.slice a0 K.recs.length c0, .slice a1 K.fl.length c1, .slice a2 K.fx.length c2] _ y Try.underlying33 rfl (by kernel_rfl) ?_)
  refine HC.out.mono ?_
  rintro e w1 ⟨rfl, hb⟩
  have HB1 := hid (blw_trans HBa.out hb)
  have HX1 := hid (HXa.out.later hb)
  have HR1 : Hid (Boxed w1 (B + 1) 4 (.bool false)) := (hb.block _ HRa.out.lt).trans HRa.out
  clear hb HC yz y HXa HBa HRa
  cases hok : worldOk K
  · have HE : Hid (R = false) := by show R = _; rw [HR.out, hok]; rfl
    have hc := HR1.out.cell
    have hf := HR1.out.frozen
    have hz := HR1.out.lt
    have HS := hid (HR1.out.set (.bool false)).cell
    go_wp2
    exact retA rfl HS.out ⟨by rw [HE.out], HB1.out.setCell (p := ⟨B + 1, 0, none⟩) (by have := HBW.out; show _ ≤ _ + 1; omega) _⟩
  have HRP : Hid (R = allTo (agP K) (lastTo K.recs K.recs.length)) := by show R = _; rw [HR.out, hok]; rfl
  clear HR
  have HRS := hid (world_recs hok)
  have HFX : Hid (fixesOk K.fx = true) := by
    have h := hok
    simp only [worldOk, Bool.and_eq_true] at h
    exact h.2
  obtain ⟨W0, hW0⟩ : ∃ W0, W0 = w1.alloc (.cells #[.slice a0 K.recs.length c0] 29) := ⟨_, rfl⟩
  have hb0 : Below w1.heap.size w1 W0 := by rw [hW0]; exact blw_alloc (Below.refl _ _) _
  obtain ⟨q0, hq0⟩ : ∃ q0, q0 = w1.heap.size := ⟨_, rfl⟩
  have HQ0 : Hid (LBox W0 q0 [.slice a0 K.recs.length c0]) := by show LBox _ _ _; rw [hW0]; exact LBox.new w1 #[.slice a0 K.recs.length c0] _ _ hq0
  have HB0 := hid (blw_trans HB1.out hb0)
  have HX0 := hid (HX1.out.later hb0)
  have HR0 : Hid (Boxed W0 (B + 1) 4 (.bool false)) := (hb0.block _ HR1.out.lt).trans HR1.out
  have yz := HX1.out.lt
  have y0 := HX1.out.get 0 _ rfl
  have HC := hid (placesI a0 K.recs.length c0 w1)
  rw [← hW0, ← hq0] at HC
  clear hb0 hW0 hq0
  go_wp2_with fail
  refine HC.out.mono ?_
  rintro e w2 ⟨rfl, rfl⟩
  clear HC yz y0 HX1 HB1 HR1
  go_wp2_with fail
  refine (wpIn_wide (n := 8)).1 ?_
  obtain ⟨fr, hfr⟩ : ∃ fr : Pla → Act, fr = fun x => { tmps := #[.agg #[.slice a0 K.recs.length c0, .slice a1 K.fl.length c1, .slice a2 K.fx.length c2], .pointer (some ⟨B, 0, none⟩), .pointer (some ⟨B + 1, 0, none⟩), .int .i64 ((x.1 : Int) + 1), undef, undef, undef, .agg #[.slice a0 K.recs.length c0, .slice a1 K.fl.length c1, .slice a2 K.fx.length c2], .bool true, .bool false, .pointer (some ⟨B, 0, none⟩), .slice a0 K.recs.length c0, .func (.func 68) #[] #[.pointer (some ⟨q0, 0, none⟩)], .int .i64 ((x.1 : Int) + 1), undef, undef, undef, undef, undef, undef, undef, undef, undef, undef, undef, undef, undef, undef, undef, undef, undef, undef, undef, undef, undef, undef, undef, undef], defers := [] } := ⟨_, rfl⟩
  have HSEQ := places_stops 7 (by decide) w2 K.recs a0 c0 q0 HQ0.out (HH.out.l0.later HB0.out) HRS.out
  refine wpIn_rangeFunc_ownH rfl (by decide) (gf := 68) (lb := #[.pointer (some ⟨q0, 0, none⟩)]) rfl trivial (enters_of Try.func68 (by kernel_rfl) rfl) HSEQ belowK_t (belowK_b (Nat.le_refl _)) (Below.refl _ _) (fun _ => rfl)
    (fun pre W => (∀ j ∈ pre, agP K j.1 = true) ∧ Below w2.heap.size w2 W)
    (fun c pre W => ((c = .ret ∧ ∃ j ∈ pre, agP K j.1 = false) ∧ W.cell? ⟨B + 1, 0, none⟩ = some (.bool false)) ∧ Below w.heap.size w W)
    (OwnFrom.and (ownFrom_pure _ _) (ownFrom_below (Nat.le_refl _) (Nat.le_refl _)))
    (fun c => OwnFrom.and (OwnFrom.and (ownFrom_pure _ _) (Own.from (fun s A A' row hs hg hr => cell_kept hs hg hr) _)) (ownFrom_below (Nat.le_refl _) HB0.out.size))
    ⟨by simp, Below.refl _ _⟩
    (fun x a' _ => a' = fr x)
    (fun _ _ _ _ _ _ hs _ _ => hs)
    ?assign ?body ?done ?stop
  case assign =>
    rintro l pre x W K1 hi hK
    try dsimp only
    rw [hfr] at hK
    dsimp only at hK
    have HK := hid hK
    have HI := hid hi
    clear hK hfr hi
    gi_wp2
    exact HK.out _ _ (KeepsFrom.refl _ _) (Below.refl _ _) HI.out rfl
  case body =>
    rintro l pre x a' W hl ⟨r, hr⟩ ⟨hp, hBl⟩ ha hlen
    rw [hfr] at ha
    dsimp only at ha
    subst ha
    have HP := hid hp
    have HBl := hid hBl
    have HLR := hid (And.intro hl hr)
    clear hfr hp hBl hl hr hlen
    obtain ⟨m, hm⟩ : ∃ m : Nat, m = x.1 := ⟨_, rfl⟩
    have HM : Hid (m = x.1 ∧ m < 1000000) := ⟨hm, by rw [hm]; exact x.2⟩
    rw [← hm]
    clear hm
    have HXW := hid (HX0.out.later HBl.out)
    have HWW := hid (blw_trans HB0.out HBl.out)
    have yz := HXW.out.lt
    have y2 := HXW.out.get 2 _ rfl
    have HC := hid (fixPlaceI K.fx ((m : Int) + 1) a2 c2 W (HH.out.l2.later HWW.out) HFX.out)
    obtain ⟨p, hp⟩ : ∃ p, p = placeRf K.fx ((m : Int) + 1) := ⟨_, rfl⟩
    obtain ⟨nt, hnt⟩ : ∃ nt, nt = notedRf K.fx ((m : Int) + 1) := ⟨_, rfl⟩
    have HPL : Hid (nt = true → p < K.fx.length) := by
      show _ → _
      rw [hnt, hp]
      intro h
      unfold notedRf at h
      simp only [Bool.and_eq_true, decide_eq_true_eq] at h
      exact h.1
    have HFP : Hid (∀ t, isFixP K.fx m t = (nt && same (K.fx.getD p Rf.none).txt t)) := fun t => by rw [isFixP, hnt, hp]
    rw [← hp, ← hnt] at HC
    clear hp hnt
    gi_wp2_with (refine ⟨trivial, ?_⟩; gi_at_call 38; refine (CallsIn.inRound l (callsIn_wide.2 HC.out)).mono ?_; rintro e W1 ⟨rfl, hb1⟩; clear HC; have y0 := ((HXW.out.later hb1).past (.cells #[.int .i64 (p : Int)] 3)).past (.cells #[.bool nt] 4) |>.get 0 _ rfl)
    refine ⟨trivial, ?_⟩
    obtain ⟨P4, hP4⟩ : ∃ P4, P4 = W1.heap.size := ⟨_, rfl⟩
    have hbx1 := (Boxed.new W1 3 (.int .i64 (p : Int))).alloc (.cells #[.bool nt] 4)
    have hbx2 := Boxed.new (W1.alloc (.cells #[.int .i64 (p : Int)] 3)) 4 (.bool nt)
    rw [World.size_alloc] at hbx2
    obtain ⟨W2, hW2⟩ : ∃ W2, W2 = (W1.alloc (.cells #[.int .i64 (p : Int)] 3)).alloc (.cells #[.bool nt] 4) := ⟨_, rfl⟩
    have hb2 : Below W1.heap.size W1 W2 := by rw [hW2]; exact blw_alloc (blw_alloc (Below.refl _ _) _) _
    rw [← hW2, ← hP4] at hbx1 hbx2
    rw [← hW2, ← hP4]
    have HB12 := hid (blw_trans hb1 hb2)
    have HP4 : Hid (W.heap.size ≤ P4) := by show _ ≤ _; rw [hP4]; exact hb1.size
    clear hW2 hP4 hb1 hb2 yz y2 y0
    refine (CallsIn.inRound l (callsIn_wide.2 (tellingsI a0 K.recs.length c0 ((m : Int) + 1) W2))).mono ?_
    rintro e W3 ⟨rfl, hW3⟩
    obtain ⟨q1, hq1⟩ : ∃ q1, q1 = W2.heap.size := ⟨_, rfl⟩
    have HT0 : Hid (LBox W3 q1 [.slice a0 K.recs.length c0]) := by show LBox _ _ _; rw [hW3]; exact (LBox.new W2 #[.slice a0 K.recs.length c0] _ _ hq1).past _
    have HT1 : Hid (LBox W3 (q1 + 1) [.int .i64 ((m : Int) + 1)]) := by show LBox _ _ _; rw [hW3]; exact LBox.new _ #[.int .i64 ((m : Int) + 1)] _ _ (by rw [World.size_alloc, hq1])
    have hb3 : Below W2.heap.size W2 W3 := by rw [hW3]; exact blw_alloc (blw_alloc (Below.refl _ _) _) _
    have HB13 := hid (blw_trans HB12.out hb3)
    have HX1 := hid (boxed_blw hbx1 hb3)
    have HX2 := hid (boxed_blw hbx2 hb3)
    rw [← hq1]
    clear hb3 hW3 hq1 hbx1 hbx2 HB12
    have hr' : W3.heap[l]? = some (.loop r) := (HB13.out.block l (Array.getElem?_eq_some_iff.1 HLR.out.2).1).trans HLR.out.2
    have HW3 := hid (blw_trans HWW.out HB13.out)
    have HSQ := tellings_stops 5 (by decide) W3 K.recs m a0 c0 q1 (q1 + 1) HT0.out HT1.out (HH.out.l0.later HW3.out) HRS.out HM.out.2
    obtain ⟨fr2, hfr2⟩ : ∃ fr2 : ByteArray → Act, fr2 = fun t => { tmps := #[.agg #[.slice a0 K.recs.length c0, .slice a1 K.fl.length c1, .slice a2 K.fx.length c2], .pointer (some ⟨B, 0, none⟩), .pointer (some ⟨B + 1, 0, none⟩), .int .i64 ((m : Int) + 1), .pointer (some ⟨P4, 0, none⟩), .pointer (some ⟨P4 + 1, 0, none⟩), .string t, .agg #[.slice a0 K.recs.length c0, .slice a1 K.fl.length c1, .slice a2 K.fx.length c2], .bool true, .bool false, .pointer (some ⟨B, 0, none⟩), .slice a0 K.recs.length c0, .func (.func 68) #[] #[.pointer (some ⟨q0, 0, none⟩)], .int .i64 ((m : Int) + 1), .tuple #[.int .i64 (p : Int), .bool nt], .pointer (some ⟨B, 2, none⟩), .slice a2 K.fx.length c2, .int .i64 ((m : Int) + 1), .tuple #[.int .i64 (p : Int), .bool nt], .int .i64 (p : Int), .bool nt, .pointer (some ⟨B, 0, none⟩), .slice a0 K.recs.length c0, .int .i64 ((m : Int) + 1), .func (.func 70) #[] #[.pointer (some ⟨q1, 0, none⟩), .pointer (some ⟨q1 + 1, 0, none⟩)], .string t, undef, undef, undef, undef, undef, undef, undef, undef, undef, undef, undef, undef], defers := [] } := ⟨_, rfl⟩
    gi_wp2
    refine wpIn_rangeFunc_ownN (l₀ := l) (r₀ := r) rfl hr' (by decide) (gf := 70) (lb := #[.pointer (some ⟨q1, 0, none⟩), .pointer (some ⟨q1 + 1, 0, none⟩)]) rfl trivial (enters_of Try.func70 (by kernel_rfl) rfl) (HSQ.inRound l) belowK_t (belowK_b (Nat.le_refl _)) (Below.refl _ _) (fun _ => rfl)
      (fun pre' W' => (∀ t ∈ pre', isFixP K.fx m t = true) ∧ (Below W3.heap.size W3 W' ∧ KeepsFrom w2.heap.size W W'))
      (fun c pre' W' => ((c = .ret ∧ ∃ t ∈ pre', isFixP K.fx m t = false) ∧ W'.cell? ⟨B + 1, 0, none⟩ = some (.bool false)) ∧ (Below w.heap.size w W' ∧ KeepsFrom w2.heap.size W W'))
      (OwnFrom.and (ownFrom_pure _ _) (OwnFrom.and (ownFrom_below (Nat.le_refl _) (Nat.le_refl _)) (ownFrom_keepsFrom HB13.out.size)))
      (fun c => OwnFrom.and (OwnFrom.and (ownFrom_pure _ _) (Own.from (fun s A A' row hs hg hr => cell_kept hs hg hr) _)) (OwnFrom.and (ownFrom_below (Nat.le_refl _) HW3.out.size) (ownFrom_keepsFrom HB13.out.size)))
      ⟨by simp, Below.refl _ _, keeps_blw HB13.out⟩
      (fun t a'' _ => a'' = fr2 t)
      (fun _ _ _ _ _ _ hs _ _ => hs)
      ?assign2 ?body2 ?done2 ?stop2
    case assign2 =>
      rintro l2 pre' t W' K1 hi hK
      try dsimp only
      rw [hfr2] at hK
      dsimp only at hK
      have HK := hid hK
      have HI := hid hi
      clear hK hfr2 hi
      gi_wp2
      exact HK.out _ _ (KeepsFrom.refl _ _) (Below.refl _ _) HI.out rfl
    case body2 =>
      rintro l2 pre' t a'' W' _ _ ⟨hq, hBW', hKF⟩ ha _
      rw [hfr2] at ha
      dsimp only at ha
      subst ha
      have HQ := hid hq
      have HBW' := hid hBW'
      have HKF := hid hKF
      clear hfr2 hq hBW' hKF
      have c1' := (boxed_blw HX1.out HBW'.out).cell
      have c2' := (boxed_blw HX2.out HBW'.out).cell
      have HRR : Hid (Boxed W' (B + 1) 4 (.bool false)) := boxed_blw (boxed_blw (boxed_blw HR0.out HBl.out) HB13.out) HBW'.out
      have cR := HRR.out.cell
      have fR := HRR.out.frozen
      have zR := HRR.out.lt
      have HXX := hid (((HX0.out.later HBl.out).later HB13.out).later HBW'.out)
      have xz := HXX.out.lt
      have x2 := HXX.out.get 2 _ rfl
      have HWX := hid (blw_trans HW3.out HBW'.out)
      have HFT := hid (HFP.out t)
      cases nt
      · have HE : Hid (isFixP K.fx m t = false) := by show _ = _; rw [HFT.out]; rfl
        gi_wp2
        exact ⟨(KeepsOthers.setCell _ _ _).from _, ⟨⟨rfl, t, by simp, HE.out⟩, World.cell?_setCell_same' _ _ _ (by rw [cR]; rfl)⟩, HWX.out.setCell (p := ⟨B + 1, 0, none⟩) (by have := HBW.out; show _ ≤ _ + 1; omega) _, HKF.out.trans ((KeepsOthers.setCell _ _ _).from _)⟩
      have hpl := HPL.out rfl
      obtain ⟨b, off, hab, hbl, e0, e1, _⟩ := (HH.out.l2.later HWX.out).at_ p hpl
      subst hab
      obtain ⟨f1, hf1⟩ : ∃ f1, f1 = (K.fx.getD p Rf.none).txt := ⟨_, rfl⟩
      rw [← hf1] at e1 HFT
      have hp0 : (0 : Int) ≤ (p : Int) := by omega
      have hp3 : (p : Int) < (K.fx.length : Int) := by omega
      clear hf1 e0
      cases hs : (f1.toList == t.toList)
      · have hs2 : (f1.toList != t.toList) = true := by rw [bne, hs]; rfl
        have HE : Hid (isFixP K.fx m t = false) := by show _ = _; rw [HFT.out]; simp [same, hs]
        gi_wp2
        exact ⟨(KeepsOthers.setCell _ _ _).from _, ⟨⟨rfl, t, by simp, HE.out⟩, World.cell?_setCell_same' _ _ _ (by rw [cR]; rfl)⟩, HWX.out.setCell (p := ⟨B + 1, 0, none⟩) (by have := HBW.out; show _ ≤ _ + 1; omega) _, HKF.out.trans ((KeepsOthers.setCell _ _ _).from _)⟩
      · have hs2 : (f1.toList != t.toList) = false := by rw [bne, hs]; rfl
        have HE : Hid (isFixP K.fx m t = true) := by show _ = _; rw [HFT.out]; simp [same, hs]
        gi_wp2
        exact ⟨KeepsFrom.refl _ _, Below.refl _ _, fun z hz => (List.mem_append.1 hz).elim (HQ.out z) (fun e => by simp at e; subst e; exact HE.out), HBW'.out, HKF.out⟩
    case done2 =>
      rintro ys' W' hys ⟨hq, hBW', hKF⟩
      have HG : Hid (agP K x.1 = true) := by
        show _ = _
        rw [← HM.out.1, agP, List.all_eq_true, ← hys]; exact hq
      have HBX := hid (blw_trans HB13.out hBW')
      have HKF := hid hKF
      clear hq hBW' hKF hys hfr2
      gi_wp2
      exact ⟨HKF.out, HBX.out.mono HBl.out.size, fun z hz => (List.mem_append.1 hz).elim (HP.out z) (fun e => by simp at e; subst e; exact HG.out), blw_trans HBl.out HBX.out⟩
    case stop2 =>
      rintro c pre' W' hpre ⟨⟨⟨rfl, t, ht, hf⟩, hcl⟩, hBw, hKF⟩
      have HG : Hid (agP K x.1 = false) := by
        show _ = _
        rw [← HM.out.1, agP, List.all_eq_false]
        exact ⟨t, hpre.subset ht, by rw [hf]; simp⟩
      have HZ := hid (And.intro hcl (And.intro hBw hKF))
      clear ht hf hcl hBw hKF hpre hfr2
      gi_wp2
      exact ⟨HZ.out.2.2, ⟨⟨rfl, x, by simp, HG.out⟩, HZ.out.1⟩, HZ.out.2.1⟩
  case done =>
    rintro D ys W hD hys ⟨hp, hBl⟩ hK
    have HRT : Hid (R = true) := by
      show R = true
      rw [HRP.out, allTo_iff]
      intro i hi
      have : i ∈ ys.map (·.1) := by rw [hys]; exact List.mem_range.2 hi
      obtain ⟨j, hj, rfl⟩ := List.mem_map.1 this
      exact hp j hj
    have HRW := hid (boxed_blw HR0.out hBl)
    have hc := HRW.out.cell
    have hf := HRW.out.frozen
    have hz := HRW.out.lt
    have HBl := hid (blw_trans HB0.out hBl)
    have HKD : Hid (W.heap[D]? = some (.deferred (some [])) ∧ w2.heap.size ≤ D) := ⟨hK, hD⟩
    clear hp hBl hK hD hfr hys
    go_wp2
    have hK' := (KeepsOthers.setCell W ⟨B + 1, 0, none⟩ (.bool true)).same D _ HKD.out.1 rfl
    refine ⟨by simp, .inl ⟨_, _, rfl, run_takeDeferred hK', ?_⟩⟩
    have hc5 := cell_kept (World.cell?_setCell_same' W ⟨B + 1, 0, none⟩ (.bool true) (by rw [hc]; rfl)) (grownBy_putObj' _ D (.deferred none)) (fun r e => by cases e; exact ⟨_, hK', rfl⟩)
    refine ⟨.bool true, by simp [results, Try.f14, go_sem, hc5], by rw [HRT.out], (HBl.out.setCell (p := ⟨B + 1, 0, none⟩) (by have := HBW.out; show _ ≤ _ + 1; omega) _).trans (belowK_b (w := w) (Nat.le_refl _) _ D _ _ (Nat.le_trans HB0.out.size HKD.out.2) hK' rfl rfl)⟩
  case stop =>
    rintro D c pre W hD hpre ⟨⟨⟨rfl, j, hj, hf⟩, hcr⟩, hB⟩ hK
    have HRT : Hid (R = false) := by
      show R = false
      rw [HRP.out]
      have : j.1 ∈ List.range (lastTo K.recs K.recs.length) := hpre.subset (List.mem_map.2 ⟨j, hj, rfl⟩)
      exact allTo_false hf _ (List.mem_range.1 this)
    refine wpIn_wide.2 ?_
    have HKD : Hid (W.heap[D]? = some (.deferred (some [])) ∧ w2.heap.size ≤ D) := ⟨hK, hD⟩
    have HBl : Hid (Below w.heap.size w W) := hB
    clear hK hD hB hf hj hpre hfr
    go_wp2
    refine ⟨by simp, .inl ⟨_, _, rfl, run_takeDeferred HKD.out.1, ?_⟩⟩
    have hc5 := cell_kept hcr (grownBy_putObj' _ D (.deferred none)) (fun r e => by cases e; exact ⟨_, HKD.out.1, rfl⟩)
    refine ⟨.bool false, by simp [results, Try.f14, go_sem, hc5], by rw [HRT.out], HBl.out.trans (belowK_b (w := w) (Nat.le_refl _) W D _ _ (Nat.le_trans HB0.out.size HKD.out.2) HKD.out.1 rfl rfl)⟩

theorem recAgreeV (K : Rw) (a0 a1 a2 : Option Addr) (c0 c1 c2 : Nat) (w : World) (h : RwV w a0 a1 a2 K) :
    Calls Try.prog 14 #[.agg #[.slice a0 K.recs.length c0, .slice a1 K.fl.length c1, .slice a2 K.fx.length c2]] w fun e w' => e = .returned (.bool (agreeW K)) ∧ Below w.heap.size w w' := by
  rw [← agree_eq]; exact recAgreeP K a0 a1 a2 c0 c1 c2 w h
end Go.Proofs.Ytcefgacmagobnaa
