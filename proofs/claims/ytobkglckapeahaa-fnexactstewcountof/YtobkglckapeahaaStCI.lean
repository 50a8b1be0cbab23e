/-
  Stewards: counting: the program's StewCountOf.
-/
import Derived.Test.YtobkglckapeahaaStVI
import Derived.Test.YtobkglckapeahaaPgG
import Derived.Test.YtobkglckapeahaaPut
import Derived.Test.YtobkglckapeahaaStG
namespace Go.Proofs.Ytobkglckapeahaa
open Go.RowKit Go.Deep

theorem chk_all {K : SBk} (h : sbOk K = true) : Apart K ∧ ascCp K.cps = true ∧ K.cps.length ≤ 200 ∧ ∀ i, i < K.cps.length → 1 ≤ (K.cps.getD i Cp.none).num := by
  rw [sbOk_eq, allTo_iff] at h
  have h1 := h 1 (by omega)
  have h2 := h 2 (by omega)
  have h3 := h 3 (by omega)
  simp only [chk, Bool.and_eq_true, decide_eq_true_eq] at h1 h2 h3
  refine ⟨apart_of h1.1.2 h2.1.2, h3.1.2, h3.1.1, fun i hi => ?_⟩
  have := (allTo_iff _ _).1 h3.2 i hi
  simp only [cpOk, inB, Bool.and_eq_true, decide_eq_true_eq] at this
  omega

def VCt (B : Nat) (K : SBk) (a0 a1 a2 : Option Addr) (c0 c1 c2 : Nat) (b off k : Nat) (s : Sv) (n : Cn) (i : Nat) (u : Value) (_ : World) : Prop :=
  match i with
  | 0 => u = .agg #[.int .i64 K.now, .slice a0 K.svcs.length c0, .slice a1 K.cps.length c1, .slice a2 K.bts.length c2]
  | 1 => u = .pointer (some ⟨B, 1, none⟩)
  | 2 => u = .slice a0 K.svcs.length c0
  | 3 => u = .int .i64 (k : Nat)
  | 4 => u = .pointer (some ⟨b, off + k * 13, none⟩)
  | 5 => u = .agg #[.string s.nm, .int .i64 s.ver, .bool s.gone, .int .i64 s.image, .int .i64 s.want, .int .i64 s.down, .int .i64 s.over, .int .i64 s.next, .int .i64 s.per, .int .i64 s.least, .int .i64 s.most, .int .i64 s.load, .int .i64 s.cool]
  | 6 => u = .agg #[.int .i64 n.live, .int .i64 n.ready, .int .i64 n.old, .int .i64 n.failed, .int .i64 n.ending]
  | _ => True
theorem VCt_mono (B : Nat) (K : SBk) (a0 a1 a2 : Option Addr) (c0 c1 c2 : Nat) (b off k : Nat) (s : Sv) (n : Cn) : ∀ j u W W', Below W.heap.size W W' → VCt B K a0 a1 a2 c0 c1 c2 b off k s n j u W → VCt B K a0 a1 a2 c0 c1 c2 b off k s n j u W' := fun _ _ _ _ _ h => h
theorem Try.infoCt : (Try.prog.info? 38).map (·.size) = some 5 := by kernel_rfl

set_option maxRecDepth 8000 in
set_option maxHeartbeats 40000000 in
theorem stewCountV (K : SBk) (a0 a1 a2 : Option Addr) (c0 c1 c2 : Nat) (svc : ByteArray) (w : World) (h : SBkV w a0 a1 a2 K) (hsz : svc.size ≤ maxLen) :
    Calls Try.prog 11 #[.agg #[.int .i64 K.now, .slice a0 K.svcs.length c0, .slice a1 K.cps.length c1, .slice a2 K.bts.length c2], .string svc] w fun e w' => e = .returned (.agg #[.int .i64 (stewCount K svc).live, .int .i64 (stewCount K svc).ready, .int .i64 (stewCount K svc).old, .int .i64 (stewCount K svc).failed, .int .i64 (stewCount K svc).ending]) ∧ Below w.heap.size w w' := by
  have HH := hid h
  have HSZ := hid hsz
  have hl0 := h.s.len
  unfold maxLen at hl0
  clear h hsz
  obtain ⟨R, hR⟩ : ∃ R, R = stewCount K svc := ⟨_, rfl⟩
  have HR := hid hR
  rw [← hR]
  clear hR
  obtain ⟨wa, hwa⟩ : ∃ wa, wa = (w.alloc (.cells #[.int .i64 K.now, .slice a0 K.svcs.length c0, .slice a1 K.cps.length c1, .slice a2 K.bts.length c2] 33)).alloc (.cells #[.int .i64 0, .int .i64 0, .int .i64 0, .int .i64 0, .int .i64 0] 38) := ⟨_, rfl⟩
  have HB : Hid (Below w.heap.size w wa) := by show Below _ _ _; rw [hwa]; exact blw_alloc (blw_alloc (Below.refl _ _) _) _
  have HX : Hid (Box4 wa w.heap.size (.int .i64 K.now) (.slice a0 K.svcs.length c0) (.slice a1 K.cps.length c1) (.slice a2 K.bts.length c2)) := by show Box4 _ _ _ _ _ _; rw [hwa]; exact (Box4.new' w _ _ _ _ _ _ rfl).past _
  have HO : Hid (OwnBlk wa (w.heap.size + 1) 38 5) := by show OwnBlk _ _ _ _; rw [hwa]; exact OwnBlk.alloc_at2 _ _ _ _ _ rfl (by simp)
  go_enter Try.func11, Try.ntmps11
  go_upto_region 1 with fail
  rw [← hwa]
  clear hwa
  obtain ⟨yz, y0, y1, y2, y3⟩ := HX.out
  go_wp2_with fail
  refine (stewValidV K a0 a1 a2 c0 c1 c2 wa (HH.out.later HB.out)).mono ?_
  rintro e w1 ⟨rfl, hb1⟩
  have HB1 := hid (blw_trans HB.out hb1)
  have HX1 := hid (HX.out.later hb1)
  have HO1 := hid (HO.out.later hb1)
  clear yz y0 y1 y2 y3 hb1 HX HB HO
  cases hv : sbOk K
  · have HE : Hid (R = Cn.zero) := by show R = _; rw [HR.out]; unfold stewCount; rw [hv]; rfl
    clear hv
    have hfz := HO1.out.frozen
    have hz := HO1.out.lt
    obtain ⟨u0, e0⟩ := HO1.out.cell 0 (by omega)
    obtain ⟨u1, e1⟩ := HO1.out.cell 1 (by omega)
    obtain ⟨u2, e2⟩ := HO1.out.cell 2 (by omega)
    obtain ⟨u3, e3⟩ := HO1.out.cell 3 (by omega)
    obtain ⟨u4, e4⟩ := HO1.out.cell 4 (by omega)
    go_wp2
    have p := fun i hi => puts_at 0 [.int .i64 0, .int .i64 0, .int .i64 0, .int .i64 0, .int .i64 0] w1 0 HO1.out (by simp) i hi
    have t0 := p 0 (by simp)
    have t1 := p 1 (by simp)
    have t2 := p 2 (by simp)
    have t3 := p 3 (by simp)
    have t4 := p 4 (by simp)
    simp only [puts, Nat.add_zero, Nat.zero_add, Nat.reduceAdd, List.getElem?_cons_zero, List.getElem?_cons_succ] at t0 t1 t2 t3 t4
    refine bodyPost_ret (v := .agg #[.int .i64 0, .int .i64 0, .int .i64 0, .int .i64 0, .int .i64 0]) (by simp [results, Try.results11, go_sem, t0, t1, t2, t3, t4]) rfl ⟨by rw [HE.out]; rfl, ?_⟩
    exact puts_below (a := w) 0 (B := w.heap.size + 1) (by omega) [.int .i64 0, .int .i64 0, .int .i64 0, .int .i64 0, .int .i64 0] w1 0 HB1.out
  have HV := hid hv
  have HE : Hid (R = countOf K svc) := by show R = _; rw [HR.out]; unfold stewCount; rw [hv]; rfl
  clear HR hv
  obtain ⟨yz, y0, y1, y2, y3⟩ := HX1.out
  go_wp2_with fail
  refine (placesI K a0 a1 a2 c0 c1 c2 w1 (HH.out.later HB1.out) (chk_all HV.out).1).mono ?_
  rintro e w2 ⟨mb, rfl, hpl, hb2⟩
  have HB2 := hid (blw_trans HB1.out hb2)
  have HX2 := hid (HX1.out.later hb2)
  have HO2 := hid (HO1.out.later hb2)
  have HL := hid (look_sv hpl HH.out.nmd (chk_all HV.out).1 svc HSZ.out)
  clear yz y0 y1 y2 y3 hb2 HX1 HB1 HO1 hpl
  rcases HL.out with ⟨hix, hlk⟩ | ⟨k, hk, hix, hnm, hlk⟩
  · have HE' := HE
    clear HE
    have HE : Hid (R = Cn.zero) := by show R = _; rw [HE'.out]; unfold countOf; rw [hix]; rfl
    clear hix HE' HL
    have hfz := HO2.out.frozen
    have hz := HO2.out.lt
    obtain ⟨u0, e0⟩ := HO2.out.cell 0 (by omega)
    obtain ⟨u1, e1⟩ := HO2.out.cell 1 (by omega)
    obtain ⟨u2, e2⟩ := HO2.out.cell 2 (by omega)
    obtain ⟨u3, e3⟩ := HO2.out.cell 3 (by omega)
    obtain ⟨u4, e4⟩ := HO2.out.cell 4 (by omega)
    go_wp2
    have p := fun i hi => puts_at 0 [.int .i64 0, .int .i64 0, .int .i64 0, .int .i64 0, .int .i64 0] w2 0 HO2.out (by simp) i hi
    have t0 := p 0 (by simp)
    have t1 := p 1 (by simp)
    have t2 := p 2 (by simp)
    have t3 := p 3 (by simp)
    have t4 := p 4 (by simp)
    simp only [puts, Nat.add_zero, Nat.zero_add, Nat.reduceAdd, List.getElem?_cons_zero, List.getElem?_cons_succ] at t0 t1 t2 t3 t4
    refine bodyPost_ret (v := .agg #[.int .i64 0, .int .i64 0, .int .i64 0, .int .i64 0, .int .i64 0]) (by simp [results, Try.results11, go_sem, t0, t1, t2, t3, t4]) rfl ⟨by rw [HE.out]; rfl, ?_⟩
    exact puts_below (a := w) 0 (B := w.heap.size + 1) (by omega) [.int .i64 0, .int .i64 0, .int .i64 0, .int .i64 0, .int .i64 0] w2 0 HB2.out
  · obtain ⟨s, hs⟩ : ∃ s, s = K.svcs.getD k Sv.none := ⟨_, rfl⟩
    obtain ⟨b, off, ha, hbl, hf⟩ := HH.out.s.at_ k hk
    rw [← hs] at hf hnm
    have HE2 : Hid (R = cnL K.cps s.image (rowCp K.cps s.nm)) := by
      show R = _
      rw [HE.out]
      unfold countOf
      rw [hix, if_pos (by omega), hnm]
      have e : svGet K.svcs (k : Int) = s := by unfold svGet; rw [Int.toNat_natCast, hs]
      rw [e]
      exact cnTo_row (chk_all HV.out).2.1 (chk_all HV.out).2.2.2 s.image
    have HF := hid hf
    have HBL := hid hbl
    have HHK := hid hk
    subst ha
    clear hix hs hnm HL HE hf
    have hk0 : (0 : Int) ≤ (k : Int) := by omega
    have hk3 : (k : Int) < (K.svcs.length : Int) := by omega
    go_upto_region 6 with fail
    clear hlk hbl hk
    refine RY.region_put (VCt w.heap.size K (some ⟨b, off, none⟩) a1 a2 c0 c1 c2 b off k s R) (VCt_mono _ _ _ _ _ _ _ _ _ _ _ _ _) 6 7 28 4 38 5 (w.heap.size + 1) (fun _ _ _ _ _ h => h) (by kernel_rfl) (by kernel_rfl) (by kernel_rfl) (by kernel_rfl) _ _ rfl rfl rfl rfl rfl (by decide) (by kernel_rfl) rfl (by kernel_rfl) HO2.out Try.infoCt ?_ ?_ ?_
    · rintro u W rfl
      exact ⟨[_, _, _, _, _], rfl, rfl, by simp [Value.oneCell']⟩
    · intro i o ho hne a W hW hk hd
      obtain ⟨yz, y0, y1, y2, y3⟩ := HX2.out
      have hV := HH.out.later (hW.below HB2.out (by omega))
      have hyz : w.heap.size < W.heap.size := Nat.lt_of_lt_of_le yz hW.size
      have x0 := (hW.cell yz (by omega) 0).trans y0
      have x1 := (hW.cell yz (by omega) 1).trans y1
      have x2 := (hW.cell yz (by omega) 2).trans y2
      have x3 := (hW.cell yz (by omega) 3).trans y3
      have et2 : a.tmps[2]?.getD undef = .pointer (some ⟨w.heap.size, 0, none⟩) := (RY.ev_tmp a 2).trans ((hk 2 (by kernel_rfl)).trans rfl)
      have et5 : a.tmps[5]?.getD undef = .int .i64 (k : Nat) := (RY.ev_tmp a 5).trans ((hk 5 (by kernel_rfl)).trans rfl)
      have hfW := HF.out.later (hW.below HB2.out (by omega)) HBL.out
      clear y0 y1 y2 y3
      match i, ho with
      | 0, ho =>
        injection ho with ho; subst ho
        exact Or.inl ⟨_, W, by simp [execOp, go_sem, et2, x0, x1, x2, x3], Below.refl _ _, rfl⟩
      | 1, ho =>
        injection ho with ho; subst ho
        exact Or.inl ⟨_, W, by simp [execOp, go_sem, et2], Below.refl _ _, rfl⟩
      | 2, ho =>
        injection ho with ho; subst ho
        have e0 : a.tmps[23]?.getD undef = _ := (RY.ev_tmp a 23).trans (hd 1 _ 23 rfl rfl ⟨⟨1, .data⟩, by simp, rfl, rfl⟩)
        exact Or.inl ⟨_, W, by simp [execOp, go_sem, e0, x1], Below.refl _ _, rfl⟩
      | 3, ho =>
        injection ho with ho; subst ho
        exact Or.inl ⟨_, W, by simp [execOp, go_sem, et5], Below.refl _ _, rfl⟩
      | 4, ho =>
        injection ho with ho; subst ho
        have e0 : a.tmps[24]?.getD undef = _ := (RY.ev_tmp a 24).trans (hd 2 _ 24 rfl rfl ⟨⟨2, .data⟩, by simp, rfl, rfl⟩)
        have e1 : a.tmps[25]?.getD undef = _ := (RY.ev_tmp a 25).trans (hd 3 _ 25 rfl rfl ⟨⟨3, .data⟩, by simp, rfl, rfl⟩)
        have hkl := HHK.out
        exact Or.inl ⟨.pointer (some ⟨b, off + k * 13, none⟩), W, by simp [execOp, go_sem, e0, e1]; (try (first | omega | (intro hh; omega))), Below.refl _ _, rfl⟩
      | 5, ho =>
        injection ho with ho; subst ho
        have e0 : a.tmps[26]?.getD undef = _ := (RY.ev_tmp a 26).trans (hd 4 _ 26 rfl rfl ⟨⟨4, .data⟩, by simp, rfl, rfl⟩)
        obtain ⟨f0, f1, f2, f3, f4, f5, f6, f7, f8, f9, f10, f11, f12, _⟩ := hfW
        exact Or.inl ⟨_, W, by simp [execOp, go_sem, e0, f0, f1, f2, f3, f4, f5, f6, f7, f8, f9, f10, f11, f12], Below.refl _ _, rfl⟩
      | 6, ho =>
        injection ho with ho; subst ho
        have e0 : a.tmps[22]?.getD undef = _ := (RY.ev_tmp a 22).trans (hd 0 _ 22 rfl rfl ⟨⟨0, .data⟩, by simp, rfl, rfl⟩)
        have e1 : a.tmps[27]?.getD undef = _ := (RY.ev_tmp a 27).trans (hd 5 _ 27 rfl rfl ⟨⟨5, .data⟩, by simp, rfl, rfl⟩)
        refine Or.inr ⟨33, #[.agg #[.int .i64 K.now, .slice (some ⟨b, off, none⟩) K.svcs.length c0, .slice a1 K.cps.length c1, .slice a2 K.bts.length c2], .agg #[.string s.nm, .int .i64 s.ver, .bool s.gone, .int .i64 s.image, .int .i64 s.want, .int .i64 s.down, .int .i64 s.over, .int .i64 s.next, .int .i64 s.per, .int .i64 s.least, .int .i64 s.most, .int .i64 s.load, .int .i64 s.cool]], by simp [go_sem, e0, e1], (countedI K _ a1 a2 c0 c1 c2 s W hV (chk_all HV.out).2.1 (chk_all HV.out).2.2.1).mono ?_⟩
        rintro e W' ⟨rfl, hb⟩
        rw [← HE2.out]
        exact ⟨_, rfl, hb, rfl⟩
      | 7, ho => exact absurd rfl hne
      | n + 8, ho => simp at ho
    intro W vs hW hvs hOw hrg
    have e : vs 28 = .agg #[.int .i64 R.live, .int .i64 R.ready, .int .i64 R.old, .int .i64 R.failed, .int .i64 R.ending] := hvs 6 _ 28 rfl rfl
    have rg := hrg [.int .i64 R.live, .int .i64 R.ready, .int .i64 R.old, .int .i64 R.failed, .int .i64 R.ending] e
    have t0 := rg 0 _ rfl
    have t1 := rg 1 _ rfl
    have t2 := rg 2 _ rfl
    have t3 := rg 3 _ rfl
    have t4 := rg 4 _ rfl
    have HB3 := hid (hW.below HB2.out (by omega))
    simp only [Nat.zero_add, Nat.add_zero] at t0 t1 t2 t3 t4
    simp only [RY.putAll, Act.put, List.setIfInBounds_toArray, List.set_cons_zero, List.set_cons_succ]
    clear hvs hrg rg e
    generalize vs 22 = z22
    generalize vs 23 = z23
    generalize vs 24 = z24
    generalize vs 25 = z25
    generalize vs 26 = z26
    generalize vs 27 = z27
    generalize vs 28 = z28
    go_wp2
    refine bodyPost_ret (v := .agg #[.int .i64 R.live, .int .i64 R.ready, .int .i64 R.old, .int .i64 R.failed, .int .i64 R.ending]) (by simp [results, Try.results11, go_sem, t0, t1, t2, t3, t4]) rfl ⟨rfl, HB3.out⟩

theorem stewCountI (K : SBk) (b0 b1 b2 : Nat) (svc : ByteArray) (w : World) (h : SBkIn w b0 b1 b2 K) (hsz : svc.size ≤ maxLen) :
    Calls Try.prog 11 #[.agg #[.int .i64 K.now, .slice (some ⟨b0, 0, none⟩) K.svcs.length K.svcs.length, .slice (some ⟨b1, 0, none⟩) K.cps.length K.cps.length, .slice (some ⟨b2, 0, none⟩) K.bts.length K.bts.length], .string svc] w fun e w' => e = .returned (.agg #[.int .i64 (stewCount K svc).live, .int .i64 (stewCount K svc).ready, .int .i64 (stewCount K svc).old, .int .i64 (stewCount K svc).failed, .int .i64 (stewCount K svc).ending]) ∧ Below w.heap.size w w' :=
  stewCountV K _ _ _ _ _ _ svc w h.v hsz

end Go.Proofs.Ytobkglckapeahaa
