/-
  Stewards: what is kept while an act is filled.
-/
import Derived.Test.YtamhfnlogldpaaaGreatStT
import Derived.Test.YtamhfnlogldpaaaGreatMemAc
namespace Go.Proofs.YtamhfnlogldpaaaGreat
open Go.RowKit Go.Deep

/-- An act's variable and the result's. -/
structure AV (W : World) (p q : Nat) (cs : List Value) : Prop where
  a : OwnBlk W p 47 8
  r : OwnBlk W q 47 8
  ne : p ≠ q
  len : cs.length = 8
  cel : ∀ j, j < 8 → W.cell? ⟨p, j, none⟩ = cs[j]?
theorem AV.later {W W' : World} {p q : Nat} {cs : List Value} (h : AV W p q cs) (hb : Below W.heap.size W W') : AV W' p q cs :=
  ⟨h.a.later hb, h.r.later hb, h.ne, h.len, fun j hj => (hb.cell (p := ⟨p, j, none⟩) h.a.lt).trans (h.cel j hj)⟩
theorem AV.sc {W : World} {p q : Nat} {cs : List Value} (h : AV W p q cs) (j : Nat) (hj : j < 8) (u : Value) : AV (W.setCell ⟨p, j, none⟩ u) p q (cs.set j u) := by
  refine ⟨h.a.setCell _ _, h.r.sc_other h.ne.symm _ _, h.ne, by rw [List.length_set]; exact h.len, fun i hi => ?_⟩
  by_cases e : i = j
  · subst e
    rw [sc_eq h.a i hj u, List.getElem?_set_self (by rw [h.len]; exact hj)]
  · rw [sc_ne _ _ _ _ _ _ (Or.inr e), h.cel i hi, List.getElem?_set_ne (fun e' => e e'.symm)]
theorem AV.range {W : World} {p q : Nat} {cs : List Value} (h : AV W p q cs) : W.rangeAt p 0 cs := fun j v hv => by
  have hj : j < 8 := by rw [← h.len]; exact (List.getElem?_eq_some_iff.1 hv).1
  rw [Nat.zero_add, h.cel j hj]; exact hv
theorem AV.at_ {W : World} {p q : Nat} {cs : List Value} (h : AV W p q cs) (j : Nat) (v : Value) (hv : cs[j]? = some v) (hj : j < 8) : W.cell? ⟨p, j, none⟩ = some v := (h.cel j hj).trans hv

theorem setCells_below {u W : World} {q : Nat} (h : Below u.heap.size u W) (hq : u.heap.size ≤ q) : ∀ (o : Nat) (vs : List Value), Below u.heap.size u (W.setCells q o vs) := by
  intro o vs
  induction vs generalizing o W with
  | nil => exact h
  | cons x vs ih => rw [World.setCells]; exact ih (h.setCell (p := ⟨q, o, none⟩) hq x) (o + 1)

/-- What a scaler asks: the want, the cool, whether it scales. -/
def scal (s : Sv) : Int × Int × Bool :=
  if s.want < s.least then (s.least, 0, true)
  else if s.most < s.want then (s.most, 0, true)
  else if s.want < desired s then (desired s, 0, true)
  else if desired s < s.want then (if 3 ≤ s.cool then (s.want - 1, 0, true) else (s.want, s.cool + 1, true))
  else if s.cool = 0 then (0, 0, false) else (s.want, 0, true)
def scalAc (s : Sv) : Ac := ⟨s.nm, s.ver, 0, (scal s).1, (scal s).2.1, (scal s).2.2, [], false⟩

set_option maxRecDepth 8000 in
set_option maxHeartbeats 16000000 in
theorem l16ScalerS (s : Sv) (w : World) (h1 : 0 < s.per) (h2 : s.per ≤ 1000000) (h3 : 0 ≤ s.load) (h4 : s.load ≤ 1000000) (h5 : 0 ≤ s.want) (h6 : s.want ≤ 1000) (h7 : 0 ≤ s.cool) (h8 : s.cool ≤ 1000) :
    Calls Tryz.prog 54 #[.agg #[.string s.nm, .int .i64 s.ver, .bool s.gone, .int .i64 s.image, .int .i64 s.want, .int .i64 s.down, .int .i64 s.over, .int .i64 s.next, .int .i64 s.per, .int .i64 s.least, .int .i64 s.most, .int .i64 s.load, .int .i64 s.cool], .agg #[.string s.nm, .int .i64 s.ver, .int .i64 0, .int .i64 0, .int .i64 0, .bool false, .slice none 0 0, .bool false]] w fun e w' => e = .returned (.agg #[.string s.nm, .int .i64 s.ver, .int .i64 0, .int .i64 (scal s).1, .int .i64 (scal s).2.1, .bool (scal s).2.2, .slice none 0 0, .bool false]) ∧ Below w.heap.size w w' := by
  obtain ⟨R, hR⟩ : ∃ R, R = scal s := ⟨_, rfl⟩
  have HR := hid hR
  rw [← hR]
  clear hR
  obtain ⟨wa, hwa⟩ : ∃ wa, wa = ((w.alloc (.cells #[.string s.nm, .int .i64 s.ver, .bool s.gone, .int .i64 s.image, .int .i64 s.want, .int .i64 s.down, .int .i64 s.over, .int .i64 s.next, .int .i64 s.per, .int .i64 s.least, .int .i64 s.most, .int .i64 s.load, .int .i64 s.cool] 50)).alloc (.cells #[.string s.nm, .int .i64 s.ver, .int .i64 0, .int .i64 0, .int .i64 0, .bool false, .slice none 0 0, .bool false] 47)).alloc (.cells #[.string { data := #[] }, .int .i64 0, .int .i64 0, .int .i64 0, .int .i64 0, .bool false, .slice none 0 0, .bool false] 47) := ⟨_, rfl⟩
  have HB : Hid (Below w.heap.size w wa) := by show Below _ _ _; rw [hwa]; exact blw_alloc (blw_alloc (blw_alloc (Below.refl _ _) _) _) _
  have HY : Hid (Box13 wa w.heap.size (.string s.nm) (.int .i64 s.ver) (.bool s.gone) (.int .i64 s.image) (.int .i64 s.want) (.int .i64 s.down) (.int .i64 s.over) (.int .i64 s.next) (.int .i64 s.per) (.int .i64 s.least) (.int .i64 s.most) (.int .i64 s.load) (.int .i64 s.cool)) := by show Box13 _ _ _ _ _ _ _ _ _ _ _ _ _ _ _ ; rw [hwa]; exact ((Box13.new' w _ _ _ _ _ _ _ _ _ _ _ _ _ _ _  rfl).past _).past _
  have HV : Hid (AV wa (w.heap.size + 1) (w.heap.size + 2) [.string s.nm, .int .i64 s.ver, .int .i64 0, .int .i64 0, .int .i64 0, .bool false, .slice none 0 0, .bool false]) := by
    show AV _ _ _ _
    rw [hwa]
    refine ⟨(OwnBlk.alloc_at2 _ _ _ _ _ rfl (by simp)).later (blw_alloc (Below.refl _ _) _), OwnBlk.alloc_at2 _ _ _ _ _ rfl (by simp), by omega, rfl, fun j hj => ?_⟩
    have hb : Below (w.heap.size + 2) _ (((w.alloc (.cells #[.string s.nm, .int .i64 s.ver, .bool s.gone, .int .i64 s.image, .int .i64 s.want, .int .i64 s.down, .int .i64 s.over, .int .i64 s.next, .int .i64 s.per, .int .i64 s.least, .int .i64 s.most, .int .i64 s.load, .int .i64 s.cool] 50)).alloc (.cells #[.string s.nm, .int .i64 s.ver, .int .i64 0, .int .i64 0, .int .i64 0, .bool false, .slice none 0 0, .bool false] 47)).alloc (.cells #[.string { data := #[] }, .int .i64 0, .int .i64 0, .int .i64 0, .int .i64 0, .bool false, .slice none 0 0, .bool false] 47)) := Below.mono (blw_alloc (Below.refl _ ((w.alloc (.cells #[.string s.nm, .int .i64 s.ver, .bool s.gone, .int .i64 s.image, .int .i64 s.want, .int .i64 s.down, .int .i64 s.over, .int .i64 s.next, .int .i64 s.per, .int .i64 s.least, .int .i64 s.most, .int .i64 s.load, .int .i64 s.cool] 50)).alloc (.cells #[.string s.nm, .int .i64 s.ver, .int .i64 0, .int .i64 0, .int .i64 0, .bool false, .slice none 0 0, .bool false] 47))) _) (by simp)
    rw [hb.cell (p := ⟨w.heap.size + 1, j, none⟩) (by show w.heap.size + 1 < _; omega)]
    match j, hj with
    | 0, _ => exact World.cell?_alloc_at _ _ _ _ (by simp)
    | 1, _ => exact World.cell?_alloc_at _ _ _ _ (by simp)
    | 2, _ => exact World.cell?_alloc_at _ _ _ _ (by simp)
    | 3, _ => exact World.cell?_alloc_at _ _ _ _ (by simp)
    | 4, _ => exact World.cell?_alloc_at _ _ _ _ (by simp)
    | 5, _ => exact World.cell?_alloc_at _ _ _ _ (by simp)
    | 6, _ => exact World.cell?_alloc_at _ _ _ _ (by simp)
    | 7, _ => exact World.cell?_alloc_at _ _ _ _ (by simp)
  go_enter Tryz.func54, Tryz.ntmps54
  go_upto_region 1 with fail
  rw [← hwa]
  clear hwa
  obtain ⟨sz, s0, s1, s2, s3, s4, s5, s6, s7, s8, s9, s10, s11, s12⟩ := HY.out
  go_wp2_with fail
  refine (l16DesiredS s wa h1 h2 h3 h4).mono ?_
  rintro e w1 ⟨rfl, hb⟩
  have HB1 := hid (blw_trans HB.out hb)
  have HV1 := hid (HV.out.later hb)
  have HY1 := hid (HY.out.later hb)
  clear sz s0 s1 s2 s3 s4 s5 s6 s7 s8 s9 s10 s11 s12 HB HV HY hb
  obtain ⟨d, hd⟩ : ∃ d, d = desired s := ⟨_, rfl⟩
  have HF : Hid (R = if s.want < s.least then (s.least, 0, true) else if s.most < s.want then (s.most, 0, true) else if s.want < d then (d, 0, true) else if d < s.want then (if 3 ≤ s.cool then (s.want - 1, 0, true) else (s.want, s.cool + 1, true)) else if s.cool = 0 then (0, 0, false) else (s.want, 0, true)) := by show R = _; rw [HR.out, scal, hd]
  rw [← hd]
  clear hd HR
  obtain ⟨w2, hw2⟩ : ∃ w2, w2 = (w1.setCell ⟨w.heap.size + 1, 5, none⟩ (.bool true)).setCell ⟨w.heap.size + 1, 3, none⟩ (.int .i64 s.want) := ⟨_, rfl⟩
  have HV2 : Hid (AV w2 (w.heap.size + 1) (w.heap.size + 2) [.string s.nm, .int .i64 s.ver, .int .i64 0, .int .i64 s.want, .int .i64 0, .bool true, .slice none 0 0, .bool false]) := by show AV _ _ _ _; rw [hw2]; exact (HV1.out.sc 5 (by omega) _).sc 3 (by omega) _
  have HY2 : Hid (Box13 w2 w.heap.size (.string s.nm) (.int .i64 s.ver) (.bool s.gone) (.int .i64 s.image) (.int .i64 s.want) (.int .i64 s.down) (.int .i64 s.over) (.int .i64 s.next) (.int .i64 s.per) (.int .i64 s.least) (.int .i64 s.most) (.int .i64 s.load) (.int .i64 s.cool)) := by show Box13 _ _ _ _ _ _ _ _ _ _ _ _ _ _ _ ; rw [hw2]; exact ⟨by rw [sc_size, sc_size]; exact HY1.out.lt, (sc_ne _ _ _ _ _ _ (Or.inl (by omega))).trans ((sc_ne _ _ _ _ _ _ (Or.inl (by omega))).trans HY1.out.x0), (sc_ne _ _ _ _ _ _ (Or.inl (by omega))).trans ((sc_ne _ _ _ _ _ _ (Or.inl (by omega))).trans HY1.out.x1), (sc_ne _ _ _ _ _ _ (Or.inl (by omega))).trans ((sc_ne _ _ _ _ _ _ (Or.inl (by omega))).trans HY1.out.x2), (sc_ne _ _ _ _ _ _ (Or.inl (by omega))).trans ((sc_ne _ _ _ _ _ _ (Or.inl (by omega))).trans HY1.out.x3), (sc_ne _ _ _ _ _ _ (Or.inl (by omega))).trans ((sc_ne _ _ _ _ _ _ (Or.inl (by omega))).trans HY1.out.x4), (sc_ne _ _ _ _ _ _ (Or.inl (by omega))).trans ((sc_ne _ _ _ _ _ _ (Or.inl (by omega))).trans HY1.out.x5), (sc_ne _ _ _ _ _ _ (Or.inl (by omega))).trans ((sc_ne _ _ _ _ _ _ (Or.inl (by omega))).trans HY1.out.x6), (sc_ne _ _ _ _ _ _ (Or.inl (by omega))).trans ((sc_ne _ _ _ _ _ _ (Or.inl (by omega))).trans HY1.out.x7), (sc_ne _ _ _ _ _ _ (Or.inl (by omega))).trans ((sc_ne _ _ _ _ _ _ (Or.inl (by omega))).trans HY1.out.x8), (sc_ne _ _ _ _ _ _ (Or.inl (by omega))).trans ((sc_ne _ _ _ _ _ _ (Or.inl (by omega))).trans HY1.out.x9), (sc_ne _ _ _ _ _ _ (Or.inl (by omega))).trans ((sc_ne _ _ _ _ _ _ (Or.inl (by omega))).trans HY1.out.x10), (sc_ne _ _ _ _ _ _ (Or.inl (by omega))).trans ((sc_ne _ _ _ _ _ _ (Or.inl (by omega))).trans HY1.out.x11), (sc_ne _ _ _ _ _ _ (Or.inl (by omega))).trans ((sc_ne _ _ _ _ _ _ (Or.inl (by omega))).trans HY1.out.x12)⟩
  have HB2 : Hid (Below w.heap.size w w2) := by show Below _ _ _; rw [hw2]; exact (HB1.out.setCell (p := ⟨w.heap.size + 1, 5, none⟩) (by show w.heap.size ≤ w.heap.size + 1; omega) _).setCell (p := ⟨w.heap.size + 1, 3, none⟩) (by show w.heap.size ≤ w.heap.size + 1; omega) _
  obtain ⟨sz, s0, s1, s2, s3, s4, s5, s6, s7, s8, s9, s10, s11, s12⟩ := HY1.out
  have v3 := HV1.out.at_ 3 _ rfl (by omega)
  have v5 := HV1.out.at_ 5 _ rfl (by omega)
  have vz := HV1.out.a.lt
  have hfz := HV1.out.a.frozen
  go_upto_region 4 with fail
  rw [← hw2]
  clear hw2 sz s0 s1 s2 s3 s4 s5 s6 s7 s8 s9 s10 s11 s12 v3 v5 vz hfz HB1 HV1 HY1
  obtain ⟨sz, s0, s1, s2, s3, s4, s5, s6, s7, s8, s9, s10, s11, s12⟩ := HY2.out
  have v3 := HV2.out.at_ 3 _ rfl (by omega)
  have v4 := HV2.out.at_ 4 _ rfl (by omega)
  have v5 := HV2.out.at_ 5 _ rfl (by omega)
  have vz := HV2.out.a.lt
  have hfz := HV2.out.a.frozen

  by_cases c1 : s.want < s.least
  · have HG : Hid (R = (s.least, 0, true)) := by show R = _; rw [HF.out]; simp [c1]
    clear HF
    obtain ⟨w9, hw9⟩ : ∃ w9, w9 = (w2.setCell ⟨w.heap.size + 1, 3, none⟩ (.int .i64 s.least)) := ⟨_, rfl⟩
    have HV9 : Hid (AV w9 (w.heap.size + 1) (w.heap.size + 2) [.string s.nm, .int .i64 s.ver, .int .i64 0, .int .i64 s.least, .int .i64 0, .bool true, .slice none 0 0, .bool false]) := by show AV _ _ _ _; rw [hw9]; exact (HV2.out.sc 3 (by omega) _)
    have HB9 : Hid (Below w.heap.size w w9) := by show Below _ _ _; rw [hw9]; exact (HB2.out.setCell (p := ⟨w.heap.size + 1, 3, none⟩) (by show w.heap.size ≤ w.heap.size + 1; omega) _)
    go_upto_region 17 with fail
    rw [← hw9]
    clear hw9 sz s0 s1 s2 s3 s4 s5 s6 s7 s8 s9 s10 s11 s12 v3 v4 v5 vz hfz HV2 HY2 HB2
    have hrg := HV9.out.range
    have hth := RY.own_there HV9.out.r
    have hrt : World.rangeAt (w9.setCells (w.heap.size + 2) 0 [.string s.nm, .int .i64 s.ver, .int .i64 0, .int .i64 s.least, .int .i64 0, .bool true, .slice none 0 0, .bool false]) (w.heap.size + 2) 0 [.string s.nm, .int .i64 s.ver, .int .i64 0, .int .i64 s.least, .int .i64 0, .bool true, .slice none 0 0, .bool false] := World.rangeAt_setCells_same _ _ _ _ hth
    refine wp_region_lit ?_
    refine wpList_load_mid rfl 47 _ rfl (w.heap.size + 1) 0 rfl [.string s.nm, .int .i64 s.ver, .int .i64 0, .int .i64 s.least, .int .i64 0, .bool true, .slice none 0 0, .bool false] _ hrg Tryz.underlying47 rfl (by kernel_rfl) ?_
    refine wpList_store_mid rfl 47 _ _ rfl (w.heap.size + 2) 0 #[.string s.nm, .int .i64 s.ver, .int .i64 0, .int .i64 s.least, .int .i64 0, .bool true, .slice none 0 0, .bool false] rfl rfl hth (by kernel_rfl) (by simp [Value.oneCell']) ?_
    simp only [Act.put, List.setIfInBounds_toArray, List.set_cons_zero, List.set_cons_succ]
    go_wp2
    refine bodyPost_ret (v := .agg #[.string s.nm, .int .i64 s.ver, .int .i64 0, .int .i64 s.least, .int .i64 0, .bool true, .slice none 0 0, .bool false]) (by simp [results, Tryz.results54, asAddr, run_loadVar_mid (P := Tryz.prog) _ _ _ 47 [.string s.nm, .int .i64 s.ver, .int .i64 0, .int .i64 s.least, .int .i64 0, .bool true, .slice none 0 0, .bool false] _ hrt Tryz.underlying47 rfl (by kernel_rfl)]) rfl ?_
    rw [HG.out]
    exact ⟨rfl, setCells_below HB9.out (by omega) _ _⟩
  by_cases c2 : s.most < s.want
  · have HG : Hid (R = (s.most, 0, true)) := by show R = _; rw [HF.out]; simp [c1, c2]
    clear HF
    obtain ⟨w9, hw9⟩ : ∃ w9, w9 = (w2.setCell ⟨w.heap.size + 1, 3, none⟩ (.int .i64 s.most)) := ⟨_, rfl⟩
    have HV9 : Hid (AV w9 (w.heap.size + 1) (w.heap.size + 2) [.string s.nm, .int .i64 s.ver, .int .i64 0, .int .i64 s.most, .int .i64 0, .bool true, .slice none 0 0, .bool false]) := by show AV _ _ _ _; rw [hw9]; exact (HV2.out.sc 3 (by omega) _)
    have HB9 : Hid (Below w.heap.size w w9) := by show Below _ _ _; rw [hw9]; exact (HB2.out.setCell (p := ⟨w.heap.size + 1, 3, none⟩) (by show w.heap.size ≤ w.heap.size + 1; omega) _)
    go_upto_region 17 with fail
    rw [← hw9]
    clear hw9 sz s0 s1 s2 s3 s4 s5 s6 s7 s8 s9 s10 s11 s12 v3 v4 v5 vz hfz HV2 HY2 HB2
    have hrg := HV9.out.range
    have hth := RY.own_there HV9.out.r
    have hrt : World.rangeAt (w9.setCells (w.heap.size + 2) 0 [.string s.nm, .int .i64 s.ver, .int .i64 0, .int .i64 s.most, .int .i64 0, .bool true, .slice none 0 0, .bool false]) (w.heap.size + 2) 0 [.string s.nm, .int .i64 s.ver, .int .i64 0, .int .i64 s.most, .int .i64 0, .bool true, .slice none 0 0, .bool false] := World.rangeAt_setCells_same _ _ _ _ hth
    refine wp_region_lit ?_
    refine wpList_load_mid rfl 47 _ rfl (w.heap.size + 1) 0 rfl [.string s.nm, .int .i64 s.ver, .int .i64 0, .int .i64 s.most, .int .i64 0, .bool true, .slice none 0 0, .bool false] _ hrg Tryz.underlying47 rfl (by kernel_rfl) ?_
    refine wpList_store_mid rfl 47 _ _ rfl (w.heap.size + 2) 0 #[.string s.nm, .int .i64 s.ver, .int .i64 0, .int .i64 s.most, .int .i64 0, .bool true, .slice none 0 0, .bool false] rfl rfl hth (by kernel_rfl) (by simp [Value.oneCell']) ?_
    simp only [Act.put, List.setIfInBounds_toArray, List.set_cons_zero, List.set_cons_succ]
    go_wp2
    refine bodyPost_ret (v := .agg #[.string s.nm, .int .i64 s.ver, .int .i64 0, .int .i64 s.most, .int .i64 0, .bool true, .slice none 0 0, .bool false]) (by simp [results, Tryz.results54, asAddr, run_loadVar_mid (P := Tryz.prog) _ _ _ 47 [.string s.nm, .int .i64 s.ver, .int .i64 0, .int .i64 s.most, .int .i64 0, .bool true, .slice none 0 0, .bool false] _ hrt Tryz.underlying47 rfl (by kernel_rfl)]) rfl ?_
    rw [HG.out]
    exact ⟨rfl, setCells_below HB9.out (by omega) _ _⟩
  by_cases c3 : s.want < d
  · have HG : Hid (R = (d, 0, true)) := by show R = _; rw [HF.out]; simp [c1, c2, c3]
    clear HF
    obtain ⟨w9, hw9⟩ : ∃ w9, w9 = (w2.setCell ⟨w.heap.size + 1, 3, none⟩ (.int .i64 d)) := ⟨_, rfl⟩
    have HV9 : Hid (AV w9 (w.heap.size + 1) (w.heap.size + 2) [.string s.nm, .int .i64 s.ver, .int .i64 0, .int .i64 d, .int .i64 0, .bool true, .slice none 0 0, .bool false]) := by show AV _ _ _ _; rw [hw9]; exact (HV2.out.sc 3 (by omega) _)
    have HB9 : Hid (Below w.heap.size w w9) := by show Below _ _ _; rw [hw9]; exact (HB2.out.setCell (p := ⟨w.heap.size + 1, 3, none⟩) (by show w.heap.size ≤ w.heap.size + 1; omega) _)
    go_upto_region 17 with fail
    rw [← hw9]
    clear hw9 sz s0 s1 s2 s3 s4 s5 s6 s7 s8 s9 s10 s11 s12 v3 v4 v5 vz hfz HV2 HY2 HB2
    have hrg := HV9.out.range
    have hth := RY.own_there HV9.out.r
    have hrt : World.rangeAt (w9.setCells (w.heap.size + 2) 0 [.string s.nm, .int .i64 s.ver, .int .i64 0, .int .i64 d, .int .i64 0, .bool true, .slice none 0 0, .bool false]) (w.heap.size + 2) 0 [.string s.nm, .int .i64 s.ver, .int .i64 0, .int .i64 d, .int .i64 0, .bool true, .slice none 0 0, .bool false] := World.rangeAt_setCells_same _ _ _ _ hth
    refine wp_region_lit ?_
    refine wpList_load_mid rfl 47 _ rfl (w.heap.size + 1) 0 rfl [.string s.nm, .int .i64 s.ver, .int .i64 0, .int .i64 d, .int .i64 0, .bool true, .slice none 0 0, .bool false] _ hrg Tryz.underlying47 rfl (by kernel_rfl) ?_
    refine wpList_store_mid rfl 47 _ _ rfl (w.heap.size + 2) 0 #[.string s.nm, .int .i64 s.ver, .int .i64 0, .int .i64 d, .int .i64 0, .bool true, .slice none 0 0, .bool false] rfl rfl hth (by kernel_rfl) (by simp [Value.oneCell']) ?_
    simp only [Act.put, List.setIfInBounds_toArray, List.set_cons_zero, List.set_cons_succ]
    go_wp2
    refine bodyPost_ret (v := .agg #[.string s.nm, .int .i64 s.ver, .int .i64 0, .int .i64 d, .int .i64 0, .bool true, .slice none 0 0, .bool false]) (by simp [results, Tryz.results54, asAddr, run_loadVar_mid (P := Tryz.prog) _ _ _ 47 [.string s.nm, .int .i64 s.ver, .int .i64 0, .int .i64 d, .int .i64 0, .bool true, .slice none 0 0, .bool false] _ hrt Tryz.underlying47 rfl (by kernel_rfl)]) rfl ?_
    rw [HG.out]
    exact ⟨rfl, setCells_below HB9.out (by omega) _ _⟩
  by_cases c4 : d < s.want
  · by_cases c5 : 3 ≤ s.cool
    · have HG : Hid (R = (s.want - 1, 0, true)) := by show R = _; rw [HF.out]; simp [c1, c2, c3, c4, c5]
      clear HF
      obtain ⟨w9, hw9⟩ : ∃ w9, w9 = (w2.setCell ⟨w.heap.size + 1, 3, none⟩ (.int .i64 (s.want - 1))) := ⟨_, rfl⟩
      have HV9 : Hid (AV w9 (w.heap.size + 1) (w.heap.size + 2) [.string s.nm, .int .i64 s.ver, .int .i64 0, .int .i64 (s.want - 1), .int .i64 0, .bool true, .slice none 0 0, .bool false]) := by show AV _ _ _ _; rw [hw9]; exact (HV2.out.sc 3 (by omega) _)
      have HB9 : Hid (Below w.heap.size w w9) := by show Below _ _ _; rw [hw9]; exact (HB2.out.setCell (p := ⟨w.heap.size + 1, 3, none⟩) (by show w.heap.size ≤ w.heap.size + 1; omega) _)
      go_upto_region 17 with fail
      rw [← hw9]
      clear hw9 sz s0 s1 s2 s3 s4 s5 s6 s7 s8 s9 s10 s11 s12 v3 v4 v5 vz hfz HV2 HY2 HB2
      have hrg := HV9.out.range
      have hth := RY.own_there HV9.out.r
      have hrt : World.rangeAt (w9.setCells (w.heap.size + 2) 0 [.string s.nm, .int .i64 s.ver, .int .i64 0, .int .i64 (s.want - 1), .int .i64 0, .bool true, .slice none 0 0, .bool false]) (w.heap.size + 2) 0 [.string s.nm, .int .i64 s.ver, .int .i64 0, .int .i64 (s.want - 1), .int .i64 0, .bool true, .slice none 0 0, .bool false] := World.rangeAt_setCells_same _ _ _ _ hth
      refine wp_region_lit ?_
      refine wpList_load_mid rfl 47 _ rfl (w.heap.size + 1) 0 rfl [.string s.nm, .int .i64 s.ver, .int .i64 0, .int .i64 (s.want - 1), .int .i64 0, .bool true, .slice none 0 0, .bool false] _ hrg Tryz.underlying47 rfl (by kernel_rfl) ?_
      refine wpList_store_mid rfl 47 _ _ rfl (w.heap.size + 2) 0 #[.string s.nm, .int .i64 s.ver, .int .i64 0, .int .i64 (s.want - 1), .int .i64 0, .bool true, .slice none 0 0, .bool false] rfl rfl hth (by kernel_rfl) (by simp [Value.oneCell']) ?_
      simp only [Act.put, List.setIfInBounds_toArray, List.set_cons_zero, List.set_cons_succ]
      go_wp2
      refine bodyPost_ret (v := .agg #[.string s.nm, .int .i64 s.ver, .int .i64 0, .int .i64 (s.want - 1), .int .i64 0, .bool true, .slice none 0 0, .bool false]) (by simp [results, Tryz.results54, asAddr, run_loadVar_mid (P := Tryz.prog) _ _ _ 47 [.string s.nm, .int .i64 s.ver, .int .i64 0, .int .i64 (s.want - 1), .int .i64 0, .bool true, .slice none 0 0, .bool false] _ hrt Tryz.underlying47 rfl (by kernel_rfl)]) rfl ?_
      rw [HG.out]
      exact ⟨rfl, setCells_below HB9.out (by omega) _ _⟩
    · have HG : Hid (R = (s.want, s.cool + 1, true)) := by show R = _; rw [HF.out]; simp [c1, c2, c3, c4, c5]
      clear HF
      obtain ⟨w9, hw9⟩ : ∃ w9, w9 = (w2.setCell ⟨w.heap.size + 1, 4, none⟩ (.int .i64 (s.cool + 1))) := ⟨_, rfl⟩
      have HV9 : Hid (AV w9 (w.heap.size + 1) (w.heap.size + 2) [.string s.nm, .int .i64 s.ver, .int .i64 0, .int .i64 s.want, .int .i64 (s.cool + 1), .bool true, .slice none 0 0, .bool false]) := by show AV _ _ _ _; rw [hw9]; exact (HV2.out.sc 4 (by omega) _)
      have HB9 : Hid (Below w.heap.size w w9) := by show Below _ _ _; rw [hw9]; exact (HB2.out.setCell (p := ⟨w.heap.size + 1, 4, none⟩) (by show w.heap.size ≤ w.heap.size + 1; omega) _)
      go_upto_region 17 with fail
      rw [← hw9]
      clear hw9 sz s0 s1 s2 s3 s4 s5 s6 s7 s8 s9 s10 s11 s12 v3 v4 v5 vz hfz HV2 HY2 HB2
      have hrg := HV9.out.range
      have hth := RY.own_there HV9.out.r
      have hrt : World.rangeAt (w9.setCells (w.heap.size + 2) 0 [.string s.nm, .int .i64 s.ver, .int .i64 0, .int .i64 s.want, .int .i64 (s.cool + 1), .bool true, .slice none 0 0, .bool false]) (w.heap.size + 2) 0 [.string s.nm, .int .i64 s.ver, .int .i64 0, .int .i64 s.want, .int .i64 (s.cool + 1), .bool true, .slice none 0 0, .bool false] := World.rangeAt_setCells_same _ _ _ _ hth
      refine wp_region_lit ?_
      refine wpList_load_mid rfl 47 _ rfl (w.heap.size + 1) 0 rfl [.string s.nm, .int .i64 s.ver, .int .i64 0, .int .i64 s.want, .int .i64 (s.cool + 1), .bool true, .slice none 0 0, .bool false] _ hrg Tryz.underlying47 rfl (by kernel_rfl) ?_
      refine wpList_store_mid rfl 47 _ _ rfl (w.heap.size + 2) 0 #[.string s.nm, .int .i64 s.ver, .int .i64 0, .int .i64 s.want, .int .i64 (s.cool + 1), .bool true, .slice none 0 0, .bool false] rfl rfl hth (by kernel_rfl) (by simp [Value.oneCell']) ?_
      simp only [Act.put, List.setIfInBounds_toArray, List.set_cons_zero, List.set_cons_succ]
      go_wp2
      refine bodyPost_ret (v := .agg #[.string s.nm, .int .i64 s.ver, .int .i64 0, .int .i64 s.want, .int .i64 (s.cool + 1), .bool true, .slice none 0 0, .bool false]) (by simp [results, Tryz.results54, asAddr, run_loadVar_mid (P := Tryz.prog) _ _ _ 47 [.string s.nm, .int .i64 s.ver, .int .i64 0, .int .i64 s.want, .int .i64 (s.cool + 1), .bool true, .slice none 0 0, .bool false] _ hrt Tryz.underlying47 rfl (by kernel_rfl)]) rfl ?_
      rw [HG.out]
      exact ⟨rfl, setCells_below HB9.out (by omega) _ _⟩
  by_cases c6 : s.cool = 0
  · have HG : Hid (R = (0, 0, false)) := by show R = _; rw [HF.out]; simp [c1, c2, c3, c4, c6]
    clear HF
    obtain ⟨w9, hw9⟩ : ∃ w9, w9 = ((w2.setCell ⟨w.heap.size + 1, 5, none⟩ (.bool false)).setCell ⟨w.heap.size + 1, 3, none⟩ (.int .i64 0)) := ⟨_, rfl⟩
    have HV9 : Hid (AV w9 (w.heap.size + 1) (w.heap.size + 2) [.string s.nm, .int .i64 s.ver, .int .i64 0, .int .i64 0, .int .i64 0, .bool false, .slice none 0 0, .bool false]) := by show AV _ _ _ _; rw [hw9]; exact ((HV2.out.sc 5 (by omega) _).sc 3 (by omega) _)
    have HB9 : Hid (Below w.heap.size w w9) := by show Below _ _ _; rw [hw9]; exact ((HB2.out.setCell (p := ⟨w.heap.size + 1, 5, none⟩) (by show w.heap.size ≤ w.heap.size + 1; omega) _).setCell (p := ⟨w.heap.size + 1, 3, none⟩) (by show w.heap.size ≤ w.heap.size + 1; omega) _)
    go_upto_region 17 with fail
    rw [← hw9]
    clear hw9 sz s0 s1 s2 s3 s4 s5 s6 s7 s8 s9 s10 s11 s12 v3 v4 v5 vz hfz HV2 HY2 HB2
    have hrg := HV9.out.range
    have hth := RY.own_there HV9.out.r
    have hrt : World.rangeAt (w9.setCells (w.heap.size + 2) 0 [.string s.nm, .int .i64 s.ver, .int .i64 0, .int .i64 0, .int .i64 0, .bool false, .slice none 0 0, .bool false]) (w.heap.size + 2) 0 [.string s.nm, .int .i64 s.ver, .int .i64 0, .int .i64 0, .int .i64 0, .bool false, .slice none 0 0, .bool false] := World.rangeAt_setCells_same _ _ _ _ hth
    refine wp_region_lit ?_
    refine wpList_load_mid rfl 47 _ rfl (w.heap.size + 1) 0 rfl [.string s.nm, .int .i64 s.ver, .int .i64 0, .int .i64 0, .int .i64 0, .bool false, .slice none 0 0, .bool false] _ hrg Tryz.underlying47 rfl (by kernel_rfl) ?_
    refine wpList_store_mid rfl 47 _ _ rfl (w.heap.size + 2) 0 #[.string s.nm, .int .i64 s.ver, .int .i64 0, .int .i64 0, .int .i64 0, .bool false, .slice none 0 0, .bool false] rfl rfl hth (by kernel_rfl) (by simp [Value.oneCell']) ?_
    simp only [Act.put, List.setIfInBounds_toArray, List.set_cons_zero, List.set_cons_succ]
    go_wp2
    refine bodyPost_ret (v := .agg #[.string s.nm, .int .i64 s.ver, .int .i64 0, .int .i64 0, .int .i64 0, .bool false, .slice none 0 0, .bool false]) (by simp [results, Tryz.results54, asAddr, run_loadVar_mid (P := Tryz.prog) _ _ _ 47 [.string s.nm, .int .i64 s.ver, .int .i64 0, .int .i64 0, .int .i64 0, .bool false, .slice none 0 0, .bool false] _ hrt Tryz.underlying47 rfl (by kernel_rfl)]) rfl ?_
    rw [HG.out]
    exact ⟨rfl, setCells_below HB9.out (by omega) _ _⟩
  · have HG : Hid (R = (s.want, 0, true)) := by show R = _; rw [HF.out]; simp [c1, c2, c3, c4, c6]
    clear HF
    obtain ⟨w9, hw9⟩ : ∃ w9, w9 = w2 := ⟨_, rfl⟩
    have HV9 : Hid (AV w9 (w.heap.size + 1) (w.heap.size + 2) [.string s.nm, .int .i64 s.ver, .int .i64 0, .int .i64 s.want, .int .i64 0, .bool true, .slice none 0 0, .bool false]) := by show AV _ _ _ _; rw [hw9]; exact HV2.out
    have HB9 : Hid (Below w.heap.size w w9) := by show Below _ _ _; rw [hw9]; exact HB2.out
    go_upto_region 17 with fail
    rw [← hw9]
    clear hw9 sz s0 s1 s2 s3 s4 s5 s6 s7 s8 s9 s10 s11 s12 v3 v4 v5 vz hfz HV2 HY2 HB2
    have hrg := HV9.out.range
    have hth := RY.own_there HV9.out.r
    have hrt : World.rangeAt (w9.setCells (w.heap.size + 2) 0 [.string s.nm, .int .i64 s.ver, .int .i64 0, .int .i64 s.want, .int .i64 0, .bool true, .slice none 0 0, .bool false]) (w.heap.size + 2) 0 [.string s.nm, .int .i64 s.ver, .int .i64 0, .int .i64 s.want, .int .i64 0, .bool true, .slice none 0 0, .bool false] := World.rangeAt_setCells_same _ _ _ _ hth
    refine wp_region_lit ?_
    refine wpList_load_mid rfl 47 _ rfl (w.heap.size + 1) 0 rfl [.string s.nm, .int .i64 s.ver, .int .i64 0, .int .i64 s.want, .int .i64 0, .bool true, .slice none 0 0, .bool false] _ hrg Tryz.underlying47 rfl (by kernel_rfl) ?_
    refine wpList_store_mid rfl 47 _ _ rfl (w.heap.size + 2) 0 #[.string s.nm, .int .i64 s.ver, .int .i64 0, .int .i64 s.want, .int .i64 0, .bool true, .slice none 0 0, .bool false] rfl rfl hth (by kernel_rfl) (by simp [Value.oneCell']) ?_
    simp only [Act.put, List.setIfInBounds_toArray, List.set_cons_zero, List.set_cons_succ]
    go_wp2
    refine bodyPost_ret (v := .agg #[.string s.nm, .int .i64 s.ver, .int .i64 0, .int .i64 s.want, .int .i64 0, .bool true, .slice none 0 0, .bool false]) (by simp [results, Tryz.results54, asAddr, run_loadVar_mid (P := Tryz.prog) _ _ _ 47 [.string s.nm, .int .i64 s.ver, .int .i64 0, .int .i64 s.want, .int .i64 0, .bool true, .slice none 0 0, .bool false] _ hrt Tryz.underlying47 rfl (by kernel_rfl)]) rfl ?_
    rw [HG.out]
    exact ⟨rfl, setCells_below HB9.out (by omega) _ _⟩

end Go.Proofs.YtamhfnlogldpaaaGreat

namespace Go.Proofs.YtamhfnlogldpaaaGreat
open Go.RowKit Go.Deep

/-- What is kept while an act is filled: the book's box, the service's, the act and the result. -/
structure CIk (w W : World) (v0 v1 v2 v3 : Value) (s : Sv) (cs : List Value) : Prop where
  bel : Below w.heap.size w W
  bk : Box4 W w.heap.size v0 v1 v2 v3
  sv : Box13 W (w.heap.size + 1) (.string s.nm) (.int .i64 s.ver) (.bool s.gone) (.int .i64 s.image) (.int .i64 s.want) (.int .i64 s.down) (.int .i64 s.over) (.int .i64 s.next) (.int .i64 s.per) (.int .i64 s.least) (.int .i64 s.most) (.int .i64 s.load) (.int .i64 s.cool)
  av : AV W (w.heap.size + 2) (w.heap.size + 3) cs
theorem CIk.later {w W W' : World} {v0 v1 v2 v3 : Value} {s : Sv} {cs : List Value} (h : CIk w W v0 v1 v2 v3 s cs) (hb : Below W.heap.size W W') : CIk w W' v0 v1 v2 v3 s cs :=
  ⟨blw_trans h.bel hb, h.bk.later hb, h.sv.later hb, h.av.later hb⟩
theorem owns_stc {W : World} {lo e size m : Nat} {v : Value} {xs : List Value} (h : W.ownsRow lo e size v m xs) {B : Nat} (hB : B < lo) (j : Nat) (u : Value) : (W.setCell ⟨B, j, none⟩ u).ownsRow lo e size v m xs := by
  refine ⟨h.1, ?_⟩
  rcases h.2 with q | ⟨g, cap, cur, q1, q2, q3, q4⟩
  · exact Or.inl q
  · exact Or.inr ⟨g, cap, cur, q1, q2, by rw [Below.heap_setCell W ⟨B, j, none⟩ u g (by show g ≠ B; omega)]; exact q3, q4⟩
theorem owns_scs {lo e size m : Nat} {v : Value} {xs : List Value} {B : Nat} (hB : B < lo) : ∀ (us : List Value) (W : World) (o : Nat), W.ownsRow lo e size v m xs → (W.setCells B o us).ownsRow lo e size v m xs
  | [], _, _, h => h
  | u :: us, W, o, h => by rw [World.setCells]; exact owns_scs hB us _ (o + 1) (owns_stc h hB o u)
theorem owns_nil (W : World) (lo e size : Nat) : W.ownsRow lo e size (.slice none 0 0) 0 [] := ⟨by simp, Or.inl ⟨rfl, rfl⟩⟩
theorem own_one {W : World} {lo e c : Nat} {a : Option Addr} {x y : Value} (h : W.ownsRow lo e 2 (.slice a 1 c) 1 [x, y]) : ∃ g, a = some ⟨g, 0, none⟩ ∧ g < W.heap.size ∧ lo ≤ g ∧ W.cell? ⟨g, 0, none⟩ = some x := by
  rcases h.2 with ⟨_, h0⟩ | ⟨g, cap, cur, hv, hb, hg, hn, hm, hs, ht⟩
  · omega
  · injection hv with hv _ _
    subst hv
    refine ⟨g, rfl, (Array.getElem?_eq_some_iff.1 hg).1, hb, ?_⟩
    have q : ([x, y] : List Value)[0]? = cur.toList[0]? := by rw [← ht, List.getElem?_take, if_pos (by omega)]
    simp only [World.cell?, hg]
    simpa using q.symm
def baseAc (s : Sv) : Ac := ⟨s.nm, s.ver, 0, 0, 0, false, [], false⟩

end Go.Proofs.YtamhfnlogldpaaaGreat
