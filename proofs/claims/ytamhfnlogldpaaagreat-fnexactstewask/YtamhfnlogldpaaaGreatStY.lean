/-
  Stewards: copies that are replaced one at a time, by the specification.
-/
import Derived.Deep.RegionHeld
import Derived.Test.YtamhfnlogldpaaaGreatStCo
namespace Go.Proofs.YtamhfnlogldpaaaGreat
open Go.RowKit Go.Deep

/-- Some copies are replaced, one at a time. -/
def replAc (K : SBk) (s : Sv) (M : List Nat) : Ac :=
  if M.length = 0 then baseAc s
  else if ((liveOf K s.nm).length : Int) < s.want then baseAc s
  else if ((liveOf K s.nm).length : Int) < s.want + s.over then ⟨s.nm, s.ver, 1, 0, 0, false, [], false⟩
  else ⟨s.nm, s.ver, 0, 0, 0, false, firstOf K s.image (mayOf K M), false⟩

set_option maxRecDepth 100000 in
set_option maxHeartbeats 40000000 in
theorem l16ReplaceS (K : SBk) (a0 a1 a2 : Option Addr) (c0 c1 c2 : Nat) (s : Sv) (M : List Nat) (am : Option Addr) (cm lo : Nat) (w : World) (h : SBkV w a0 a1 a2 K) (hsn : Sane K) (hM : w.ownsRow lo 3 1 (.slice am M.length cm) M.length (nums M)) (hz : ∀ z ∈ M, z < K.cps.length) (hmc : M.length ≤ 1048576) (hw0 : 0 ≤ s.want) (hw1 : s.want ≤ 1000) (ho0 : 0 ≤ s.over) (ho1 : s.over ≤ 1000) :
    Calls Tryz.prog 53 #[.agg #[.int .i64 K.now, .slice a0 K.svcs.length c0, .slice a1 K.cps.length c1, .slice a2 K.bts.length c2], .agg #[.string s.nm, .int .i64 s.ver, .bool s.gone, .int .i64 s.image, .int .i64 s.want, .int .i64 s.down, .int .i64 s.over, .int .i64 s.next, .int .i64 s.per, .int .i64 s.least, .int .i64 s.most, .int .i64 s.load, .int .i64 s.cool], .agg #[.string s.nm, .int .i64 s.ver, .int .i64 0, .int .i64 0, .int .i64 0, .bool false, .slice none 0 0, .bool false], .slice am M.length cm] w fun e w' => (∃ va n vc, e = .returned (.agg #[.string s.nm, .int .i64 s.ver, .int .i64 (replAc K s M).create, .int .i64 0, .int .i64 0, .bool false, .slice va n vc, .bool false]) ∧ w'.ownsRow w.heap.size 114 2 (.slice va n vc) (replAc K s M).ends.length ((replAc K s M).ends.flatMap EnC)) ∧ Below w.heap.size w w' := by
  have HH : Hid (SBkV w a0 a1 a2 K) := h
  have HSN := hid hsn
  have hcc := hsn.cps
  have HM := hid hM
  have HZ := hid hz
  have HZ2 : Hid (∀ z ∈ mayOf K M, z < K.cps.length) := fun z hq => hz z (List.mem_filter.1 hq).1
  have hmc2 : (mayOf K M).length ≤ 1048576 := Nat.le_trans (List.length_filter_le _ _) hmc
  clear h hsn hM hz
  obtain ⟨X, hX⟩ : ∃ X, X = replAc K s M := ⟨_, rfl⟩
  rw [← hX]
  obtain ⟨wa, hwa⟩ : ∃ wa, wa = (((w.alloc (.cells #[.int .i64 K.now, .slice a0 K.svcs.length c0, .slice a1 K.cps.length c1, .slice a2 K.bts.length c2] 34)).alloc (.cells #[.string s.nm, .int .i64 s.ver, .bool s.gone, .int .i64 s.image, .int .i64 s.want, .int .i64 s.down, .int .i64 s.over, .int .i64 s.next, .int .i64 s.per, .int .i64 s.least, .int .i64 s.most, .int .i64 s.load, .int .i64 s.cool] 50)).alloc (.cells #[.string s.nm, .int .i64 s.ver, .int .i64 0, .int .i64 0, .int .i64 0, .bool false, .slice none 0 0, .bool false] 47)).alloc (.cells #[.string { data := #[] }, .int .i64 0, .int .i64 0, .int .i64 0, .int .i64 0, .bool false, .slice none 0 0, .bool false] 47) := ⟨_, rfl⟩
  have HI : Hid (CIk w wa (.int .i64 K.now) (.slice a0 K.svcs.length c0) (.slice a1 K.cps.length c1) (.slice a2 K.bts.length c2) s [.string s.nm, .int .i64 s.ver, .int .i64 0, .int .i64 0, .int .i64 0, .bool false, .slice none 0 0, .bool false]) := by
    show CIk _ _ _ _ _ _ _ _
    rw [hwa]
    refine ⟨blw_alloc (blw_alloc (blw_alloc (blw_alloc (Below.refl _ _) _) _) _) _, (((Box4.new' w _ _ _ _ _ _ rfl).past _).past _).past _, ((Box13.new' _ _ _ _ _ _ _ _ _ _ _ _ _ _ _ _  (by simp)).past _).past _, ?_⟩
    refine ⟨(OwnBlk.alloc_at2 _ _ _ _ _ rfl (by simp)).later (blw_alloc (Below.refl _ _) _), OwnBlk.alloc_at2 _ _ _ _ _ rfl (by simp), by omega, rfl, fun j hj => ?_⟩
    have hb : Below (w.heap.size + 3) _ ((((w.alloc (.cells #[.int .i64 K.now, .slice a0 K.svcs.length c0, .slice a1 K.cps.length c1, .slice a2 K.bts.length c2] 34)).alloc (.cells #[.string s.nm, .int .i64 s.ver, .bool s.gone, .int .i64 s.image, .int .i64 s.want, .int .i64 s.down, .int .i64 s.over, .int .i64 s.next, .int .i64 s.per, .int .i64 s.least, .int .i64 s.most, .int .i64 s.load, .int .i64 s.cool] 50)).alloc (.cells #[.string s.nm, .int .i64 s.ver, .int .i64 0, .int .i64 0, .int .i64 0, .bool false, .slice none 0 0, .bool false] 47)).alloc (.cells #[.string { data := #[] }, .int .i64 0, .int .i64 0, .int .i64 0, .int .i64 0, .bool false, .slice none 0 0, .bool false] 47)) := Below.mono (blw_alloc (Below.refl _ (((w.alloc (.cells #[.int .i64 K.now, .slice a0 K.svcs.length c0, .slice a1 K.cps.length c1, .slice a2 K.bts.length c2] 34)).alloc (.cells #[.string s.nm, .int .i64 s.ver, .bool s.gone, .int .i64 s.image, .int .i64 s.want, .int .i64 s.down, .int .i64 s.over, .int .i64 s.next, .int .i64 s.per, .int .i64 s.least, .int .i64 s.most, .int .i64 s.load, .int .i64 s.cool] 50)).alloc (.cells #[.string s.nm, .int .i64 s.ver, .int .i64 0, .int .i64 0, .int .i64 0, .bool false, .slice none 0 0, .bool false] 47))) _) (by simp)
    rw [hb.cell (p := ⟨w.heap.size + 2, j, none⟩) (by show w.heap.size + 2 < _; omega)]
    match j, hj with
    | 0, _ => exact World.cell?_alloc_at _ _ _ _ (by simp)
    | 1, _ => exact World.cell?_alloc_at _ _ _ _ (by simp)
    | 2, _ => exact World.cell?_alloc_at _ _ _ _ (by simp)
    | 3, _ => exact World.cell?_alloc_at _ _ _ _ (by simp)
    | 4, _ => exact World.cell?_alloc_at _ _ _ _ (by simp)
    | 5, _ => exact World.cell?_alloc_at _ _ _ _ (by simp)
    | 6, _ => exact World.cell?_alloc_at _ _ _ _ (by simp)
    | 7, _ => exact World.cell?_alloc_at _ _ _ _ (by simp)
  go_enter Tryz.func53, Tryz.ntmps53
  go_upto_region 1 with fail
  rw [← hwa]
  clear hwa
  obtain ⟨yz, y0, y1, y2, y3⟩ := HI.out.bk
  obtain ⟨sz, s0, s1, s2, s3, s4, s5, s6, s7, s8, s9, s10, s11, s12⟩ := HI.out.sv
  go_wp2_with fail
  refine (l16LiveS K a0 a1 a2 c0 c1 c2 s.nm wa (HH.out.later HI.out.bel) hcc).mono ?_
  rintro e w1 ⟨⟨v8, rfl, hown⟩, hb⟩
  obtain ⟨n1, hn1⟩ : ∃ n1, n1 = (liveOf K s.nm).length := ⟨_, rfl⟩
  have hlc : n1 ≤ 1048576 := by rw [hn1]; exact Nat.le_trans (liveTo_len _ _ _) hcc
  have HX : Hid (X = if M.length = 0 then baseAc s else if (n1 : Int) < s.want then baseAc s else if (n1 : Int) < s.want + s.over then ⟨s.nm, s.ver, 1, 0, 0, false, [], false⟩ else ⟨s.nm, s.ver, 0, 0, 0, false, firstOf K s.image (mayOf K M), false⟩) := by show X = _; rw [hX, replAc, ← hn1]
  obtain ⟨al, cl, hv⟩ := owns_slice hown
  subst hv
  rw [← hn1]
  have HI1 := hid (HI.out.later hb)
  have HM1 := hid (owns_later (owns_later HM.out HI.out.bel) hb)
  have hsa : w.heap.size + 3 < wa.heap.size := HI.out.av.r.lt
  have hs1 : wa.heap.size ≤ w1.heap.size := hb.size
  clear hn1 hX hown hb yz y0 y1 y2 y3 sz s0 s1 s2 s3 s4 s5 s6 s7 s8 s9 s10 s11 s12 HI HM
  obtain ⟨yz, y0, y1, y2, y3⟩ := HI1.out.bk
  obtain ⟨sz, s0, s1, s2, s3, s4, s5, s6, s7, s8, s9, s10, s11, s12⟩ := HI1.out.sv
  by_cases tq0 : M.length = 0
  · have HE : Hid (X = baseAc s) := by show X = _; rw [HX.out, if_pos tq0]
    have hq : ((M.length : Int) == 0) = true := by simp; exact List.length_eq_zero_iff.1 tq0
    clear HX tq0
    go_upto_region 3 with fail
    have HVf := hid HI1.out.av
    have hrg := HVf.out.range
    have hth := RY.own_there HVf.out.r
    have hrt : World.rangeAt (w1.setCells (w.heap.size + 3) 0 [.string s.nm, .int .i64 s.ver, .int .i64 0, .int .i64 0, .int .i64 0, .bool false, .slice none 0 0, .bool false]) (w.heap.size + 3) 0 [.string s.nm, .int .i64 s.ver, .int .i64 0, .int .i64 0, .int .i64 0, .bool false, .slice none 0 0, .bool false] := World.rangeAt_setCells_same _ _ _ _ hth
    refine wp_region_lit ?_
    refine wpList_load_mid rfl 47 _ rfl (w.heap.size + 2) 0 rfl [.string s.nm, .int .i64 s.ver, .int .i64 0, .int .i64 0, .int .i64 0, .bool false, .slice none 0 0, .bool false] _ hrg Tryz.underlying47 rfl (by kernel_rfl) ?_
    refine wpList_store_mid rfl 47 _ _ rfl (w.heap.size + 3) 0 #[.string s.nm, .int .i64 s.ver, .int .i64 0, .int .i64 0, .int .i64 0, .bool false, .slice none 0 0, .bool false] rfl rfl hth (by kernel_rfl) (by simp [Value.oneCell']) ?_
    simp only [Act.put, List.setIfInBounds_toArray, List.set_cons_zero, List.set_cons_succ]
    go_wp2
    refine bodyPost_ret (v := .agg #[.string s.nm, .int .i64 s.ver, .int .i64 0, .int .i64 0, .int .i64 0, .bool false, .slice none 0 0, .bool false]) (by simp [results, Tryz.results53, asAddr, run_loadVar_mid (P := Tryz.prog) _ _ _ 47 [.string s.nm, .int .i64 s.ver, .int .i64 0, .int .i64 0, .int .i64 0, .bool false, .slice none 0 0, .bool false] _ hrt Tryz.underlying47 rfl (by kernel_rfl)]) rfl ?_
    rw [HE.out]
    exact ⟨⟨_, _, _, rfl, owns_nil _ _ _ _⟩, setCells_below HI1.out.bel (by omega) _ _⟩
  have hq : ((M.length : Int) == 0) = false := by simp; exact fun e => tq0 (by rw [e]; rfl)
  by_cases tq1 : (n1 : Int) < s.want
  · have HE : Hid (X = baseAc s) := by show X = _; rw [HX.out, if_neg tq0, if_pos tq1]
    clear HX tq0
    go_upto_region 3 with fail
    have HVf := hid HI1.out.av
    have hrg := HVf.out.range
    have hth := RY.own_there HVf.out.r
    have hrt : World.rangeAt (w1.setCells (w.heap.size + 3) 0 [.string s.nm, .int .i64 s.ver, .int .i64 0, .int .i64 0, .int .i64 0, .bool false, .slice none 0 0, .bool false]) (w.heap.size + 3) 0 [.string s.nm, .int .i64 s.ver, .int .i64 0, .int .i64 0, .int .i64 0, .bool false, .slice none 0 0, .bool false] := World.rangeAt_setCells_same _ _ _ _ hth
    refine wp_region_lit ?_
    refine wpList_load_mid rfl 47 _ rfl (w.heap.size + 2) 0 rfl [.string s.nm, .int .i64 s.ver, .int .i64 0, .int .i64 0, .int .i64 0, .bool false, .slice none 0 0, .bool false] _ hrg Tryz.underlying47 rfl (by kernel_rfl) ?_
    refine wpList_store_mid rfl 47 _ _ rfl (w.heap.size + 3) 0 #[.string s.nm, .int .i64 s.ver, .int .i64 0, .int .i64 0, .int .i64 0, .bool false, .slice none 0 0, .bool false] rfl rfl hth (by kernel_rfl) (by simp [Value.oneCell']) ?_
    simp only [Act.put, List.setIfInBounds_toArray, List.set_cons_zero, List.set_cons_succ]
    go_wp2
    refine bodyPost_ret (v := .agg #[.string s.nm, .int .i64 s.ver, .int .i64 0, .int .i64 0, .int .i64 0, .bool false, .slice none 0 0, .bool false]) (by simp [results, Tryz.results53, asAddr, run_loadVar_mid (P := Tryz.prog) _ _ _ 47 [.string s.nm, .int .i64 s.ver, .int .i64 0, .int .i64 0, .int .i64 0, .bool false, .slice none 0 0, .bool false] _ hrt Tryz.underlying47 rfl (by kernel_rfl)]) rfl ?_
    rw [HE.out]
    exact ⟨⟨_, _, _, rfl, owns_nil _ _ _ _⟩, setCells_below HI1.out.bel (by omega) _ _⟩
  by_cases tq2 : (n1 : Int) < s.want + s.over
  · have HE : Hid (X = ⟨s.nm, s.ver, 1, 0, 0, false, [], false⟩) := by show X = _; rw [HX.out, if_neg tq0, if_neg tq1, if_pos tq2]
    clear HX tq0
    obtain ⟨w2, hw2⟩ : ∃ w2, w2 = w1.setCell ⟨w.heap.size + 2, 2, none⟩ (.int .i64 1) := ⟨_, rfl⟩
    have HV2 : Hid (AV w2 (w.heap.size + 2) (w.heap.size + 3) [.string s.nm, .int .i64 s.ver, .int .i64 1, .int .i64 0, .int .i64 0, .bool false, .slice none 0 0, .bool false]) := by show AV _ _ _ _; rw [hw2]; exact HI1.out.av.sc 2 (by omega) _
    have HB2 : Hid (Below w.heap.size w w2) := by show Below _ _ _; rw [hw2]; exact HI1.out.bel.setCell (p := ⟨w.heap.size + 2, 2, none⟩) (by show w.heap.size ≤ w.heap.size + 2; omega) _
    have v2 := HI1.out.av.at_ 2 _ rfl (by omega)
    have vz := HI1.out.av.a.lt
    have hfz := HI1.out.av.a.frozen
    go_upto_region 6 with fail
    rw [← hw2]
    clear hw2 yz y0 y1 y2 y3 sz s0 s1 s2 s3 s4 s5 s6 s7 s8 s9 s10 s11 s12 v2 vz hfz HI1
    have hrg := HV2.out.range
    have hth := RY.own_there HV2.out.r
    have hrt : World.rangeAt (w2.setCells (w.heap.size + 3) 0 [.string s.nm, .int .i64 s.ver, .int .i64 1, .int .i64 0, .int .i64 0, .bool false, .slice none 0 0, .bool false]) (w.heap.size + 3) 0 [.string s.nm, .int .i64 s.ver, .int .i64 1, .int .i64 0, .int .i64 0, .bool false, .slice none 0 0, .bool false] := World.rangeAt_setCells_same _ _ _ _ hth
    refine wp_region_lit ?_
    refine wpList_load_mid rfl 47 _ rfl (w.heap.size + 2) 0 rfl [.string s.nm, .int .i64 s.ver, .int .i64 1, .int .i64 0, .int .i64 0, .bool false, .slice none 0 0, .bool false] _ hrg Tryz.underlying47 rfl (by kernel_rfl) ?_
    refine wpList_store_mid rfl 47 _ _ rfl (w.heap.size + 3) 0 #[.string s.nm, .int .i64 s.ver, .int .i64 1, .int .i64 0, .int .i64 0, .bool false, .slice none 0 0, .bool false] rfl rfl hth (by kernel_rfl) (by simp [Value.oneCell']) ?_
    simp only [Act.put, List.setIfInBounds_toArray, List.set_cons_zero, List.set_cons_succ]
    go_wp2
    refine bodyPost_ret (v := .agg #[.string s.nm, .int .i64 s.ver, .int .i64 1, .int .i64 0, .int .i64 0, .bool false, .slice none 0 0, .bool false]) (by simp [results, Tryz.results53, asAddr, run_loadVar_mid (P := Tryz.prog) _ _ _ 47 [.string s.nm, .int .i64 s.ver, .int .i64 1, .int .i64 0, .int .i64 0, .bool false, .slice none 0 0, .bool false] _ hrt Tryz.underlying47 rfl (by kernel_rfl)]) rfl ?_
    rw [HE.out]
    exact ⟨⟨_, _, _, rfl, owns_nil _ _ _ _⟩, setCells_below HB2.out (by omega) _ _⟩
  have HE : Hid (X = ⟨s.nm, s.ver, 0, 0, 0, false, firstOf K s.image (mayOf K M), false⟩) := by show X = _; rw [HX.out, if_neg tq0, if_neg tq1, if_neg tq2]
  clear HX tq0
  have v6 := HI1.out.av.at_ 6 _ rfl (by omega)
  have vz := HI1.out.av.a.lt
  have hfz := HI1.out.av.a.frozen
  have hd1 : w.heap.size + 3 < w1.drew.heap.size := by show _ < w1.heap.size; omega
  go_upto_region 7 with fail
  go_region_held (fun w' => w'.cell? ⟨w.heap.size, 0, none⟩ = some (.int .i64 K.now) ∧ w'.cell? ⟨w.heap.size, 1, none⟩ = some (.slice a0 K.svcs.length c0) ∧ w'.cell? ⟨w.heap.size, 2, none⟩ = some (.slice a1 K.cps.length c1) ∧ w'.cell? ⟨w.heap.size, 3, none⟩ = some (.slice a2 K.bts.length c2) ∧ w'.cell? ⟨w.heap.size + 1, 0, none⟩ = some (.string s.nm) ∧ w'.cell? ⟨w.heap.size + 1, 1, none⟩ = some (.int .i64 s.ver) ∧ w'.cell? ⟨w.heap.size + 1, 2, none⟩ = some (.bool s.gone) ∧ w'.cell? ⟨w.heap.size + 1, 3, none⟩ = some (.int .i64 s.image) ∧ w'.cell? ⟨w.heap.size + 1, 4, none⟩ = some (.int .i64 s.want) ∧ w'.cell? ⟨w.heap.size + 1, 5, none⟩ = some (.int .i64 s.down) ∧ w'.cell? ⟨w.heap.size + 1, 6, none⟩ = some (.int .i64 s.over) ∧ w'.cell? ⟨w.heap.size + 1, 7, none⟩ = some (.int .i64 s.next) ∧ w'.cell? ⟨w.heap.size + 1, 8, none⟩ = some (.int .i64 s.per) ∧ w'.cell? ⟨w.heap.size + 1, 9, none⟩ = some (.int .i64 s.least) ∧ w'.cell? ⟨w.heap.size + 1, 10, none⟩ = some (.int .i64 s.most) ∧ w'.cell? ⟨w.heap.size + 1, 11, none⟩ = some (.int .i64 s.load) ∧ w'.cell? ⟨w.heap.size + 1, 12, none⟩ = some (.int .i64 s.cool))
    (first
      | exact ⟨(sc_ne _ _ _ _ _ _ (Or.inl (by omega))).trans HI3.out.bk.x0, (sc_ne _ _ _ _ _ _ (Or.inl (by omega))).trans HI3.out.bk.x1, (sc_ne _ _ _ _ _ _ (Or.inl (by omega))).trans HI3.out.bk.x2, (sc_ne _ _ _ _ _ _ (Or.inl (by omega))).trans HI3.out.bk.x3, (sc_ne _ _ _ _ _ _ (Or.inl (by omega))).trans HI3.out.sv.x0, (sc_ne _ _ _ _ _ _ (Or.inl (by omega))).trans HI3.out.sv.x1, (sc_ne _ _ _ _ _ _ (Or.inl (by omega))).trans HI3.out.sv.x2, (sc_ne _ _ _ _ _ _ (Or.inl (by omega))).trans HI3.out.sv.x3, (sc_ne _ _ _ _ _ _ (Or.inl (by omega))).trans HI3.out.sv.x4, (sc_ne _ _ _ _ _ _ (Or.inl (by omega))).trans HI3.out.sv.x5, (sc_ne _ _ _ _ _ _ (Or.inl (by omega))).trans HI3.out.sv.x6, (sc_ne _ _ _ _ _ _ (Or.inl (by omega))).trans HI3.out.sv.x7, (sc_ne _ _ _ _ _ _ (Or.inl (by omega))).trans HI3.out.sv.x8, (sc_ne _ _ _ _ _ _ (Or.inl (by omega))).trans HI3.out.sv.x9, (sc_ne _ _ _ _ _ _ (Or.inl (by omega))).trans HI3.out.sv.x10, (sc_ne _ _ _ _ _ _ (Or.inl (by omega))).trans HI3.out.sv.x11, (sc_ne _ _ _ _ _ _ (Or.inl (by omega))).trans HI3.out.sv.x12⟩
      | (go_keep; done)
      | ((try go_split_ands)
         refine ⟨?_, ?_, ?_, ?_, ?_, ?_, ?_, ?_, ?_, ?_, ?_, ?_, ?_, ?_, ?_, ?_, ?_⟩ <;> first
           | (refine (sc_ne _ _ _ _ _ _ ?_).trans ?_; (exact Or.inl (by omega)); assumption)
           | (refine (hb3.cell ?_).trans ?_; (dsimp only; omega); assumption)
           | (refine (hb2.cell ?_).trans ?_; (dsimp only; omega); assumption)))
    (first
      | (go_at_call 83
         refine (l16MayS K a0 a1 a2 c0 c1 c2 M am cm lo w1.drew (HH.out.later (Below.drew HI1.out.bel)) HSN.out (owns_later HM1.out (Below.drew (Below.refl _ _))) HZ.out hmc).mono ?_
         rintro e w2 ⟨⟨u2, rfl, hown2⟩, hb2⟩
         obtain ⟨a2', k2', hv2⟩ := owns_slice hown2
         subst hv2
         have hs2 := hb2.size)
      | (go_at_call 81
         refine (l16FirstS K a0 a1 a2 c0 c1 c2 s (mayOf K M) a2' k2' w1.drew.heap.size w2 (HH.out.later (blw_trans (Below.drew HI1.out.bel) hb2)) hown2 HZ2.out hmc2).mono ?_
         rintro e w3 ⟨⟨u3, rfl, hown3⟩, hb3⟩
         obtain ⟨a3', k3', hv3⟩ := owns_slice hown3
         subst hv3
         have hs3 := hb3.size
         have HI3 := hid (((HI1.out.later (Below.drew (Below.refl _ _))).later hb2).later hb3)
         have v6' := HI3.out.av.at_ 6 _ rfl (by omega)
         have vz' := HI3.out.av.a.lt
         have hfz' := HI3.out.av.a.frozen))
  obtain ⟨w7, hw7⟩ : ∃ w7, w7 = w3.setCell ⟨w.heap.size + 2, 6, none⟩ (.slice a3' (firstOf K s.image (mayOf K M)).length k3') := ⟨_, rfl⟩
  have HV7 : Hid (AV w7 (w.heap.size + 2) (w.heap.size + 3) [.string s.nm, .int .i64 s.ver, .int .i64 0, .int .i64 0, .int .i64 0, .bool false, .slice a3' (firstOf K s.image (mayOf K M)).length k3', .bool false]) := by show AV _ _ _ _; rw [hw7]; exact HI3.out.av.sc 6 (by omega) _
  have HB7 : Hid (Below w.heap.size w w7) := by show Below _ _ _; rw [hw7]; exact HI3.out.bel.setCell (p := ⟨w.heap.size + 2, 6, none⟩) (by show w.heap.size ≤ w.heap.size + 2; omega) _
  have HO7 : Hid (w7.ownsRow w2.heap.size 114 2 (.slice a3' (firstOf K s.image (mayOf K M)).length k3') (firstOf K s.image (mayOf K M)).length ((firstOf K s.image (mayOf K M)).flatMap EnC)) := by show World.ownsRow _ _ _ _ _ _ _; rw [hw7]; exact owns_stc hown3 (by omega) _ _
  have hq7 : w.heap.size + 3 < w2.heap.size := by omega
  rw [← hw7]
  clear hw7 v6' vz' hfz' HI3 hown3 hown2 hb2 hb3 hs2 hs3 v6 vz hfz hd1 yz y0 y1 y2 y3 sz s0 s1 s2 s3 s4 s5 s6 s7 s8 s9 s10 s11 s12 HI1 HM1
  go_upto_region 8 with fail
  have hrg := HV7.out.range
  have hth := RY.own_there HV7.out.r
  have hrt : World.rangeAt (w7.setCells (w.heap.size + 3) 0 [.string s.nm, .int .i64 s.ver, .int .i64 0, .int .i64 0, .int .i64 0, .bool false, .slice a3' (firstOf K s.image (mayOf K M)).length k3', .bool false]) (w.heap.size + 3) 0 [.string s.nm, .int .i64 s.ver, .int .i64 0, .int .i64 0, .int .i64 0, .bool false, .slice a3' (firstOf K s.image (mayOf K M)).length k3', .bool false] := World.rangeAt_setCells_same _ _ _ _ hth
  refine wp_region_lit ?_
  refine wpList_load_mid rfl 47 _ rfl (w.heap.size + 2) 0 rfl [.string s.nm, .int .i64 s.ver, .int .i64 0, .int .i64 0, .int .i64 0, .bool false, .slice a3' (firstOf K s.image (mayOf K M)).length k3', .bool false] _ hrg Tryz.underlying47 rfl (by kernel_rfl) ?_
  refine wpList_store_mid rfl 47 _ _ rfl (w.heap.size + 3) 0 #[.string s.nm, .int .i64 s.ver, .int .i64 0, .int .i64 0, .int .i64 0, .bool false, .slice a3' (firstOf K s.image (mayOf K M)).length k3', .bool false] rfl rfl hth (by kernel_rfl) (by simp [Value.oneCell']) ?_
  simp only [Act.put, List.setIfInBounds_toArray, List.set_cons_zero, List.set_cons_succ]
  go_wp2
  refine bodyPost_ret (v := .agg #[.string s.nm, .int .i64 s.ver, .int .i64 0, .int .i64 0, .int .i64 0, .bool false, .slice a3' (firstOf K s.image (mayOf K M)).length k3', .bool false]) (by simp [results, Tryz.results53, asAddr, run_loadVar_mid (P := Tryz.prog) _ _ _ 47 [.string s.nm, .int .i64 s.ver, .int .i64 0, .int .i64 0, .int .i64 0, .bool false, .slice a3' (firstOf K s.image (mayOf K M)).length k3', .bool false] _ hrt Tryz.underlying47 rfl (by kernel_rfl)]) rfl ?_
  rw [HE.out]
  exact ⟨⟨_, _, _, rfl, owns_base (owns_scs (by omega) _ _ _ HO7.out) (by omega)⟩, setCells_below HB7.out (by omega) _ _⟩

end Go.Proofs.YtamhfnlogldpaaaGreat
