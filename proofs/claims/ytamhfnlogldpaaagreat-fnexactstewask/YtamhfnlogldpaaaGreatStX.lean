/-
  Stewards: what a counter asks, by the specification.
-/
import Derived.Test.YtamhfnlogldpaaaGreatStCo
namespace Go.Proofs.YtamhfnlogldpaaaGreat
open Go.RowKit Go.Deep

def calmB (K : SBk) (s : Sv) : Bool := decide ((someOf K s 2).length = 0) && decide ((someOf K s 6).length = 0)
def lastOf (K : SBk) (s : Sv) : Cp := bestTo K s.image (liveOf K s.nm) ((liveOf K s.nm).length - 1)
/-- What a counter asks. -/
def counterAc (K : SBk) (s : Sv) : Ac :=
  if ((liveOf K s.nm).length : Int) < s.want then ⟨s.nm, s.ver, s.want - (liveOf K s.nm).length, 0, 0, false, [], false⟩
  else if (decide (s.want < ((liveOf K s.nm).length : Int)) && (calmB K s || decide (s.want + s.over < ((liveOf K s.nm).length : Int)))) && mayEnd K s.nm (lastOf K s).num then ⟨s.nm, s.ver, 0, 0, 0, false, [endOf (lastOf K s)], false⟩
  else baseAc s

set_option maxRecDepth 8000 in
set_option maxHeartbeats 40000000 in
theorem l16CounterS (K : SBk) (a0 a1 a2 : Option Addr) (c0 c1 c2 : Nat) (s : Sv) (w : World) (h : SBkV w a0 a1 a2 K) (hsn : Sane K) (hw0 : 0 ≤ s.want) (hw1 : s.want ≤ 1000) (ho0 : 0 ≤ s.over) (ho1 : s.over ≤ 1000) :
    Calls Tryz.prog 52 #[.agg #[.int .i64 K.now, .slice a0 K.svcs.length c0, .slice a1 K.cps.length c1, .slice a2 K.bts.length c2], .agg #[.string s.nm, .int .i64 s.ver, .bool s.gone, .int .i64 s.image, .int .i64 s.want, .int .i64 s.down, .int .i64 s.over, .int .i64 s.next, .int .i64 s.per, .int .i64 s.least, .int .i64 s.most, .int .i64 s.load, .int .i64 s.cool], .agg #[.string s.nm, .int .i64 s.ver, .int .i64 0, .int .i64 0, .int .i64 0, .bool false, .slice none 0 0, .bool false]] w fun e w' => (∃ va n vc, e = .returned (.agg #[.string s.nm, .int .i64 s.ver, .int .i64 (counterAc K s).create, .int .i64 0, .int .i64 0, .bool false, .slice va n vc, .bool false]) ∧ w'.ownsRow w.heap.size 114 2 (.slice va n vc) (counterAc K s).ends.length ((counterAc K s).ends.flatMap EnC)) ∧ Below w.heap.size w w' := by
  have HH : Hid (SBkV w a0 a1 a2 K) := h
  have HSN := hid hsn
  have hcc := hsn.cps
  clear h hsn
  obtain ⟨X, hX⟩ : ∃ X, X = counterAc K s := ⟨_, rfl⟩
  rw [← hX]
  obtain ⟨wa, hwa⟩ : ∃ wa, wa = (((w.alloc (.cells #[.int .i64 K.now, .slice a0 K.svcs.length c0, .slice a1 K.cps.length c1, .slice a2 K.bts.length c2] 34)).alloc (.cells #[.string s.nm, .int .i64 s.ver, .bool s.gone, .int .i64 s.image, .int .i64 s.want, .int .i64 s.down, .int .i64 s.over, .int .i64 s.next, .int .i64 s.per, .int .i64 s.least, .int .i64 s.most, .int .i64 s.load, .int .i64 s.cool] 50)).alloc (.cells #[.string s.nm, .int .i64 s.ver, .int .i64 0, .int .i64 0, .int .i64 0, .bool false, .slice none 0 0, .bool false] 47)).alloc (.cells #[.string { data := #[] }, .int .i64 0, .int .i64 0, .int .i64 0, .int .i64 0, .bool false, .slice none 0 0, .bool false] 47) := ⟨_, rfl⟩
  have HI : Hid (CIk w wa (.int .i64 K.now) (.slice a0 K.svcs.length c0) (.slice a1 K.cps.length c1) (.slice a2 K.bts.length c2) s [.string s.nm, .int .i64 s.ver, .int .i64 0, .int .i64 0, .int .i64 0, .bool false, .slice none 0 0, .bool false]) := by
    show CIk _ _ _ _ _ _ _ _
    rw [hwa]
    refine ⟨blw_alloc (blw_alloc (blw_alloc (blw_alloc (Below.refl _ _) _) _) _) _, (((Box4.new' w _ _ _ _ _ _ rfl).past _).past _).past _, ((Box13.new' _ _ _ _ _ _ _ _ _ _ _ _ _ _ _ _  (by simp)).past _).past _, ?_⟩
    refine ⟨(OwnBlk.alloc_at2 _ _ _ _ _ rfl (by simp)).later (blw_alloc (Below.refl _ _) _), OwnBlk.alloc_at2 _ _ _ _ _ rfl (by simp), by omega, rfl, fun j hj => ?_⟩
    have hb : Below (w.heap.size + 3) _ ((((w.alloc (.cells #[.int .i64 K.now, .slice a0 K.svcs.length c0, .slice a1 K.cps.length c1, .slice a2 K.bts.length c2] 34)).alloc (.cells #[.string s.nm, .int .i64 s.ver, .bool s.gone, .int .i64 s.image, .int .i64 s.want, .int .i64 s.down, .int .i64 s.over, .int .i64 s.next, .int .i64 s.per, .int .i64 s.least, .int .i64 s.most, .int .i64 s.load, .int .i64 s.cool] 50)).alloc (.cells #[.string s.nm, .int .i64 s.ver, .int .i64 0, .int .i64 0, .int .i64 0, .bool false, .slice none 0 0, .bool false] 47)).alloc (.cells #[.string { data := #[] }, .int .i64 0, .int .i64 0, .int .i64 0, .int .i64 0, .bool false, .slice none 0 0, .bool false] 47)) := Below.mono (blw_alloc (Below.refl _ (((w.alloc (.cells #[.int .i64 K.now, .slice a0 K.svcs.length c0, .slice a1 K.cps.length c1, .slice a2 K.bts.length c2] 34)).alloc (.cells #[.string s.nm, .int .i64 s.ver, .bool s.gone, .int .i64 s.image, .int .i64 s.want, .int .i64 s.down, .int .i64 s.over, .int .i64 s.next, .int .i64 s.per, .int .i64 s.least, .int .i64 s.most, .int .i64 s.load, .int .i64 s.cool] 50)).alloc (.cells #[.string s.nm, .int .i64 s.ver, .int .i64 0, .int .i64 0, .int .i64 0, .bool false, .slice none 0 0, .bool false] 47))) _) (by simp)
    rw [hb.cell (p := ⟨w.heap.size + 2, j, none⟩) (by show w.heap.size + 2 < _; omega)]
    match j, hj with
    | 0, _ => exact World.cell?_alloc_at _ _ _ _ (by simp)
    | 1, _ => exact World.cell?_alloc_at _ _ _ _ (by simp)
    | 2, _ => exact World.cell?_alloc_at _ _ _ _ (by simp)
    | 3, _ => exact World.cell?_alloc_at _ _ _ _ (by simp)
    | 4, _ => exact World.cell?_alloc_at _ _ _ _ (by simp)
    | 5, _ => exact World.cell?_alloc_at _ _ _ _ (by simp)
    | 6, _ => exact World.cell?_alloc_at _ _ _ _ (by simp)
    | 7, _ => exact World.cell?_alloc_at _ _ _ _ (by simp)
  go_enter Tryz.func52, Tryz.ntmps52
  go_upto_region 1 with fail
  rw [← hwa]
  clear hwa
  obtain ⟨yz, y0, y1, y2, y3⟩ := HI.out.bk
  obtain ⟨sz, s0, s1, s2, s3, s4, s5, s6, s7, s8, s9, s10, s11, s12⟩ := HI.out.sv
  go_wp2_with fail
  refine (l16LiveS K a0 a1 a2 c0 c1 c2 s.nm wa (HH.out.later HI.out.bel) hcc).mono ?_
  rintro e w1 ⟨⟨v8, rfl, hown⟩, hb⟩
  obtain ⟨L, hL⟩ : ∃ L, L = liveOf K s.nm := ⟨_, rfl⟩
  obtain ⟨bb, hbb⟩ : ∃ bb, bb = lastOf K s := ⟨_, rfl⟩
  have HZ : Hid (∀ z ∈ L, z < K.cps.length) := fun z hz => by rw [hL] at hz; exact (liveTo_lt _ _ _ _ hz).1
  have hlc : L.length ≤ 1048576 := by rw [hL]; exact Nat.le_trans (liveTo_len _ _ _) hcc
  have HX : Hid (X = if (L.length : Int) < s.want then ⟨s.nm, s.ver, s.want - L.length, 0, 0, false, [], false⟩ else if (decide (s.want < (L.length : Int)) && (calmB K s || decide (s.want + s.over < (L.length : Int)))) && mayEnd K s.nm bb.num then ⟨s.nm, s.ver, 0, 0, 0, false, [endOf bb], false⟩ else baseAc s) := by show X = _; rw [hX, counterAc, ← hL, ← hbb]
  have HFO : Hid (0 < L.length → firstOf K s.image L = [endOf bb]) := fun h0 => by rw [firstOf, if_neg (by omega), hbb, lastOf, ← hL]
  rw [← hL] at hown
  obtain ⟨al, cl, hv⟩ := owns_slice hown
  subst hv
  have HL := hid hown
  have HI1 := hid (HI.out.later hb)
  have hsa : w.heap.size + 3 < wa.heap.size := HI.out.av.r.lt
  have hs1 : wa.heap.size ≤ w1.heap.size := hb.size
  clear hL hbb hX hown hb yz y0 y1 y2 y3 sz s0 s1 s2 s3 s4 s5 s6 s7 s8 s9 s10 s11 s12 HI
  by_cases tq1 : (L.length : Int) < s.want
  · have HE : Hid (X = ⟨s.nm, s.ver, s.want - L.length, 0, 0, false, [], false⟩) := by show X = _; rw [HX.out, if_pos tq1]
    clear HX HFO
    obtain ⟨w2, hw2⟩ : ∃ w2, w2 = w1.setCell ⟨w.heap.size + 2, 2, none⟩ (.int .i64 (s.want - L.length)) := ⟨_, rfl⟩
    have HV2 : Hid (AV w2 (w.heap.size + 2) (w.heap.size + 3) [.string s.nm, .int .i64 s.ver, .int .i64 (s.want - L.length), .int .i64 0, .int .i64 0, .bool false, .slice none 0 0, .bool false]) := by show AV _ _ _ _; rw [hw2]; exact HI1.out.av.sc 2 (by omega) _
    have HB2 : Hid (Below w.heap.size w w2) := by show Below _ _ _; rw [hw2]; exact HI1.out.bel.setCell (p := ⟨w.heap.size + 2, 2, none⟩) (by show w.heap.size ≤ w.heap.size + 2; omega) _
    obtain ⟨yz, y0, y1, y2, y3⟩ := HI1.out.bk
    obtain ⟨sz, s0, s1, s2, s3, s4, s5, s6, s7, s8, s9, s10, s11, s12⟩ := HI1.out.sv
    have v2 := HI1.out.av.at_ 2 _ rfl (by omega)
    have vz := HI1.out.av.a.lt
    have hfz := HI1.out.av.a.frozen
    go_upto_region 4 with fail
    rw [← hw2]
    clear hw2 yz y0 y1 y2 y3 sz s0 s1 s2 s3 s4 s5 s6 s7 s8 s9 s10 s11 s12 v2 vz hfz HI1
    have hrg := HV2.out.range
    have hth := RY.own_there HV2.out.r
    have hrt : World.rangeAt (w2.setCells (w.heap.size + 3) 0 [.string s.nm, .int .i64 s.ver, .int .i64 (s.want - L.length), .int .i64 0, .int .i64 0, .bool false, .slice none 0 0, .bool false]) (w.heap.size + 3) 0 [.string s.nm, .int .i64 s.ver, .int .i64 (s.want - L.length), .int .i64 0, .int .i64 0, .bool false, .slice none 0 0, .bool false] := World.rangeAt_setCells_same _ _ _ _ hth
    refine wp_region_lit ?_
    refine wpList_load_mid rfl 47 _ rfl (w.heap.size + 2) 0 rfl [.string s.nm, .int .i64 s.ver, .int .i64 (s.want - L.length), .int .i64 0, .int .i64 0, .bool false, .slice none 0 0, .bool false] _ hrg Tryz.underlying47 rfl (by kernel_rfl) ?_
    refine wpList_store_mid rfl 47 _ _ rfl (w.heap.size + 3) 0 #[.string s.nm, .int .i64 s.ver, .int .i64 (s.want - L.length), .int .i64 0, .int .i64 0, .bool false, .slice none 0 0, .bool false] rfl rfl hth (by kernel_rfl) (by simp [Value.oneCell']) ?_
    simp only [Act.put, List.setIfInBounds_toArray, List.set_cons_zero, List.set_cons_succ]
    go_wp2
    refine bodyPost_ret (v := .agg #[.string s.nm, .int .i64 s.ver, .int .i64 (s.want - L.length), .int .i64 0, .int .i64 0, .bool false, .slice none 0 0, .bool false]) (by simp [results, Tryz.results52, asAddr, run_loadVar_mid (P := Tryz.prog) _ _ _ 47 [.string s.nm, .int .i64 s.ver, .int .i64 (s.want - L.length), .int .i64 0, .int .i64 0, .bool false, .slice none 0 0, .bool false] _ hrt Tryz.underlying47 rfl (by kernel_rfl)]) rfl ?_
    rw [HE.out]
    exact ⟨⟨_, _, _, rfl, owns_nil _ _ _ _⟩, setCells_below HB2.out (by omega) _ _⟩
  · have HX2 : Hid (X = if (decide (s.want < (L.length : Int)) && (calmB K s || decide (s.want + s.over < (L.length : Int)))) && mayEnd K s.nm bb.num then ⟨s.nm, s.ver, 0, 0, 0, false, [endOf bb], false⟩ else baseAc s) := by show X = _; rw [HX.out, if_neg tq1]
    clear HX
    obtain ⟨yz, y0, y1, y2, y3⟩ := HI1.out.bk
    obtain ⟨sz, s0, s1, s2, s3, s4, s5, s6, s7, s8, s9, s10, s11, s12⟩ := HI1.out.sv
    go_wp2_with fail
    refine (l16SomeS K a0 a1 a2 c0 c1 c2 s 2 (by simp) w1 (HH.out.later HI1.out.bel) hcc).mono ?_
    rintro e w2 ⟨⟨v9, rfl, hown⟩, hb⟩
    obtain ⟨a9, c9, hv⟩ := owns_slice hown
    subst hv
    have HI2 := hid (HI1.out.later hb)
    have HL2 := hid (owns_later HL.out hb)
    obtain ⟨n2, hn2⟩ : ∃ n2, n2 = (someOf K s 2).length := ⟨_, rfl⟩
    have HC2 : Hid (calmB K s = (decide (n2 = 0) && decide ((someOf K s 6).length = 0))) := by show _ = _; rw [hn2]; rfl
    rw [← hn2]
    have hs2 : w1.heap.size ≤ w2.heap.size := hb.size
    clear hn2 hown hb HI1 HL yz y0 y1 y2 y3 sz s0 s1 s2 s3 s4 s5 s6 s7 s8 s9 s10 s11 s12
    by_cases tq2 : n2 = 0
    · have hq2 : ((n2 : Int) == 0) = true := by simp; omega
      obtain ⟨yz, y0, y1, y2, y3⟩ := HI2.out.bk
      obtain ⟨sz, s0, s1, s2, s3, s4, s5, s6, s7, s8, s9, s10, s11, s12⟩ := HI2.out.sv
      go_wp2_with fail
      refine (l16SomeS K a0 a1 a2 c0 c1 c2 s 6 (by simp) w2 (HH.out.later HI2.out.bel) hcc).mono ?_
      rintro e w3 ⟨⟨v9, rfl, hown⟩, hb⟩
      obtain ⟨b9, d9, hv⟩ := owns_slice hown
      subst hv
      have HI3 := hid (HI2.out.later hb)
      have HL3 := hid (owns_later HL2.out hb)
      obtain ⟨n3, hn3⟩ : ∃ n3, n3 = (someOf K s 6).length := ⟨_, rfl⟩
      have HC3 : Hid (calmB K s = decide (n3 = 0)) := by show _ = _; rw [HC2.out, hn3, decide_eq_true tq2]; rfl
      rw [← hn3]
      have hs3 : w2.heap.size ≤ w3.heap.size := hb.size
      clear hn3 hown hb HI2 HL2 HC2 tq2 yz y0 y1 y2 y3 sz s0 s1 s2 s3 s4 s5 s6 s7 s8 s9 s10 s11 s12
      by_cases tq5 : n3 = 0
      · have HCM : Hid (calmB K s = true) := by show _ = _; rw [HC3.out, decide_eq_true tq5]
        have hq3 : ((n3 : Int) == 0) = true := by simp; omega
        clear HC3 tq5
        have HX3 : Hid (X = if (decide (s.want < (L.length : Int)) && (true || decide (s.want + s.over < (L.length : Int)))) && mayEnd K s.nm bb.num then ⟨s.nm, s.ver, 0, 0, 0, false, [endOf bb], false⟩ else baseAc s) := by show X = _; rw [HX2.out, HCM.out]
        clear HX2 HCM
        have hsW : wa.heap.size ≤ w3.heap.size := by omega
        by_cases tq3 : s.want < (L.length : Int)
        · have hL0 : 0 < L.length := by omega
          have HX4 : Hid (X = if mayEnd K s.nm bb.num then ⟨s.nm, s.ver, 0, 0, 0, false, [endOf bb], false⟩ else baseAc s) := by show X = _; rw [HX3.out]; simp [tq3]
          clear HX3
          obtain ⟨yz, y0, y1, y2, y3⟩ := HI3.out.bk
          obtain ⟨sz, s0, s1, s2, s3, s4, s5, s6, s7, s8, s9, s10, s11, s12⟩ := HI3.out.sv
          go_wp2_with fail
          refine (l16FirstS K a0 a1 a2 c0 c1 c2 s L al cl wa.heap.size w3 (HH.out.later HI3.out.bel) HL3.out HZ.out hlc).mono ?_
          rintro e w5 ⟨⟨v5, rfl, hown⟩, hb⟩
          rw [HFO.out hL0] at hown
          obtain ⟨a5, k5, hv⟩ := owns_slice hown
          subst hv
          obtain ⟨g5, ha5, hg5, hgb5, hc5⟩ := own_one (x := .int .i64 bb.num) (y := .int .i64 bb.ver) hown
          subst ha5
          have HI5 := hid (HI3.out.later hb)
          have HO5 := hid hown
          have hs5 : w3.heap.size ≤ w5.heap.size := hb.size
          clear hown hb yz y0 y1 y2 y3 sz s0 s1 s2 s3 s4 s5 s6 s7 s8 s9 s10 s11 s12 HI3 HL3
          obtain ⟨yz, y0, y1, y2, y3⟩ := HI5.out.bk
          obtain ⟨sz, s0, s1, s2, s3, s4, s5, s6, s7, s8, s9, s10, s11, s12⟩ := HI5.out.sv
          go_upto_region 8 with fail
          have HK : Hid (∀ px : Pst w5, SBkV px.W a0 a1 a2 K) := fun px => (HH.out.later HI5.out.bel).later px.ok
          have hNE := pst_some w5
          have YZ : ∀ px : Pst w5, w.heap.size < px.W.heap.size := fun px => px.size yz
          have SZ : ∀ px : Pst w5, w.heap.size + 1 < px.W.heap.size := fun px => px.size sz
          have Y0 : ∀ px : Pst w5, px.W.cell? ⟨w.heap.size, 0, none⟩ = some (.int .i64 K.now) := fun px => px.cell y0 yz
          have Y1 : ∀ px : Pst w5, px.W.cell? ⟨w.heap.size, 1, none⟩ = some (.slice a0 K.svcs.length c0) := fun px => px.cell y1 yz
          have Y2 : ∀ px : Pst w5, px.W.cell? ⟨w.heap.size, 2, none⟩ = some (.slice a1 K.cps.length c1) := fun px => px.cell y2 yz
          have Y3 : ∀ px : Pst w5, px.W.cell? ⟨w.heap.size, 3, none⟩ = some (.slice a2 K.bts.length c2) := fun px => px.cell y3 yz
          have S0 : ∀ px : Pst w5, px.W.cell? ⟨w.heap.size + 1, 0, none⟩ = some (.string s.nm) := fun px => px.cell s0 sz
          have G0 : ∀ px : Pst w5, px.W.cell? ⟨g5, 0, none⟩ = some (.int .i64 bb.num) := fun px => px.cell hc5 hg5
          clear yz y0 y1 y2 y3 sz s0 s1 s2 s3 s4 s5 s6 s7 s8 s9 s10 s11 s12 hc5
          refine region_class w5 (Below.refl _ _) (by kernel_rfl) (by kernel_rfl) ?_
          repeat (first
            | go_big_quiet_skip
            | (go_big_quiet_want; go_big_quiet_op; first | go_big_quiet_on | (apply Exists.intro; refine ⟨fun px => ?_, ?_⟩; (focus ((go_at_call 82; refine (l14MayEndS K a0 a1 a2 c0 c1 c2 s.nm bb.num px.W (HK.out px) HSN.out).mono ?_; rintro e w' ⟨he, hb⟩; exact ⟨he, ⟨w', blw_trans px.ok hb⟩, rfl⟩))); go_big_quiet_on)))
          refine wpQuiet_nil ?_
          intro _ hw'
          obtain ⟨x6, hw''⟩ := hw'
          subst hw''
          have HI6 := hid (HI5.out.later x6.ok)
          have HO6 := hid (owns_later HO5.out x6.ok)
          have hs6 : w5.heap.size ≤ x6.W.heap.size := x6.ok.size
          clear Y0 Y1 Y2 Y3 S0 G0 YZ SZ HK hNE HI5 HO5
          obtain ⟨wx, hwx⟩ : ∃ wx, wx = x6.W := ⟨_, rfl⟩
          rw [← hwx] at HI6 HO6 hs6 ⊢
          clear hwx x6
          cases gm : mayEnd K s.nm bb.num
          · have HE : Hid (X = baseAc s) := by show X = _; rw [HX4.out, gm]; rfl
            clear HX4 gm
            go_upto_region 10 with fail
            have HVf := hid HI6.out.av
            have hrg := HVf.out.range
            have hth := RY.own_there HVf.out.r
            have hrt : World.rangeAt (wx.setCells (w.heap.size + 3) 0 [.string s.nm, .int .i64 s.ver, .int .i64 0, .int .i64 0, .int .i64 0, .bool false, .slice none 0 0, .bool false]) (w.heap.size + 3) 0 [.string s.nm, .int .i64 s.ver, .int .i64 0, .int .i64 0, .int .i64 0, .bool false, .slice none 0 0, .bool false] := World.rangeAt_setCells_same _ _ _ _ hth
            refine wp_region_lit ?_
            refine wpList_load_mid rfl 47 _ rfl (w.heap.size + 2) 0 rfl [.string s.nm, .int .i64 s.ver, .int .i64 0, .int .i64 0, .int .i64 0, .bool false, .slice none 0 0, .bool false] _ hrg Tryz.underlying47 rfl (by kernel_rfl) ?_
            refine wpList_store_mid rfl 47 _ _ rfl (w.heap.size + 3) 0 #[.string s.nm, .int .i64 s.ver, .int .i64 0, .int .i64 0, .int .i64 0, .bool false, .slice none 0 0, .bool false] rfl rfl hth (by kernel_rfl) (by simp [Value.oneCell']) ?_
            simp only [Act.put, List.setIfInBounds_toArray, List.set_cons_zero, List.set_cons_succ]
            go_wp2
            refine bodyPost_ret (v := .agg #[.string s.nm, .int .i64 s.ver, .int .i64 0, .int .i64 0, .int .i64 0, .bool false, .slice none 0 0, .bool false]) (by simp [results, Tryz.results52, asAddr, run_loadVar_mid (P := Tryz.prog) _ _ _ 47 [.string s.nm, .int .i64 s.ver, .int .i64 0, .int .i64 0, .int .i64 0, .bool false, .slice none 0 0, .bool false] _ hrt Tryz.underlying47 rfl (by kernel_rfl)]) rfl ?_
            rw [HE.out]
            exact ⟨⟨_, _, _, rfl, owns_nil _ _ _ _⟩, setCells_below HI6.out.bel (by omega) _ _⟩
          · have HE : Hid (X = ⟨s.nm, s.ver, 0, 0, 0, false, [endOf bb], false⟩) := by show X = _; rw [HX4.out, gm]; rfl
            clear HX4 gm
            obtain ⟨w7, hw7⟩ : ∃ w7, w7 = wx.setCell ⟨w.heap.size + 2, 6, none⟩ (.slice (some ⟨g5, 0, none⟩) 1 k5) := ⟨_, rfl⟩
            have HV7 : Hid (AV w7 (w.heap.size + 2) (w.heap.size + 3) [.string s.nm, .int .i64 s.ver, .int .i64 0, .int .i64 0, .int .i64 0, .bool false, .slice (some ⟨g5, 0, none⟩) 1 k5, .bool false]) := by show AV _ _ _ _; rw [hw7]; exact HI6.out.av.sc 6 (by omega) _
            have HB7 : Hid (Below w.heap.size w w7) := by show Below _ _ _; rw [hw7]; exact HI6.out.bel.setCell (p := ⟨w.heap.size + 2, 6, none⟩) (by show w.heap.size ≤ w.heap.size + 2; omega) _
            have HO7 : Hid (w7.ownsRow w3.heap.size 114 2 (.slice (some ⟨g5, 0, none⟩) 1 k5) 1 [.int .i64 bb.num, .int .i64 bb.ver]) := by show World.ownsRow _ _ _ _ _ _ _; rw [hw7]; exact owns_stc HO6.out (by omega) _ _
            have v6 := HI6.out.av.at_ 6 _ rfl (by omega)
            have vz := HI6.out.av.a.lt
            have hfz := HI6.out.av.a.frozen
            go_upto_region 10 with fail
            rw [← hw7]
            clear hw7 v6 vz hfz HI6 HO6
            have hrg := HV7.out.range
            have hth := RY.own_there HV7.out.r
            have hrt : World.rangeAt (w7.setCells (w.heap.size + 3) 0 [.string s.nm, .int .i64 s.ver, .int .i64 0, .int .i64 0, .int .i64 0, .bool false, .slice (some ⟨g5, 0, none⟩) 1 k5, .bool false]) (w.heap.size + 3) 0 [.string s.nm, .int .i64 s.ver, .int .i64 0, .int .i64 0, .int .i64 0, .bool false, .slice (some ⟨g5, 0, none⟩) 1 k5, .bool false] := World.rangeAt_setCells_same _ _ _ _ hth
            refine wp_region_lit ?_
            refine wpList_load_mid rfl 47 _ rfl (w.heap.size + 2) 0 rfl [.string s.nm, .int .i64 s.ver, .int .i64 0, .int .i64 0, .int .i64 0, .bool false, .slice (some ⟨g5, 0, none⟩) 1 k5, .bool false] _ hrg Tryz.underlying47 rfl (by kernel_rfl) ?_
            refine wpList_store_mid rfl 47 _ _ rfl (w.heap.size + 3) 0 #[.string s.nm, .int .i64 s.ver, .int .i64 0, .int .i64 0, .int .i64 0, .bool false, .slice (some ⟨g5, 0, none⟩) 1 k5, .bool false] rfl rfl hth (by kernel_rfl) (by simp [Value.oneCell']) ?_
            simp only [Act.put, List.setIfInBounds_toArray, List.set_cons_zero, List.set_cons_succ]
            go_wp2
            refine bodyPost_ret (v := .agg #[.string s.nm, .int .i64 s.ver, .int .i64 0, .int .i64 0, .int .i64 0, .bool false, .slice (some ⟨g5, 0, none⟩) 1 k5, .bool false]) (by simp [results, Tryz.results52, asAddr, run_loadVar_mid (P := Tryz.prog) _ _ _ 47 [.string s.nm, .int .i64 s.ver, .int .i64 0, .int .i64 0, .int .i64 0, .bool false, .slice (some ⟨g5, 0, none⟩) 1 k5, .bool false] _ hrt Tryz.underlying47 rfl (by kernel_rfl)]) rfl ?_
            rw [HE.out]
            exact ⟨⟨_, _, _, rfl, owns_base (owns_scs (by omega) _ _ _ HO7.out) (by omega)⟩, setCells_below HB7.out (by omega) _ _⟩
        · have HE : Hid (X = baseAc s) := by show X = _; rw [HX3.out]; simp [tq3]
          clear HX3
          obtain ⟨yz, y0, y1, y2, y3⟩ := HI3.out.bk
          obtain ⟨sz, s0, s1, s2, s3, s4, s5, s6, s7, s8, s9, s10, s11, s12⟩ := HI3.out.sv
          go_upto_region 10 with fail
          have HVf := hid HI3.out.av
          have hrg := HVf.out.range
          have hth := RY.own_there HVf.out.r
          have hrt : World.rangeAt (w3.setCells (w.heap.size + 3) 0 [.string s.nm, .int .i64 s.ver, .int .i64 0, .int .i64 0, .int .i64 0, .bool false, .slice none 0 0, .bool false]) (w.heap.size + 3) 0 [.string s.nm, .int .i64 s.ver, .int .i64 0, .int .i64 0, .int .i64 0, .bool false, .slice none 0 0, .bool false] := World.rangeAt_setCells_same _ _ _ _ hth
          refine wp_region_lit ?_
          refine wpList_load_mid rfl 47 _ rfl (w.heap.size + 2) 0 rfl [.string s.nm, .int .i64 s.ver, .int .i64 0, .int .i64 0, .int .i64 0, .bool false, .slice none 0 0, .bool false] _ hrg Tryz.underlying47 rfl (by kernel_rfl) ?_
          refine wpList_store_mid rfl 47 _ _ rfl (w.heap.size + 3) 0 #[.string s.nm, .int .i64 s.ver, .int .i64 0, .int .i64 0, .int .i64 0, .bool false, .slice none 0 0, .bool false] rfl rfl hth (by kernel_rfl) (by simp [Value.oneCell']) ?_
          simp only [Act.put, List.setIfInBounds_toArray, List.set_cons_zero, List.set_cons_succ]
          go_wp2
          refine bodyPost_ret (v := .agg #[.string s.nm, .int .i64 s.ver, .int .i64 0, .int .i64 0, .int .i64 0, .bool false, .slice none 0 0, .bool false]) (by simp [results, Tryz.results52, asAddr, run_loadVar_mid (P := Tryz.prog) _ _ _ 47 [.string s.nm, .int .i64 s.ver, .int .i64 0, .int .i64 0, .int .i64 0, .bool false, .slice none 0 0, .bool false] _ hrt Tryz.underlying47 rfl (by kernel_rfl)]) rfl ?_
          rw [HE.out]
          exact ⟨⟨_, _, _, rfl, owns_nil _ _ _ _⟩, setCells_below HI3.out.bel (by omega) _ _⟩
      · have HCM : Hid (calmB K s = false) := by show _ = _; rw [HC3.out, decide_eq_false tq5]
        have hq3 : ((n3 : Int) == 0) = false := by simp; omega
        clear HC3 tq5
        have HX3 : Hid (X = if (decide (s.want < (L.length : Int)) && (false || decide (s.want + s.over < (L.length : Int)))) && mayEnd K s.nm bb.num then ⟨s.nm, s.ver, 0, 0, 0, false, [endOf bb], false⟩ else baseAc s) := by show X = _; rw [HX2.out, HCM.out]
        clear HX2 HCM
        have hsW : wa.heap.size ≤ w3.heap.size := by omega
        by_cases tq3 : s.want < (L.length : Int)
        · by_cases tq4 : s.want + s.over < (L.length : Int)
          · have hL0 : 0 < L.length := by omega
            have HX4 : Hid (X = if mayEnd K s.nm bb.num then ⟨s.nm, s.ver, 0, 0, 0, false, [endOf bb], false⟩ else baseAc s) := by show X = _; rw [HX3.out]; simp [tq3, tq4]
            clear HX3
            obtain ⟨yz, y0, y1, y2, y3⟩ := HI3.out.bk
            obtain ⟨sz, s0, s1, s2, s3, s4, s5, s6, s7, s8, s9, s10, s11, s12⟩ := HI3.out.sv
            go_wp2_with fail
            refine (l16FirstS K a0 a1 a2 c0 c1 c2 s L al cl wa.heap.size w3 (HH.out.later HI3.out.bel) HL3.out HZ.out hlc).mono ?_
            rintro e w5 ⟨⟨v5, rfl, hown⟩, hb⟩
            rw [HFO.out hL0] at hown
            obtain ⟨a5, k5, hv⟩ := owns_slice hown
            subst hv
            obtain ⟨g5, ha5, hg5, hgb5, hc5⟩ := own_one (x := .int .i64 bb.num) (y := .int .i64 bb.ver) hown
            subst ha5
            have HI5 := hid (HI3.out.later hb)
            have HO5 := hid hown
            have hs5 : w3.heap.size ≤ w5.heap.size := hb.size
            clear hown hb yz y0 y1 y2 y3 sz s0 s1 s2 s3 s4 s5 s6 s7 s8 s9 s10 s11 s12 HI3 HL3
            obtain ⟨yz, y0, y1, y2, y3⟩ := HI5.out.bk
            obtain ⟨sz, s0, s1, s2, s3, s4, s5, s6, s7, s8, s9, s10, s11, s12⟩ := HI5.out.sv
            go_upto_region 8 with fail
            have HK : Hid (∀ px : Pst w5, SBkV px.W a0 a1 a2 K) := fun px => (HH.out.later HI5.out.bel).later px.ok
            have hNE := pst_some w5
            have YZ : ∀ px : Pst w5, w.heap.size < px.W.heap.size := fun px => px.size yz
            have SZ : ∀ px : Pst w5, w.heap.size + 1 < px.W.heap.size := fun px => px.size sz
            have Y0 : ∀ px : Pst w5, px.W.cell? ⟨w.heap.size, 0, none⟩ = some (.int .i64 K.now) := fun px => px.cell y0 yz
            have Y1 : ∀ px : Pst w5, px.W.cell? ⟨w.heap.size, 1, none⟩ = some (.slice a0 K.svcs.length c0) := fun px => px.cell y1 yz
            have Y2 : ∀ px : Pst w5, px.W.cell? ⟨w.heap.size, 2, none⟩ = some (.slice a1 K.cps.length c1) := fun px => px.cell y2 yz
            have Y3 : ∀ px : Pst w5, px.W.cell? ⟨w.heap.size, 3, none⟩ = some (.slice a2 K.bts.length c2) := fun px => px.cell y3 yz
            have S0 : ∀ px : Pst w5, px.W.cell? ⟨w.heap.size + 1, 0, none⟩ = some (.string s.nm) := fun px => px.cell s0 sz
            have G0 : ∀ px : Pst w5, px.W.cell? ⟨g5, 0, none⟩ = some (.int .i64 bb.num) := fun px => px.cell hc5 hg5
            clear yz y0 y1 y2 y3 sz s0 s1 s2 s3 s4 s5 s6 s7 s8 s9 s10 s11 s12 hc5
            refine region_class w5 (Below.refl _ _) (by kernel_rfl) (by kernel_rfl) ?_
            repeat (first
              | go_big_quiet_skip
              | (go_big_quiet_want; go_big_quiet_op; first | go_big_quiet_on | (apply Exists.intro; refine ⟨fun px => ?_, ?_⟩; (focus ((go_at_call 82; refine (l14MayEndS K a0 a1 a2 c0 c1 c2 s.nm bb.num px.W (HK.out px) HSN.out).mono ?_; rintro e w' ⟨he, hb⟩; exact ⟨he, ⟨w', blw_trans px.ok hb⟩, rfl⟩))); go_big_quiet_on)))
            refine wpQuiet_nil ?_
            intro _ hw'
            obtain ⟨x6, hw''⟩ := hw'
            subst hw''
            have HI6 := hid (HI5.out.later x6.ok)
            have HO6 := hid (owns_later HO5.out x6.ok)
            have hs6 : w5.heap.size ≤ x6.W.heap.size := x6.ok.size
            clear Y0 Y1 Y2 Y3 S0 G0 YZ SZ HK hNE HI5 HO5
            obtain ⟨wx, hwx⟩ : ∃ wx, wx = x6.W := ⟨_, rfl⟩
            rw [← hwx] at HI6 HO6 hs6 ⊢
            clear hwx x6
            cases gm : mayEnd K s.nm bb.num
            · have HE : Hid (X = baseAc s) := by show X = _; rw [HX4.out, gm]; rfl
              clear HX4 gm
              go_upto_region 10 with fail
              have HVf := hid HI6.out.av
              have hrg := HVf.out.range
              have hth := RY.own_there HVf.out.r
              have hrt : World.rangeAt (wx.setCells (w.heap.size + 3) 0 [.string s.nm, .int .i64 s.ver, .int .i64 0, .int .i64 0, .int .i64 0, .bool false, .slice none 0 0, .bool false]) (w.heap.size + 3) 0 [.string s.nm, .int .i64 s.ver, .int .i64 0, .int .i64 0, .int .i64 0, .bool false, .slice none 0 0, .bool false] := World.rangeAt_setCells_same _ _ _ _ hth
              refine wp_region_lit ?_
              refine wpList_load_mid rfl 47 _ rfl (w.heap.size + 2) 0 rfl [.string s.nm, .int .i64 s.ver, .int .i64 0, .int .i64 0, .int .i64 0, .bool false, .slice none 0 0, .bool false] _ hrg Tryz.underlying47 rfl (by kernel_rfl) ?_
              refine wpList_store_mid rfl 47 _ _ rfl (w.heap.size + 3) 0 #[.string s.nm, .int .i64 s.ver, .int .i64 0, .int .i64 0, .int .i64 0, .bool false, .slice none 0 0, .bool false] rfl rfl hth (by kernel_rfl) (by simp [Value.oneCell']) ?_
              simp only [Act.put, List.setIfInBounds_toArray, List.set_cons_zero, List.set_cons_succ]
              go_wp2
              refine bodyPost_ret (v := .agg #[.string s.nm, .int .i64 s.ver, .int .i64 0, .int .i64 0, .int .i64 0, .bool false, .slice none 0 0, .bool false]) (by simp [results, Tryz.results52, asAddr, run_loadVar_mid (P := Tryz.prog) _ _ _ 47 [.string s.nm, .int .i64 s.ver, .int .i64 0, .int .i64 0, .int .i64 0, .bool false, .slice none 0 0, .bool false] _ hrt Tryz.underlying47 rfl (by kernel_rfl)]) rfl ?_
              rw [HE.out]
              exact ⟨⟨_, _, _, rfl, owns_nil _ _ _ _⟩, setCells_below HI6.out.bel (by omega) _ _⟩
            · have HE : Hid (X = ⟨s.nm, s.ver, 0, 0, 0, false, [endOf bb], false⟩) := by show X = _; rw [HX4.out, gm]; rfl
              clear HX4 gm
              obtain ⟨w7, hw7⟩ : ∃ w7, w7 = wx.setCell ⟨w.heap.size + 2, 6, none⟩ (.slice (some ⟨g5, 0, none⟩) 1 k5) := ⟨_, rfl⟩
              have HV7 : Hid (AV w7 (w.heap.size + 2) (w.heap.size + 3) [.string s.nm, .int .i64 s.ver, .int .i64 0, .int .i64 0, .int .i64 0, .bool false, .slice (some ⟨g5, 0, none⟩) 1 k5, .bool false]) := by show AV _ _ _ _; rw [hw7]; exact HI6.out.av.sc 6 (by omega) _
              have HB7 : Hid (Below w.heap.size w w7) := by show Below _ _ _; rw [hw7]; exact HI6.out.bel.setCell (p := ⟨w.heap.size + 2, 6, none⟩) (by show w.heap.size ≤ w.heap.size + 2; omega) _
              have HO7 : Hid (w7.ownsRow w3.heap.size 114 2 (.slice (some ⟨g5, 0, none⟩) 1 k5) 1 [.int .i64 bb.num, .int .i64 bb.ver]) := by show World.ownsRow _ _ _ _ _ _ _; rw [hw7]; exact owns_stc HO6.out (by omega) _ _
              have v6 := HI6.out.av.at_ 6 _ rfl (by omega)
              have vz := HI6.out.av.a.lt
              have hfz := HI6.out.av.a.frozen
              go_upto_region 10 with fail
              rw [← hw7]
              clear hw7 v6 vz hfz HI6 HO6
              have hrg := HV7.out.range
              have hth := RY.own_there HV7.out.r
              have hrt : World.rangeAt (w7.setCells (w.heap.size + 3) 0 [.string s.nm, .int .i64 s.ver, .int .i64 0, .int .i64 0, .int .i64 0, .bool false, .slice (some ⟨g5, 0, none⟩) 1 k5, .bool false]) (w.heap.size + 3) 0 [.string s.nm, .int .i64 s.ver, .int .i64 0, .int .i64 0, .int .i64 0, .bool false, .slice (some ⟨g5, 0, none⟩) 1 k5, .bool false] := World.rangeAt_setCells_same _ _ _ _ hth
              refine wp_region_lit ?_
              refine wpList_load_mid rfl 47 _ rfl (w.heap.size + 2) 0 rfl [.string s.nm, .int .i64 s.ver, .int .i64 0, .int .i64 0, .int .i64 0, .bool false, .slice (some ⟨g5, 0, none⟩) 1 k5, .bool false] _ hrg Tryz.underlying47 rfl (by kernel_rfl) ?_
              refine wpList_store_mid rfl 47 _ _ rfl (w.heap.size + 3) 0 #[.string s.nm, .int .i64 s.ver, .int .i64 0, .int .i64 0, .int .i64 0, .bool false, .slice (some ⟨g5, 0, none⟩) 1 k5, .bool false] rfl rfl hth (by kernel_rfl) (by simp [Value.oneCell']) ?_
              simp only [Act.put, List.setIfInBounds_toArray, List.set_cons_zero, List.set_cons_succ]
              go_wp2
              refine bodyPost_ret (v := .agg #[.string s.nm, .int .i64 s.ver, .int .i64 0, .int .i64 0, .int .i64 0, .bool false, .slice (some ⟨g5, 0, none⟩) 1 k5, .bool false]) (by simp [results, Tryz.results52, asAddr, run_loadVar_mid (P := Tryz.prog) _ _ _ 47 [.string s.nm, .int .i64 s.ver, .int .i64 0, .int .i64 0, .int .i64 0, .bool false, .slice (some ⟨g5, 0, none⟩) 1 k5, .bool false] _ hrt Tryz.underlying47 rfl (by kernel_rfl)]) rfl ?_
              rw [HE.out]
              exact ⟨⟨_, _, _, rfl, owns_base (owns_scs (by omega) _ _ _ HO7.out) (by omega)⟩, setCells_below HB7.out (by omega) _ _⟩
          · have HE : Hid (X = baseAc s) := by show X = _; rw [HX3.out]; simp [tq3, tq4]
            clear HX3
            obtain ⟨yz, y0, y1, y2, y3⟩ := HI3.out.bk
            obtain ⟨sz, s0, s1, s2, s3, s4, s5, s6, s7, s8, s9, s10, s11, s12⟩ := HI3.out.sv
            go_upto_region 10 with fail
            have HVf := hid HI3.out.av
            have hrg := HVf.out.range
            have hth := RY.own_there HVf.out.r
            have hrt : World.rangeAt (w3.setCells (w.heap.size + 3) 0 [.string s.nm, .int .i64 s.ver, .int .i64 0, .int .i64 0, .int .i64 0, .bool false, .slice none 0 0, .bool false]) (w.heap.size + 3) 0 [.string s.nm, .int .i64 s.ver, .int .i64 0, .int .i64 0, .int .i64 0, .bool false, .slice none 0 0, .bool false] := World.rangeAt_setCells_same _ _ _ _ hth
            refine wp_region_lit ?_
            refine wpList_load_mid rfl 47 _ rfl (w.heap.size + 2) 0 rfl [.string s.nm, .int .i64 s.ver, .int .i64 0, .int .i64 0, .int .i64 0, .bool false, .slice none 0 0, .bool false] _ hrg Tryz.underlying47 rfl (by kernel_rfl) ?_
            refine wpList_store_mid rfl 47 _ _ rfl (w.heap.size + 3) 0 #[.string s.nm, .int .i64 s.ver, .int .i64 0, .int .i64 0, .int .i64 0, .bool false, .slice none 0 0, .bool false] rfl rfl hth (by kernel_rfl) (by simp [Value.oneCell']) ?_
            simp only [Act.put, List.setIfInBounds_toArray, List.set_cons_zero, List.set_cons_succ]
            go_wp2
            refine bodyPost_ret (v := .agg #[.string s.nm, .int .i64 s.ver, .int .i64 0, .int .i64 0, .int .i64 0, .bool false, .slice none 0 0, .bool false]) (by simp [results, Tryz.results52, asAddr, run_loadVar_mid (P := Tryz.prog) _ _ _ 47 [.string s.nm, .int .i64 s.ver, .int .i64 0, .int .i64 0, .int .i64 0, .bool false, .slice none 0 0, .bool false] _ hrt Tryz.underlying47 rfl (by kernel_rfl)]) rfl ?_
            rw [HE.out]
            exact ⟨⟨_, _, _, rfl, owns_nil _ _ _ _⟩, setCells_below HI3.out.bel (by omega) _ _⟩
        · have HE : Hid (X = baseAc s) := by show X = _; rw [HX3.out]; simp [tq3]
          clear HX3
          obtain ⟨yz, y0, y1, y2, y3⟩ := HI3.out.bk
          obtain ⟨sz, s0, s1, s2, s3, s4, s5, s6, s7, s8, s9, s10, s11, s12⟩ := HI3.out.sv
          go_upto_region 10 with fail
          have HVf := hid HI3.out.av
          have hrg := HVf.out.range
          have hth := RY.own_there HVf.out.r
          have hrt : World.rangeAt (w3.setCells (w.heap.size + 3) 0 [.string s.nm, .int .i64 s.ver, .int .i64 0, .int .i64 0, .int .i64 0, .bool false, .slice none 0 0, .bool false]) (w.heap.size + 3) 0 [.string s.nm, .int .i64 s.ver, .int .i64 0, .int .i64 0, .int .i64 0, .bool false, .slice none 0 0, .bool false] := World.rangeAt_setCells_same _ _ _ _ hth
          refine wp_region_lit ?_
          refine wpList_load_mid rfl 47 _ rfl (w.heap.size + 2) 0 rfl [.string s.nm, .int .i64 s.ver, .int .i64 0, .int .i64 0, .int .i64 0, .bool false, .slice none 0 0, .bool false] _ hrg Tryz.underlying47 rfl (by kernel_rfl) ?_
          refine wpList_store_mid rfl 47 _ _ rfl (w.heap.size + 3) 0 #[.string s.nm, .int .i64 s.ver, .int .i64 0, .int .i64 0, .int .i64 0, .bool false, .slice none 0 0, .bool false] rfl rfl hth (by kernel_rfl) (by simp [Value.oneCell']) ?_
          simp only [Act.put, List.setIfInBounds_toArray, List.set_cons_zero, List.set_cons_succ]
          go_wp2
          refine bodyPost_ret (v := .agg #[.string s.nm, .int .i64 s.ver, .int .i64 0, .int .i64 0, .int .i64 0, .bool false, .slice none 0 0, .bool false]) (by simp [results, Tryz.results52, asAddr, run_loadVar_mid (P := Tryz.prog) _ _ _ 47 [.string s.nm, .int .i64 s.ver, .int .i64 0, .int .i64 0, .int .i64 0, .bool false, .slice none 0 0, .bool false] _ hrt Tryz.underlying47 rfl (by kernel_rfl)]) rfl ?_
          rw [HE.out]
          exact ⟨⟨_, _, _, rfl, owns_nil _ _ _ _⟩, setCells_below HI3.out.bel (by omega) _ _⟩
    · have HCM : Hid (calmB K s = false) := by show _ = _; rw [HC2.out, decide_eq_false tq2]; rfl
      have hq2 : ((n2 : Int) == 0) = false := by simp; omega
      clear HC2 tq2
      have HX3 : Hid (X = if (decide (s.want < (L.length : Int)) && (false || decide (s.want + s.over < (L.length : Int)))) && mayEnd K s.nm bb.num then ⟨s.nm, s.ver, 0, 0, 0, false, [endOf bb], false⟩ else baseAc s) := by show X = _; rw [HX2.out, HCM.out]
      clear HX2 HCM
      have hsW : wa.heap.size ≤ w2.heap.size := by omega
      by_cases tq3 : s.want < (L.length : Int)
      · by_cases tq4 : s.want + s.over < (L.length : Int)
        · have hL0 : 0 < L.length := by omega
          have HX4 : Hid (X = if mayEnd K s.nm bb.num then ⟨s.nm, s.ver, 0, 0, 0, false, [endOf bb], false⟩ else baseAc s) := by show X = _; rw [HX3.out]; simp [tq3, tq4]
          clear HX3
          obtain ⟨yz, y0, y1, y2, y3⟩ := HI2.out.bk
          obtain ⟨sz, s0, s1, s2, s3, s4, s5, s6, s7, s8, s9, s10, s11, s12⟩ := HI2.out.sv
          go_wp2_with fail
          refine (l16FirstS K a0 a1 a2 c0 c1 c2 s L al cl wa.heap.size w2 (HH.out.later HI2.out.bel) HL2.out HZ.out hlc).mono ?_
          rintro e w5 ⟨⟨v5, rfl, hown⟩, hb⟩
          rw [HFO.out hL0] at hown
          obtain ⟨a5, k5, hv⟩ := owns_slice hown
          subst hv
          obtain ⟨g5, ha5, hg5, hgb5, hc5⟩ := own_one (x := .int .i64 bb.num) (y := .int .i64 bb.ver) hown
          subst ha5
          have HI5 := hid (HI2.out.later hb)
          have HO5 := hid hown
          have hs5 : w2.heap.size ≤ w5.heap.size := hb.size
          clear hown hb yz y0 y1 y2 y3 sz s0 s1 s2 s3 s4 s5 s6 s7 s8 s9 s10 s11 s12 HI2 HL2
          obtain ⟨yz, y0, y1, y2, y3⟩ := HI5.out.bk
          obtain ⟨sz, s0, s1, s2, s3, s4, s5, s6, s7, s8, s9, s10, s11, s12⟩ := HI5.out.sv
          go_upto_region 8 with fail
          have HK : Hid (∀ px : Pst w5, SBkV px.W a0 a1 a2 K) := fun px => (HH.out.later HI5.out.bel).later px.ok
          have hNE := pst_some w5
          have YZ : ∀ px : Pst w5, w.heap.size < px.W.heap.size := fun px => px.size yz
          have SZ : ∀ px : Pst w5, w.heap.size + 1 < px.W.heap.size := fun px => px.size sz
          have Y0 : ∀ px : Pst w5, px.W.cell? ⟨w.heap.size, 0, none⟩ = some (.int .i64 K.now) := fun px => px.cell y0 yz
          have Y1 : ∀ px : Pst w5, px.W.cell? ⟨w.heap.size, 1, none⟩ = some (.slice a0 K.svcs.length c0) := fun px => px.cell y1 yz
          have Y2 : ∀ px : Pst w5, px.W.cell? ⟨w.heap.size, 2, none⟩ = some (.slice a1 K.cps.length c1) := fun px => px.cell y2 yz
          have Y3 : ∀ px : Pst w5, px.W.cell? ⟨w.heap.size, 3, none⟩ = some (.slice a2 K.bts.length c2) := fun px => px.cell y3 yz
          have S0 : ∀ px : Pst w5, px.W.cell? ⟨w.heap.size + 1, 0, none⟩ = some (.string s.nm) := fun px => px.cell s0 sz
          have G0 : ∀ px : Pst w5, px.W.cell? ⟨g5, 0, none⟩ = some (.int .i64 bb.num) := fun px => px.cell hc5 hg5
          clear yz y0 y1 y2 y3 sz s0 s1 s2 s3 s4 s5 s6 s7 s8 s9 s10 s11 s12 hc5
          refine region_class w5 (Below.refl _ _) (by kernel_rfl) (by kernel_rfl) ?_
          repeat (first
            | go_big_quiet_skip
            | (go_big_quiet_want; go_big_quiet_op; first | go_big_quiet_on | (apply Exists.intro; refine ⟨fun px => ?_, ?_⟩; (focus ((go_at_call 82; refine (l14MayEndS K a0 a1 a2 c0 c1 c2 s.nm bb.num px.W (HK.out px) HSN.out).mono ?_; rintro e w' ⟨he, hb⟩; exact ⟨he, ⟨w', blw_trans px.ok hb⟩, rfl⟩))); go_big_quiet_on)))
          refine wpQuiet_nil ?_
          intro _ hw'
          obtain ⟨x6, hw''⟩ := hw'
          subst hw''
          have HI6 := hid (HI5.out.later x6.ok)
          have HO6 := hid (owns_later HO5.out x6.ok)
          have hs6 : w5.heap.size ≤ x6.W.heap.size := x6.ok.size
          clear Y0 Y1 Y2 Y3 S0 G0 YZ SZ HK hNE HI5 HO5
          obtain ⟨wx, hwx⟩ : ∃ wx, wx = x6.W := ⟨_, rfl⟩
          rw [← hwx] at HI6 HO6 hs6 ⊢
          clear hwx x6
          cases gm : mayEnd K s.nm bb.num
          · have HE : Hid (X = baseAc s) := by show X = _; rw [HX4.out, gm]; rfl
            clear HX4 gm
            go_upto_region 10 with fail
            have HVf := hid HI6.out.av
            have hrg := HVf.out.range
            have hth := RY.own_there HVf.out.r
            have hrt : World.rangeAt (wx.setCells (w.heap.size + 3) 0 [.string s.nm, .int .i64 s.ver, .int .i64 0, .int .i64 0, .int .i64 0, .bool false, .slice none 0 0, .bool false]) (w.heap.size + 3) 0 [.string s.nm, .int .i64 s.ver, .int .i64 0, .int .i64 0, .int .i64 0, .bool false, .slice none 0 0, .bool false] := World.rangeAt_setCells_same _ _ _ _ hth
            refine wp_region_lit ?_
            refine wpList_load_mid rfl 47 _ rfl (w.heap.size + 2) 0 rfl [.string s.nm, .int .i64 s.ver, .int .i64 0, .int .i64 0, .int .i64 0, .bool false, .slice none 0 0, .bool false] _ hrg Tryz.underlying47 rfl (by kernel_rfl) ?_
            refine wpList_store_mid rfl 47 _ _ rfl (w.heap.size + 3) 0 #[.string s.nm, .int .i64 s.ver, .int .i64 0, .int .i64 0, .int .i64 0, .bool false, .slice none 0 0, .bool false] rfl rfl hth (by kernel_rfl) (by simp [Value.oneCell']) ?_
            simp only [Act.put, List.setIfInBounds_toArray, List.set_cons_zero, List.set_cons_succ]
            go_wp2
            refine bodyPost_ret (v := .agg #[.string s.nm, .int .i64 s.ver, .int .i64 0, .int .i64 0, .int .i64 0, .bool false, .slice none 0 0, .bool false]) (by simp [results, Tryz.results52, asAddr, run_loadVar_mid (P := Tryz.prog) _ _ _ 47 [.string s.nm, .int .i64 s.ver, .int .i64 0, .int .i64 0, .int .i64 0, .bool false, .slice none 0 0, .bool false] _ hrt Tryz.underlying47 rfl (by kernel_rfl)]) rfl ?_
            rw [HE.out]
            exact ⟨⟨_, _, _, rfl, owns_nil _ _ _ _⟩, setCells_below HI6.out.bel (by omega) _ _⟩
          · have HE : Hid (X = ⟨s.nm, s.ver, 0, 0, 0, false, [endOf bb], false⟩) := by show X = _; rw [HX4.out, gm]; rfl
            clear HX4 gm
            obtain ⟨w7, hw7⟩ : ∃ w7, w7 = wx.setCell ⟨w.heap.size + 2, 6, none⟩ (.slice (some ⟨g5, 0, none⟩) 1 k5) := ⟨_, rfl⟩
            have HV7 : Hid (AV w7 (w.heap.size + 2) (w.heap.size + 3) [.string s.nm, .int .i64 s.ver, .int .i64 0, .int .i64 0, .int .i64 0, .bool false, .slice (some ⟨g5, 0, none⟩) 1 k5, .bool false]) := by show AV _ _ _ _; rw [hw7]; exact HI6.out.av.sc 6 (by omega) _
            have HB7 : Hid (Below w.heap.size w w7) := by show Below _ _ _; rw [hw7]; exact HI6.out.bel.setCell (p := ⟨w.heap.size + 2, 6, none⟩) (by show w.heap.size ≤ w.heap.size + 2; omega) _
            have HO7 : Hid (w7.ownsRow w2.heap.size 114 2 (.slice (some ⟨g5, 0, none⟩) 1 k5) 1 [.int .i64 bb.num, .int .i64 bb.ver]) := by show World.ownsRow _ _ _ _ _ _ _; rw [hw7]; exact owns_stc HO6.out (by omega) _ _
            have v6 := HI6.out.av.at_ 6 _ rfl (by omega)
            have vz := HI6.out.av.a.lt
            have hfz := HI6.out.av.a.frozen
            go_upto_region 10 with fail
            rw [← hw7]
            clear hw7 v6 vz hfz HI6 HO6
            have hrg := HV7.out.range
            have hth := RY.own_there HV7.out.r
            have hrt : World.rangeAt (w7.setCells (w.heap.size + 3) 0 [.string s.nm, .int .i64 s.ver, .int .i64 0, .int .i64 0, .int .i64 0, .bool false, .slice (some ⟨g5, 0, none⟩) 1 k5, .bool false]) (w.heap.size + 3) 0 [.string s.nm, .int .i64 s.ver, .int .i64 0, .int .i64 0, .int .i64 0, .bool false, .slice (some ⟨g5, 0, none⟩) 1 k5, .bool false] := World.rangeAt_setCells_same _ _ _ _ hth
            refine wp_region_lit ?_
            refine wpList_load_mid rfl 47 _ rfl (w.heap.size + 2) 0 rfl [.string s.nm, .int .i64 s.ver, .int .i64 0, .int .i64 0, .int .i64 0, .bool false, .slice (some ⟨g5, 0, none⟩) 1 k5, .bool false] _ hrg Tryz.underlying47 rfl (by kernel_rfl) ?_
            refine wpList_store_mid rfl 47 _ _ rfl (w.heap.size + 3) 0 #[.string s.nm, .int .i64 s.ver, .int .i64 0, .int .i64 0, .int .i64 0, .bool false, .slice (some ⟨g5, 0, none⟩) 1 k5, .bool false] rfl rfl hth (by kernel_rfl) (by simp [Value.oneCell']) ?_
            simp only [Act.put, List.setIfInBounds_toArray, List.set_cons_zero, List.set_cons_succ]
            go_wp2
            refine bodyPost_ret (v := .agg #[.string s.nm, .int .i64 s.ver, .int .i64 0, .int .i64 0, .int .i64 0, .bool false, .slice (some ⟨g5, 0, none⟩) 1 k5, .bool false]) (by simp [results, Tryz.results52, asAddr, run_loadVar_mid (P := Tryz.prog) _ _ _ 47 [.string s.nm, .int .i64 s.ver, .int .i64 0, .int .i64 0, .int .i64 0, .bool false, .slice (some ⟨g5, 0, none⟩) 1 k5, .bool false] _ hrt Tryz.underlying47 rfl (by kernel_rfl)]) rfl ?_
            rw [HE.out]
            exact ⟨⟨_, _, _, rfl, owns_base (owns_scs (by omega) _ _ _ HO7.out) (by omega)⟩, setCells_below HB7.out (by omega) _ _⟩
        · have HE : Hid (X = baseAc s) := by show X = _; rw [HX3.out]; simp [tq3, tq4]
          clear HX3
          obtain ⟨yz, y0, y1, y2, y3⟩ := HI2.out.bk
          obtain ⟨sz, s0, s1, s2, s3, s4, s5, s6, s7, s8, s9, s10, s11, s12⟩ := HI2.out.sv
          go_upto_region 10 with fail
          have HVf := hid HI2.out.av
          have hrg := HVf.out.range
          have hth := RY.own_there HVf.out.r
          have hrt : World.rangeAt (w2.setCells (w.heap.size + 3) 0 [.string s.nm, .int .i64 s.ver, .int .i64 0, .int .i64 0, .int .i64 0, .bool false, .slice none 0 0, .bool false]) (w.heap.size + 3) 0 [.string s.nm, .int .i64 s.ver, .int .i64 0, .int .i64 0, .int .i64 0, .bool false, .slice none 0 0, .bool false] := World.rangeAt_setCells_same _ _ _ _ hth
          refine wp_region_lit ?_
          refine wpList_load_mid rfl 47 _ rfl (w.heap.size + 2) 0 rfl [.string s.nm, .int .i64 s.ver, .int .i64 0, .int .i64 0, .int .i64 0, .bool false, .slice none 0 0, .bool false] _ hrg Tryz.underlying47 rfl (by kernel_rfl) ?_
          refine wpList_store_mid rfl 47 _ _ rfl (w.heap.size + 3) 0 #[.string s.nm, .int .i64 s.ver, .int .i64 0, .int .i64 0, .int .i64 0, .bool false, .slice none 0 0, .bool false] rfl rfl hth (by kernel_rfl) (by simp [Value.oneCell']) ?_
          simp only [Act.put, List.setIfInBounds_toArray, List.set_cons_zero, List.set_cons_succ]
          go_wp2
          refine bodyPost_ret (v := .agg #[.string s.nm, .int .i64 s.ver, .int .i64 0, .int .i64 0, .int .i64 0, .bool false, .slice none 0 0, .bool false]) (by simp [results, Tryz.results52, asAddr, run_loadVar_mid (P := Tryz.prog) _ _ _ 47 [.string s.nm, .int .i64 s.ver, .int .i64 0, .int .i64 0, .int .i64 0, .bool false, .slice none 0 0, .bool false] _ hrt Tryz.underlying47 rfl (by kernel_rfl)]) rfl ?_
          rw [HE.out]
          exact ⟨⟨_, _, _, rfl, owns_nil _ _ _ _⟩, setCells_below HI2.out.bel (by omega) _ _⟩
      · have HE : Hid (X = baseAc s) := by show X = _; rw [HX3.out]; simp [tq3]
        clear HX3
        obtain ⟨yz, y0, y1, y2, y3⟩ := HI2.out.bk
        obtain ⟨sz, s0, s1, s2, s3, s4, s5, s6, s7, s8, s9, s10, s11, s12⟩ := HI2.out.sv
        go_upto_region 10 with fail
        have HVf := hid HI2.out.av
        have hrg := HVf.out.range
        have hth := RY.own_there HVf.out.r
        have hrt : World.rangeAt (w2.setCells (w.heap.size + 3) 0 [.string s.nm, .int .i64 s.ver, .int .i64 0, .int .i64 0, .int .i64 0, .bool false, .slice none 0 0, .bool false]) (w.heap.size + 3) 0 [.string s.nm, .int .i64 s.ver, .int .i64 0, .int .i64 0, .int .i64 0, .bool false, .slice none 0 0, .bool false] := World.rangeAt_setCells_same _ _ _ _ hth
        refine wp_region_lit ?_
        refine wpList_load_mid rfl 47 _ rfl (w.heap.size + 2) 0 rfl [.string s.nm, .int .i64 s.ver, .int .i64 0, .int .i64 0, .int .i64 0, .bool false, .slice none 0 0, .bool false] _ hrg Tryz.underlying47 rfl (by kernel_rfl) ?_
        refine wpList_store_mid rfl 47 _ _ rfl (w.heap.size + 3) 0 #[.string s.nm, .int .i64 s.ver, .int .i64 0, .int .i64 0, .int .i64 0, .bool false, .slice none 0 0, .bool false] rfl rfl hth (by kernel_rfl) (by simp [Value.oneCell']) ?_
        simp only [Act.put, List.setIfInBounds_toArray, List.set_cons_zero, List.set_cons_succ]
        go_wp2
        refine bodyPost_ret (v := .agg #[.string s.nm, .int .i64 s.ver, .int .i64 0, .int .i64 0, .int .i64 0, .bool false, .slice none 0 0, .bool false]) (by simp [results, Tryz.results52, asAddr, run_loadVar_mid (P := Tryz.prog) _ _ _ 47 [.string s.nm, .int .i64 s.ver, .int .i64 0, .int .i64 0, .int .i64 0, .bool false, .slice none 0 0, .bool false] _ hrt Tryz.underlying47 rfl (by kernel_rfl)]) rfl ?_
        rw [HE.out]
        exact ⟨⟨_, _, _, rfl, owns_nil _ _ _ _⟩, setCells_below HI2.out.bel (by omega) _ _⟩

end Go.Proofs.YtamhfnlogldpaaaGreat
