/-
  The walk over the law of StewAsk.
-/
import Derived.Test.YtamhfnlogldpaaaGreatMkAr
import Derived.Test.YtamhfnlogldpaaaGreatAkE
import Derived.Test.YtamhfnlogldpaaaGreatMkSB
import Derived.Test.YtamhfnlogldpaaaGreatMkAu
import Derived.Test.YtamhfnlogldpaaaGreatLet
namespace Go.Proofs.YtamhfnlogldpaaaGreat
open Go.RowKit Go.Deep

set_option maxRecDepth 8000 in
set_option maxHeartbeats 8000000 in
theorem eqActs (L : List Ac) (hs : Short L) (lo hi : Nat) (a : Option Addr) (c b : Nat) (ae : Nat → Option Addr) (ce eb : Nat → Nat) (lo' hi' : Nat) (a' : Option Addr) (c' b' : Nat) (ae' : Nat → Option Addr) (ce' eb' : Nat → Nat) (w : World) (h : RowP w lo hi a b L ae ce eb) (h' : RowP w lo' hi' a' b' L ae' ce' eb') :
    Calls Tryz.prog 8 #[.slice a L.length c, .slice a' L.length c'] w fun e w' => e = .returned (.bool true) ∧ Below w.heap.size w w' := by
  obtain ⟨hl, hle⟩ := hs
  have HLE := hidA hle
  have HH : Hid (RowP w lo hi a b L ae ce eb ∧ RowP w lo' hi' a' b' L ae' ce' eb') := ⟨h, h'⟩
  clear h h' hle
  go_enter Tryz.func8, Tryz.ntmps8
  go_wp2
  go_loopw [5] (fun i wr => ∃ k : Nat, k ≤ L.length ∧ i = .int .i64 k ∧ Below w.heap.size w wr) (fun i _ => L.length - (intOf i).toNat)
  case atStart => exact ⟨0, Nat.zero_le _, rfl, Below.refl _ _⟩
  case round =>
    obtain ⟨k, hk, rfl, hW⟩ := hrel
    by_cases hlt : k < L.length
    · have R1 := HH.out.1.later hW
      have R2 := HH.out.2.later hW
      obtain ⟨ha, _, _, m, hO, _⟩ := R1.a_ (by omega)
      obtain ⟨ha', _, _, m', hO', _⟩ := R2.a_ (by omega)
      have hbl := hO.lt
      have hbl' := hO'.lt
      subst ha ha'
      have q := R1.cells k hlt
      have q' := R2.cells k hlt
      have v := R1.ens hlt (by have := HLE.out k; omega)
      have v' := R2.ens hlt (by have := HLE.out k; omega)
      obtain ⟨X, hX⟩ : ∃ X, X = L.getD k Ac.none := ⟨_, rfl⟩
      rw [← hX] at q q' v v'
      obtain ⟨ak, hak⟩ : ∃ ak, ak = ae k := ⟨_, rfl⟩
      obtain ⟨ck, hck⟩ : ∃ ck, ck = ce k := ⟨_, rfl⟩
      obtain ⟨ak', hak'⟩ : ∃ ak', ak' = ae' k := ⟨_, rfl⟩
      obtain ⟨ck', hck'⟩ : ∃ ck', ck' = ce' k := ⟨_, rfl⟩
      rw [← hak] at q v
      rw [← hck] at q
      rw [← hak'] at q' v'
      rw [← hck'] at q'
      have c0 : wr.cell? ⟨b, k * 8, none⟩ = some (.string X.svc) := q 0 _ rfl
      have c1 := q 1 _ rfl
      have c2 := q 2 _ rfl
      have c3 := q 3 _ rfl
      have c4 := q 4 _ rfl
      have c5 := q 5 _ rfl
      have c6 := q 6 _ rfl
      have c7 := q 7 _ rfl
      have d0 : wr.cell? ⟨b', k * 8, none⟩ = some (.string X.svc) := q' 0 _ rfl
      have d1 := q' 1 _ rfl
      have d2 := q' 2 _ rfl
      have d3 := q' 3 _ rfl
      have d4 := q' 4 _ rfl
      have d5 := q' 5 _ rfl
      have d6 := q' 6 _ rfl
      have d7 := q' 7 _ rfl
      have HX : Hid (∀ W, Below wr.heap.size wr W → Calls Tryz.prog 30 #[.agg #[.string X.svc, .int .i64 X.seen, .int .i64 X.create, .int .i64 X.want, .int .i64 X.cool, .bool X.scale, .slice ak X.ends.length ck, .bool X.drop], .agg #[.string X.svc, .int .i64 X.seen, .int .i64 X.create, .int .i64 X.want, .int .i64 X.cool, .bool X.scale, .slice ak' X.ends.length ck', .bool X.drop]] W fun e w' => e = .returned (.bool true) ∧ Below W.heap.size W w') := fun W hW => eqActV X ak ak' ck ck' W (v.later hW) (v'.later hW)
      clear hX hak hck hak' hck' q q' v v' R1 R2 hO hO'
      go_wp2_with fail
      go_region_with (go_at_call 30; refine (HX.out _ ?_).mono ?_; (repeat (first | exact Below.refl _ _ | refine Below.drew ?_)); rintro e w2 ⟨rfl, hb2⟩)
      all_goals
        go_wp2
        go_roundw
        case rel =>
          refine ⟨k + 1, by omega, by go_num, ?_⟩
          repeat (first | exact blw_trans hW hb2 | exact blw_trans hW.drew hb2 | exact blw_trans hW.drew.drew hb2 | refine Below.drew ?_)
        case measure => simp [intOf]; omega
    · go_wp2
      go_ret
      exact ⟨rfl, hW⟩


end Go.Proofs.YtamhfnlogldpaaaGreat

namespace Go.Proofs.YtamhfnlogldpaaaGreat
open Go.RowKit Go.Deep

theorem some_le (K : SBk) (s : Sv) (x : Int) : (someOf K s x).length ≤ K.cps.length := Nat.le_trans (List.length_filter_le _ _) (liveTo_len _ _ _)
theorem act_ends (kind : Int) (K : SBk) (s : Sv) : (actAc kind K s).ends.length ≤ K.cps.length + 1 := by
  have h2 := some_le K s 3
  have h3 : (liveOf K s.nm).length ≤ K.cps.length := liveTo_len _ _ _
  have hf : ∀ M : List Nat, (firstOf K s.image M).length ≤ 1 := fun M => by unfold firstOf; split <;> simp
  have hr : ∀ M : List Nat, (replAc K s M).ends.length ≤ 1 := fun M => by
    unfold replAc baseAc
    (repeat' split) <;> first | exact hf _ | simp
  have hc : (counterAc K s).ends.length ≤ 1 := by
    unfold counterAc baseAc
    (repeat' split) <;> simp
  have he : ∀ M : List Nat, (endsOf K M).length = M.length := fun M => by unfold endsOf; rw [List.length_map]
  have h0 : (baseAc s).ends.length = 0 := rfl
  have h4 : (scalAc s).ends.length = 0 := rfl
  unfold actAc
  (repeat' split) <;> first | (have := hr (someOf K s 2); omega) | (have := hr (someOf K s 6); omega) | (simp only [he]; omega) | omega
theorem ask_short (kind : Int) (K : SBk) : Short (askOf kind K) := by
  unfold askOf
  by_cases hok : sbOk K = true
  · rw [if_pos hok]
    have h1 := (svs_ok hok).1
    have h2 := (chk_all hok).2.2.1
    refine ⟨Nat.le_trans (askTo_len kind K _) (by omega), fun i => ?_⟩
    by_cases hi : i < (askTo kind K K.svcs.length).length
    · have e : (askTo kind K K.svcs.length).getD i Ac.none = (askTo kind K K.svcs.length)[i] := by simp [hi]
      have hm := List.getElem_mem hi
      rw [← e] at hm
      obtain ⟨s, _, hs⟩ := List.mem_map.1 (List.mem_filter.1 hm).1
      have := act_ends kind K s
      rw [hs] at this
      omega
    · have e : (askTo kind K K.svcs.length).getD i Ac.none = Ac.none := by simp [Nat.le_of_not_lt hi]
      rw [e]
      exact Nat.zero_le _
  · rw [if_neg hok]
    exact ⟨by simp, fun i => by simp [Ac.none]⟩

def VEqlawStewAsk (K : SBk) (X Y : Value) (i : Nat) (u : Value) (W : World) : Prop :=
  match i with
  | 0 => u = Y
  | 1 => u = X
  | 2 => ∃ b0 b1 b2, u = .agg #[.int .i64 K.now, .slice (some ⟨b0, 0, none⟩) K.svcs.length K.svcs.length, .slice (some ⟨b1, 0, none⟩) K.cps.length K.cps.length, .slice (some ⟨b2, 0, none⟩) K.bts.length K.bts.length] ∧ SBkIn W b0 b1 b2 K
  | 3 => u = .bool true
  | _ => u = .bool false

theorem VEqlawStewAsk_mono (K : SBk) (X Y : Value) : ∀ j u W W', Below W.heap.size W W' → VEqlawStewAsk K X Y j u W → VEqlawStewAsk K X Y j u W' := by
  intro j u W W' hb h
  match j, h with
  | 0, h => exact h
  | 1, h => exact h
  | 2, h =>
    obtain ⟨b0, b1, b2, rfl, h2⟩ := h
    exact ⟨b0, b1, b2, rfl, h2.later hb⟩
  | 3, h => exact h
  | n + 4, h => exact h

set_option maxRecDepth 8000 in
set_option maxHeartbeats 40000000 in
theorem lawStewAsk (kind : Int) (K : SBk) (v0 v1 v2 : Value) (w : World) (h : SBkAt w v0 v1 v2 K) :
    Calls Tryz.prog 3 #[.int .i64 kind, .agg #[.int .i64 K.now, v0, v1, v2]] w fun e w' => e = .returned (.bool true) ∧ Below w.heap.size w w' := by
  have HH : Hid (SBkAt w v0 v1 v2 K) := h
  clear h
  obtain ⟨L, hL⟩ : ∃ L, L = askOf kind K := ⟨_, rfl⟩
  have HSH : Hid (Short L) := by show Short _; rw [hL]; exact ask_short kind K
  have HIF : Hid (∀ W b0 b1 b2, SBkIn W b0 b1 b2 K → Calls Tryz.prog 7 #[.int .i64 kind, .agg #[.int .i64 K.now, .slice (some ⟨b0, 0, none⟩) K.svcs.length K.svcs.length, .slice (some ⟨b1, 0, none⟩) K.cps.length K.cps.length, .slice (some ⟨b2, 0, none⟩) K.bts.length K.bts.length]] W fun e w' => (∃ a c b ae ce eb, e = .returned (.slice a L.length c) ∧ RowP w' W.heap.size w'.heap.size a b L ae ce eb) ∧ Below W.heap.size W w') := by
    intro W b0 b1 b2 hk
    refine (stewAskI K (some ⟨b0, 0, none⟩) (some ⟨b1, 0, none⟩) (some ⟨b2, 0, none⟩) _ _ _ kind W hk.v).mono ?_
    rintro e w' ⟨⟨v, es, rfl, ho⟩, hb⟩
    rw [pOf_eq, ← hL] at ho
    obtain ⟨a, c, b, ae, ce, eb, rfl, hp⟩ := ho.p
    exact ⟨⟨a, c, b, ae, ce, eb, rfl, hp⟩, hb⟩
  have HSF : Hid (∀ W b0 b1 b2, SBkIn W b0 b1 b2 K → Calls Tryz.prog 5 #[.int .i64 kind, .agg #[.int .i64 K.now, .slice (some ⟨b0, 0, none⟩) K.svcs.length K.svcs.length, .slice (some ⟨b1, 0, none⟩) K.cps.length K.cps.length, .slice (some ⟨b2, 0, none⟩) K.bts.length K.bts.length]] W fun e w' => (∃ a c b ae ce eb, e = .returned (.slice a L.length c) ∧ RowP w' W.heap.size w'.heap.size a b L ae ce eb) ∧ Below W.heap.size W w') := by
    intro W b0 b1 b2 hk
    refine (stewAskS K (some ⟨b0, 0, none⟩) (some ⟨b1, 0, none⟩) (some ⟨b2, 0, none⟩) _ _ _ kind W hk.v).mono ?_
    rintro e w' ⟨⟨v, es, rfl, ho⟩, hb⟩
    rw [← hL] at ho
    obtain ⟨a, c, b, ae, ce, eb, rfl, hp⟩ := ho.p
    exact ⟨⟨a, c, b, ae, ce, eb, rfl, hp⟩, hb⟩
  clear hL
  obtain ⟨wa, hwa⟩ : ∃ wa, wa = w.alloc (.cells #[.int .i64 K.now, v0, v1, v2] 26) := ⟨_, rfl⟩
  have HBa : Hid (Below w.heap.size w wa) := by show Below _ _ _; rw [hwa]; exact blw_alloc (Below.refl _ _) _
  have HXa : Hid (Box4 wa w.heap.size (.int .i64 K.now) (v0) (v1) (v2)) := by show Box4 _ _ _ _ _ _; rw [hwa]; exact Box4.new' w _ _ _ _ _ _ rfl
  go_enter Tryz.func3, Tryz.ntmps3
  go_upto_region 1 with fail
  rw [← hwa]
  clear hwa
  obtain ⟨yz, y0, y1, y2, y3⟩ := HXa.out
  go_wp2_with fail
  refine (szSB K v0 v1 v2 1048576 wa (by omega) (by omega) (HH.out.later HBa.out)).mono ?_
  rintro e wb ⟨⟨r, rfl, q, q', hr⟩, hb⟩
  have HR : Hid (0 ≤ r → K.small) := hr
  have HBb := hid (blw_trans HBa.out hb)
  have HXb := hid (HXa.out.later hb)
  clear hr hb yz y0 y1 y2 y3 HXa HBa
  by_cases c0 : r < 0
  · go_wp2
    go_ret
    exact ⟨rfl, HBb.out⟩
  have HS : Hid K.small := HR.out (by omega)
  clear HR
  obtain ⟨yz, y0, y1, y2, y3⟩ := HXb.out
  go_wp2_with fail
  refine (toSB K v0 v1 v2 wb HS.out (HH.out.later HBb.out)).mono ?_
  rintro e wc ⟨⟨b0, b1, b2, rfl, hi, _⟩, hb⟩
  have HIc := hid hi
  have HBc := hid (blw_trans HBb.out hb)
  have HXc := hid (HXb.out.later hb)
  clear hi hb yz y0 y1 y2 y3 HXb HBb
  go_wp2_with fail
  refine (HSF.out wc b0 b1 b2 HIc.out).mono ?_
  rintro e wd ⟨⟨ap, cp, bp, aep, cep, ebp, rfl, hrp⟩, hb⟩
  obtain ⟨lp, hlp⟩ : ∃ lp, lp = wc.heap.size := ⟨_, rfl⟩
  obtain ⟨hp, hhp⟩ : ∃ hp, hp = wd.heap.size := ⟨_, rfl⟩
  rw [← hlp, ← hhp] at hrp
  have HPd := hid hrp
  have hpw : w.heap.size < lp := by rw [hlp]; exact HXc.out.lt
  have hwh : w.heap.size < hp := by rw [hhp]; exact Nat.lt_of_lt_of_le HXc.out.lt hb.size
  have HBd := hid (blw_trans HBc.out hb)
  have HXd := hid (HXc.out.later hb)
  clear hb HXc HBc HIc HSF hrp hlp
  obtain ⟨yz, y0, y1, y2, y3⟩ := HXd.out
  go_wp2_with fail
  refine (toSB K v0 v1 v2 wd HS.out (HH.out.later HBd.out)).mono ?_
  rintro e we ⟨⟨p0, p1, p2, rfl, hi, hl0, hl1, hl2⟩, hb⟩
  have hu0 := hi.l0.lt
  have hu1 := hi.l1.lt
  have hu2 := hi.l2.lt
  obtain ⟨wf, hw⟩ : ∃ wf, wf = we.alloc (.cells #[.int .i64 K.now, .slice (some ⟨p0, 0, none⟩) K.svcs.length K.svcs.length, .slice (some ⟨p1, 0, none⟩) K.cps.length K.cps.length, .slice (some ⟨p2, 0, none⟩) K.bts.length K.bts.length] 34) := ⟨_, rfl⟩
  obtain ⟨mb, hmb⟩ : ∃ mb, mb = we.heap.size := ⟨_, rfl⟩
  have hbn : Below we.heap.size we wf := by rw [hw]; exact blw_alloc (Below.refl _ _) _
  have HYf : Hid (Box4 wf mb (.int .i64 K.now) (.slice (some ⟨p0, 0, none⟩) K.svcs.length K.svcs.length) (.slice (some ⟨p1, 0, none⟩) K.cps.length K.cps.length) (.slice (some ⟨p2, 0, none⟩) K.bts.length K.bts.length)) := by show Box4 _ _ _ _ _ _; rw [hw]; exact Box4.new' we _ _ _ _ _ _ hmb
  have HIf := hid (hi.later hbn)
  have hbf := blw_trans hb hbn
  have HBf := hid (blw_trans HBd.out hbf)
  have HXf := hid (HXd.out.later hbf)
  have HPf := hid (HPd.out.later hbf)
  rw [← hhp] at hl0 hl1 hl2
  rw [← hmb] at hu0 hu1 hu2
  go_upto_region 7 with fail
  rw [← hw, ← hmb]
  clear hw hmb hbn hi hb hbf yz y0 y1 y2 y3 HXd HBd HPd hhp
  have hmf : mb < wf.heap.size := HYf.out.lt
  obtain ⟨xz, x0, x1, x2, x3⟩ := HYf.out
  go_wp2_with fail
  refine (HIF.out wf p0 p1 p2 HIf.out).mono ?_
  rintro e wg ⟨⟨ag, cg, bg, aeg, ceg, ebg, rfl, hrg⟩, hb⟩
  obtain ⟨lg, hlg⟩ : ∃ lg, lg = wf.heap.size := ⟨_, rfl⟩
  obtain ⟨hg, hhg⟩ : ∃ hg, hg = wg.heap.size := ⟨_, rfl⟩
  rw [← hlg, ← hhg] at hrg
  have HBg := hid (blw_trans HBf.out hb)
  have HXg := hid (HXf.out.later hb)
  have HYg := hid (HYf.out.later hb)
  have HIg := hid (HIf.out.later hb)
  have HPg := hid (HPf.out.later hb)
  have HGg := hid hrg
  have hgl : mb < lg := by rw [hlg]; exact hmf
  clear hb xz x0 x1 x2 x3 HXf HBf HYf HIf HPf hrg hlg hhg hmf
  go_wp2_with fail
  refine (eqActs L HSH.out lg hg ag cg bg aeg ceg ebg lp hp ap cp bp aep cep ebp wg HGg.out HPg.out).mono ?_
  rintro e wh ⟨rfl, hb⟩
  have HBh := hid (blw_trans HBg.out hb)
  have HXh := hid (HXg.out.later hb)
  have HYh := hid (HYg.out.later hb)
  have HIh := hid (HIg.out.later hb)
  have HPh := hid (HPg.out.later hb)
  have HGh := hid (HGg.out.later hb)
  clear hb HXg HBg HYg HIg HPg HGg
  go_upto_region 10 with fail
  refine RY.region_past wh (Below.refl _ _) (VEqlawStewAsk K (.agg #[.int .i64 K.now, v0, v1, v2]) (.agg #[.int .i64 K.now, .slice (some ⟨p0, 0, none⟩) K.svcs.length K.svcs.length, .slice (some ⟨p1, 0, none⟩) K.cps.length K.cps.length, .slice (some ⟨p2, 0, none⟩) K.bts.length K.bts.length])) (VEqlawStewAsk_mono K (.agg #[.int .i64 K.now, v0, v1, v2]) (.agg #[.int .i64 K.now, .slice (some ⟨p0, 0, none⟩) K.svcs.length K.svcs.length, .slice (some ⟨p1, 0, none⟩) K.cps.length K.cps.length, .slice (some ⟨p2, 0, none⟩) K.bts.length K.bts.length])) (by kernel_rfl) (by kernel_rfl) (by kernel_rfl) (by kernel_rfl) ?_ ?_
  · intro i o ho a W hW hk hd
    have hB : Below w.heap.size w W := blw_trans HBh.out hW
    obtain ⟨xz, x0, x1, x2, x3⟩ := HYh.out.later hW
    obtain ⟨yz, y0, y1, y2, y3⟩ := HXh.out.later hW
    match i, ho with
    | 0, ho =>
      injection ho with ho; subst ho
      have e0 : a.eval (.tmp 7) = .pointer (some ⟨mb, 0, none⟩) := (hk 7 (by kernel_rfl)).trans rfl
      exact Or.inl ⟨_, W, by simp [execOp, go_sem, (RY.ev_tmp a 7).trans e0, x0, x1, x2, x3], Below.refl _ _, rfl⟩
    | 1, ho =>
      injection ho with ho; subst ho
      have e0 : a.eval (.tmp 3) = .pointer (some ⟨w.heap.size, 0, none⟩) := (hk 3 (by kernel_rfl)).trans rfl
      exact Or.inl ⟨_, W, by simp [execOp, go_sem, (RY.ev_tmp a 3).trans e0, y0, y1, y2, y3], Below.refl _ _, rfl⟩
    | 2, ho =>
      injection ho with ho; subst ho
      have e0 : a.tmps[32]?.getD undef = _ := (RY.ev_tmp a 32).trans (hd 1 _ 32 rfl rfl ⟨⟨1, .data⟩, by simp, rfl, rfl⟩)
      refine Or.inr ⟨6, #[.agg #[.int .i64 K.now, v0, v1, v2]], by simp [go_sem, e0], (toSB K v0 v1 v2 W HS.out (HH.out.later hB)).mono ?_⟩
      rintro e W' ⟨⟨b0, b1, b2, rfl, hi, _⟩, hb⟩
      exact ⟨_, rfl, hb, b0, b1, b2, rfl, hi⟩
    | 3, ho =>
      injection ho with ho; subst ho
      have e0 : a.tmps[31]?.getD undef = _ := (RY.ev_tmp a 31).trans (hd 0 _ 31 rfl rfl ⟨⟨0, .data⟩, by simp, rfl, rfl⟩)
      obtain ⟨b0, b1, b2, e1, hi⟩ := hd 2 _ 33 rfl rfl ⟨⟨2, .data⟩, by simp, rfl, rfl⟩
      have e1 := (RY.ev_tmp a 33).trans e1
      refine Or.inr ⟨9, #[.agg #[.int .i64 K.now, .slice (some ⟨p0, 0, none⟩) K.svcs.length K.svcs.length, .slice (some ⟨p1, 0, none⟩) K.cps.length K.cps.length, .slice (some ⟨p2, 0, none⟩) K.bts.length K.bts.length], .agg #[.int .i64 K.now, .slice (some ⟨b0, 0, none⟩) K.svcs.length K.svcs.length, .slice (some ⟨b1, 0, none⟩) K.cps.length K.cps.length, .slice (some ⟨b2, 0, none⟩) K.bts.length K.bts.length]], by simp [go_sem, e0, e1], (eqSB K p0 p1 p2 b0 b1 b2 W (HIh.out.later hW) hi).mono ?_⟩
      rintro e W' ⟨rfl, hb⟩
      exact ⟨_, rfl, hb, rfl⟩
    | 4, ho =>
      injection ho with ho; subst ho
      have e0 : a.tmps[34]?.getD undef = _ := (RY.ev_tmp a 34).trans (hd 3 _ 34 rfl rfl ⟨⟨3, .data⟩, by simp, rfl, rfl⟩)
      exact Or.inl ⟨.bool false, W, by simp [execOp, go_sem, e0], Below.refl _ _, rfl⟩
    | n + 5, ho => simp at ho
  intro wi vs hb hvs
  have el : vs 35 = .bool false := hvs 4 _ 35 rfl rfl
  simp only [RY.putAll, Act.put, List.setIfInBounds_toArray, List.set_cons_zero, List.set_cons_succ]
  rw [el]
  generalize vs 31 = s27
  generalize vs 32 = s28
  generalize vs 33 = s29
  generalize vs 34 = s30
  clear hvs el
  have HBi := hid (blw_trans HBh.out hb)
  have HXi := hid (HXh.out.later hb)
  have HYi := hid (HYh.out.later hb)
  have HIi := hid (HIh.out.later hb)
  have HPi := hid (HPh.out.later hb)
  have HGi := hid (HGh.out.later hb)
  clear hb HXh HBh HYh HIh HPh HGh
  obtain ⟨xz, x0, x1, x2, x3⟩ := HYi.out
  have hsm := HS.out
  go_wp2_with fail
  refine (markSB (fun b => b = p0 ∨ b = p1 ∨ b = p2) K.now _ _ _ K.svcs.length K.cps.length K.bts.length 1 wi (HIi.out.sk _ (Or.inl rfl) (Or.inr (Or.inl rfl)) (Or.inr (Or.inr rfl))) ?_ (by omega) (by omega) hsm.1 hsm.2.1 hsm.2.2).mono ?_
  · intro b hb
    have := HYi.out.lt
    rcases hb with rfl | rfl | rfl <;> omega
  rintro e wj ⟨rfl, hmk, _⟩
  have hns : ∀ b, (b < hp ∨ mb ≤ b) → ¬ (b = p0 ∨ b = p1 ∨ b = p2) := by
    intro b hb hc
    rcases hc with rfl | rfl | rfl <;> omega
  have HBj : Hid (Below w.heap.size w wj) := hmk.below (fun b hb => by rcases hb with rfl | rfl | rfl <;> omega) HBi.out
  have HXj : Hid (Box4 wj w.heap.size (.int .i64 K.now) (v0) (v1) (v2)) := by
    have e := fun o => hmk.cell HXi.out.lt (hns _ (Or.inl (by omega))) o
    exact ⟨Nat.lt_of_lt_of_le HXi.out.lt hmk.size, (e _).trans HXi.out.x0, (e _).trans HXi.out.x1, (e _).trans HXi.out.x2, (e _).trans HXi.out.x3⟩
  have HPj := hid (HPi.out.marks hmk (fun b _ hb => hns b (Or.inl hb)))
  have HGj := hid (HGi.out.marks hmk (fun b hb _ => hns b (Or.inr (by omega))))
  obtain ⟨kk, hkk⟩ : ∃ kk : Nat, kk = 1 + K.svcs.length * 13 + K.cps.length * 7 + K.bts.length * 2 := ⟨_, rfl⟩
  rw [← hkk]
  clear hkk hmk hns hsm xz x0 x1 x2 x3 HXi HBi HYi HIi HPi HGi
  have hk0 : ¬ ((kk : Int) < 0) := by omega
  go_wp2_with fail
  refine (eqActs L HSH.out lg hg ag cg bg aeg ceg ebg lp hp ap cp bp aep cep ebp wj HGj.out HPj.out).mono ?_
  rintro e wk ⟨rfl, hb⟩
  have HBk := hid (blw_trans HBj.out hb)
  have HXk := hid (HXj.out.later hb)
  have HPk := hid (HPj.out.later hb)
  have HGk := hid (HGj.out.later hb)
  clear hb HBj HXj HPj HGj
  go_wp2_with fail
  refine (markActs L HSH.out lg hg ag cg bg aeg ceg ebg 1 wk HGk.out (by omega) (by omega)).mono ?_
  rintro e wl ⟨rfl, hmk, hgc⟩
  have HBl : Hid (Below w.heap.size w wl) := hmk.below (fun b hb => by have := hb.1; omega) HBk.out
  have HXl : Hid (Box4 wl w.heap.size (.int .i64 K.now) (v0) (v1) (v2)) := by
    have e := fun o => hmk.cell HXk.out.lt (by show ¬ (lg ≤ w.heap.size ∧ w.heap.size < hg); omega) o
    exact ⟨Nat.lt_of_lt_of_le HXk.out.lt hmk.size, (e _).trans HXk.out.x0, (e _).trans HXk.out.x1, (e _).trans HXk.out.x2, (e _).trans HXk.out.x3⟩
  have HPl := hid (HPk.out.marks hmk (fun b _ hb hs => by have := hs.1; omega))
  have HGl := hid (HGk.out.q hmk hgc)
  obtain ⟨km, hkm⟩ : ∃ km : Nat, km = kA L 1 L.length := ⟨_, rfl⟩
  have HKM := hid hkm
  have hkm2 : km ≤ 1000 + 1000 * 2007 := by
    have := kA_le HSH.out (k := 1) (by omega) L.length
    have := HSH.out.1
    omega
  rw [← hkm]
  clear hkm
  clear hmk hgc HBk HXk HPk HGk
  go_wp2_with fail
  refine (heldActs L HSH.out ag cg bg aeg ceg ebg 1 wl HGl.out (by omega) (by omega)).mono ?_
  rintro e wm ⟨rfl, hb⟩
  rw [← HKM.out]
  have HBm := hid (blw_trans HBl.out hb)
  have HXm := hid (HXl.out.later hb)
  have HPm := hid (HPl.out.later hb)
  have HGm := hid (HGl.out.later hb)
  clear hb HBl HXl HPl HGl
  obtain ⟨yz, y0, y1, y2, y3⟩ := HXm.out
  go_wp2_with fail
  refine (toSB K v0 v1 v2 wm HS.out (HH.out.later HBm.out)).mono ?_
  rintro e wn ⟨⟨q0, q1, q2, rfl, hi, _⟩, hb⟩
  have HIn := hid hi
  have HBn := hid (blw_trans HBm.out hb)
  have HPn := hid (HPm.out.later hb)
  have HGn := hid (HGm.out.later hb)
  clear hb hi yz y0 y1 y2 y3 HBm HXm HPm HGm
  go_wp2_with fail
  refine (HIF.out wn q0 q1 q2 HIn.out).mono ?_
  rintro e wo ⟨⟨a2, d2, b2, ae2, ce2, eb2, rfl, hrg2⟩, hb⟩
  have HBo := hid (blw_trans HBn.out hb)
  have HPo := hid (HPn.out.later hb)
  have HGo := hid (HGn.out.later hb)
  have HG2 := hid hrg2
  clear hb HBn HPn HGn HIn hrg2
  go_wp2_with fail
  refine (eqActs L HSH.out _ _ a2 d2 b2 ae2 ce2 eb2 lp hp ap cp bp aep cep ebp wo HG2.out HPo.out).mono ?_
  rintro e wp ⟨rfl, hb⟩
  have HBp := hid (blw_trans HBo.out hb)
  have HGp := hid (HGo.out.later hb)
  clear hb HBo HPo HGo HG2
  go_wp2_with fail
  refine (heldActs L HSH.out ag cg bg aeg ceg ebg 1 wp HGp.out (by omega) (by omega)).mono ?_
  rintro e wq ⟨rfl, hb⟩
  rw [← HKM.out]
  have HBq := hid (blw_trans HBp.out hb)
  clear hb HBp HGp
  go_wp2
  go_ret
  exact ⟨rfl, HBq.out⟩

end Go.Proofs.YtamhfnlogldpaaaGreat
