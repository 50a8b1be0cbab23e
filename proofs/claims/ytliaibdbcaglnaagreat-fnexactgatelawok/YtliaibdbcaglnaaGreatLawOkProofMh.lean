/-
  The law of GateLawOk: the row.
-/
import Derived.Test.YtliaibdbcaglnaaGreatMemL
import Derived.Test.YtliaibdbcaglnaaGreatWalkMPMg
import Derived.Test.YtliaibdbcaglnaaGreatWalkUDMg
import Derived.Test.YtliaibdbcaglnaaGreatSzM
import Derived.Test.YtliaibdbcaglnaaGreatOpenLMg
/-
  When a law is ok.
-/
namespace Go.Proofs.YtliaibdbcaglnaaGreat
open Go.RowKit Go.Deep

def lawOk (L : Lw) : Bool := mendsOk L.shapes L.mends && teamsOk L.teams

set_option maxHeartbeats 2000000 in
theorem lawOkS (L : Lw) (a0 a1 a2 : Nat) (w : World) (h : LwIn w a0 a1 a2 L) :
    Calls Tryz.prog 6 #[.agg #[.slice (some ⟨a0, 0, none⟩) L.shapes.length L.shapes.length, .slice (some ⟨a1, 0, none⟩) L.mends.length L.mends.length, .slice (some ⟨a2, 0, none⟩) L.teams.length L.teams.length]] w fun e w' => e = .returned (.bool (lawOk L)) ∧ Below w.heap.size w w' := by
  have HA : Hid (LwIn w a0 a1 a2 L) := h
  clear h
  obtain ⟨wa, hwa⟩ : ∃ wa, wa = w.alloc (.cells #[.slice (some ⟨a0, 0, none⟩) L.shapes.length L.shapes.length, .slice (some ⟨a1, 0, none⟩) L.mends.length L.mends.length, .slice (some ⟨a2, 0, none⟩) L.teams.length L.teams.length] 33) := ⟨_, rfl⟩
  have HBa : Hid (Below w.heap.size w wa) := by show Below _ _ _; rw [hwa]; exact blw_alloc (Below.refl _ _) _
  have HXa : Hid (Box3 wa w.heap.size (.slice (some ⟨a0, 0, none⟩) L.shapes.length L.shapes.length) (.slice (some ⟨a1, 0, none⟩) L.mends.length L.mends.length) (.slice (some ⟨a2, 0, none⟩) L.teams.length L.teams.length)) := by show Box3 _ _ _ _ _; rw [hwa]; exact Box3.new' w _ _ _ _ _ rfl
  obtain ⟨yz, y0, y1, y2⟩ := HXa.out
  go_enter Tryz.func6, Tryz.ntmps6
  go_upto_region 1 with fail
  rw [← hwa]
  clear hwa
  go_wp2_with fail
  refine (mendsOkS a0 a1 L.shapes L.mends wa (HA.out.later HBa.out).s (HA.out.later HBa.out).m).mono ?_
  rintro e wb ⟨rfl, hb⟩
  have HBb : Hid (Below w.heap.size w wb) := blw_trans HBa.out hb
  have HXb : Hid (Box3 wb w.heap.size (.slice (some ⟨a0, 0, none⟩) L.shapes.length L.shapes.length) (.slice (some ⟨a1, 0, none⟩) L.mends.length L.mends.length) (.slice (some ⟨a2, 0, none⟩) L.teams.length L.teams.length)) := HXa.out.later hb
  clear hb yz y0 y1 y2 HXa HBa
  obtain ⟨yz, y0, y1, y2⟩ := HXb.out
  obtain ⟨mb, hmb⟩ : ∃ mb, mb = mendsOk L.shapes L.mends := ⟨_, rfl⟩
  have HM : Hid (mb = mendsOk L.shapes L.mends) := hmb
  rw [← hmb]
  clear hmb
  cases mb
  · have HF : Hid (lawOk L = false) := by show lawOk L = false; unfold lawOk; rw [← HM.out]; rfl
    go_wp2
    go_ret
    exact ⟨by rw [HF.out]; rfl, HBb.out⟩
  go_wp2_with fail
  refine (teamsOkS a2 L.teams wb (HA.out.later HBb.out).t).mono ?_
  rintro e wc ⟨rfl, hb⟩
  have HBc : Hid (Below w.heap.size w wc) := blw_trans HBb.out hb
  clear hb yz y0 y1 y2 HXb
  have HF : Hid (lawOk L = teamsOk L.teams) := by show lawOk L = _; unfold lawOk; rw [← HM.out]; rfl
  obtain ⟨tb, htb⟩ : ∃ tb, tb = teamsOk L.teams := ⟨_, rfl⟩
  rw [← htb] at HF
  rw [← htb]
  clear htb
  go_wp2
  go_ret
  exact ⟨by rw [HF.out]; rfl, HBc.out⟩

set_option maxHeartbeats 2000000 in
theorem lawOkI (L : Lw) (a0 a1 a2 : Nat) (w : World) (h : LwIn w a0 a1 a2 L) :
    Calls Tryz.prog 8 #[.agg #[.slice (some ⟨a0, 0, none⟩) L.shapes.length L.shapes.length, .slice (some ⟨a1, 0, none⟩) L.mends.length L.mends.length, .slice (some ⟨a2, 0, none⟩) L.teams.length L.teams.length]] w fun e w' => e = .returned (.bool (lawOk L)) ∧ Below w.heap.size w w' := by
  have HA : Hid (LwIn w a0 a1 a2 L) := h
  clear h
  obtain ⟨wa, hwa⟩ : ∃ wa, wa = w.alloc (.cells #[.slice (some ⟨a0, 0, none⟩) L.shapes.length L.shapes.length, .slice (some ⟨a1, 0, none⟩) L.mends.length L.mends.length, .slice (some ⟨a2, 0, none⟩) L.teams.length L.teams.length] 33) := ⟨_, rfl⟩
  have HBa : Hid (Below w.heap.size w wa) := by show Below _ _ _; rw [hwa]; exact blw_alloc (Below.refl _ _) _
  have HXa : Hid (Box3 wa w.heap.size (.slice (some ⟨a0, 0, none⟩) L.shapes.length L.shapes.length) (.slice (some ⟨a1, 0, none⟩) L.mends.length L.mends.length) (.slice (some ⟨a2, 0, none⟩) L.teams.length L.teams.length)) := by show Box3 _ _ _ _ _; rw [hwa]; exact Box3.new' w _ _ _ _ _ rfl
  obtain ⟨yz, y0, y1, y2⟩ := HXa.out
  go_enter Tryz.func8, Tryz.ntmps8
  go_upto_region 1 with fail
  rw [← hwa]
  clear hwa
  go_wp2_with fail
  refine (mendsOkI a0 a1 L.shapes L.mends wa (HA.out.later HBa.out).s (HA.out.later HBa.out).m).mono ?_
  rintro e wb ⟨rfl, hb⟩
  have HBb : Hid (Below w.heap.size w wb) := blw_trans HBa.out hb
  have HXb : Hid (Box3 wb w.heap.size (.slice (some ⟨a0, 0, none⟩) L.shapes.length L.shapes.length) (.slice (some ⟨a1, 0, none⟩) L.mends.length L.mends.length) (.slice (some ⟨a2, 0, none⟩) L.teams.length L.teams.length)) := HXa.out.later hb
  clear hb yz y0 y1 y2 HXa HBa
  obtain ⟨yz, y0, y1, y2⟩ := HXb.out
  obtain ⟨mb, hmb⟩ : ∃ mb, mb = mendsOk L.shapes L.mends := ⟨_, rfl⟩
  have HM : Hid (mb = mendsOk L.shapes L.mends) := hmb
  rw [← hmb]
  clear hmb
  cases mb
  · have HF : Hid (lawOk L = false) := by show lawOk L = false; unfold lawOk; rw [← HM.out]; rfl
    go_wp2
    go_ret
    exact ⟨by rw [HF.out]; rfl, HBb.out⟩
  go_wp2_with fail
  refine (teamsOkI a2 L.teams wb (HA.out.later HBb.out).t).mono ?_
  rintro e wc ⟨rfl, hb⟩
  have HBc : Hid (Below w.heap.size w wc) := blw_trans HBb.out hb
  clear hb yz y0 y1 y2 HXb
  have HF : Hid (lawOk L = teamsOk L.teams) := by show lawOk L = _; unfold lawOk; rw [← HM.out]; rfl
  obtain ⟨tb, htb⟩ : ∃ tb, tb = teamsOk L.teams := ⟨_, rfl⟩
  rw [← htb] at HF
  rw [← htb]
  clear htb
  go_wp2
  go_ret
  exact ⟨by rw [HF.out]; rfl, HBc.out⟩

end Go.Proofs.YtliaibdbcaglnaaGreat

/-
  The walk over the law of GateLawOk.
-/
namespace Go.Proofs.YtliaibdbcaglnaaGreat
open Go.RowKit Go.Deep

set_option maxRecDepth 8000 in
set_option maxHeartbeats 8000000 in
theorem lawLawOk (L : Lw) (lv0 lv1 lv2 : Value) (w : World) (h : LwAt w lv0 lv1 lv2 L) :
    Calls Tryz.prog 3 #[.agg #[lv0, lv1, lv2]] w fun e w' => e = .returned (.bool true) ∧ Below w.heap.size w w' := by
  have HH : Hid (LwAt w lv0 lv1 lv2 L) := h
  clear h
  obtain ⟨wa, hwa⟩ : ∃ wa, wa = w.alloc (.cells #[lv0, lv1, lv2] 26) := ⟨_, rfl⟩
  have HBa : Hid (Below w.heap.size w wa) := by show Below _ _ _; rw [hwa]; exact blw_alloc (Below.refl _ _) _
  have HXa : Hid (Box3 wa w.heap.size (lv0) (lv1) (lv2)) := by show Box3 _ _ _ _ _; rw [hwa]; exact Box3.new' w _ _ _ _ _ rfl
  obtain ⟨yz, y0, y1, y2⟩ := HXa.out
  go_enter Tryz.func3, Tryz.ntmps3
  go_upto_region 1 with fail
  rw [← hwa]
  clear hwa
  go_wp2_with fail
  refine (szLaw L lv0 lv1 lv2 1048576 wa (by omega) (by omega) (HH.out.later HBa.out)).mono ?_
  rintro e wb ⟨⟨r, rfl, hr⟩, hb⟩
  have HR : Hid (0 ≤ r → L.small) := hr.2.2
  have q1 : -1 ≤ r := hr.1
  have q2 : r ≤ 1048576 := hr.2.1
  have HBb : Hid (Below w.heap.size w wb) := blw_trans HBa.out hb
  have HXb : Hid (Box3 wb w.heap.size (lv0) (lv1) (lv2)) := HXa.out.later hb
  clear hr hb yz y0 y1 y2 HXa HBa
  by_cases c : r < 0
  · go_wp2
    go_ret
    exact ⟨rfl, HBb.out⟩
  have HS : Hid L.small := HR.out (by omega)
  have HT : Hid (∀ W, Below w.heap.size w W → Calls Tryz.prog 7 #[.agg #[lv0, lv1, lv2]] W fun e w' => ∃ a0 a1 a2, (e = .returned (.agg #[.slice (some ⟨a0, 0, none⟩) L.shapes.length L.shapes.length, .slice (some ⟨a1, 0, none⟩) L.mends.length L.mends.length, .slice (some ⟨a2, 0, none⟩) L.teams.length L.teams.length]) ∧ LwIn w' a0 a1 a2 L) ∧ Below W.heap.size W w') := by
    intro W hW
    refine (toLaw L lv0 lv1 lv2 W HS.out (HH.out.later hW)).mono ?_
    rintro e w' ⟨⟨a0, a1, a2, rfl, hi, _⟩, hb⟩
    exact ⟨a0, a1, a2, ⟨rfl, hi⟩, hb⟩
  obtain ⟨an, han⟩ : ∃ an, an = lawOk L := ⟨_, rfl⟩
  have HAN : Hid (an = lawOk L) := han
  clear han
  obtain ⟨yz, y0, y1, y2⟩ := HXb.out
  go_wp2_with fail
  refine (HT.out _ HBb.out).mono ?_
  rintro e wc ⟨a0, a1, a2, ⟨rfl, hi⟩, hb⟩
  have HBc : Hid (Below w.heap.size w wc) := blw_trans HBb.out hb
  have HXc : Hid (Box3 wc w.heap.size (lv0) (lv1) (lv2)) := HXb.out.later hb
  have HC : Hid (Calls Tryz.prog 6 #[.agg #[.slice (some ⟨a0, 0, none⟩) L.shapes.length L.shapes.length, .slice (some ⟨a1, 0, none⟩) L.mends.length L.mends.length, .slice (some ⟨a2, 0, none⟩) L.teams.length L.teams.length]] wc fun e w' => e = .returned (.bool an) ∧ Below wc.heap.size wc w') := by
    rw [HAN.out]
    exact lawOkS L a0 a1 a2 wc hi
  clear hb hi yz y0 y1 y2 HXb HBb
  go_wp2_with fail
  refine HC.out.mono ?_
  rintro e wd ⟨rfl, hb⟩
  have HBd : Hid (Below w.heap.size w wd) := blw_trans HBc.out hb
  have HXd : Hid (Box3 wd w.heap.size (lv0) (lv1) (lv2)) := HXc.out.later hb
  clear hb HXc HBc HC
  obtain ⟨yz, y0, y1, y2⟩ := HXd.out
  go_wp2_with fail
  refine (HT.out _ HBd.out).mono ?_
  rintro e we ⟨p0, p1, p2, ⟨rfl, hi⟩, hb⟩
  obtain ⟨wf, hwf⟩ : ∃ wf, wf = we.alloc (.cells #[.slice (some ⟨p0, 0, none⟩) L.shapes.length L.shapes.length, .slice (some ⟨p1, 0, none⟩) L.mends.length L.mends.length, .slice (some ⟨p2, 0, none⟩) L.teams.length L.teams.length] 33) := ⟨_, rfl⟩
  obtain ⟨mm, hmm⟩ : ∃ mm, mm = we.heap.size := ⟨_, rfl⟩
  have hbn : Below we.heap.size we wf := by rw [hwf]; exact blw_alloc (Below.refl _ _) _
  have HYf : Hid (Box3 wf mm (.slice (some ⟨p0, 0, none⟩) L.shapes.length L.shapes.length) (.slice (some ⟨p1, 0, none⟩) L.mends.length L.mends.length) (.slice (some ⟨p2, 0, none⟩) L.teams.length L.teams.length)) := by show Box3 _ _ _ _ _; rw [hwf, hmm]; exact Box3.new' _ _ _ _ _ _ rfl
  have HIf : Hid (LwIn wf p0 p1 p2 L) := hi.later hbn
  have HBf : Hid (Below w.heap.size w wf) := blw_trans (blw_trans HBd.out hb) hbn
  have HXf : Hid (Box3 wf w.heap.size (lv0) (lv1) (lv2)) := (HXd.out.later hb).later hbn
  go_upto_region 7 with fail
  rw [← hwf, ← hmm]
  clear hwf hmm hi hb hbn yz y0 y1 y2 HXd HBd
  obtain ⟨xz, x0, x1, x2⟩ := HYf.out
  have HC : Hid (Calls Tryz.prog 8 #[.agg #[.slice (some ⟨p0, 0, none⟩) L.shapes.length L.shapes.length, .slice (some ⟨p1, 0, none⟩) L.mends.length L.mends.length, .slice (some ⟨p2, 0, none⟩) L.teams.length L.teams.length]] wf fun e w' => e = .returned (.bool an) ∧ Below wf.heap.size wf w') := by
    rw [HAN.out]
    exact lawOkI L p0 p1 p2 wf HIf.out
  go_wp2_with fail
  refine HC.out.mono ?_
  rintro e wg ⟨rfl, hb⟩
  have HBg : Hid (Below w.heap.size w wg) := blw_trans HBf.out hb
  have HXg : Hid (Box3 wg w.heap.size (lv0) (lv1) (lv2)) := HXf.out.later hb
  have HYg : Hid (Box3 wg mm (.slice (some ⟨p0, 0, none⟩) L.shapes.length L.shapes.length) (.slice (some ⟨p1, 0, none⟩) L.mends.length L.mends.length) (.slice (some ⟨p2, 0, none⟩) L.teams.length L.teams.length)) := HYf.out.later hb
  have HIg : Hid (LwIn wg p0 p1 p2 L) := HIf.out.later hb
  clear hb xz x0 x1 x2 HXf HBf HYf HIf HC
  obtain ⟨yz, y0, y1, y2⟩ := HXg.out
  obtain ⟨xz, x0, x1, x2⟩ := HYg.out
  have HEQ : Hid (∀ W a0 a1 a2, Below wg.heap.size wg W → LwIn W a0 a1 a2 L → Calls Tryz.prog 9 #[.agg #[.slice (some ⟨p0, 0, none⟩) L.shapes.length L.shapes.length, .slice (some ⟨p1, 0, none⟩) L.mends.length L.mends.length, .slice (some ⟨p2, 0, none⟩) L.teams.length L.teams.length], .agg #[.slice (some ⟨a0, 0, none⟩) L.shapes.length L.shapes.length, .slice (some ⟨a1, 0, none⟩) L.mends.length L.mends.length, .slice (some ⟨a2, 0, none⟩) L.teams.length L.teams.length]] W fun e w' => e = .returned (.bool true) ∧ Below W.heap.size W w') := fun W a0 a1 a2 hW h2 => eqLaw L p0 p1 p2 a0 a1 a2 W (HIg.out.later hW) h2
  have HKK : Hid (∀ W, Below wg.heap.size wg W → Box3 W mm (.slice (some ⟨p0, 0, none⟩) L.shapes.length L.shapes.length) (.slice (some ⟨p1, 0, none⟩) L.mends.length L.mends.length) (.slice (some ⟨p2, 0, none⟩) L.teams.length L.teams.length)) := fun W hW => HYg.out.later hW
  have hneq : (an != an) = false := by cases an <;> rfl
  go_upto_region 10 with fail
  go_cut [26] (fun sA wx => sA = .bool false ∧ Below wg.heap.size wg wx)
  case first =>
    go_region_with (first
      | (go_at_call 7; refine (HT.out _ ?_).mono ?_; (repeat (first | exact HBg.out | refine Below.drew ?_)); rintro e wN ⟨a0, a1, a2, ⟨rfl, hiN⟩, hbN⟩; have kN : Below wg.heap.size wg wN := blw_trans (by repeat (first | exact Below.refl _ _ | refine Below.drew ?_)) hbN; clear hbN; obtain ⟨jz, j0, j1, j2⟩ := HKK.out wN kN)
      | (go_at_call 9; refine (HEQ.out _ _ _ _ ?_ ?_).mono ?_; (repeat (first | exact kN | refine Below.drew ?_)); exact hiN.later (by repeat (first | exact Below.refl _ _ | refine Below.drew ?_)); rintro e wC ⟨rfl, hbC⟩; have kC : Below wg.heap.size wg wC := blw_trans (by repeat (first | exact kN | refine Below.drew ?_)) hbC; clear hbC))
    all_goals
      go_wp2_with fail
      go_meet
      refine ⟨rfl, ?_⟩
      repeat (first | exact kC | refine Below.drew ?_)
  case rest =>
  obtain ⟨rfl, hb⟩ := hcut
  rename World => wh
  have HBh : Hid (Below w.heap.size w wh) := blw_trans HBg.out hb
  clear hb
  go_wp2
  go_ret
  exact ⟨rfl, HBh.out⟩

end Go.Proofs.YtliaibdbcaglnaaGreat

namespace Go.Proofs.YtliaibdbcaglnaaGreat
open Go.ChangeShapes Go.WideShapes Go.ChangeAt Go.RowKit Go.Deep

set_option maxRecDepth 100000 in
theorem lawok_lifted (os : Os) (started : os.Started) (H : Type) (enc : TypeId × Value → H) :
    ReturnsInHanded {} Tryz.checked os 3 .any (Rows.fnExactGateLawOkSpec.pre6 enc Tryz.prog Tryz.f3 Rows.fnExactGateLawOkRow.domain false) (Rows.fnExactGateLawOkSpec.post enc Tryz.prog Tryz.f3 false true false false) := by
  refine returnsInHanded_of_change (C := Tryz.checked) ownL started (by kernel_rfl) Tryz.func3
    (ChangeSpec.witness6 (enc := enc) (C := Tryz.checked) false ⟨#[], #[.agg #[.slice none 0 0, .slice none 0 0, .slice none 0 0]], []⟩ 8 (by kernel_rfl) (by kernel_rfl) (by kernel_rfl) (by kernel_rfl)) ?_
  intro W base args ds gs before hval0 hW _ _
  have hval : ∀ (j : Nat) t v, Tryz.f3.params[j]? = some t → args[j]? = some v → Value.okWide Tryz.prog W .any base t v := hval0
  have hW' := hW
  obtain ⟨p, q, hA0, hV, rfl, _, _⟩ := hW
  have hA : DataW.TrodAll enc Tryz.prog W 0 (fun _ => true) true Tryz.f3.params.toList args.toList ds p := hA0
  rw [Tryz.params3] at hA hval
  obtain ⟨v0, vs0, d0, ds0, p0, q0, hargs, rfl, rfl, h0, r0⟩ := trodAll_cons hA
  obtain ⟨rfl, rfl, rfl⟩ := trodAll_nil r0
  obtain rfl : args = #[v0] := by cases args; simp_all
  obtain ⟨rfl, rfl⟩ := trodVars_none hV
  have k0 := h0
  have lt0 : ∀ x ∈ p0, x.block < W.heap.size := by obtain ⟨m, hm⟩ := k0; exact DataW.trod_lt m _ _ _ hm
  obtain ⟨cs0, rfl, _⟩ := okWide_struct Tryz.underlying26 (hval 0 26 v0 rfl rfl)
  obtain ⟨fuel0, hf0⟩ := h0
  obtain ⟨L0, lv00, lv10, lv20, hcs0, hat0⟩ := open_law hf0
  obtain rfl : cs0 = #[lv00, lv10, lv20] := by
    cases cs0; simpa [Value.cells] using hcs0
  clear hA0 hval0
  refine (lawLawOk L0 lv00 lv10 lv20 W hat0).mono fun e W' ⟨he, bel⟩ => ?_
  subst he
  exact ⟨_, rfl, _, _, _, [], _, [], hW', trodAll_mk1 (shut_bool Tryz.underlying4 _), (trodAll_cons_mk (Below.trod laidOutL (by kernel_rfl) (of_decide_eq_true (by kernel_rfl)) k0 bel lt0) trodAll_mk0), rfl, bel.frame _, fun h => by cases h⟩

theorem lawok_holds : Rows.FnExactGateLawOkSaid :=
  OpenClaim.holds_of_wide 3 Tryz.f3 rfl rfl rfl rfl rfl rfl rfl ⟨rfl, rfl, rfl, rfl, rfl⟩ rfl rfl rfl rfl rfl (by kernel_rfl) Tryz.func3 (by kernel_rfl)
    (of_decide_eq_true (by kernel_rfl)) (by unfold Func.isWrapper; first | (rw [if_pos (by decide +kernel)]; kernel_rfl) | (rw [if_neg (by decide +kernel)]; exact ⟨rfl, rfl⟩))
    (fun os started H enc _ => lawok_lifted os started H enc)

end Go.Proofs.YtliaibdbcaglnaaGreat
