/-
  The walk over the law of GateCovers.
-/
import Derived.Test.YtikfcnmhfoknlaaWalkSD
namespace Go.Proofs.Ytikfcnmhfoknlaa
open Go.RowKit Go.Deep

set_option maxRecDepth 8000 in
set_option maxHeartbeats 8000000 in
theorem lawCovers (v u : Value) (ra : Option Addr) (rc : Nat) (r : Rul) (rs : List Rul) (ts : List Tm) (w : World) (h : TmsAt w v ts) (hq : RulsAt w u rs) (hr : IntsAt w (.slice ra r.verbs.length rc) r.verbs) (hn : r.verbs.length ≤ maxLen) (hs : r.sized) :
    Calls Try.prog 6 #[v, u, .agg #[.slice ra r.verbs.length rc, .string r.kind, .string r.team, .string r.pre]] w fun e w' => e = .returned (.bool true) ∧ Below w.heap.size w w' := by
  have HH : Hid (TmsAt w v ts ∧ RulsAt w u rs ∧ IntsAt w (.slice ra r.verbs.length rc) r.verbs) := ⟨h, hq, hr⟩
  have HZ : Hid (r.verbs.length ≤ maxLen ∧ r.sized) := ⟨hn, hs⟩
  obtain ⟨w0, hw0⟩ : ∃ w0, w0 = (w.alloc (.cells #[.slice ra r.verbs.length rc, .string r.kind, .string r.team, .string r.pre] 33)) := ⟨_, rfl⟩
  have HB0 : Hid (Below w.heap.size w w0) := by rw [hw0]; exact blw_alloc (Below.refl _ _) _
  have HX0 : Hid (Boxed w0 w.heap.size #[.slice ra r.verbs.length rc, .string r.kind, .string r.team, .string r.pre]) := by rw [hw0]; exact Boxed.new w _ 33
  clear h hq hr hn hs
  go_enter Try.func6, Try.ntmps6
  go_wp2_with fail
  rw [← hw0]
  clear hw0
  refine (szTeams v ts 1048576 w0 (by omega) (by omega) (HH.out.1.later HB0.out)).mono ?_
  rintro e w1 ⟨⟨r1, rfl, hr1⟩, hb1⟩
  have HR1 : Hid (szP ((ts.length : Int) ≤ 1048576) 1048576 r1) := hr1
  have hr11 : r1 ≤ 1048576 := hr1.2.1
  have HB1 : Hid (Below w.heap.size w w1) := blw_trans HB0.out hb1
  have HX1 : Hid (Boxed w1 w.heap.size #[.slice ra r.verbs.length rc, .string r.kind, .string r.team, .string r.pre]) := HX0.out.later hb1
  clear hr1 hb1 HX0 HB0
  by_cases c1 : r1 < 0
  · go_wp2
    go_ret
    exact ⟨rfl, HB1.out⟩
  have HL : Hid (ts.length ≤ 1048576) := by have := HR1.out.2.2 (by omega); show ts.length ≤ 1048576; omega
  clear HR1
  go_wp2_with fail
  refine (szRules u rs r1 w1 (by omega) hr11 (HH.out.2.1.later HB1.out)).mono ?_
  rintro e w2 ⟨⟨r2, rfl, hr2⟩, hb2⟩
  have HR2 : Hid (szP ((rs.length : Int) ≤ r1 ∧ ∀ r ∈ rs, r.small) r1 r2) := hr2
  have hr21 : r2 ≤ 1048576 := by have := hr2.2.1; omega
  have HB2 : Hid (Below w.heap.size w w2) := blw_trans HB1.out hb2
  have HX2 : Hid (Boxed w2 w.heap.size #[.slice ra r.verbs.length rc, .string r.kind, .string r.team, .string r.pre]) := HX1.out.later hb2
  clear hr2 hb2 HX1 HB1
  by_cases c2 : r2 < 0
  · go_wp2
    go_ret
    exact ⟨rfl, HB2.out⟩
  have HLS : Hid (rs.length ≤ 1048576 ∧ ∀ r ∈ rs, r.small) := by have := HR2.out.2.2 (by omega); exact ⟨by omega, this.2⟩
  clear HR2
  have g0 : w2.cell? ⟨w.heap.size, 0, none⟩ = some (.slice ra r.verbs.length rc) := HX2.out.2 0
  have g1 : w2.cell? ⟨w.heap.size, 1, none⟩ = some (.string r.kind) := HX2.out.2 1
  have g2 : w2.cell? ⟨w.heap.size, 2, none⟩ = some (.string r.team) := HX2.out.2 2
  have g3 : w2.cell? ⟨w.heap.size, 3, none⟩ = some (.string r.pre) := HX2.out.2 3
  go_wp2_with fail
  refine (szRule ra rc r r2 w2 (by omega) hr21 HZ.out.1 HZ.out.2).mono ?_
  rintro e w3 ⟨⟨r3, rfl, hr3⟩, hb3⟩
  have HR3 : Hid (szP ((r.verbs.length : Int) ≤ r2) r2 r3) := hr3
  have HB3 : Hid (Below w.heap.size w w3) := blw_trans HB2.out hb3
  have HX3 : Hid (Boxed w3 w.heap.size #[.slice ra r.verbs.length rc, .string r.kind, .string r.team, .string r.pre]) := HX2.out.later hb3
  clear hb3 hr3 HX2 HB2 g0 g1 g2 g3
  by_cases c3 : r3 < 0
  · go_wp2
    go_ret
    exact ⟨rfl, HB3.out⟩
  have HLR : Hid (r.verbs.length ≤ 1048576) := by have := HR3.out.2.2 (by omega); show r.verbs.length ≤ 1048576; omega
  clear HR3
  have HT9 : Hid (∀ W, Below w.heap.size w W → Calls Try.prog 9 #[v] W fun e w' => ∃ BA, e = .returned (.slice (some ⟨BA, 0, none⟩) ts.length ts.length) ∧ Below W.heap.size W w' ∧ TmsIn w' BA ts) := by
    intro W hW
    refine (toTeams v ts W HL.out (HH.out.1.later hW)).mono ?_
    rintro e w' ⟨rfl, h1, h2⟩
    exact ⟨_, rfl, h1, h2⟩
  have HT23 : Hid (∀ W, Below w.heap.size w W → Calls Try.prog 23 #[u] W fun e w' => ∃ BR, e = .returned (.slice (some ⟨BR, 0, none⟩) rs.length rs.length) ∧ Below W.heap.size W w' ∧ RulsIn w' BR rs) := by
    intro W hW
    refine (toRules u rs W HLS.out.1 HLS.out.2 (HH.out.2.1.later hW)).mono ?_
    rintro e w' ⟨rfl, h1, h2⟩
    exact ⟨_, rfl, h1, h2⟩
  have HT17 : Hid (∀ W, Below w.heap.size w W → Calls Try.prog 17 #[.agg #[.slice ra r.verbs.length rc, .string r.kind, .string r.team, .string r.pre]] W fun e w' => (∃ b, e = .returned (.agg #[.slice (some ⟨b, 0, none⟩) r.verbs.length r.verbs.length, .string r.kind, .string r.team, .string r.pre]) ∧ IntsIn w' b r.verbs) ∧ Below W.heap.size W w') := by
    intro W hW
    refine (toRule ra rc r W HLR.out (HH.out.2.2.later hW)).mono ?_
    rintro e w' ⟨⟨b, rfl, _, _, h2⟩, hb⟩
    exact ⟨⟨b, rfl, h2⟩, hb⟩
  have HT22 : Hid (∀ W BA BR b, TmsIn W BA ts → RulsIn W BR rs → IntsIn W b r.verbs → Calls Try.prog 22 #[.slice (some ⟨BA, 0, none⟩) ts.length ts.length, .slice (some ⟨BR, 0, none⟩) rs.length rs.length, .agg #[.slice (some ⟨b, 0, none⟩) r.verbs.length r.verbs.length, .string r.kind, .string r.team, .string r.pre]] W fun e w' => e = .returned (.bool (covers ts rs r)) ∧ Below W.heap.size W w') := fun W BA BR b h1 h2 h3 => coversS BA BR b ts rs r W h1 h2 h3 HZ.out.2
  have HT24 : Hid (∀ W BA BR b, TmsIn W BA ts → RulsIn W BR rs → IntsIn W b r.verbs → Calls Try.prog 24 #[.slice (some ⟨BA, 0, none⟩) ts.length ts.length, .slice (some ⟨BR, 0, none⟩) rs.length rs.length, .agg #[.slice (some ⟨b, 0, none⟩) r.verbs.length r.verbs.length, .string r.kind, .string r.team, .string r.pre]] W fun e w' => e = .returned (.bool (covers ts rs r)) ∧ Below W.heap.size W w') := fun W BA BR b h1 h2 h3 => coversI BA BR b ts rs r W h1 h2 h3 HZ.out.2
  obtain ⟨R, hR⟩ : ∃ R, R = covers ts rs r := ⟨_, rfl⟩
  rw [← hR] at HT22 HT24
  clear hR
  have f0 : w3.cell? ⟨w.heap.size, 0, none⟩ = some (.slice ra r.verbs.length rc) := HX3.out.2 0
  have f1 : w3.cell? ⟨w.heap.size, 1, none⟩ = some (.string r.kind) := HX3.out.2 1
  have f2 : w3.cell? ⟨w.heap.size, 2, none⟩ = some (.string r.team) := HX3.out.2 2
  have f3 : w3.cell? ⟨w.heap.size, 3, none⟩ = some (.string r.pre) := HX3.out.2 3
  have HXl : Hid (∀ W, Below w3.heap.size w3 W → Boxed W w.heap.size #[.slice ra r.verbs.length rc, .string r.kind, .string r.team, .string r.pre]) := fun W hW => HX3.out.later hW
  go_upto_region 11 with fail
  go_cut [8] (fun s wx => s = .bool R ∧ Below w3.heap.size w3 wx)
  case first =>
    go_region_with (first
      | (go_at_call 22; have hzz := hoC; clear hzz; refine (HT22.out _ _ _ _ ?_ ?_ ?_).mono ?_; exact hiC.later (by repeat (first | exact Below.refl _ _ | refine Below.drew ?_)); exact hrC.later (by repeat (first | exact Below.refl _ _ | refine Below.drew ?_)); exact hoC.later (by repeat (first | exact Below.refl _ _ | refine Below.drew ?_)); rintro e wD ⟨rfl, hbD⟩; have kD : Below w3.heap.size w3 wD := blw_trans (by repeat (first | exact kC | refine Below.drew ?_)) hbD; clear hbD)
      | (go_at_call 17; have hzz := hrB; clear hzz; refine (HT17.out _ ?_).mono ?_; (repeat (first | exact blw_trans HB3.out kB | refine Below.drew ?_)); rintro e wC ⟨⟨b, rfl, hoC⟩, hbC⟩; have kC : Below w3.heap.size w3 wC := blw_trans (by repeat (first | exact kB | refine Below.drew ?_)) hbC; have hkC : Below wB.heap.size wB wC := blw_trans (by repeat (first | exact Below.refl _ _ | refine Below.drew ?_)) hbC; have hiC : TmsIn wC BA ts := hiB.later hkC; have hrC : RulsIn wC BR rs := hrB.later hkC; clear hbC hkC hiB hrB j0 j1 j2 j3)
      | (go_at_call 23; have hzz := hiA; clear hzz; refine (HT23.out _ ?_).mono ?_; (repeat (first | exact blw_trans HB3.out kA | refine Below.drew ?_)); rintro e wB ⟨BR, rfl, hbB, hrB⟩; have kB : Below w3.heap.size w3 wB := blw_trans (by repeat (first | exact kA | refine Below.drew ?_)) hbB; have hiB : TmsIn wB BA ts := hiA.later (blw_trans (by repeat (first | exact Below.refl _ _ | refine Below.drew ?_)) hbB); clear hbB hiA p0 p1 p2 p3; have bx := HXl.out wB kB; have j0 : wB.cell? ⟨w.heap.size, 0, none⟩ = some (.slice ra r.verbs.length rc) := bx.2 0; have j1 : wB.cell? ⟨w.heap.size, 1, none⟩ = some (.string r.kind) := bx.2 1; have j2 : wB.cell? ⟨w.heap.size, 2, none⟩ = some (.string r.team) := bx.2 2; have j3 : wB.cell? ⟨w.heap.size, 3, none⟩ = some (.string r.pre) := bx.2 3; clear bx)
      | (go_at_call 9; refine (HT9.out _ ?_).mono ?_; (repeat (first | exact HB3.out | refine Below.drew ?_)); rintro e wA ⟨BA, rfl, hbA, hiA⟩; have kA : Below w3.heap.size w3 wA := blw_trans (by repeat (first | exact Below.refl _ _ | refine Below.drew ?_)) hbA; clear hbA f0 f1 f2 f3; have bx := HXl.out wA kA; have p0 : wA.cell? ⟨w.heap.size, 0, none⟩ = some (.slice ra r.verbs.length rc) := bx.2 0; have p1 : wA.cell? ⟨w.heap.size, 1, none⟩ = some (.string r.kind) := bx.2 1; have p2 : wA.cell? ⟨w.heap.size, 2, none⟩ = some (.string r.team) := bx.2 2; have p3 : wA.cell? ⟨w.heap.size, 3, none⟩ = some (.string r.pre) := bx.2 3; clear bx))
    all_goals
      go_wp2_with fail
      go_meet
      refine ⟨rfl, ?_⟩
      repeat (first | exact kD | refine Below.drew ?_)
  case rest =>
  obtain ⟨rfl, hb4⟩ := hcut
  rename World => w4
  have HB4 : Hid (Below w.heap.size w w4) := blw_trans HB3.out hb4
  have HX4 : Hid (Boxed w4 w.heap.size #[.slice ra r.verbs.length rc, .string r.kind, .string r.team, .string r.pre]) := HXl.out w4 hb4
  clear hb4 f0 f1 f2 f3 HX3 HB3 HT22 HXl
  go_wp2_with fail
  refine (HT9.out _ HB4.out).mono ?_
  rintro e w5 ⟨B5, rfl, hb5, hi5⟩
  have HB5 : Hid (Below w.heap.size w w5) := blw_trans HB4.out hb5
  have HX5 : Hid (Boxed w5 w.heap.size #[.slice ra r.verbs.length rc, .string r.kind, .string r.team, .string r.pre]) := HX4.out.later hb5
  have HI5 : Hid (TmsIn w5 B5 ts) := hi5
  clear hb5 hi5 HX4 HB4
  go_wp2_with fail
  refine (HT23.out _ HB5.out).mono ?_
  rintro e w5b ⟨B6, rfl, hb5b, hr5⟩
  have HB5b : Hid (Below w.heap.size w w5b) := blw_trans HB5.out hb5b
  have HX5b : Hid (Boxed w5b w.heap.size #[.slice ra r.verbs.length rc, .string r.kind, .string r.team, .string r.pre]) := HX5.out.later hb5b
  have HI5b : Hid (TmsIn w5b B5 ts ∧ RulsIn w5b B6 rs) := ⟨HI5.out.later hb5b, hr5⟩
  clear hb5b hr5 HX5 HB5 HI5
  have f0 : w5b.cell? ⟨w.heap.size, 0, none⟩ = some (.slice ra r.verbs.length rc) := HX5b.out.2 0
  have f1 : w5b.cell? ⟨w.heap.size, 1, none⟩ = some (.string r.kind) := HX5b.out.2 1
  have f2 : w5b.cell? ⟨w.heap.size, 2, none⟩ = some (.string r.team) := HX5b.out.2 2
  have f3 : w5b.cell? ⟨w.heap.size, 3, none⟩ = some (.string r.pre) := HX5b.out.2 3
  go_wp2_with fail
  refine (HT17.out _ HB5b.out).mono ?_
  rintro e w6 ⟨⟨b, rfl, ho6⟩, hb6⟩
  have HB6 : Hid (Below w.heap.size w w6) := blw_trans HB5b.out hb6
  obtain ⟨w7, hw7⟩ : ∃ w7, w7 = w6.alloc (.cells #[.slice (some ⟨b, 0, none⟩) r.verbs.length r.verbs.length, .string r.kind, .string r.team, .string r.pre] 39) := ⟨_, rfl⟩
  have hb7 : Below w6.heap.size w6 w7 := by rw [hw7]; exact blw_alloc (Below.refl _ _) _
  have hb57 := blw_trans hb6 hb7
  have HB7 : Hid (Below w.heap.size w w7) := blw_trans HB6.out hb7
  have HX7 : Hid (Boxed w7 w.heap.size #[.slice ra r.verbs.length rc, .string r.kind, .string r.team, .string r.pre] ∧ Boxed w7 w6.heap.size #[.slice (some ⟨b, 0, none⟩) r.verbs.length r.verbs.length, .string r.kind, .string r.team, .string r.pre]) := ⟨HX5b.out.later hb57, by rw [hw7]; exact Boxed.new w6 _ 39⟩
  have HI7 : Hid (TmsIn w7 B5 ts ∧ RulsIn w7 B6 rs ∧ IntsIn w7 b r.verbs) := ⟨HI5b.out.1.later hb57, HI5b.out.2.later hb57, ho6.later hb7⟩
  clear hb6 hb7 hb57 ho6 HX5b HB5b HI5b HB6 f0 f1 f2 f3
  go_upto_region 15 with fail
  rw [← hw7]
  clear hw7
  have f0 : w7.cell? ⟨w6.heap.size, 0, none⟩ = some (.slice (some ⟨b, 0, none⟩) r.verbs.length r.verbs.length) := HX7.out.2.2 0
  have f1 : w7.cell? ⟨w6.heap.size, 1, none⟩ = some (.string r.kind) := HX7.out.2.2 1
  have f2 : w7.cell? ⟨w6.heap.size, 2, none⟩ = some (.string r.team) := HX7.out.2.2 2
  have f3 : w7.cell? ⟨w6.heap.size, 3, none⟩ = some (.string r.pre) := HX7.out.2.2 3
  go_wp2_with fail
  refine (HT24.out _ _ _ _ HI7.out.1 HI7.out.2.1 HI7.out.2.2).mono ?_
  rintro e w8 ⟨rfl, hb8⟩
  have HB8 : Hid (Below w.heap.size w w8) := blw_trans HB7.out hb8
  have HX8 : Hid (Boxed w8 w.heap.size #[.slice ra r.verbs.length rc, .string r.kind, .string r.team, .string r.pre] ∧ Boxed w8 w6.heap.size #[.slice (some ⟨b, 0, none⟩) r.verbs.length r.verbs.length, .string r.kind, .string r.team, .string r.pre]) := ⟨HX7.out.1.later hb8, HX7.out.2.later hb8⟩
  have HI8 : Hid (TmsIn w8 B5 ts ∧ RulsIn w8 B6 rs ∧ IntsIn w8 b r.verbs) := ⟨HI7.out.1.later hb8, HI7.out.2.1.later hb8, HI7.out.2.2.later hb8⟩
  clear hb8 f0 f1 f2 f3 HX7 HB7 HT24 HI7
  go_wp2_with fail
  refine (HT9.out _ HB8.out).mono ?_
  rintro e w9 ⟨B9, rfl, hb9, hi9⟩
  have HB9 : Hid (Below w.heap.size w w9) := blw_trans HB8.out hb9
  have HX9 : Hid (Boxed w9 w.heap.size #[.slice ra r.verbs.length rc, .string r.kind, .string r.team, .string r.pre] ∧ Boxed w9 w6.heap.size #[.slice (some ⟨b, 0, none⟩) r.verbs.length r.verbs.length, .string r.kind, .string r.team, .string r.pre]) := ⟨HX8.out.1.later hb9, HX8.out.2.later hb9⟩
  have HI9 : Hid (TmsIn w9 B5 ts ∧ TmsIn w9 B9 ts ∧ RulsIn w9 B6 rs ∧ IntsIn w9 b r.verbs) := ⟨HI8.out.1.later hb9, hi9, HI8.out.2.1.later hb9, HI8.out.2.2.later hb9⟩
  clear hb9 hi9 HX8 HB8 HI8
  go_wp2_with fail
  refine (eqTeams _ _ ts w9 HI9.out.1 HI9.out.2.1).mono ?_
  rintro e w9b ⟨rfl, hb9b⟩
  have HB9b : Hid (Below w.heap.size w w9b) := blw_trans HB9.out hb9b
  have HX9b : Hid (Boxed w9b w.heap.size #[.slice ra r.verbs.length rc, .string r.kind, .string r.team, .string r.pre] ∧ Boxed w9b w6.heap.size #[.slice (some ⟨b, 0, none⟩) r.verbs.length r.verbs.length, .string r.kind, .string r.team, .string r.pre]) := ⟨HX9.out.1.later hb9b, HX9.out.2.later hb9b⟩
  have HI9b : Hid (RulsIn w9b B6 rs ∧ IntsIn w9b b r.verbs) := ⟨HI9.out.2.2.1.later hb9b, HI9.out.2.2.2.later hb9b⟩
  clear hb9b HX9 HB9 HI9
  go_wp2_with fail
  refine (HT23.out _ HB9b.out).mono ?_
  rintro e w9c ⟨B10, rfl, hb9c, hi9c⟩
  have HB9c : Hid (Below w.heap.size w w9c) := blw_trans HB9b.out hb9c
  have HX9c : Hid (Boxed w9c w.heap.size #[.slice ra r.verbs.length rc, .string r.kind, .string r.team, .string r.pre] ∧ Boxed w9c w6.heap.size #[.slice (some ⟨b, 0, none⟩) r.verbs.length r.verbs.length, .string r.kind, .string r.team, .string r.pre]) := ⟨HX9b.out.1.later hb9c, HX9b.out.2.later hb9c⟩
  have HI9c : Hid (RulsIn w9c B6 rs ∧ RulsIn w9c B10 rs ∧ IntsIn w9c b r.verbs) := ⟨HI9b.out.1.later hb9c, hi9c, HI9b.out.2.later hb9c⟩
  clear hb9c hi9c HX9b HB9b HI9b
  go_wp2_with fail
  refine (eqRules _ _ rs w9c HI9c.out.1 HI9c.out.2.1).mono ?_
  rintro e w10 ⟨rfl, hb10⟩
  have HB10 : Hid (Below w.heap.size w w10) := blw_trans HB9c.out hb10
  have HX10 : Hid (Boxed w10 w.heap.size #[.slice ra r.verbs.length rc, .string r.kind, .string r.team, .string r.pre] ∧ Boxed w10 w6.heap.size #[.slice (some ⟨b, 0, none⟩) r.verbs.length r.verbs.length, .string r.kind, .string r.team, .string r.pre]) := ⟨HX9c.out.1.later hb10, HX9c.out.2.later hb10⟩
  have HI10 : Hid (IntsIn w10 b r.verbs) := HI9c.out.2.2.later hb10
  clear hb10 HX9c HB9c HI9c
  have f0 : w10.cell? ⟨w.heap.size, 0, none⟩ = some (.slice ra r.verbs.length rc) := HX10.out.1.2 0
  have f1 : w10.cell? ⟨w.heap.size, 1, none⟩ = some (.string r.kind) := HX10.out.1.2 1
  have f2 : w10.cell? ⟨w.heap.size, 2, none⟩ = some (.string r.team) := HX10.out.1.2 2
  have f3 : w10.cell? ⟨w.heap.size, 3, none⟩ = some (.string r.pre) := HX10.out.1.2 3
  have g0 : w10.cell? ⟨w6.heap.size, 0, none⟩ = some (.slice (some ⟨b, 0, none⟩) r.verbs.length r.verbs.length) := HX10.out.2.2 0
  have g1 : w10.cell? ⟨w6.heap.size, 1, none⟩ = some (.string r.kind) := HX10.out.2.2 1
  have g2 : w10.cell? ⟨w6.heap.size, 2, none⟩ = some (.string r.team) := HX10.out.2.2 2
  have g3 : w10.cell? ⟨w6.heap.size, 3, none⟩ = some (.string r.pre) := HX10.out.2.2 3
  have HXl : Hid (∀ W, Below w10.heap.size w10 W → Boxed W w6.heap.size #[.slice (some ⟨b, 0, none⟩) r.verbs.length r.verbs.length, .string r.kind, .string r.team, .string r.pre] ∧ IntsIn W b r.verbs) := fun W hW => ⟨HX10.out.2.later hW, HI10.out.later hW⟩
  go_upto_region 22 with fail
  go_cut [62] (fun s wx => s = .bool false ∧ Below w10.heap.size w10 wx)
  case first =>
    go_region_with (first
      | (go_at_call 20; have hzz := hoB; clear hzz; refine (eqRule _ _ r _ ?_ ?_).mono ?_; exact (HXl.out _ (by repeat (first | exact kB | refine Below.drew ?_))).2; exact hoB.later (by repeat (first | exact Below.refl _ _ | refine Below.drew ?_)); rintro e wC ⟨rfl, hbC⟩; have kC : Below w10.heap.size w10 wC := blw_trans (by repeat (first | exact kB | refine Below.drew ?_)) hbC; clear hbC)
      | (go_at_call 17; refine (HT17.out _ ?_).mono ?_; (repeat (first | exact HB10.out | refine Below.drew ?_)); rintro e wB ⟨⟨b', rfl, hoB⟩, hbB⟩; have kB : Below w10.heap.size w10 wB := blw_trans (by repeat (first | exact Below.refl _ _ | refine Below.drew ?_)) hbB; clear hbB f0 f1 f2 f3 g0 g1 g2 g3; have bx := (HXl.out wB kB).1; have j0 : wB.cell? ⟨w6.heap.size, 0, none⟩ = some (.slice (some ⟨b, 0, none⟩) r.verbs.length r.verbs.length) := bx.2 0; have j1 : wB.cell? ⟨w6.heap.size, 1, none⟩ = some (.string r.kind) := bx.2 1; have j2 : wB.cell? ⟨w6.heap.size, 2, none⟩ = some (.string r.team) := bx.2 2; have j3 : wB.cell? ⟨w6.heap.size, 3, none⟩ = some (.string r.pre) := bx.2 3; clear bx))
    all_goals
      go_wp2_with fail
      go_meet
      refine ⟨rfl, ?_⟩
      repeat (first | exact kC | refine Below.drew ?_)
  case rest =>
  obtain ⟨rfl, hbx⟩ := hcut
  rename World => w11
  have hB11 := blw_trans HB10.out hbx
  go_wp2
  go_ret
  exact ⟨rfl, hB11⟩

end Go.Proofs.Ytikfcnmhfoknlaa
