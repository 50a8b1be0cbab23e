/-
  The walk over the law of GateAllows.
-/
import Derived.Test.YtikfcnmhfoknlaaWalkRA
import Derived.Test.YtikfcnmhfoknlaaWalkRF
import Derived.Deep.DeepCutAuto
namespace Go.Proofs.Ytikfcnmhfoknlaa
open Go.RowKit Go.Deep

/-- A box: its cells. -/
def Box (W : World) (p : Nat) (cs : Array Value) : Prop := p < W.heap.size ∧ ∀ o, W.cell? ⟨p, o, none⟩ = cs[o]?

theorem Box.later {W W' : World} {p : Nat} {cs : Array Value} (h : Box W p cs) (hb : Below W.heap.size W W') : Box W' p cs :=
  ⟨Nat.lt_of_lt_of_le h.1 hb.size, fun o => (hb.cell (p := ⟨p, o, none⟩) h.1).trans (h.2 o)⟩
theorem Box.new (W : World) (cs : Array Value) (t : TypeId) : Box (W.alloc (.cells cs t)) W.heap.size cs := ⟨by simp, fun o => by simp⟩

set_option maxRecDepth 8000 in
set_option maxHeartbeats 8000000 in
theorem lawAllows (v : Value) (ra : Option Addr) (rc : Nat) (r : Rul) (d : Deed) (ts : List Tm) (w : World) (h : TmsAt w v ts) (hr : IntsAt w (.slice ra r.verbs.length rc) r.verbs) (hn : r.verbs.length ≤ maxLen) (hs : r.sized) (hd : d.sized) :
    Calls Try.prog 5 #[v, .agg #[.slice ra r.verbs.length rc, .string r.kind, .string r.team, .string r.pre], .agg #[.int .i64 d.verb, .string d.kind, .string d.team, .string d.name]] w fun e w' => e = .returned (.bool true) ∧ Below w.heap.size w w' := by
  have HH : Hid (TmsAt w v ts ∧ IntsAt w (.slice ra r.verbs.length rc) r.verbs) := ⟨h, hr⟩
  have HZ : Hid (r.verbs.length ≤ maxLen ∧ r.sized ∧ d.sized) := ⟨hn, hs, hd⟩
  obtain ⟨w0, hw0⟩ : ∃ w0, w0 = ((w.alloc (.cells #[.slice ra r.verbs.length rc, .string r.kind, .string r.team, .string r.pre] 33)).alloc (.cells #[.int .i64 d.verb, .string d.kind, .string d.team, .string d.name] 35)) := ⟨_, rfl⟩
  have HB0 : Hid (Below w.heap.size w w0) := by rw [hw0]; exact blw_alloc (blw_alloc (Below.refl _ _) _) _
  have HX0 : Hid (Box w0 (w.heap.size) #[.slice ra r.verbs.length rc, .string r.kind, .string r.team, .string r.pre] ∧ Box w0 (w.heap.size + 1) #[.int .i64 d.verb, .string d.kind, .string d.team, .string d.name]) := by
    rw [hw0]
    refine ⟨(Box.new w _ 33).later (blw_alloc (Below.refl _ _) _), ?_⟩
    have := Box.new (w.alloc (.cells #[.slice ra r.verbs.length rc, .string r.kind, .string r.team, .string r.pre] 33)) #[.int .i64 d.verb, .string d.kind, .string d.team, .string d.name] 35
    simpa using this
  clear h hr hn hs hd
  go_enter Try.func5, Try.ntmps5
  go_wp2_with fail
  rw [← hw0]
  clear hw0
  refine (szTeams v ts 1048576 w0 (by omega) (by omega) (HH.out.1.later HB0.out)).mono ?_
  rintro e w1 ⟨⟨r1, rfl, hr1⟩, hb1⟩
  have HR1 : Hid (szP ((ts.length : Int) ≤ 1048576) 1048576 r1) := hr1
  have hr11 : r1 ≤ 1048576 := hr1.2.1
  have HB1 : Hid (Below w.heap.size w w1) := blw_trans HB0.out hb1
  have HX1 : Hid (Box w1 (w.heap.size) #[.slice ra r.verbs.length rc, .string r.kind, .string r.team, .string r.pre] ∧ Box w1 (w.heap.size + 1) #[.int .i64 d.verb, .string d.kind, .string d.team, .string d.name]) := ⟨HX0.out.1.later hb1, HX0.out.2.later hb1⟩
  clear hr1 hb1 HX0 HB0
  by_cases c1 : r1 < 0
  · go_wp2
    go_ret
    exact ⟨rfl, HB1.out⟩
  have HL : Hid (ts.length ≤ 1048576) := by have := HR1.out.2.2 (by omega); show ts.length ≤ 1048576; omega
  clear HR1
  have f0 : w1.cell? ⟨w.heap.size, 0, none⟩ = some (.slice ra r.verbs.length rc) := HX1.out.1.2 0
  have f1 : w1.cell? ⟨w.heap.size, 1, none⟩ = some (.string r.kind) := HX1.out.1.2 1
  have f2 : w1.cell? ⟨w.heap.size, 2, none⟩ = some (.string r.team) := HX1.out.1.2 2
  have f3 : w1.cell? ⟨w.heap.size, 3, none⟩ = some (.string r.pre) := HX1.out.1.2 3
  go_wp2_with fail
  refine (szRule ra rc r r1 w1 (by omega) hr11 HZ.out.1 HZ.out.2.1).mono ?_
  rintro e w2 ⟨⟨r2, rfl, hr2⟩, hb2⟩
  have HR2 : Hid (szP ((r.verbs.length : Int) ≤ r1) r1 r2) := hr2
  have hr21 : r2 ≤ 1048576 := by have := hr2.2.1; omega
  have HB2 : Hid (Below w.heap.size w w2) := blw_trans HB1.out hb2
  have HX2 : Hid (Box w2 (w.heap.size) #[.slice ra r.verbs.length rc, .string r.kind, .string r.team, .string r.pre] ∧ Box w2 (w.heap.size + 1) #[.int .i64 d.verb, .string d.kind, .string d.team, .string d.name]) := ⟨HX1.out.1.later hb2, HX1.out.2.later hb2⟩
  clear hr2 hb2 HX1 HB1 f0 f1 f2 f3
  by_cases c2 : r2 < 0
  · go_wp2
    go_ret
    exact ⟨rfl, HB2.out⟩
  have HLR : Hid (r.verbs.length ≤ 1048576) := by have := HR2.out.2.2 (by omega); show r.verbs.length ≤ 1048576; omega
  clear HR2
  have g0 : w2.cell? ⟨w.heap.size + 1, 0, none⟩ = some (.int .i64 d.verb) := HX2.out.2.2 0
  have g1 : w2.cell? ⟨w.heap.size + 1, 1, none⟩ = some (.string d.kind) := HX2.out.2.2 1
  have g2 : w2.cell? ⟨w.heap.size + 1, 2, none⟩ = some (.string d.team) := HX2.out.2.2 2
  have g3 : w2.cell? ⟨w.heap.size + 1, 3, none⟩ = some (.string d.name) := HX2.out.2.2 3
  go_wp2_with fail
  refine (szDeed d r2 w2 (by omega) hr21 HZ.out.2.2).mono ?_
  rintro e w3 ⟨⟨r3, rfl, hr3, hr31⟩, hb3⟩
  have HB3 : Hid (Below w.heap.size w w3) := blw_trans HB2.out hb3
  have HX3 : Hid (Box w3 (w.heap.size) #[.slice ra r.verbs.length rc, .string r.kind, .string r.team, .string r.pre] ∧ Box w3 (w.heap.size + 1) #[.int .i64 d.verb, .string d.kind, .string d.team, .string d.name]) := ⟨HX2.out.1.later hb3, HX2.out.2.later hb3⟩
  clear hb3 HX2 HB2 g0 g1 g2 g3
  by_cases c3 : r3 < 0
  · go_wp2
    go_ret
    exact ⟨rfl, HB3.out⟩
  have HT9 : Hid (∀ W, Below w.heap.size w W → Calls Try.prog 9 #[v] W fun e w' => ∃ BA, e = .returned (.slice (some ⟨BA, 0, none⟩) ts.length ts.length) ∧ Below W.heap.size W w' ∧ TmsIn w' BA ts) := by
    intro W hW
    refine (toTeams v ts W HL.out (HH.out.1.later hW)).mono ?_
    rintro e w' ⟨rfl, h1, h2⟩
    exact ⟨_, rfl, h1, h2⟩
  have HT17 : Hid (∀ W, Below w.heap.size w W → Calls Try.prog 17 #[.agg #[.slice ra r.verbs.length rc, .string r.kind, .string r.team, .string r.pre]] W fun e w' => (∃ b, e = .returned (.agg #[.slice (some ⟨b, 0, none⟩) r.verbs.length r.verbs.length, .string r.kind, .string r.team, .string r.pre]) ∧ IntsIn w' b r.verbs) ∧ Below W.heap.size W w') := by
    intro W hW
    refine (toRule ra rc r W HLR.out (HH.out.2.later hW)).mono ?_
    rintro e w' ⟨⟨b, rfl, _, _, h2⟩, hb⟩
    exact ⟨⟨b, rfl, h2⟩, hb⟩
  have HT16 : Hid (∀ W BA b, TmsIn W BA ts → IntsIn W b r.verbs → Calls Try.prog 16 #[.slice (some ⟨BA, 0, none⟩) ts.length ts.length, .agg #[.slice (some ⟨b, 0, none⟩) r.verbs.length r.verbs.length, .string r.kind, .string r.team, .string r.pre], .agg #[.int .i64 d.verb, .string d.kind, .string d.team, .string d.name]] W fun e w' => e = .returned (.bool (allows ts r d)) ∧ Below W.heap.size W w') := fun W BA b h1 h2 => allowsS BA b ts r d W h1 h2 HZ.out.2.1
  have HT19 : Hid (∀ W BA b, TmsIn W BA ts → IntsIn W b r.verbs → Calls Try.prog 19 #[.slice (some ⟨BA, 0, none⟩) ts.length ts.length, .agg #[.slice (some ⟨b, 0, none⟩) r.verbs.length r.verbs.length, .string r.kind, .string r.team, .string r.pre], .agg #[.int .i64 d.verb, .string d.kind, .string d.team, .string d.name]] W fun e w' => e = .returned (.bool (allows ts r d)) ∧ Below W.heap.size W w') := fun W BA b h1 h2 => allowsI BA b ts r d W h1 h2 HZ.out.2.1
  obtain ⟨R, hR⟩ : ∃ R, R = allows ts r d := ⟨_, rfl⟩
  rw [← hR] at HT16 HT19
  clear hR
  have f0 : w3.cell? ⟨w.heap.size, 0, none⟩ = some (.slice ra r.verbs.length rc) := HX3.out.1.2 0
  have f1 : w3.cell? ⟨w.heap.size, 1, none⟩ = some (.string r.kind) := HX3.out.1.2 1
  have f2 : w3.cell? ⟨w.heap.size, 2, none⟩ = some (.string r.team) := HX3.out.1.2 2
  have f3 : w3.cell? ⟨w.heap.size, 3, none⟩ = some (.string r.pre) := HX3.out.1.2 3
  have g0 : w3.cell? ⟨w.heap.size + 1, 0, none⟩ = some (.int .i64 d.verb) := HX3.out.2.2 0
  have g1 : w3.cell? ⟨w.heap.size + 1, 1, none⟩ = some (.string d.kind) := HX3.out.2.2 1
  have g2 : w3.cell? ⟨w.heap.size + 1, 2, none⟩ = some (.string d.team) := HX3.out.2.2 2
  have g3 : w3.cell? ⟨w.heap.size + 1, 3, none⟩ = some (.string d.name) := HX3.out.2.2 3
  have HXl : Hid (∀ W, Below w3.heap.size w3 W → Box W (w.heap.size) #[.slice ra r.verbs.length rc, .string r.kind, .string r.team, .string r.pre] ∧ Box W (w.heap.size + 1) #[.int .i64 d.verb, .string d.kind, .string d.team, .string d.name]) := fun W hW => ⟨HX3.out.1.later hW, HX3.out.2.later hW⟩
  go_upto_region 11 with fail
  go_cut [8] (fun s wx => s = .bool R ∧ Below w3.heap.size w3 wx)
  case first =>
    go_region_with (first
      | (go_at_call 16; have hzz := hoC; clear hzz; refine (HT16.out _ _ _ ?_ ?_).mono ?_; exact hiC.later (by repeat (first | exact Below.refl _ _ | refine Below.drew ?_)); exact hoC.later (by repeat (first | exact Below.refl _ _ | refine Below.drew ?_)); rintro e wD ⟨rfl, hbD⟩; have kD : Below w3.heap.size w3 wD := blw_trans (by repeat (first | exact kC | refine Below.drew ?_)) hbD; clear hbD)
      | (go_at_call 18; have hzz := hoB; clear hzz; refine (toDeed d _).mono ?_; rintro e wC ⟨rfl, hbC⟩; have kC : Below w3.heap.size w3 wC := blw_trans (by repeat (first | exact kB | refine Below.drew ?_)) hbC; have hkC : Below wB.heap.size wB wC := blw_trans (by repeat (first | exact Below.refl _ _ | refine Below.drew ?_)) hbC; have hiC : TmsIn wC BA ts := hiB.later hkC; have hoC : IntsIn wC b r.verbs := hoB.later hkC; clear hbC hkC hiB hoB j0 j1 j2 j3)
      | (go_at_call 17; have hzz := hiA; clear hzz; refine (HT17.out _ ?_).mono ?_; (repeat (first | exact blw_trans HB3.out kA | refine Below.drew ?_)); rintro e wB ⟨⟨b, rfl, hoB⟩, hbB⟩; have kB : Below w3.heap.size w3 wB := blw_trans (by repeat (first | exact kA | refine Below.drew ?_)) hbB; have hiB : TmsIn wB BA ts := hiA.later (blw_trans (by repeat (first | exact Below.refl _ _ | refine Below.drew ?_)) hbB); clear hbB hiA p0 p1 p2 p3 q0 q1 q2 q3; have bx := (HXl.out wB kB).2; have j0 : wB.cell? ⟨w.heap.size + 1, 0, none⟩ = some (.int .i64 d.verb) := bx.2 0; have j1 : wB.cell? ⟨w.heap.size + 1, 1, none⟩ = some (.string d.kind) := bx.2 1; have j2 : wB.cell? ⟨w.heap.size + 1, 2, none⟩ = some (.string d.team) := bx.2 2; have j3 : wB.cell? ⟨w.heap.size + 1, 3, none⟩ = some (.string d.name) := bx.2 3; clear bx)
      | (go_at_call 9; refine (HT9.out _ ?_).mono ?_; (repeat (first | exact HB3.out | refine Below.drew ?_)); rintro e wA ⟨BA, rfl, hbA, hiA⟩; have kA : Below w3.heap.size w3 wA := blw_trans (by repeat (first | exact Below.refl _ _ | refine Below.drew ?_)) hbA; clear hbA f0 f1 f2 f3 g0 g1 g2 g3; have bx := HXl.out wA kA; have p0 : wA.cell? ⟨w.heap.size, 0, none⟩ = some (.slice ra r.verbs.length rc) := bx.1.2 0; have p1 : wA.cell? ⟨w.heap.size, 1, none⟩ = some (.string r.kind) := bx.1.2 1; have p2 : wA.cell? ⟨w.heap.size, 2, none⟩ = some (.string r.team) := bx.1.2 2; have p3 : wA.cell? ⟨w.heap.size, 3, none⟩ = some (.string r.pre) := bx.1.2 3; have q0 : wA.cell? ⟨w.heap.size + 1, 0, none⟩ = some (.int .i64 d.verb) := bx.2.2 0; have q1 : wA.cell? ⟨w.heap.size + 1, 1, none⟩ = some (.string d.kind) := bx.2.2 1; have q2 : wA.cell? ⟨w.heap.size + 1, 2, none⟩ = some (.string d.team) := bx.2.2 2; have q3 : wA.cell? ⟨w.heap.size + 1, 3, none⟩ = some (.string d.name) := bx.2.2 3; clear bx))
    all_goals
      go_wp2_with fail
      go_meet
      refine ⟨rfl, ?_⟩
      repeat (first | exact kD | refine Below.drew ?_)
  case rest =>
  obtain ⟨rfl, hb4⟩ := hcut
  rename World => w4
  have HB4 : Hid (Below w.heap.size w w4) := blw_trans HB3.out hb4
  have HX4 : Hid (Box w4 (w.heap.size) #[.slice ra r.verbs.length rc, .string r.kind, .string r.team, .string r.pre] ∧ Box w4 (w.heap.size + 1) #[.int .i64 d.verb, .string d.kind, .string d.team, .string d.name]) := HXl.out w4 hb4
  clear hb4 f0 f1 f2 f3 g0 g1 g2 g3 HX3 HB3 HT16 HXl
  go_wp2_with fail
  refine (HT9.out _ HB4.out).mono ?_
  rintro e w5 ⟨B5, rfl, hb5, hi5⟩
  have HB5 : Hid (Below w.heap.size w w5) := blw_trans HB4.out hb5
  have HX5 : Hid (Box w5 (w.heap.size) #[.slice ra r.verbs.length rc, .string r.kind, .string r.team, .string r.pre] ∧ Box w5 (w.heap.size + 1) #[.int .i64 d.verb, .string d.kind, .string d.team, .string d.name]) := ⟨HX4.out.1.later hb5, HX4.out.2.later hb5⟩
  have HI5 : Hid (TmsIn w5 B5 ts) := hi5
  clear hb5 hi5 HX4 HB4
  have f0 : w5.cell? ⟨w.heap.size, 0, none⟩ = some (.slice ra r.verbs.length rc) := HX5.out.1.2 0
  have f1 : w5.cell? ⟨w.heap.size, 1, none⟩ = some (.string r.kind) := HX5.out.1.2 1
  have f2 : w5.cell? ⟨w.heap.size, 2, none⟩ = some (.string r.team) := HX5.out.1.2 2
  have f3 : w5.cell? ⟨w.heap.size, 3, none⟩ = some (.string r.pre) := HX5.out.1.2 3
  go_wp2_with fail
  refine (HT17.out _ HB5.out).mono ?_
  rintro e w6 ⟨⟨b, rfl, ho6⟩, hb6⟩
  have HB6 : Hid (Below w.heap.size w w6) := blw_trans HB5.out hb6
  obtain ⟨w7, hw7⟩ : ∃ w7, w7 = w6.alloc (.cells #[.slice (some ⟨b, 0, none⟩) r.verbs.length r.verbs.length, .string r.kind, .string r.team, .string r.pre] 39) := ⟨_, rfl⟩
  have hb7 : Below w6.heap.size w6 w7 := by rw [hw7]; exact blw_alloc (Below.refl _ _) _
  have hb57 := blw_trans hb6 hb7
  have HB7 : Hid (Below w.heap.size w w7) := blw_trans HB6.out hb7
  have HX7 : Hid (Box w7 (w.heap.size) #[.slice ra r.verbs.length rc, .string r.kind, .string r.team, .string r.pre] ∧ Box w7 (w.heap.size + 1) #[.int .i64 d.verb, .string d.kind, .string d.team, .string d.name] ∧ Box w7 w6.heap.size #[.slice (some ⟨b, 0, none⟩) r.verbs.length r.verbs.length, .string r.kind, .string r.team, .string r.pre]) := ⟨HX5.out.1.later hb57, HX5.out.2.later hb57, by rw [hw7]; exact Box.new w6 _ 39⟩
  have HI7 : Hid (TmsIn w7 B5 ts ∧ IntsIn w7 b r.verbs) := ⟨HI5.out.later hb57, ho6.later hb7⟩
  clear hb6 hb7 hb57 ho6 HX5 HB5 HI5 HB6 f0 f1 f2 f3
  go_upto_region 14 with fail
  rw [← hw7]
  clear hw7
  have f0 : w7.cell? ⟨w6.heap.size, 0, none⟩ = some (.slice (some ⟨b, 0, none⟩) r.verbs.length r.verbs.length) := HX7.out.2.2.2 0
  have f1 : w7.cell? ⟨w6.heap.size, 1, none⟩ = some (.string r.kind) := HX7.out.2.2.2 1
  have f2 : w7.cell? ⟨w6.heap.size, 2, none⟩ = some (.string r.team) := HX7.out.2.2.2 2
  have f3 : w7.cell? ⟨w6.heap.size, 3, none⟩ = some (.string r.pre) := HX7.out.2.2.2 3
  have g0 : w7.cell? ⟨w.heap.size + 1, 0, none⟩ = some (.int .i64 d.verb) := HX7.out.2.1.2 0
  have g1 : w7.cell? ⟨w.heap.size + 1, 1, none⟩ = some (.string d.kind) := HX7.out.2.1.2 1
  have g2 : w7.cell? ⟨w.heap.size + 1, 2, none⟩ = some (.string d.team) := HX7.out.2.1.2 2
  have g3 : w7.cell? ⟨w.heap.size + 1, 3, none⟩ = some (.string d.name) := HX7.out.2.1.2 3
  have HXl : Hid (∀ W, Below w7.heap.size w7 W → Box W w6.heap.size #[.slice (some ⟨b, 0, none⟩) r.verbs.length r.verbs.length, .string r.kind, .string r.team, .string r.pre] ∧ TmsIn W B5 ts ∧ IntsIn W b r.verbs) := fun W hW => ⟨HX7.out.2.2.later hW, HI7.out.1.later hW, HI7.out.2.later hW⟩
  go_cut [11] (fun s wx => s = .bool R ∧ Below w7.heap.size w7 wx)
  case first =>
    go_region_with (first
      | (go_at_call 19; have hzz := kC; clear hzz; refine (HT19.out _ _ _ ?_ ?_).mono ?_; exact (HXl.out _ (by repeat (first | exact kC | refine Below.drew ?_))).2.1; exact (HXl.out _ (by repeat (first | exact kC | refine Below.drew ?_))).2.2; rintro e wD ⟨rfl, hbD⟩; have kD : Below w7.heap.size w7 wD := blw_trans (by repeat (first | exact kC | refine Below.drew ?_)) hbD; clear hbD)
      | (go_at_call 18; refine (toDeed d _).mono ?_; rintro e wC ⟨rfl, hbC⟩; have kC : Below w7.heap.size w7 wC := blw_trans (by repeat (first | exact Below.refl _ _ | refine Below.drew ?_)) hbC; clear hbC f0 f1 f2 f3 g0 g1 g2 g3; have bx := (HXl.out wC kC).1; have j0 : wC.cell? ⟨w6.heap.size, 0, none⟩ = some (.slice (some ⟨b, 0, none⟩) r.verbs.length r.verbs.length) := bx.2 0; have j1 : wC.cell? ⟨w6.heap.size, 1, none⟩ = some (.string r.kind) := bx.2 1; have j2 : wC.cell? ⟨w6.heap.size, 2, none⟩ = some (.string r.team) := bx.2 2; have j3 : wC.cell? ⟨w6.heap.size, 3, none⟩ = some (.string r.pre) := bx.2 3; clear bx))
    all_goals
      go_wp2_with fail
      go_meet
      refine ⟨rfl, ?_⟩
      repeat (first | exact kD | refine Below.drew ?_)
  case rest =>
  obtain ⟨rfl, hb8⟩ := hcut
  rename World => w8
  have HB8 : Hid (Below w.heap.size w w8) := blw_trans HB7.out hb8
  have HX8 : Hid (Box w8 (w.heap.size) #[.slice ra r.verbs.length rc, .string r.kind, .string r.team, .string r.pre] ∧ Box w8 w6.heap.size #[.slice (some ⟨b, 0, none⟩) r.verbs.length r.verbs.length, .string r.kind, .string r.team, .string r.pre]) := ⟨HX7.out.1.later hb8, HX7.out.2.2.later hb8⟩
  have HI8 : Hid (TmsIn w8 B5 ts ∧ IntsIn w8 b r.verbs) := ⟨HI7.out.1.later hb8, HI7.out.2.later hb8⟩
  clear hb8 f0 f1 f2 f3 g0 g1 g2 g3 HX7 HB7 HT19 HXl HI7
  go_wp2_with fail
  refine (HT9.out _ HB8.out).mono ?_
  rintro e w9 ⟨B9, rfl, hb9, hi9⟩
  have HB9 : Hid (Below w.heap.size w w9) := blw_trans HB8.out hb9
  have HX9 : Hid (Box w9 (w.heap.size) #[.slice ra r.verbs.length rc, .string r.kind, .string r.team, .string r.pre] ∧ Box w9 w6.heap.size #[.slice (some ⟨b, 0, none⟩) r.verbs.length r.verbs.length, .string r.kind, .string r.team, .string r.pre]) := ⟨HX8.out.1.later hb9, HX8.out.2.later hb9⟩
  have HI9 : Hid (TmsIn w9 B5 ts ∧ TmsIn w9 B9 ts ∧ IntsIn w9 b r.verbs) := ⟨HI8.out.1.later hb9, hi9, HI8.out.2.later hb9⟩
  clear hb9 hi9 HX8 HB8 HI8
  go_wp2_with fail
  refine (eqTeams _ _ ts w9 HI9.out.1 HI9.out.2.1).mono ?_
  rintro e w10 ⟨rfl, hb10⟩
  have HB10 : Hid (Below w.heap.size w w10) := blw_trans HB9.out hb10
  have HX10 : Hid (Box w10 (w.heap.size) #[.slice ra r.verbs.length rc, .string r.kind, .string r.team, .string r.pre] ∧ Box w10 w6.heap.size #[.slice (some ⟨b, 0, none⟩) r.verbs.length r.verbs.length, .string r.kind, .string r.team, .string r.pre]) := ⟨HX9.out.1.later hb10, HX9.out.2.later hb10⟩
  have HI10 : Hid (IntsIn w10 b r.verbs) := HI9.out.2.2.later hb10
  clear hb10 HX9 HB9 HI9
  have f0 : w10.cell? ⟨w.heap.size, 0, none⟩ = some (.slice ra r.verbs.length rc) := HX10.out.1.2 0
  have f1 : w10.cell? ⟨w.heap.size, 1, none⟩ = some (.string r.kind) := HX10.out.1.2 1
  have f2 : w10.cell? ⟨w.heap.size, 2, none⟩ = some (.string r.team) := HX10.out.1.2 2
  have f3 : w10.cell? ⟨w.heap.size, 3, none⟩ = some (.string r.pre) := HX10.out.1.2 3
  have g0 : w10.cell? ⟨w6.heap.size, 0, none⟩ = some (.slice (some ⟨b, 0, none⟩) r.verbs.length r.verbs.length) := HX10.out.2.2 0
  have g1 : w10.cell? ⟨w6.heap.size, 1, none⟩ = some (.string r.kind) := HX10.out.2.2 1
  have g2 : w10.cell? ⟨w6.heap.size, 2, none⟩ = some (.string r.team) := HX10.out.2.2 2
  have g3 : w10.cell? ⟨w6.heap.size, 3, none⟩ = some (.string r.pre) := HX10.out.2.2 3
  have HXl : Hid (∀ W, Below w10.heap.size w10 W → Box W w6.heap.size #[.slice (some ⟨b, 0, none⟩) r.verbs.length r.verbs.length, .string r.kind, .string r.team, .string r.pre] ∧ IntsIn W b r.verbs) := fun W hW => ⟨HX10.out.2.later hW, HI10.out.later hW⟩
  go_upto_region 19 with fail
  go_cut [55] (fun s wx => s = .bool false ∧ Below w10.heap.size w10 wx)
  case first =>
    go_region_with (first
      | (go_at_call 20; have hzz := hoB; clear hzz; refine (eqRule _ _ r _ ?_ ?_).mono ?_; exact (HXl.out _ (by repeat (first | exact kB | refine Below.drew ?_))).2; exact hoB.later (by repeat (first | exact Below.refl _ _ | refine Below.drew ?_)); rintro e wC ⟨rfl, hbC⟩; have kC : Below w10.heap.size w10 wC := blw_trans (by repeat (first | exact kB | refine Below.drew ?_)) hbC; clear hbC)
      | (go_at_call 17; refine (HT17.out _ ?_).mono ?_; (repeat (first | exact HB10.out | refine Below.drew ?_)); rintro e wB ⟨⟨b', rfl, hoB⟩, hbB⟩; have kB : Below w10.heap.size w10 wB := blw_trans (by repeat (first | exact Below.refl _ _ | refine Below.drew ?_)) hbB; clear hbB f0 f1 f2 f3 g0 g1 g2 g3; have bx := (HXl.out wB kB).1; have j0 : wB.cell? ⟨w6.heap.size, 0, none⟩ = some (.slice (some ⟨b, 0, none⟩) r.verbs.length r.verbs.length) := bx.2 0; have j1 : wB.cell? ⟨w6.heap.size, 1, none⟩ = some (.string r.kind) := bx.2 1; have j2 : wB.cell? ⟨w6.heap.size, 2, none⟩ = some (.string r.team) := bx.2 2; have j3 : wB.cell? ⟨w6.heap.size, 3, none⟩ = some (.string r.pre) := bx.2 3; clear bx))
    all_goals
      go_wp2_with fail
      go_meet
      refine ⟨rfl, ?_⟩
      repeat (first | exact kC | refine Below.drew ?_)
  case rest =>
  obtain ⟨rfl, hbx⟩ := hcut
  rename World => w11
  have hB11 := blw_trans HB10.out hbx
  go_wp2
  go_ret
  exact ⟨rfl, hB11⟩

end Go.Proofs.Ytikfcnmhfoknlaa
