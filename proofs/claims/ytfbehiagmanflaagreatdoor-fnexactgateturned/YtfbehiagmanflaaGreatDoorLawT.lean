/-
  The walk over the law of GateTurned.
-/
import Derived.Test.YtfbehiagmanflaaGreatDoorWalkTC
import Derived.Test.YtfbehiagmanflaaGreatDoorWalkM
import Derived.Test.YtfbehiagmanflaaGreatDoorWalkP
namespace Go.Proofs.YtfbehiagmanflaaGreatDoor
open Go.RowKit Go.Deep

theorem ObArg.texts1 {w : World} {b1 b2 : Nat} {o : Ob} (h : ObArg w b1 b2 o) (hz : ∀ i, i < o.values.length → (o.values.getD i ByteArray.empty).size ≤ maxLen) : Texts w (.slice (some ⟨b1, 0, none⟩) o.values.length o.values.length) o.values :=
  Or.inr ⟨b1, 0, _, rfl, h.lt1, hz, by have := h.len1; unfold maxLen; omega, fun i hi => by rw [Nat.zero_add]; exact h.at1 i hi⟩
theorem ObArg.texts2 {w : World} {b1 b2 : Nat} {o : Ob} (h : ObArg w b1 b2 o) (hz : ∀ i, i < o.holds.length → (o.holds.getD i ByteArray.empty).size ≤ maxLen) : Texts w (.slice (some ⟨b2, 0, none⟩) o.holds.length o.holds.length) o.holds :=
  Or.inr ⟨b2, 0, _, rfl, h.lt2, hz, by have := h.len2; unfold maxLen; omega, fun i hi => by rw [Nat.zero_add]; exact h.at2 i hi⟩

set_option maxRecDepth 8000 in
set_option maxHeartbeats 40000000 in
theorem lawTurned (v : Value) (ss : List Shp) (a b : Ob) (v1 v2 x1 x2 : Value) (w : World) (hh : Handle w) (h : ShpsAt w v ss) (t1 : Texts w v1 a.values) (t2 : Texts w v2 a.holds) (hsa : a.sized) (r1 : Texts w x1 b.values) (r2 : Texts w x2 b.holds) (hsb : b.sized) :
    Calls Tryz.prog 3 #[v, .agg #[.string a.kind, .string a.name, .string a.team, v1, .bool a.ending, v2, .int .i64 a.version], .agg #[.string b.kind, .string b.name, .string b.team, x1, .bool b.ending, x2, .int .i64 b.version]] w fun e w' => e = .returned (.bool true) ∧ Below w.heap.size w w' := by
  have HH : Hid (ShpsAt w v ss ∧ Handle w ∧ (Texts w v1 a.values ∧ Texts w v2 a.holds) ∧ (Texts w x1 b.values ∧ Texts w x2 b.holds)) := ⟨h, hh, ⟨t1, t2⟩, ⟨r1, r2⟩⟩
  have HZA : Hid (a.sized ∧ (∀ i, i < a.values.length → (a.values.getD i ByteArray.empty).size ≤ maxLen) ∧ (∀ i, i < a.holds.length → (a.holds.getD i ByteArray.empty).size ≤ maxLen)) := ⟨hsa, t1.sizes, t2.sizes⟩
  have HZB : Hid (b.sized ∧ (∀ i, i < b.values.length → (b.values.getD i ByteArray.empty).size ≤ maxLen) ∧ (∀ i, i < b.holds.length → (b.holds.getD i ByteArray.empty).size ≤ maxLen)) := ⟨hsb, r1.sizes, r2.sizes⟩
  clear h t1 t2 hsa r1 r2 hsb hh
  obtain ⟨u1, hu1⟩ : ∃ u1, u1 = w.alloc (.cells #[.string a.kind, .string a.name, .string a.team, v1, .bool a.ending, v2, .int .i64 a.version] 25) := ⟨_, rfl⟩
  obtain ⟨w0, hu2⟩ : ∃ w0, w0 = u1.alloc (.cells #[.string b.kind, .string b.name, .string b.team, x1, .bool b.ending, x2, .int .i64 b.version] 25) := ⟨_, rfl⟩
  have z1 : u1.heap.size = w.heap.size + 1 := by rw [hu1]; simp
  have m1 : Below w.heap.size w u1 := by rw [hu1]; exact blw_alloc (Below.refl _ _) _
  have m2 : Below u1.heap.size u1 w0 := by rw [hu2]; exact blw_alloc (Below.refl _ _) _
  have HB0 : Hid (Below w.heap.size w w0) := blw_trans m1 m2
  have HX0 : Hid (BoxAt w0 w.heap.size a v1 v2 ∧ BoxAt w0 (w.heap.size + 1) b x1 x2) := ⟨(by rw [hu1]; exact BoxAt.new w a _ _ 25 : BoxAt u1 w.heap.size a v1 v2).later m2, (by rw [hu2]; exact BoxAt.new u1 b _ _ 25 : BoxAt w0 u1.heap.size b x1 x2).at_ z1.symm⟩
  go_enter Tryz.func3, Tryz.ntmps3
  go_upto_region 1 with fail
  rw [← hu1, ← hu2]
  clear hu1 hu2 z1 m1 m2
  go_wp2_with fail
  refine (szShapes v ss 1048576 w0 (by omega) (by omega) (HH.out.1.later HB0.out)).mono ?_
  rintro e w1 ⟨⟨r, rfl, hr⟩, hb1⟩
  have HR : Hid (szP (((ss.length : Int) ≤ 1048576) ∧ ∀ s ∈ ss, s.small) 1048576 r) := hr
  have hr1 : r ≤ 1048576 := hr.2.1
  have HB1 : Hid (Below w.heap.size w w1) := blw_trans HB0.out hb1
  have HX1 : Hid (BoxAt w1 w.heap.size a v1 v2 ∧ BoxAt w1 (w.heap.size + 1) b x1 x2) := ⟨HX0.out.1.later hb1, HX0.out.2.later hb1⟩
  clear hr hb1 HX0 HB0
  by_cases c1 : r < 0
  · go_wp2
    go_ret
    exact ⟨rfl, HB1.out⟩
  have HL : Hid (ss.length ≤ 1048576 ∧ ∀ s ∈ ss, s.small) := by have := HR.out.2.2 (by omega); exact ⟨by omega, this.2⟩
  clear HR
  have f0 := HX1.out.1.x0
  have f1 := HX1.out.1.x1
  have f2 := HX1.out.1.x2
  have f3 := HX1.out.1.x3
  have f4 := HX1.out.1.x4
  have f5 := HX1.out.1.x5
  have f6 := HX1.out.1.x6
  have fz := HX1.out.1.lt
  have g0 := HX1.out.2.x0
  have g1 := HX1.out.2.x1
  have g2 := HX1.out.2.x2
  have g3 := HX1.out.2.x3
  have g4 := HX1.out.2.x4
  have g5 := HX1.out.2.x5
  have g6 := HX1.out.2.x6
  have gz := HX1.out.2.lt
  go_wp2_with fail
  refine (szObj a v1 v2 r w1 (by omega) hr1 (HH.out.2.2.1.1.later HB1.out) (HH.out.2.2.1.2.later HB1.out) HZA.out.1).mono ?_
  rintro e w1b ⟨⟨r2, rfl, hr2⟩, hb2⟩
  have HR2 : Hid (szP (a.values.length ≤ 1048576 ∧ a.holds.length ≤ 1048576) r r2) := hr2
  have hr21 : r2 ≤ r := hr2.2.1
  have HB1b : Hid (Below w.heap.size w w1b) := blw_trans HB1.out hb2
  have HX1b : Hid (BoxAt w1b w.heap.size a v1 v2 ∧ BoxAt w1b (w.heap.size + 1) b x1 x2) := ⟨HX1.out.1.later hb2, HX1.out.2.later hb2⟩
  clear hr2 hb2 f0 f1 f2 f3 f4 f5 f6 fz g0 g1 g2 g3 g4 g5 g6 gz HX1 HB1
  by_cases c2 : r2 < 0
  · go_wp2
    go_ret
    exact ⟨rfl, HB1b.out⟩
  have HLA : Hid (a.values.length ≤ 1048576 ∧ a.holds.length ≤ 1048576) := HR2.out.2.2 (by omega)
  clear HR2
  have f0 := HX1b.out.1.x0
  have f1 := HX1b.out.1.x1
  have f2 := HX1b.out.1.x2
  have f3 := HX1b.out.1.x3
  have f4 := HX1b.out.1.x4
  have f5 := HX1b.out.1.x5
  have f6 := HX1b.out.1.x6
  have fz := HX1b.out.1.lt
  have g0 := HX1b.out.2.x0
  have g1 := HX1b.out.2.x1
  have g2 := HX1b.out.2.x2
  have g3 := HX1b.out.2.x3
  have g4 := HX1b.out.2.x4
  have g5 := HX1b.out.2.x5
  have g6 := HX1b.out.2.x6
  have gz := HX1b.out.2.lt
  go_wp2_with fail
  refine (szObj b x1 x2 r2 w1b (by omega) (by omega) (HH.out.2.2.2.1.later HB1b.out) (HH.out.2.2.2.2.later HB1b.out) HZB.out.1).mono ?_
  rintro e w2 ⟨⟨r3, rfl, hr3⟩, hb2⟩
  have HR3 : Hid (szP (b.values.length ≤ 1048576 ∧ b.holds.length ≤ 1048576) r2 r3) := hr3
  have HB2 : Hid (Below w.heap.size w w2) := blw_trans HB1b.out hb2
  have HX2 : Hid (BoxAt w2 w.heap.size a v1 v2 ∧ BoxAt w2 (w.heap.size + 1) b x1 x2) := ⟨HX1b.out.1.later hb2, HX1b.out.2.later hb2⟩
  clear hr3 hb2 f0 f1 f2 f3 f4 f5 f6 fz g0 g1 g2 g3 g4 g5 g6 gz HX1b HB1b
  by_cases c3 : r3 < 0
  · go_wp2
    go_ret
    exact ⟨rfl, HB2.out⟩
  have HLB : Hid (b.values.length ≤ 1048576 ∧ b.holds.length ≤ 1048576) := HR3.out.2.2 (by omega)
  clear HR3
  have HT7 : Hid (∀ W, Below w.heap.size w W → Calls Tryz.prog 7 #[v] W fun e w' => ∃ BA, e = .returned (.slice (some ⟨BA, 0, none⟩) ss.length ss.length) ∧ Below W.heap.size W w' ∧ ShpsIn w' BA ss) := by
    intro W hW
    refine (toShapes v ss W HL.out.1 HL.out.2 (HH.out.1.later hW)).mono ?_
    rintro e w' ⟨rfl, h1, h2, h3⟩
    exact ⟨_, rfl, h1, ⟨h2.lt, HL.out.1, HL.out.2, h3, h2⟩⟩
  have HT8a : Hid (∀ W, Below w.heap.size w W → Calls Tryz.prog 8 #[.agg #[.string a.kind, .string a.name, .string a.team, v1, .bool a.ending, v2, .int .i64 a.version]] W fun e w' => (∃ b1 b2, e = .returned (.agg #[.string a.kind, .string a.name, .string a.team, .slice (some ⟨b1, 0, none⟩) a.values.length a.values.length, .bool a.ending, .slice (some ⟨b2, 0, none⟩) a.holds.length a.holds.length, .int .i64 a.version]) ∧ ObArg w' b1 b2 a) ∧ Below W.heap.size W w') := by
    intro W hW
    refine (toObj a v1 v2 W HLA.out.1 HLA.out.2 (HH.out.2.2.1.1.later hW) (HH.out.2.2.1.2.later hW)).mono ?_
    rintro e w' ⟨⟨b1, b2, rfl, h1, _⟩, hb⟩
    exact ⟨⟨b1, b2, rfl, h1⟩, hb⟩
  have HT8b : Hid (∀ W, Below w.heap.size w W → Calls Tryz.prog 8 #[.agg #[.string b.kind, .string b.name, .string b.team, x1, .bool b.ending, x2, .int .i64 b.version]] W fun e w' => (∃ b1 b2, e = .returned (.agg #[.string b.kind, .string b.name, .string b.team, .slice (some ⟨b1, 0, none⟩) b.values.length b.values.length, .bool b.ending, .slice (some ⟨b2, 0, none⟩) b.holds.length b.holds.length, .int .i64 b.version]) ∧ ObArg w' b1 b2 b) ∧ Below W.heap.size W w') := by
    intro W hW
    refine (toObj b x1 x2 W HLB.out.1 HLB.out.2 (HH.out.2.2.2.1.later hW) (HH.out.2.2.2.2.later hW)).mono ?_
    rintro e w' ⟨⟨b1, b2, rfl, h1, _⟩, hb⟩
    exact ⟨⟨b1, b2, rfl, h1⟩, hb⟩
  have HT6 : Hid (∀ W BA b1 b2 d1 d2, ShpsIn W BA ss → ObArg W b1 b2 a → ObArg W d1 d2 b → Calls Tryz.prog 6 #[.slice (some ⟨BA, 0, none⟩) ss.length ss.length, .agg #[.string a.kind, .string a.name, .string a.team, .slice (some ⟨b1, 0, none⟩) a.values.length a.values.length, .bool a.ending, .slice (some ⟨b2, 0, none⟩) a.holds.length a.holds.length, .int .i64 a.version], .agg #[.string b.kind, .string b.name, .string b.team, .slice (some ⟨d1, 0, none⟩) b.values.length b.values.length, .bool b.ending, .slice (some ⟨d2, 0, none⟩) b.holds.length b.holds.length, .int .i64 b.version]] W fun e w' => e = .returned (.tuple #[.int .i64 (tuCode ss a b : Nat), .int .i64 (tuPlace ss a b : Nat)]) ∧ Below W.heap.size W w') := fun W BA b1 b2 d1 d2 h1 h2 h3 => gateTurnedS BA ss a b b1 _ b2 _ d1 _ d2 _ W h1 h2 h3 HZA.out HZB.out
  obtain ⟨cc, hcc⟩ : ∃ cc, cc = tuCode ss a b := ⟨_, rfl⟩
  obtain ⟨cp, hcp⟩ : ∃ cp, cp = tuPlace ss a b := ⟨_, rfl⟩
  have HC : Hid (cc = tuCode ss a b ∧ cp = tuPlace ss a b) := ⟨hcc, hcp⟩
  rw [← hcc, ← hcp] at HT6
  clear hcc hcp
  have f0 := HX2.out.1.x0
  have f1 := HX2.out.1.x1
  have f2 := HX2.out.1.x2
  have f3 := HX2.out.1.x3
  have f4 := HX2.out.1.x4
  have f5 := HX2.out.1.x5
  have f6 := HX2.out.1.x6
  have fz := HX2.out.1.lt
  have g0 := HX2.out.2.x0
  have g1 := HX2.out.2.x1
  have g2 := HX2.out.2.x2
  have g3 := HX2.out.2.x3
  have g4 := HX2.out.2.x4
  have g5 := HX2.out.2.x5
  have g6 := HX2.out.2.x6
  have gz := HX2.out.2.lt
  go_upto_region 11 with fail
  go_cut [8, 9] (fun s6 s7 wx => s6 = .int .i64 (cc : Nat) ∧ s7 = .int .i64 (cp : Nat) ∧ Below w2.heap.size w2 wx)
  case first =>
    have HXl : Hid (∀ W, Below w2.heap.size w2 W → BoxAt W w.heap.size a v1 v2 ∧ BoxAt W (w.heap.size + 1) b x1 x2) := fun W hW => ⟨HX2.out.1.later hW, HX2.out.2.later hW⟩
    go_region_with (first
      | (go_at_call 7; refine (HT7.out _ ?_).mono ?_; (repeat (first | exact HB2.out | refine Below.drew ?_)); rintro e wA ⟨BA, rfl, hbA, hiA⟩; have kA : Below w2.heap.size w2 wA := blw_trans (by repeat (first | exact Below.refl _ _ | refine Below.drew ?_)) hbA; clear hbA f0 f1 f2 f3 f4 f5 f6 fz g0 g1 g2 g3 g4 g5 g6 gz; obtain ⟨⟨pz, p0, p1, p2, p3, p4, p5, p6⟩, ⟨qz, q0, q1, q2, q3, q4, q5, q6⟩⟩ := HXl.out wA kA)
      | (go_at_call 8; have hzz := hoB; clear hzz; refine (HT8b.out _ ?_).mono ?_; (repeat (first | exact blw_trans HB2.out kB | refine Below.drew ?_)); rintro e wD ⟨⟨d1, d2, rfl, hoD⟩, hbD⟩; have kD : Below w2.heap.size w2 wD := blw_trans (by repeat (first | exact kB | refine Below.drew ?_)) hbD; have hkD : Below wB.heap.size wB wD := blw_trans (by repeat (first | exact Below.refl _ _ | refine Below.drew ?_)) hbD; have hiD : ShpsIn wD BA ss := hiB.later hkD; have hoB' : ObArg wD b1 b2 a := hoB.later hkD; clear hbD hkD hiB hoB jz j0 j1 j2 j3 j4 j5 j6)
      | (go_at_call 8; refine (HT8a.out _ ?_).mono ?_; (repeat (first | exact blw_trans HB2.out kA | refine Below.drew ?_)); rintro e wB ⟨⟨b1, b2, rfl, hoB⟩, hbB⟩; have kB : Below w2.heap.size w2 wB := blw_trans (by repeat (first | exact kA | refine Below.drew ?_)) hbB; have hiB : ShpsIn wB BA ss := hiA.later (blw_trans (by repeat (first | exact Below.refl _ _ | refine Below.drew ?_)) hbB); clear hbB hiA pz p0 p1 p2 p3 p4 p5 p6 qz q0 q1 q2 q3 q4 q5 q6; obtain ⟨_, ⟨jz, j0, j1, j2, j3, j4, j5, j6⟩⟩ := HXl.out wB kB)
      | (go_at_call 6; refine (HT6.out _ _ _ _ _ _ ?_ ?_ ?_).mono ?_; exact hiD.later (by repeat (first | exact Below.refl _ _ | refine Below.drew ?_)); exact hoB'.later (by repeat (first | exact Below.refl _ _ | refine Below.drew ?_)); exact hoD.later (by repeat (first | exact Below.refl _ _ | refine Below.drew ?_)); rintro e wC ⟨rfl, hbC⟩; have kC : Below w2.heap.size w2 wC := blw_trans (by repeat (first | exact kD | refine Below.drew ?_)) hbC; clear hbC))
    all_goals
      go_wp2_with fail
      go_meet
      refine ⟨rfl, rfl, ?_⟩
      repeat (first | exact kC | refine Below.drew ?_)
  case rest =>
  obtain ⟨rfl, rfl, hb3⟩ := hcut
  rename World => w3
  have HB3 : Hid (Below w.heap.size w w3) := blw_trans HB2.out hb3
  have HX3 : Hid (BoxAt w3 w.heap.size a v1 v2 ∧ BoxAt w3 (w.heap.size + 1) b x1 x2) := ⟨HX2.out.1.later hb3, HX2.out.2.later hb3⟩
  clear hb3 f0 f1 f2 f3 f4 f5 f6 fz g0 g1 g2 g3 g4 g5 g6 gz HX2 HB2 HT6
  go_wp2_with fail
  refine (HT7.out _ HB3.out).mono ?_
  rintro e w4 ⟨B4, rfl, hb4, hi4⟩
  have HB4 : Hid (Below w.heap.size w w4) := blw_trans HB3.out hb4
  have HX4 : Hid (BoxAt w4 w.heap.size a v1 v2 ∧ BoxAt w4 (w.heap.size + 1) b x1 x2) := ⟨HX3.out.1.later hb4, HX3.out.2.later hb4⟩
  have HI4 : Hid (ShpsIn w4 B4 ss) := hi4
  clear hb4 hi4 HX3 HB3
  have f0 := HX4.out.1.x0
  have f1 := HX4.out.1.x1
  have f2 := HX4.out.1.x2
  have f3 := HX4.out.1.x3
  have f4 := HX4.out.1.x4
  have f5 := HX4.out.1.x5
  have f6 := HX4.out.1.x6
  have fz := HX4.out.1.lt
  have g0 := HX4.out.2.x0
  have g1 := HX4.out.2.x1
  have g2 := HX4.out.2.x2
  have g3 := HX4.out.2.x3
  have g4 := HX4.out.2.x4
  have g5 := HX4.out.2.x5
  have g6 := HX4.out.2.x6
  have gz := HX4.out.2.lt
  go_wp2_with fail
  refine (HT8a.out _ HB4.out).mono ?_
  rintro e w5 ⟨⟨b1, b2, rfl, ho5⟩, hb5⟩
  have HB5 : Hid (Below w.heap.size w w5) := blw_trans HB4.out hb5
  obtain ⟨w6, hw6⟩ : ∃ w6, w6 = w5.alloc (.cells #[.string a.kind, .string a.name, .string a.team, .slice (some ⟨b1, 0, none⟩) a.values.length a.values.length, .bool a.ending, .slice (some ⟨b2, 0, none⟩) a.holds.length a.holds.length, .int .i64 a.version] 32) := ⟨_, rfl⟩
  have hb6 : Below w5.heap.size w5 w6 := by rw [hw6]; exact blw_alloc (Below.refl _ _) _
  have HB6 : Hid (Below w.heap.size w w6) := blw_trans HB5.out hb6
  have HX6 : Hid (BoxAt w6 w.heap.size a v1 v2 ∧ BoxAt w6 (w.heap.size + 1) b x1 x2) := ⟨(HX4.out.1.later hb5).later hb6, (HX4.out.2.later hb5).later hb6⟩
  have HY6 : Hid (BoxAt w6 w5.heap.size a (.slice (some ⟨b1, 0, none⟩) a.values.length a.values.length) (.slice (some ⟨b2, 0, none⟩) a.holds.length a.holds.length)) := by show BoxAt _ _ _ _ _; rw [hw6]; exact BoxAt.new w5 a _ _ 32
  have HI6 : Hid (ShpsIn w6 B4 ss ∧ ObArg w6 b1 b2 a) := ⟨(HI4.out.later hb5).later hb6, ho5.later hb6⟩
  clear hb5 ho5 hb6 f0 f1 f2 f3 f4 f5 f6 fz g0 g1 g2 g3 g4 g5 g6 gz HX4 HB4 HI4 HB5
  go_upto_region 14 with fail
  rw [← hw6]
  clear hw6
  have f0 := HX6.out.1.x0
  have f1 := HX6.out.1.x1
  have f2 := HX6.out.1.x2
  have f3 := HX6.out.1.x3
  have f4 := HX6.out.1.x4
  have f5 := HX6.out.1.x5
  have f6 := HX6.out.1.x6
  have fz := HX6.out.1.lt
  have g0 := HX6.out.2.x0
  have g1 := HX6.out.2.x1
  have g2 := HX6.out.2.x2
  have g3 := HX6.out.2.x3
  have g4 := HX6.out.2.x4
  have g5 := HX6.out.2.x5
  have g6 := HX6.out.2.x6
  have gz := HX6.out.2.lt
  go_wp2_with fail
  refine (HT8b.out _ HB6.out).mono ?_
  rintro e w7 ⟨⟨d1, d2, rfl, ho7⟩, hb7⟩
  have HB7 : Hid (Below w.heap.size w w7) := blw_trans HB6.out hb7
  obtain ⟨w8, hw8⟩ : ∃ w8, w8 = w7.alloc (.cells #[.string b.kind, .string b.name, .string b.team, .slice (some ⟨d1, 0, none⟩) b.values.length b.values.length, .bool b.ending, .slice (some ⟨d2, 0, none⟩) b.holds.length b.holds.length, .int .i64 b.version] 32) := ⟨_, rfl⟩
  have hb8 : Below w7.heap.size w7 w8 := by rw [hw8]; exact blw_alloc (Below.refl _ _) _
  have hb68 := blw_trans hb7 hb8
  have HB8 : Hid (Below w.heap.size w w8) := blw_trans HB7.out hb8
  have HX8 : Hid (BoxAt w8 w.heap.size a v1 v2 ∧ BoxAt w8 (w.heap.size + 1) b x1 x2) := ⟨HX6.out.1.later hb68, HX6.out.2.later hb68⟩
  have HY8 : Hid (BoxAt w8 w5.heap.size a (.slice (some ⟨b1, 0, none⟩) a.values.length a.values.length) (.slice (some ⟨b2, 0, none⟩) a.holds.length a.holds.length) ∧ BoxAt w8 w7.heap.size b (.slice (some ⟨d1, 0, none⟩) b.values.length b.values.length) (.slice (some ⟨d2, 0, none⟩) b.holds.length b.holds.length)) := ⟨HY6.out.later hb68, by rw [hw8]; exact BoxAt.new w7 b _ _ 32⟩
  have HI8 : Hid (ShpsIn w8 B4 ss ∧ ObArg w8 b1 b2 a ∧ ObArg w8 d1 d2 b) := ⟨HI6.out.1.later hb68, HI6.out.2.later hb68, ho7.later hb8⟩
  clear hb7 hb8 hb68 ho7 f0 f1 f2 f3 f4 f5 f6 fz g0 g1 g2 g3 g4 g5 g6 gz HX6 HB6 HI6 HB7 HY6
  go_upto_region 15 with fail
  rw [← hw8]
  clear hw8
  have f0 := HY8.out.1.x0
  have f1 := HY8.out.1.x1
  have f2 := HY8.out.1.x2
  have f3 := HY8.out.1.x3
  have f4 := HY8.out.1.x4
  have f5 := HY8.out.1.x5
  have f6 := HY8.out.1.x6
  have fz := HY8.out.1.lt
  have g0 := HY8.out.2.x0
  have g1 := HY8.out.2.x1
  have g2 := HY8.out.2.x2
  have g3 := HY8.out.2.x3
  have g4 := HY8.out.2.x4
  have g5 := HY8.out.2.x5
  have g6 := HY8.out.2.x6
  have gz := HY8.out.2.lt
  have HT9 : Hid (Calls Tryz.prog 9 #[.slice (some ⟨B4, 0, none⟩) ss.length ss.length, .agg #[.string a.kind, .string a.name, .string a.team, .slice (some ⟨b1, 0, none⟩) a.values.length a.values.length, .bool a.ending, .slice (some ⟨b2, 0, none⟩) a.holds.length a.holds.length, .int .i64 a.version], .agg #[.string b.kind, .string b.name, .string b.team, .slice (some ⟨d1, 0, none⟩) b.values.length b.values.length, .bool b.ending, .slice (some ⟨d2, 0, none⟩) b.holds.length b.holds.length, .int .i64 b.version]] w8 fun e w' => e = .returned (.tuple #[.int .i64 (cc : Nat), .int .i64 (cp : Nat)]) ∧ Below w8.heap.size w8 w') := by
    rw [HC.out.1, HC.out.2]
    exact gateTurnedI B4 ss a b b1 _ b2 _ d1 _ d2 _ w8 (HH.out.2.1.later HB8.out) HI8.out.1 HI8.out.2.1 HI8.out.2.2 HZA.out HZB.out
  go_wp2_with fail
  refine HT9.out.mono ?_
  rintro e w9 ⟨rfl, hb9⟩
  have HB9 : Hid (Below w.heap.size w w9) := blw_trans HB8.out hb9
  have HX9 : Hid (BoxAt w9 w.heap.size a v1 v2 ∧ BoxAt w9 (w.heap.size + 1) b x1 x2) := ⟨HX8.out.1.later hb9, HX8.out.2.later hb9⟩
  have HY9 : Hid (BoxAt w9 w5.heap.size a (.slice (some ⟨b1, 0, none⟩) a.values.length a.values.length) (.slice (some ⟨b2, 0, none⟩) a.holds.length a.holds.length) ∧ BoxAt w9 w7.heap.size b (.slice (some ⟨d1, 0, none⟩) b.values.length b.values.length) (.slice (some ⟨d2, 0, none⟩) b.holds.length b.holds.length)) := ⟨HY8.out.1.later hb9, HY8.out.2.later hb9⟩
  have HI9 : Hid (ShpsIn w9 B4 ss ∧ ObArg w9 b1 b2 a ∧ ObArg w9 d1 d2 b) := ⟨HI8.out.1.later hb9, HI8.out.2.1.later hb9, HI8.out.2.2.later hb9⟩
  clear hb9 f0 f1 f2 f3 f4 f5 f6 fz g0 g1 g2 g3 g4 g5 g6 gz HX8 HB8 HI8 HY8 HT9
  go_wp2_with fail
  refine (HT7.out _ HB9.out).mono ?_
  rintro e w10 ⟨B8, rfl, hb10, hi10⟩
  have HB10 : Hid (Below w.heap.size w w10) := blw_trans HB9.out hb10
  have HX10 : Hid (BoxAt w10 w.heap.size a v1 v2 ∧ BoxAt w10 (w.heap.size + 1) b x1 x2) := ⟨HX9.out.1.later hb10, HX9.out.2.later hb10⟩
  have HY10 : Hid (BoxAt w10 w5.heap.size a (.slice (some ⟨b1, 0, none⟩) a.values.length a.values.length) (.slice (some ⟨b2, 0, none⟩) a.holds.length a.holds.length) ∧ BoxAt w10 w7.heap.size b (.slice (some ⟨d1, 0, none⟩) b.values.length b.values.length) (.slice (some ⟨d2, 0, none⟩) b.holds.length b.holds.length)) := ⟨HY9.out.1.later hb10, HY9.out.2.later hb10⟩
  have HI10 : Hid (ShpsIn w10 B4 ss ∧ (ObArg w10 b1 b2 a ∧ ObArg w10 d1 d2 b) ∧ ShpsIn w10 B8 ss) := ⟨HI9.out.1.later hb10, ⟨HI9.out.2.1.later hb10, HI9.out.2.2.later hb10⟩, hi10⟩
  clear hb10 hi10 HX9 HB9 HI9 HY9
  go_wp2_with fail
  refine (eqShapes B4 B8 ss w10 HL.out.1 HL.out.2 HI10.out.1.lt HI10.out.2.2.lt HI10.out.1.at_ HI10.out.2.2.at_).mono ?_
  rintro e w11 ⟨rfl, hb11⟩
  have HB11 : Hid (Below w.heap.size w w11) := blw_trans HB10.out hb11
  have HX11 : Hid (BoxAt w11 w.heap.size a v1 v2 ∧ BoxAt w11 (w.heap.size + 1) b x1 x2) := ⟨HX10.out.1.later hb11, HX10.out.2.later hb11⟩
  have HY11 : Hid (BoxAt w11 w5.heap.size a (.slice (some ⟨b1, 0, none⟩) a.values.length a.values.length) (.slice (some ⟨b2, 0, none⟩) a.holds.length a.holds.length) ∧ BoxAt w11 w7.heap.size b (.slice (some ⟨d1, 0, none⟩) b.values.length b.values.length) (.slice (some ⟨d2, 0, none⟩) b.holds.length b.holds.length)) := ⟨HY10.out.1.later hb11, HY10.out.2.later hb11⟩
  have HI11 : Hid (ObArg w11 b1 b2 a ∧ ObArg w11 d1 d2 b) := ⟨HI10.out.2.1.1.later hb11, HI10.out.2.1.2.later hb11⟩
  clear hb11 HX10 HB10 HI10 HY10
  have LXw11 := HX11.out.1
  have LYw11 := HY11.out.1
  have f0 := LXw11.x0
  have g0 := LYw11.x0
  have f1 := LXw11.x1
  have g1 := LYw11.x1
  have f2 := LXw11.x2
  have g2 := LYw11.x2
  have f3 := LXw11.x3
  have g3 := LYw11.x3
  have f4 := LXw11.x4
  have g4 := LYw11.x4
  have f5 := LXw11.x5
  have g5 := LYw11.x5
  have f6 := LXw11.x6
  have g6 := LYw11.x6
  have fz := LXw11.lt
  have gz := LYw11.lt
  clear LXw11 LYw11
  have HEQ : Hid (∀ W q1 q2, Below w11.heap.size w11 W → ObArg W q1 q2 a → Calls Tryz.prog 11 #[.agg #[.string a.kind, .string a.name, .string a.team, .slice (some ⟨b1, 0, none⟩) a.values.length a.values.length, .bool a.ending, .slice (some ⟨b2, 0, none⟩) a.holds.length a.holds.length, .int .i64 a.version], .agg #[.string a.kind, .string a.name, .string a.team, .slice (some ⟨q1, 0, none⟩) a.values.length a.values.length, .bool a.ending, .slice (some ⟨q2, 0, none⟩) a.holds.length a.holds.length, .int .i64 a.version]] W fun e w' => e = .returned (.bool true) ∧ Below W.heap.size W w') := fun W q1 q2 hW h2 => eqObj a _ _ _ _ W ((HI11.out.1.later hW).texts1 HZA.out.2.1) ((HI11.out.1.later hW).texts2 HZA.out.2.2) (h2.texts1 HZA.out.2.1) (h2.texts2 HZA.out.2.2)
  have HKK : Hid (∀ W, Below w11.heap.size w11 W → BoxAt W w5.heap.size a (.slice (some ⟨b1, 0, none⟩) a.values.length a.values.length) (.slice (some ⟨b2, 0, none⟩) a.holds.length a.holds.length)) := fun W hW => HY11.out.1.later hW
  go_upto_region 20 with fail
  go_cut [70] (fun s wx => s = .bool false ∧ Below w11.heap.size w11 wx)
  case first =>
    go_region_with (first
      | (go_at_call 8; refine (HT8a.out _ ?_).mono ?_; (repeat (first | exact HB11.out | refine Below.drew ?_)); rintro e wB ⟨⟨q1, q2, rfl, hoB⟩, hbB⟩; have kB : Below w11.heap.size w11 wB := blw_trans (by repeat (first | exact Below.refl _ _ | refine Below.drew ?_)) hbB; clear hbB; obtain ⟨jz, j0, j1, j2, j3, j4, j5, j6⟩ := HKK.out wB kB)
      | (go_at_call 11; refine (HEQ.out _ _ _ ?_ ?_).mono ?_; (repeat (first | exact kB | refine Below.drew ?_)); exact hoB.later (by repeat (first | exact Below.refl _ _ | refine Below.drew ?_)); rintro e wC ⟨rfl, hbC⟩; have kC : Below w11.heap.size w11 wC := blw_trans (by repeat (first | exact kB | refine Below.drew ?_)) hbC; clear hbC))
    all_goals
      go_wp2_with fail
      go_meet
      refine ⟨rfl, ?_⟩
      repeat (first | exact kC | refine Below.drew ?_)
  case rest =>
  obtain ⟨rfl, hbx⟩ := hcut
  rename World => w12
  have HB12 : Hid (Below w.heap.size w w12) := blw_trans HB11.out hbx
  have HX12 : Hid (BoxAt w12 w.heap.size a v1 v2 ∧ BoxAt w12 (w.heap.size + 1) b x1 x2) := ⟨HX11.out.1.later hbx, HX11.out.2.later hbx⟩
  have HY12 : Hid (BoxAt w12 w5.heap.size a (.slice (some ⟨b1, 0, none⟩) a.values.length a.values.length) (.slice (some ⟨b2, 0, none⟩) a.holds.length a.holds.length) ∧ BoxAt w12 w7.heap.size b (.slice (some ⟨d1, 0, none⟩) b.values.length b.values.length) (.slice (some ⟨d2, 0, none⟩) b.holds.length b.holds.length)) := ⟨HY11.out.1.later hbx, HY11.out.2.later hbx⟩
  have HI12 : Hid (ObArg w12 b1 b2 a ∧ ObArg w12 d1 d2 b) := ⟨HI11.out.1.later hbx, HI11.out.2.later hbx⟩
  clear hbx f0 f1 f2 f3 f4 f5 f6 fz g0 g1 g2 g3 g4 g5 g6 gz HX11 HY11 HI11 HB11 HEQ HKK
  have LXw12 := HX12.out.2
  have LYw12 := HY12.out.2
  have f0 := LXw12.x0
  have g0 := LYw12.x0
  have f1 := LXw12.x1
  have g1 := LYw12.x1
  have f2 := LXw12.x2
  have g2 := LYw12.x2
  have f3 := LXw12.x3
  have g3 := LYw12.x3
  have f4 := LXw12.x4
  have g4 := LYw12.x4
  have f5 := LXw12.x5
  have g5 := LYw12.x5
  have f6 := LXw12.x6
  have g6 := LYw12.x6
  have fz := LXw12.lt
  have gz := LYw12.lt
  clear LXw12 LYw12
  have HEQ : Hid (∀ W q1 q2, Below w12.heap.size w12 W → ObArg W q1 q2 b → Calls Tryz.prog 11 #[.agg #[.string b.kind, .string b.name, .string b.team, .slice (some ⟨d1, 0, none⟩) b.values.length b.values.length, .bool b.ending, .slice (some ⟨d2, 0, none⟩) b.holds.length b.holds.length, .int .i64 b.version], .agg #[.string b.kind, .string b.name, .string b.team, .slice (some ⟨q1, 0, none⟩) b.values.length b.values.length, .bool b.ending, .slice (some ⟨q2, 0, none⟩) b.holds.length b.holds.length, .int .i64 b.version]] W fun e w' => e = .returned (.bool true) ∧ Below W.heap.size W w') := fun W q1 q2 hW h2 => eqObj b _ _ _ _ W ((HI12.out.2.later hW).texts1 HZB.out.2.1) ((HI12.out.2.later hW).texts2 HZB.out.2.2) (h2.texts1 HZB.out.2.1) (h2.texts2 HZB.out.2.2)
  have HKK : Hid (∀ W, Below w12.heap.size w12 W → BoxAt W w7.heap.size b (.slice (some ⟨d1, 0, none⟩) b.values.length b.values.length) (.slice (some ⟨d2, 0, none⟩) b.holds.length b.holds.length)) := fun W hW => HY12.out.2.later hW
  go_upto_region 22 with fail
  go_cut [75] (fun s wx => s = .bool false ∧ Below w12.heap.size w12 wx)
  case first =>
    go_region_with (first
      | (go_at_call 8; refine (HT8b.out _ ?_).mono ?_; (repeat (first | exact HB12.out | refine Below.drew ?_)); rintro e wB ⟨⟨q1, q2, rfl, hoB⟩, hbB⟩; have kB : Below w12.heap.size w12 wB := blw_trans (by repeat (first | exact Below.refl _ _ | refine Below.drew ?_)) hbB; clear hbB; obtain ⟨jz, j0, j1, j2, j3, j4, j5, j6⟩ := HKK.out wB kB)
      | (go_at_call 11; refine (HEQ.out _ _ _ ?_ ?_).mono ?_; (repeat (first | exact kB | refine Below.drew ?_)); exact hoB.later (by repeat (first | exact Below.refl _ _ | refine Below.drew ?_)); rintro e wC ⟨rfl, hbC⟩; have kC : Below w12.heap.size w12 wC := blw_trans (by repeat (first | exact kB | refine Below.drew ?_)) hbC; clear hbC))
    all_goals
      go_wp2_with fail
      go_meet
      refine ⟨rfl, ?_⟩
      repeat (first | exact kC | refine Below.drew ?_)
  case rest =>
  obtain ⟨rfl, hbx⟩ := hcut
  rename World => w13
  have hB13 := blw_trans HB12.out hbx
  go_wp2
  go_ret
  exact ⟨rfl, hB13⟩

end Go.Proofs.YtfbehiagmanflaaGreatDoor
