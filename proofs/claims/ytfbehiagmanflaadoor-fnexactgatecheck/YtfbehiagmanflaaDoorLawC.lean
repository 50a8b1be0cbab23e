/-
  The walk over the law of GateCheck.
-/
import Derived.Test.YtfbehiagmanflaaDoorWalkCE
import Derived.Test.YtfbehiagmanflaaDoorWalkM
import Derived.Test.YtfbehiagmanflaaDoorWalkP
namespace Go.Proofs.YtfbehiagmanflaaDoor
open Go.RowKit Go.Deep

/-- An object in the block p. -/
structure BoxAt (W : World) (p : Nat) (o : Ob) (v1 v2 : Value) : Prop where
  lt : p < W.heap.size
  x0 : W.cell? ⟨p, 0, none⟩ = some (.string o.kind)
  x1 : W.cell? ⟨p, 1, none⟩ = some (.string o.name)
  x2 : W.cell? ⟨p, 2, none⟩ = some (.string o.team)
  x3 : W.cell? ⟨p, 3, none⟩ = some v1
  x4 : W.cell? ⟨p, 4, none⟩ = some (.bool o.ending)
  x5 : W.cell? ⟨p, 5, none⟩ = some v2
  x6 : W.cell? ⟨p, 6, none⟩ = some (.int .i64 o.version)

theorem BoxAt.later {W W' : World} {p : Nat} {o : Ob} {v1 v2 : Value} (h : BoxAt W p o v1 v2) (hb : Below W.heap.size W W') : BoxAt W' p o v1 v2 := by
  have c : ∀ j, W'.cell? ⟨p, j, none⟩ = W.cell? ⟨p, j, none⟩ := fun j => hb.cell (p := ⟨p, j, none⟩) h.lt
  exact ⟨Nat.lt_of_lt_of_le h.lt hb.size, (c 0).trans h.x0, (c 1).trans h.x1, (c 2).trans h.x2, (c 3).trans h.x3, (c 4).trans h.x4, (c 5).trans h.x5, (c 6).trans h.x6⟩
theorem BoxAt.new (W : World) (o : Ob) (v1 v2 : Value) (t : TypeId) : BoxAt (W.alloc (.cells #[.string o.kind, .string o.name, .string o.team, v1, .bool o.ending, v2, .int .i64 o.version] t)) W.heap.size o v1 v2 :=
  ⟨by simp, by simp, by simp, by simp, by simp, by simp, by simp, by simp⟩

theorem ObArg.texts1 {w : World} {b1 b2 : Nat} {o : Ob} (h : ObArg w b1 b2 o) (hz : ∀ i, i < o.values.length → (o.values.getD i ByteArray.empty).size ≤ maxLen) : Texts w (.slice (some ⟨b1, 0, none⟩) o.values.length o.values.length) o.values :=
  Or.inr ⟨b1, 0, _, rfl, h.lt1, hz, by have := h.len1; unfold maxLen; omega, fun i hi => by rw [Nat.zero_add]; exact h.at1 i hi⟩
theorem ObArg.texts2 {w : World} {b1 b2 : Nat} {o : Ob} (h : ObArg w b1 b2 o) (hz : ∀ i, i < o.holds.length → (o.holds.getD i ByteArray.empty).size ≤ maxLen) : Texts w (.slice (some ⟨b2, 0, none⟩) o.holds.length o.holds.length) o.holds :=
  Or.inr ⟨b2, 0, _, rfl, h.lt2, hz, by have := h.len2; unfold maxLen; omega, fun i hi => by rw [Nat.zero_add]; exact h.at2 i hi⟩

set_option maxRecDepth 8000 in
set_option maxHeartbeats 40000000 in
theorem lawCheck (v : Value) (ss : List Shp) (o : Ob) (v1 v2 : Value) (w : World) (hh : Handle w) (h : ShpsAt w v ss) (t1 : Texts w v1 o.values) (t2 : Texts w v2 o.holds) (hsz : o.sized) :
    Calls Tryd.prog 3 #[v, .agg #[.string o.kind, .string o.name, .string o.team, v1, .bool o.ending, v2, .int .i64 o.version]] w fun e w' => e = .returned (.bool true) ∧ Below w.heap.size w w' := by
  have HH : Hid (ShpsAt w v ss ∧ Texts w v1 o.values ∧ Texts w v2 o.holds ∧ Handle w) := ⟨h, t1, t2, hh⟩
  have HZ : Hid (o.sized ∧ (∀ i, i < o.values.length → (o.values.getD i ByteArray.empty).size ≤ maxLen) ∧ (∀ i, i < o.holds.length → (o.holds.getD i ByteArray.empty).size ≤ maxLen)) := ⟨hsz, t1.sizes, t2.sizes⟩
  clear h t1 t2 hsz hh
  obtain ⟨w0, hw0⟩ : ∃ w0, w0 = w.alloc (.cells #[.string o.kind, .string o.name, .string o.team, v1, .bool o.ending, v2, .int .i64 o.version] 25) := ⟨_, rfl⟩
  have HB0 : Hid (Below w.heap.size w w0) := by show Below _ _ _; rw [hw0]; exact blw_alloc (Below.refl _ _) _
  have HX0 : Hid (BoxAt w0 w.heap.size o v1 v2) := by show BoxAt _ _ _ _ _; rw [hw0]; exact BoxAt.new w o v1 v2 25
  go_enter Tryd.func3, Tryd.ntmps3
  go_upto_region 1 with fail
  rw [← hw0]
  clear hw0
  go_wp2_with fail
  refine (szShapes v ss 1048576 w0 (by omega) (by omega) (HH.out.1.later HB0.out)).mono ?_
  rintro e w1 ⟨⟨r, rfl, hr⟩, hb1⟩
  have HR : Hid (szP (((ss.length : Int) ≤ 1048576) ∧ ∀ s ∈ ss, s.small) 1048576 r) := hr
  have hr1 : r ≤ 1048576 := hr.2.1
  have HB1 : Hid (Below w.heap.size w w1) := blw_trans HB0.out hb1
  have HX1 : Hid (BoxAt w1 w.heap.size o v1 v2) := HX0.out.later hb1
  clear hr hb1 HX0 HB0
  by_cases c1 : r < 0
  · go_wp2
    go_ret
    exact ⟨rfl, HB1.out⟩
  have HL : Hid (ss.length ≤ 1048576 ∧ ∀ s ∈ ss, s.small) := by have := HR.out.2.2 (by omega); exact ⟨by omega, this.2⟩
  clear HR
  have f0 := HX1.out.x0
  have f1 := HX1.out.x1
  have f2 := HX1.out.x2
  have f3 := HX1.out.x3
  have f4 := HX1.out.x4
  have f5 := HX1.out.x5
  have f6 := HX1.out.x6
  have fz := HX1.out.lt
  go_wp2_with fail
  refine (szObj o v1 v2 r w1 (by omega) hr1 (HH.out.2.1.later HB1.out) (HH.out.2.2.1.later HB1.out) HZ.out.1).mono ?_
  rintro e w2 ⟨⟨r2, rfl, hr2⟩, hb2⟩
  have HR2 : Hid (szP (o.values.length ≤ 1048576 ∧ o.holds.length ≤ 1048576) r r2) := hr2
  have HB2 : Hid (Below w.heap.size w w2) := blw_trans HB1.out hb2
  have HX2 : Hid (BoxAt w2 w.heap.size o v1 v2) := HX1.out.later hb2
  clear hr2 hb2 f0 f1 f2 f3 f4 f5 f6 fz HX1 HB1
  by_cases c2 : r2 < 0
  · go_wp2
    go_ret
    exact ⟨rfl, HB2.out⟩
  have HLO : Hid (o.values.length ≤ 1048576 ∧ o.holds.length ≤ 1048576) := HR2.out.2.2 (by omega)
  clear HR2
  have HT7 : Hid (∀ W, Below w.heap.size w W → Calls Tryd.prog 7 #[v] W fun e w' => ∃ BA, e = .returned (.slice (some ⟨BA, 0, none⟩) ss.length ss.length) ∧ Below W.heap.size W w' ∧ ShpsIn w' BA ss) := by
    intro W hW
    refine (toShapes v ss W HL.out.1 HL.out.2 (HH.out.1.later hW)).mono ?_
    rintro e w' ⟨rfl, h1, h2, h3⟩
    exact ⟨_, rfl, h1, ⟨h2.lt, HL.out.1, HL.out.2, h3, h2⟩⟩
  have HT8 : Hid (∀ W, Below w.heap.size w W → Calls Tryd.prog 8 #[.agg #[.string o.kind, .string o.name, .string o.team, v1, .bool o.ending, v2, .int .i64 o.version]] W fun e w' => (∃ b1 b2, e = .returned (.agg #[.string o.kind, .string o.name, .string o.team, .slice (some ⟨b1, 0, none⟩) o.values.length o.values.length, .bool o.ending, .slice (some ⟨b2, 0, none⟩) o.holds.length o.holds.length, .int .i64 o.version]) ∧ ObArg w' b1 b2 o) ∧ Below W.heap.size W w') := by
    intro W hW
    refine (toObj o v1 v2 W HLO.out.1 HLO.out.2 (HH.out.2.1.later hW) (HH.out.2.2.1.later hW)).mono ?_
    rintro e w' ⟨⟨b1, b2, rfl, h1, _⟩, hb⟩
    exact ⟨⟨b1, b2, rfl, h1⟩, hb⟩
  have HT6 : Hid (∀ W BA b1 b2, ShpsIn W BA ss → ObArg W b1 b2 o → Calls Tryd.prog 6 #[.slice (some ⟨BA, 0, none⟩) ss.length ss.length, .agg #[.string o.kind, .string o.name, .string o.team, .slice (some ⟨b1, 0, none⟩) o.values.length o.values.length, .bool o.ending, .slice (some ⟨b2, 0, none⟩) o.holds.length o.holds.length, .int .i64 o.version]] W fun e w' => e = .returned (.tuple #[.int .i64 (chCode ss o : Nat), .int .i64 (chPlace ss o : Nat)]) ∧ Below W.heap.size W w') := fun W BA b1 b2 h1 h2 => gateCheckS BA ss o b1 _ b2 _ W h1 h2 HZ.out.1 HZ.out.2.1 HZ.out.2.2
  obtain ⟨cc, hcc⟩ : ∃ cc, cc = chCode ss o := ⟨_, rfl⟩
  obtain ⟨cp, hcp⟩ : ∃ cp, cp = chPlace ss o := ⟨_, rfl⟩
  have HC : Hid (cc = chCode ss o ∧ cp = chPlace ss o) := ⟨hcc, hcp⟩
  rw [← hcc, ← hcp] at HT6
  clear hcc hcp
  have f0 := HX2.out.x0
  have f1 := HX2.out.x1
  have f2 := HX2.out.x2
  have f3 := HX2.out.x3
  have f4 := HX2.out.x4
  have f5 := HX2.out.x5
  have f6 := HX2.out.x6
  have fz := HX2.out.lt
  go_upto_region 8 with fail
  go_cut [6, 7] (fun s6 s7 wx => s6 = .int .i64 (cc : Nat) ∧ s7 = .int .i64 (cp : Nat) ∧ Below w2.heap.size w2 wx)
  case first =>
    have HXl : Hid (∀ W, Below w2.heap.size w2 W → BoxAt W w.heap.size o v1 v2) := fun W hW => HX2.out.later hW
    go_region_with (first
      | (go_at_call 7; refine (HT7.out _ ?_).mono ?_; (repeat (first | exact HB2.out | refine Below.drew ?_)); rintro e wA ⟨BA, rfl, hbA, hiA⟩; have kA : Below w2.heap.size w2 wA := blw_trans (by repeat (first | exact Below.refl _ _ | refine Below.drew ?_)) hbA; clear hbA; obtain ⟨gz, g0, g1, g2, g3, g4, g5, g6⟩ := HXl.out wA kA)
      | (go_at_call 8; refine (HT8.out _ ?_).mono ?_; (repeat (first | exact blw_trans HB2.out kA | refine Below.drew ?_)); rintro e wB ⟨⟨b1, b2, rfl, hoB⟩, hbB⟩; have kB : Below w2.heap.size w2 wB := blw_trans (by repeat (first | exact kA | refine Below.drew ?_)) hbB; have hiB : ShpsIn wB BA ss := hiA.later (blw_trans (by repeat (first | exact Below.refl _ _ | refine Below.drew ?_)) hbB); clear hbB)
      | (go_at_call 6; refine (HT6.out _ _ _ _ ?_ ?_).mono ?_; exact hiB.later (by repeat (first | exact Below.refl _ _ | refine Below.drew ?_)); exact hoB.later (by repeat (first | exact Below.refl _ _ | refine Below.drew ?_)); rintro e wC ⟨rfl, hbC⟩; have kC : Below w2.heap.size w2 wC := blw_trans (by repeat (first | exact kB | refine Below.drew ?_)) hbC; clear hbC))
    all_goals
      go_wp2_with fail
      go_meet
      refine ⟨rfl, rfl, ?_⟩
      repeat (first | exact kC | refine Below.drew ?_)
  case rest =>
  obtain ⟨rfl, rfl, hb3⟩ := hcut
  rename World => w3
  have HB3 : Hid (Below w.heap.size w w3) := blw_trans HB2.out hb3
  have HX3 : Hid (BoxAt w3 w.heap.size o v1 v2) := HX2.out.later hb3
  clear hb3 f0 f1 f2 f3 f4 f5 f6 fz HX2 HB2 HT6
  go_wp2_with fail
  refine (HT7.out _ HB3.out).mono ?_
  rintro e w4 ⟨B4, rfl, hb4, hi4⟩
  have HB4 : Hid (Below w.heap.size w w4) := blw_trans HB3.out hb4
  have HX4 : Hid (BoxAt w4 w.heap.size o v1 v2) := HX3.out.later hb4
  have HI4 : Hid (ShpsIn w4 B4 ss) := hi4
  clear hb4 hi4 HX3 HB3
  have f0 := HX4.out.x0
  have f1 := HX4.out.x1
  have f2 := HX4.out.x2
  have f3 := HX4.out.x3
  have f4 := HX4.out.x4
  have f5 := HX4.out.x5
  have f6 := HX4.out.x6
  have fz := HX4.out.lt
  go_wp2_with fail
  refine (HT8.out _ HB4.out).mono ?_
  rintro e w5 ⟨⟨b1, b2, rfl, ho5⟩, hb5⟩
  have HB5 : Hid (Below w.heap.size w w5) := blw_trans HB4.out hb5
  obtain ⟨w6, hw6⟩ : ∃ w6, w6 = w5.alloc (.cells #[.string o.kind, .string o.name, .string o.team, .slice (some ⟨b1, 0, none⟩) o.values.length o.values.length, .bool o.ending, .slice (some ⟨b2, 0, none⟩) o.holds.length o.holds.length, .int .i64 o.version] 32) := ⟨_, rfl⟩
  have hb6 : Below w5.heap.size w5 w6 := by rw [hw6]; exact blw_alloc (Below.refl _ _) _
  have HB6 : Hid (Below w.heap.size w w6) := blw_trans HB5.out hb6
  have HX6 : Hid (BoxAt w6 w.heap.size o v1 v2) := (HX4.out.later hb5).later hb6
  have HY6 : Hid (BoxAt w6 w5.heap.size o (.slice (some ⟨b1, 0, none⟩) o.values.length o.values.length) (.slice (some ⟨b2, 0, none⟩) o.holds.length o.holds.length)) := by show BoxAt _ _ _ _ _; rw [hw6]; exact BoxAt.new w5 o _ _ 32
  have HI6 : Hid (ShpsIn w6 B4 ss ∧ ObArg w6 b1 b2 o) := ⟨(HI4.out.later hb5).later hb6, ho5.later hb6⟩
  clear hb5 ho5 hb6 f0 f1 f2 f3 f4 f5 f6 fz HX4 HB4 HI4 HB5
  go_upto_region 11 with fail
  rw [← hw6]
  clear hw6
  have g0 := HY6.out.x0
  have g1 := HY6.out.x1
  have g2 := HY6.out.x2
  have g3 := HY6.out.x3
  have g4 := HY6.out.x4
  have g5 := HY6.out.x5
  have g6 := HY6.out.x6
  have gz := HY6.out.lt
  have HT9 : Hid (Calls Tryd.prog 9 #[.slice (some ⟨B4, 0, none⟩) ss.length ss.length, .agg #[.string o.kind, .string o.name, .string o.team, .slice (some ⟨b1, 0, none⟩) o.values.length o.values.length, .bool o.ending, .slice (some ⟨b2, 0, none⟩) o.holds.length o.holds.length, .int .i64 o.version]] w6 fun e w' => e = .returned (.tuple #[.int .i64 (cc : Nat), .int .i64 (cp : Nat)]) ∧ Below w6.heap.size w6 w') := by
    rw [HC.out.1, HC.out.2]
    exact gateCheckI B4 ss o b1 _ b2 _ w6 (HH.out.2.2.2.later HB6.out) HI6.out.1 HI6.out.2 HZ.out.1 HZ.out.2.1 HZ.out.2.2
  go_wp2_with fail
  refine HT9.out.mono ?_
  rintro e w7 ⟨rfl, hb7⟩
  have HB7 : Hid (Below w.heap.size w w7) := blw_trans HB6.out hb7
  have HX7 : Hid (BoxAt w7 w.heap.size o v1 v2) := HX6.out.later hb7
  have HY7 : Hid (BoxAt w7 w5.heap.size o (.slice (some ⟨b1, 0, none⟩) o.values.length o.values.length) (.slice (some ⟨b2, 0, none⟩) o.holds.length o.holds.length)) := HY6.out.later hb7
  have HI7 : Hid (ShpsIn w7 B4 ss ∧ ObArg w7 b1 b2 o) := ⟨HI6.out.1.later hb7, HI6.out.2.later hb7⟩
  clear hb7 g0 g1 g2 g3 g4 g5 g6 gz HX6 HB6 HI6 HY6 HT9
  go_wp2_with fail
  refine (HT7.out _ HB7.out).mono ?_
  rintro e w8 ⟨B8, rfl, hb8, hi8⟩
  have HB8 : Hid (Below w.heap.size w w8) := blw_trans HB7.out hb8
  have HX8 : Hid (BoxAt w8 w.heap.size o v1 v2) := HX7.out.later hb8
  have HY8 : Hid (BoxAt w8 w5.heap.size o (.slice (some ⟨b1, 0, none⟩) o.values.length o.values.length) (.slice (some ⟨b2, 0, none⟩) o.holds.length o.holds.length)) := HY7.out.later hb8
  have HI8 : Hid (ShpsIn w8 B4 ss ∧ ObArg w8 b1 b2 o ∧ ShpsIn w8 B8 ss) := ⟨HI7.out.1.later hb8, HI7.out.2.later hb8, hi8⟩
  clear hb8 hi8 HX7 HB7 HI7 HY7
  go_wp2_with fail
  refine (eqShapes B4 B8 ss w8 HL.out.1 HL.out.2 HI8.out.1.lt HI8.out.2.2.lt HI8.out.1.at_ HI8.out.2.2.at_).mono ?_
  rintro e w9 ⟨rfl, hb9⟩
  have HB9 : Hid (Below w.heap.size w w9) := blw_trans HB8.out hb9
  have HX9 : Hid (BoxAt w9 w.heap.size o v1 v2) := HX8.out.later hb9
  have HY9 : Hid (BoxAt w9 w5.heap.size o (.slice (some ⟨b1, 0, none⟩) o.values.length o.values.length) (.slice (some ⟨b2, 0, none⟩) o.holds.length o.holds.length)) := HY8.out.later hb9
  have HI9 : Hid (ObArg w9 b1 b2 o) := HI8.out.2.1.later hb9
  clear hb9 HX8 HB8 HI8 HY8
  have f0 := HX9.out.x0
  have f1 := HX9.out.x1
  have f2 := HX9.out.x2
  have f3 := HX9.out.x3
  have f4 := HX9.out.x4
  have f5 := HX9.out.x5
  have f6 := HX9.out.x6
  have fz := HX9.out.lt
  have g0 := HY9.out.x0
  have g1 := HY9.out.x1
  have g2 := HY9.out.x2
  have g3 := HY9.out.x3
  have g4 := HY9.out.x4
  have g5 := HY9.out.x5
  have g6 := HY9.out.x6
  have gz := HY9.out.lt
  have HEQ : Hid (∀ W q1 q2, Below w9.heap.size w9 W → ObArg W q1 q2 o → Calls Tryd.prog 11 #[.agg #[.string o.kind, .string o.name, .string o.team, .slice (some ⟨b1, 0, none⟩) o.values.length o.values.length, .bool o.ending, .slice (some ⟨b2, 0, none⟩) o.holds.length o.holds.length, .int .i64 o.version], .agg #[.string o.kind, .string o.name, .string o.team, .slice (some ⟨q1, 0, none⟩) o.values.length o.values.length, .bool o.ending, .slice (some ⟨q2, 0, none⟩) o.holds.length o.holds.length, .int .i64 o.version]] W fun e w' => e = .returned (.bool true) ∧ Below W.heap.size W w') := fun W q1 q2 hW h2 => eqObj o _ _ _ _ W ((HI9.out.later hW).texts1 HZ.out.2.1) ((HI9.out.later hW).texts2 HZ.out.2.2) (h2.texts1 HZ.out.2.1) (h2.texts2 HZ.out.2.2)
  have HKK : Hid (∀ W, Below w9.heap.size w9 W → BoxAt W w5.heap.size o (.slice (some ⟨b1, 0, none⟩) o.values.length o.values.length) (.slice (some ⟨b2, 0, none⟩) o.holds.length o.holds.length)) := fun W hW => HY9.out.later hW
  go_upto_region 16 with fail
  go_cut [57] (fun s57 wx => s57 = .bool false ∧ Below w9.heap.size w9 wx)
  case first =>
    go_region_with (first
      | (go_at_call 8; refine (HT8.out _ ?_).mono ?_; (repeat (first | exact HB9.out | refine Below.drew ?_)); rintro e wB ⟨⟨q1, q2, rfl, hoB⟩, hbB⟩; have kB : Below w9.heap.size w9 wB := blw_trans (by repeat (first | exact Below.refl _ _ | refine Below.drew ?_)) hbB; clear hbB; obtain ⟨jz, j0, j1, j2, j3, j4, j5, j6⟩ := HKK.out wB kB)
      | (go_at_call 11; refine (HEQ.out _ _ _ ?_ ?_).mono ?_; (repeat (first | exact kB | refine Below.drew ?_)); exact hoB.later (by repeat (first | exact Below.refl _ _ | refine Below.drew ?_)); rintro e wC ⟨rfl, hbC⟩; have kC : Below w9.heap.size w9 wC := blw_trans (by repeat (first | exact kB | refine Below.drew ?_)) hbC; clear hbC))
    all_goals
      go_wp2_with fail
      go_meet
      refine ⟨rfl, ?_⟩
      repeat (first | exact kC | refine Below.drew ?_)
  case rest =>
  obtain ⟨rfl, hb10⟩ := hcut
  rename World => w10
  have hB10 := blw_trans HB9.out hb10
  go_wp2
  go_ret
  exact ⟨rfl, hB10⟩

end Go.Proofs.YtfbehiagmanflaaDoor
