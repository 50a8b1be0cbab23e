/-
  The walk over the law of GateFill.
-/
import Derived.Test.YthilfmlfmnoikaaLawJ
import Derived.Test.YthilfmlfmnoikaaWalkM
import Derived.Deep.DeepCutAuto
namespace Go.Proofs.Ythilfmlfmnoikaa
open Go.RowKit Go.Deep

set_option maxRecDepth 8000 in
set_option maxHeartbeats 40000000 in
theorem lawFill (v : Value) (ss : List Shp) (o : Ob) (v1 v2 : Value) (w : World) (h : ShpsAt w v ss) (t1 : Texts w v1 o.values) (t2 : Texts w v2 o.holds) (hsz : o.sized) :
    Calls Try.prog 3 #[v, .agg #[.string o.kind, .string o.name, .string o.team, v1, .bool o.ending, v2, .int .i64 o.version]] w fun e w' => e = .returned (.bool true) ∧ Below w.heap.size w w' := by
  have HH : Hid (ShpsAt w v ss ∧ Texts w v1 o.values ∧ Texts w v2 o.holds) := ⟨h, t1, t2⟩
  have HZ : Hid (o.sized) := hsz
  clear h t1 t2 hsz
  have HB0 : Hid (Below w.heap.size w (w.alloc (.cells #[.string o.kind, .string o.name, .string o.team, v1, .bool o.ending, v2, .int .i64 o.version] 25))) := blw_alloc (Below.refl _ _) _
  have HX0 : Hid (BoxAt (w.alloc (.cells #[.string o.kind, .string o.name, .string o.team, v1, .bool o.ending, v2, .int .i64 o.version] 25)) w.heap.size o v1 v2) := BoxAt.new w o v1 v2 25
  go_enter Try.func3, Try.ntmps3
  go_wp2_with fail
  refine (szShapes v ss 1048576 _ (by omega) (by omega) (HH.out.1.later HB0.out)).mono ?_
  rintro e w1 ⟨⟨r, rfl, hr⟩, hb1⟩
  have HR : Hid (szP (((ss.length : Int) ≤ 1048576) ∧ ∀ s ∈ ss, s.small) 1048576 r) := hr
  have hr1 : r ≤ 1048576 := hr.2.1
  have HB1 : Hid (Below w.heap.size w w1) := blw_trans HB0.out hb1
  have HX1 : Hid (BoxAt w1 w.heap.size o v1 v2) := HX0.out.later hb1
  clear hr hb1 HX0 HB0
  by_cases c1 : r < 0
  · go_wp2
    go_ret
    exact ⟨rfl, HB1.out⟩
  have HL : Hid (ss.length ≤ 1048576 ∧ ∀ s ∈ ss, s.small) := by have := HR.out.2.2 (by omega); exact ⟨by omega, this.2⟩
  have z1 := HX1.out.lt
  have f0 := HX1.out.x0
  have f1 := HX1.out.x1
  have f2 := HX1.out.x2
  have f3 := HX1.out.x3
  have f4 := HX1.out.x4
  have f5 := HX1.out.x5
  have f6 := HX1.out.x6
  clear HR
  go_wp2_with fail
  refine (szObj o v1 v2 r _ (by omega) hr1 (HH.out.2.1.later HB1.out) (HH.out.2.2.later HB1.out) HZ.out).mono ?_
  rintro e w2 ⟨⟨r2, rfl, hr2⟩, hb2⟩
  have HR2 : Hid (szP (o.values.length ≤ 1048576 ∧ o.holds.length ≤ 1048576) r r2) := hr2
  have HB2 : Hid (Below w.heap.size w w2) := blw_trans HB1.out hb2
  have HX2 : Hid (BoxAt w2 w.heap.size o v1 v2) := HX1.out.later hb2
  clear hr2 hb2 f0 f1 f2 f3 f4 f5 f6 z1 HX1 HB1
  by_cases c2 : r2 < 0
  · go_wp2
    go_ret
    exact ⟨rfl, HB2.out⟩
  have HLO : Hid (o.values.length ≤ 1048576 ∧ o.holds.length ≤ 1048576) := HR2.out.2.2 (by omega)
  clear HR2
  have HT13 : Hid (∀ W, Below w.heap.size w W → Calls Try.prog 7 #[v] W fun e w' => e = .returned (.slice (some ⟨W.heap.size, 0, none⟩) ss.length ss.length) ∧ Below W.heap.size W w' ∧ ShpsIn w' W.heap.size ss) := by
    intro W hW
    refine (toShapes v ss W HL.out.1 HL.out.2 (HH.out.1.later hW)).mono ?_
    rintro e w' ⟨rfl, h1, h2, h3⟩
    exact ⟨rfl, h1, ⟨h2.lt, HL.out.1, HL.out.2, h3, h2⟩⟩
  have HT18 : Hid (∀ W, Below w.heap.size w W → Calls Try.prog 8 #[.agg #[.string o.kind, .string o.name, .string o.team, v1, .bool o.ending, v2, .int .i64 o.version]] W fun e w' => (∃ b1 b2, e = .returned (.agg #[.string o.kind, .string o.name, .string o.team, .slice (some ⟨b1, 0, none⟩) o.values.length o.values.length, .bool o.ending, .slice (some ⟨b2, 0, none⟩) o.holds.length o.holds.length, .int .i64 o.version]) ∧ ObArg w' b1 b2 o ∧ OwnBlk w' b1 9 o.values.length ∧ OwnBlk w' b2 9 o.holds.length ∧ W.heap.size ≤ b1 ∧ b1 < b2) ∧ Below W.heap.size W w') := fun W hW => toObj o v1 v2 W HLO.out.1 HLO.out.2 (HH.out.2.1.later hW) (HH.out.2.2.later hW)
  have z2 := HX2.out.lt
  have f0 := HX2.out.x0
  have f1 := HX2.out.x1
  have f2 := HX2.out.x2
  have f3 := HX2.out.x3
  have f4 := HX2.out.x4
  have f5 := HX2.out.x5
  have f6 := HX2.out.x6
  have HK : Hid (∀ (W W' : World), Below w2.heap.size w2 W → Below W.heap.size W W' → Below w2.heap.size w2 W' ∧ BoxAt W' w.heap.size o v1 v2 ∧ w2.heap.size ≤ W.heap.size) := fun W W' h1 h2 => ⟨blw_trans h1 h2, HX2.out.later (blw_trans h1 h2), h1.size⟩
  have hsv : Hid (∀ i, i < o.values.length → (o.values.getD i ByteArray.empty).size ≤ maxLen) := HH.out.2.1.sizes
  have hsh : Hid (∀ i, i < o.holds.length → (o.holds.getD i ByteArray.empty).size ≤ maxLen) := HH.out.2.2.sizes
  have HTx : Hid (∀ W, Below w.heap.size w W → Calls Try.prog 7 #[v] W fun e w' => ∃ BA, e = .returned (.slice (some ⟨BA, 0, none⟩) ss.length ss.length) ∧ Below W.heap.size W w' ∧ ShpsIn w' BA ss) := by
    intro W hW
    refine (HT13.out W hW).mono ?_
    rintro e w' ⟨rfl, h1, h2⟩
    exact ⟨_, rfl, h1, h2⟩
  go_upto_region 8 with fail
  go_cut [6] (fun s6 wx => ∃ p6 a1 n1 d1 a2 n2 d2, s6 = .pointer (some ⟨p6, 0, none⟩) ∧ St w wx o v1 v2 wx.heap.size p6 (fillOb ss o).values (.slice a1 n1 d1) (.slice a2 n2 d2))
  case first =>
    go_region_with (first
      | (go_at_call 7; refine (HTx.out _ ?_).mono ?_; (repeat (first | exact (blw_trans HB2.out kB) | exact HB2.out | refine Below.drew ?_ | refine blw_alloc ?_ _)); rintro e wA ⟨BA, rfl, hbA, hiA⟩; obtain ⟨kA, xA, _⟩ := HK.out _ wA (by repeat (first | exact kB | exact Below.refl _ _ | refine Below.drew ?_ | refine blw_alloc ?_ _)) hbA; (try have lB : Below wB.heap.size wB wA := blw_trans (by repeat (first | exact Below.refl _ _ | refine Below.drew ?_ | refine blw_alloc ?_ _)) hbA); (try have oA0 : OwnBlk wA w2.heap.size 28 7 := OwnBlk.later (by first | exact oB0 | exact OwnBlk.alloc w2 _ 28 7 rfl) hbA); (try have oA1 : OwnBlk wA wB.heap.size 28 7 := OwnBlk.later (by exact OwnBlk.alloc wB _ 28 7 rfl) hbA); clear hbA; obtain ⟨zA, gA0, gA1, gA2, gA3, gA4, gA5, gA6⟩ := xA)
      | (go_at_call 8; refine (HT18.out _ ?_).mono ?_; (repeat (first | exact (blw_trans HB2.out kA) | exact HB2.out | refine Below.drew ?_ | refine blw_alloc ?_ _)); rintro e wB ⟨⟨q1, q2, rfl, hoB, _, _, _, _⟩, hbB⟩; obtain ⟨kB, xB, _⟩ := HK.out _ wB (by repeat (first | exact kA | exact Below.refl _ _ | refine Below.drew ?_ | refine blw_alloc ?_ _)) hbB; (try have lA : Below wA.heap.size wA wB := blw_trans (by repeat (first | exact Below.refl _ _ | refine Below.drew ?_ | refine blw_alloc ?_ _)) hbB); (try have oB0 : OwnBlk wB w2.heap.size 28 7 := OwnBlk.later (by first | exact oA0 | exact OwnBlk.alloc w2 _ 28 7 rfl) hbB); (try have oB1 : OwnBlk wB wA.heap.size 28 7 := OwnBlk.later (by exact OwnBlk.alloc wA _ 28 7 rfl) hbB); clear hbB; obtain ⟨zB, gB0, gB1, gB2, gB3, gB4, gB5, gB6⟩ := xB)
      | (go_at_call 6; refine (fillS _ ss o _ _ _ _ _ ?_ ?_).mono ?_; exact hiA.later (by repeat (first | exact lA | exact Below.refl _ _ | refine Below.drew ?_ | refine blw_alloc ?_ _)); exact hoB.later (by repeat (first | exact lB | exact Below.refl _ _ | refine Below.drew ?_ | refine blw_alloc ?_ _)); rintro e wC ⟨⟨r1, m1, k1, r2', m2, k2, mid, rfl, hct1, hct2, hm1, hm2⟩, hbC⟩; obtain ⟨kC, xC, sC⟩ := HK.out _ wC (by repeat (first | exact kB | exact kA | exact Below.refl _ _ | refine Below.drew ?_ | refine blw_alloc ?_ _)) hbC; (try have oC : OwnBlk wC w2.heap.size 28 7 ∧ w2.heap.size < _ := own_call (by first | exact oB0 | exact oA0) hbC); (try have oC : OwnBlk wC wA.heap.size 28 7 ∧ wA.heap.size < _ := own_call (by first | exact oB1 | exact OwnBlk.alloc wA _ 28 7 rfl) hbC); (try have oC : OwnBlk wC wB.heap.size 28 7 ∧ wB.heap.size < _ := own_call (by first | exact oA1 | exact OwnBlk.alloc wB _ 28 7 rfl) hbC); (try (have hfC := oC.1.frozen; have zC := oC.1.lt; obtain ⟨y0, hy0⟩ := oC.1.cell 0 (by omega); obtain ⟨y1, hy1⟩ := oC.1.cell 1 (by omega); obtain ⟨y2, hy2⟩ := oC.1.cell 2 (by omega); obtain ⟨y3, hy3⟩ := oC.1.cell 3 (by omega); obtain ⟨y4, hy4⟩ := oC.1.cell 4 (by omega); obtain ⟨y5, hy5⟩ := oC.1.cell 5 (by omega); obtain ⟨y6, hy6⟩ := oC.1.cell 6 (by omega))); clear hbC))
    all_goals
      go_wp2_with fail
      go_meet
      first
        | exact ⟨_, r1, m1, k1, r2', m2, k2, rfl, stOf HB2.out HX2.out z2 (out_put (a := w2) (o := o) oC kC hct1 hct2 hm1 hm2 (by first | exact Nat.le_refl _ | exact kA.size | exact kB.size) _ (by repeat (first | exact Below.refl _ _ | refine Below.drew ?_)) rfl)⟩
        | exact ⟨_, r1, m1, k1, r2', m2, k2, rfl, stOf HB2.out HX2.out z2 (out_new (a := w2) (o := o) kC hct1 hct2 hm1 hm2 sC _ (by repeat (first | exact Below.refl _ _ | refine Below.drew ?_)) rfl)⟩
  case rest =>
  obtain ⟨p6, a1, n1, d1, a2, n2, d2, rfl, hSt⟩ := hcut
  rename World => w3
  have HS3 : Hid (St w w3 o v1 v2 w3.heap.size p6 (fillOb ss o).values (.slice a1 n1 d1) (.slice a2 n2 d2)) := hSt
  clear hSt f0 f1 f2 f3 f4 f5 f6 z2 HB2 HX2 HK
  have hp6 := HS3.out.f.box.lt
  go_wp2_with fail
  refine (HT13.out _ HS3.out.bel).mono ?_
  rintro e w4 ⟨rfl, hb4, hi4⟩
  have HS4 : Hid (St w w4 o v1 v2 w3.heap.size p6 (fillOb ss o).values (.slice a1 n1 d1) (.slice a2 n2 d2)) := HS3.out.later hb4
  have HI4 : Hid (ShpsIn w4 w3.heap.size ss) := hi4
  have z4 := HS4.out.box.lt
  have f0 := HS4.out.box.x0
  have f1 := HS4.out.box.x1
  have f2 := HS4.out.box.x2
  have f3 := HS4.out.box.x3
  have f4 := HS4.out.box.x4
  have f5 := HS4.out.box.x5
  have f6 := HS4.out.box.x6
  clear hb4 hi4
  go_wp2_with fail
  refine (HT18.out _ HS4.out.bel).mono ?_
  rintro e w5 ⟨⟨b1, b2, rfl, ho5, hw1, hw2, hl1, hl2⟩, hb5⟩
  have HS5 : Hid (St w w5 o v1 v2 w3.heap.size p6 (fillOb ss o).values (.slice a1 n1 d1) (.slice a2 n2 d2)) := HS4.out.later hb5
  have HU5 : Hid (Su (w5.alloc (.cells #[.string o.kind, .string o.name, .string o.team, .slice (some ⟨b1, 0, none⟩) o.values.length o.values.length, .bool o.ending, .slice (some ⟨b2, 0, none⟩) o.holds.length o.holds.length, .int .i64 o.version] 28)) ss o w3.heap.size w3.heap.size w4.heap.size b1 b2 w5.heap.size) := by
    have hn : Below w5.heap.size w5 (w5.alloc (.cells #[.string o.kind, .string o.name, .string o.team, .slice (some ⟨b1, 0, none⟩) o.values.length o.values.length, .bool o.ending, .slice (some ⟨b2, 0, none⟩) o.holds.length o.holds.length, .int .i64 o.version] 28)) := blw_alloc (Below.refl _ _) _
    exact ⟨(HI4.out.later hb5).later hn, ho5.later hn, hw1.later hn, hw2.later hn, BoxAt.new w5 o _ _ 28, Nat.le_refl _, HI4.out.lt, hl1, hl2, hw2.lt, fun S hS => ((HI4.out.sk S hS).later hb5).later hn⟩
  have HSF : Hid (∀ i, i < (fillOb ss o).values.length → ((fillOb ss o).values.getD i ByteArray.empty).size ≤ maxLen) := fill_sizes HI4.out hsv.out
  have HSL : Hid ((fillOb ss o).values.length ≤ 1048576) := by show (fillOb ss o).values.length ≤ 1048576; rw [fill_len]; exact HLO.out.1
  clear hb5 ho5 hw1 hw2 hl1 hl2 HI4 f0 f1 f2 f3 f4 f5 f6 z4 HS4 HS3
  have HS5a : Hid (St w (w5.alloc (.cells #[.string o.kind, .string o.name, .string o.team, .slice (some ⟨b1, 0, none⟩) o.values.length o.values.length, .bool o.ending, .slice (some ⟨b2, 0, none⟩) o.holds.length o.holds.length, .int .i64 o.version] 28)) o v1 v2 w3.heap.size p6 (fillOb ss o).values (.slice a1 n1 d1) (.slice a2 n2 d2)) := HS5.out.later (blw_alloc (Below.refl _ _) _)
  have hp65 := HS5.out.f.box.lt
  go_wp2_with fail
  refine (fillI _ ss o _ _ _ _ _ HU5.out.sh HU5.out.oa).mono ?_
  rintro e w6 ⟨⟨g1, m1, k1, g2, m2, k2, mid9, rfl, hct1, hct2, hm1, hm2⟩, hb6⟩
  have hw5 : (w5.alloc (.cells #[.string o.kind, .string o.name, .string o.team, .slice (some ⟨b1, 0, none⟩) o.values.length o.values.length, .bool o.ending, .slice (some ⟨b2, 0, none⟩) o.holds.length o.holds.length, .int .i64 o.version] 28)).heap.size = w5.heap.size + 1 := by simp
  have HF6 : Hid (FA (w6.alloc (.cells #[.string o.kind, .string o.name, .string o.team, .slice g1 m1 k1, .bool o.ending, .slice g2 m2 k2, .int .i64 o.version] 28)) (w5.heap.size + 1) mid9 w6.heap.size o (fillOb ss o).values (.slice g1 m1 k1) (.slice g2 m2 k2)) := by
    rw [hw5] at hct1 hm1
    exact FA.new hct1 hct2 hm1 hm2
  have HS6 : Hid (St w w6 o v1 v2 w3.heap.size p6 (fillOb ss o).values (.slice a1 n1 d1) (.slice a2 n2 d2)) := HS5a.out.later hb6
  have HS6a : Hid (St w (w6.alloc (.cells #[.string o.kind, .string o.name, .string o.team, .slice g1 m1 k1, .bool o.ending, .slice g2 m2 k2, .int .i64 o.version] 28)) o v1 v2 w3.heap.size p6 (fillOb ss o).values (.slice a1 n1 d1) (.slice a2 n2 d2)) := HS6.out.later (blw_alloc (Below.refl _ _) _)
  have HU6 : Hid (Su (w6.alloc (.cells #[.string o.kind, .string o.name, .string o.team, .slice g1 m1 k1, .bool o.ending, .slice g2 m2 k2, .int .i64 o.version] 28)) ss o w3.heap.size w3.heap.size w4.heap.size b1 b2 w5.heap.size) := (HU5.out.later hb6).later (blw_alloc (Below.refl _ _) _)
  have h56 : w5.heap.size + 1 ≤ w6.heap.size := by have := hb6.size; rw [hw5] at this; exact this
  have z6 := HS6.out.f.box.lt
  have f0 := HS6.out.f.box.x0
  have f1 := HS6.out.f.box.x1
  have f2 := HS6.out.f.box.x2
  have f3 := HS6.out.f.box.x3
  have f4 := HS6.out.f.box.x4
  have f5 := HS6.out.f.box.x5
  have f6 := HS6.out.f.box.x6
  clear hct1 hct2 hm1 hm2 hb6 hw5 HS5 HS5a HU5 hp65
  go_wp2_with fail
  refine (eqFB o _ _ _ _ _ _ _ _ _ _ _ w _ HF6.out HS6a.out.f HSL.out HSF.out HLO.out.2 hsh.out HS6a.out.bel).mono ?_
  rintro e w7 ⟨rfl, hb7, hB7⟩
  have HS7 : Hid (St w w7 o v1 v2 w3.heap.size p6 (fillOb ss o).values (.slice a1 n1 d1) (.slice a2 n2 d2)) := HS6a.out.later hb7
  have HU7 : Hid (Su w7 ss o w3.heap.size w3.heap.size w4.heap.size b1 b2 w5.heap.size) := HU6.out.later hb7
  have HF7 : Hid (FA w7 (w5.heap.size + 1) mid9 w6.heap.size o (fillOb ss o).values (.slice g1 m1 k1) (.slice g2 m2 k2)) := HF6.out.later hb7
  clear hb7 hB7 f0 f1 f2 f3 f4 f5 f6 z6 HS6 HS6a HU6 HF6
  have HL0 : Hid (w3.heap.size ≤ w5.heap.size) := by have := HU7.out.l1; have := HU7.out.l2; have := HU7.out.l3; have := HU7.out.l4; show w3.heap.size ≤ w5.heap.size; omega
  go_wp2_with fail
  refine (HT13.out _ HS7.out.bel).mono ?_
  rintro e w8 ⟨rfl, hb8, hi8⟩
  have HI8 : Hid (ShpsIn w8 w3.heap.size ss ∧ ShpsIn w8 w7.heap.size ss) := ⟨HU7.out.sh.later hb8, hi8⟩
  have HB8 : Hid (Below w7.heap.size w7 w8) := hb8
  clear hb8 hi8
  go_wp2_with fail
  refine (eqShapes _ _ ss _ HL.out.1 HL.out.2 HI8.out.1.lt HI8.out.2.lt HI8.out.1.at_ HI8.out.2.at_).mono ?_
  rintro e w9 ⟨rfl, hb9⟩
  have HB9 : Hid (Below w7.heap.size w7 w9) := blw_trans HB8.out hb9
  have HS9 : Hid (St w w9 o v1 v2 w3.heap.size p6 (fillOb ss o).values (.slice a1 n1 d1) (.slice a2 n2 d2)) := HS7.out.later HB9.out
  have HU9 : Hid (Su w9 ss o w3.heap.size w3.heap.size w4.heap.size b1 b2 w5.heap.size) := HU7.out.later HB9.out
  have HF9 : Hid (FA w9 (w5.heap.size + 1) mid9 w6.heap.size o (fillOb ss o).values (.slice g1 m1 k1) (.slice g2 m2 k2)) := HF7.out.later HB9.out
  clear hb9 HB8 HB9 HI8 HS7 HU7 HF7
  have HEQ : Hid (∀ W q1 q2, Below w9.heap.size w9 W → ObArg W q1 q2 o → Calls Try.prog 10 #[.agg #[.string o.kind, .string o.name, .string o.team, .slice (some ⟨b1, 0, none⟩) o.values.length o.values.length, .bool o.ending, .slice (some ⟨b2, 0, none⟩) o.holds.length o.holds.length, .int .i64 o.version], .agg #[.string o.kind, .string o.name, .string o.team, .slice (some ⟨q1, 0, none⟩) o.values.length o.values.length, .bool o.ending, .slice (some ⟨q2, 0, none⟩) o.holds.length o.holds.length, .int .i64 o.version]] W fun e w' => e = .returned (.bool true) ∧ Below w9.heap.size w9 w') := by
    intro W q1 q2 hW hq
    have h1 := (HU9.out.oa.later hW).texts hsv.out hsh.out
    have h2 := hq.texts hsv.out hsh.out
    refine (eqObj o _ _ _ _ W h1.1 h1.2 h2.1 h2.2).mono ?_
    rintro e w' ⟨rfl, hb⟩
    exact ⟨rfl, blw_trans hW hb⟩
  have HK : Hid (∀ (W W' : World), Below w9.heap.size w9 W → Below W.heap.size W W' → Below w9.heap.size w9 W' ∧ BoxAt W' w.heap.size o v1 v2 ∧ BoxAt W' w5.heap.size o (.slice (some ⟨b1, 0, none⟩) o.values.length o.values.length) (.slice (some ⟨b2, 0, none⟩) o.holds.length o.holds.length)) := fun W W' h1 h2 => ⟨blw_trans h1 h2, HS9.out.box.later (blw_trans h1 h2), HU9.out.box.later (blw_trans h1 h2)⟩
  have z9 := HS9.out.box.lt
  have f0 := HS9.out.box.x0
  have f1 := HS9.out.box.x1
  have f2 := HS9.out.box.x2
  have f3 := HS9.out.box.x3
  have f4 := HS9.out.box.x4
  have f5 := HS9.out.box.x5
  have f6 := HS9.out.box.x6
  have z9' := HU9.out.box.lt
  have h0 := HU9.out.box.x0
  have h1 := HU9.out.box.x1
  have h2 := HU9.out.box.x2
  have h3 := HU9.out.box.x3
  have h4 := HU9.out.box.x4
  have h5 := HU9.out.box.x5
  have h6 := HU9.out.box.x6
  go_upto_region 16 with fail
  go_cut [49] (fun s49 wx => s49 = .bool false ∧ Below w9.heap.size w9 wx)
  case first =>
    go_region_with (first
      | (go_at_call 8; refine (HT18.out _ ?_).mono ?_; (repeat (first | exact HS9.out.bel | refine Below.drew ?_)); rintro e wB ⟨⟨q1, q2, rfl, hoB, _, _, _, _⟩, hbB⟩; obtain ⟨kB, xB, yB⟩ := HK.out _ wB (by repeat (first | exact Below.refl _ _ | refine Below.drew ?_)) hbB; clear hbB; obtain ⟨zB, gB0, gB1, gB2, gB3, gB4, gB5, gB6⟩ := xB; obtain ⟨zB', eB0, eB1, eB2, eB3, eB4, eB5, eB6⟩ := yB)
      | (go_at_call 10; refine (HEQ.out _ _ _ ?_ ?_).mono ?_; (repeat (first | exact kB | refine Below.drew ?_)); exact hoB.later (by repeat (first | exact Below.refl _ _ | refine Below.drew ?_)); rintro e wC ⟨rfl, kC⟩))
    all_goals
      go_wp2_with fail
      go_meet
      refine ⟨rfl, ?_⟩
      repeat (first | exact kC | refine Below.drew ?_)
  case rest =>
  obtain ⟨rfl, hbx⟩ := hcut
  rename World => w10
  have HS10 : Hid (St w w10 o v1 v2 w3.heap.size p6 (fillOb ss o).values (.slice a1 n1 d1) (.slice a2 n2 d2)) := HS9.out.later hbx
  have HU10 : Hid (Su w10 ss o w3.heap.size w3.heap.size w4.heap.size b1 b2 w5.heap.size) := HU9.out.later hbx
  have HF10 : Hid (FA w10 (w5.heap.size + 1) mid9 w6.heap.size o (fillOb ss o).values (.slice g1 m1 k1) (.slice g2 m2 k2)) := HF9.out.later hbx
  clear hbx HK HEQ f0 f1 f2 f3 f4 f5 f6 h0 h1 h2 h3 h4 h5 h6 z9 z9' HS9 HU9 HF9
  have H21 : Hid (Calls Try.prog 12 #[.slice (some ⟨w3.heap.size, 0, none⟩) ss.length ss.length, .int .i64 1] w10 fun e w' => (∃ q : Nat, e = .returned (.int .i64 (q : Int)) ∧ 1 ≤ q ∧ q ≤ sTop 1) ∧ Marks (fun p => w3.heap.size ≤ p ∧ p < w5.heap.size) w10 w') :=
    markShapes _ _ _ 1 w10 (HU10.out.sk _ (fun q a b => ⟨a, by have := HU10.out.l2; have := HU10.out.l3; have := HU10.out.l4; omega⟩)) (by omega) (by omega)
  go_wp2_with fail
  refine H21.out.mono ?_
  rintro e w11 ⟨⟨k, rfl, hk1, hk2⟩, hm⟩
  have HKB : Hid (1 ≤ k ∧ k ≤ 2000000000000000000) := ⟨hk1, Nat.le_trans hk2 (by unfold sTop sB; omega)⟩
  have HS11 : Hid (St w w11 o v1 v2 w3.heap.size p6 (fillOb ss o).values (.slice a1 n1 d1) (.slice a2 n2 d2)) := HS10.out.marks hm (fun q e => e.1)
  have HF11 : Hid (FA w11 (w5.heap.size + 1) mid9 w6.heap.size o (fillOb ss o).values (.slice g1 m1 k1) (.slice g2 m2 k2)) := HF10.out.marks hm (fun q e a _ => by have := e.2; omega)
  have HX11 : Hid (BoxAt w11 w5.heap.size o (.slice (some ⟨b1, 0, none⟩) o.values.length o.values.length) (.slice (some ⟨b2, 0, none⟩) o.holds.length o.holds.length)) := HU10.out.box.marks hm (fun e => by have := e.2; omega)
  have HT11 : Hid (TxSk w11 (fun p => w3.heap.size ≤ p ∧ p < w5.heap.size) (.slice (some ⟨b1, 0, none⟩) o.values.length o.values.length) ∧ TxSk w11 (fun p => w3.heap.size ≤ p ∧ p < w5.heap.size) (.slice (some ⟨b2, 0, none⟩) o.holds.length o.holds.length)) := by
    have := HU10.out.tx (fun p => w3.heap.size ≤ p ∧ p < w5.heap.size) (fun q a b => ⟨a, b⟩)
    exact ⟨this.1.marks hm, this.2.marks hm⟩
  clear hm hk1 hk2 H21 HS10 HF10 HU10
  have z11 := HX11.out.lt
  have f0 := HX11.out.x0
  have f1 := HX11.out.x1
  have f2 := HX11.out.x2
  have f3 := HX11.out.x3
  have f4 := HX11.out.x4
  have f5 := HX11.out.x5
  have f6 := HX11.out.x6
  go_wp2_with fail
  refine (markObj (fun p => w3.heap.size ≤ p ∧ p < w5.heap.size) o _ _ k _ HT11.out.1 HT11.out.2 (fun q e => by have := e.2; have := HX11.out.lt; omega) HKB.out.2 HKB.out.1).mono ?_
  rintro e w12 ⟨⟨q, rfl⟩, hm⟩
  have HS12 : Hid (St w w12 o v1 v2 w3.heap.size p6 (fillOb ss o).values (.slice a1 n1 d1) (.slice a2 n2 d2)) := HS11.out.marks hm (fun q e => e.1)
  have HF12 : Hid (FA w12 (w5.heap.size + 1) mid9 w6.heap.size o (fillOb ss o).values (.slice g1 m1 k1) (.slice g2 m2 k2)) := HF11.out.marks hm (fun q e a _ => by have := e.2; omega)
  clear hm f0 f1 f2 f3 f4 f5 f6 z11 HT11 HX11 HS11 HF11 HKB
  have hq0 : decide ((q : Int) < 0) = false := by simp
  have z12 := HS12.out.f.box.lt
  have f0 := HS12.out.f.box.x0
  have f1 := HS12.out.f.box.x1
  have f2 := HS12.out.f.box.x2
  have f3 := HS12.out.f.box.x3
  have f4 := HS12.out.f.box.x4
  have f5 := HS12.out.f.box.x5
  have f6 := HS12.out.f.box.x6
  have z12' := HF12.out.box.lt
  have h0 := HF12.out.box.x0
  have h1 := HF12.out.box.x1
  have h2 := HF12.out.box.x2
  have h3 := HF12.out.box.x3
  have h4 := HF12.out.box.x4
  have h5 := HF12.out.box.x5
  have h6 := HF12.out.box.x6
  go_wp2_with fail
  refine (eqFB o _ _ _ _ _ _ _ _ _ _ _ w _ HF12.out HS12.out.f HSL.out HSF.out HLO.out.2 hsh.out HS12.out.bel).mono ?_
  rintro e w13 ⟨rfl, hb13, _⟩
  have HS13 : Hid (St w w13 o v1 v2 w3.heap.size p6 (fillOb ss o).values (.slice a1 n1 d1) (.slice a2 n2 d2)) := HS12.out.later hb13
  have HF13 : Hid (FA w13 (w5.heap.size + 1) mid9 w6.heap.size o (fillOb ss o).values (.slice g1 m1 k1) (.slice g2 m2 k2)) := HF12.out.later hb13
  clear hb13 f0 f1 f2 f3 f4 f5 f6 h0 h1 h2 h3 h4 h5 h6 z12 z12' HS12 HF12
  obtain ⟨M, hM⟩ : ∃ M : Nat, M = 1 + (fillOb ss o).values.length + o.holds.length := ⟨_, rfl⟩
  have HM : Hid (M = 1 + (fillOb ss o).values.length + o.holds.length) := hM
  clear hM
  have z13 := HF13.out.box.lt
  have f0 := HF13.out.box.x0
  have f1 := HF13.out.box.x1
  have f2 := HF13.out.box.x2
  have f3 := HF13.out.box.x3
  have f4 := HF13.out.box.x4
  have f5 := HF13.out.box.x5
  have f6 := HF13.out.box.x6
  go_wp2_with fail
  refine (markVals _ _ _ o _ _ _ M _ HF13.out.c1 HF13.out.c2 HF13.out.m1 HF13.out.m2 (Nat.le_of_lt HF13.out.box.lt) HSL.out HLO.out.2 HM.out).mono ?_
  rintro e w14 ⟨rfl, hm, hr1', hr2'⟩
  have HS14 : Hid (St w w14 o v1 v2 w3.heap.size p6 (fillOb ss o).values (.slice a1 n1 d1) (.slice a2 n2 d2)) := HS13.out.marks hm (fun q e => by have := e.1; have := HL0.out; omega)
  have HG14 : Hid (BoxAt w14 w6.heap.size o (.slice g1 m1 k1) (.slice g2 m2 k2) ∧ MRow w14 (w5.heap.size + 1) mid9 (.slice g1 m1 k1) (fillOb ss o).values.length 1 ∧ MRow w14 mid9 w6.heap.size (.slice g2 m2 k2) o.holds.length (1 + (fillOb ss o).values.length)) := ⟨HF13.out.box.marks hm (fun e => by have := e.2; omega), hr1', hr2'⟩
  clear hm hr1' hr2' f0 f1 f2 f3 f4 f5 f6 z13 HS13 HF13
  have z14 := HG14.out.1.lt
  have f0 := HG14.out.1.x0
  have f1 := HG14.out.1.x1
  have f2 := HG14.out.1.x2
  have f3 := HG14.out.1.x3
  have f4 := HG14.out.1.x4
  have f5 := HG14.out.1.x5
  have f6 := HG14.out.1.x6
  go_wp2_with fail
  refine (heldVals _ _ _ o _ _ _ _ M _ HG14.out.2.1 HG14.out.2.2 HSL.out HLO.out.2 HM.out).mono ?_
  rintro e w15 ⟨rfl, hb15⟩
  have HS15 : Hid (St w w15 o v1 v2 w3.heap.size p6 (fillOb ss o).values (.slice a1 n1 d1) (.slice a2 n2 d2)) := HS14.out.later hb15
  have HG15 : Hid (BoxAt w15 w6.heap.size o (.slice g1 m1 k1) (.slice g2 m2 k2) ∧ MRow w15 (w5.heap.size + 1) mid9 (.slice g1 m1 k1) (fillOb ss o).values.length 1 ∧ MRow w15 mid9 w6.heap.size (.slice g2 m2 k2) o.holds.length (1 + (fillOb ss o).values.length)) := ⟨HG14.out.1.later hb15, HG14.out.2.1.later hb15, HG14.out.2.2.later hb15⟩
  clear hb15 f0 f1 f2 f3 f4 f5 f6 z14 HS14 HG14
  have hM0 : decide ((M : Int) < 0) = false := by simp
  have z15 := HS15.out.box.lt
  have f0 := HS15.out.box.x0
  have f1 := HS15.out.box.x1
  have f2 := HS15.out.box.x2
  have f3 := HS15.out.box.x3
  have f4 := HS15.out.box.x4
  have f5 := HS15.out.box.x5
  have f6 := HS15.out.box.x6
  have HK : Hid (∀ (W W' : World), Below w15.heap.size w15 W → Below W.heap.size W W' → Below w15.heap.size w15 W' ∧ BoxAt W' w.heap.size o v1 v2 ∧ w15.heap.size ≤ W.heap.size) := fun W W' h1 h2 => ⟨blw_trans h1 h2, HS15.out.box.later (blw_trans h1 h2), h1.size⟩
  go_upto_region 31 with fail
  go_cut [13] (fun s13 wx => ∃ p7 e1 e2 e3 e4 e5 e6, s13 = .pointer (some ⟨p7, 0, none⟩) ∧ Below w15.heap.size w15 wx ∧ FB wx w15.heap.size wx.heap.size p7 o (fillOb ss o).values (.slice e1 e2 e3) (.slice e4 e5 e6))
  case first =>
    go_region_with (first
      | (go_at_call 7; refine (HTx.out _ ?_).mono ?_; (repeat (first | exact (blw_trans HS15.out.bel kB) | exact HS15.out.bel | refine Below.drew ?_ | refine blw_alloc ?_ _)); rintro e wA ⟨BA, rfl, hbA, hiA⟩; obtain ⟨kA, xA, _⟩ := HK.out _ wA (by repeat (first | exact kB | exact Below.refl _ _ | refine Below.drew ?_ | refine blw_alloc ?_ _)) hbA; (try have lB : Below wB.heap.size wB wA := blw_trans (by repeat (first | exact Below.refl _ _ | refine Below.drew ?_ | refine blw_alloc ?_ _)) hbA); (try have oA0 : OwnBlk wA w15.heap.size 28 7 := OwnBlk.later (by first | exact oB0 | exact OwnBlk.alloc w15 _ 28 7 rfl) hbA); (try have oA1 : OwnBlk wA wB.heap.size 28 7 := OwnBlk.later (by exact OwnBlk.alloc wB _ 28 7 rfl) hbA); clear hbA; obtain ⟨zA, gA0, gA1, gA2, gA3, gA4, gA5, gA6⟩ := xA)
      | (go_at_call 8; refine (HT18.out _ ?_).mono ?_; (repeat (first | exact (blw_trans HS15.out.bel kA) | exact HS15.out.bel | refine Below.drew ?_ | refine blw_alloc ?_ _)); rintro e wB ⟨⟨q1, q2, rfl, hoB, _, _, _, _⟩, hbB⟩; obtain ⟨kB, xB, _⟩ := HK.out _ wB (by repeat (first | exact kA | exact Below.refl _ _ | refine Below.drew ?_ | refine blw_alloc ?_ _)) hbB; (try have lA : Below wA.heap.size wA wB := blw_trans (by repeat (first | exact Below.refl _ _ | refine Below.drew ?_ | refine blw_alloc ?_ _)) hbB); (try have oB0 : OwnBlk wB w15.heap.size 28 7 := OwnBlk.later (by first | exact oA0 | exact OwnBlk.alloc w15 _ 28 7 rfl) hbB); (try have oB1 : OwnBlk wB wA.heap.size 28 7 := OwnBlk.later (by exact OwnBlk.alloc wA _ 28 7 rfl) hbB); clear hbB; obtain ⟨zB, gB0, gB1, gB2, gB3, gB4, gB5, gB6⟩ := xB)
      | (go_at_call 9; refine (fillI _ ss o _ _ _ _ _ ?_ ?_).mono ?_; exact hiA.later (by repeat (first | exact lA | exact Below.refl _ _ | refine Below.drew ?_ | refine blw_alloc ?_ _)); exact hoB.later (by repeat (first | exact lB | exact Below.refl _ _ | refine Below.drew ?_ | refine blw_alloc ?_ _)); rintro e wC ⟨⟨r1, j1, j2, r2', j3, j4, mid, rfl, hct1, hct2, hm1, hm2⟩, hbC⟩; obtain ⟨kC, xC, sC⟩ := HK.out _ wC (by repeat (first | exact kB | exact kA | exact Below.refl _ _ | refine Below.drew ?_ | refine blw_alloc ?_ _)) hbC; (try have oC : OwnBlk wC w15.heap.size 28 7 ∧ w15.heap.size < _ := own_call (by first | exact oB0 | exact oA0) hbC); (try have oC : OwnBlk wC wA.heap.size 28 7 ∧ wA.heap.size < _ := own_call (by first | exact oB1 | exact OwnBlk.alloc wA _ 28 7 rfl) hbC); (try have oC : OwnBlk wC wB.heap.size 28 7 ∧ wB.heap.size < _ := own_call (by first | exact oA1 | exact OwnBlk.alloc wB _ 28 7 rfl) hbC); (try (have hfC := oC.1.frozen; have zC := oC.1.lt; obtain ⟨y0, hy0⟩ := oC.1.cell 0 (by omega); obtain ⟨y1, hy1⟩ := oC.1.cell 1 (by omega); obtain ⟨y2, hy2⟩ := oC.1.cell 2 (by omega); obtain ⟨y3, hy3⟩ := oC.1.cell 3 (by omega); obtain ⟨y4, hy4⟩ := oC.1.cell 4 (by omega); obtain ⟨y5, hy5⟩ := oC.1.cell 5 (by omega); obtain ⟨y6, hy6⟩ := oC.1.cell 6 (by omega))); clear hbC))
    all_goals
      go_wp2_with fail
      go_meet
      first
        | exact ⟨_, r1, j1, j2, r2', j3, j4, rfl, out_put (a := w15) (o := o) oC kC hct1 hct2 hm1 hm2 (by first | exact Nat.le_refl _ | exact kA.size | exact kB.size) _ (by repeat (first | exact Below.refl _ _ | refine Below.drew ?_)) rfl⟩
        | exact ⟨_, r1, j1, j2, r2', j3, j4, rfl, out_new (a := w15) (o := o) kC hct1 hct2 hm1 hm2 sC _ (by repeat (first | exact Below.refl _ _ | refine Below.drew ?_)) rfl⟩
  case rest =>
  obtain ⟨p7, e1, e2, e3, e4, e5, e6, rfl, hbx, hfb⟩ := hcut
  rename World => w16
  have HS16 : Hid (St w w16 o v1 v2 w3.heap.size p6 (fillOb ss o).values (.slice a1 n1 d1) (.slice a2 n2 d2)) := HS15.out.later hbx
  have HG16 : Hid (BoxAt w16 w6.heap.size o (.slice g1 m1 k1) (.slice g2 m2 k2) ∧ MRow w16 (w5.heap.size + 1) mid9 (.slice g1 m1 k1) (fillOb ss o).values.length 1 ∧ MRow w16 mid9 w6.heap.size (.slice g2 m2 k2) o.holds.length (1 + (fillOb ss o).values.length)) := ⟨HG15.out.1.later hbx, HG15.out.2.1.later hbx, HG15.out.2.2.later hbx⟩
  have HF16 : Hid (FB w16 w15.heap.size w16.heap.size p7 o (fillOb ss o).values (.slice e1 e2 e3) (.slice e4 e5 e6)) := hfb
  clear hbx hfb HK f0 f1 f2 f3 f4 f5 f6 z15 HS15 HG15
  have z16 := HS16.out.f.box.lt
  have f0 := HS16.out.f.box.x0
  have f1 := HS16.out.f.box.x1
  have f2 := HS16.out.f.box.x2
  have f3 := HS16.out.f.box.x3
  have f4 := HS16.out.f.box.x4
  have f5 := HS16.out.f.box.x5
  have f6 := HS16.out.f.box.x6
  have z16' := HF16.out.box.lt
  have h0 := HF16.out.box.x0
  have h1 := HF16.out.box.x1
  have h2 := HF16.out.box.x2
  have h3 := HF16.out.box.x3
  have h4 := HF16.out.box.x4
  have h5 := HF16.out.box.x5
  have h6 := HF16.out.box.x6
  go_wp2_with fail
  refine (eqFBB o _ _ _ _ _ _ _ _ _ _ _ w _ HF16.out HS16.out.f HSL.out HSF.out HLO.out.2 hsh.out HS16.out.bel).mono ?_
  rintro e w17 ⟨rfl, hb17, _⟩
  have HS17 : Hid (Below w.heap.size w w17) := blw_trans HS16.out.bel hb17
  have HG17 : Hid (BoxAt w17 w6.heap.size o (.slice g1 m1 k1) (.slice g2 m2 k2) ∧ MRow w17 (w5.heap.size + 1) mid9 (.slice g1 m1 k1) (fillOb ss o).values.length 1 ∧ MRow w17 mid9 w6.heap.size (.slice g2 m2 k2) o.holds.length (1 + (fillOb ss o).values.length)) := ⟨HG16.out.1.later hb17, HG16.out.2.1.later hb17, HG16.out.2.2.later hb17⟩
  clear hb17 f0 f1 f2 f3 f4 f5 f6 h0 h1 h2 h3 h4 h5 h6 z16 z16' HS16 HG16 HF16
  have z17 := HG17.out.1.lt
  have f0 := HG17.out.1.x0
  have f1 := HG17.out.1.x1
  have f2 := HG17.out.1.x2
  have f3 := HG17.out.1.x3
  have f4 := HG17.out.1.x4
  have f5 := HG17.out.1.x5
  have f6 := HG17.out.1.x6
  go_wp2_with fail
  refine (heldVals _ _ _ o _ _ _ _ M _ HG17.out.2.1 HG17.out.2.2 HSL.out HLO.out.2 HM.out).mono ?_
  rintro e w18 ⟨rfl, hb18⟩
  have HB18 : Hid (Below w.heap.size w w18) := blw_trans HS17.out hb18
  clear hb18
  go_wp2
  go_ret
  exact ⟨rfl, HB18.out⟩
end Go.Proofs.Ythilfmlfmnoikaa
