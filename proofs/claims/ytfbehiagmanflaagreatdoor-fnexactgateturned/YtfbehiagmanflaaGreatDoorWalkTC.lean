/-
  Walks: GateTurned: the specification.
-/
import Derived.Test.YtfbehiagmanflaaGreatDoorWalkTB
import Derived.Test.YtfbehiagmanflaaGreatDoorWalkCE
namespace Go.Proofs.YtfbehiagmanflaaGreatDoor
open Go.RowKit Go.Deep

def spBad (ss : List Shp) (a b : Ob) : Bool := !decide (chCode ss a = 0) || !decide (chCode ss b = 0) || !(a.kind.toList == b.kind.toList) || !(a.name.toList == b.name.toList) || !(a.team.toList == b.team.toList)

theorem kindAt_eq {ss : List Shp} {x y : ByteArray} (h : x.toList = y.toList) : kindAt ss x = kindAt ss y := by unfold kindAt; rw [h]

theorem ch_zero {ss : List Shp} {o : Ob} (h : chCode ss o = 0) : (shapesOk ss && hasKind ss o.kind) = true ∧ obCode (ss.getD (kindAt ss o.kind) Shp.none).fields o = 0 := by
  unfold chCode at h
  split at h
  · rename_i h1; exact ⟨h1, h⟩
  · cases h

theorem tu_bad {ss : List Shp} {a b : Ob} (h : spBad ss a b = true) : tuCode ss a b = 1 ∧ tuPlace ss a b = 0 := by
  have key : (shapesOk ss && hasKind ss a.kind) = true → tOk (ss.getD (kindAt ss a.kind) Shp.none).fields a b = false := by
    intro hok
    cases ht : tOk (ss.getD (kindAt ss a.kind) Shp.none).fields a b
    · rfl
    · exfalso
      unfold tOk sameOb at ht
      simp only [Bool.and_eq_true, decide_eq_true_eq] at ht
      obtain ⟨⟨⟨⟨k1, k2⟩, k3⟩, ca⟩, cb⟩ := ht
      have ha : chCode ss a = 0 := by unfold chCode; rw [hok, if_pos rfl]; exact ca
      have hkk : kindAt ss b.kind = kindAt ss a.kind := kindAt_eq (by rw [beq_iff_eq] at k1; exact k1.symm)
      have hb : chCode ss b = 0 := by
        unfold chCode
        have : hasKind ss b.kind = hasKind ss a.kind := by unfold hasKind; rw [hkk]
        rw [this, hok, if_pos rfl, hkk]; exact cb
      unfold spBad at h
      rw [ha, hb, k1, k2, k3] at h
      simp at h
  unfold tuCode tuPlace toCode toPlace
  by_cases hok : (shapesOk ss && hasKind ss a.kind) = true
  · rw [if_pos hok, if_pos hok, key hok]; exact ⟨rfl, rfl⟩
  · rw [if_neg hok, if_neg hok]; exact ⟨rfl, rfl⟩

theorem tu_good {ss : List Shp} {a b : Ob} (h : spBad ss a b = false) :
    ((shapesOk ss && hasKind ss a.kind) = true ∧ hasFields ss b = true ∧ kindAt ss b.kind = kindAt ss a.kind ∧ a.values.length = (ss.getD (kindAt ss a.kind) Shp.none).fields.length ∧ b.values.length = (ss.getD (kindAt ss a.kind) Shp.none).fields.length) ∧
    tuCode ss a b = (if tFirst (ss.getD (kindAt ss a.kind) Shp.none).fields a.values b.values < (ss.getD (kindAt ss a.kind) Shp.none).fields.length then 4 else 0) ∧ tuPlace ss a b = (if tFirst (ss.getD (kindAt ss a.kind) Shp.none).fields a.values b.values < (ss.getD (kindAt ss a.kind) Shp.none).fields.length then tFirst (ss.getD (kindAt ss a.kind) Shp.none).fields a.values b.values else 0) := by
  unfold spBad at h
  simp only [Bool.or_eq_false_iff, Bool.not_eq_false', decide_eq_true_eq] at h
  obtain ⟨⟨⟨⟨ca, cb⟩, k1⟩, k2⟩, k3⟩ := h
  obtain ⟨hok, oa⟩ := ch_zero ca
  obtain ⟨hokb, ob⟩ := ch_zero cb
  have hkk : kindAt ss b.kind = kindAt ss a.kind := kindAt_eq (by rw [beq_iff_eq] at k1; exact k1.symm)
  rw [hkk] at ob
  have hlb := obCode_len ob
  refine ⟨⟨hok, ?_, hkk, obCode_len oa, hlb⟩, ?_⟩
  · unfold hasFields
    rw [((Bool.and_eq_true _ _).mp hokb).2, hkk]
    simp [hlb]
  · have ht : tOk (ss.getD (kindAt ss a.kind) Shp.none).fields a b = true := by
      unfold tOk sameOb
      rw [k1, k2, k3, oa, ob]; rfl
    unfold tuCode tuPlace toCode toPlace
    rw [hok, if_pos rfl, if_pos rfl, ht, if_pos rfl, if_pos rfl]
    exact ⟨rfl, rfl⟩

set_option maxRecDepth 8000 in
set_option maxHeartbeats 8000000 in
theorem gateTurnedS (B : Nat) (ss : List Shp) (a b : Ob) (b1 c1 b2 c2 d1 e1 d2 e2 : Nat) (w : World) (h : ShpsIn w B ss) (ha : ObArg w b1 b2 a) (hb : ObArg w d1 d2 b) (sa : a.sized ∧ (∀ i, i < a.values.length → (a.values.getD i ByteArray.empty).size ≤ maxLen) ∧ (∀ i, i < a.holds.length → (a.holds.getD i ByteArray.empty).size ≤ maxLen)) (sb : b.sized ∧ (∀ i, i < b.values.length → (b.values.getD i ByteArray.empty).size ≤ maxLen) ∧ (∀ i, i < b.holds.length → (b.holds.getD i ByteArray.empty).size ≤ maxLen)) :
    Calls Tryz.prog 6 #[.slice (some ⟨B, 0, none⟩) ss.length ss.length, .agg #[.string a.kind, .string a.name, .string a.team, .slice (some ⟨b1, 0, none⟩) a.values.length c1, .bool a.ending, .slice (some ⟨b2, 0, none⟩) a.holds.length c2, .int .i64 a.version], .agg #[.string b.kind, .string b.name, .string b.team, .slice (some ⟨d1, 0, none⟩) b.values.length e1, .bool b.ending, .slice (some ⟨d2, 0, none⟩) b.holds.length e2, .int .i64 b.version]] w fun e w' => e = .returned (.tuple #[.int .i64 (tuCode ss a b : Nat), .int .i64 (tuPlace ss a b : Nat)]) ∧ Below w.heap.size w w' := by
  have HA : Hid (ShpsIn w B ss ∧ (ObArg w b1 b2 a ∧ (a.sized ∧ (∀ i, i < a.values.length → (a.values.getD i ByteArray.empty).size ≤ maxLen) ∧ (∀ i, i < a.holds.length → (a.holds.getD i ByteArray.empty).size ≤ maxLen))) ∧ (ObArg w d1 d2 b ∧ (b.sized ∧ (∀ i, i < b.values.length → (b.values.getD i ByteArray.empty).size ≤ maxLen) ∧ (∀ i, i < b.holds.length → (b.holds.getD i ByteArray.empty).size ≤ maxLen)))) := ⟨h, ⟨ha, sa⟩, ⟨hb, sb⟩⟩
  clear h ha hb sa sb
  obtain ⟨u1, hu1⟩ : ∃ u1, u1 = w.alloc (.cells #[.string a.kind, .string a.name, .string a.team, .slice (some ⟨b1, 0, none⟩) a.values.length c1, .bool a.ending, .slice (some ⟨b2, 0, none⟩) a.holds.length c2, .int .i64 a.version] 32) := ⟨_, rfl⟩
  obtain ⟨w2, hu2⟩ : ∃ w2, w2 = u1.alloc (.cells #[.string b.kind, .string b.name, .string b.team, .slice (some ⟨d1, 0, none⟩) b.values.length e1, .bool b.ending, .slice (some ⟨d2, 0, none⟩) b.holds.length e2, .int .i64 b.version] 32) := ⟨_, rfl⟩
  have z1 : u1.heap.size = w.heap.size + 1 := by rw [hu1]; simp
  have z2 : w2.heap.size = w.heap.size + 1 + 1 := by rw [hu2, World.size_alloc, z1]
  have g1 : Below w.heap.size w u1 := by rw [hu1]; exact blw_alloc (Below.refl _ _) _
  have g2 : Below u1.heap.size u1 w2 := by rw [hu2]; exact blw_alloc (Below.refl _ _) _
  have HB : Hid (Below w.heap.size w w2) := blw_trans g1 g2
  have HXA : Hid (BoxAt w2 w.heap.size a (.slice (some ⟨b1, 0, none⟩) a.values.length c1) (.slice (some ⟨b2, 0, none⟩) a.holds.length c2)) := (by rw [hu1]; exact BoxAt.new w a _ _ 32 : BoxAt u1 w.heap.size a (.slice (some ⟨b1, 0, none⟩) a.values.length c1) (.slice (some ⟨b2, 0, none⟩) a.holds.length c2)).later g2
  have HXB : Hid (BoxAt w2 (w.heap.size + 1) b (.slice (some ⟨d1, 0, none⟩) b.values.length e1) (.slice (some ⟨d2, 0, none⟩) b.holds.length e2)) := (by rw [hu2]; exact BoxAt.new u1 b _ _ 32 : BoxAt w2 u1.heap.size b (.slice (some ⟨d1, 0, none⟩) b.values.length e1) (.slice (some ⟨d2, 0, none⟩) b.holds.length e2)).at_ z1.symm
  obtain ⟨cc, hcc⟩ : ∃ cc, cc = tuCode ss a b := ⟨_, rfl⟩
  obtain ⟨cp, hcp⟩ : ∃ cp, cp = tuPlace ss a b := ⟨_, rfl⟩
  rw [← hcc, ← hcp]
  have HC : Hid (cc = tuCode ss a b ∧ cp = tuPlace ss a b) := ⟨hcc, hcp⟩
  clear hcc hcp
  go_enter Tryz.func6, Tryz.ntmps6
  go_upto_region 1 with fail
  rw [← hu1, ← hu2]
  clear hu1 hu2 z1 z2 g1 g2
  have f0 := HXA.out.x0
  have f1 := HXA.out.x1
  have f2 := HXA.out.x2
  have f3 := HXA.out.x3
  have f4 := HXA.out.x4
  have f5 := HXA.out.x5
  have f6 := HXA.out.x6
  have fz := HXA.out.lt
  obtain ⟨xa, hxa⟩ : ∃ xa, xa = chCode ss a := ⟨_, rfl⟩
  obtain ⟨xb, hxb⟩ : ∃ xb, xb = chCode ss b := ⟨_, rfl⟩
  have CA : Hid (Calls Tryz.prog 14 #[.slice (some ⟨B, 0, none⟩) ss.length ss.length, .agg #[.string a.kind, .string a.name, .string a.team, .slice (some ⟨b1, 0, none⟩) a.values.length c1, .bool a.ending, .slice (some ⟨b2, 0, none⟩) a.holds.length c2, .int .i64 a.version]] w2 fun e w' => e = .returned (.tuple #[.int .i64 (xa : Nat), .int .i64 (chPlace ss a : Nat)]) ∧ Below w2.heap.size w2 w') := by rw [hxa]; exact gateCheckS B ss a b1 c1 b2 c2 w2 (HA.out.1.later HB.out) (HA.out.2.1.1.later HB.out) HA.out.2.1.2.1 HA.out.2.1.2.2.1 HA.out.2.1.2.2.2
  have HXC : Hid (xa = chCode ss a ∧ xb = chCode ss b) := ⟨hxa, hxb⟩
  clear hxa
  go_wp2_with fail
  refine CA.out.mono ?_
  rintro e w3 ⟨rfl, hb3⟩
  have HB3 : Hid (Below w2.heap.size w2 w3) := hb3
  have HW3 : Hid (Below w.heap.size w w3) := blw_trans HB.out hb3
  have yB := HXB.out.later hb3
  clear hb3 f0 f1 f2 f3 f4 f5 f6 fz CA
  have g0 := yB.x0
  have g1 := yB.x1
  have g2 := yB.x2
  have g3 := yB.x3
  have g4 := yB.x4
  have g5 := yB.x5
  have g6 := yB.x6
  have gz := yB.lt
  clear yB
  have CB : Hid (Calls Tryz.prog 14 #[.slice (some ⟨B, 0, none⟩) ss.length ss.length, .agg #[.string b.kind, .string b.name, .string b.team, .slice (some ⟨d1, 0, none⟩) b.values.length e1, .bool b.ending, .slice (some ⟨d2, 0, none⟩) b.holds.length e2, .int .i64 b.version]] w3 fun e w' => e = .returned (.tuple #[.int .i64 (xb : Nat), .int .i64 (chPlace ss b : Nat)]) ∧ Below w3.heap.size w3 w') := by rw [hxb]; exact gateCheckS B ss b d1 e1 d2 e2 w3 (HA.out.1.later HW3.out) (HA.out.2.2.1.later HW3.out) HA.out.2.2.2.1 HA.out.2.2.2.2.1 HA.out.2.2.2.2.2
  clear hxb
  go_wp2_with fail
  refine CB.out.mono ?_
  rintro e w4 ⟨rfl, hb4⟩
  have HB4 : Hid (Below w2.heap.size w2 w4) := blw_trans HB3.out hb4
  have HW4 : Hid (Below w.heap.size w w4) := blw_trans HW3.out hb4
  clear hb4 g0 g1 g2 g3 g4 g5 g6 gz CB HB3 HW3
  have HYA : Hid (BoxAt w4 w.heap.size a (.slice (some ⟨b1, 0, none⟩) a.values.length c1) (.slice (some ⟨b2, 0, none⟩) a.holds.length c2)) := HXA.out.later HB4.out
  have HYB : Hid (BoxAt w4 (w.heap.size + 1) b (.slice (some ⟨d1, 0, none⟩) b.values.length e1) (.slice (some ⟨d2, 0, none⟩) b.holds.length e2)) := HXB.out.later HB4.out
  have f0 := HYA.out.x0
  have f1 := HYA.out.x1
  have f2 := HYA.out.x2
  have f3 := HYA.out.x3
  have f4 := HYA.out.x4
  have f5 := HYA.out.x5
  have f6 := HYA.out.x6
  have fz := HYA.out.lt
  have g0 := HYB.out.x0
  have g1 := HYB.out.x1
  have g2 := HYB.out.x2
  have g3 := HYB.out.x3
  have g4 := HYB.out.x4
  have g5 := HYB.out.x5
  have g6 := HYB.out.x6
  have gz := HYB.out.lt
  go_upto_region 3 with fail
  go_cut [53] (fun x wx => x = .bool (spBad ss a b) ∧ wx = w4)
  case first =>
    have HT : Hid (spBad ss a b = (!decide (xa = 0) || !decide (xb = 0) || !(a.kind.toList == b.kind.toList) || !(a.name.toList == b.name.toList) || !(a.team.toList == b.team.toList))) := by rw [HXC.out.1, HXC.out.2]; rfl
    cases ha0 : ((xa : Int) != 0)
    case true =>
      have HD : Hid (decide (xa = 0) = false) := by show decide _ = false; rw [decide_eq_false_iff_not]; intro e; rw [e] at ha0; cases ha0
      go_wp2_with fail
      go_meet
      exact ⟨by rw [HT.out, HD.out]; rfl, rfl⟩
    have HD : Hid (decide (xa = 0) = true) := by show decide _ = true; rw [bne_eq_false_iff_eq] at ha0; rw [decide_eq_true_eq]; omega
    cases hb0 : ((xb : Int) != 0)
    case true =>
      have HD2 : Hid (decide (xb = 0) = false) := by show decide _ = false; rw [decide_eq_false_iff_not]; intro e; rw [e] at hb0; cases hb0
      go_wp2_with fail
      go_meet
      exact ⟨by rw [HT.out, HD.out, HD2.out]; rfl, rfl⟩
    have HD2 : Hid (decide (xb = 0) = true) := by show decide _ = true; rw [bne_eq_false_iff_eq] at hb0; rw [decide_eq_true_eq]; omega
    cases q1 : (a.kind.toList == b.kind.toList)
    · go_wp2_with fail
      go_meet
      exact ⟨by rw [HT.out, HD.out, HD2.out, q1]; rfl, rfl⟩
    cases q2 : (a.name.toList == b.name.toList)
    · go_wp2_with fail
      go_meet
      exact ⟨by rw [HT.out, HD.out, HD2.out, q1, q2]; rfl, rfl⟩
    cases q3 : (a.team.toList == b.team.toList)
    · go_wp2_with fail
      go_meet
      exact ⟨by rw [HT.out, HD.out, HD2.out, q1, q2, q3]; rfl, rfl⟩
    · go_wp2_with fail
      go_meet
      exact ⟨by rw [HT.out, HD.out, HD2.out, q1, q2, q3]; rfl, rfl⟩
  case rest =>
  obtain ⟨rfl, hwc⟩ := hcut
  subst hwc
  rename World => w4
  cases hbad : spBad ss a b
  case true =>
    have HE := tu_bad hbad
    have hcc : cc = 1 := by rw [HC.out.1]; exact HE.1
    have hcp : cp = 0 := by rw [HC.out.2]; exact HE.2
    subst hcc hcp
    clear HE
    go_wp2
    go_ret2
    exact ⟨rfl, HW4.out⟩
  obtain ⟨⟨hok, hHF, hkk, hla, hlb⟩, hE1, hE2⟩ := tu_good hbad
  obtain ⟨s, hs⟩ : ∃ s, s = ss.getD (kindAt ss a.kind) Shp.none := ⟨_, rfl⟩
  have hkl : kindAt ss a.kind < ss.length := by have := ((Bool.and_eq_true _ _).mp hok).2; unfold hasKind at this; exact of_decide_eq_true this
  have hsm : s.small := HA.out.1.small s (by rw [hs]; simp [hkl])
  rw [← hs] at hla hlb hE1 hE2
  have HE : Hid (cc = (if tFirst s.fields a.values b.values < s.fields.length then 4 else 0) ∧ cp = (if tFirst s.fields a.values b.values < s.fields.length then tFirst s.fields a.values b.values else 0)) := by show _ ∧ _; rw [HC.out.1, HC.out.2]; exact ⟨hE1, hE2⟩
  have HX : Hid (Calls Tryz.prog 15 #[.slice (some ⟨B, 0, none⟩) ss.length ss.length, .agg #[.string b.kind, .string b.name, .string b.team, .slice (some ⟨d1, 0, none⟩) b.values.length e1, .bool b.ending, .slice (some ⟨d2, 0, none⟩) b.holds.length e2, .int .i64 b.version]] w4 fun e w' => (∃ q n c, e = .returned (.tuple #[.slice q n c, .bool true]) ∧ ∃ bb, Value.slice q n c = .slice (some ⟨bb, 0, none⟩) s.fields.length s.fields.length ∧ FldsIn w bb s.fields) ∧ Below w4.heap.size w4 w') := by
    refine (l2Fields w B ss b d1 e1 d2 e2 w4 HA.out.1 HW4.out).mono ?_
    rintro e w' ⟨q, n, c, rfl, hso, hb⟩
    obtain ⟨bb, h1, h2, h3⟩ := hso hHF
    rw [hkk, ← hs] at h1 h3
    exact ⟨⟨q, n, c, by rw [hHF], bb, h1, ⟨h2, hsm.1, hsm.2, h3⟩⟩, hb⟩
  obtain ⟨fs, hfeq⟩ : ∃ fs, fs = s.fields := ⟨_, rfl⟩
  have hfl := hsm.1
  rw [← hfeq] at HE HX hla hlb hfl
  have HLn : Hid (a.values.length = fs.length ∧ b.values.length = fs.length) := ⟨hla, hlb⟩
  clear hok hHF hkk hla hlb hE1 hE2 hs hkl hsm hfeq hbad HC HXC
  go_wp2_with fail
  refine HX.out.mono ?_
  rintro e w5 ⟨⟨q, n, c, rfl, bb, e2', hfi5⟩, hb5⟩
  injection e2' with q1 q2 q3
  subst q1 q2 q3
  have HFI : Hid (FldsIn w bb fs) := hfi5
  have HB5 : Hid (Below w4.heap.size w4 w5) := hb5
  have HW5 : Hid (Below w.heap.size w w5) := blw_trans HW4.out hb5
  clear hb5 hfi5 f0 f1 f2 f3 f4 f5 f6 fz g0 g1 g2 g3 g4 g5 g6 gz HX
  go_wp2
  go_loopw [14] (fun i wr => ∃ k : Nat, k ≤ fs.length ∧ i = .int .i64 k ∧ k ≤ tFirst fs a.values b.values ∧ Below w5.heap.size w5 wr) (fun i _ => fs.length - (intOf i).toNat)
  case atStart => exact ⟨0, Nat.zero_le _, rfl, Nat.zero_le _, Below.refl _ _⟩
  case round =>
    obtain ⟨k, hk, rfl, hno, hW⟩ := hrel
    have HN : Hid (k ≤ tFirst fs a.values b.values) := hno
    have HW : Hid (Below w5.heap.size w5 wr) := hW
    have HWw : Hid (Below w.heap.size w wr) := blw_trans HW5.out hW
    have HWr4 : Hid (Below w4.heap.size w4 wr) := blw_trans HB5.out hW
    clear hno hW
    by_cases hlt : k < fs.length
    · obtain ⟨f, hff⟩ : ∃ f, f = fs.getD k Fld.none := ⟨_, rfl⟩
      obtain ⟨bf, _, hfi⟩ := (HFI.out.later HWw.out).arg hlt hff
      have hka : k < a.values.length := by rw [HLn.out.1]; exact hlt
      have hkb : k < b.values.length := by rw [HLn.out.2]; exact hlt
      have v0 := (HA.out.2.1.1.later HWw.out).at1 k hka
      have x0 := (HA.out.2.2.1.later HWw.out).at1 k hkb
      obtain ⟨v, hv⟩ : ∃ v, v = a.values.getD k ByteArray.empty := ⟨_, rfl⟩
      obtain ⟨x, hx⟩ : ∃ x, x = b.values.getD k ByteArray.empty := ⟨_, rfl⟩
      rw [← hv] at v0
      rw [← hx] at x0
      have HBa : Hid (tBad fs a.values b.values k = (f.fixed && !v.toList.isEmpty && !(v.toList == x.toList))) := by show tBad _ _ _ _ = _; unfold tBad; rw [← hff, ← hv, ← hx]
      have HM : Hid (tBad fs a.values b.values k = false → k + 1 ≤ tFirst fs a.values b.values) := fun e => tFirst_miss hlt HN.out e
      have HHt : Hid (tBad fs a.values b.values k = true → cc = 4 ∧ cp = k) := by
        intro e
        have e1 := tFirst_hit HN.out hlt e
        rw [HE.out.1, HE.out.2, e1, if_pos hlt, if_pos hlt]
        exact ⟨rfl, rfl⟩
      have hb1 : b1 < wr.heap.size := (HA.out.2.1.1.later HWw.out).lt1
      have hd1 : d1 < wr.heap.size := (HA.out.2.2.1.later HWw.out).lt1
      have hfb : bb < wr.heap.size := (HFI.out.later HWw.out).lt
      have k3 := (HYA.out.later HWr4.out).x3
      have j3 := (HYB.out.later HWr4.out).x3
      have kz := (HYA.out.later HWr4.out).lt
      have jz := (HYB.out.later HWr4.out).lt
      have c8 := hfi.c8
      clear hff hv hx hfi
      cases hfx : f.fixed
      · have HE2 : Hid (k + 1 ≤ tFirst fs a.values b.values) := HM.out (by rw [HBa.out, hfx]; rfl)
        rw [hfx] at c8
        go_wp2_with fail
        go_quiet (fail)
        go_wp2
        go_roundw
        case rel => first | exact ⟨k + 1, by omega, by go_num, HE2.out, blw_drewN HW.out _⟩ | ((repeat apply Exists.intro); exact ⟨⟨k + 1, by omega, by go_num, HE2.out, blw_drewN HW.out _⟩, rfl⟩)
        case measure => simp [intOf]; omega
      rw [hfx] at c8
      cases hem : v.toList.isEmpty
      · cases heq : (v.toList == x.toList)
        · obtain ⟨hcc, hcp⟩ := HHt.out (by rw [HBa.out, hfx, hem, heq]; rfl)
          subst hcc hcp
          go_wp2_with fail
          go_quiet (fail)
          go_wp2
          go_ret2
          exact ⟨rfl, blw_drewN HWw.out _⟩
        · have HE2 : Hid (k + 1 ≤ tFirst fs a.values b.values) := HM.out (by rw [HBa.out, hfx, hem, heq]; rfl)
          go_wp2_with fail
          go_quiet (fail)
          go_wp2
          go_roundw
          case rel => first | exact ⟨k + 1, by omega, by go_num, HE2.out, blw_drewN HW.out _⟩ | ((repeat apply Exists.intro); exact ⟨⟨k + 1, by omega, by go_num, HE2.out, blw_drewN HW.out _⟩, rfl⟩)
          case measure => simp [intOf]; omega
      · have HE2 : Hid (k + 1 ≤ tFirst fs a.values b.values) := HM.out (by rw [HBa.out, hfx, hem]; rfl)
        go_wp2_with fail
        go_quiet (fail)
        go_wp2
        go_roundw
        case rel => first | exact ⟨k + 1, by omega, by go_num, HE2.out, blw_drewN HW.out _⟩ | ((repeat apply Exists.intro); exact ⟨⟨k + 1, by omega, by go_num, HE2.out, blw_drewN HW.out _⟩, rfl⟩)
        case measure => simp [intOf]; omega
    · have hcc : cc = 0 := by rw [HE.out.1, if_neg (by have := HN.out; omega)]
      have hcp : cp = 0 := by rw [HE.out.2, if_neg (by have := HN.out; omega)]
      subst hcc hcp
      go_wp2
      go_ret2
      exact ⟨rfl, HWw.out⟩

end Go.Proofs.YtfbehiagmanflaaGreatDoor
