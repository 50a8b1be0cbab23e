/-
  Walks: GateTurned: the program's face.
-/
import Derived.Test.YtfbehiagmanflaaGreatDoorWalkTA
import Derived.Test.YtfbehiagmanflaaGreatDoorWalkCC
namespace Go.Proofs.YtfbehiagmanflaaGreatDoor
open Go.RowKit Go.Deep

def tuCode (ss : List Shp) (a b : Ob) : Nat := if (shapesOk ss && hasKind ss a.kind) = true then toCode (ss.getD (kindAt ss a.kind) Shp.none).fields a b else 1
def tuPlace (ss : List Shp) (a b : Ob) : Nat := if (shapesOk ss && hasKind ss a.kind) = true then toPlace (ss.getD (kindAt ss a.kind) Shp.none).fields a b else 0

theorem toPlace_zero {fs : List Fld} {a b : Ob} (h : toCode fs a b = 0) : toPlace fs a b = 0 := by
  unfold toCode at h
  unfold toPlace
  split at h
  · split at h
    · cases h
    · rename_i h1 h2; rw [if_pos h1, if_neg h2]
  · cases h

set_option maxRecDepth 8000 in
set_option maxHeartbeats 4000000 in
theorem gateTurnedI (B : Nat) (ss : List Shp) (a b : Ob) (b1 c1 b2 c2 d1 e1 d2 e2 : Nat) (w : World) (hh : Handle w) (h : ShpsIn w B ss) (ha : ObArg w b1 b2 a) (hb : ObArg w d1 d2 b) (sa : a.sized ∧ (∀ i, i < a.values.length → (a.values.getD i ByteArray.empty).size ≤ maxLen) ∧ (∀ i, i < a.holds.length → (a.holds.getD i ByteArray.empty).size ≤ maxLen)) (sb : b.sized ∧ (∀ i, i < b.values.length → (b.values.getD i ByteArray.empty).size ≤ maxLen) ∧ (∀ i, i < b.holds.length → (b.holds.getD i ByteArray.empty).size ≤ maxLen)) :
    Calls Tryz.prog 9 #[.slice (some ⟨B, 0, none⟩) ss.length ss.length, .agg #[.string a.kind, .string a.name, .string a.team, .slice (some ⟨b1, 0, none⟩) a.values.length c1, .bool a.ending, .slice (some ⟨b2, 0, none⟩) a.holds.length c2, .int .i64 a.version], .agg #[.string b.kind, .string b.name, .string b.team, .slice (some ⟨d1, 0, none⟩) b.values.length e1, .bool b.ending, .slice (some ⟨d2, 0, none⟩) b.holds.length e2, .int .i64 b.version]] w fun e w' => e = .returned (.tuple #[.int .i64 (tuCode ss a b : Nat), .int .i64 (tuPlace ss a b : Nat)]) ∧ Below w.heap.size w w' := by
  have HA : Hid (Handle w ∧ ShpsIn w B ss ∧ (ObArg w b1 b2 a ∧ (a.sized ∧ (∀ i, i < a.values.length → (a.values.getD i ByteArray.empty).size ≤ maxLen) ∧ (∀ i, i < a.holds.length → (a.holds.getD i ByteArray.empty).size ≤ maxLen))) ∧ (ObArg w d1 d2 b ∧ (b.sized ∧ (∀ i, i < b.values.length → (b.values.getD i ByteArray.empty).size ≤ maxLen) ∧ (∀ i, i < b.holds.length → (b.holds.getD i ByteArray.empty).size ≤ maxLen)))) := ⟨hh, h, ⟨ha, sa⟩, ⟨hb, sb⟩⟩
  clear hh h ha hb sa sb
  obtain ⟨u1, hu1⟩ : ∃ u1, u1 = w.alloc (.cells #[.string a.kind, .string a.name, .string a.team, .slice (some ⟨b1, 0, none⟩) a.values.length c1, .bool a.ending, .slice (some ⟨b2, 0, none⟩) a.holds.length c2, .int .i64 a.version] 32) := ⟨_, rfl⟩
  obtain ⟨w2, hu2⟩ : ∃ w2, w2 = u1.alloc (.cells #[.string b.kind, .string b.name, .string b.team, .slice (some ⟨d1, 0, none⟩) b.values.length e1, .bool b.ending, .slice (some ⟨d2, 0, none⟩) b.holds.length e2, .int .i64 b.version] 32) := ⟨_, rfl⟩
  have z1 : u1.heap.size = w.heap.size + 1 := by rw [hu1]; simp
  have z2 : w2.heap.size = w.heap.size + 1 + 1 := by rw [hu2, World.size_alloc, z1]
  have g1 : Below w.heap.size w u1 := by rw [hu1]; exact blw_alloc (Below.refl _ _) _
  have g2 : Below u1.heap.size u1 w2 := by rw [hu2]; exact blw_alloc (Below.refl _ _) _
  have HB : Hid (Below w.heap.size w w2) := blw_trans g1 g2
  have HXA : Hid (BoxAt w2 w.heap.size a (.slice (some ⟨b1, 0, none⟩) a.values.length c1) (.slice (some ⟨b2, 0, none⟩) a.holds.length c2)) := (by rw [hu1]; exact BoxAt.new w a _ _ 32 : BoxAt u1 w.heap.size a (.slice (some ⟨b1, 0, none⟩) a.values.length c1) (.slice (some ⟨b2, 0, none⟩) a.holds.length c2)).later g2
  have HXB : Hid (BoxAt w2 (w.heap.size + 1) b (.slice (some ⟨d1, 0, none⟩) b.values.length e1) (.slice (some ⟨d2, 0, none⟩) b.holds.length e2)) := (by rw [hu2]; exact BoxAt.new u1 b _ _ 32 : BoxAt w2 u1.heap.size b (.slice (some ⟨d1, 0, none⟩) b.values.length e1) (.slice (some ⟨d2, 0, none⟩) b.holds.length e2)).at_ z1.symm
  obtain ⟨cc, hcc⟩ : ∃ cc, cc = tuCode ss a b := ⟨_, rfl⟩
  obtain ⟨cp, hcp⟩ : ∃ cp, cp = tuPlace ss a b := ⟨_, rfl⟩
  rw [← hcc, ← hcp]
  have HC : Hid (cc = tuCode ss a b ∧ cp = tuPlace ss a b) := ⟨hcc, hcp⟩
  clear hcc hcp
  go_enter Tryz.func9, Tryz.ntmps9
  go_upto_region 1 with fail
  rw [← hu1, ← hu2]
  clear hu1 hu2 z1 z2 g1 g2
  have k0 := HXA.out.x0
  have kz := HXA.out.lt
  go_wp2_with fail
  refine (okShapeOf w B ss a.kind w2 HA.out.2.1 HB.out).mono ?_
  rintro e w3 ⟨kd, q, n, c, rfl, hso, hb3⟩
  have HB3 : Hid (Below w2.heap.size w2 w3) := hb3
  have HSO : Hid ((shapesOk ss && hasKind ss a.kind) = true → ShapeOf ss a.kind w kd (.slice q n c)) := hso
  clear hb3 hso k0 kz
  cases hok : (shapesOk ss && hasKind ss a.kind)
  · have hcc : cc = 1 := by rw [HC.out.1]; unfold tuCode; rw [hok]; simp
    have hcp : cp = 0 := by rw [HC.out.2]; unfold tuPlace; rw [hok]; simp
    subst hcc hcp
    go_wp2
    go_ret2
    exact ⟨rfl, blw_alloc (blw_trans HB.out HB3.out) _⟩
  obtain ⟨e1', bb, e2', hbl, hfs⟩ := HSO.out hok (by have := (Bool.and_eq_true _ _).mp hok; exact this.2)
  have hkl : kindAt ss a.kind < ss.length := by have := (Bool.and_eq_true _ _).mp hok; have h2 := this.2; unfold hasKind at h2; exact of_decide_eq_true h2
  obtain ⟨s, hs⟩ : ∃ s, s = ss.getD (kindAt ss a.kind) Shp.none := ⟨_, rfl⟩
  rw [← hs] at e1' e2' hfs
  subst e1'
  injection e2' with q1 q2 q3
  subst q1 q2 q3
  have hsm : s.small := HA.out.2.1.small s (by rw [hs]; simp [hkl])
  have HFI : Hid (FldsIn w bb s.fields) := ⟨hbl, hsm.1, hsm.2, hfs⟩
  have HE : Hid (cc = toCode s.fields a b ∧ cp = toPlace s.fields a b) := by show _ ∧ _; rw [HC.out.1, HC.out.2]; unfold tuCode tuPlace; rw [hok, if_pos rfl, if_pos rfl, ← hs]; exact ⟨rfl, rfl⟩
  clear hs hsm hfs hbl hkl HSO HC
  have yA := HXA.out.later HB3.out
  have yB := HXB.out.later HB3.out
  have f0 := yA.x0
  have f1 := yA.x1
  have f2 := yA.x2
  have f3 := yA.x3
  have f4 := yA.x4
  have f5 := yA.x5
  have f6 := yA.x6
  have fz := yA.lt
  have g0 := yB.x0
  have g1 := yB.x1
  have g2 := yB.x2
  have g3 := yB.x3
  have g4 := yB.x4
  have g5 := yB.x5
  have g6 := yB.x6
  have gz := yB.lt
  clear yA yB
  have HB4 : Hid (∀ x, Below w.heap.size w (w3.alloc x)) := fun x => blw_alloc (blw_trans HB.out HB3.out) x
  go_wp2_with fail
  refine (turnObject s.kind bb s.fields a b b1 c1 b2 c2 d1 e1 d2 e2 _ (HA.out.2.2.1.1.later (HB4.out _)) (HA.out.2.2.2.1.later (HB4.out _)) (HFI.out.later (HB4.out _)) HA.out.2.2.1.2 HA.out.2.2.2.2).mono ?_
  rintro e w5 ⟨rfl, hb5⟩
  have HB5 : Hid (Below w.heap.size w w5) := blw_trans (HB4.out _) hb5
  clear hb5 f0 f1 f2 f3 f4 f5 f6 fz g0 g1 g2 g3 g4 g5 g6 gz
  have HX : Hid (Calls Tryz.prog 19 #[errV (toCode s.fields a b) (toPlace s.fields a b)] w5 fun e w' => e = .returned (.tuple #[.int .i64 (cc : Nat), .int .i64 (cp : Nat)]) ∧ Below w5.heap.size w5 w') := by
    have := told (toCode s.fields a b) (toPlace s.fields a b) w5 (HA.out.1.later HB5.out)
    have ep : (if toCode s.fields a b = 0 then 0 else toPlace s.fields a b) = toPlace s.fields a b := by
      by_cases hz : toCode s.fields a b = 0
      · rw [if_pos hz, toPlace_zero hz]
      · rw [if_neg hz]
    rw [ep] at this
    rw [HE.out.1, HE.out.2]
    exact this
  go_wp2_with fail
  refine HX.out.mono ?_
  rintro e w6 ⟨rfl, hb6⟩
  have hB6 := blw_trans HB5.out hb6
  clear hb6
  go_wp2
  go_ret2
  exact ⟨rfl, hB6⟩

end Go.Proofs.YtfbehiagmanflaaGreatDoor
