/-
  Walks: GateCheck: the program.
-/
import Derived.Test.YtfbehiagmanflaaDoorWalkCB
namespace Go.Proofs.YtfbehiagmanflaaDoor
open Go.RowKit Go.Deep

def chCode (ss : List Shp) (o : Ob) : Nat := if (shapesOk ss && hasKind ss o.kind) = true then obCode (ss.getD (kindAt ss o.kind) Shp.none).fields o else 1
def chPlace (ss : List Shp) (o : Ob) : Nat := if (shapesOk ss && hasKind ss o.kind) = true then (if obCode (ss.getD (kindAt ss o.kind) Shp.none).fields o = 0 then 0 else obPlace (ss.getD (kindAt ss o.kind) Shp.none).fields o) else 0

set_option maxRecDepth 8000 in
set_option maxHeartbeats 4000000 in
theorem gateCheckI (B : Nat) (ss : List Shp) (o : Ob) (b1 c1 b2 c2 : Nat) (w : World) (hh : Handle w) (h : ShpsIn w B ss) (ho : ObArg w b1 b2 o) (hs : o.sized) (hz1 : ∀ i, i < o.values.length → (o.values.getD i ByteArray.empty).size ≤ maxLen) (hz2 : ∀ i, i < o.holds.length → (o.holds.getD i ByteArray.empty).size ≤ maxLen) :
    Calls Tryd.prog 9 #[.slice (some ⟨B, 0, none⟩) ss.length ss.length, .agg #[.string o.kind, .string o.name, .string o.team, .slice (some ⟨b1, 0, none⟩) o.values.length c1, .bool o.ending, .slice (some ⟨b2, 0, none⟩) o.holds.length c2, .int .i64 o.version]] w fun e w' => e = .returned (.tuple #[.int .i64 (chCode ss o : Nat), .int .i64 (chPlace ss o : Nat)]) ∧ Below w.heap.size w w' := by
  have HA : Hid (Handle w ∧ ShpsIn w B ss ∧ ObArg w b1 b2 o ∧ o.sized ∧ (∀ i, i < o.values.length → (o.values.getD i ByteArray.empty).size ≤ maxLen) ∧ (∀ i, i < o.holds.length → (o.holds.getD i ByteArray.empty).size ≤ maxLen)) := ⟨hh, h, ho, hs, hz1, hz2⟩
  clear hh h ho hs hz1 hz2
  obtain ⟨w1, hw1⟩ : ∃ w1, w1 = w.alloc (.cells #[.string o.kind, .string o.name, .string o.team, .slice (some ⟨b1, 0, none⟩) o.values.length c1, .bool o.ending, .slice (some ⟨b2, 0, none⟩) o.holds.length c2, .int .i64 o.version] 32) := ⟨_, rfl⟩
  have HB : Hid (Below w.heap.size w w1) := by show Below _ _ _; rw [hw1]; exact blw_alloc (Below.refl _ _) _
  have HZ : Hid (w1.heap.size = w.heap.size + 1) := by show _ = _; rw [hw1]; simp
  have HK : Hid (w1.cell? ⟨w.heap.size, 0, none⟩ = some (.string o.kind) ∧ w1.cell? ⟨w.heap.size, 1, none⟩ = some (.string o.name) ∧ w1.cell? ⟨w.heap.size, 2, none⟩ = some (.string o.team) ∧ w1.cell? ⟨w.heap.size, 3, none⟩ = some (.slice (some ⟨b1, 0, none⟩) o.values.length c1) ∧ w1.cell? ⟨w.heap.size, 4, none⟩ = some (.bool o.ending) ∧ w1.cell? ⟨w.heap.size, 5, none⟩ = some (.slice (some ⟨b2, 0, none⟩) o.holds.length c2) ∧ w1.cell? ⟨w.heap.size, 6, none⟩ = some (.int .i64 o.version)) := by
    refine ⟨?_, ?_, ?_, ?_, ?_, ?_, ?_⟩ <;> (rw [hw1]; simp)
  have k0 := HK.out.1
  have hz : w.heap.size < w1.heap.size := by have := HZ.out; omega
  obtain ⟨cc, hcc⟩ : ∃ cc, cc = chCode ss o := ⟨_, rfl⟩
  obtain ⟨cp, hcp⟩ : ∃ cp, cp = chPlace ss o := ⟨_, rfl⟩
  rw [← hcc, ← hcp]
  have HC : Hid (cc = chCode ss o ∧ cp = chPlace ss o) := ⟨hcc, hcp⟩
  clear hcc hcp
  go_enter Tryd.func9, Tryd.ntmps9
  go_upto_region 1 with fail
  rw [← hw1]
  clear hw1
  go_wp2_with fail
  refine (okShapeOf w B ss o.kind w1 HA.out.2.1 HB.out).mono ?_
  rintro e w2 ⟨kd, a, n, c, rfl, hso, hb2⟩
  have HB2 : Hid (Below w1.heap.size w1 w2) := hb2
  have HSO : Hid ((shapesOk ss && hasKind ss o.kind) = true → ShapeOf ss o.kind w kd (.slice a n c)) := hso
  clear hb2 hso k0 hz
  cases hok : (shapesOk ss && hasKind ss o.kind)
  · have HE : Hid (cc = 1 ∧ cp = 0) := by show cc = 1 ∧ cp = 0; rw [HC.out.1, HC.out.2]; unfold chCode chPlace; rw [hok]; simp
    have hcc : cc = 1 := HE.out.1
    have hcp : cp = 0 := HE.out.2
    subst hcc hcp
    go_wp2
    go_ret2
    exact ⟨rfl, blw_alloc (blw_trans HB.out HB2.out) _⟩
  obtain ⟨e1, b, e2, hbl, hfs⟩ := HSO.out hok (by have := (Bool.and_eq_true _ _).mp hok; exact this.2)
  have hkl : kindAt ss o.kind < ss.length := by have := (Bool.and_eq_true _ _).mp hok; have h2 := this.2; unfold hasKind at h2; exact of_decide_eq_true h2
  obtain ⟨s, hs⟩ : ∃ s, s = ss.getD (kindAt ss o.kind) Shp.none := ⟨_, rfl⟩
  rw [← hs] at e1 e2 hfs
  subst e1
  injection e2 with e2 e3 e4
  subst e2 e3 e4
  have hsm : s.small := HA.out.2.1.small s (by rw [hs]; simp [hkl])
  have HFI : Hid (FldsIn w b s.fields) := ⟨hbl, hsm.1, hsm.2, hfs⟩
  have HE : Hid (cc = obCode s.fields o ∧ cp = (if obCode s.fields o = 0 then 0 else obPlace s.fields o)) := by show _ ∧ _; rw [HC.out.1, HC.out.2]; unfold chCode chPlace; rw [hok, if_pos rfl, if_pos rfl, ← hs]; exact ⟨rfl, rfl⟩
  clear hs hsm hfs hbl hkl HSO HC
  have hz : w.heap.size < w2.heap.size := by have := HZ.out; have := HB2.out.size; omega
  have q : ∀ j, w2.cell? ⟨w.heap.size, j, none⟩ = w1.cell? ⟨w.heap.size, j, none⟩ := fun j => HB2.out.cell (p := ⟨w.heap.size, j, none⟩) (by have := HZ.out; show w.heap.size < _; omega)
  have o0 := (q 0).trans HK.out.1
  have o1 := (q 1).trans HK.out.2.1
  have o2 := (q 2).trans HK.out.2.2.1
  have o3 := (q 3).trans HK.out.2.2.2.1
  have o4 := (q 4).trans HK.out.2.2.2.2.1
  have o5 := (q 5).trans HK.out.2.2.2.2.2.1
  have o6 := (q 6).trans HK.out.2.2.2.2.2.2
  clear q
  have HB3 : Hid (∀ x, Below w.heap.size w (w2.alloc x)) := fun x => blw_alloc (blw_trans HB.out HB2.out) x
  go_wp2_with fail
  refine (checkObject s.kind b s.fields o b1 c1 b2 c2 _ (HA.out.2.2.1.later (HB3.out _)) (HFI.out.later (HB3.out _)) HA.out.2.2.2.1 HA.out.2.2.2.2.1 HA.out.2.2.2.2.2).mono ?_
  rintro e w4 ⟨rfl, hb4⟩
  have HB4 : Hid (Below w.heap.size w w4) := blw_trans (HB3.out _) hb4
  clear hb4 o0 o1 o2 o3 o4 o5 o6 hz
  have HX : Hid (Calls Tryd.prog 19 #[errV (obCode s.fields o) (obPlace s.fields o)] w4 fun e w' => e = .returned (.tuple #[.int .i64 (cc : Nat), .int .i64 (cp : Nat)]) ∧ Below w4.heap.size w4 w') := by
    have := told (obCode s.fields o) (obPlace s.fields o) w4 (HA.out.1.later HB4.out)
    rw [← HE.out.1] at this
    have e2 := HE.out.2
    rw [← HE.out.1] at e2
    rw [← e2] at this
    rw [HE.out.1] at this ⊢
    exact this
  go_wp2_with fail
  refine HX.out.mono ?_
  rintro e w5 ⟨rfl, hb5⟩
  have hB5 := blw_trans HB4.out hb5
  clear hb5
  go_wp2
  go_ret2
  exact ⟨rfl, hB5⟩

end Go.Proofs.YtfbehiagmanflaaDoor
