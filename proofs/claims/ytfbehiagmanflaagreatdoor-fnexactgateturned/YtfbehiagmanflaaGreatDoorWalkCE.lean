/-
  Walks: GateCheck: the specification's face.
-/
import Derived.Test.YtfbehiagmanflaaGreatDoorWalkCD
namespace Go.Proofs.YtfbehiagmanflaaGreatDoor
open Go.RowKit Go.Deep

set_option maxRecDepth 8000 in
set_option maxHeartbeats 4000000 in
theorem gateCheckS (B : Nat) (ss : List Shp) (o : Ob) (b1 c1 b2 c2 : Nat) (w : World) (h : ShpsIn w B ss) (ho : ObArg w b1 b2 o) (hs : o.sized) (hz1 : ∀ i, i < o.values.length → (o.values.getD i ByteArray.empty).size ≤ maxLen) (hz2 : ∀ i, i < o.holds.length → (o.holds.getD i ByteArray.empty).size ≤ maxLen) :
    Calls Tryz.prog 14 #[.slice (some ⟨B, 0, none⟩) ss.length ss.length, .agg #[.string o.kind, .string o.name, .string o.team, .slice (some ⟨b1, 0, none⟩) o.values.length c1, .bool o.ending, .slice (some ⟨b2, 0, none⟩) o.holds.length c2, .int .i64 o.version]] w fun e w' => e = .returned (.tuple #[.int .i64 (chCode ss o : Nat), .int .i64 (chPlace ss o : Nat)]) ∧ Below w.heap.size w w' := by
  have HA : Hid (ShpsIn w B ss ∧ ObArg w b1 b2 o ∧ o.sized ∧ (∀ i, i < o.values.length → (o.values.getD i ByteArray.empty).size ≤ maxLen) ∧ (∀ i, i < o.holds.length → (o.holds.getD i ByteArray.empty).size ≤ maxLen)) := ⟨h, ho, hs, hz1, hz2⟩
  clear h ho hs hz1 hz2
  obtain ⟨w1, hw1⟩ : ∃ w1, w1 = w.alloc (.cells #[.string o.kind, .string o.name, .string o.team, .slice (some ⟨b1, 0, none⟩) o.values.length c1, .bool o.ending, .slice (some ⟨b2, 0, none⟩) o.holds.length c2, .int .i64 o.version] 32) := ⟨_, rfl⟩
  have HB : Hid (Below w.heap.size w w1) := by show Below _ _ _; rw [hw1]; exact blw_alloc (Below.refl _ _) _
  have HZ : Hid (w1.heap.size = w.heap.size + 1) := by show _ = _; rw [hw1]; simp
  have HK : Hid (w1.cell? ⟨w.heap.size, 0, none⟩ = some (.string o.kind) ∧ w1.cell? ⟨w.heap.size, 1, none⟩ = some (.string o.name) ∧ w1.cell? ⟨w.heap.size, 2, none⟩ = some (.string o.team) ∧ w1.cell? ⟨w.heap.size, 3, none⟩ = some (.slice (some ⟨b1, 0, none⟩) o.values.length c1) ∧ w1.cell? ⟨w.heap.size, 4, none⟩ = some (.bool o.ending) ∧ w1.cell? ⟨w.heap.size, 5, none⟩ = some (.slice (some ⟨b2, 0, none⟩) o.holds.length c2) ∧ w1.cell? ⟨w.heap.size, 6, none⟩ = some (.int .i64 o.version)) := by
    refine ⟨?_, ?_, ?_, ?_, ?_, ?_, ?_⟩ <;> (rw [hw1]; simp)
  go_enter Tryz.func14, Tryz.ntmps14
  go_upto_region 1 with fail
  rw [← hw1]
  clear hw1
  go_wp2_with fail
  refine (shapesOkS B ss w1 (HA.out.1.later HB.out)).mono ?_
  rintro e w2 ⟨rfl, hb2⟩
  have HB2 : Hid (Below w1.heap.size w1 w2) := hb2
  have HW2 : Hid (Below w.heap.size w w2) := blw_trans HB.out hb2
  clear hb2
  cases hok : shapesOk ss
  · have HCC : Hid (chCode ss o = 1 ∧ chPlace ss o = 0) := ⟨by unfold chCode; rw [hok]; simp, by unfold chPlace; rw [hok]; simp⟩
    go_wp2
    go_ret2
    exact ⟨by rw [HCC.out.1, HCC.out.2]; rfl, HW2.out⟩
  have HOK : Hid (shapesOk ss = true) := hok
  clear hok
  have hz : w.heap.size < w2.heap.size := by have := HZ.out; have := HB2.out.size; omega
  have q : ∀ j, w2.cell? ⟨w.heap.size, j, none⟩ = w1.cell? ⟨w.heap.size, j, none⟩ := fun j => HB2.out.cell (p := ⟨w.heap.size, j, none⟩) (by have := HZ.out; show w.heap.size < _; omega)
  have o0 := (q 0).trans HK.out.1
  have o1 := (q 1).trans HK.out.2.1
  have o2 := (q 2).trans HK.out.2.2.1
  have o3 := (q 3).trans HK.out.2.2.2.1
  have o4 := (q 4).trans HK.out.2.2.2.2.1
  have o5 := (q 5).trans HK.out.2.2.2.2.2.1
  have o6 := (q 6).trans HK.out.2.2.2.2.2.2
  clear q
  go_wp2_with fail
  refine (l2CheckS B ss o b1 c1 b2 c2 w2 HOK.out (HA.out.1.later HW2.out) (HA.out.2.1.later HW2.out) HA.out.2.2.1 HA.out.2.2.2.1 HA.out.2.2.2.2).mono ?_
  rintro e w3 ⟨rfl, hb3⟩
  have hB3 := blw_trans HW2.out hb3
  clear hb3
  go_wp2
  go_ret2
  exact ⟨rfl, hB3⟩

end Go.Proofs.YtfbehiagmanflaaGreatDoor
