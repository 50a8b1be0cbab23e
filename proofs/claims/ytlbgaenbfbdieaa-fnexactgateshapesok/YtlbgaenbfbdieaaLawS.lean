/-
  The walk over the law of GateShapesOk.
-/
import Derived.Test.YtlbgaenbfbdieaaWalkM
import Derived.Test.YtlbgaenbfbdieaaWalkZ
namespace Go.Proofs.Ytlbgaenbfbdieaa
open Go.RowKit Go.Deep

set_option maxHeartbeats 2000000 in
theorem lawShapes (v : Value) (ss : List Shp) (w : World) (h : ShpsAt w v ss) :
    Calls Try.prog 4 #[v] w fun e w' => e = .returned (.bool true) ∧ Below w.heap.size w w' := by
  have HH : Hid (ShpsAt w v ss) := h
  clear h
  go_enter Try.func4, Try.ntmps4
  go_wp2_with fail
  refine (szShapes v ss 1048576 w (by omega) (by omega) HH.out).mono ?_
  rintro e w1 ⟨⟨r, rfl, hr⟩, hB1⟩
  have HR : Hid (szP (((ss.length : Int) ≤ 1048576) ∧ ∀ s ∈ ss, s.small) 1048576 r) := hr
  clear hr
  by_cases c1 : r < 0
  · go_wp2
    go_ret
    exact ⟨rfl, hB1⟩
  have HL : Hid (ss.length ≤ 1048576 ∧ ∀ s ∈ ss, s.small) := by have := HR.out.2.2 (by omega); exact ⟨by omega, this.2⟩
  clear HR
  have HT : Hid (∀ W, Below w.heap.size w W → Calls Try.prog 13 #[v] W fun e w' => e = .returned (.slice (some ⟨W.heap.size, 0, none⟩) ss.length ss.length) ∧ Below W.heap.size W w' ∧ ShpsIn w' W.heap.size ss) := by
    intro W hW
    refine (toShapes v ss W HL.out.1 HL.out.2 (HH.out.later hW)).mono ?_
    rintro e w' ⟨rfl, h1, h2, h3⟩
    exact ⟨rfl, h1, ⟨h2, HL.out.1, HL.out.2, h3⟩⟩
  go_wp2_with fail
  refine (HT.out _ hB1).mono ?_
  rintro e w2 ⟨rfl, hb2, hi2⟩
  have hB2 := blw_trans hB1 hb2
  have HI2 : Hid (ShpsIn w2 w1.heap.size ss) := hi2
  clear hb2 hi2
  go_wp2_with fail
  refine (shapesOkS w1.heap.size ss w2 HI2.out).mono ?_
  rintro e w3 ⟨rfl, hb3⟩
  have hB3 := blw_trans hB2 hb3
  clear hb3
  go_wp2_with fail
  refine (HT.out _ hB3).mono ?_
  rintro e w4 ⟨rfl, hb4, hi4⟩
  have hB4 := blw_trans hB3 hb4
  have HI4 : Hid (ShpsIn w4 w3.heap.size ss) := hi4
  clear hb4 hi4
  go_wp2_with fail
  refine (shapesOkI w3.heap.size ss w4 HI4.out).mono ?_
  rintro e w5 ⟨rfl, hb5⟩
  have hB5 := blw_trans hB4 hb5
  have HI5 : Hid (ShpsIn w5 w3.heap.size ss) := HI4.out.later hb5
  clear hb5
  go_wp2_with fail
  refine (HT.out _ hB5).mono ?_
  rintro e w6 ⟨rfl, hb6, hi6⟩
  have hB6 := blw_trans hB5 hb6
  have HI6 : Hid (ShpsIn w6 w5.heap.size ss ∧ ShpsIn w6 w3.heap.size ss) := ⟨hi6, HI5.out.later hb6⟩
  clear hb6 hi6
  go_wp2_with fail
  refine (eqShapes w3.heap.size w5.heap.size ss w6 HL.out.1 HL.out.2 HI6.out.2.lt HI6.out.1.lt HI6.out.2.at_ HI6.out.1.at_).mono ?_
  rintro e w7 ⟨rfl, hb7⟩
  have hB7 := blw_trans hB6 hb7
  go_wp2
  go_ret
  exact ⟨rfl, hB7⟩

end Go.Proofs.Ytlbgaenbfbdieaa
