/-
  The walk over the law of GateTeamsOk.
-/
import Derived.Test.YtikfcnmhfoknlaaWalkTB
import Derived.Test.YtikfcnmhfoknlaaWalkUD
namespace Go.Proofs.Ytikfcnmhfoknlaa
open Go.RowKit Go.Deep

set_option maxHeartbeats 4000000 in
theorem lawTeams (v : Value) (ts : List Tm) (w : World) (h : TmsAt w v ts) :
    Calls Try.prog 4 #[v] w fun e w' => e = .returned (.bool true) ∧ Below w.heap.size w w' := by
  have HH : Hid (TmsAt w v ts) := h
  clear h
  go_enter Try.func4, Try.ntmps4
  go_wp2_with fail
  refine (szTeams v ts 1048576 w (by omega) (by omega) HH.out).mono ?_
  rintro e w1 ⟨⟨r, rfl, hr⟩, hB1⟩
  have HR : Hid (szP ((ts.length : Int) ≤ 1048576) 1048576 r) := hr
  clear hr
  by_cases c1 : r < 0
  · go_wp2
    go_ret
    exact ⟨rfl, hB1⟩
  have HL : Hid (ts.length ≤ 1048576) := by have := HR.out.2.2 (by omega); show ts.length ≤ 1048576; omega
  have HB1 : Hid (Below w.heap.size w w1) := hB1
  clear HR hB1
  have HT : Hid (∀ W, Below w.heap.size w W → Calls Try.prog 9 #[v] W fun e w' => e = .returned (.slice (some ⟨W.heap.size, 0, none⟩) ts.length ts.length) ∧ Below W.heap.size W w' ∧ TmsIn w' W.heap.size ts) :=
    fun W hW => toTeams v ts W HL.out (HH.out.later hW)
  go_wp2_with fail
  refine (HT.out _ HB1.out).mono ?_
  rintro e w3 ⟨rfl, hb3, hi3⟩
  have HB3 : Hid (Below w.heap.size w w3) := blw_trans HB1.out hb3
  have HI3 : Hid (TmsIn w3 w1.heap.size ts) := hi3
  clear hb3 hi3
  go_wp2_with fail
  refine (teamsOkS _ ts w3 HI3.out).mono ?_
  rintro e w5 ⟨rfl, hb5⟩
  have HB5 : Hid (Below w.heap.size w w5) := blw_trans HB3.out hb5
  clear HI3 hb5
  go_wp2_with fail
  refine (HT.out _ HB5.out).mono ?_
  rintro e w6 ⟨rfl, hb6, hi6⟩
  have HB6 : Hid (Below w.heap.size w w6) := blw_trans HB5.out hb6
  have HI6 : Hid (TmsIn w6 w5.heap.size ts) := hi6
  clear hb6 hi6
  go_wp2_with fail
  refine (teamsOkI _ ts w6 HI6.out).mono ?_
  rintro e w8 ⟨rfl, hb8⟩
  have HB8 : Hid (Below w.heap.size w w8) := blw_trans HB6.out hb8
  have HI8 : Hid (TmsIn w8 w5.heap.size ts) := HI6.out.later hb8
  obtain ⟨R, hR⟩ : ∃ R, R = teamsOk ts := ⟨_, rfl⟩
  rw [← hR]
  clear hb8 hR HI6
  go_wp2_with fail
  refine (HT.out _ HB8.out).mono ?_
  rintro e w9 ⟨rfl, hb9, hi9⟩
  have HB9 : Hid (Below w.heap.size w w9) := blw_trans HB8.out hb9
  have HI9 : Hid (TmsIn w9 w5.heap.size ts ∧ TmsIn w9 w8.heap.size ts) := ⟨HI8.out.later hb9, hi9⟩
  clear hb9 hi9 HI8
  go_wp2_with fail
  refine (eqTeams _ _ ts w9 HI9.out.1 HI9.out.2).mono ?_
  rintro e w12 ⟨rfl, hb12⟩
  have hB12 := blw_trans HB9.out hb12
  go_wp2
  go_ret
  exact ⟨rfl, hB12⟩

end Go.Proofs.Ytikfcnmhfoknlaa
