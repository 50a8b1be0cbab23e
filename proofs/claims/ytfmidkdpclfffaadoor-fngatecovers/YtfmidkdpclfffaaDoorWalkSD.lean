/-
  Walks: GateCovers, the specification's and the program's.
-/
import Derived.Test.YtfmidkdpclfffaaDoorWalkSE
import Derived.Test.YtfmidkdpclfffaaDoorWalkSC
namespace Go.Proofs.YtfmidkdpclfffaaDoor
open Go.RowKit Go.Deep

variable {CT CR CV CQ CL : Nat}

set_option maxHeartbeats 2000000 in
theorem coversS (B Br b : Nat) (ts : List Tm) (rs : List Rul) (r : Rul) (w : World) (hT : TmsIn w B ts) (hR : RulsIn w Br rs) (h : IntsIn w b r.verbs) (hs : r.sized) :
    Calls Tryd.prog 7 #[.slice (some ⟨B, 0, none⟩) ts.length CT, .slice (some ⟨Br, 0, none⟩) rs.length CR, .agg #[.slice (some ⟨b, 0, none⟩) r.verbs.length CV, .string r.kind, .string r.team, .string r.pre]] w fun e w' => e = .returned (.bool (covers ts rs r)) ∧ Below w.heap.size w w' := by
  have HM : Hid (∀ W, Below w.heap.size w W → TmsIn W B ts ∧ RulsIn W Br rs ∧ IntsIn W b r.verbs ∧ r.sized) := fun W hW => ⟨hT.later hW, hR.later hW, h.later hW, hs⟩
  obtain ⟨w1, hw1⟩ : ∃ w1, w1 = (w.alloc (.cells #[.slice (some ⟨b, 0, none⟩) r.verbs.length CV, .string r.kind, .string r.team, .string r.pre] 27)) := ⟨_, rfl⟩
  have HB1 : Hid (Below w.heap.size w w1) := by rw [hw1]; exact blw_alloc (Below.refl _ _) _
  have HX1 : Hid (Boxed w1 w.heap.size #[.slice (some ⟨b, 0, none⟩) r.verbs.length CV, .string r.kind, .string r.team, .string r.pre]) := by rw [hw1]; exact Boxed.new w _ 27
  obtain ⟨A, hA⟩ : ∃ A, A = allOk ts rs r := ⟨_, rfl⟩
  obtain ⟨L, hL⟩ : ∃ L, L = lackOf ts rs r r.verbs := ⟨_, rfl⟩
  obtain ⟨R, hRr⟩ : ∃ R, R = covers ts rs r := ⟨_, rfl⟩
  have HR : Hid (R = (A && (L == 0))) := by show R = _; rw [hRr, hA, hL]; rfl
  have HAL : Hid (A = allOk ts rs r ∧ L = lackOf ts rs r r.verbs) := ⟨hA, hL⟩
  rw [← hRr]
  clear hT hR h hs hA hL hRr
  have c0 : w1.cell? ⟨w.heap.size, 0, none⟩ = some (.slice (some ⟨b, 0, none⟩) r.verbs.length CV) := HX1.out.2 0
  have c1 : w1.cell? ⟨w.heap.size, 1, none⟩ = some (.string r.kind) := HX1.out.2 1
  have c2 : w1.cell? ⟨w.heap.size, 2, none⟩ = some (.string r.team) := HX1.out.2 2
  have c3 : w1.cell? ⟨w.heap.size, 3, none⟩ = some (.string r.pre) := HX1.out.2 3
  go_enter Tryd.func7, Tryd.ntmps7
  go_upto_region 1 with fail
  rw [← hw1]
  clear hw1
  go_wp2_with fail
  refine (l4AllOk B Br b ts rs r w1 (HM.out _ HB1.out).1 (HM.out _ HB1.out).2.1 (HM.out _ HB1.out).2.2.1 (HM.out _ HB1.out).2.2.2).mono ?_
  rintro e w2 ⟨rfl, hb2⟩
  rw [← HAL.out.1]
  have HB2 : Hid (Below w.heap.size w w2) := blw_trans HB1.out hb2
  have HX2 : Hid (Boxed w2 w.heap.size #[.slice (some ⟨b, 0, none⟩) r.verbs.length CV, .string r.kind, .string r.team, .string r.pre]) := HX1.out.later hb2
  clear hb2 HB1 HX1 c0 c1 c2 c3
  cases hA : A
  · have HE : Hid (R = false) := by show R = false; rw [HR.out, hA]; rfl
    clear hA
    go_wp2
    go_ret
    exact ⟨Pl.ret_bool HE.out.symm, HB2.out⟩
  have HE : Hid (R = (L == 0)) := by show R = _; rw [HR.out, hA]; rfl
  clear hA
  have c0 : w2.cell? ⟨w.heap.size, 0, none⟩ = some (.slice (some ⟨b, 0, none⟩) r.verbs.length CV) := HX2.out.2 0
  have c1 : w2.cell? ⟨w.heap.size, 1, none⟩ = some (.string r.kind) := HX2.out.2 1
  have c2 : w2.cell? ⟨w.heap.size, 2, none⟩ = some (.string r.team) := HX2.out.2 2
  have c3 : w2.cell? ⟨w.heap.size, 3, none⟩ = some (.string r.pre) := HX2.out.2 3
  go_wp2_with fail
  refine (l4Lacks B Br b ts rs r w2 (HM.out _ HB2.out).1 (HM.out _ HB2.out).2.1 (HM.out _ HB2.out).2.2.1).mono ?_
  rintro e w3 ⟨rfl, hb3⟩
  rw [← HAL.out.2]
  have HB3 : Hid (Below w.heap.size w w3) := blw_trans HB2.out hb3
  clear hb3 HB2 HX2 c0 c1 c2 c3 HR
  go_wp2
  go_ret
  exact ⟨Pl.ret_bool HE.out.symm, HB3.out⟩

set_option maxHeartbeats 2000000 in
theorem coversI (B Br b : Nat) (ts : List Tm) (rs : List Rul) (r : Rul) (w : World) (hT : TmsIn w B ts) (hR : RulsIn w Br rs) (h : IntsIn w b r.verbs) (hs : r.sized) :
    Calls Tryd.prog 5 #[.slice (some ⟨B, 0, none⟩) ts.length CT, .slice (some ⟨Br, 0, none⟩) rs.length CR, .agg #[.slice (some ⟨b, 0, none⟩) r.verbs.length CV, .string r.kind, .string r.team, .string r.pre]] w fun e w' => e = .returned (.bool (covers ts rs r)) ∧ Below w.heap.size w w' := by
  have HM : Hid (∀ W, Below w.heap.size w W → TmsIn W B ts ∧ RulsIn W Br rs ∧ IntsIn W b r.verbs ∧ r.sized) := fun W hW => ⟨hT.later hW, hR.later hW, h.later hW, hs⟩
  obtain ⟨w1, hw1⟩ : ∃ w1, w1 = (w.alloc (.cells #[.slice (some ⟨b, 0, none⟩) r.verbs.length CV, .string r.kind, .string r.team, .string r.pre] 27)) := ⟨_, rfl⟩
  have HB1 : Hid (Below w.heap.size w w1) := by rw [hw1]; exact blw_alloc (Below.refl _ _) _
  have HX1 : Hid (Boxed w1 w.heap.size #[.slice (some ⟨b, 0, none⟩) r.verbs.length CV, .string r.kind, .string r.team, .string r.pre]) := by rw [hw1]; exact Boxed.new w _ 27
  obtain ⟨A, hA⟩ : ∃ A, A = allOk ts rs r := ⟨_, rfl⟩
  obtain ⟨Q, hQ⟩ : ∃ Q, Q = missIf ts rs r := ⟨_, rfl⟩
  obtain ⟨R, hRr⟩ : ∃ R, R = covers ts rs r := ⟨_, rfl⟩
  have HR : Hid (R = (A && decide (Q = 0))) := by
    show R = _
    rw [hRr, covers, hA, hQ]
    cases hc : allOk ts rs r
    · rfl
    · rw [missIf, if_pos hc, Bool.true_and, Bool.true_and, Bool.eq_iff_iff, beq_iff_eq, decide_eq_true_eq]
      exact (miss_lack hc).symm
  have HAL : Hid (A = allOk ts rs r ∧ Q = missIf ts rs r) := ⟨hA, hQ⟩
  rw [← hRr]
  clear hT hR h hs hA hQ hRr
  have c0 : w1.cell? ⟨w.heap.size, 0, none⟩ = some (.slice (some ⟨b, 0, none⟩) r.verbs.length CV) := HX1.out.2 0
  have c1 : w1.cell? ⟨w.heap.size, 1, none⟩ = some (.string r.kind) := HX1.out.2 1
  have c2 : w1.cell? ⟨w.heap.size, 2, none⟩ = some (.string r.team) := HX1.out.2 2
  have c3 : w1.cell? ⟨w.heap.size, 3, none⟩ = some (.string r.pre) := HX1.out.2 3
  go_enter Tryd.func5, Tryd.ntmps5
  go_upto_region 1 with fail
  rw [← hw1]
  clear hw1
  go_wp2_with fail
  refine (gateMissing B Br b ts rs r w1 (HM.out _ HB1.out).1 (HM.out _ HB1.out).2.1 (HM.out _ HB1.out).2.2.1 (HM.out _ HB1.out).2.2.2).mono ?_
  rintro e w2 ⟨rfl, hb2⟩
  rw [← HAL.out.1, ← HAL.out.2]
  have HB2 : Hid (Below w.heap.size w w2) := blw_trans HB1.out hb2
  clear hb2 HB1 HX1 c0 c1 c2 c3
  cases hA : A
  · have HE : Hid (R = false) := by show R = false; rw [HR.out, hA]; rfl
    clear hA
    go_wp2
    go_ret
    exact ⟨Pl.ret_bool HE.out.symm, HB2.out⟩
  have HE : Hid (R = decide (Q = 0)) := by show R = _; rw [HR.out, hA]; rfl
  clear hA
  by_cases hz : Q = 0
  · subst hz
    have HEE : Hid (R = true) := HE.out
    go_wp2
    go_ret
    exact ⟨Pl.ret_bool HEE.out.symm, HB2.out⟩
  · have hb : ((Q : Int) == 0) = false := beq_eq_false_iff_ne.2 (by omega)
    have HEE : Hid (R = false) := by show R = false; rw [HE.out]; simp [hz]
    clear hz
    go_wp2
    go_ret
    exact ⟨Pl.ret_bool HEE.out.symm, HB2.out⟩

end Go.Proofs.YtfmidkdpclfffaaDoor
