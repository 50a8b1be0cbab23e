/-
  Whether one of some rules allows an act.
-/
import Derived.Deep.DeepCutAuto
import Derived.Test.YtfmidkdpclfffaaDoorPlainX
namespace Go.Proofs.YtfmidkdpclfffaaDoor
open Go.RowKit Go.Deep

variable {CT CR : Nat}

set_option maxRecDepth 8000 in
set_option maxHeartbeats 8000000 in
theorem someI (B Br : Nat) (ts : List Tm) (rs : List Rul) (d : Deed) (w : World) (hT : TmsIn w B ts) (hR : RulsIn w Br rs) :
    Calls Tryd.prog 9 #[.slice (some ⟨B, 0, none⟩) ts.length CT, .slice (some ⟨Br, 0, none⟩) rs.length CR, .agg #[.int .i64 d.verb, .string d.kind, .string d.team, .string d.name]] w fun e w' => e = .returned (.bool (rs.any fun q => allows ts q d)) ∧ Below w.heap.size w w' := by
  have hln := hR.len
  have HM : Hid (TmsIn w B ts ∧ RulsIn w Br rs) := ⟨hT, hR⟩
  obtain ⟨A, hA⟩ : ∃ A, A = rs.any (fun q => allows ts q d) := ⟨_, rfl⟩
  have HA : Hid (A = rs.any (fun q => allows ts q d)) := hA
  rw [← hA]
  clear hA hT hR
  obtain ⟨w1, hw1⟩ : ∃ w1, w1 = w.alloc (.cells #[.int .i64 d.verb, .string d.kind, .string d.team, .string d.name] 32) := ⟨_, rfl⟩
  have HB1 : Hid (Below w.heap.size w w1) := by rw [hw1]; exact blw_alloc (Below.refl _ _) _
  have HX1 : Hid (Boxed w1 w.heap.size #[.int .i64 d.verb, .string d.kind, .string d.team, .string d.name]) := by rw [hw1]; exact Boxed.new w _ 32
  obtain ⟨P, hP⟩ : ∃ P, P = w.heap.size := ⟨_, rfl⟩
  rw [← hP] at HX1
  go_enter Tryd.func9, Tryd.ntmps9
  go_upto_region 1 with fail
  rw [← hw1, ← hP]
  clear hw1 hP
  go_wp2
  go_loopw [7] (fun i wr => ∃ k : Nat, k ≤ rs.length ∧ i = .int .i64 (k : Nat) ∧ (rs.take k).any (fun q => allows ts q d) = false ∧ Below w1.heap.size w1 wr) (fun i _ => rs.length - (intOf i).toNat)
  case atStart => exact ⟨0, Nat.zero_le _, rfl, rfl, Below.refl _ _⟩
  case round =>
    obtain ⟨k, hk, rfl, hq, hW⟩ := hrel
    have HQ : Hid ((rs.take k).any (fun q => allows ts q d) = false) := hq
    have HW : Hid (Below w1.heap.size w1 wr) := hW
    clear hq hW
    by_cases hlt : k < rs.length
    · obtain ⟨q, hqq⟩ : ∃ q, q = rs.getD k Rul.none := ⟨_, rfl⟩
      have hbw := blw_trans HB1.out HW.out
      have hf := (HM.out.2.later hbw).at_ k hlt
      have hgw : Br < wr.heap.size := (HM.out.2.later hbw).lt
      rw [← hqq] at hf
      obtain ⟨bq, CQ, c0, c1, c2, c3, hi, hs⟩ := hf
      have hx := HX1.out.later HW.out
      have hpz := hx.1
      have p0 : wr.cell? ⟨P, 0, none⟩ = some (.int .i64 d.verb) := hx.2 0
      have p1 : wr.cell? ⟨P, 1, none⟩ = some (.string d.kind) := hx.2 1
      have p2 : wr.cell? ⟨P, 2, none⟩ = some (.string d.team) := hx.2 2
      have p3 : wr.cell? ⟨P, 3, none⟩ = some (.string d.name) := hx.2 3
      have HC : Hid (∀ X, Below wr.heap.size wr X → Calls Tryd.prog 8 #[.slice (some ⟨B, 0, none⟩) ts.length CT, .agg #[.slice (some ⟨bq, 0, none⟩) q.verbs.length CQ, .string q.kind, .string q.team, .string q.pre], .agg #[.int .i64 d.verb, .string d.kind, .string d.team, .string d.name]] X fun e w' => e = .returned (.bool (allows ts q d)) ∧ Below X.heap.size X w') := fun X hX => allowsI B bq ts q d X ((HM.out.1.later hbw).later hX) (hi.later hX) hs
      have HG : Hid (q = rs.getD k Rul.none) := hqq
      clear hqq hbw hi hs hx
      go_wp2
      go_region_with (go_at_call 8; refine (HC.out _ ?_).mono ?_; (repeat (first | exact Below.refl _ _ | refine Below.drew ?_)); rintro e w5 ⟨rfl, hb5⟩; have k5 : Below wr.heap.size wr w5 := blw_trans (by repeat (first | exact Below.refl _ _ | refine Below.drew ?_)) hb5; clear hb5)
      all_goals
        have HK : Hid (Below w1.heap.size w1 w5) := blw_trans HW.out k5
        clear k5 c0 c1 c2 c3 p0 p1 p2 p3 hpz hgw HC
        cases hn : allows ts q d
        · have HE : Hid ((rs.take (k + 1)).any (fun q => allows ts q d) = false) := by show _ = _; rw [any_snoc _ _ _ hlt, HQ.out, ← HG.out, hn]; rfl
          go_wp2
          go_roundw
          case rel => exact ⟨k + 1, by omega, by go_num, HE.out, by repeat (first | exact HK.out | refine Below.drew ?_)⟩
          case measure => simp [intOf]; omega
        · have HE : Hid (A = true) := by
            show A = true
            rw [HA.out, List.any_eq_true]
            exact ⟨rs.getD k Rul.none, by simp [hlt], by rw [← HG.out]; exact hn⟩
          go_wp2
          go_ret
          exact ⟨Pl.ret_bool HE.out.symm, by repeat (first | exact blw_trans HB1.out HK.out | refine Below.drew ?_)⟩
    · have HE : Hid (A = false) := by
        show A = false
        have h := HQ.out
        rw [List.take_of_length_le (by omega)] at h
        rw [HA.out, h]
      go_wp2
      go_ret
      exact ⟨Pl.ret_bool HE.out.symm, blw_trans HB1.out HW.out⟩

end Go.Proofs.YtfmidkdpclfffaaDoor
