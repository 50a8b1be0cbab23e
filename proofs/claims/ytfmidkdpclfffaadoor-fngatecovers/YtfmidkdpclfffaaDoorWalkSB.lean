/-
  Walks: what rules cover: the specification.
-/
import Derived.Deep.DeepCutAuto
import Derived.Test.YtfmidkdpclfffaaDoorPlainS
import Derived.Test.YtfmidkdpclfffaaDoorWalkSA
namespace Go.Proofs.YtfmidkdpclfffaaDoor
open Go.RowKit Go.Deep

variable {CT CR CV CQ CL : Nat}

/-- A box: its cells. -/
def Boxed (W : World) (p : Nat) (cs : Array Value) : Prop := p < W.heap.size ∧ ∀ o, W.cell? ⟨p, o, none⟩ = cs[o]?
theorem Boxed.later {W W' : World} {p : Nat} {cs : Array Value} (h : Boxed W p cs) (hb : Below W.heap.size W W') : Boxed W' p cs :=
  ⟨Nat.lt_of_lt_of_le h.1 hb.size, fun o => (hb.cell (p := ⟨p, o, none⟩) h.1).trans (h.2 o)⟩
theorem Boxed.new (W : World) (cs : Array Value) (t : TypeId) : Boxed (W.alloc (.cells cs t)) W.heap.size cs := ⟨by simp, fun o => by simp⟩

set_option maxHeartbeats 4000000 in
theorem l4AllOk (B Br b : Nat) (ts : List Tm) (rs : List Rul) (r : Rul) (w : World) (hT : TmsIn w B ts) (hR : RulsIn w Br rs) (h : IntsIn w b r.verbs) (hs : r.sized) :
    Calls Tryd.prog 26 #[.slice (some ⟨B, 0, none⟩) ts.length CT, .slice (some ⟨Br, 0, none⟩) rs.length CR, .agg #[.slice (some ⟨b, 0, none⟩) r.verbs.length CV, .string r.kind, .string r.team, .string r.pre]] w fun e w' => e = .returned (.bool (allOk ts rs r)) ∧ Below w.heap.size w w' := by
  have hl := hR.len
  have HM : Hid (∀ W, Below w.heap.size w W → TmsIn W B ts ∧ RulsIn W Br rs ∧ IntsIn W b r.verbs) := fun W hW => ⟨hT.later hW, hR.later hW, h.later hW⟩
  have HZ : Hid r.sized := hs
  obtain ⟨w1, hw1⟩ : ∃ w1, w1 = (w.alloc (.cells #[.slice (some ⟨b, 0, none⟩) r.verbs.length CV, .string r.kind, .string r.team, .string r.pre] 27)) := ⟨_, rfl⟩
  have HB1 : Hid (Below w.heap.size w w1) := by rw [hw1]; exact blw_alloc (Below.refl _ _) _
  have HX1 : Hid (Boxed w1 w.heap.size #[.slice (some ⟨b, 0, none⟩) r.verbs.length CV, .string r.kind, .string r.team, .string r.pre]) := by rw [hw1]; exact Boxed.new w _ 27
  obtain ⟨A, hA⟩ : ∃ A, A = allOk ts rs r := ⟨_, rfl⟩
  have HA : Hid (A = (teamsOk ts && ruleOk r && rs.all ruleOk)) := hA
  rw [← hA]
  clear hT hR h hs hA
  go_enter Tryd.func26, Tryd.ntmps26
  go_wp2_with fail
  rw [← hw1]
  clear hw1
  refine (teamsOkS B ts w1 (HM.out _ HB1.out).1).mono ?_
  rintro e w3 ⟨rfl, hb3⟩
  have HB3 : Hid (Below w.heap.size w w3) := blw_trans HB1.out hb3
  have HX3 : Hid (Boxed w3 w.heap.size #[.slice (some ⟨b, 0, none⟩) r.verbs.length CV, .string r.kind, .string r.team, .string r.pre]) := HX1.out.later hb3
  clear hb3 HB1 HX1
  cases ht : teamsOk ts
  · have HE : Hid (A = false) := by show A = false; rw [HA.out, ht]; rfl
    go_wp2
    go_ret
    exact ⟨Pl.ret_bool HE.out.symm, HB3.out⟩
  have c0 : w3.cell? ⟨w.heap.size, 0, none⟩ = some (.slice (some ⟨b, 0, none⟩) r.verbs.length CV) := HX3.out.2 0
  have c1 : w3.cell? ⟨w.heap.size, 1, none⟩ = some (.string r.kind) := HX3.out.2 1
  have c2 : w3.cell? ⟨w.heap.size, 2, none⟩ = some (.string r.team) := HX3.out.2 2
  have c3 : w3.cell? ⟨w.heap.size, 3, none⟩ = some (.string r.pre) := HX3.out.2 3
  go_wp2_with fail
  refine (l4RuleOk b r w3 (HM.out _ HB3.out).2.2 HZ.out).mono ?_
  rintro e w4 ⟨rfl, hb4⟩
  have HB4 : Hid (Below w.heap.size w w4) := blw_trans HB3.out hb4
  clear hb4 HB3 HX3 c0 c1 c2 c3
  cases hr : ruleOk r
  · have HE : Hid (A = false) := by show A = false; rw [HA.out, ht, hr]; rfl
    go_wp2
    go_ret
    exact ⟨Pl.ret_bool HE.out.symm, HB4.out⟩
  have HAA : Hid (A = rs.all ruleOk) := by show A = _; rw [HA.out, ht, hr]; rfl
  clear HA
  go_wp2
  clear ht hr
  go_loopw [7] (fun i wr => ∃ k : Nat, k ≤ rs.length ∧ i = .int .i64 k ∧ (rs.take k).all ruleOk = true ∧ Below w.heap.size w wr) (fun i _ => rs.length - (intOf i).toNat)
  case atStart => exact ⟨0, Nat.zero_le _, rfl, rfl, HB4.out⟩
  case round =>
    obtain ⟨k, hk, rfl, hall, hW⟩ := hrel
    have HQ : Hid ((rs.take k).all ruleOk = true) := hall
    clear hall
    by_cases hlt : k < rs.length
    · obtain ⟨q, hq⟩ : ∃ q, q = rs.getD k Rul.none := ⟨_, rfl⟩
      have hf := (HM.out _ hW).2.1.at_ k hlt
      rw [← hq] at hf
      obtain ⟨bq, CQ, c0, c1, c2, c3, hi, hsz⟩ := hf
      have HI : Hid (IntsIn wr bq q.verbs ∧ q.sized ∧ q = rs.getD k Rul.none) := ⟨hi, hsz, hq⟩
      clear hi hsz hq
      go_wp2_with fail
      refine (l4RuleOk bq q wr HI.out.1 HI.out.2.1).mono ?_
      rintro e w5 ⟨rfl, hb5⟩
      have hW5 := blw_trans hW hb5
      clear hb5 c0 c1 c2 c3
      cases hok : ruleOk q
      · have HE : Hid (A = false) := by show A = false; rw [HAA.out]; exact all_falseR _ _ k hlt (by rw [← HI.out.2.2]; exact hok)
        go_wp2
        go_ret
        exact ⟨Pl.ret_bool HE.out.symm, hW5⟩
      · have HE : Hid ((rs.take (k + 1)).all ruleOk = true) := by show _ = true; rw [all_snocR _ _ _ hlt, HQ.out, ← HI.out.2.2, hok]; rfl
        go_wp2
        go_roundw
        case rel => exact ⟨k + 1, by omega, by go_num, HE.out, hW5⟩
        case measure => simp [intOf]; omega
    · have HE : Hid (A = true) := by
        show A = true
        have := HQ.out
        rw [List.take_of_length_le (by omega)] at this
        rw [HAA.out, this]
      go_wp2
      go_ret
      exact ⟨Pl.ret_bool HE.out.symm, hW⟩

end Go.Proofs.YtfmidkdpclfffaaDoor
