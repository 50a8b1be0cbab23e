/-
  Walks: what a rule allows: the specification.
-/
import Derived.Test.YtikfcnmhfoknlaaWalkRC
namespace Go.Proofs.Ytikfcnmhfoknlaa
open Go.RowKit Go.Deep

/-- Two boxes behind a world. -/
theorem two_boxes (w : World) (cs ds : Array Value) (t u : TypeId) : w.heap.size + 1 < ((w.alloc (.cells cs t)).alloc (.cells ds u)).heap.size ∧ (∀ o, ((w.alloc (.cells cs t)).alloc (.cells ds u)).cell? ⟨w.heap.size, o, none⟩ = cs[o]?) ∧ (∀ o, ((w.alloc (.cells cs t)).alloc (.cells ds u)).cell? ⟨w.heap.size + 1, o, none⟩ = ds[o]?) := by
  refine ⟨by simp, fun o => by simp, fun o => by simp⟩

theorem carry {w w3 : World} {a : Nat} {cs ds : Array Value} (h : a + 1 < w.heap.size ∧ (∀ o, w.cell? ⟨a, o, none⟩ = cs[o]?) ∧ (∀ o, w.cell? ⟨a + 1, o, none⟩ = ds[o]?)) (hb : Below w.heap.size w w3) :
    a + 1 < w3.heap.size ∧ (∀ o, w3.cell? ⟨a, o, none⟩ = cs[o]?) ∧ (∀ o, w3.cell? ⟨a + 1, o, none⟩ = ds[o]?) :=
  ⟨Nat.lt_of_lt_of_le h.1 hb.size, fun o => (hb.cell (p := ⟨a, o, none⟩) (by have := h.1; show a < w.heap.size; omega)).trans (h.2.1 o), fun o => (hb.cell (p := ⟨a + 1, o, none⟩) h.1).trans (h.2.2 o)⟩

set_option maxHeartbeats 4000000 in
theorem l4Allows (B b : Nat) (ts : List Tm) (r : Rul) (d : Deed) (w : World) (hT : TmsIn w B ts) (h : IntsIn w b r.verbs) :
    Calls Try.prog 38 #[.slice (some ⟨B, 0, none⟩) ts.length ts.length, .agg #[.slice (some ⟨b, 0, none⟩) r.verbs.length r.verbs.length, .string r.kind, .string r.team, .string r.pre], .agg #[.int .i64 d.verb, .string d.kind, .string d.team, .string d.name]] w fun e w' => e = .returned (.bool (hasVerb r.verbs d.verb && given ts r d.kind d.team d.name)) ∧ Below w.heap.size w w' := by
  have hbx : Below w.heap.size w ((w.alloc (.cells #[.slice (some ⟨b, 0, none⟩) r.verbs.length r.verbs.length, .string r.kind, .string r.team, .string r.pre] 39)).alloc (.cells #[.int .i64 d.verb, .string d.kind, .string d.team, .string d.name] 41)) := blw_alloc (blw_alloc (Below.refl _ _) _) _
  obtain ⟨w2, hw2⟩ : ∃ w2, w2 = ((w.alloc (.cells #[.slice (some ⟨b, 0, none⟩) r.verbs.length r.verbs.length, .string r.kind, .string r.team, .string r.pre] 39)).alloc (.cells #[.int .i64 d.verb, .string d.kind, .string d.team, .string d.name] 41)) := ⟨_, rfl⟩
  have HB2 : Hid (Below w.heap.size w w2) := by rw [hw2]; exact hbx
  have HC : Hid (w.heap.size + 1 < w2.heap.size ∧ (∀ o, w2.cell? ⟨w.heap.size, o, none⟩ = (#[Value.slice (some ⟨b, 0, none⟩) r.verbs.length r.verbs.length, .string r.kind, .string r.team, .string r.pre])[o]?) ∧ (∀ o, w2.cell? ⟨w.heap.size + 1, o, none⟩ = (#[Value.int .i64 d.verb, .string d.kind, .string d.team, .string d.name])[o]?)) := by rw [hw2]; exact two_boxes w _ _ 39 41
  have HX : Hid (Calls Try.prog 53 #[.agg #[.slice (some ⟨b, 0, none⟩) r.verbs.length r.verbs.length, .string r.kind, .string r.team, .string r.pre], .int .i64 d.verb] w2 fun e w' => e = .returned (.bool (hasVerb r.verbs d.verb)) ∧ Below w2.heap.size w2 w') := l4Verb b r d.verb w2 (h.later HB2.out)
  have HT2 : Hid (TmsIn w2 B ts) := hT.later HB2.out
  obtain ⟨R, hR⟩ : ∃ R, R = (hasVerb r.verbs d.verb && given ts r d.kind d.team d.name) := ⟨_, rfl⟩
  have HR : Hid (R = (hasVerb r.verbs d.verb && ((r.kind.toList.isEmpty || (r.kind.toList == d.kind.toList)) && (r.team.toList.isEmpty || under ts d.team r.team) && begins d.name r.pre))) := hR
  rw [← hR]
  clear h hbx hT hR
  go_enter Try.func38, Try.ntmps38
  go_wp2_with fail
  rw [← hw2]
  clear hw2
  refine HX.out.mono ?_
  rintro e w3 ⟨rfl, hb3⟩
  have HC3 : Hid (w.heap.size + 1 < w3.heap.size ∧ (∀ o, w3.cell? ⟨w.heap.size, o, none⟩ = (#[Value.slice (some ⟨b, 0, none⟩) r.verbs.length r.verbs.length, .string r.kind, .string r.team, .string r.pre])[o]?) ∧ (∀ o, w3.cell? ⟨w.heap.size + 1, o, none⟩ = (#[Value.int .i64 d.verb, .string d.kind, .string d.team, .string d.name])[o]?)) := carry HC.out hb3
  have c := HC3.out.2.1
  have d_ := HC3.out.2.2
  have c1 : w3.cell? ⟨w.heap.size, 1, none⟩ = some (.string r.kind) := c 1
  have c2 : w3.cell? ⟨w.heap.size, 2, none⟩ = some (.string r.team) := c 2
  have c3 : w3.cell? ⟨w.heap.size, 3, none⟩ = some (.string r.pre) := c 3
  have e1 : w3.cell? ⟨w.heap.size + 1, 1, none⟩ = some (.string d.kind) := d_ 1
  have e2 : w3.cell? ⟨w.heap.size + 1, 2, none⟩ = some (.string d.team) := d_ 2
  have e3 : w3.cell? ⟨w.heap.size + 1, 3, none⟩ = some (.string d.name) := d_ 3

  have HB3 : Hid (Below w.heap.size w w3) := blw_trans HB2.out hb3
  have HT3 : Hid (TmsIn w3 B ts) := HT2.out.later hb3
  clear hb3 HC HX HB2 HT2 c d_ HC3
  cases hv : hasVerb r.verbs d.verb
  · have HE : Hid (R = false) := by show R = false; rw [HR.out, hv]; rfl
    go_wp2
    go_ret
    exact ⟨Pl.ret_bool HE.out.symm, HB3.out⟩
  · have kinds : (r.kind.toList.isEmpty = true ∨ (r.kind.toList.isEmpty = false ∧ (r.kind.toList == d.kind.toList) = true)) ∨ (r.kind.toList.isEmpty = false ∧ (r.kind.toList == d.kind.toList) = false) := by
      cases r.kind.toList.isEmpty <;> cases (r.kind.toList == d.kind.toList) <;> simp
    rcases kinds with hk | ⟨hk, hk2⟩
    case inr =>
      have HE : Hid (R = false) := by show R = false; rw [HR.out, hk, hk2]; simp
      go_wp2
      go_ret
      exact ⟨Pl.ret_bool HE.out.symm, HB3.out⟩
    have HRR : Hid (R = ((r.team.toList.isEmpty || under ts d.team r.team) && begins d.name r.pre)) := by
      show R = _
      rcases hk with hk | ⟨hk, hk2⟩
      · rw [HR.out, hv, hk]; rfl
      · rw [HR.out, hv, hk, hk2]; rfl
    clear HR
    rcases hk with hk | ⟨hk, hk2⟩
    all_goals
      cases ht : r.team.toList.isEmpty
      · cases hu : under ts d.team r.team
        · have HE : Hid (R = false) := by show R = false; rw [HRR.out, ht, hu]; rfl
          go_wp2_with (first | (go_at_call 8; refine (underS B ts _ _ _ HT3.out).mono ?_; rintro e w' ⟨rfl, rfl⟩) | (go_at_call 54; refine (l4Begins _ _ _).mono ?_; rintro e w' ⟨rfl, rfl⟩))
          go_ret
          exact ⟨Pl.ret_bool HE.out.symm, HB3.out⟩
        · have HE : Hid (R = begins d.name r.pre) := by show R = _; rw [HRR.out, ht, hu]; rfl
          go_wp2_with (first | (go_at_call 8; refine (underS B ts _ _ _ HT3.out).mono ?_; rintro e w' ⟨rfl, rfl⟩) | (go_at_call 54; refine (l4Begins _ _ _).mono ?_; rintro e w' ⟨rfl, rfl⟩))
          go_ret
          exact ⟨Pl.ret_bool HE.out.symm, HB3.out⟩
      · have HE : Hid (R = begins d.name r.pre) := by show R = _; rw [HRR.out, ht]; rfl
        go_wp2_with (go_at_call 54; refine (l4Begins _ _ _).mono ?_; rintro e w' ⟨rfl, rfl⟩)
        go_ret
        exact ⟨Pl.ret_bool HE.out.symm, HB3.out⟩

set_option maxHeartbeats 4000000 in
theorem allowsS (B b : Nat) (ts : List Tm) (r : Rul) (d : Deed) (w : World) (hT : TmsIn w B ts) (h : IntsIn w b r.verbs) (hs : r.sized) :
    Calls Try.prog 16 #[.slice (some ⟨B, 0, none⟩) ts.length ts.length, .agg #[.slice (some ⟨b, 0, none⟩) r.verbs.length r.verbs.length, .string r.kind, .string r.team, .string r.pre], .agg #[.int .i64 d.verb, .string d.kind, .string d.team, .string d.name]] w fun e w' => e = .returned (.bool (allows ts r d)) ∧ Below w.heap.size w w' := by
  have hbx : Below w.heap.size w ((w.alloc (.cells #[.slice (some ⟨b, 0, none⟩) r.verbs.length r.verbs.length, .string r.kind, .string r.team, .string r.pre] 39)).alloc (.cells #[.int .i64 d.verb, .string d.kind, .string d.team, .string d.name] 41)) := blw_alloc (blw_alloc (Below.refl _ _) _) _
  obtain ⟨w2, hw2⟩ : ∃ w2, w2 = ((w.alloc (.cells #[.slice (some ⟨b, 0, none⟩) r.verbs.length r.verbs.length, .string r.kind, .string r.team, .string r.pre] 39)).alloc (.cells #[.int .i64 d.verb, .string d.kind, .string d.team, .string d.name] 41)) := ⟨_, rfl⟩
  have HB2 : Hid (Below w.heap.size w w2) := by rw [hw2]; exact hbx
  have HC : Hid (w.heap.size + 1 < w2.heap.size ∧ (∀ o, w2.cell? ⟨w.heap.size, o, none⟩ = (#[Value.slice (some ⟨b, 0, none⟩) r.verbs.length r.verbs.length, .string r.kind, .string r.team, .string r.pre])[o]?) ∧ (∀ o, w2.cell? ⟨w.heap.size + 1, o, none⟩ = (#[Value.int .i64 d.verb, .string d.kind, .string d.team, .string d.name])[o]?)) := by rw [hw2]; exact two_boxes w _ _ 39 41
  have HM : Hid (∀ W, Below w.heap.size w W → TmsIn W B ts ∧ IntsIn W b r.verbs ∧ r.sized) := fun W hW => ⟨hT.later hW, h.later hW, hs⟩
  obtain ⟨R, hR⟩ : ∃ R, R = allows ts r d := ⟨_, rfl⟩
  have HR : Hid (R = (teamsOk ts && ruleOk r && (hasVerb r.verbs d.verb && given ts r d.kind d.team d.name))) := hR
  rw [← hR]
  clear h hbx hT hR hs
  go_enter Try.func16, Try.ntmps16
  go_wp2_with fail
  rw [← hw2]
  clear hw2
  refine (teamsOkS B ts w2 (HM.out _ HB2.out).1).mono ?_
  rintro e w3 ⟨rfl, hb3⟩
  have HC3 : Hid (w.heap.size + 1 < w3.heap.size ∧ (∀ o, w3.cell? ⟨w.heap.size, o, none⟩ = (#[Value.slice (some ⟨b, 0, none⟩) r.verbs.length r.verbs.length, .string r.kind, .string r.team, .string r.pre])[o]?) ∧ (∀ o, w3.cell? ⟨w.heap.size + 1, o, none⟩ = (#[Value.int .i64 d.verb, .string d.kind, .string d.team, .string d.name])[o]?)) := carry HC.out hb3
  have HB3 : Hid (Below w.heap.size w w3) := blw_trans HB2.out hb3
  clear hb3 HC HB2
  cases ht : teamsOk ts
  · have HE : Hid (R = false) := by show R = false; rw [HR.out, ht]; rfl
    go_wp2
    go_ret
    exact ⟨Pl.ret_bool HE.out.symm, HB3.out⟩
  have c := HC3.out.2.1
  have c0 : w3.cell? ⟨w.heap.size, 0, none⟩ = some (.slice (some ⟨b, 0, none⟩) r.verbs.length r.verbs.length) := c 0
  have c1 : w3.cell? ⟨w.heap.size, 1, none⟩ = some (.string r.kind) := c 1
  have c2 : w3.cell? ⟨w.heap.size, 2, none⟩ = some (.string r.team) := c 2
  have c3 : w3.cell? ⟨w.heap.size, 3, none⟩ = some (.string r.pre) := c 3

  clear c
  go_wp2_with fail
  refine (l4RuleOk b r w3 (HM.out _ HB3.out).2.1 (HM.out _ HB3.out).2.2).mono ?_
  rintro e w4 ⟨rfl, hb4⟩
  have HC4 : Hid (w.heap.size + 1 < w4.heap.size ∧ (∀ o, w4.cell? ⟨w.heap.size, o, none⟩ = (#[Value.slice (some ⟨b, 0, none⟩) r.verbs.length r.verbs.length, .string r.kind, .string r.team, .string r.pre])[o]?) ∧ (∀ o, w4.cell? ⟨w.heap.size + 1, o, none⟩ = (#[Value.int .i64 d.verb, .string d.kind, .string d.team, .string d.name])[o]?)) := carry HC3.out hb4
  have HB4 : Hid (Below w.heap.size w w4) := blw_trans HB3.out hb4
  clear hb4 HC3 HB3 c0 c1 c2 c3
  cases hr : ruleOk r
  · have HE : Hid (R = false) := by show R = false; rw [HR.out, ht, hr]; rfl
    go_wp2
    go_ret
    exact ⟨Pl.ret_bool HE.out.symm, HB4.out⟩
  have c := HC4.out.2.1
  have d_ := HC4.out.2.2
  have c0 : w4.cell? ⟨w.heap.size, 0, none⟩ = some (.slice (some ⟨b, 0, none⟩) r.verbs.length r.verbs.length) := c 0
  have c1 : w4.cell? ⟨w.heap.size, 1, none⟩ = some (.string r.kind) := c 1
  have c2 : w4.cell? ⟨w.heap.size, 2, none⟩ = some (.string r.team) := c 2
  have c3 : w4.cell? ⟨w.heap.size, 3, none⟩ = some (.string r.pre) := c 3
  have e0 : w4.cell? ⟨w.heap.size + 1, 0, none⟩ = some (.int .i64 d.verb) := d_ 0
  have e1 : w4.cell? ⟨w.heap.size + 1, 1, none⟩ = some (.string d.kind) := d_ 1
  have e2 : w4.cell? ⟨w.heap.size + 1, 2, none⟩ = some (.string d.team) := d_ 2
  have e3 : w4.cell? ⟨w.heap.size + 1, 3, none⟩ = some (.string d.name) := d_ 3

  clear c d_
  go_wp2_with fail
  refine (l4Allows B b ts r d w4 (HM.out _ HB4.out).1 (HM.out _ HB4.out).2.1).mono ?_
  rintro e w5 ⟨rfl, hb5⟩
  have HB5 : Hid (Below w.heap.size w w5) := blw_trans HB4.out hb5
  have HE : Hid (R = (hasVerb r.verbs d.verb && given ts r d.kind d.team d.name)) := by show R = _; rw [HR.out, ht, hr]; rfl
  rw [← HE.out]
  clear hb5 HC4 HB4 c0 c1 c2 c3 e0 e1 e2 e3 HE
  go_wp2
  go_ret
  exact ⟨rfl, HB5.out⟩

end Go.Proofs.Ytikfcnmhfoknlaa
