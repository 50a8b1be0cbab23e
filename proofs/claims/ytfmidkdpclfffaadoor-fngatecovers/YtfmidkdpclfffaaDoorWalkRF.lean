/-
  Walks: what a rule allows: the program; a set has what a row has.
-/
import Derived.Test.YtfmidkdpclfffaaDoorWalkRE
import Derived.Test.YtfmidkdpclfffaaDoorWalkUD
namespace Go.Proofs.YtfmidkdpclfffaaDoor
open Go.RowKit Go.Deep

variable {CT CR CV CQ CL : Nat}

theorem fold_or (i : Nat) : ∀ (l : List Nat) (a : Nat), (l.foldl (· ||| ·) a).testBit i = (a.testBit i || l.any (fun x => x.testBit i))
  | [], a => by simp
  | x :: l, a => by rw [List.foldl_cons, fold_or i l, Nat.testBit_or, List.any_cons, Bool.or_assoc]

theorem bit_test (v : Int) (i : Nat) : (bit v).testBit i = decide (v.toNat = i) := by
  unfold bit
  rw [Nat.one_shiftLeft, Nat.testBit_two_pow]

theorem setOf_test (l : List Int) (i : Nat) : (setOf l).testBit i = l.any (fun x => decide (x.toNat = i)) := by
  unfold setOf
  rw [fold_or, Nat.zero_testBit, Bool.false_or, List.any_map]
  congr 1
  funext x
  exact bit_test x i

theorem verbs_in {l : List Int} (h : verbsOk l = true) : ∀ x ∈ l, 1 ≤ x ∧ x ≤ 5 := by
  intro x hx
  obtain ⟨i, hi, rfl⟩ := List.getElem_of_mem hx
  have h2 : verbsTo l l.length = true := by simp only [verbsOk, Bool.and_eq_true] at h; exact h.2
  have := (verbAt_iff l i).1 (verbsTo_at h2 i hi)
  have e : l.getD i 0 = l[i] := by simp [hi]
  rw [e] at this
  exact ⟨this.1, this.2.1⟩

theorem has_set {l : List Int} (h : verbsOk l = true) (v : Int) : hasBit (setOf l) v = hasVerb l v := by
  have hr := verbs_in h
  rw [hasBit, setOf_test, hasVerb, Bool.eq_iff_iff]
  simp only [Bool.and_eq_true, decide_eq_true_eq, List.any_eq_true, beq_iff_eq]
  constructor
  · rintro ⟨⟨h1, h5⟩, x, hx, e⟩
    have := hr x hx
    exact ⟨x, hx, by omega⟩
  · rintro ⟨x, hx, rfl⟩
    have := hr x hx
    exact ⟨⟨this.1, this.2⟩, x, hx, rfl⟩

set_option maxHeartbeats 4000000 in
theorem allowsI (B b : Nat) (ts : List Tm) (r : Rul) (d : Deed) (w : World) (hT : TmsIn w B ts) (h : IntsIn w b r.verbs) (hs : r.sized) :
    Calls Tryd.prog 8 #[.slice (some ⟨B, 0, none⟩) ts.length CT, .agg #[.slice (some ⟨b, 0, none⟩) r.verbs.length CV, .string r.kind, .string r.team, .string r.pre], .agg #[.int .i64 d.verb, .string d.kind, .string d.team, .string d.name]] w fun e w' => e = .returned (.bool (allows ts r d)) ∧ Below w.heap.size w w' := by
  have hbx : Below w.heap.size w ((w.alloc (.cells #[.slice (some ⟨b, 0, none⟩) r.verbs.length CV, .string r.kind, .string r.team, .string r.pre] 27)).alloc (.cells #[.int .i64 d.verb, .string d.kind, .string d.team, .string d.name] 32)) := blw_alloc (blw_alloc (Below.refl _ _) _) _
  obtain ⟨w2, hw2⟩ : ∃ w2, w2 = ((w.alloc (.cells #[.slice (some ⟨b, 0, none⟩) r.verbs.length CV, .string r.kind, .string r.team, .string r.pre] 27)).alloc (.cells #[.int .i64 d.verb, .string d.kind, .string d.team, .string d.name] 32)) := ⟨_, rfl⟩
  have HB2 : Hid (Below w.heap.size w w2) := by rw [hw2]; exact hbx
  have HC : Hid (w.heap.size + 1 < w2.heap.size ∧ (∀ o, w2.cell? ⟨w.heap.size, o, none⟩ = (#[Value.slice (some ⟨b, 0, none⟩) r.verbs.length CV, .string r.kind, .string r.team, .string r.pre])[o]?) ∧ (∀ o, w2.cell? ⟨w.heap.size + 1, o, none⟩ = (#[Value.int .i64 d.verb, .string d.kind, .string d.team, .string d.name])[o]?)) := by rw [hw2]; exact two_boxes w _ _ 27 32
  have HM : Hid (∀ W, Below w.heap.size w W → TmsIn W B ts ∧ IntsIn W b r.verbs ∧ r.sized) := fun W hW => ⟨hT.later hW, h.later hW, hs⟩
  obtain ⟨R, hR⟩ : ∃ R, R = allows ts r d := ⟨_, rfl⟩
  have HR : Hid (R = (teamsOk ts && ruleOk r && (hasVerb r.verbs d.verb && given ts r d.kind d.team d.name))) := hR
  rw [← hR]
  clear h hbx hT hR hs
  go_enter Tryd.func8, Tryd.ntmps8
  go_wp2_with fail
  rw [← hw2]
  clear hw2
  refine (teamsOkI B ts w2 (HM.out _ HB2.out).1).mono ?_
  rintro e w3 ⟨rfl, hb3⟩
  have HC3 : Hid (w.heap.size + 1 < w3.heap.size ∧ (∀ o, w3.cell? ⟨w.heap.size, o, none⟩ = (#[Value.slice (some ⟨b, 0, none⟩) r.verbs.length CV, .string r.kind, .string r.team, .string r.pre])[o]?) ∧ (∀ o, w3.cell? ⟨w.heap.size + 1, o, none⟩ = (#[Value.int .i64 d.verb, .string d.kind, .string d.team, .string d.name])[o]?)) := carry HC.out hb3
  have HB3 : Hid (Below w.heap.size w w3) := blw_trans HB2.out hb3
  clear hb3 HC HB2
  cases ht : teamsOk ts
  · have HE : Hid (R = false) := by show R = false; rw [HR.out, ht]; rfl
    go_wp2
    go_ret
    exact ⟨Pl.ret_bool HE.out.symm, HB3.out⟩
  have c := HC3.out.2.1
  have c0 : w3.cell? ⟨w.heap.size, 0, none⟩ = some (.slice (some ⟨b, 0, none⟩) r.verbs.length CV) := c 0
  have c1 : w3.cell? ⟨w.heap.size, 1, none⟩ = some (.string r.kind) := c 1
  have c2 : w3.cell? ⟨w.heap.size, 2, none⟩ = some (.string r.team) := c 2
  have c3 : w3.cell? ⟨w.heap.size, 3, none⟩ = some (.string r.pre) := c 3

  clear c
  go_wp2_with fail
  refine (gateRuleOk b r w3 (HM.out _ HB3.out).2.1 (HM.out _ HB3.out).2.2).mono ?_
  rintro e w4 ⟨rfl, hb4⟩
  have HC4 : Hid (w.heap.size + 1 < w4.heap.size ∧ (∀ o, w4.cell? ⟨w.heap.size, o, none⟩ = (#[Value.slice (some ⟨b, 0, none⟩) r.verbs.length CV, .string r.kind, .string r.team, .string r.pre])[o]?) ∧ (∀ o, w4.cell? ⟨w.heap.size + 1, o, none⟩ = (#[Value.int .i64 d.verb, .string d.kind, .string d.team, .string d.name])[o]?)) := carry HC3.out hb4
  have HB4 : Hid (Below w.heap.size w w4) := blw_trans HB3.out hb4
  clear hb4 HC3 HB3 c0 c1 c2 c3
  cases hr : ruleOk r
  · have HE : Hid (R = false) := by show R = false; rw [HR.out, ht, hr]; rfl
    go_wp2
    go_ret
    exact ⟨Pl.ret_bool HE.out.symm, HB4.out⟩
  have c := HC4.out.2.1
  have c0 : w4.cell? ⟨w.heap.size, 0, none⟩ = some (.slice (some ⟨b, 0, none⟩) r.verbs.length CV) := c 0
  have c1 : w4.cell? ⟨w.heap.size, 1, none⟩ = some (.string r.kind) := c 1
  have c2 : w4.cell? ⟨w.heap.size, 2, none⟩ = some (.string r.team) := c 2
  have c3 : w4.cell? ⟨w.heap.size, 3, none⟩ = some (.string r.pre) := c 3

  clear c
  go_wp2_with fail
  refine (rightOf B b ts r w4 (HM.out _ HB4.out).2.1).mono ?_
  rintro e w5 ⟨rfl, hb5⟩
  have HB5 : Hid (Below w.heap.size w w5) := blw_trans HB4.out hb5
  have HC5 : Hid (w.heap.size + 1 < w5.heap.size ∧ (∀ o, w5.cell? ⟨w.heap.size, o, none⟩ = (#[Value.slice (some ⟨b, 0, none⟩) r.verbs.length CV, .string r.kind, .string r.team, .string r.pre])[o]?) ∧ (∀ o, w5.cell? ⟨w.heap.size + 1, o, none⟩ = (#[Value.int .i64 d.verb, .string d.kind, .string d.team, .string d.name])[o]?)) := carry HC4.out hb5
  clear hb5 HC4 HB4 c0 c1 c2 c3
  obtain ⟨Q, hQ⟩ : ∃ Q : Nat, Q = (if given ts r d.kind d.team d.name = true then setIf r.verbs else 0) := ⟨_, rfl⟩
  have HQ : Hid (Q < 64) := by
    show Q < 64
    rw [hQ]
    split
    · exact setIf_small _
    · omega
  have HE : Hid (R = hasBit Q d.verb) := by
    show R = _
    have hv : verbsOk r.verbs = true := by simp only [ruleOk, Bool.and_eq_true] at hr; exact hr.1.1.1
    rw [HR.out, ht, hr, hQ]
    cases given ts r d.kind d.team d.name
    · simp [hasBit]
    · simp only [setIf, hv, if_true, has_set hv, Bool.and_true, Bool.true_and]
  have HX : Hid (∀ W, Below w5.heap.size w5 W → Calls Tryd.prog 31 #[.agg #[.slice (some ⟨B, 0, none⟩) ts.length CT, .slice (some ⟨b, 0, none⟩) r.verbs.length CV, .string r.kind, .string r.team, .string r.pre, .int .u8 (setIf r.verbs : Nat)], .agg #[.int .i64 d.verb, .string d.kind, .string d.team, .string d.name]] W fun e w' => e = .returned (.int .u8 (Q : Nat)) ∧ Below w.heap.size w w' ∧ w'.cell? ⟨w.heap.size + 1, 0, none⟩ = some (.int .i64 d.verb)) := by
    intro W hW
    refine (gateGives B b (setIf r.verbs) ts r d W ((HM.out _ (blw_trans HB5.out hW)).1)).mono ?_
    rintro e w' ⟨rfl, hb⟩
    refine ⟨?_, blw_trans (blw_trans HB5.out hW) hb, (carry HC5.out (blw_trans hW hb)).2.2 0⟩
    rw [hQ]
    split <;> rfl
  have d_ := HC5.out.2.2
  have e0 : w5.cell? ⟨w.heap.size + 1, 0, none⟩ = some (.int .i64 d.verb) := d_ 0
  have e1 : w5.cell? ⟨w.heap.size + 1, 1, none⟩ = some (.string d.kind) := d_ 1
  have e2 : w5.cell? ⟨w.heap.size + 1, 2, none⟩ = some (.string d.team) := d_ 2
  have e3 : w5.cell? ⟨w.heap.size + 1, 3, none⟩ = some (.string d.name) := d_ 3

  clear d_ hQ HC5 HM hr ht HR
  go_wp2_with fail
  go_region_with (first | (go_at_call 31; refine (HX.out _ ?_).mono ?_; (repeat (first | exact Below.refl _ _ | refine Below.drew ?_)); rintro e w6 ⟨rfl, hb6, g0⟩) | (go_at_call 32; refine (gateHas Q d.verb _ HQ.out).mono ?_; rintro e w7 ⟨rfl, rfl⟩))
  all_goals
    go_wp2
    go_ret
    refine ⟨Pl.ret_bool HE.out.symm, ?_⟩
    repeat (first | exact hb6 | refine Below.drew ?_)

end Go.Proofs.YtfmidkdpclfffaaDoor
