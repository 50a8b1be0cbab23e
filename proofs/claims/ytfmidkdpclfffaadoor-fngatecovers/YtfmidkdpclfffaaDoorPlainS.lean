/-
  Plain functions: what rules cover; a set that is taken away verb by verb is empty just where each verb is covered.
-/
import Derived.Test.YtfmidkdpclfffaaDoorWalkRF
namespace Go.Proofs.YtfmidkdpclfffaaDoor
open Go.RowKit Go.Deep

def allOk (ts : List Tm) (rs : List Rul) (r : Rul) : Bool := teamsOk ts && ruleOk r && rs.all ruleOk
def cov (ts : List Tm) (r : Rul) (v : Int) (q : Rul) : Bool :=
  hasVerb q.verbs v && ((q.kind.toList.isEmpty || (q.kind.toList == r.kind.toList)) && (q.team.toList.isEmpty || (!r.team.toList.isEmpty && under ts r.team q.team)) && begins r.pre q.pre)
def covV (ts : List Tm) (rs : List Rul) (r : Rul) (v : Int) : Bool := rs.any (cov ts r v)
def lackOf (ts : List Tm) (rs : List Rul) (r : Rul) : List Int → Int
  | [] => 0
  | v :: vs => if covV ts rs r v = true then lackOf ts rs r vs else v
def covers (ts : List Tm) (rs : List Rul) (r : Rul) : Bool := allOk ts rs r && (lackOf ts rs r r.verbs == 0)

theorem lackOf_at (ts : List Tm) (rs : List Rul) (r : Rul) (l : List Int) (k : Nat) (hk : k < l.length) :
    lackOf ts rs r (l.drop k) = if covV ts rs r (l.getD k 0) = true then lackOf ts rs r (l.drop (k + 1)) else l.getD k 0 := by
  have e : l.getD k 0 = l[k] := by simp [hk]
  rw [List.drop_eq_getElem_cons hk, e, lackOf]
theorem lackOf_end (ts : List Tm) (rs : List Rul) (r : Rul) (l : List Int) (k : Nat) (hk : l.length ≤ k) : lackOf ts rs r (l.drop k) = 0 := by
  rw [List.drop_of_length_le hk, lackOf]

theorem any_snoc (p : Rul → Bool) (rs : List Rul) (k : Nat) (hk : k < rs.length) : (rs.take (k + 1)).any p = ((rs.take k).any p || p (rs.getD k Rul.none)) := by
  have e : rs.getD k Rul.none = rs[k] := by simp [hk]
  rw [List.take_succ_eq_append_getElem hk, List.any_append, e]; simp
theorem all_snocR (p : Rul → Bool) (rs : List Rul) (k : Nat) (hk : k < rs.length) : (rs.take (k + 1)).all p = ((rs.take k).all p && p (rs.getD k Rul.none)) := by
  have e : rs.getD k Rul.none = rs[k] := by simp [hk]
  rw [List.take_succ_eq_append_getElem hk, List.all_append, e]; simp
theorem all_falseR (p : Rul → Bool) (rs : List Rul) (k : Nat) (hk : k < rs.length) (h : p (rs.getD k Rul.none) = false) : rs.all p = false := by
  have e : rs.getD k Rul.none = rs[k] := by simp [hk]
  rw [e] at h
  rw [List.all_eq_false]
  exact ⟨rs[k], List.getElem_mem hk, by simp [h]⟩

/- What is not covered, as a set. -/
def giveN (ts : List Tm) (r q : Rul) : Nat := if given ts q r.kind r.team r.pre = true then setIf q.verbs else 0
def missTo (ts : List Tm) (rs : List Rul) (r : Rul) (k : Nat) : Nat := (rs.take k).foldl (fun S q => minus S (giveN ts r q)) (setIf r.verbs)
def missOf (ts : List Tm) (rs : List Rul) (r : Rul) : Nat := rs.foldl (fun S q => minus S (giveN ts r q)) (setIf r.verbs)

theorem missTo_succ (ts : List Tm) (rs : List Rul) (r : Rul) (k : Nat) (hk : k < rs.length) : missTo ts rs r (k + 1) = minus (missTo ts rs r k) (giveN ts r (rs.getD k Rul.none)) := by
  have e : rs.getD k Rul.none = rs[k] := by simp [hk]
  unfold missTo
  rw [List.take_succ_eq_append_getElem hk, List.foldl_append, e]; rfl
theorem missTo_all (ts : List Tm) (rs : List Rul) (r : Rul) (k : Nat) (hk : rs.length ≤ k) : missTo ts rs r k = missOf ts rs r := by
  unfold missTo missOf; rw [List.take_of_length_le hk]

theorem minus_test (S O i : Nat) : (minus S O).testBit i = (S.testBit i && !O.testBit i) := by
  unfold minus
  rw [Nat.testBit_xor, Nat.testBit_and]
  cases S.testBit i <;> cases O.testBit i <;> rfl

theorem lt64_of_bits {n : Nat} (h : ∀ i, 6 ≤ i → n.testBit i = false) : n < 64 := Nat.lt_pow_two_of_testBit (n := 6) n h

theorem minus_small {S O : Nat} (h : S < 64) : minus S O < 64 := by
  refine lt64_of_bits fun i hi => ?_
  rw [minus_test, Nat.testBit_lt_two_pow (Nat.lt_of_lt_of_le h (Nat.pow_le_pow_right (by decide) hi : 2 ^ 6 ≤ 2 ^ i))]; rfl

theorem giveN_small (ts : List Tm) (r q : Rul) : giveN ts r q < 64 := by
  unfold giveN
  split
  · exact setIf_small _
  · omega

theorem fold_test (f : Rul → Nat) (i : Nat) : ∀ (rs : List Rul) (S : Nat), (rs.foldl (fun S q => minus S (f q)) S).testBit i = (S.testBit i && rs.all (fun q => !(f q).testBit i))
  | [], S => by simp
  | q :: rs, S => by rw [List.foldl_cons, fold_test f i rs, minus_test, List.all_cons, Bool.and_assoc]

theorem fold_small (f : Rul → Nat) : ∀ (rs : List Rul) (S : Nat), S < 64 → rs.foldl (fun S q => minus S (f q)) S < 64
  | [], _, h => h
  | q :: rs, S, h => by rw [List.foldl_cons]; exact fold_small f rs _ (minus_small h)

theorem missTo_small (ts : List Tm) (rs : List Rul) (r : Rul) (k : Nat) : missTo ts rs r k < 64 := fold_small _ _ _ (setIf_small _)

theorem over_none {n : ByteArray} (hn : n.toList.isEmpty = true) : ∀ {ts : List Tm}, (∀ t ∈ ts, t.nm.toList.isEmpty = false) → overOf ts n = ByteArray.empty
  | [], _ => rfl
  | t :: ts, h => by
    have h1 := h t (by simp)
    have hne : ¬ (t.nm.toList == n.toList) = true := by
      intro e
      rw [beq_iff_eq] at e
      rw [e, hn] at h1
      cases h1
    rw [overOf, if_neg hne]
    exact over_none hn fun x hx => h x (by simp [hx])

theorem teams_full {ts : List Tm} (h : teamsOk ts = true) : ∀ t ∈ ts, t.nm.toList.isEmpty = false := by
  intro t ht
  obtain ⟨i, hi, rfl⟩ := List.getElem_of_mem ht
  simp only [teamsOk, teamsTo, Bool.and_eq_true, List.all_eq_true] at h
  have h1 := h.2 i (List.mem_range.2 hi)
  have e : ts.getD i Tm.none = ts[i] := by simp [hi]
  simp only [teamAt, Bool.and_eq_true, e] at h1
  exact Pl.name_full h1.1.1.1

theorem under_none {ts : List Tm} (h : teamsOk ts = true) {a q : ByteArray} (ha : a.toList.isEmpty = true) (hq : q.toList.isEmpty = false) : under ts a q = false := by
  have h1 : (a.toList == q.toList) = false := by
    rw [beq_eq_false_iff_ne]
    intro e
    rw [e, hq] at ha
    cases ha
  have h2 : Pl.isEmp (overOf ts a) = true := by rw [over_none ha (teams_full h), Pl.isEmp, Pl.tl]; rfl
  rw [under, h1, upTo, h2]; rfl

theorem given_cov {ts : List Tm} (h : teamsOk ts = true) (r q : Rul) : given ts q r.kind r.team r.pre = ((q.kind.toList.isEmpty || (q.kind.toList == r.kind.toList)) && (q.team.toList.isEmpty || (!r.team.toList.isEmpty && under ts r.team q.team)) && begins r.pre q.pre) := by
  unfold given kindIn teamIn
  congr 2
  cases hq : q.team.toList.isEmpty
  · cases hr : r.team.toList.isEmpty
    · rfl
    · rw [under_none h hr hq]; rfl
  · rfl

theorem giveN_test {ts : List Tm} (h : teamsOk ts = true) {r q : Rul} (hq : ruleOk q = true) {v : Int} (h1 : 1 ≤ v) (h5 : v ≤ 5) : (giveN ts r q).testBit v.toNat = cov ts r v q := by
  have hv : verbsOk q.verbs = true := by simp only [ruleOk, Bool.and_eq_true] at hq; exact hq.1.1.1
  have hb := has_set hv v
  rw [hasBit, decide_eq_true h1, decide_eq_true h5] at hb
  simp only [Bool.true_and] at hb
  unfold giveN cov
  rw [given_cov h]
  split
  · rename_i hg
    rw [hg, setIf, if_pos hv, hb]; simp
  · rename_i hg
    have hg' : ((q.kind.toList.isEmpty || (q.kind.toList == r.kind.toList)) && (q.team.toList.isEmpty || (!r.team.toList.isEmpty && under ts r.team q.team)) && begins r.pre q.pre) = false := by simpa using hg
    rw [hg']; simp

theorem lack_zero (ts : List Tm) (rs : List Rul) (r : Rul) : ∀ l : List Int, (∀ v ∈ l, v ≠ 0) → (lackOf ts rs r l = 0 ↔ ∀ v ∈ l, covV ts rs r v = true)
  | [], _ => by simp [lackOf]
  | v :: l, h => by
    rw [lackOf]
    by_cases hc : covV ts rs r v = true
    · rw [if_pos hc, lack_zero ts rs r l fun x hx => h x (by simp [hx])]
      simp [hc]
    · rw [if_neg hc]
      constructor
      · intro e; exact absurd e (h v (by simp))
      · intro e; exact absurd (e v (by simp)) hc

theorem miss_lack {ts : List Tm} {rs : List Rul} {r : Rul} (h : allOk ts rs r = true) : (missOf ts rs r = 0) ↔ (lackOf ts rs r r.verbs = 0) := by
  simp only [allOk, Bool.and_eq_true, List.all_eq_true] at h
  obtain ⟨⟨ht, hr⟩, hrs⟩ := h
  have hv : verbsOk r.verbs = true := by simp only [ruleOk, Bool.and_eq_true] at hr; exact hr.1.1.1
  have hin := verbs_in hv
  have hS : setIf r.verbs = setOf r.verbs := by rw [setIf, if_pos hv]
  rw [lack_zero ts rs r r.verbs fun v hv e => by have := hin v hv; omega]
  have cv : ∀ v ∈ r.verbs, (missOf ts rs r).testBit v.toNat = !covV ts rs r v := by
    intro v hvm
    have hvr := hin v hvm
    unfold missOf
    rw [fold_test, hS, setOf_test]
    have h1 : r.verbs.any (fun x => decide (x.toNat = v.toNat)) = true := by rw [List.any_eq_true]; exact ⟨v, hvm, by simp⟩
    rw [h1, Bool.true_and, covV, List.not_any_eq_all_not]
    rw [Bool.eq_iff_iff, List.all_eq_true, List.all_eq_true]
    constructor
    · intro e q hq; rw [← giveN_test ht (hrs q hq) hvr.1 hvr.2]; exact e q hq
    · intro e q hq; rw [giveN_test ht (hrs q hq) hvr.1 hvr.2]; exact e q hq
  constructor
  · intro e v hvm
    have := cv v hvm
    rw [e, Nat.zero_testBit] at this
    simpa using this.symm
  · intro e
    refine Nat.eq_of_testBit_eq fun i => ?_
    rw [Nat.zero_testBit]
    cases hb : (missOf ts rs r).testBit i with
    | false => rfl
    | true =>
      exfalso
      have hb2 := hb
      unfold missOf at hb2
      rw [fold_test, hS, setOf_test, Bool.and_eq_true, List.any_eq_true] at hb2
      obtain ⟨⟨x, hx, hxi⟩, _⟩ := hb2
      have hxi' : x.toNat = i := by simpa using hxi
      have := cv x hx
      rw [hxi', hb, e x hx] at this
      cases this

end Go.Proofs.YtfmidkdpclfffaaDoor
