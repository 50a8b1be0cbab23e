/-
  Plain functions: covering is sound and whole, and leads on.
-/
import Derived.Test.YtfmidkdpclfffaaDoorWalkVD
namespace Go.Proofs.YtfmidkdpclfffaaDoor
open Go.RowKit Go.Deep

theorem ba_ext {a b : ByteArray} (h : (a.toList == b.toList) = true) : a = b := by
  have h := eq_of_beq h
  rw [Pl.tl, Pl.tl] at h
  exact ByteArray.ext (Array.toList_inj.1 h)
theorem ba_refl (a : ByteArray) : (a.toList == a.toList) = true := beq_self_eq_true _

/- What begins with what. -/
theorem ext_list (s : ByteArray) (n : Nat) : (s.extract 0 n).toList = s.toList.take n := by
  rw [Pl.tl, Pl.tl, ByteArray.data_extract]
  simp
theorem begins_iff (s p : ByteArray) : begins s p = true ↔ p.toList <+: s.toList := by
  have hp : p.toList.length = p.size := by rw [Pl.tl]; exact Pl.len_data p
  have hs : s.toList.length = s.size := by rw [Pl.tl]; exact Pl.len_data s
  unfold begins
  rw [ext_list, Bool.and_eq_true, decide_eq_true_eq, beq_iff_eq]
  constructor
  · rintro ⟨_, h2⟩
    rw [← h2]
    exact List.take_prefix _ _
  · intro h
    refine ⟨by rw [← hp, ← hs]; exact h.length_le, ?_⟩
    rw [← hp]
    exact (List.prefix_iff_eq_take.1 h).symm
theorem begins_refl (s : ByteArray) : begins s s = true := (begins_iff s s).2 (List.prefix_refl _)
theorem begins_trans {a b c : ByteArray} (h : begins a b = true) (k : begins b c = true) : begins a c = true :=
  (begins_iff a c).2 (((begins_iff b c).1 k).trans ((begins_iff a b).1 h))

/- What stands under what. -/
theorem up_trans {ts : List Tm} : ∀ (i j : Nat) (a b c : ByteArray), upTo ts i a b = true → upTo ts j b c = true → upTo ts (i + j) a c = true
  | 0, _, _, _, _, h, _ => by simp [upTo] at h
  | i + 1, j, a, b, c, h, k => by
    have e : i + 1 + j = (i + j) + 1 := by omega
    rw [e]
    rw [upTo] at h ⊢
    by_cases h0 : Pl.isEmp (overOf ts a) = true
    · rw [if_pos h0] at h; cases h
    rw [if_neg h0] at h ⊢
    by_cases h1 : ((overOf ts a).toList == c.toList) = true
    · rw [if_pos h1]
    rw [if_neg h1]
    by_cases h2 : ((overOf ts a).toList == b.toList) = true
    · rw [ba_ext h2]
      clear h
      have mono : ∀ (n m : Nat) (x y : ByteArray), n ≤ m → upTo ts n x y = true → upTo ts m x y = true := by
        intro n
        induction n with
        | zero => intro m x y _ h; simp [upTo] at h
        | succ n ih =>
          intro m x y hm h
          obtain ⟨m', rfl⟩ : ∃ m', m = m' + 1 := ⟨m - 1, by omega⟩
          rw [upTo] at h ⊢
          by_cases g0 : Pl.isEmp (overOf ts x) = true
          · rw [if_pos g0] at h; cases h
          rw [if_neg g0] at h ⊢
          by_cases g1 : ((overOf ts x).toList == y.toList) = true
          · rw [if_pos g1]
          rw [if_neg g1] at h ⊢
          exact ih m' _ _ (by omega) h
      exact mono j (i + j) b c (by omega) k
    · rw [if_neg h2] at h
      exact up_trans i j _ b c h k
theorem up_cut {ts : List Tm} : ∀ (k n : Nat) (a c : ByteArray), high ts (k + 1) a = true → upTo ts n a c = true → upTo ts k a c = true
  | _, 0, _, _, _, h => by simp [upTo] at h
  | 0, n + 1, a, c, hh, h => by
    rw [high] at hh
    rw [upTo] at h
    by_cases h0 : Pl.isEmp (overOf ts a) = true
    · rw [if_pos h0] at h; cases h
    · rw [if_neg h0] at hh; simp [high] at hh
  | k + 1, n + 1, a, c, hh, h => by
    rw [high] at hh
    rw [upTo] at h ⊢
    by_cases h0 : Pl.isEmp (overOf ts a) = true
    · rw [if_pos h0] at h; cases h
    rw [if_neg h0] at h hh ⊢
    by_cases h1 : ((overOf ts a).toList == c.toList) = true
    · rw [if_pos h1]
    rw [if_neg h1] at h ⊢
    exact up_cut k n _ c hh h
theorem over_team (a : ByteArray) : ∀ ts : List Tm, Pl.isEmp (overOf ts a) = false → ∃ t ∈ ts, (t.nm.toList == a.toList) = true
  | [], h => by have : Pl.isEmp ByteArray.empty = true := by unfold Pl.isEmp; rw [Pl.tl]; rfl
                rw [overOf, this] at h; cases h
  | t :: ts, h => by
    rw [overOf] at h
    by_cases e : (t.nm.toList == a.toList) = true
    · exact ⟨t, by simp, e⟩
    · rw [if_neg e] at h
      obtain ⟨x, hx, hh⟩ := over_team a ts h
      exact ⟨x, by simp [hx], hh⟩
theorem high_team {ts : List Tm} (h : teamsOk ts = true) : ∀ t ∈ ts, high ts 5 t.nm = true := by
  intro t ht
  unfold teamsOk teamsTo at h
  rw [Bool.and_eq_true, List.all_eq_true] at h
  obtain ⟨i, hi, rfl⟩ := List.getElem_of_mem ht
  have := h.2 i (List.mem_range.2 hi)
  unfold teamAt at this
  simp only [Bool.and_eq_true] at this
  have e : ts.getD i Tm.none = ts[i] := by simp [hi]
  rw [e] at this
  exact this.2
theorem under_trans {ts : List Tm} (h : teamsOk ts = true) {a b c : ByteArray} (h1 : under ts a b = true) (h2 : under ts b c = true) : under ts a c = true := by
  unfold under at h1 h2 ⊢
  rw [Bool.or_eq_true] at h1 h2 ⊢
  rcases h1 with h1 | h1
  · rw [ba_ext h1]; exact h2
  rcases h2 with h2 | h2
  · rw [← ba_ext h2]; exact Or.inr h1
  · have h3 := up_trans 4 4 a b c h1 h2
    right
    have hne : Pl.isEmp (overOf ts a) = false := by
      cases e : Pl.isEmp (overOf ts a)
      · rfl
      · rw [upTo, if_pos e] at h1; cases h1
    obtain ⟨t, ht, hh⟩ := over_team a ts hne
    have := high_team h t ht
    rw [ba_ext hh] at this
    exact up_cut 4 8 a c this h3
theorem under_refl (ts : List Tm) (a : ByteArray) : under ts a a = true := by unfold under; rw [ba_refl]; rfl

/- Covering. -/
theorem has_iff (l : List Int) (v : Int) : hasVerb l v = true ↔ v ∈ l := by
  unfold hasVerb
  rw [List.any_eq_true]
  constructor
  · rintro ⟨x, hx, e⟩
    rw [beq_iff_eq] at e
    rw [← e]; exact hx
  · intro h
    exact ⟨v, h, beq_self_eq_true v⟩
theorem verbs_of {r : Rul} (h : ruleOk r = true) : verbsOk r.verbs = true := by
  simp only [ruleOk, Bool.and_eq_true] at h; exact h.1.1.1
theorem lack_all {ts : List Tm} {rs : List Rul} {r : Rul} (hr : ruleOk r = true) : lackOf ts rs r r.verbs = 0 ↔ ∀ v ∈ r.verbs, covV ts rs r v = true :=
  lack_zero ts rs r r.verbs fun v hv e => by have := verbs_in (verbs_of hr) v hv; omega
theorem covers_iff (ts : List Tm) (rs : List Rul) (r : Rul) : covers ts rs r = true ↔ allOk ts rs r = true ∧ ∀ v ∈ r.verbs, covV ts rs r v = true := by
  unfold covers
  rw [Bool.and_eq_true, beq_iff_eq]
  constructor
  · rintro ⟨h, k⟩
    have hr : ruleOk r = true := by simp only [allOk, Bool.and_eq_true] at h; exact h.1.2
    exact ⟨h, (lack_all hr).1 k⟩
  · rintro ⟨h, k⟩
    have hr : ruleOk r = true := by simp only [allOk, Bool.and_eq_true] at h; exact h.1.2
    exact ⟨h, (lack_all hr).2 k⟩
theorem allOk_iff (ts : List Tm) (rs : List Rul) (r : Rul) : allOk ts rs r = true ↔ teamsOk ts = true ∧ ruleOk r = true ∧ ∀ q ∈ rs, ruleOk q = true := by
  simp only [allOk, Bool.and_eq_true, List.all_eq_true, and_assoc]

/-- What a covered rule allows is allowed by one of the rules. -/
theorem cov_sound {ts : List Tm} {rs : List Rul} {r : Rul} {d : Deed} (h : covers ts rs r = true) (ha : allows ts r d = true) : rs.any (fun q => allows ts q d) = true := by
  obtain ⟨hok, hall⟩ := (covers_iff ts rs r).1 h
  obtain ⟨ht, hr, hrs⟩ := (allOk_iff ts rs r).1 hok
  unfold allows at ha
  simp only [Bool.and_eq_true] at ha
  obtain ⟨_, hv, hg⟩ := ha
  have hc := hall _ ((has_iff _ _).1 hv)
  unfold covV at hc
  rw [List.any_eq_true] at hc ⊢
  obtain ⟨q, hq, hc⟩ := hc
  refine ⟨q, hq, ?_⟩
  unfold cov at hc
  unfold given kindIn teamIn at hg
  simp only [Bool.and_eq_true, Bool.or_eq_true, Bool.not_eq_true'] at hc hg
  obtain ⟨c1, ⟨c2, c3⟩, c4⟩ := hc
  obtain ⟨⟨g1, g2⟩, g3⟩ := hg
  unfold allows given kindIn teamIn
  simp only [Bool.and_eq_true, Bool.or_eq_true]
  refine ⟨⟨ht, hrs q hq⟩, c1, ⟨?_, ?_⟩, begins_trans g3 c4⟩
  · rcases c2 with c2 | c2
    · exact Or.inl c2
    · rw [ba_ext c2]; exact g1
  · rcases c3 with c3 | ⟨c3, c5⟩
    · exact Or.inl c3
    · right
      rcases g2 with g2 | g2
      · rw [g2] at c3; cases c3
      · exact under_trans ht g2 c5

/-- Of a rule that is not covered an act is told that it allows and none of the rules does. -/
theorem unc_allows {ts : List Tm} {rs : List Rul} {r : Rul} (h : uncOk ts rs r = true) : allows ts r ⟨uncV ts rs r, uncK ts rs r, uncT ts rs r, uncP ts rs r⟩ = true ∧ rs.any (fun q => allows ts q ⟨uncV ts rs r, uncK ts rs r, uncT ts rs r, uncP ts rs r⟩) = false := by
  have h' := h
  unfold uncOk at h'
  rw [Bool.and_eq_true] at h'
  obtain ⟨hok, hl⟩ := h'
  obtain ⟨ht, hr, hrs⟩ := (allOk_iff ts rs r).1 hok
  have hl0 : lackOf ts rs r r.verbs ≠ 0 := by
    intro e
    rw [e] at hl
    cases hl
  obtain ⟨k, hk, hke, hkc, _⟩ := lack_at ts rs r r.verbs hl0
  have e1 : uncV ts rs r = lackOf ts rs r r.verbs := by unfold uncV; rw [if_pos h]
  have e2 : uncK ts rs r = uncKind rs r := by unfold uncK; rw [if_pos h]
  have e3 : uncT ts rs r = uncTeam ts rs r := by unfold uncT; rw [if_pos h]
  have e4 : uncP ts rs r = r.pre := by unfold uncP; rw [if_pos h]
  rw [e1, e2, e3, e4]
  rw [hke] at hkc
  have hmem : lackOf ts rs r r.verbs ∈ r.verbs := by
    rw [← hke, List.getD_eq_getElem?_getD, List.getElem?_eq_getElem hk]
    exact List.getElem_mem _
  constructor
  · unfold allows given kindIn teamIn
    simp only [Bool.and_eq_true, Bool.or_eq_true]
    refine ⟨⟨ht, hr⟩, (has_iff _ _).2 hmem, ⟨?_, ?_⟩, begins_refl _⟩
    · cases e : r.kind.toList.isEmpty
      · right
        unfold uncKind
        rw [e]
        exact ba_refl _
      · exact Or.inl rfl
    · cases e : r.team.toList.isEmpty
      · right
        unfold uncTeam
        rw [e]
        exact under_refl _ _
      · exact Or.inl rfl
  · rw [List.any_eq_false]
    intro q hq ha
    have hnc : cov ts r (lackOf ts rs r r.verbs) q = false := by
      unfold covV at hkc
      rw [List.any_eq_false] at hkc
      have := hkc q hq
      simpa using this
    have : cov ts r (lackOf ts rs r r.verbs) q = true := by
      unfold allows given kindIn teamIn at ha
      simp only [Bool.and_eq_true, Bool.or_eq_true] at ha
      obtain ⟨_, a1, ⟨a2, a3⟩, a4⟩ := ha
      unfold cov
      simp only [Bool.and_eq_true, Bool.or_eq_true, Bool.not_eq_true']
      refine ⟨a1, ⟨?_, ?_⟩, a4⟩
      · rcases a2 with a2 | a2
        · exact Or.inl a2
        · cases e : r.kind.toList.isEmpty
          · right
            unfold uncKind at a2
            rw [e] at a2
            exact a2
          · exfalso
            unfold uncKind at a2
            rw [if_pos e] at a2
            have hf := fresh_free letK (kindsOf rs)
            have hh := has_kinds rs (fresh letK (kindsOf rs))
            unfold fresh at hh a2
            rw [hf] at hh
            have := List.any_eq_false.1 hh.symm q hq
            exact this a2
      · rcases a3 with a3 | a3
        · exact Or.inl a3
        · cases e : r.team.toList.isEmpty
          · right
            unfold uncTeam at a3
            rw [e] at a3
            exact ⟨rfl, a3⟩
          · exfalso
            unfold uncTeam at a3
            rw [if_pos e] at a3
            have hf := fresh_free letT (namesOf ts rs)
            have hh := has_names ts rs (fresh letT (namesOf ts rs))
            unfold fresh at hh a3
            rw [hf] at hh
            have hh := hh.symm
            rw [Bool.or_eq_false_iff] at hh
            unfold under at a3
            rw [Bool.or_eq_true] at a3
            rcases a3 with a3 | a3
            · have := List.any_eq_false.1 hh.2 q hq
              rw [ba_ext a3] at this
              exact this (ba_refl _)
            · have hne : Pl.isEmp (overOf ts (numb letT (freshN letT (namesOf ts rs)))) = false := by
                cases e : Pl.isEmp (overOf ts (numb letT (freshN letT (namesOf ts rs))))
                · rfl
                · rw [upTo, if_pos e] at a3; cases a3
              obtain ⟨t, ht', hn⟩ := over_team _ ts hne
              have := List.any_eq_false.1 hh.1 t ht'
              exact this hn
    rw [hnc] at this
    cases this

/-- With the rule itself among the rules it is covered just where all is ok. -/
theorem cov_self (ts : List Tm) (rs : List Rul) (r : Rul) : covers ts (rs ++ [r]) r = allOk ts rs r := by
  have key : allOk ts (rs ++ [r]) r = allOk ts rs r := by
    rw [Bool.eq_iff_iff, allOk_iff, allOk_iff]
    constructor
    · rintro ⟨a, b, c⟩
      exact ⟨a, b, fun q hq => c q (by simp [hq])⟩
    · rintro ⟨a, b, c⟩
      refine ⟨a, b, fun q hq => ?_⟩
      rcases List.mem_append.1 hq with hq | hq
      · exact c q hq
      · simp at hq; subst hq; exact b
  rw [Bool.eq_iff_iff, covers_iff, key]
  constructor
  · exact fun h => h.1
  · intro h
    refine ⟨h, fun v hv => ?_⟩
    unfold covV
    rw [List.any_eq_true]
    refine ⟨r, by simp, ?_⟩
    unfold cov
    simp only [Bool.and_eq_true, Bool.or_eq_true, Bool.not_eq_true']
    refine ⟨(has_iff _ _).2 hv, ⟨Or.inr (ba_refl _), ?_⟩, begins_refl _⟩
    cases e : r.team.toList.isEmpty
    · exact Or.inr ⟨rfl, under_refl _ _⟩
    · exact Or.inl rfl

theorem unc_cov (ts : List Tm) (rs : List Rul) (r : Rul) : uncOk ts rs r = (allOk ts rs r && !covers ts rs r) := by
  unfold uncOk covers
  cases allOk ts rs r <;> simp

/-- What is covered by rules that others cover is covered by these. -/
theorem cov_on {ts : List Tm} {rs os : List Rul} {r : Rul} (h : covers ts rs r = true) (k : ∀ q ∈ rs, covers ts os q = true) : covers ts os r = true := by
  obtain ⟨hok, hall⟩ := (covers_iff ts rs r).1 h
  obtain ⟨ht, hr, hrs⟩ := (allOk_iff ts rs r).1 hok
  have hne : ∃ q, q ∈ rs := by
    have hv := verbs_of hr
    unfold verbsOk at hv
    rw [Bool.and_eq_true] at hv
    cases e : r.verbs with
    | nil => rw [e] at hv; simp at hv
    | cons v vs =>
      have := hall v (by rw [e]; simp)
      unfold covV at this
      rw [List.any_eq_true] at this
      obtain ⟨q, hq, _⟩ := this
      exact ⟨q, hq⟩
  obtain ⟨q0, hq0⟩ := hne
  have hos := ((allOk_iff ts os q0).1 ((covers_iff ts os q0).1 (k q0 hq0)).1).2.2
  have hok2 : allOk ts os r = true := (allOk_iff ts os r).2 ⟨ht, hr, hos⟩
  cases hc : covers ts os r
  · exfalso
    have hu : uncOk ts os r = true := by rw [unc_cov, hok2, hc]; rfl
    obtain ⟨a1, a2⟩ := unc_allows hu
    have := cov_sound h a1
    rw [List.any_eq_true] at this
    obtain ⟨q, hq, ha⟩ := this
    have := cov_sound (k q hq) ha
    rw [a2] at this
    cases this
  · rfl

end Go.Proofs.YtfmidkdpclfffaaDoor
