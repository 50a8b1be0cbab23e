/-
  Sheets: filled and trimmed: the two plain answers are one.
-/
import Derived.Test.YtfmhfacaemfhlaaEYp
import Derived.Test.YtfmhfacaemfhlaaEYr
import Derived.Test.YtfmhfacaemfhlaaETp
namespace Go.Proofs.Ytfmhfacaemfhlaa
open Go.RowKit Go.Deep

theorem sorted_eq {α : Type} {lt : α → α → Bool} (irr : ∀ a, lt a a = false) (tr : ∀ a b c, lt a b = true → lt b c = true → lt a c = true) : ∀ (x y : List α), x.Pairwise (fun a b => lt a b = true) → y.Pairwise (fun a b => lt a b = true) → (∀ z, z ∈ x ↔ z ∈ y) → x = y
  | [], [], _, _, _ => rfl
  | [], b :: y, _, _, h => by have := (h b).2 (by simp); cases this
  | a :: x, [], _, _, h => by have := (h a).1 (by simp); cases this
  | a :: x, b :: y, hx, hy, h => by
    rw [List.pairwise_cons] at hx hy
    have e : a = b := by
      rcases List.mem_cons.1 ((h a).1 (by simp)) with e | e
      · exact e
      · rcases List.mem_cons.1 ((h b).2 (by simp)) with q | q
        · exact q.symm
        · have h1 := hy.1 a e
          have h2 := hx.1 b q
          have := tr _ _ _ h1 h2
          rw [irr] at this; cases this
    subst e
    refine congrArg _ (sorted_eq irr tr x y hx.2 hy.2 fun z => ⟨fun hz => ?_, fun hz => ?_⟩)
    · rcases List.mem_cons.1 ((h z).1 (List.mem_cons_of_mem _ hz)) with e | e
      · subst e; have := hx.1 z hz; rw [irr] at this; cases this
      · exact e
    · rcases List.mem_cons.1 ((h z).2 (List.mem_cons_of_mem _ hz)) with e | e
      · subst e; have := hy.1 z hz; rw [irr] at this; cases this
      · exact e
theorem ln_irr (kind : ByteArray) (a : Pl.Ln) : Pl.lineLess kind a a = false := by
  cases h : Pl.lineLess kind a a
  · rfl
  · have h1 := ((totLn kind).neg a a).2 h
    have : cmpLn (Pl.rulesOf kind) a a = 0 := by
      show pick2 (numCmp _ _) (cmpW _ _) = 0
      unfold pick2
      rw [if_pos ((numCmp_zero _ _).2 rfl)]
      exact (cmpW_zero _ _).2 rfl
    omega
theorem bl_irr (a : Pl.Bl) : Pl.ahead a a = false := by
  cases h : Pl.ahead a a
  · rfl
  · have h1 := (totBl.neg a a).2 h
    have : cmpBl a a = 0 := by
      show pick2 (keyCmp _ _) (keyCmp _ _) = 0
      unfold pick2
      rw [if_pos ((keyCmp_zero _ _).2 (by unfold Pl.txEq; simp))]
      exact (keyCmp_zero _ _).2 (by unfold Pl.txEq; simp)
    omega
/-- The rules of a kind are in their order. -/
def rulesAsc (rs : List Pl.Ru) : Bool := (List.range rs.length).all fun i => Pl.ixI (Pl.ruIx rs (rs.getD i Pl.ruNo).key) == (i : Int)
theorem rules_asc (kind : ByteArray) : rulesAsc (Pl.rulesOf kind) = true := by
  unfold Pl.rulesOf
  split
  · decide +kernel
  · split
    · decide +kernel
    · split <;> decide +kernel
theorem rule_pos {kind : ByteArray} {i : Nat} (hi : i < (Pl.rulesOf kind).length) : Pl.ruPos kind ((Pl.rulesOf kind).getD i Pl.ruNo).key = (i : Int) := by
  have h := rules_asc kind
  unfold rulesAsc at h
  rw [List.all_eq_true] at h
  have := h i (List.mem_range.2 hi)
  exact by simpa [Pl.ruPos] using this
theorem rules_pair (kind : ByteArray) : (Pl.rulesOf kind).Pairwise fun a b => Pl.ruPos kind a.key < Pl.ruPos kind b.key := by
  rw [List.pairwise_iff_getElem]
  intro i j hi hj hij
  have e1 : (Pl.rulesOf kind).getD i Pl.ruNo = (Pl.rulesOf kind)[i] := by simp [hi]
  have e2 : (Pl.rulesOf kind).getD j Pl.ruNo = (Pl.rulesOf kind)[j] := by simp [hj]
  rw [← e1, ← e2, rule_pos hi, rule_pos hj]
  omega
theorem of_key {l : List Pl.Ln} {key : ByteArray} {x : Pl.Ln} : x ∈ Pl.linesOf l key ↔ x ∈ l ∧ x.key = key := by
  unfold Pl.linesOf
  rw [List.mem_filter]
  constructor
  · exact fun h => ⟨h.1, tl_inj h.2⟩
  · exact fun h => ⟨h.1, by rw [h.2]; simp⟩
theorem meant_mem {r : Pl.Ru} {l : List Pl.Ln} {x : Pl.Ln} : x ∈ Pl.meant r l ↔ (x ∈ l ∧ x.key = r.key) ∨ (r.many = false ∧ (∀ y ∈ l, y.key ≠ r.key) ∧ x = ⟨r.key, r.dflt⟩) := by
  have hno : (Pl.linesOf l r.key).length = 0 ↔ ∀ y ∈ l, y.key ≠ r.key := by
    rw [List.length_eq_zero_iff]
    constructor
    · intro h y hy e
      have := (of_key (l := l) (key := r.key)).2 ⟨hy, e⟩
      rw [h] at this; cases this
    · intro h
      rw [List.eq_nil_iff_forall_not_mem]
      intro y hy
      exact h y (of_key.1 hy).1 (of_key.1 hy).2
  unfold Pl.meant
  split
  · rename_i h
    rw [Bool.and_eq_true, decide_eq_true_iff, Bool.not_eq_true'] at h
    rw [List.mem_singleton]
    constructor
    · exact fun e => Or.inr ⟨h.2, hno.1 h.1, e⟩
    · rintro (⟨h1, h2⟩ | ⟨_, _, e⟩)
      · exact absurd h2 (hno.1 h.1 x h1)
      · exact e
  · rename_i h
    rw [Bool.and_eq_true, decide_eq_true_iff, Bool.not_eq_true'] at h
    rw [of_key]
    constructor
    · exact Or.inl
    · rintro (q | ⟨h1, h2, _⟩)
      · exact q
      · exact absurd ⟨hno.2 h2, h1⟩ h
theorem meant_key {r : Pl.Ru} {l : List Pl.Ln} {x : Pl.Ln} (h : x ∈ Pl.meant r l) : x.key = r.key := by
  rcases meant_mem.1 h with ⟨_, e⟩ | ⟨_, _, e⟩
  · exact e
  · rw [e]
theorem meant_pair {kind : ByteArray} {l : List Pl.Ln} (h : l.Pairwise fun a b => Pl.lineLess kind a b = true) (r : Pl.Ru) : (Pl.meant r l).Pairwise fun a b => Pl.lineLess kind a b = true := by
  unfold Pl.meant
  split
  · simp
  · exact h.sublist List.filter_sublist
theorem less_pos {kind : ByteArray} {a b : Pl.Ln} (h : Pl.ruPos kind a.key < Pl.ruPos kind b.key) : Pl.lineLess kind a b = true := by
  unfold Pl.lineLess; rw [decide_eq_true h]; rfl
theorem filled_pair {kind : ByteArray} {l : List Pl.Ln} (h : l.Pairwise fun a b => Pl.lineLess kind a b = true) : (Pl.filled kind l).Pairwise fun a b => Pl.lineLess kind a b = true := by
  unfold Pl.filled
  rw [List.pairwise_flatMap]
  refine ⟨fun r _ => meant_pair h r, (rules_pair kind).imp fun {a b} hab x hx y hy => less_pos ?_⟩
  rw [meant_key hx, meant_key hy]; exact hab
/-- Lines that all have a rule. -/
def Ruled (kind : ByteArray) (l : List Pl.Ln) : Prop := ∀ x ∈ l, ∃ r ∈ Pl.rulesOf kind, x.key = r.key
theorem ruled_of {kind : ByteArray} {l : List Pl.Ln} (h : Pl.linesOk kind l = true) : Ruled kind l := fun x hx => by
  obtain ⟨j, hj⟩ := Pl.fits_rule (lines_fit h x hx)
  have hl := Pl.ruIx_lt hj
  refine ⟨(Pl.rulesOf kind).getD j Pl.ruNo, ?_, (ruIx_key hj).symm⟩
  have e : (Pl.rulesOf kind).getD j Pl.ruNo = (Pl.rulesOf kind)[j] := by simp [hl]
  rw [e]; exact List.getElem_mem hl
theorem pos_inj {kind : ByteArray} {a b : Pl.Ru} (ha : a ∈ Pl.rulesOf kind) (hb : b ∈ Pl.rulesOf kind) (h : Pl.ruPos kind a.key = Pl.ruPos kind b.key) : a = b := by
  obtain ⟨i, hi, rfl⟩ := List.getElem_of_mem ha
  obtain ⟨j, hj, rfl⟩ := List.getElem_of_mem hb
  have e1 : (Pl.rulesOf kind).getD i Pl.ruNo = (Pl.rulesOf kind)[i] := by simp [hi]
  have e2 : (Pl.rulesOf kind).getD j Pl.ruNo = (Pl.rulesOf kind)[j] := by simp [hj]
  rw [← e1, ← e2, rule_pos hi, rule_pos hj] at h
  have : i = j := by omega
  subst this; rfl
theorem filled_mem {kind : ByteArray} {l : List Pl.Ln} (hl : Ruled kind l) {x : Pl.Ln} : x ∈ Pl.filled kind l ↔ x ∈ l ∨ ∃ r ∈ Pl.rulesOf kind, r.many = false ∧ (∀ y ∈ l, y.key ≠ r.key) ∧ x = ⟨r.key, r.dflt⟩ := by
  unfold Pl.filled
  rw [List.mem_flatMap]
  constructor
  · rintro ⟨r, hr, hx⟩
    rcases meant_mem.1 hx with q | q
    · exact Or.inl q.1
    · exact Or.inr ⟨r, hr, q⟩
  · rintro (h | ⟨r, hr, q⟩)
    · obtain ⟨r, hr, e⟩ := hl x h
      exact ⟨r, hr, meant_mem.2 (Or.inl ⟨h, e⟩)⟩
    · exact ⟨r, hr, meant_mem.2 (Or.inr q)⟩
/-- A line put into its place among lines of other keys. -/
theorem put_pair {kind : ByteArray} {l : List Pl.Ln} (h : l.Pairwise fun a b => Pl.lineLess kind a b = true) (t : Pl.Ln) (hn : ∀ y ∈ l, cmpLn (Pl.rulesOf kind) y t ≠ 0) : (Pl.putLn kind l t).Pairwise fun a b => Pl.lineLess kind a b = true := by
  unfold Pl.putLn
  rw [put_split (Pl.lineLess kind) l t]
  refine pl_pair (totLn kind) Pl.lnNo h t fun q => ?_
  have e : l.getD (plOf (Pl.lineLess kind) l t) Pl.lnNo = l[plOf (Pl.lineLess kind) l t]'q.1 := by simp [q.1]
  exact hn _ (List.getElem_mem q.1) (by rw [← e]; exact q.2)
theorem cmpLn_pos {kind : ByteArray} {a b : Pl.Ln} (h : cmpLn (Pl.rulesOf kind) a b = 0) : Pl.ruPos kind a.key = Pl.ruPos kind b.key ∧ a.ws = b.ws := by
  have h' : pick2 (numCmp (Pl.ixI (Pl.ruIx (Pl.rulesOf kind) a.key)) (Pl.ixI (Pl.ruIx (Pl.rulesOf kind) b.key))) (cmpW a.ws b.ws) = 0 := h
  unfold pick2 at h'
  split at h'
  · rename_i q
    exact ⟨(numCmp_zero _ _).1 q, (cmpW_zero _ _).1 h'⟩
  · rename_i q; exact absurd h' q
theorem fill_inv (kind : ByteArray) (l : List Pl.Ln) (hl : Ruled kind l) : ∀ (rs pre : List Pl.Ru) (acc : List Pl.Ln), (pre ++ rs) = Pl.rulesOf kind → acc.Pairwise (fun a b => Pl.lineLess kind a b = true) →
    (∀ x, x ∈ acc ↔ x ∈ l ∨ ∃ r ∈ pre, r.many = false ∧ (∀ y ∈ l, y.key ≠ r.key) ∧ x = ⟨r.key, r.dflt⟩) →
    (Pl.fillLs kind acc rs).Pairwise (fun a b => Pl.lineLess kind a b = true) ∧ ∀ x, x ∈ Pl.fillLs kind acc rs ↔ x ∈ l ∨ ∃ r ∈ pre ++ rs, r.many = false ∧ (∀ y ∈ l, y.key ≠ r.key) ∧ x = ⟨r.key, r.dflt⟩
  | [], pre, acc, _, hp, hm => by rw [List.append_nil]; exact ⟨hp, hm⟩
  | r :: rs, pre, acc, hall, hp, hm => by
    have hr : r ∈ Pl.rulesOf kind := by rw [← hall]; simp
    have hpre : ∀ q ∈ pre, q ∈ Pl.rulesOf kind := fun q hq => by rw [← hall]; simp [hq]
    have hdist : ∀ q ∈ pre, q.key ≠ r.key := fun q hq e => by
      have h1 := rules_pair kind
      rw [← hall, List.pairwise_append] at h1
      have := h1.2.2 q hq r (by simp)
      rw [e] at this; omega
    have hkeys : (Pl.linesOf acc r.key).length = 0 ↔ ∀ y ∈ l, y.key ≠ r.key := by
      rw [List.length_eq_zero_iff, List.eq_nil_iff_forall_not_mem]
      constructor
      · intro h y hy e
        exact h y (of_key.2 ⟨(hm y).2 (Or.inl hy), e⟩)
      · intro h y hy
        obtain ⟨h1, h2⟩ := of_key.1 hy
        rcases (hm y).1 h1 with q | ⟨p, hp', _, _, e⟩
        · exact h y q h2
        · exact hdist p hp' (by rw [e] at h2; exact h2)
    have e0 : Pl.fillLs kind acc (r :: rs) = Pl.fillLs kind (Pl.fillStep kind acc r) rs := rfl
    have e1 : pre ++ r :: rs = (pre ++ [r]) ++ rs := by simp
    rw [e0, e1]
    refine fill_inv kind l hl rs (pre ++ [r]) _ (by rw [← hall]; simp) ?_ ?_
    · unfold Pl.fillStep
      split
      · rename_i hc
        rw [Bool.and_eq_true, decide_eq_true_iff, Bool.not_eq_true'] at hc
        refine put_pair hp _ fun y hy e => ?_
        have h1 := (cmpLn_pos e).1
        rcases (hm y).1 hy with q | ⟨p, hp', _, _, e2⟩
        · obtain ⟨r', hr', e'⟩ := hl y q
          rw [e'] at h1
          have := pos_inj hr' hr h1
          exact hkeys.1 hc.2 y q (by rw [e', this])
        · rw [e2] at h1
          have := pos_inj (hpre p hp') hr h1
          exact hdist p hp' (by rw [this])
      · exact hp
    · intro x
      unfold Pl.fillStep
      split
      · rename_i hc
        rw [Bool.and_eq_true, decide_eq_true_iff, Bool.not_eq_true'] at hc
        rw [Pl.putLn_mem, hm]
        constructor
        · rintro (e | e | ⟨p, hp', q⟩)
          · exact Or.inr ⟨r, by simp, hc.1, hkeys.1 hc.2, e⟩
          · exact Or.inl e
          · exact Or.inr ⟨p, by simp [hp'], q⟩
        · rintro (e | ⟨p, hp', q⟩)
          · exact Or.inr (Or.inl e)
          · rcases List.mem_append.1 hp' with h1 | h1
            · exact Or.inr (Or.inr ⟨p, h1, q⟩)
            · rw [List.mem_singleton] at h1; subst h1; exact Or.inl q.2.2
      · rename_i hc
        rw [Bool.and_eq_true, decide_eq_true_iff, Bool.not_eq_true'] at hc
        rw [hm]
        constructor
        · rintro (e | ⟨p, hp', q⟩)
          · exact Or.inl e
          · exact Or.inr ⟨p, by simp [hp'], q⟩
        · rintro (e | ⟨p, hp', q⟩)
          · exact Or.inl e
          · rcases List.mem_append.1 hp' with h1 | h1
            · exact Or.inr ⟨p, h1, q⟩
            · rw [List.mem_singleton] at h1; subst h1; exact absurd ⟨q.1, hkeys.2 q.2.1⟩ hc
theorem filled_eq {kind : ByteArray} {l : List Pl.Ln} (h : Pl.linesOk kind l = true) : Pl.filled kind l = Pl.fillLs kind l (Pl.rulesOf kind) := by
  have hr := ruled_of h
  have hp := lines_pair h
  obtain ⟨h1, h2⟩ := fill_inv kind l hr (Pl.rulesOf kind) [] l rfl hp (fun x => by simp)
  refine sorted_eq (ln_irr kind) (totLn kind).tr _ _ (filled_pair hp) h1 fun z => ?_
  rw [filled_mem hr, h2 z]; simp
theorem fill_eq (s : List Pl.Bl) : (if Pl.validS s then s.map (fun x => (⟨x.kind, x.name, Pl.filled x.kind x.lines⟩ : Pl.Bl)) else []) = Pl.fillOut s := by
  unfold Pl.fillOut
  cases hv : Pl.validS s
  · rfl
  · simp only [if_true]
    refine List.map_congr_left fun x hx => ?_
    rw [filled_eq (valid_lines hv x hx)]; rfl
theorem wordsEq_iff (a b : List ByteArray) : Pl.wordsEq a b = true ↔ a = b := by
  unfold Pl.wordsEq
  rw [Bool.and_eq_true, Bool.not_eq_true', Bool.not_eq_true']
  constructor
  · rintro ⟨h1, h2⟩
    by_cases e : cmpW a b = 0
    · exact (cmpW_zero a b).1 e
    · have h3 := lessW_tri a b (fun q => by rw [(cmpW_neg a b).1 q] at h1; cases h1) e
      rw [(cmpW_neg b a).1 h3] at h2; cases h2
  · intro e
    subst e
    have : ¬ Pl.lessW a a = true := fun q => by have := (cmpW_neg a a).2 q; have := (cmpW_zero a a).2 rfl; omega
    rw [Bool.not_eq_true] at this
    exact ⟨this, this⟩
theorem wordsEq_eq (a b : List ByteArray) : Pl.wordsEq a b = Pl.eqWs b a := by
  rw [Bool.eq_iff_iff, wordsEq_iff, eqWs_iff]
  exact ⟨Eq.symm, Eq.symm⟩
theorem trimmed_eq {kind : ByteArray} {l : List Pl.Ln} (h : Pl.linesOk kind l = true) : Pl.trimmed kind l = l.filter (Pl.keepLn kind) := by
  unfold Pl.trimmed
  refine List.filter_congr fun x hx => ?_
  obtain ⟨j, hj⟩ := Pl.fits_rule (lines_fit h x hx)
  unfold Pl.keepI Pl.keepLn
  rw [hj]
  simp only [wordsEq_eq]
theorem trim_eq (s : List Pl.Bl) : (if Pl.validS s then s.map (fun x => (⟨x.kind, x.name, Pl.trimmed x.kind x.lines⟩ : Pl.Bl)) else []) = Pl.trimOut s := by
  unfold Pl.trimOut
  cases hv : Pl.validS s
  · rfl
  · simp only [if_true]
    refine List.map_congr_left fun x hx => ?_
    rw [trimmed_eq (valid_lines hv x hx)]; rfl

end Go.Proofs.Ytfmhfacaemfhlaa
