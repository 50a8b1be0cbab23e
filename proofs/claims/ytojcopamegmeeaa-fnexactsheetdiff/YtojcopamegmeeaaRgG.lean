/-
  A region that draws its order, with guards and calls; all that is made lies behind.
-/
import Derived.Test.YtojcopamegmeeaaRel
namespace Go.Proofs.Ytojcopamegmeeaa
open Go.RowKit Go.Deep
namespace RY

/-- All slots that are written lie below n. -/
def slotG (l : List Oper) (n : Nat) : Bool := l.all fun o => match o.dst with
  | some k => decide (k < n)
  | none => true
theorem slotG_spec {l : List Oper} {n : Nat} (h : slotG l n = true) {i : Nat} {o : Oper} (hi : l[i]? = some o) : ∀ k, o.dst = some k → k < n := by
  unfold slotG at h
  rw [List.all_eq_true] at h
  have := h o (List.mem_of_getElem? hi)
  intro k hk
  rw [hk] at this
  simpa using this
theorem RInv.stepG {l : List Oper} {a0 : Act} {C : Array Bool → World → Prop} {V : Nat → Value → World → Prop} {L : Array Bool} {a : Act} {W : World} (h : RInv l a0 C V L a W) (hap : apartB l = true) (hpl : slotG l a0.tmps.size = true) {i : Nat} {o : Oper} {u : Value} {W' : World} (ho : l[i]? = some o) (hi : L.getD i true = false) (hC : C (L.setIfInBounds i true) W') (hm : ∀ j v, V j v W → V j v W') (hV : o.dst.isSome = true → V i u W') :
    RInv l a0 C V (L.setIfInBounds i true) (a.put o.dst u) W' := by
  cases hd : o.dst with
  | none =>
    refine ⟨by simp [h.len], hC, h.df, h.sz, fun k hk => h.old k fun j o' hj hj' => ?_, fun j o' k hj hj' hl => ?_⟩
    · have := hk j o' hj hj'
      cases e : L.getD j false
      · rfl
      · rw [getD_set_mono e] at this; cases this
    · rcases set_get hl with rfl | hl
      · rw [ho] at hj; injection hj with hj; subst hj; rw [hd] at hj'; cases hj'
      · exact hm _ _ (h.new j o' k hj hj' hl)
  | some q =>
    have hq : q < a.tmps.size := by rw [h.sz]; exact slotG_spec hpl ho q hd
    refine ⟨by simp [h.len], hC, h.df, by rw [put_size]; exact h.sz, fun k hk => ?_, fun j o' k hj hj' hl => ?_⟩
    · have hne : q ≠ k := by
        intro e
        subst e
        have := hk i o ho hd
        rw [set_here hi] at this; cases this
      rw [put_else _ _ _ _ hne]
      refine h.old k fun j o' hj hj' => ?_
      have := hk j o' hj hj'
      cases e : L.getD j false
      · rfl
      · rw [getD_set_mono e] at this; cases this
    · by_cases e : q = k
      · subst e
        obtain rfl := apart_spec hap ho hj hd hj'
        rw [put_same _ _ _ hq]
        exact hV (by rw [hd]; rfl)
      · rw [put_else _ _ _ _ e]
        rcases set_get hl with rfl | hl
        · rw [ho] at hj; injection hj with hj; subst hj; rw [hd] at hj'; injection hj' with hj'; exact absurd hj' e
        · exact hm _ _ (h.new j o' k hj hj' hl)
theorem wanted_at {l : List Oper} {a : Act} {o oj : Oper} {j k : Nat} {b p : Bool} (hg : o.guard = some (j, p)) (hj : l[j]? = some oj) (hd : oj.dst = some k) (hv : a.eval (.tmp k) = .bool b) : Region.wanted o (yielded l.toArray a.tmps) = (b == p) := by
  have ht : a.tmps[k]? = some (.bool b) := by
    have h1 : a.tmps[k]?.getD undef = .bool b := by simpa [Act.eval] using hv
    cases e : a.tmps[k]? with
    | none => rw [e] at h1; cases h1
    | some v => rw [e] at h1; exact congrArg some h1
  have hy : yielded l.toArray a.tmps j = some b := by
    unfold yielded
    rw [List.getElem?_toArray, hj]
    simp [hd, ht]
  unfold Region.wanted
  rw [hg]
  simp only [hy]
  cases b <;> cases p <;> rfl
theorem wanted_un {l : List Oper} {a : Act} {o oj : Oper} {j k : Nat} {p : Bool} (hg : o.guard = some (j, p)) (hj : l[j]? = some oj) (hd : oj.dst = some k) (hv : a.eval (.tmp k) = undef) : Region.wanted o (yielded l.toArray a.tmps) = false := by
  have hy : yielded l.toArray a.tmps j = none := by
    unfold yielded
    rw [List.getElem?_toArray, hj]
    have h1 : a.tmps[k]?.getD undef = undef := by simpa [Act.eval] using hv
    cases e : a.tmps[k]? with
    | none => simp [hd, e]
    | some v => rw [e] at h1; simp only [Option.getD_some] at h1; subst h1; simp [hd, e, undef]
  unfold Region.wanted
  rw [hg]
  simp only [hy]
  cases p <;> rfl
theorem wanted_no {o : Oper} {y : Nat → Option Bool} (hg : o.guard = none) : Region.wanted o y = true := by
  unfold Region.wanted; rw [hg]
theorem wpOp_valueG {P : Program} {ops : Array Oper} {Q : Exit → Act → World → Prop} {i : Nat} {K : Act → World → Prop} {a : Act} {w w' : World} {o : Oper} {v : Value} (ho : ops[i]? = some o) (hw : Region.wanted o (yielded ops a.tmps) = true)
    (hr : (execOp a.eval o).run P w = .ok (.value v) w') (hk : K (a.put o.dst v) w') : wpOp P ops Q i K a w := by
  simp only [wpOp, ho, hw, if_true]
  left
  simp only [Oper.wp, hr, Oper.upon]
  exact hk
theorem wpOp_enterG {P : Program} {ops : Array Oper} {Q : Exit → Act → World → Prop} {i : Nat} {K : Act → World → Prop} {a : Act} {w : World} {o : Oper} {f : FuncId} {args : Array Value} (ho : ops[i]? = some o) (hw : Region.wanted o (yielded ops a.tmps) = true)
    (hr : (execOp a.eval o).run P w = .ok (.enter f args) w) (hk : Calls P f args w fun e w' => ∃ u, e = .returned u ∧ K (a.put o.dst u) w') : wpOp P ops Q i K a w := by
  simp only [wpOp, ho, hw, if_true]
  left
  simp only [Oper.wp, hr, Oper.upon]
  refine hk.mono ?_
  rintro e w' ⟨u, rfl, h⟩
  exact h
theorem region_pastG {P : Program} {id : Nat} {Q : Exit → Act → World → Prop} {a0 : Act} {w : World} {l : List Oper} (v : World) (hv : Below v.heap.size v w) (V : Nat → Value → World → Prop) (hVm : ∀ j u W W', Below W.heap.size W W' → V j u W → V j u W') (hm : P.follows .mixedOrders = true)
    (hasc : asc .any l.toArray = true) (hap : apartB l = true) (hpl : slotG l a0.tmps.size = true)
    (hop : ∀ (i : Nat) (o : Oper), l[i]? = some o → ∀ (a : Act) (W : World), Below v.heap.size v W → (∀ k, noDst l k = true → a.eval (.tmp k) = a0.eval (.tmp k)) →
      (∀ (j : Nat) (o' : Oper) (k : Nat), l[j]? = some o' → o'.dst = some k → (∃ e ∈ o.after, e.on = j ∧ Region.binds .any e = true) → V j (a.eval (.tmp k)) W) →
      (Region.wanted o (yielded l.toArray a.tmps) = true ∧ OpR P V i o a W) ∨ (Region.wanted o (yielded l.toArray a.tmps) = false ∧ V i undef W))
    (hend : ∀ (W : World) (vs : Nat → Value), Below v.heap.size v W → (∀ (i : Nat) (o : Oper) (k : Nat), l[i]? = some o → o.dst = some k → V i (vs k) W) → Q .normal (putAll l a0 vs) W) :
    (Code.region id l.toArray true).wp P Q a0 w := by
  refine wp_region_any hm ?_
  refine wpAny_inv (RInv l a0 (fun _ W => Below v.heap.size v W) V) ?_ ?_ _ _ _ _ ?_ (Closed.none _ (rep_none _)) ?_
  · intro L a W i h hc hi
    obtain ⟨hi1, o, ho0, hall⟩ := mem_ready.1 hi
    have ho : l[i]? = some o := by simpa using ho0
    rcases hop i o ho a W h.cw (fun k hk => h.keep hk) (fun j o' k hj hk ⟨e, he, hej, hb⟩ => h.new j o' k hj hk (by rw [← hej]; exact hall e he hb)) with ⟨hw, hr⟩ | ⟨hw, hV⟩
    · rcases hr with ⟨u, W', hr, hb, hV⟩ | ⟨f, args, hr, hk⟩
      · exact wpOp_valueG ho0 hw hr (h.stepG hap hpl ho hi1 (blw_trans h.cw hb) (fun j x hx => hVm j x W W' hb hx) (fun _ => hV))
      · refine wpOp_enterG ho0 hw hr (hk.mono ?_)
        rintro e W' ⟨u, rfl, hb, hV⟩
        exact ⟨u, rfl, h.stepG hap hpl ho hi1 (blw_trans h.cw hb) (fun j x hx => hVm j x W W' hb hx) (fun _ => hV)⟩
    · simp only [wpOp, ho0, hw, Bool.false_eq_true, if_false]
      exact h.stepG hap hpl ho hi1 h.cw (fun _ _ hx => hx) (fun _ => hV)
  · intro L a W h hr
    have hall : ∀ i, i < l.length → L.getD i false = true := fun i hi => all_up hr hasc (by simpa using h.len) i (by simpa using hi)
    have e : a = putAll l a0 (fun k => a.eval (.tmp k)) := by
      have hs : ∀ o ∈ l, ∀ q, o.dst = some q → q < a0.tmps.size := fun o ho q hq => by
        obtain ⟨i, hi⟩ := List.getElem?_of_mem ho
        exact slotG_spec hpl hi q hq
      refine act_ext (by rw [putAll_defers]; exact h.df) (by rw [putAll_size]; exact h.sz) fun k => ?_
      rw [putAll_eval l a0 _ k hs]
      by_cases hk : ∃ o ∈ l, o.dst = some k
      · rw [if_pos hk]
      · rw [if_neg hk]
        refine h.old k fun i o hi hd => absurd ⟨o, List.mem_of_getElem? hi, hd⟩ hk
    have := hend W (fun k => a.eval (.tmp k)) h.cw (fun i o k hi hd => h.new i o k hi hd (hall i (List.getElem?_eq_some_iff.1 hi).1))
    rw [← e] at this
    exact this
  · refine ⟨by simp, Below.drew hv, rfl, rfl, fun _ _ => rfl, fun i o k hi _ hl => ?_⟩
    rw [rep_none] at hl; cases hl
  · unfold left
    exact Nat.le_trans List.countP_le_length (by simp)
end RY
end Go.Proofs.Ytojcopamegmeeaa
