/-
  A region that draws its order, inside a fence, guarded: by what each operation yields.
-/
import Derived.OrdersIn
import Derived.Test.YtamhfnlogldpaaaRel
namespace Go.Proofs.Ytamhfnlogldpaaa
open Go.RowKit Go.Deep
namespace RY

section
variable {F : Fence} {m : Nat} {P : Program} {ops : Array Oper} {md : Region.Mode} {Q : Exit → Act → World → Prop}

theorem wpAnyIn_inv (I : Array Bool → Act → World → Prop)
    (hstep : ∀ listed a w i, I listed a w → Closed md ops listed → i ∈ Region.ready md ops listed → wpOpIn F m P ops Q i (fun a' w' => I (listed.setIfInBounds i true) a' w') a w)
    (hend : ∀ listed a w, I listed a w → Region.ready md ops listed = [] → Q .normal a w) :
    ∀ (fuel : Nat) (listed : Array Bool) (a : Act) (w : World), I listed a w → Closed md ops listed → left listed ≤ fuel → wpAnyIn F m P md ops Q fuel listed a w
  | 0, listed, a, w, h, _, hf => ⟨ready_none (Nat.le_zero.1 hf), hend _ _ _ h (ready_none (Nat.le_zero.1 hf))⟩
  | fuel + 1, listed, a, w, h, hc, hf => ⟨fun h0 => hend _ _ _ h h0, fun i hi => wpOpIn_mono (fun a' w' h' => wpAnyIn_inv I hstep hend fuel _ a' w' h' (hc.set hi) (by have := left_set (mem_ready.1 hi).1; omega)) (hstep _ _ _ _ h hc hi)⟩
end

/-- All slots that are written lie below n. -/
def slotsB (l : List Oper) (n : Nat) : Bool := l.all fun o => match o.dst with
  | some k => decide (k < n)
  | none => true

theorem slots_specB {l : List Oper} {n : Nat} (h : slotsB l n = true) {i : Nat} {o : Oper} (hi : l[i]? = some o) : ∀ k, o.dst = some k → k < n := by
  unfold slotsB at h
  rw [List.all_eq_true] at h
  have := h o (List.mem_of_getElem? hi)
  intro k hk
  rw [hk] at this
  simpa using this

theorem RInv.stepB {l : List Oper} {a0 : Act} {C : Array Bool → World → Prop} {V : Nat → Value → World → Prop} {L : Array Bool} {a : Act} {W : World} (h : RInv l a0 C V L a W) (hap : apartB l = true) (hpl : slotsB l a0.tmps.size = true) {i : Nat} {o : Oper} {u : Value} {W' : World} (ho : l[i]? = some o) (hi : L.getD i true = false) (hC : C (L.setIfInBounds i true) W') (hm : ∀ j v, L.getD j false = true → V j v W → V j v W') (hV : o.dst.isSome = true → V i u W') :
    RInv l a0 C V (L.setIfInBounds i true) (a.put o.dst u) W' := by
  cases hd : o.dst with
  | none =>
    refine ⟨by simp [h.len], hC, h.df, h.sz, fun k hk => h.old k fun j o' hj hj' => ?_, fun j o' k hj hj' hl => ?_⟩
    · have := hk j o' hj hj'
      cases e : L.getD j false
      · rfl
      · rw [getD_set_mono e] at this; cases this
    · rcases set_get hl with rfl | hl
      · rw [ho] at hj; injection hj with hj; subst hj; rw [hd] at hj'; cases hj'
      · exact hm _ _ hl (h.new j o' k hj hj' hl)
  | some q =>
    have hq : q < a.tmps.size := by rw [h.sz]; exact slots_specB hpl ho q hd
    refine ⟨by simp [h.len], hC, h.df, by rw [put_size]; exact h.sz, fun k hk => ?_, fun j o' k hj hj' hl => ?_⟩
    · have hne : q ≠ k := by
        intro e
        subst e
        have := hk i o ho hd
        rw [set_here hi] at this; cases this
      rw [put_else _ _ _ _ hne]
      refine h.old k fun j o' hj hj' => ?_
      have := hk j o' hj hj'
      cases e : L.getD j false
      · rfl
      · rw [getD_set_mono e] at this; cases this
    · by_cases e : q = k
      · subst e
        obtain rfl := apart_spec hap ho hj hd hj'
        rw [put_same _ _ _ hq]
        exact hV (by rw [hd]; rfl)
      · rw [put_else _ _ _ _ e]
        rcases set_get hl with rfl | hl
        · rw [ho] at hj; injection hj with hj; subst hj; rw [hd] at hj'; injection hj' with hj'; exact absurd hj' e
        · exact hm _ _ hl (h.new j o' k hj hj' hl)

/-- A region inside a fence: an invariant of the world, and what each operation yields. -/
theorem regionIn_rel {F : Fence} {m : Nat} {P : Program} {id : Nat} {Q : Exit → Act → World → Prop} {a0 : Act} {w : World} {l : List Oper} (C : Array Bool → World → Prop) (V : Nat → Value → World → Prop) (hm : P.follows .mixedOrders = true)
    (hasc : asc .any l.toArray = true) (hpl : slotsB l a0.tmps.size = true) (hC0 : C (Array.replicate l.length false) w.drew)
    (hop : ∀ (L : Array Bool) (a : Act) (W : World) (i : Nat) (o : Oper), RInv l a0 C V L a W → Closed .any l.toArray L → l[i]? = some o → L.getD i true = false → (∀ e ∈ o.after, Region.binds .any e = true → L.getD e.on false = true) →
      wpOpIn F m P l.toArray Q i (fun a' W' => RInv l a0 C V (L.setIfInBounds i true) a' W') a W)
    (hend : ∀ (L : Array Bool) (W : World) (vs : Nat → Value), (∀ i, i < l.length → L.getD i false = true) → C L W → (∀ (i : Nat) (o : Oper) (k : Nat), l[i]? = some o → o.dst = some k → V i (vs k) W) → Q .normal (putAll l a0 vs) W) :
    (Code.region id l.toArray true).wpIn F m P Q a0 w := by
  refine wpIn_region_any hm ?_
  refine wpAnyIn_inv (RInv l a0 C V) ?_ ?_ _ _ _ _ ?_ (Closed.none _ (rep_none _)) ?_
  · intro L a W i h hc hi
    obtain ⟨hi1, o, ho, hall⟩ := mem_ready.1 hi
    exact hop L a W i o h hc (by simpa using ho) hi1 hall
  · intro L a W h hr
    have hall : ∀ i, i < l.length → L.getD i false = true := fun i hi => all_up hr hasc (by simpa using h.len) i (by simpa using hi)
    have e : a = putAll l a0 (fun k => a.eval (.tmp k)) := by
      have hs : ∀ o ∈ l, ∀ q, o.dst = some q → q < a0.tmps.size := fun o ho q hq => by
        obtain ⟨i, hi⟩ := List.getElem?_of_mem ho
        exact slots_specB hpl hi q hq
      refine act_ext (by rw [putAll_defers]; exact h.df) (by rw [putAll_size]; exact h.sz) fun k => ?_
      rw [putAll_eval l a0 _ k hs]
      by_cases hk : ∃ o ∈ l, o.dst = some k
      · rw [if_pos hk]
      · rw [if_neg hk]
        refine h.old k fun i o hi hd => absurd ⟨o, List.mem_of_getElem? hi, hd⟩ hk
    have := hend L W (fun k => a.eval (.tmp k)) hall h.cw (fun i o k hi hd => h.new i o k hi hd (hall i (List.getElem?_eq_some_iff.1 hi).1))
    rw [← e] at this
    exact this
  · refine ⟨by simp, ?_, rfl, rfl, fun _ _ => rfl, fun i o k hi _ hl => ?_⟩
    · simpa using hC0
    · rw [rep_none] at hl; cases hl
  · unfold left
    exact Nat.le_trans List.countP_le_length (by simp)

/-- What a slot holds, as a guard sees it. -/
theorem wanted_of {l : List Oper} {a : Act} {o oj : Oper} {j k : Nat} {b : Bool} (hg : o.guard = some (j, true)) (hj : l[j]? = some oj) (hd : oj.dst = some k) (hv : a.eval (.tmp k) = .bool b) : Region.wanted o (yielded l.toArray a.tmps) = b := by
  have ht : a.tmps[k]? = some (.bool b) := by
    have h1 : a.tmps[k]?.getD undef = .bool b := by simpa [Act.eval] using hv
    cases e : a.tmps[k]? with
    | none => rw [e] at h1; cases h1
    | some v => rw [e] at h1; exact congrArg some h1
  have hy : yielded l.toArray a.tmps j = some b := by
    unfold yielded
    rw [List.getElem?_toArray, hj]
    simp [hd, ht]
  unfold Region.wanted
  rw [hg]
  simp only [hy]
  cases b <;> rfl

theorem wanted_plain {o : Oper} {y : Nat → Option Bool} (hg : o.guard = none) : Region.wanted o y = true := by
  unfold Region.wanted; rw [hg]

/-- An operation that leaves the world as it is. -/
theorem RInv.runIn {F : Fence} {m : Nat} {P : Program} {Q : Exit → Act → World → Prop} {l : List Oper} {a0 : Act} {C : Array Bool → World → Prop} {V : Nat → Value → World → Prop} {L : Array Bool} {a : Act} {W : World} (h : RInv l a0 C V L a W) (hap : apartB l = true) (hpl : slotsB l a0.tmps.size = true) (hro : F.round = none) (hfn : ∀ f, F.fn f)
    {i : Nat} {o : Oper} (ho : l[i]? = some o) (hi : L.getD i true = false) (hC : C (L.setIfInBounds i true) W) (b : Bool) (hw : Region.wanted o (yielded l.toArray a.tmps) = b)
    (hdo : b = true → ∃ u, (execOp a.eval o).run P W = .ok (.value u) W ∧ V i u W) (hno : b = false → V i undef W) :
    wpOpIn F m P l.toArray Q i (fun a' W' => RInv l a0 C V (L.setIfInBounds i true) a' W') a W := by
  unfold wpOpIn
  rw [List.getElem?_toArray, ho]
  simp only [hw]
  cases b with
  | true =>
    obtain ⟨u, hu, hv⟩ := hdo rfl
    refine ⟨fun f _ => hfn f, ?_⟩
    rw [hro, Oper.semAt_none, hu, Oper.uponIn_value]
    exact h.stepB hap hpl ho hi hC (fun _ _ _ hh => hh) (fun _ => hv)
  | false =>
    refine ⟨fun f _ => hfn f, ?_⟩
    exact h.stepB hap hpl ho hi hC (fun _ _ _ hh => hh) (fun _ => hno rfl)

/-- A call of yield. -/
theorem RInv.roundIn {F : Fence} {m : Nat} {P : Program} {Q : Exit → Act → World → Prop} {l : List Oper} {a0 : Act} {C : Array Bool → World → Prop} {V : Nat → Value → World → Prop} {L : Array Bool} {a : Act} {W : World} (h : RInv l a0 C V L a W) (hap : apartB l = true) (hpl : slotsB l a0.tmps.size = true) (hro : F.round = none) (hfn : ∀ f, F.fn f) (hdp : F.depth = none)
    {i : Nat} {o : Oper} (ho : l[i]? = some o) (hi : L.getD i true = false) (hw : Region.wanted o (yielded l.toArray a.tmps) = true) {lp : Nat} {fn : FuncId} {tmps : Array Value} {assign body : Code} {R : Ending → World → Prop}
    (hrun : (execOp a.eval o).run P W = .ok (.round lp fn tmps assign body) W) (hR : RoundIn F (m - 1) P lp fn tmps assign body W R)
    (hk : ∀ e W', R e W' → ∃ u, e = .returned u ∧ C (L.setIfInBounds i true) W' ∧ (∀ j v, L.getD j false = true → V j v W → V j v W') ∧ V i u W') :
    wpOpIn F m P l.toArray Q i (fun a' W' => RInv l a0 C V (L.setIfInBounds i true) a' W') a W := by
  unfold wpOpIn
  rw [List.getElem?_toArray, ho]
  simp only [hw, if_true]
  refine ⟨fun f _ => hfn f, ?_⟩
  rw [hro, Oper.semAt_none, hrun, Oper.uponIn_round]
  refine ⟨fun e => (by rw [hdp] at e; cases e), hR.mono fun e W' he => ?_⟩
  obtain ⟨u, rfl, hC, hm, hV⟩ := hk e W' he
  exact h.stepB hap hpl ho hi hC hm (fun _ => hV)

/-- What stands ahead of an operation, by its edges. -/
def aheadB (l : List Oper) : Nat → List Nat → List Nat
  | 0, s => s
  | n + 1, s => aheadB l n (s ++ s.flatMap (fun i => ((l[i]?.map fun o => (o.after.toList.filter (Region.binds .any)).map (·.on)).getD []))).eraseDups

theorem ahead_spec {l : List Oper} {L : Array Bool} (hc : Closed .any l.toArray L) : ∀ (n : Nat) (s : List Nat), (∀ i ∈ s, L.getD i false = true) → ∀ i ∈ aheadB l n s, L.getD i false = true
  | 0, s, h => h
  | n + 1, s, h => by
    refine ahead_spec hc n _ fun i hi => ?_
    rw [List.mem_eraseDups, List.mem_append] at hi
    rcases hi with hi | hi
    · exact h i hi
    · rw [List.mem_flatMap] at hi
      obtain ⟨j, hj, hi⟩ := hi
      cases e : l[j]? with
      | none => rw [e] at hi; simp at hi
      | some o =>
        rw [e] at hi
        simp only [Option.map_some, Option.getD_some, List.mem_map, List.mem_filter] at hi
        obtain ⟨ed, ⟨h1, h2⟩, rfl⟩ := hi
        exact hc j o ed (by rw [List.getElem?_toArray]; exact e) (by simpa using h1) h2 (h j hj)

/-- What has not come up yet: nothing that it stands ahead of has. -/
theorem behind {l : List Oper} {L : Array Bool} (hc : Closed .any l.toArray L) {n i j : Nat} (hij : (aheadB l n [j]).contains i = true) (hi : L.getD i true = false) : L.getD j false = false := by
  cases e : L.getD j false with
  | false => rfl
  | true =>
    have := ahead_spec hc n [j] (by simpa using e) i (by simpa using hij)
    rw [Array.getD_eq_getD_getElem?] at this hi
    cases e2 : L[i]? with
    | none => rw [e2] at hi; cases hi
    | some v => rw [e2] at hi this; simp at hi this; rw [hi] at this; cases this

end RY
end Go.Proofs.Ytamhfnlogldpaaa
