/-
  Drawn regions by what each operation yields (names apart).
-/
import Derived.WalkKit
import Derived.Deep.OwnRows
import Derived.Deep.RegionWith
import Derived.Orders
import Derived.Test.YtjjobbalifjdkaaOwn
namespace Go.Proofs.Ytjjobbalifjdkaa
open Go.RowKit Go.Deep
namespace RY

/-- How many operations have not come up. -/
def left (listed : Array Bool) : Nat := listed.toList.countP (fun b => !b)

theorem left_set {listed : Array Bool} {i : Nat} (h : listed.getD i true = false) : left (listed.setIfInBounds i true) + 1 = left listed := by
  have hlt : i < listed.size := by
    rcases Nat.lt_or_ge i listed.size with h' | h'
    · exact h'
    · simp [Array.getElem?_eq_none h'] at h
  have hv : listed[i] = false := by simpa [hlt] using h
  unfold left
  rw [Array.toList_setIfInBounds]
  have hl : i < listed.toList.length := by simpa using hlt
  have hv' : listed.toList[i] = false := by simpa using hv
  generalize listed.toList = l at hl hv'
  clear h hv hlt
  induction l generalizing i with
  | nil => simp at hl
  | cons b l ih =>
    cases i with
    | zero =>
      simp only [List.getElem_cons_zero] at hv'
      subst hv'
      simp
    | succ i =>
      simp only [List.set_cons_succ, List.countP_cons]
      have := ih (i := i) (by simpa using hl) (by simpa using hv')
      omega

theorem left_zero {listed : Array Bool} (h : left listed = 0) (i : Nat) : listed.getD i true = true := by
  unfold left at h
  rw [List.countP_eq_zero] at h
  by_cases hi : i < listed.size
  · have := h (listed[i]) (by simp)
    simpa [hi] using this
  · simp [Array.getElem?_eq_none (by omega : listed.size ≤ i)]

section
variable {P : Program} {ops : Array Oper} {md : Region.Mode} {Q : Exit → Act → World → Prop}

theorem ready_none {listed : Array Bool} (h : left listed = 0) : Region.ready md ops listed = [] := by
  rw [List.eq_nil_iff_forall_not_mem]
  intro j hj
  have := (mem_ready.1 hj).1
  rw [left_zero h j] at this
  cases this

theorem getD_set_mono {l : Array Bool} {i j : Nat} (h : l.getD j false = true) : (l.setIfInBounds i true).getD j false = true := by
  by_cases e : i = j
  · subst e
    have hlt : i < l.size := by
      rcases Nat.lt_or_ge i l.size with h' | h'
      · exact h'
      · simp [Array.getElem?_eq_none h'] at h
    simp [hlt]
  · rw [getD_set_ne false e]; exact h

theorem set_get {l : Array Bool} {i j : Nat} (h : (l.setIfInBounds i true).getD j false = true) : j = i ∨ l.getD j false = true := by
  by_cases e : i = j
  · exact Or.inl e.symm
  · rw [getD_set_ne false e] at h; exact Or.inr h

/-- What has come up stands behind what it waits for. -/
def Closed (md : Region.Mode) (ops : Array Oper) (l : Array Bool) : Prop := ∀ i o e, ops[i]? = some o → e ∈ o.after → Region.binds md e = true → l.getD i false = true → l.getD e.on false = true

theorem Closed.set {l : Array Bool} {i : Nat} (h : Closed md ops l) (hi : i ∈ Region.ready md ops l) : Closed md ops (l.setIfInBounds i true) := by
  intro j o e ho he hb hj
  rcases set_get hj with rfl | hj
  · obtain ⟨_, o', ho', hall⟩ := mem_ready.1 hi
    have : o' = o := Option.some.inj (ho'.symm.trans ho)
    subst this
    exact getD_set_mono (hall e he hb)
  · exact getD_set_mono (h j o e ho he hb hj)

theorem Closed.none (l : Array Bool) (h : ∀ i, l.getD i false = false) : Closed md ops l := by
  intro i o e _ _ _ hi
  rw [h i] at hi
  cases hi

theorem rep_none (n k : Nat) : (Array.replicate n false).getD k false = false := by
  rw [Array.getD_eq_getD_getElem?, Array.getElem?_replicate]; split <;> rfl

/-- An invariant of what has come up. -/
theorem wpAny_inv (I : Array Bool → Act → World → Prop)
    (hstep : ∀ listed a w i, I listed a w → Closed md ops listed → i ∈ Region.ready md ops listed → wpOp P ops Q i (fun a' w' => I (listed.setIfInBounds i true) a' w') a w)
    (hend : ∀ listed a w, I listed a w → Region.ready md ops listed = [] → Q .normal a w) :
    ∀ (fuel : Nat) (listed : Array Bool) (a : Act) (w : World), I listed a w → Closed md ops listed → left listed ≤ fuel → wpAny P md ops Q fuel listed a w
  | 0, listed, a, w, h, _, hf => ⟨ready_none (Nat.le_zero.1 hf), hend _ _ _ h (ready_none (Nat.le_zero.1 hf))⟩
  | fuel + 1, listed, a, w, h, hc, hf => ⟨fun h0 => hend _ _ _ h h0, fun i hi => wpOp_mono (fun a' w' h' => wpAny_inv I hstep hend fuel _ a' w' h' (hc.set hi) (by have := left_set (mem_ready.1 hi).1; omega)) (hstep _ _ _ _ h hc hi)⟩
end

/-- Each operation waits for earlier ones only. -/
def asc (md : Region.Mode) (ops : Array Oper) : Bool := (List.range ops.size).all fun n => match ops[n]? with
  | some o => o.after.all fun e => !(Region.binds md e) || decide (e.on < n)
  | none => true

theorem all_up {md : Region.Mode} {ops : Array Oper} {l : Array Bool} (hr : Region.ready md ops l = []) (ha : asc md ops = true) (hl : l.size = ops.size) : ∀ n, n < ops.size → l.getD n false = true := by
  intro n
  induction n using Nat.strongRecOn with
  | _ n ih =>
    intro hn
    cases h : l.getD n false with
    | true => rfl
    | false =>
      exfalso
      have h2 : l.getD n true = false := by
        have : n < l.size := by omega
        simpa [this] using h
      have ho : ops[n]? = some ops[n] := by simp [hn]
      have hA : ∀ e ∈ ops[n].after, Region.binds md e = true → e.on < n := by
        unfold asc at ha
        rw [List.all_eq_true] at ha
        have := ha n (List.mem_range.2 hn)
        rw [ho] at this
        intro e he hb
        have h3 := (Array.all_eq_true_iff_forall_mem.1 this) e he
        rw [hb] at h3
        simpa using h3
      have := mem_ready.2 ⟨h2, ops[n], ho, fun e he hb => ih e.on (hA e he hb) (by have := hA e he hb; omega)⟩
      rw [hr] at this
      cases this

theorem gen_frame {R : Act → Prop} (a : Act) (h : ∀ a0, a0 = a → R a0) : R a := h a rfl

theorem wpOp_value {P : Program} {ops : Array Oper} {Q : Exit → Act → World → Prop} {i : Nat} {K : Act → World → Prop} {a : Act} {w w' : World} {o : Oper} {v : Value} (ho : ops[i]? = some o) (hg : o.guard = none)
    (hr : (execOp a.eval o).run P w = .ok (.value v) w') (hk : K (a.put o.dst v) w') : wpOp P ops Q i K a w := by
  have hw : Region.wanted o (yielded ops a.tmps) = true := by simp [Region.wanted, hg]
  simp only [wpOp, ho, hw, if_true]
  left
  simp only [Oper.wp, hr, Oper.upon]
  exact hk
theorem wpOp_skip {P : Program} {ops : Array Oper} {Q : Exit → Act → World → Prop} {i : Nat} {K : Act → World → Prop} {a : Act} {w w' : World} {o : Oper} (ho : ops[i]? = some o) (hg : o.guard = none)
    (hr : (execOp a.eval o).run P w = .ok .skip w') (hk : K (a.put o.dst undef) w') : wpOp P ops Q i K a w := by
  have hw : Region.wanted o (yielded ops a.tmps) = true := by simp [Region.wanted, hg]
  simp only [wpOp, ho, hw, if_true]
  left
  simp only [Oper.wp, hr, Oper.upon]
  exact hk
theorem put_none (a : Act) (u : Value) : a.put none u = a := rfl
theorem set_here {l : Array Bool} {i : Nat} (h : l.getD i true = false) : (l.setIfInBounds i true).getD i false = true := by
  have hlt : i < l.size := by
    rcases Nat.lt_or_ge i l.size with h' | h'
    · exact h'
    · simp [Array.getElem?_eq_none h'] at h
  simp [hlt]
theorem getD_flip {l : Array Bool} {i : Nat} (h : l.getD i true = false) : l.getD i false = false := by
  have hlt : i < l.size := by
    rcases Nat.lt_or_ge i l.size with h' | h'
    · exact h'
    · simp [Array.getElem?_eq_none h'] at h
  simpa [hlt] using h
theorem wpOp_enter {P : Program} {ops : Array Oper} {Q : Exit → Act → World → Prop} {i : Nat} {K : Act → World → Prop} {a : Act} {w : World} {o : Oper} {f : FuncId} {args : Array Value} (ho : ops[i]? = some o) (hg : o.guard = none)
    (hr : (execOp a.eval o).run P w = .ok (.enter f args) w) (hk : Calls P f args w fun e w' => ∃ u, e = .returned u ∧ K (a.put o.dst u) w') : wpOp P ops Q i K a w := by
  have hw : Region.wanted o (yielded ops a.tmps) = true := by simp [Region.wanted, hg]
  simp only [wpOp, ho, hw, if_true]
  left
  simp only [Oper.wp, hr, Oper.upon]
  refine hk.mono ?_
  rintro e w' ⟨u, rfl, h⟩
  exact h

theorem put_put (a : Act) (k : Nat) (u v : Value) : (a.put (some k) u).put (some k) v = a.put (some k) v := by
  simp [Act.put]
theorem put_swap (a : Act) (j k : Nat) (u v : Value) (h : j ≠ k) : (a.put (some j) u).put (some k) v = (a.put (some k) v).put (some j) u := by
  simp [Act.put, Array.setIfInBounds_comm _ _ h]
theorem put_same (a : Act) (k : Nat) (u : Value) (h : k < a.tmps.size) : (a.put (some k) u).eval (.tmp k) = u := by
  simp [Act.put, Act.eval, h]
theorem put_else (a : Act) (j k : Nat) (u : Value) (h : j ≠ k) : (a.put (some j) u).eval (.tmp k) = a.eval (.tmp k) := by
  simp [Act.put, Act.eval, Array.getElem?_setIfInBounds_ne h]
theorem put_size (a : Act) (k : Nat) (u : Value) : (a.put (some k) u).tmps.size = a.tmps.size := by simp [Act.put]

theorem put_self (a : Act) (k : Nat) : a.put (some k) (a.eval (.tmp k)) = a := by
  obtain ⟨t, d⟩ := a
  simp only [Act.put, Act.eval]
  congr 1
  apply Array.ext
  · simp
  · intro i h1 h2
    rw [Array.getElem_setIfInBounds h2]
    split
    · rename_i e; subst e; simp [h2]
    · rfl


/-- No operation writes the slot k. -/
def noDst (l : List Oper) (k : Nat) : Bool := l.all fun o => o.dst != some k
/-- No two operations write the same slot; none is guarded; all slots lie below n. -/
def apartB (l : List Oper) : Bool := (List.range l.length).all fun i => (List.range l.length).all fun j => i == j || match l[i]?, l[j]? with
  | some o, some o' => o.dst == none || o.dst != o'.dst
  | _, _ => true
def plainB (l : List Oper) (n : Nat) : Bool := l.all fun o => o.guard.isNone && match o.dst with
  | some k => decide (k < n)
  | none => true

theorem apart_spec {l : List Oper} (h : apartB l = true) {i j k : Nat} {o o' : Oper} (hi : l[i]? = some o) (hj : l[j]? = some o') (h1 : o.dst = some k) (h2 : o'.dst = some k) : i = j := by
  unfold apartB at h
  rw [List.all_eq_true] at h
  have hil : i < l.length := (List.getElem?_eq_some_iff.1 hi).1
  have hjl : j < l.length := (List.getElem?_eq_some_iff.1 hj).1
  have := h i (List.mem_range.2 hil)
  rw [List.all_eq_true] at this
  have := this j (List.mem_range.2 hjl)
  rw [hi, hj] at this
  simp only [h1, h2, Bool.or_eq_true, beq_iff_eq] at this
  rcases this with e | e
  · exact e
  · simp at e

theorem plain_spec {l : List Oper} {n : Nat} (h : plainB l n = true) {i : Nat} {o : Oper} (hi : l[i]? = some o) : o.guard = none ∧ ∀ k, o.dst = some k → k < n := by
  unfold plainB at h
  rw [List.all_eq_true] at h
  have := h o (List.mem_of_getElem? hi)
  rw [Bool.and_eq_true] at this
  refine ⟨by simpa using this.1, fun k hk => ?_⟩
  rw [hk] at this
  simpa using this.2

theorem noDst_spec {l : List Oper} {k : Nat} (h : noDst l k = true) {i : Nat} {o : Oper} (hi : l[i]? = some o) : o.dst ≠ some k := by
  unfold noDst at h
  rw [List.all_eq_true] at h
  simpa using h o (List.mem_of_getElem? hi)

/-- What holds while a region goes on: C of the world, V of each value that has come up. -/
structure RInv (l : List Oper) (a0 : Act) (C : Array Bool → World → Prop) (V : Nat → Value → World → Prop) (L : Array Bool) (a : Act) (W : World) : Prop where
  len : L.size = l.length
  cw : C L W
  df : a.defers = a0.defers
  sz : a.tmps.size = a0.tmps.size
  old : ∀ k, (∀ (i : Nat) (o : Oper), l[i]? = some o → o.dst = some k → L.getD i false = false) → a.eval (.tmp k) = a0.eval (.tmp k)
  new : ∀ (i : Nat) (o : Oper) (k : Nat), l[i]? = some o → o.dst = some k → L.getD i false = true → V i (a.eval (.tmp k)) W

section
variable {l : List Oper} {a0 : Act} {C : Array Bool → World → Prop} {V : Nat → Value → World → Prop} {L : Array Bool} {a : Act} {W : World}

theorem RInv.keep (h : RInv l a0 C V L a W) {k : Nat} (hk : noDst l k = true) : a.eval (.tmp k) = a0.eval (.tmp k) :=
  h.old k fun _ _ hi hd => absurd hd (noDst_spec hk hi)

theorem RInv.step (h : RInv l a0 C V L a W) (hap : apartB l = true) (hpl : plainB l a0.tmps.size = true) {i : Nat} {o : Oper} {u : Value} {W' : World} (ho : l[i]? = some o) (hi : L.getD i true = false) (hC : C (L.setIfInBounds i true) W') (hm : ∀ j v, V j v W → V j v W') (hV : o.dst.isSome = true → V i u W') :
    RInv l a0 C V (L.setIfInBounds i true) (a.put o.dst u) W' := by
  cases hd : o.dst with
  | none =>
    refine ⟨by simp [h.len], hC, h.df, h.sz, fun k hk => h.old k fun j o' hj hj' => ?_, fun j o' k hj hj' hl => ?_⟩
    · have := hk j o' hj hj'
      cases e : L.getD j false
      · rfl
      · rw [getD_set_mono e] at this; cases this
    · rcases set_get hl with rfl | hl
      · rw [ho] at hj; injection hj with hj; subst hj; rw [hd] at hj'; cases hj'
      · exact hm _ _ (h.new j o' k hj hj' hl)
  | some q =>
    have hq : q < a.tmps.size := by rw [h.sz]; exact (plain_spec hpl ho).2 q hd
    refine ⟨by simp [h.len], hC, h.df, by rw [put_size]; exact h.sz, fun k hk => ?_, fun j o' k hj hj' hl => ?_⟩
    · have hne : q ≠ k := by
        intro e
        subst e
        have := hk i o ho hd
        rw [set_here hi] at this; cases this
      rw [put_else _ _ _ _ hne]
      refine h.old k fun j o' hj hj' => ?_
      have := hk j o' hj hj'
      cases e : L.getD j false
      · rfl
      · rw [getD_set_mono e] at this; cases this
    · by_cases e : q = k
      · subst e
        obtain rfl := apart_spec hap ho hj hd hj'
        rw [put_same _ _ _ hq]
        exact hV (by rw [hd]; rfl)
      · rw [put_else _ _ _ _ e]
        rcases set_get hl with rfl | hl
        · rw [ho] at hj; injection hj with hj; subst hj; rw [hd] at hj'; injection hj' with hj'; exact absurd hj' e
        · exact hm _ _ (h.new j o' k hj hj' hl)

/-- All slots that are written, put into the frame. -/
def putAll : List Oper → Act → (Nat → Value) → Act
  | [], a, _ => a
  | o :: l, a, vs => putAll l (match o.dst with | some k => a.put (some k) (vs k) | none => a) vs

theorem putAll_size : ∀ (l : List Oper) (a : Act) (vs : Nat → Value), (putAll l a vs).tmps.size = a.tmps.size
  | [], _, _ => rfl
  | o :: l, a, vs => by
    rw [putAll, putAll_size l]
    cases o.dst with
    | none => rfl
    | some k => exact put_size _ _ _
theorem putAll_defers : ∀ (l : List Oper) (a : Act) (vs : Nat → Value), (putAll l a vs).defers = a.defers
  | [], _, _ => rfl
  | o :: l, a, vs => by
    rw [putAll, putAll_defers l]
    cases o.dst with
    | none => rfl
    | some k => rfl
theorem putAll_eval : ∀ (l : List Oper) (a : Act) (vs : Nat → Value) (k : Nat), (∀ o ∈ l, ∀ q, o.dst = some q → q < a.tmps.size) → (putAll l a vs).eval (.tmp k) = if (∃ o ∈ l, o.dst = some k) then vs k else a.eval (.tmp k)
  | [], _, _, _, _ => by simp [putAll]
  | o :: l, a, vs, k, hs => by
    rw [putAll]
    cases hd : o.dst with
    | none =>
      rw [putAll_eval l a vs k (fun o' ho' => hs o' (List.mem_cons_of_mem _ ho'))]
      simp [hd]
    | some q =>
      have hq := hs o (List.mem_cons_self ..) q hd
      rw [putAll_eval l _ vs k (fun o' ho' q' hq' => by rw [put_size]; exact hs o' (List.mem_cons_of_mem _ ho') q' hq')]
      by_cases e : q = k
      · subst e
        rw [put_same _ _ _ hq]
        simp [hd]
      · rw [put_else _ _ _ _ e]
        simp [hd, e]

theorem act_ext {a b : Act} (hd : a.defers = b.defers) (hs : a.tmps.size = b.tmps.size) (h : ∀ k, a.eval (.tmp k) = b.eval (.tmp k)) : a = b := by
  obtain ⟨t, d⟩ := a
  obtain ⟨t', d'⟩ := b
  simp only at hd hs
  subst hd
  congr 1
  apply Array.ext hs
  intro i h1 h2
  have := h i
  simpa [Act.eval, h1, h2] using this

end

/-- A region that draws its order, unguarded, each slot written once: an invariant of the world, and what each operation yields. -/
theorem region_rel {P : Program} {id : Nat} {Q : Exit → Act → World → Prop} {a0 : Act} {w : World} {l : List Oper} (C : Array Bool → World → Prop) (V : Nat → Value → World → Prop) (hm : P.follows .mixedOrders = true)
    (hasc : asc .any l.toArray = true) (hpl : plainB l a0.tmps.size = true) (hC0 : C (Array.replicate l.length false) w.drew)
    (hop : ∀ (L : Array Bool) (a : Act) (W : World) (i : Nat) (o : Oper), RInv l a0 C V L a W → Closed .any l.toArray L → l[i]? = some o → L.getD i true = false → (∀ e ∈ o.after, Region.binds .any e = true → L.getD e.on false = true) →
      wpOp P l.toArray Q i (fun a' W' => RInv l a0 C V (L.setIfInBounds i true) a' W') a W)
    (hend : ∀ (L : Array Bool) (W : World) (vs : Nat → Value), (∀ i, i < l.length → L.getD i false = true) → C L W → (∀ (i : Nat) (o : Oper) (k : Nat), l[i]? = some o → o.dst = some k → V i (vs k) W) → Q .normal (putAll l a0 vs) W) :
    (Code.region id l.toArray true).wp P Q a0 w := by
  refine wp_region_any hm ?_
  refine wpAny_inv (RInv l a0 C V) ?_ ?_ _ _ _ _ ?_ (Closed.none _ (rep_none _)) ?_
  · intro L a W i h hc hi
    obtain ⟨hi1, o, ho, hall⟩ := mem_ready.1 hi
    exact hop L a W i o h hc (by simpa using ho) hi1 hall
  · intro L a W h hr
    have hall : ∀ i, i < l.length → L.getD i false = true := fun i hi => all_up hr hasc (by simpa using h.len) i (by simpa using hi)
    have e : a = putAll l a0 (fun k => a.eval (.tmp k)) := by
      have hs : ∀ o ∈ l, ∀ q, o.dst = some q → q < a0.tmps.size := fun o ho q hq => by
        obtain ⟨i, hi⟩ := List.getElem?_of_mem ho
        exact (plain_spec hpl hi).2 q hq
      refine act_ext (by rw [putAll_defers]; exact h.df) (by rw [putAll_size]; exact h.sz) fun k => ?_
      rw [putAll_eval l a0 _ k hs]
      by_cases hk : ∃ o ∈ l, o.dst = some k
      · rw [if_pos hk]
      · rw [if_neg hk]
        refine h.old k fun i o hi hd => absurd ⟨o, List.mem_of_getElem? hi, hd⟩ hk
    have := hend L W (fun k => a.eval (.tmp k)) hall h.cw (fun i o k hi hd => h.new i o k hi hd (hall i (List.getElem?_eq_some_iff.1 hi).1))
    rw [← e] at this
    exact this
  · refine ⟨by simp, ?_, rfl, rfl, fun _ _ => rfl, fun i o k hi _ hl => ?_⟩
    · simpa using hC0
    · rw [rep_none] at hl; cases hl
  · unfold left
    exact Nat.le_trans List.countP_le_length (by simp)

/-- What an operation does in a world behind v: it yields a value, or calls. -/
def OpR (P : Program) (V : Nat → Value → World → Prop) (i : Nat) (o : Oper) (a : Act) (W : World) : Prop :=
  (∃ u W', (execOp a.eval o).run P W = .ok (.value u) W' ∧ Below W.heap.size W W' ∧ V i u W') ∨
  (∃ f args, (execOp a.eval o).run P W = .ok (.enter f args) W ∧ Calls P f args W fun e W' => ∃ u, e = .returned u ∧ Below W.heap.size W W' ∧ V i u W')

/-- The same, where all that is made lies behind: what holds of a value goes on to hold. -/
theorem region_past {P : Program} {id : Nat} {Q : Exit → Act → World → Prop} {a0 : Act} {w : World} {l : List Oper} (v : World) (hv : Below v.heap.size v w) (V : Nat → Value → World → Prop) (hVm : ∀ j u W W', Below W.heap.size W W' → V j u W → V j u W') (hm : P.follows .mixedOrders = true)
    (hasc : asc .any l.toArray = true) (hap : apartB l = true) (hpl : plainB l a0.tmps.size = true)
    (hop : ∀ (i : Nat) (o : Oper), l[i]? = some o → ∀ (a : Act) (W : World), Below v.heap.size v W → (∀ k, noDst l k = true → a.eval (.tmp k) = a0.eval (.tmp k)) →
      (∀ (j : Nat) (o' : Oper) (k : Nat), l[j]? = some o' → o'.dst = some k → (∃ e ∈ o.after, e.on = j ∧ Region.binds .any e = true) → V j (a.eval (.tmp k)) W) → OpR P V i o a W)
    (hend : ∀ (W : World) (vs : Nat → Value), Below v.heap.size v W → (∀ (i : Nat) (o : Oper) (k : Nat), l[i]? = some o → o.dst = some k → V i (vs k) W) → Q .normal (putAll l a0 vs) W) :
    (Code.region id l.toArray true).wp P Q a0 w := by
  refine region_rel (fun _ W => Below v.heap.size v W) V hm hasc hpl (Below.drew hv) ?_ (fun L W vs _ hC hV => hend W vs hC hV)
  intro L a W i o h _ ho hi hall
  have hg := (plain_spec hpl ho).1
  rcases hop i o ho a W h.cw (fun k hk => h.keep hk) (fun j o' k hj hk ⟨e, he, hej, hb⟩ => h.new j o' k hj hk (by rw [← hej]; exact hall e he hb)) with ⟨u, W', hr, hb, hV⟩ | ⟨f, args, hr, hk⟩
  · exact wpOp_value (by simpa using ho) hg hr (h.step hap hpl ho hi (blw_trans h.cw hb) (fun j x hx => hVm j x W W' hb hx) (fun _ => hV))
  · refine wpOp_enter (by simpa using ho) hg hr (hk.mono ?_)
    rintro e W' ⟨u, rfl, hb, hV⟩
    exact ⟨u, rfl, h.step hap hpl ho hi (blw_trans h.cw hb) (fun j x hx => hVm j x W W' hb hx) (fun _ => hV)⟩

theorem ev_tmp (a : Act) (k : Nat) : a.tmps[k]?.getD undef = a.eval (.tmp k) := by simp [Act.eval]

/-- What an edge before brings. -/
theorem E {V : Nat → Value → World → Prop} {l : List Oper} {o : Oper} {a : Act} {W : World} (hd : ∀ (j : Nat) (o' : Oper) (k : Nat), l[j]? = some o' → o'.dst = some k → (∃ e ∈ o.after, e.on = j ∧ Region.binds .any e = true) → V j (a.eval (.tmp k)) W)
    (j k : Nat) {o' : Oper} {v : Value} (h1 : l[j]? = some o' := by exact rfl) (h2 : o'.dst = some k := by exact rfl) (h3 : ∃ e ∈ o.after, e.on = j ∧ Region.binds .any e = true := by decide) (hv : V j (a.eval (.tmp k)) W = (a.eval (.tmp k) = v) := by exact rfl) : a.tmps[k]?.getD undef = v :=
  (ev_tmp a k).trans (hv ▸ hd j o' k h1 h2 h3)
theorem E1 {V : Nat → Value → World → Prop} {l : List Oper} {o : Oper} {a : Act} {W : World} {C : Nat → Prop} (hd : ∀ (j : Nat) (o' : Oper) (k : Nat), l[j]? = some o' → o'.dst = some k → (∃ e ∈ o.after, e.on = j ∧ Region.binds .any e = true) → C j → V j (a.eval (.tmp k)) W)
    (j k : Nat) {o' : Oper} {v : Value} (h1 : l[j]? = some o' := by exact rfl) (h2 : o'.dst = some k := by exact rfl) (h3 : ∃ e ∈ o.after, e.on = j ∧ Region.binds .any e = true := by decide) (h4 : C j := by decide) (hv : V j (a.eval (.tmp k)) W = (a.eval (.tmp k) = v) := by exact rfl) : a.tmps[k]?.getD undef = v :=
  (ev_tmp a k).trans (hv ▸ hd j o' k h1 h2 h3 h4)
/-- What no operation writes. -/
theorem K {l : List Oper} {a a0 : Act} (hk : ∀ k, noDst l k = true → a.eval (.tmp k) = a0.eval (.tmp k)) (k : Nat) (v : Value) (h : noDst l k = true := by kernel_rfl) (h' : a0.eval (.tmp k) = v := by exact rfl) : a.tmps[k]?.getD undef = v :=
  (ev_tmp a k).trans ((hk k h).trans h')
theorem p {R : Value → World → Prop} {Vi : Value → World → Prop} {X : World} {Q : Prop} (v : Value) (h : R v X) (hv : Vi v X := by exact rfl) : (∃ u W', R u W' ∧ Below X.heap.size X W' ∧ Vi u W') ∨ Q :=
  .inl ⟨v, X, h, Below.refl _ _, hv⟩
theorem n {o : Oper} {y : Nat → Option Bool} {B C : Prop} (h : B) (hw : o.guard = none := by exact rfl) : (Region.wanted o y = true ∧ B) ∨ C :=
  .inl ⟨by unfold Region.wanted; rw [hw], h⟩

end RY
end Go.Proofs.Ytjjobbalifjdkaa
