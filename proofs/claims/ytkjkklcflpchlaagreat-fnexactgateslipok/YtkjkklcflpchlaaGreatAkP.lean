/-
  GateAskOk: the parts of an ask (the program).
-/
import Derived.OrdersIn
import Derived.Deep.Quiet
import Derived.StillTail
import Derived.Deep.RegionWith
import Derived.StillTailTactics
import Derived.BigQuiet
import Derived.Test.YtkjkklcflpchlaaGreatRel
import Derived.Test.YtkjkklcflpchlaaGreatPlainC
import Derived.Test.YtkjkklcflpchlaaGreatWalkJ
import Derived.Test.YtkjkklcflpchlaaGreatMemA
import Derived.Test.YtkjkklcflpchlaaGreatWalkS
import Derived.Test.YtkjkklcflpchlaaGreatWalkRE
import Derived.Test.YtkjkklcflpchlaaGreatWalkUC
namespace Go.Proofs.YtkjkklcflpchlaaGreat
open Go.RowKit Go.Deep

section
variable {F : Fence} {m : Nat} {P : Program} {ops : Array Oper} {md : Region.Mode} {Q : Exit → Act → World → Prop}

theorem wpAnyIn_inv (I : Array Bool → Act → World → Prop)
    (hstep : ∀ listed a w i, I listed a w → Closed md ops listed → i ∈ Region.ready md ops listed → wpOpIn F m P ops Q i (fun a' w' => I (listed.setIfInBounds i true) a' w') a w)
    (hend : ∀ listed a w, I listed a w → Region.ready md ops listed = [] → Q .normal a w) :
    ∀ (fuel : Nat) (listed : Array Bool) (a : Act) (w : World), I listed a w → Closed md ops listed → left listed ≤ fuel → wpAnyIn F m P md ops Q fuel listed a w
  | 0, listed, a, w, h, _, hf => ⟨ready_none (Nat.le_zero.1 hf), hend _ _ _ h (ready_none (Nat.le_zero.1 hf))⟩
  | fuel + 1, listed, a, w, h, hc, hf => ⟨fun h0 => hend _ _ _ h h0, fun i hi => wpOpIn_mono (fun a' w' h' => wpAnyIn_inv I hstep hend fuel _ a' w' h' (hc.set hi) (by have := left_set (mem_ready.1 hi).1; omega)) (hstep _ _ _ _ h hc hi)⟩
end

/-- All slots that are written lie below n. -/
def slotsB (l : List Oper) (n : Nat) : Bool := l.all fun o => match o.dst with
  | some k => decide (k < n)
  | none => true

theorem slots_specB {l : List Oper} {n : Nat} (h : slotsB l n = true) {i : Nat} {o : Oper} (hi : l[i]? = some o) : ∀ k, o.dst = some k → k < n := by
  unfold slotsB at h
  rw [List.all_eq_true] at h
  have := h o (List.mem_of_getElem? hi)
  intro k hk
  rw [hk] at this
  simpa using this

theorem RInv.stepB {l : List Oper} {a0 : Act} {C : Array Bool → World → Prop} {V : Nat → Value → World → Prop} {L : Array Bool} {a : Act} {W : World} (h : RInv l a0 C V L a W) (hap : apartB l = true) (hpl : slotsB l a0.tmps.size = true) {i : Nat} {o : Oper} {u : Value} {W' : World} (ho : l[i]? = some o) (hi : L.getD i true = false) (hC : C (L.setIfInBounds i true) W') (hm : ∀ j v, L.getD j false = true → V j v W → V j v W') (hV : o.dst.isSome = true → V i u W') :
    RInv l a0 C V (L.setIfInBounds i true) (a.put o.dst u) W' := by
  cases hd : o.dst with
  | none =>
    refine ⟨by simp [h.len], hC, h.df, h.sz, fun k hk => h.old k fun j o' hj hj' => ?_, fun j o' k hj hj' hl => ?_⟩
    · have := hk j o' hj hj'
      cases e : L.getD j false
      · rfl
      · rw [getD_set_mono e] at this; cases this
    · rcases set_get hl with rfl | hl
      · rw [ho] at hj; injection hj with hj; subst hj; rw [hd] at hj'; cases hj'
      · exact hm _ _ hl (h.new j o' k hj hj' hl)
  | some q =>
    have hq : q < a.tmps.size := by rw [h.sz]; exact slots_specB hpl ho q hd
    refine ⟨by simp [h.len], hC, h.df, by rw [put_size]; exact h.sz, fun k hk => ?_, fun j o' k hj hj' hl => ?_⟩
    · have hne : q ≠ k := by
        intro e
        subst e
        have := hk i o ho hd
        rw [set_here hi] at this; cases this
      rw [put_else _ _ _ _ hne]
      refine h.old k fun j o' hj hj' => ?_
      have := hk j o' hj hj'
      cases e : L.getD j false
      · rfl
      · rw [getD_set_mono e] at this; cases this
    · by_cases e : q = k
      · subst e
        obtain rfl := apart_spec hap ho hj hd hj'
        rw [put_same _ _ _ hq]
        exact hV (by rw [hd]; rfl)
      · rw [put_else _ _ _ _ e]
        rcases set_get hl with rfl | hl
        · rw [ho] at hj; injection hj with hj; subst hj; rw [hd] at hj'; injection hj' with hj'; exact absurd hj' e
        · exact hm _ _ hl (h.new j o' k hj hj' hl)

/-- A region inside a fence: an invariant of the world, and what each operation yields. -/
theorem regionIn_rel {F : Fence} {m : Nat} {P : Program} {id : Nat} {Q : Exit → Act → World → Prop} {a0 : Act} {w : World} {l : List Oper} (C : Array Bool → World → Prop) (V : Nat → Value → World → Prop) (hm : P.follows .mixedOrders = true)
    (hasc : asc .any l.toArray = true) (hpl : slotsB l a0.tmps.size = true) (hC0 : C (Array.replicate l.length false) w.drew)
    (hop : ∀ (L : Array Bool) (a : Act) (W : World) (i : Nat) (o : Oper), RInv l a0 C V L a W → Closed .any l.toArray L → l[i]? = some o → L.getD i true = false → (∀ e ∈ o.after, Region.binds .any e = true → L.getD e.on false = true) →
      wpOpIn F m P l.toArray Q i (fun a' W' => RInv l a0 C V (L.setIfInBounds i true) a' W') a W)
    (hend : ∀ (L : Array Bool) (W : World) (vs : Nat → Value), (∀ i, i < l.length → L.getD i false = true) → C L W → (∀ (i : Nat) (o : Oper) (k : Nat), l[i]? = some o → o.dst = some k → V i (vs k) W) → Q .normal (putAll l a0 vs) W) :
    (Code.region id l.toArray true).wpIn F m P Q a0 w := by
  refine wpIn_region_any hm ?_
  refine wpAnyIn_inv (RInv l a0 C V) ?_ ?_ _ _ _ _ ?_ (Closed.none _ (rep_none _)) ?_
  · intro L a W i h hc hi
    obtain ⟨hi1, o, ho, hall⟩ := mem_ready.1 hi
    exact hop L a W i o h hc (by simpa using ho) hi1 hall
  · intro L a W h hr
    have hall : ∀ i, i < l.length → L.getD i false = true := fun i hi => all_up hr hasc (by simpa using h.len) i (by simpa using hi)
    have e : a = putAll l a0 (fun k => a.eval (.tmp k)) := by
      have hs : ∀ o ∈ l, ∀ q, o.dst = some q → q < a0.tmps.size := fun o ho q hq => by
        obtain ⟨i, hi⟩ := List.getElem?_of_mem ho
        exact slots_specB hpl hi q hq
      refine act_ext (by rw [putAll_defers]; exact h.df) (by rw [putAll_size]; exact h.sz) fun k => ?_
      rw [putAll_eval l a0 _ k hs]
      by_cases hk : ∃ o ∈ l, o.dst = some k
      · rw [if_pos hk]
      · rw [if_neg hk]
        refine h.old k fun i o hi hd => absurd ⟨o, List.mem_of_getElem? hi, hd⟩ hk
    have := hend L W (fun k => a.eval (.tmp k)) hall h.cw (fun i o k hi hd => h.new i o k hi hd (hall i (List.getElem?_eq_some_iff.1 hi).1))
    rw [← e] at this
    exact this
  · refine ⟨by simp, ?_, rfl, rfl, fun _ _ => rfl, fun i o k hi _ hl => ?_⟩
    · simpa using hC0
    · rw [rep_none] at hl; cases hl
  · unfold left
    exact Nat.le_trans List.countP_le_length (by simp)

/-- What a slot holds, as a guard sees it. -/
theorem wanted_of {l : List Oper} {a : Act} {o oj : Oper} {j k : Nat} {b : Bool} (hg : o.guard = some (j, true)) (hj : l[j]? = some oj) (hd : oj.dst = some k) (hv : a.eval (.tmp k) = .bool b) : Region.wanted o (yielded l.toArray a.tmps) = b := by
  have ht : a.tmps[k]? = some (.bool b) := by
    have h1 : a.tmps[k]?.getD undef = .bool b := by simpa [Act.eval] using hv
    cases e : a.tmps[k]? with
    | none => rw [e] at h1; cases h1
    | some v => rw [e] at h1; exact congrArg some h1
  have hy : yielded l.toArray a.tmps j = some b := by
    unfold yielded
    rw [List.getElem?_toArray, hj]
    simp [hd, ht]
  unfold Region.wanted
  rw [hg]
  simp only [hy]
  cases b <;> rfl

theorem wanted_plain {o : Oper} {y : Nat → Option Bool} (hg : o.guard = none) : Region.wanted o y = true := by
  unfold Region.wanted; rw [hg]

/-- An operation that leaves the world as it is. -/
theorem RInv.runIn {F : Fence} {m : Nat} {P : Program} {Q : Exit → Act → World → Prop} {l : List Oper} {a0 : Act} {C : Array Bool → World → Prop} {V : Nat → Value → World → Prop} {L : Array Bool} {a : Act} {W : World} (h : RInv l a0 C V L a W) (hap : apartB l = true) (hpl : slotsB l a0.tmps.size = true) (hro : F.round = none) (hfn : ∀ f, F.fn f)
    {i : Nat} {o : Oper} (ho : l[i]? = some o) (hi : L.getD i true = false) (hC : C (L.setIfInBounds i true) W) (b : Bool) (hw : Region.wanted o (yielded l.toArray a.tmps) = b)
    (hdo : b = true → ∃ u, (execOp a.eval o).run P W = .ok (.value u) W ∧ V i u W) (hno : b = false → V i undef W) :
    wpOpIn F m P l.toArray Q i (fun a' W' => RInv l a0 C V (L.setIfInBounds i true) a' W') a W := by
  unfold wpOpIn
  rw [List.getElem?_toArray, ho]
  simp only [hw]
  cases b with
  | true =>
    obtain ⟨u, hu, hv⟩ := hdo rfl
    refine ⟨fun f _ => hfn f, ?_⟩
    rw [hro, Oper.semAt_none, hu, Oper.uponIn_value]
    exact h.stepB hap hpl ho hi hC (fun _ _ _ hh => hh) (fun _ => hv)
  | false =>
    refine ⟨fun f _ => hfn f, ?_⟩
    exact h.stepB hap hpl ho hi hC (fun _ _ _ hh => hh) (fun _ => hno rfl)

/-- A call of yield. -/
theorem RInv.roundIn {F : Fence} {m : Nat} {P : Program} {Q : Exit → Act → World → Prop} {l : List Oper} {a0 : Act} {C : Array Bool → World → Prop} {V : Nat → Value → World → Prop} {L : Array Bool} {a : Act} {W : World} (h : RInv l a0 C V L a W) (hap : apartB l = true) (hpl : slotsB l a0.tmps.size = true) (hro : F.round = none) (hfn : ∀ f, F.fn f) (hdp : F.depth = none)
    {i : Nat} {o : Oper} (ho : l[i]? = some o) (hi : L.getD i true = false) (hw : Region.wanted o (yielded l.toArray a.tmps) = true) {lp : Nat} {fn : FuncId} {tmps : Array Value} {assign body : Code} {R : Ending → World → Prop}
    (hrun : (execOp a.eval o).run P W = .ok (.round lp fn tmps assign body) W) (hR : RoundIn F (m - 1) P lp fn tmps assign body W R)
    (hk : ∀ e W', R e W' → ∃ u, e = .returned u ∧ C (L.setIfInBounds i true) W' ∧ (∀ j v, L.getD j false = true → V j v W → V j v W') ∧ V i u W') :
    wpOpIn F m P l.toArray Q i (fun a' W' => RInv l a0 C V (L.setIfInBounds i true) a' W') a W := by
  unfold wpOpIn
  rw [List.getElem?_toArray, ho]
  simp only [hw, if_true]
  refine ⟨fun f _ => hfn f, ?_⟩
  rw [hro, Oper.semAt_none, hrun, Oper.uponIn_round]
  refine ⟨fun e => (by rw [hdp] at e; cases e), hR.mono fun e W' he => ?_⟩
  obtain ⟨u, rfl, hC, hm, hV⟩ := hk e W' he
  exact h.stepB hap hpl ho hi hC hm (fun _ => hV)

/-- What stands ahead of an operation, by its edges. -/
def aheadB (l : List Oper) : Nat → List Nat → List Nat
  | 0, s => s
  | n + 1, s => aheadB l n (s ++ s.flatMap (fun i => ((l[i]?.map fun o => (o.after.toList.filter (Region.binds .any)).map (·.on)).getD []))).eraseDups

theorem ahead_spec {l : List Oper} {L : Array Bool} (hc : Closed .any l.toArray L) : ∀ (n : Nat) (s : List Nat), (∀ i ∈ s, L.getD i false = true) → ∀ i ∈ aheadB l n s, L.getD i false = true
  | 0, s, h => h
  | n + 1, s, h => by
    refine ahead_spec hc n _ fun i hi => ?_
    rw [List.mem_eraseDups, List.mem_append] at hi
    rcases hi with hi | hi
    · exact h i hi
    · rw [List.mem_flatMap] at hi
      obtain ⟨j, hj, hi⟩ := hi
      cases e : l[j]? with
      | none => rw [e] at hi; simp at hi
      | some o =>
        rw [e] at hi
        simp only [Option.map_some, Option.getD_some, List.mem_map, List.mem_filter] at hi
        obtain ⟨ed, ⟨h1, h2⟩, rfl⟩ := hi
        exact hc j o ed (by rw [List.getElem?_toArray]; exact e) (by simpa using h1) h2 (h j hj)

/-- What has not come up yet: nothing that it stands ahead of has. -/
theorem behind {l : List Oper} {L : Array Bool} (hc : Closed .any l.toArray L) {n i j : Nat} (hij : (aheadB l n [j]).contains i = true) (hi : L.getD i true = false) : L.getD j false = false := by
  cases e : L.getD j false with
  | false => rfl
  | true =>
    have := ahead_spec hc n [j] (by simpa using e) i (by simpa using hij)
    rw [Array.getD_eq_getD_getElem?] at this hi
    cases e2 : L[i]? with
    | none => rw [e2] at hi; cases hi
    | some v => rw [e2] at hi this; simp at hi this; rw [hi] at this; cases this

end Go.Proofs.YtkjkklcflpchlaaGreat

namespace Go.Proofs.YtkjkklcflpchlaaGreat
open Go.RowKit Go.Deep

section
variable {P : Program} {C : World → Prop}

theorem seq_fuel {md : Region.Mode} {ops : Array Oper} {Q : Exit → Act → World → Prop} : ∀ (l : List Oper) (m k : Nat) (listed : Array Bool) (a : Act) (w : World), (∀ j, l[j]? = ops[k + j]?) →
    Region.seqB md ops l.length k listed = true → wpList P ops Q l a w → wpAny P md ops Q (m + l.length) listed a w
  | [], 0, _, _, _, _, _, hB, h => ⟨by simpa [Region.seqB] using hB, h⟩
  | [], m + 1, _, listed, _, _, _, hB, h => by
    have hr : Region.ready md ops listed = [] := by simpa [Region.seqB] using hB
    exact ⟨fun _ => h, fun i hi => by rw [hr] at hi; cases hi⟩
  | o :: l, m, k, listed, a, w, hl, hB, h => by
    have h0 : ops[k]? = some o := by simpa using (hl 0).symm
    simp only [List.length_cons, Region.seqB, Bool.and_eq_true, decide_eq_true_eq] at hB
    refine ⟨fun h1 => (by rw [hB.1] at h1; cases h1), fun i hi => ?_⟩
    rw [hB.1] at hi
    have hik : i = k := by simpa using hi
    subst hik
    have hw : wpOp P ops Q i (wpList P ops Q l) a w := by unfold wpOp; simp only [h0]; exact h
    exact wpOp_mono (fun a' w' h' => seq_fuel l m (i + 1) _ a' w' (fun j => by have := hl (j + 1); simpa [Nat.add_assoc, Nat.add_comm 1 j] using this) hB.2 h') hw

def waits (o : Oper) (j : Nat) : Bool := o.after.toList.any fun e => Region.binds .any e && (e.on == j)
/-- Each operation of the head stands ahead of each of the tail, or of a later one of the head. -/
def sinks (hd tl : List Oper) : Bool := tl.all fun o => (List.range hd.length).all fun j => waits o j || (hd.drop (j + 1)).any fun o' => waits o' j

theorem waits_spec {o : Oper} {j : Nat} (h : waits o j = true) : ∃ e ∈ o.after, Region.binds .any e = true ∧ e.on = j := by
  obtain ⟨e, he, hb⟩ := List.any_eq_true.1 h
  rw [Bool.and_eq_true, beq_iff_eq] at hb
  exact ⟨e, by simpa using he, hb.1, hb.2⟩

theorem sinks_spec {hd tl : List Oper} (hS : sinks hd tl = true) {o : Oper} (ho : o ∈ tl) {L : Array Bool} (hc : Closed .any hd.toArray L) (h3 : ∀ j, j < hd.length → waits o j = true → L.getD j false = true) : ∀ m j, j < hd.length → hd.length ≤ j + m → L.getD j false = true := by
  have hso := List.all_eq_true.1 hS o ho
  intro m
  induction m with
  | zero => intro j hj hm; omega
  | succ m ih =>
    intro j hj hm
    have := List.all_eq_true.1 hso j (List.mem_range.2 hj)
    rw [Bool.or_eq_true] at this
    rcases this with h | h
    · exact h3 j hj h
    · obtain ⟨o', ho', hw⟩ := List.any_eq_true.1 h
      obtain ⟨i, hi⟩ := List.getElem?_of_mem ho'
      rw [List.getElem?_drop] at hi
      have hlt : j + 1 + i < hd.length := (List.getElem?_eq_some_iff.1 hi).1
      obtain ⟨e, he, hb, rfl⟩ := waits_spec hw
      exact hc (e.on + 1 + i) o' e (by simpa using hi) he hb (ih (e.on + 1 + i) hlt (by omega))
/-- The guards of the head lie in the head. -/
def guarded (n : Nat) (hd : List Oper) : Bool := hd.all fun o => match o.guard with
  | some (j, _) => decide (j < n)
  | none => true

theorem qOp_part {hd tl : List Oper} (hG : guarded hd.length hd = true) {i : Nat} (hi : i < hd.length) {K : Act → Prop} {a : Act} (h : qOp P hd.toArray C i K a) : qOp P (hd ++ tl).toArray C i K a := by
  have e1 : hd.toArray[i]? = some hd[i] := by simp [hi]
  have e2 : (hd ++ tl).toArray[i]? = some hd[i] := by simp [hi, List.getElem?_append_left hi]
  have ew : Region.wanted hd[i] (yielded (hd ++ tl).toArray a.tmps) = Region.wanted hd[i] (yielded hd.toArray a.tmps) := by
    have hg := List.all_eq_true.1 hG hd[i] (List.getElem_mem hi)
    unfold Region.wanted
    cases hgd : (hd[i]).guard with
    | none => rfl
    | some p =>
      obtain ⟨j, b⟩ := p
      rw [hgd] at hg
      have hj : j < hd.length := by simpa using hg
      have : yielded (hd ++ tl).toArray a.tmps j = yielded hd.toArray a.tmps j := by
        unfold yielded
        simp [List.getElem?_append_left hj]
      simp only [this]
  unfold qOp at h ⊢
  simp only [e1] at h
  simp only [e2, ew]
  exact h

theorem asc_spec {md : Region.Mode} {ops : Array Oper} {i : Nat} {o : Oper} (ha : asc md ops = true) (ho : ops[i]? = some o) : ∀ e ∈ o.after, Region.binds md e = true → e.on < i := by
  have hn : i < ops.size := (Array.getElem?_eq_some_iff.1 ho).1
  unfold asc at ha
  rw [List.all_eq_true] at ha
  have := ha i (List.mem_range.2 hn)
  rw [ho] at this
  intro e he hb
  have h3 := (Array.all_eq_true_iff_forall_mem.1 this) e he
  rw [hb] at h3
  simpa using h3

structure Same (n : Nat) (L' L : Array Bool) : Prop where
  size' : L'.size = n
  low : ∀ j, j < n → L.getD j false = L'.getD j false
  high : ∀ j, n ≤ j → j < L.size → L.getD j true = false

theorem getD_tf {L : Array Bool} {j : Nat} (h : j < L.size) : L.getD j true = L.getD j false := by simp [h]

theorem lift_tail {hd tl : List Oper} {Q : Exit → Act → World → Prop} {Qh : Act → Prop} (hG : guarded hd.length hd = true) (hS : sinks hd tl = true) (hA : asc .any hd.toArray = true)
    (hT : Region.seqB .any (hd ++ tl).toArray tl.length hd.length (List.replicate hd.length true ++ List.replicate tl.length false).toArray = true)
    (hQ : ∀ a w, C w → Qh a → wpList P (hd ++ tl).toArray Q tl a w) :
    ∀ (fuel : Nat) (L' L : Array Bool) (a : Act) (w : World), C w → Same hd.length L' L → Closed .any hd.toArray L' → L.size = hd.length + tl.length → wpAnyQ P .any hd.toArray C Qh fuel L' a → wpAny P .any (hd ++ tl).toArray Q (fuel + tl.length) L a w := by
  have fin : ∀ (m : Nat) (L' L : Array Bool) (a : Act) (w : World), C w → Same hd.length L' L → L.size = hd.length + tl.length → Region.ready .any hd.toArray L' = [] → Qh a → wpAny P .any (hd ++ tl).toArray Q (m + tl.length) L a w := by
    intro m L' L a w hC hs hsz hr hq
    have hup : ∀ j, j < hd.length → L'.getD j false = true := fun j hj => all_up hr hA (by simpa using hs.size') j (by simpa using hj)
    have e : L = (List.replicate hd.length true ++ List.replicate tl.length false).toArray := by
      apply Array.ext
      · simp [hsz]
      · intro j h1 h2
        by_cases hj : j < hd.length
        · have := (hs.low j hj).trans (hup j hj)
          have h3 : L[j] = true := by simpa [h1] using this
          rw [h3]
          simp [List.getElem_append_left, hj]
        · have := hs.high j (by omega) h1
          have h3 : L[j] = false := by simpa [h1] using this
          rw [h3]
          have h4 : (List.replicate hd.length true ++ List.replicate tl.length false)[j]? = some false := by
            rw [List.getElem?_append_right (by simpa using hj)]
            rw [List.getElem?_replicate]
            simp
            omega
          have h5 := (List.getElem?_eq_some_iff.1 h4).2
          simpa using h5.symm
    rw [e]
    exact seq_fuel tl m hd.length _ a w (fun j => by simp [List.getElem?_append_right]) hT (hQ a w hC hq)
  intro fuel
  induction fuel with
  | zero => intro L' L a w hC hs _ hsz h; exact fin 0 L' L a w hC hs hsz h.1 h.2
  | succ fuel ih =>
    intro L' L a w hC hs hcl hsz h
    by_cases hr : Region.ready .any hd.toArray L' = []
    · exact fin (fuel + 1) L' L a w hC hs hsz hr (h.1 hr)
    have toOps : ∀ i, i ∈ Region.ready .any hd.toArray L' → i ∈ Region.ready .any (hd ++ tl).toArray L := by
      intro i hi
      obtain ⟨h1, o, h2, h3⟩ := mem_ready.1 hi
      have hi' : i < hd.length := by simpa using (Array.getElem?_eq_some_iff.1 h2).1
      refine mem_ready.2 ⟨?_, o, ?_, ?_⟩
      · rw [getD_tf (by omega), hs.low i hi', ← getD_tf (by rw [hs.size']; exact hi')]; exact h1
      · simp only [List.getElem?_toArray] at h2 ⊢
        rw [List.getElem?_append_left hi']; exact h2
      · intro e he hb
        have hlt : e.on < i := asc_spec hA h2 e he hb
        rw [hs.low e.on (by omega)]
        exact h3 e he hb
    have fromOps : ∀ i, i ∈ Region.ready .any (hd ++ tl).toArray L → i < hd.length ∧ i ∈ Region.ready .any hd.toArray L' := by
      intro i hi
      obtain ⟨h1, o, h2, h3⟩ := mem_ready.1 hi
      have hiL : i < (hd ++ tl).length := by simpa using (Array.getElem?_eq_some_iff.1 h2).1
      have h2' : (hd ++ tl)[i]? = some o := by simpa using h2
      by_cases hi' : i < hd.length
      · refine ⟨hi', mem_ready.2 ⟨?_, o, ?_, ?_⟩⟩
        · rw [getD_tf (by rw [hs.size']; exact hi'), ← hs.low i hi', ← getD_tf (by omega)]; exact h1
        · rw [List.getElem?_append_left hi'] at h2'
          simpa using h2'
        · intro e he hb
          have hA' : hd.toArray[i]? = some o := by rw [List.getElem?_append_left hi'] at h2'; simpa using h2'
          have hlt : e.on < i := asc_spec hA hA' e he hb
          rw [← hs.low e.on (by omega)]
          exact h3 e he hb
      · exfalso
        rw [List.getElem?_append_right (by omega)] at h2'
        have ho := List.mem_of_getElem? h2'
        obtain ⟨q, hq⟩ := List.exists_mem_of_ne_nil _ hr
        obtain ⟨g1, oq, g2, _⟩ := mem_ready.1 hq
        have hq' : q < hd.length := by simpa using (Array.getElem?_eq_some_iff.1 g2).1
        have hup := sinks_spec hS ho hcl (fun j hj hw => by
          obtain ⟨e, he, hb, rfl⟩ := waits_spec hw
          rw [← hs.low e.on hj]
          exact h3 e he hb) hd.length q hq' (by omega)
        rw [getD_tf (by rw [hs.size']; exact hq'), hup] at g1
        cases g1
    rw [Nat.add_right_comm]
    refine ⟨fun h0 => ?_, fun i hi => ?_⟩
    · exfalso
      obtain ⟨q, hq⟩ := List.exists_mem_of_ne_nil _ hr
      have := toOps q hq
      rw [h0] at this
      cases this
    · obtain ⟨hi', hir⟩ := fromOps i hi
      refine wpOp_of_qOp hC (fun a' w' hC' h' => ?_) (qOp_part hG hi' (h.2 i hir))
      refine ih _ _ a' w' hC' ⟨by simp [hs.size'], fun j hj => ?_, fun j hj hjs => ?_⟩ (hcl.set hir) (by simpa using hsz) h'
      · by_cases e : i = j
        · subst e
          have u1 : i < L.size := by omega
          have u2 : i < L'.size := by rw [hs.size']; exact hi'
          simp [u1, u2]
        · have e1 : (L.setIfInBounds i true).getD j false = L.getD j false := by simp [Array.getD_eq_getD_getElem?, Array.getElem?_setIfInBounds_ne e]
          have e2 : (L'.setIfInBounds i true).getD j false = L'.getD j false := by simp [Array.getD_eq_getD_getElem?, Array.getElem?_setIfInBounds_ne e]
          rw [e1, e2]; exact hs.low j hj
      · have e1 : (L.setIfInBounds i true).getD j true = L.getD j true := by simp [Array.getD_eq_getD_getElem?, Array.getElem?_setIfInBounds_ne (show i ≠ j by omega)]
        rw [e1]
        exact hs.high j hj (by simpa using hjs)

theorem region_qtail {id : Nat} {Q : Exit → Act → World → Prop} {a : Act} {w : World} (hd tl : List Oper) (hm : P.follows .mixedOrders = true) (hB : Region.lexB .any hd.toArray = true) (hG : guarded hd.length hd = true) (hS : sinks hd tl = true) (hA : asc .any hd.toArray = true)
    (hT : Region.seqB .any (hd ++ tl).toArray tl.length hd.length (List.replicate hd.length true ++ List.replicate tl.length false).toArray = true) (hC : C w.drew)
    (h : wpQuiet P hd.toArray C (fun a' => ∀ w', C w' → wpList P (hd ++ tl).toArray Q tl a' w') hd a) : (Code.region id (hd ++ tl).toArray true).wp P Q a w := by
  refine wp_region_any hm ?_
  simp only [Region.lexB, Bool.and_eq_true] at hB
  have h1 := wpAnyQ_lex (C := C) (md := .any) hB.1 hd 0 (Array.replicate hd.toArray.size false) a (by simp) (by simpa using hB.2) h
  have h2 := lift_tail hG hS hA hT (fun a w hw hq => hq w hw) hd.length _ (Array.replicate (hd ++ tl).toArray.size false) a w.drew hC ⟨by simp, fun j _ => (getD_replicate_false _ _).trans (getD_replicate_false _ _).symm, fun j _ hj => by simp at hj; simp [hj]⟩ (Closed.none _ (getD_replicate_false _)) (by simp) h1
  rw [show (hd ++ tl).toArray.size = hd.length + tl.length by simp]
  rw [show (hd ++ tl).toArray.size = hd.length + tl.length by simp] at h2
  exact h2
end
end Go.Proofs.YtkjkklcflpchlaaGreat

namespace Go.Proofs.YtkjkklcflpchlaaGreat
open Go.RowKit Go.Deep

def apartAll (ops : Array Oper) (i : Nat) (oi : Oper) : List Oper → Bool
  | [] => true
  | oj :: r => (waits oj i || oi.apart ops oj) && apartAll ops i oi r
def pairsB (ops : Array Oper) : Nat → List Oper → Bool
  | _, [] => true
  | i, o :: r => apartAll ops i o r && pairsB ops (i + 1) r

theorem apartAll_spec {ops : Array Oper} {i : Nat} {oi : Oper} : ∀ (l : List Oper), apartAll ops i oi l = true → ∀ oj ∈ l, (waits oj i || oi.apart ops oj) = true
  | [], _, oj, h => by cases h
  | o :: r, h, oj, hj => by
    rw [apartAll, Bool.and_eq_true] at h
    rcases List.mem_cons.1 hj with rfl | hj
    · exact h.1
    · exact apartAll_spec r h.2 oj hj

theorem pairs_spec {ops : Array Oper} : ∀ (l : List Oper) (k : Nat), pairsB ops k l = true → ∀ i j oi oj, i < j → l[i]? = some oi → l[j]? = some oj → (waits oj (k + i) || oi.apart ops oj) = true
  | [], _, _, i, _, _, _, _, h, _ => by simp at h
  | o :: r, k, h, i, j, oi, oj, hij, hi, hj => by
    rw [pairsB, Bool.and_eq_true] at h
    cases j with
    | zero => omega
    | succ j =>
      rw [List.getElem?_cons_succ] at hj
      cases i with
      | zero =>
        rw [List.getElem?_cons_zero] at hi
        injection hi with hi
        subst hi
        exact apartAll_spec r h.1 oj (List.mem_of_getElem? hj)
      | succ i =>
        rw [List.getElem?_cons_succ] at hi
        have := pairs_spec r (k + 1) h.2 i j oi oj (by omega) hi hj
        rwa [show k + (i + 1) = k + 1 + i by omega]

theorem lexFrom_of {ops : Array Oper} (hA : asc .any ops = true) (hp : ∀ i j oi oj, i < j → ops[i]? = some oi → ops[j]? = some oj → (waits oj i || oi.apart ops oj) = true) :
    ∀ (g k : Nat) (L : Array Bool), k + g = ops.size → L.size = ops.size → (∀ j, j < k → L.getD j false = true) → (∀ j, k ≤ j → j < ops.size → L.getD j true = false) → Region.lexFrom .any ops g k L = true
  | 0, k, L, hk, hs, h1, h2 => by
    have : Region.ready .any ops L = [] := by
      rw [List.eq_nil_iff_forall_not_mem]
      intro j hj
      obtain ⟨g1, o, g2, _⟩ := mem_ready.1 hj
      have hlt : j < ops.size := (Array.getElem?_eq_some_iff.1 g2).1
      have := h1 j (by omega)
      rw [getD_tf (by omega), this] at g1
      cases g1
    simp [Region.lexFrom, this]
  | g + 1, k, L, hk, hs, h1, h2 => by
    have hlt : k < ops.size := by omega
    have hok : ops[k]? = some ops[k] := by simp [hlt]
    rw [Region.lexFrom, Bool.and_eq_true, Bool.and_eq_true]
    refine ⟨⟨?_, ?_⟩, ?_⟩
    · have : k ∈ Region.ready .any ops L := mem_ready.2 ⟨h2 k (Nat.le_refl _) hlt, ops[k], hok, fun e he hb => h1 e.on (asc_spec hA hok e he hb)⟩
      simpa using this
    · unfold Region.free
      rw [hok]
      simp only [List.all_eq_true, List.mem_range]
      intro j hj
      by_cases e : j = k
      · simp [e]
      by_cases hjk : j < k
      · have := h1 j hjk
        rw [← getD_tf (by omega)] at this
        rw [this]
        simp
      · have hoj : ops[j]? = some ops[j] := by simp [hj]
        have := hp k j ops[k] ops[j] (by omega) hok hoj
        rw [hoj]
        rw [Bool.or_eq_true] at this ⊢
        right
        rw [Bool.or_eq_true]
        rcases this with h | h
        · left
          unfold waits at h
          rw [← Array.any_toList]
          exact h
        · right; exact h
    · refine lexFrom_of hA hp g (k + 1) _ (by omega) (by simpa using hs) (fun j hj => ?_) (fun j hj hjs => ?_)
      · by_cases e : k = j
        · subst e
          have u : k < L.size := by omega
          simp [u]
        · have e1 : (L.setIfInBounds k true).getD j false = L.getD j false := by simp [Array.getD_eq_getD_getElem?, Array.getElem?_setIfInBounds_ne e]
          rw [e1]
          exact h1 j (by omega)
      · have e1 : (L.setIfInBounds k true).getD j true = L.getD j true := by simp [Array.getD_eq_getD_getElem?, Array.getElem?_setIfInBounds_ne (show k ≠ j by omega)]
        rw [e1]
        exact h2 j (by omega) hjs

theorem lexB_of {l : List Oper} (hn : Region.noSelect l.toArray = true) (hA : asc .any l.toArray = true) (hp : pairsB l.toArray 0 l = true) : Region.lexB .any l.toArray = true := by
  unfold Region.lexB
  rw [Bool.and_eq_true]
  refine ⟨hn, lexFrom_of hA (fun i j oi oj hij hi hj => ?_) _ 0 _ (by simp) (by simp) (fun j hj => by omega) (fun j _ hj => ?_)⟩
  · have := pairs_spec l 0 hp i j oi oj hij (by simpa using hi) (by simpa using hj)
    rwa [Nat.zero_add] at this
  · simp at hj
    simp [hj]

end Go.Proofs.YtkjkklcflpchlaaGreat

namespace Go.Proofs.YtkjkklcflpchlaaGreat
open Go.RowKit Go.Deep

def keyCmp (a b : ByteArray) : Int := if Pl.less a b then -1 else if a.toList == b.toList then 0 else 1
def numCmp (a b : Int) : Int := if a < b then -1 else if b < a then 1 else 0
def two (a b c d : ByteArray) : Int := if keyCmp a c = 0 then keyCmp b d else keyCmp a c
def firstNZ : List Int → Int
  | [] => 0
  | x :: l => if x = 0 then firstNZ l else x
def within (x lo hi : Int) : Bool := decide (lo ≤ x) && decide (x ≤ hi)

theorem firstNZ_drop (l : List Int) (k : Nat) (hk : k < l.length) : firstNZ (l.drop k) = if l.getD k 0 = 0 then firstNZ (l.drop (k + 1)) else l.getD k 0 := by
  have e : l.drop k = l[k] :: l.drop (k + 1) := List.drop_eq_getElem_cons hk
  have e2 : l.getD k 0 = l[k] := by simp [hk]
  rw [e, e2]; rfl

set_option maxHeartbeats 1000000 in
theorem withinI (x lo hi : Int) (w : World) : Calls Tryz.prog 63 #[.int .i64 x, .int .i64 lo, .int .i64 hi] w fun e w' => e = .returned (.bool (within x lo hi)) ∧ w = w' := by
  obtain ⟨R, hR⟩ : ∃ R, R = within x lo hi := ⟨_, rfl⟩
  have HR : Hid (R = within x lo hi) := hR
  rw [← hR]
  clear hR
  go_enter Tryz.func63, Tryz.ntmps63
  by_cases h1 : lo ≤ x
  · by_cases h2 : x ≤ hi
    · have HE : Hid (R = true) := by show R = _; rw [HR.out]; simp [within, h1, h2]
      go_wp2
      go_ret
      exact ⟨Pl.ret_bool HE.out.symm, rfl⟩
    · have HE : Hid (R = false) := by show R = _; rw [HR.out]; simp [within, h2]
      go_wp2
      go_ret
      exact ⟨Pl.ret_bool HE.out.symm, rfl⟩
  · have HE : Hid (R = false) := by show R = _; rw [HR.out]; simp [within, h1]
    go_wp2
    go_ret
    exact ⟨Pl.ret_bool HE.out.symm, rfl⟩

/-- All below k. -/
def allTo (p : Nat → Bool) : Nat → Bool
  | 0 => true
  | k + 1 => allTo p k && p k

theorem allTo_iff (p : Nat → Bool) : ∀ n, allTo p n = true ↔ ∀ i, i < n → p i = true
  | 0 => by simp [allTo]
  | n + 1 => by
    simp only [allTo, Bool.and_eq_true, allTo_iff p n]
    constructor
    · intro ⟨h1, h2⟩ i hi
      by_cases e : i = n
      · subst e; exact h2
      · exact h1 i (by omega)
    · intro h
      exact ⟨fun i hi => h i (by omega), h n (by omega)⟩

theorem allTo_false {p : Nat → Bool} {n k : Nat} (hk : k < n) (h : p k = false) : allTo p n = false := by
  cases e : allTo p n
  · rfl
  · have := (allTo_iff p n).1 e k hk; rw [h] at this; cases this

theorem allTo_step {p : Nat → Bool} {k : Nat} (h : allTo p k = true) (hp : p k = true) : allTo p (k + 1) = true := by
  simp [allTo, h, hp]

def pick2 (x y : Int) : Int := if x = 0 then y else x
def pick3 (x y z : Int) : Int := if x = 0 then pick2 y z else x

theorem nz2 (x y : Int) : firstNZ [x, y] = pick2 x y := by
  unfold firstNZ pick2; split
  · unfold firstNZ; split
    · rename_i h; rw [h]; rfl
    · rfl
  · rfl

theorem nz3 (x y z : Int) : firstNZ [x, y, z] = pick3 x y z := by
  unfold firstNZ pick3; split
  · exact nz2 y z
  · rfl

/-- A region that draws its order: a head that leaves the world, then a tail that is forced. -/
theorem region_tail {P : Program} {id : Nat} {Q : Exit → Act → World → Prop} {a : Act} {w : World} {l : List Oper} (n : Nat) (hm : P.follows .mixedOrders = true) (hB : Region.lexTailB .any l.toArray n = true)
    (h : ∀ W, W = w.drew → wpStill P l.toArray W (fun a' => wpList P l.toArray Q (l.drop n) a' W) (l.take n) a) : (Code.region id l.toArray true).wp P Q a w :=
  wp_region_still_tail n hm hB (h _ rfl)

/-- A world that lies behind another one. -/
structure Pst (w : World) where
  W : World
  ok : Below w.heap.size w W

theorem pst_some (w : World) : Nonempty (Pst w) := ⟨⟨w, Below.refl _ _⟩⟩
theorem Pst.cell {w : World} (x : Pst w) {b j : Nat} {v : Value} (h : w.cell? ⟨b, j, none⟩ = some v) (hb : b < w.heap.size) : x.W.cell? ⟨b, j, none⟩ = some v := (x.ok.cell (p := ⟨b, j, none⟩) hb).trans h
theorem Pst.size {w : World} (x : Pst w) {b : Nat} (h : b < w.heap.size) : b < x.W.heap.size := Nat.lt_of_lt_of_le h x.ok.size

/-- A region that draws its order, whose operations yield the same in each world behind w. -/
theorem region_class {P : Program} {id : Nat} {Q : Exit → Act → World → Prop} {a : Act} {w : World} {l : List Oper} (v : World) (hv : Below v.heap.size v w) (hm : P.follows .mixedOrders = true) (hB : Region.lexB .any l.toArray = true)
    (h : wpQuiet P l.toArray (fun w' => ∃ x : Pst v, w' = x.W) (fun a' => ∀ w', (∃ x : Pst v, w' = x.W) → Q .normal a' w') l a) : (Code.region id l.toArray true).wp P Q a w :=
  wp_region_quiet (C := fun w' => ∃ x : Pst v, w' = x.W) hm hB ⟨⟨w.drew, Below.drew hv⟩, rfl⟩ (by simpa using h)

theorem wrapI (n : Int) (h0 : 0 ≤ n) (h1 : n ≤ 1099511627776) : IntKind.i64.wrap n = n := by
  simp [IntKind.wrap, IntKind.bits, IntKind.signed]; omega

end Go.Proofs.YtkjkklcflpchlaaGreat

namespace Go.Proofs.YtkjkklcflpchlaaGreat
open Go.RowKit Go.Deep

theorem region_qcut {P : Program} {id : Nat} {Q : Exit → Act → World → Prop} {a : Act} {w : World} {l : List Oper} (v : World) (hv : Below v.heap.size v w) (n : Nat) (hm : P.follows .mixedOrders = true) (hB : Region.lexB .any (l.take n).toArray = true) (hG : guarded (l.take n).length (l.take n) = true) (hS : sinks (l.take n) (l.drop n) = true) (hA : asc .any (l.take n).toArray = true)
    (hT : Region.seqB .any l.toArray (l.drop n).length (l.take n).length (List.replicate (l.take n).length true ++ List.replicate (l.drop n).length false).toArray = true)
    (h : wpQuiet P (l.take n).toArray (fun w' => ∃ x : Pst v, w' = x.W) (fun a' => ∀ w', (∃ x : Pst v, w' = x.W) → wpList P l.toArray Q (l.drop n) a' w') (l.take n) a) : (Code.region id l.toArray true).wp P Q a w := by
  have := region_qtail (C := fun w' => ∃ x : Pst v, w' = x.W) (id := id) (Q := Q) (a := a) (w := w) (l.take n) (l.drop n) hm hB hG hS hA (by rw [List.take_append_drop]; exact hT) ⟨⟨w.drew, Below.drew hv⟩, rfl⟩ (by rw [List.take_append_drop]; exact h)
  rwa [List.take_append_drop] at this

theorem or10 : ∀ (S : Fin 1024) (k : Fin 10), bits BinOp.or IntKind.u16 (S.val : Int) ((2 ^ k.val : Nat) : Int) = ((S.val ||| 2 ^ k.val : Nat) : Int) := by decide +kernel

/-- The set of the parts, up to a place. -/
def acc (l : List Bool) : Nat → Nat
  | 0 => 0
  | k + 1 => if l.getD k false = true then acc l k ||| 2 ^ k else acc l k

theorem acc_lt (l : List Bool) : ∀ k, k ≤ 10 → acc l k < 1024
  | 0, _ => by simp [acc]
  | k + 1, h => by
    have := acc_lt l k (by omega)
    rw [acc]
    split
    · exact Nat.or_lt_two_pow (n := 10) this (Nat.pow_lt_pow_right (by omega) (by omega))
    · exact this

theorem acc_or (l : List Bool) (k : Nat) (h : k < 10) (hf : l.getD k false = true) : bits BinOp.or IntKind.u16 ((acc l k : Nat) : Int) ((2 ^ k : Nat) : Int) = ((acc l (k + 1) : Nat) : Int) := by
  have := or10 ⟨acc l k, acc_lt l k (by omega)⟩ ⟨k, h⟩
  rw [acc, if_pos hf]
  exact this

def ruleSet (r : Rul) : Bool := decide (0 < r.verbs.length) || !r.kind.toList.isEmpty || !r.team.toList.isEmpty || !r.pre.toList.isEmpty
def oksOf (L : Lw) (a : Ak) (n : Nat) : List Bool := [hasKind L.shapes a.kind, Pl.nameOk a.name, isTeam L.teams a.team, ((a.values.length : Int) == (n : Int)), decide (a.holds.length ≤ 3) && Pl.asc a.holds, decide (0 ≤ a.seen), Pl.nameOk a.hold, Pl.nameOk a.to_, ruleOk a.rule, decide (1 ≤ a.number)]
def setsOf (a : Ak) : List Bool := [!a.kind.toList.isEmpty, !a.name.toList.isEmpty, !a.team.toList.isEmpty, decide (0 < a.values.length), decide (0 < a.holds.length), (a.seen != 0), !a.hold.toList.isEmpty, !a.to_.toList.isEmpty, ruleSet a.rule, (a.number != 0)]

/-- The table of the parts. -/
structure Tab (W : World) (B : Nat) (f s : List Bool) : Prop where
  lt : B < W.heap.size
  at0 : ∀ i, i < 10 → W.cell? ⟨B, i * 3, none⟩ = some (.int .u16 ((2 ^ i : Nat) : Int))
  at1 : ∀ i, i < 10 → W.cell? ⟨B, i * 3 + 1, none⟩ = some (.bool (f.getD i false))
  at2 : ∀ i, i < 10 → W.cell? ⟨B, i * 3 + 2, none⟩ = some (.bool (s.getD i false))

theorem Tab.later {W W' : World} {B : Nat} {f s : List Bool} (h : Tab W B f s) (hb : Below W.heap.size W W') : Tab W' B f s := by
  have q : ∀ j, W'.cell? ⟨B, j, none⟩ = W.cell? ⟨B, j, none⟩ := fun j => hb.cell (p := ⟨B, j, none⟩) h.lt
  exact ⟨Nat.lt_of_lt_of_le h.lt hb.size, fun i hi => (q _).trans (h.at0 i hi), fun i hi => (q _).trans (h.at1 i hi), fun i hi => (q _).trans (h.at2 i hi)⟩

theorem Tab.new (W : World) (t : TypeId) (f0 f1 f2 f3 f4 f5 f6 f7 f8 f9 s0 s1 s2 s3 s4 s5 s6 s7 s8 s9 : Bool) : Tab (W.alloc (.cells #[.int .u16 1, .bool f0, .bool s0, .int .u16 2, .bool f1, .bool s1, .int .u16 4, .bool f2, .bool s2, .int .u16 8, .bool f3, .bool s3, .int .u16 16, .bool f4, .bool s4, .int .u16 32, .bool f5, .bool s5, .int .u16 64, .bool f6, .bool s6, .int .u16 128, .bool f7, .bool s7, .int .u16 256, .bool f8, .bool s8, .int .u16 512, .bool f9, .bool s9] t)) W.heap.size [f0, f1, f2, f3, f4, f5, f6, f7, f8, f9] [s0, s1, s2, s3, s4, s5, s6, s7, s8, s9] := by
  refine ⟨by simp, fun i hi => ?_, fun i hi => ?_, fun i hi => ?_⟩
  all_goals
    rw [World.cell?_alloc_at _ _ _ _ rfl]
    match i, hi with
    | 0, _ => rfl
    | 1, _ => rfl
    | 2, _ => rfl
    | 3, _ => rfl
    | 4, _ => rfl
    | 5, _ => rfl
    | 6, _ => rfl
    | 7, _ => rfl
    | 8, _ => rfl
    | 9, _ => rfl
    | k + 10, h => omega

set_option maxRecDepth 20000 in
set_option maxHeartbeats 40000000 in
theorem partsI (L : Lw) (a : Ak) (a0 a1 a2 b1 b2 b3 : Nat) (w : World) (hL : LwIn w a0 a1 a2 L) (h : AkIn w b1 b2 b3 a) :
    Calls Tryz.prog 65 #[.agg #[.slice (some ⟨a0, 0, none⟩) L.shapes.length L.shapes.length, .slice (some ⟨a1, 0, none⟩) L.mends.length L.mends.length, .slice (some ⟨a2, 0, none⟩) L.teams.length L.teams.length], .agg #[.string a.who, .int .i64 a.verb, .string a.kind, .string a.name, .string a.team, .slice (some ⟨b1, 0, none⟩) a.values.length a.values.length, .slice (some ⟨b2, 0, none⟩) a.holds.length a.holds.length, .int .i64 a.seen, .string a.hold, .string a.to_, .slice (some ⟨b3, 0, none⟩) a.rule.verbs.length a.rule.verbs.length, .string a.rule.kind, .string a.rule.team, .string a.rule.pre, .int .i64 a.number]] w fun e w' => (∃ n : Nat, e = .returned (.tuple #[.int .u16 ((acc (oksOf L a n) 10 : Nat) : Int), .int .u16 ((acc (setsOf a) 10 : Nat) : Int)]) ∧ (hasKind L.shapes a.kind = true → n = (L.shapes.getD (kindAt L.shapes a.kind) Shp.none).fields.length)) ∧ Below w.heap.size w w' := by
  obtain ⟨wa, hwa⟩ : ∃ wa, wa = (w.alloc (.cells #[.slice (some ⟨a0, 0, none⟩) L.shapes.length L.shapes.length, .slice (some ⟨a1, 0, none⟩) L.mends.length L.mends.length, .slice (some ⟨a2, 0, none⟩) L.teams.length L.teams.length] 40)).alloc (.cells #[.string a.who, .int .i64 a.verb, .string a.kind, .string a.name, .string a.team, .slice (some ⟨b1, 0, none⟩) a.values.length a.values.length, .slice (some ⟨b2, 0, none⟩) a.holds.length a.holds.length, .int .i64 a.seen, .string a.hold, .string a.to_, .slice (some ⟨b3, 0, none⟩) a.rule.verbs.length a.rule.verbs.length, .string a.rule.kind, .string a.rule.team, .string a.rule.pre, .int .i64 a.number] 44) := ⟨_, rfl⟩
  have HBa : Hid (Below w.heap.size w wa) := by show Below _ _ _; rw [hwa]; exact blw_alloc (blw_alloc (Below.refl _ _) _) _
  have HXa : Hid (BoxV wa w.heap.size #[.slice (some ⟨a0, 0, none⟩) L.shapes.length L.shapes.length, .slice (some ⟨a1, 0, none⟩) L.mends.length L.mends.length, .slice (some ⟨a2, 0, none⟩) L.teams.length L.teams.length] ∧ BoxV wa (w.heap.size + 1) #[.string a.who, .int .i64 a.verb, .string a.kind, .string a.name, .string a.team, .slice (some ⟨b1, 0, none⟩) a.values.length a.values.length, .slice (some ⟨b2, 0, none⟩) a.holds.length a.holds.length, .int .i64 a.seen, .string a.hold, .string a.to_, .slice (some ⟨b3, 0, none⟩) a.rule.verbs.length a.rule.verbs.length, .string a.rule.kind, .string a.rule.team, .string a.rule.pre, .int .i64 a.number]) := by show _ ∧ _; rw [hwa]; exact ⟨(BoxV.new' _ _ _ _ rfl).past _, BoxV.new' _ _ _ _ (by simp)⟩
  have HH : Hid (LwIn w a0 a1 a2 L ∧ AkIn w b1 b2 b3 a) := ⟨hL, h⟩
  clear hL h
  go_enter Tryz.func65, Tryz.ntmps65
  go_upto_region 1 with fail
  rw [← hwa]
  clear hwa
  have lz := HXa.out.1.lt
  have az := HXa.out.2.lt
  have l0 : wa.cell? ⟨w.heap.size, 0, none⟩ = some (.slice (some ⟨a0, 0, none⟩) L.shapes.length L.shapes.length) := HXa.out.1.at_ 0
  have x2 : wa.cell? ⟨w.heap.size + 1, 2, none⟩ = some (.string a.kind) := HXa.out.2.at_ 2
  go_wp2_with fail
  refine (shapeOf_any a0 L.shapes a.kind wa (HH.out.1.later HBa.out).s).mono ?_
  rintro e wb ⟨kd, fa, fn, fc, rfl, hso, hb⟩
  have HSO : Hid (ShapeOf L.shapes a.kind wa kd (.slice fa fn fc)) := hso
  have HBb : Hid (Below w.heap.size w wb) := blw_trans HBa.out hb
  have HXb : Hid (BoxV wb w.heap.size #[.slice (some ⟨a0, 0, none⟩) L.shapes.length L.shapes.length, .slice (some ⟨a1, 0, none⟩) L.mends.length L.mends.length, .slice (some ⟨a2, 0, none⟩) L.teams.length L.teams.length] ∧ BoxV wb (w.heap.size + 1) #[.string a.who, .int .i64 a.verb, .string a.kind, .string a.name, .string a.team, .slice (some ⟨b1, 0, none⟩) a.values.length a.values.length, .slice (some ⟨b2, 0, none⟩) a.holds.length a.holds.length, .int .i64 a.seen, .string a.hold, .string a.to_, .slice (some ⟨b3, 0, none⟩) a.rule.verbs.length a.rule.verbs.length, .string a.rule.kind, .string a.rule.team, .string a.rule.pre, .int .i64 a.number]) := ⟨HXa.out.1.later hb, HXa.out.2.later hb⟩
  clear hso hb lz az l0 x2 HXa HBa
  obtain ⟨wc, hwc⟩ : ∃ wc, wc = (wb.alloc (.cells #[.string kd, .slice fa fn fc] 99)).alloc (.cells #[.slice (some ⟨b3, 0, none⟩) a.rule.verbs.length a.rule.verbs.length, .string a.rule.kind, .string a.rule.team, .string a.rule.pre] 42) := ⟨_, rfl⟩
  obtain ⟨ms, hms⟩ : ∃ ms, ms = wb.heap.size := ⟨_, rfl⟩
  have hbc : Below wb.heap.size wb wc := by rw [hwc]; exact blw_alloc (blw_alloc (Below.refl _ _) _) _
  have HBc : Hid (Below w.heap.size w wc) := blw_trans HBb.out hbc
  have HXc : Hid (BoxV wc w.heap.size #[.slice (some ⟨a0, 0, none⟩) L.shapes.length L.shapes.length, .slice (some ⟨a1, 0, none⟩) L.mends.length L.mends.length, .slice (some ⟨a2, 0, none⟩) L.teams.length L.teams.length] ∧ BoxV wc (w.heap.size + 1) #[.string a.who, .int .i64 a.verb, .string a.kind, .string a.name, .string a.team, .slice (some ⟨b1, 0, none⟩) a.values.length a.values.length, .slice (some ⟨b2, 0, none⟩) a.holds.length a.holds.length, .int .i64 a.seen, .string a.hold, .string a.to_, .slice (some ⟨b3, 0, none⟩) a.rule.verbs.length a.rule.verbs.length, .string a.rule.kind, .string a.rule.team, .string a.rule.pre, .int .i64 a.number] ∧ BoxV wc ms #[.string kd, .slice fa fn fc] ∧ BoxV wc (ms + 1) #[.slice (some ⟨b3, 0, none⟩) a.rule.verbs.length a.rule.verbs.length, .string a.rule.kind, .string a.rule.team, .string a.rule.pre]) := by
    refine ⟨HXb.out.1.later hbc, HXb.out.2.later hbc, ?_, ?_⟩
    · rw [hwc, hms]; exact (BoxV.new' _ _ _ _ rfl).past _
    · rw [hwc, hms]; exact BoxV.new' _ _ _ _ (by simp)
  have az := HXb.out.2.lt
  have x10 : wb.cell? ⟨w.heap.size + 1, 10, none⟩ = some (.slice (some ⟨b3, 0, none⟩) a.rule.verbs.length a.rule.verbs.length) := HXb.out.2.at_ 10
  have x11 : wb.cell? ⟨w.heap.size + 1, 11, none⟩ = some (.string a.rule.kind) := HXb.out.2.at_ 11
  have x12 : wb.cell? ⟨w.heap.size + 1, 12, none⟩ = some (.string a.rule.team) := HXb.out.2.at_ 12
  have x13 : wb.cell? ⟨w.heap.size + 1, 13, none⟩ = some (.string a.rule.pre) := HXb.out.2.at_ 13
  go_upto_region 3 with fail
  rw [← hwc, ← hms]
  clear hwc hms hbc az x10 x11 x12 x13 HXb HBb
  have hNE := pst_some wc
  have Zl : ∀ px : Pst wc, w.heap.size < px.W.heap.size := fun px => px.size HXc.out.1.lt
  have Za : ∀ px : Pst wc, w.heap.size + 1 < px.W.heap.size := fun px => px.size HXc.out.2.1.lt
  have Zs : ∀ px : Pst wc, ms < px.W.heap.size := fun px => px.size HXc.out.2.2.1.lt
  have Zr : ∀ px : Pst wc, ms + 1 < px.W.heap.size := fun px => px.size HXc.out.2.2.2.lt
  have L2 : ∀ px : Pst wc, px.W.cell? ⟨w.heap.size, 2, none⟩ = some (.slice (some ⟨a2, 0, none⟩) L.teams.length L.teams.length) := fun px => px.cell (HXc.out.1.at_ 2) HXc.out.1.lt
  have S1 : ∀ px : Pst wc, px.W.cell? ⟨ms, 1, none⟩ = some (.slice fa fn fc) := fun px => px.cell (HXc.out.2.2.1.at_ 1) HXc.out.2.2.1.lt
  have A2 : ∀ px : Pst wc, px.W.cell? ⟨w.heap.size + 1, 2, none⟩ = some (.string a.kind) := fun px => px.cell (HXc.out.2.1.at_ 2) HXc.out.2.1.lt
  have A3 : ∀ px : Pst wc, px.W.cell? ⟨w.heap.size + 1, 3, none⟩ = some (.string a.name) := fun px => px.cell (HXc.out.2.1.at_ 3) HXc.out.2.1.lt
  have A4 : ∀ px : Pst wc, px.W.cell? ⟨w.heap.size + 1, 4, none⟩ = some (.string a.team) := fun px => px.cell (HXc.out.2.1.at_ 4) HXc.out.2.1.lt
  have A5 : ∀ px : Pst wc, px.W.cell? ⟨w.heap.size + 1, 5, none⟩ = some (.slice (some ⟨b1, 0, none⟩) a.values.length a.values.length) := fun px => px.cell (HXc.out.2.1.at_ 5) HXc.out.2.1.lt
  have A6 : ∀ px : Pst wc, px.W.cell? ⟨w.heap.size + 1, 6, none⟩ = some (.slice (some ⟨b2, 0, none⟩) a.holds.length a.holds.length) := fun px => px.cell (HXc.out.2.1.at_ 6) HXc.out.2.1.lt
  have A7 : ∀ px : Pst wc, px.W.cell? ⟨w.heap.size + 1, 7, none⟩ = some (.int .i64 a.seen) := fun px => px.cell (HXc.out.2.1.at_ 7) HXc.out.2.1.lt
  have A8 : ∀ px : Pst wc, px.W.cell? ⟨w.heap.size + 1, 8, none⟩ = some (.string a.hold) := fun px => px.cell (HXc.out.2.1.at_ 8) HXc.out.2.1.lt
  have A9 : ∀ px : Pst wc, px.W.cell? ⟨w.heap.size + 1, 9, none⟩ = some (.string a.to_) := fun px => px.cell (HXc.out.2.1.at_ 9) HXc.out.2.1.lt
  have A14 : ∀ px : Pst wc, px.W.cell? ⟨w.heap.size + 1, 14, none⟩ = some (.int .i64 a.number) := fun px => px.cell (HXc.out.2.1.at_ 14) HXc.out.2.1.lt
  have R0 : ∀ px : Pst wc, px.W.cell? ⟨ms + 1, 0, none⟩ = some (.slice (some ⟨b3, 0, none⟩) a.rule.verbs.length a.rule.verbs.length) := fun px => px.cell (HXc.out.2.2.2.at_ 0) HXc.out.2.2.2.lt
  have R1 : ∀ px : Pst wc, px.W.cell? ⟨ms + 1, 1, none⟩ = some (.string a.rule.kind) := fun px => px.cell (HXc.out.2.2.2.at_ 1) HXc.out.2.2.2.lt
  have R2 : ∀ px : Pst wc, px.W.cell? ⟨ms + 1, 2, none⟩ = some (.string a.rule.team) := fun px => px.cell (HXc.out.2.2.2.at_ 2) HXc.out.2.2.2.lt
  have R3 : ∀ px : Pst wc, px.W.cell? ⟨ms + 1, 3, none⟩ = some (.string a.rule.pre) := fun px => px.cell (HXc.out.2.2.2.at_ 3) HXc.out.2.2.2.lt
  obtain ⟨z1, z2, z3, z4, z5, z6, z7, z8⟩ := HH.out.2.sized
  have HZ : Hid (a.name.size ≤ maxLen ∧ a.hold.size ≤ maxLen ∧ a.to_.size ≤ maxLen ∧ a.rule.sized) := ⟨z3, z5, z6, z8⟩
  clear z1 z2 z3 z4 z5 z6 z7 z8
  have HN1 : Hid (∀ W, Below wc.heap.size wc W → Calls Tryz.prog 62 #[.string a.name] W fun e w' => e = .returned (.bool (Pl.nameOk a.name)) ∧ Below wc.heap.size wc w') := by
    intro W hW
    refine (isName_any a.name W HZ.out.1).mono ?_
    rintro e w' ⟨rfl, rfl⟩
    exact ⟨rfl, hW⟩
  have HN2 : Hid (∀ W, Below wc.heap.size wc W → Calls Tryz.prog 62 #[.string a.hold] W fun e w' => e = .returned (.bool (Pl.nameOk a.hold)) ∧ Below wc.heap.size wc w') := by
    intro W hW
    refine (isName_any a.hold W HZ.out.2.1).mono ?_
    rintro e w' ⟨rfl, rfl⟩
    exact ⟨rfl, hW⟩
  have HN3 : Hid (∀ W, Below wc.heap.size wc W → Calls Tryz.prog 62 #[.string a.to_] W fun e w' => e = .returned (.bool (Pl.nameOk a.to_)) ∧ Below wc.heap.size wc w') := by
    intro W hW
    refine (isName_any a.to_ W HZ.out.2.2.1).mono ?_
    rintro e w' ⟨rfl, rfl⟩
    exact ⟨rfl, hW⟩
  have HTm : Hid (∀ W, Below wc.heap.size wc W → Calls Tryz.prog 87 #[.slice (some ⟨a2, 0, none⟩) L.teams.length L.teams.length, .string a.team] W fun e w' => e = .returned (.bool (isTeam L.teams a.team)) ∧ Below wc.heap.size wc w') := by
    intro W hW
    refine (gateIsTeam a2 L.teams a.team W (HH.out.1.later (blw_trans HBc.out hW)).t).mono ?_
    rintro e w' ⟨rfl, hb⟩
    exact ⟨rfl, blw_trans hW hb⟩
  have HAs : Hid (∀ W, Below wc.heap.size wc W → Calls Tryz.prog 90 #[.slice (some ⟨b2, 0, none⟩) a.holds.length a.holds.length] W fun e w' => e = .returned (.bool (Pl.asc a.holds)) ∧ Below wc.heap.size wc w') := by
    intro W hW
    refine (asc_row b2 a.holds.length a.holds W HH.out.2.t2.len HH.out.2.t2.sz (fun i hi => by rw [Nat.zero_add]; exact (HH.out.2.later (blw_trans HBc.out hW)).t2.at_ i hi)).mono ?_
    rintro e w' ⟨rfl, rfl⟩
    exact ⟨rfl, hW⟩
  have HRu : Hid (∀ W, Below wc.heap.size wc W → Calls Tryz.prog 91 #[.agg #[.slice (some ⟨b3, 0, none⟩) a.rule.verbs.length a.rule.verbs.length, .string a.rule.kind, .string a.rule.team, .string a.rule.pre]] W fun e w' => e = .returned (.bool (ruleOk a.rule)) ∧ Below wc.heap.size wc w') := by
    intro W hW
    refine (gateRuleOk b3 a.rule W (HH.out.2.later (blw_trans HBc.out hW)).n HZ.out.2.2.2).mono ?_
    rintro e w' ⟨rfl, hb⟩
    exact ⟨rfl, blw_trans hW hb⟩
  go_cut [9] (fun sA wx => ∃ B, sA = .slice (some ⟨B, 0, none⟩) 10 10 ∧ Tab wx B (oksOf L a fn) (setsOf a) ∧ Below wc.heap.size wc wx)
  case first =>
    have rs : (decide ((0 : Int) < (a.rule.verbs.length : Int)) = true ∧ ruleSet a.rule = true) ∨ (decide ((0 : Int) < (a.rule.verbs.length : Int)) = false ∧ a.rule.kind.toList.isEmpty = false ∧ ruleSet a.rule = true) ∨ (decide ((0 : Int) < (a.rule.verbs.length : Int)) = false ∧ a.rule.kind.toList.isEmpty = true ∧ a.rule.team.toList.isEmpty = false ∧ ruleSet a.rule = true) ∨ (decide ((0 : Int) < (a.rule.verbs.length : Int)) = false ∧ a.rule.kind.toList.isEmpty = true ∧ a.rule.team.toList.isEmpty = true ∧ a.rule.pre.toList.isEmpty = false ∧ ruleSet a.rule = true) ∨ (decide ((0 : Int) < (a.rule.verbs.length : Int)) = false ∧ a.rule.kind.toList.isEmpty = true ∧ a.rule.team.toList.isEmpty = true ∧ a.rule.pre.toList.isEmpty = true ∧ ruleSet a.rule = false) := by
      have e : decide ((0 : Int) < (a.rule.verbs.length : Int)) = decide (0 < a.rule.verbs.length) := by simp
      rw [e]
      unfold ruleSet
      cases decide (0 < a.rule.verbs.length) <;> cases a.rule.kind.toList.isEmpty <;> cases a.rule.team.toList.isEmpty <;> cases a.rule.pre.toList.isEmpty <;> simp
    have hs : (decide ((a.holds.length : Int) ≤ 3) = true ∧ decide (a.holds.length ≤ 3) = true) ∨ (decide ((a.holds.length : Int) ≤ 3) = false ∧ decide (a.holds.length ≤ 3) = false) := by
      by_cases c : a.holds.length ≤ 3
      · exact Or.inl ⟨decide_eq_true (by omega), decide_eq_true c⟩
      · exact Or.inr ⟨decide_eq_false (by omega), decide_eq_false c⟩
    rcases hs with ⟨c4, d4⟩ | ⟨c4, d4⟩ <;> rcases rs with ⟨c8, d8⟩ | ⟨c8, k8, d8⟩ | ⟨c8, k8, t8, d8⟩ | ⟨c8, k8, t8, p8, d8⟩ | ⟨c8, k8, t8, p8, d8⟩
    all_goals
      have HF : Hid (oksOf L a fn = _) := (show oksOf L a fn = [hasKind L.shapes a.kind, Pl.nameOk a.name, isTeam L.teams a.team, ((a.values.length : Int) == (fn : Int)), decide (a.holds.length ≤ 3) && Pl.asc a.holds, decide (0 ≤ a.seen), Pl.nameOk a.hold, Pl.nameOk a.to_, ruleOk a.rule, decide (1 ≤ a.number)] from rfl).trans (by rw [d4])
      have HG : Hid (setsOf a = _) := (show setsOf a = [!a.kind.toList.isEmpty, !a.name.toList.isEmpty, !a.team.toList.isEmpty, decide (0 < a.values.length), decide (0 < a.holds.length), (a.seen != 0), !a.hold.toList.isEmpty, !a.to_.toList.isEmpty, ruleSet a.rule, (a.number != 0)] from rfl).trans (by rw [d8])
      have n8 : decide (0 < a.rule.verbs.length) = _ := (show decide (0 < a.rule.verbs.length) = decide ((0 : Int) < (a.rule.verbs.length : Int)) by simp).trans c8
      clear d8
      refine region_qcut wc (Below.refl _ _) 97 (by kernel_rfl) (lexB_of (by kernel_rfl) (by kernel_rfl) (by kernel_rfl)) (by kernel_rfl) (by kernel_rfl) (by kernel_rfl) (by kernel_rfl) ?_
      simp only [List.append_eq, List.cons_append, List.nil_append, List.take_succ_cons, List.take_zero, List.drop_succ_cons, List.drop_zero]
      repeat (first
        | go_big_quiet_skip
        | (go_big_quiet_want; go_big_quiet_op; first | go_big_quiet_on | (apply Exists.intro; refine ⟨fun px => ?_, ?_⟩; (focus (first
          | (go_at_call 62; (first | (with_reducible refine (HN1.out _ px.ok).mono ?_) | (with_reducible refine (HN2.out _ px.ok).mono ?_) | (with_reducible refine (HN3.out _ px.ok).mono ?_)); rintro e w' ⟨he, hb⟩; exact ⟨he, ⟨w', hb⟩, rfl⟩)
          | (go_at_call 87; (first | (with_reducible refine (HTm.out _ px.ok).mono ?_)); rintro e w' ⟨he, hb⟩; exact ⟨he, ⟨w', hb⟩, rfl⟩)
          | (go_at_call 90; (first | (with_reducible refine (HAs.out _ px.ok).mono ?_)); rintro e w' ⟨he, hb⟩; exact ⟨he, ⟨w', hb⟩, rfl⟩)
          | (go_at_call 91; (first | (with_reducible refine (HRu.out _ px.ok).mono ?_)); rintro e w' ⟨he, hb⟩; exact ⟨he, ⟨w', hb⟩, rfl⟩))); go_big_quiet_on)))
      refine wpQuiet_nil ?_
      intro _ hw'
      obtain ⟨px, hw''⟩ := hw'
      subst hw''
      go_wp2_with fail
      go_meet
      refine ⟨_, rfl, ?_, blw_trans px.ok (blw_alloc (Below.refl _ _) _)⟩
      rw [HF.out, HG.out]
      exact Tab.new px.W _ _ _ _ _ _ _ _ _ _ _ _ _ _ _ _ _ _ _ _ _
  case rest =>
  obtain ⟨B, rfl, hT, hb⟩ := hcut
  rename World => wd
  have HT : Hid (Tab wd B (oksOf L a fn) (setsOf a)) := hT
  have HBd : Hid (Below w.heap.size w wd) := blw_trans HBc.out hb
  have HNF : Hid (hasKind L.shapes a.kind = true → fn = (L.shapes.getD (kindAt L.shapes a.kind) Shp.none).fields.length) := fun hk => by
    obtain ⟨_, b, e, _⟩ := HSO.out hk
    injection e
  clear hT hb hNE Zl Za Zs Zr L2 S1 A2 A3 A4 A5 A6 A7 A8 A9 A14 R0 R1 R2 R3 HN1 HN2 HN3 HTm HAs HRu HZ HXc HSO HBc
  obtain ⟨F, hF⟩ : ∃ F, F = oksOf L a fn := ⟨_, rfl⟩
  obtain ⟨S, hS⟩ : ∃ S, S = setsOf a := ⟨_, rfl⟩
  rw [← hF, ← hS] at HT
  have HFS : Hid (F = oksOf L a fn ∧ S = setsOf a) := ⟨hF, hS⟩
  clear hF hS
  go_wp2
  go_loopw [4, 5, 122] (fun x y i wr => ∃ k : Nat, k ≤ 10 ∧ i = .int .i64 k ∧ x = .int .u16 ((acc F k : Nat) : Int) ∧ y = .int .u16 ((acc S k : Nat) : Int) ∧ Below wd.heap.size wd wr) (fun _ _ i _ => 10 - (intOf i).toNat)
  case atStart => exact ⟨0, by omega, rfl, rfl, rfl, Below.refl _ _⟩
  case round =>
    obtain ⟨k, hk, rfl, rfl, rfl, hW⟩ := hrel
    have HW : Hid (Below wd.heap.size wd wr) := hW
    by_cases hlt : k < 10
    · have c0 := (HT.out.later hW).at0 k hlt
      have c1 := (HT.out.later hW).at1 k hlt
      have c2 := (HT.out.later hW).at2 k hlt
      have hz := (HT.out.later hW).lt
      obtain ⟨p, hp⟩ : ∃ p : Nat, p = 2 ^ k := ⟨_, rfl⟩
      obtain ⟨x, hx⟩ : ∃ x : Nat, x = acc F k := ⟨_, rfl⟩
      obtain ⟨y, hy⟩ : ∃ y : Nat, y = acc S k := ⟨_, rfl⟩
      obtain ⟨f, hf⟩ : ∃ f, f = F.getD k false := ⟨_, rfl⟩
      obtain ⟨s, hs⟩ : ∃ s, s = S.getD k false := ⟨_, rfl⟩
      have HX : Hid ((f = true → bits BinOp.or IntKind.u16 (x : Int) (p : Int) = ((acc F (k + 1) : Nat) : Int)) ∧ (f = false → x = acc F (k + 1)) ∧ (s = true → bits BinOp.or IntKind.u16 (y : Int) (p : Int) = ((acc S (k + 1) : Nat) : Int)) ∧ (s = false → y = acc S (k + 1))) := by
        refine ⟨fun h => ?_, fun h => ?_, fun h => ?_, fun h => ?_⟩
        · rw [hx, hp]; exact acc_or F k hlt (by rw [← hf]; exact h)
        · rw [hx, acc, if_neg (by rw [← hf, h]; simp)]
        · rw [hy, hp]; exact acc_or S k hlt (by rw [← hs]; exact h)
        · rw [hy, acc, if_neg (by rw [← hs, h]; simp)]
      rw [← hp] at c0
      rw [← hf] at c1
      rw [← hs] at c2
      rw [← hx, ← hy]
      clear hp hx hy hf hs hW
      cases f <;> cases s
      · have HE : Hid (x = acc F (k + 1) ∧ y = acc S (k + 1)) := ⟨HX.out.2.1 rfl, HX.out.2.2.2 rfl⟩
        clear HX
        go_wp2
        go_roundw
        case rel => exact ⟨k + 1, by omega, by go_num, by rw [HE.out.1], by rw [HE.out.2], blw_alloc HW.out _⟩
        case measure => simp [intOf]; omega
      · have e2 := HX.out.2.2.1 rfl
        have HE : Hid (x = acc F (k + 1)) := HX.out.2.1 rfl
        clear HX
        go_wp2
        go_roundw
        case rel => exact ⟨k + 1, by omega, by go_num, by rw [HE.out], by first | rfl | rw [e2], blw_alloc HW.out _⟩
        case measure => simp [intOf]; omega
      · have e1 := HX.out.1 rfl
        have HE : Hid (y = acc S (k + 1)) := HX.out.2.2.2 rfl
        clear HX
        go_wp2
        go_roundw
        case rel => exact ⟨k + 1, by omega, by go_num, by first | rfl | rw [e1], by rw [HE.out], blw_alloc HW.out _⟩
        case measure => simp [intOf]; omega
      · have e1 := HX.out.1 rfl
        have e2 := HX.out.2.2.1 rfl
        clear HX
        go_wp2
        go_roundw
        case rel => exact ⟨k + 1, by omega, by go_num, by first | rfl | rw [e1], by first | rfl | rw [e2], blw_alloc HW.out _⟩
        case measure => simp [intOf]; omega
    · obtain rfl : k = 10 := by omega
      go_wp2
      go_ret2
      refine ⟨⟨fn, ?_, HNF.out⟩, blw_trans HBd.out HW.out⟩
      rw [← HFS.out.1, ← HFS.out.2]
      rfl

end Go.Proofs.YtkjkklcflpchlaaGreat
