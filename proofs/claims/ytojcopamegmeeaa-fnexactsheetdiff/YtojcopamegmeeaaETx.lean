/-
  Rows of texts of one's own: grown, read as data.
-/
import Derived.Test.YtojcopamegmeeaaProg
import Derived.RowKit
import Derived.WalkKit
import Derived.WalkSpells
import Derived.WalkLawsBesides
import Derived.Laws.IdiomStrings
import Derived.Deep.RegionHeldLaw
import Derived.Test.YtojcopamegmeeaaRel
import Derived.Test.YtojcopamegmeeaaEPl
import Derived.Test.YtojcopamegmeeaaUC
import Derived.Test.YtojcopamegmeeaaUL
namespace Go.Proofs.Ytojcopamegmeeaa
open Go.RowKit Go.Deep
namespace RY

/-- What the operation j has yielded. -/
def valOf (l : List Oper) (a : Act) (j : Nat) : Value := match l[j]? with
  | some o => (match o.dst with
    | some k => a.eval (.tmp k)
    | none => undef)
  | none => undef
theorem valOf_at {l : List Oper} {a : Act} {j k : Nat} {o : Oper} (hj : l[j]? = some o) (hd : o.dst = some k) : valOf l a j = a.eval (.tmp k) := by
  unfold valOf; rw [hj]; simp only [hd]
theorem valOf_put {l : List Oper} {a : Act} {i q : Nat} {o : Oper} (hap : apartB l = true) (ho : l[i]? = some o) (hd : o.dst = some q) (hq : q < a.tmps.size) (u : Value) : valOf l (a.put (some q) u) = fun j => if j = i then u else valOf l a j := by
  funext j
  by_cases e : j = i
  · subst e
    rw [if_pos rfl, valOf_at ho hd, put_same _ _ _ hq]
  · rw [if_neg e]
    cases h : l[j]? with
    | none => unfold valOf; rw [h]
    | some o' =>
      cases h' : o'.dst with
      | none => unfold valOf; rw [h]; simp only [h']
      | some k =>
        rw [valOf_at h h', valOf_at h h', put_else _ _ _ _ (fun e2 => e (apart_spec hap h ho (by rw [h', ← e2]) hd))]
theorem up_set {L : Array Bool} {i : Nat} (h : L.getD i true = false) : (fun j => (L.setIfInBounds i true).getD j false) = fun j => (j == i) || L.getD j false := by
  funext j
  by_cases e : j = i
  · subst e; rw [set_here h]; simp
  · have : (L.setIfInBounds i true).getD j false = L.getD j false := by
      simp only [Array.getD_eq_getD_getElem?]
      rw [Array.getElem?_setIfInBounds_ne (fun e2 => e e2.symm)]
    rw [this]; simp [e]

theorem region_T {P : Program} {id : Nat} {Q : Exit → Act → World → Prop} {a0 : Act} {w : World} {l : List Oper} (V : Nat → Value → Prop) (T : (Nat → Bool) → (Nat → Value) → World → Prop) (hm : P.follows .mixedOrders = true)
    (hasc : asc .any l.toArray = true) (hap : apartB l = true) (hpl : plainB l a0.tmps.size = true) (h0 : ∀ vals, T (fun _ => false) vals w.drew)
    (hop : ∀ (up : Nat → Bool) (vals : Nat → Value) (i : Nat) (o : Oper), l[i]? = some o → up i = false → (∀ (j : Nat) (o' : Oper) (e : _), l[j]? = some o' → e ∈ o'.after → Region.binds .any e = true → up j = true → up e.on = true) →
      ∀ (a : Act) (W : World), (∀ k, noDst l k = true → a.eval (.tmp k) = a0.eval (.tmp k)) →
      (∀ (j : Nat) (o' : Oper) (k : Nat), l[j]? = some o' → o'.dst = some k → (∃ e ∈ o.after, e.on = j ∧ Region.binds .any e = true) → up j = true ∧ a.eval (.tmp k) = vals j ∧ V j (vals j)) → T up vals W →
      (∃ u W', (execOp a.eval o).run P W = .ok (.value u) W' ∧ o.dst.isSome = true ∧ V i u ∧ T (fun j => (j == i) || up j) (fun j => if j = i then u else vals j) W') ∨
      (∃ W', (execOp a.eval o).run P W = .ok .skip W' ∧ o.dst = none ∧ T (fun j => (j == i) || up j) vals W'))
    (hend : ∀ (up : Nat → Bool) (vals vs : Nat → Value) (W : World), (∀ i, i < l.length → up i = true) → (∀ (i : Nat) (o : Oper) (k : Nat), l[i]? = some o → o.dst = some k → vs k = vals i ∧ V i (vals i)) → T up vals W → Q .normal (putAll l a0 vs) W) :
    (Code.region id l.toArray true).wp P Q a0 w := by
  refine wp_region_any hm ?_
  refine wpAny_inv (fun L a W => RInv l a0 (fun _ _ => True) (fun j u _ => V j u) L a W ∧ T (fun j => L.getD j false) (valOf l a) W) ?_ ?_ _ _ _ _ ?_ (Closed.none _ (rep_none _)) ?_
  · rintro L a W i ⟨h, hT⟩ hc hi
    obtain ⟨hi1, o, ho0, hall⟩ := mem_ready.1 hi
    have ho : l[i]? = some o := by simpa using ho0
    have hg := (plain_spec hpl ho).1
    rcases hop (fun j => L.getD j false) (valOf l a) i o ho (getD_flip hi1) (fun j o' e hj he hb hu => hc j o' e (by simpa using hj) he hb hu) a W (fun k hk => h.keep hk)
      (fun j o' k hj hk ⟨e, he, hej, hb⟩ => by
        have hu : L.getD j false = true := by rw [← hej]; exact hall e he hb
        exact ⟨hu, (valOf_at hj hk).symm, by rw [valOf_at hj hk]; exact h.new j o' k hj hk hu⟩) hT with ⟨u, W', hr, hd, hV, hT'⟩ | ⟨W', hr, hd, hT'⟩
    · refine wpOp_value ho0 hg hr ⟨h.step hap hpl ho hi1 trivial (fun _ _ x => x) (fun _ => hV), ?_⟩
      obtain ⟨q, hq⟩ := Option.isSome_iff_exists.1 hd
      rw [up_set hi1, hq, valOf_put hap ho hq (by rw [h.sz]; exact (plain_spec hpl ho).2 q hq)]
      exact hT'
    · refine wpOp_skip ho0 hg hr ⟨h.step hap hpl ho hi1 trivial (fun _ _ x => x) (fun hs => by rw [hd] at hs; cases hs), ?_⟩
      rw [up_set hi1, hd, put_none]
      exact hT'
  · rintro L a W ⟨h, hT⟩ hr
    have hall : ∀ i, i < l.length → L.getD i false = true := fun i hi => all_up hr hasc (by simpa using h.len) i (by simpa using hi)
    have lt : ∀ {i : Nat} {o : Oper}, l[i]? = some o → i < l.length := fun hi => (List.getElem?_eq_some_iff.1 hi).1
    have e : a = putAll l a0 (fun k => a.eval (.tmp k)) := by
      have hs : ∀ o ∈ l, ∀ q, o.dst = some q → q < a0.tmps.size := fun o ho q hq => by
        obtain ⟨i, hi⟩ := List.getElem?_of_mem ho
        exact (plain_spec hpl hi).2 q hq
      refine act_ext (by rw [putAll_defers]; exact h.df) (by rw [putAll_size]; exact h.sz) fun k => ?_
      rw [putAll_eval l a0 _ k hs]
      by_cases hk : ∃ o ∈ l, o.dst = some k
      · rw [if_pos hk]
      · rw [if_neg hk]
        refine h.old k fun i o hi hd => absurd ⟨o, List.mem_of_getElem? hi, hd⟩ hk
    have := hend (fun j => L.getD j false) (valOf l a) (fun k => a.eval (.tmp k)) W hall (fun i o k hi hd => ⟨(valOf_at hi hd).symm, by rw [valOf_at hi hd]; exact h.new i o k hi hd (hall i (lt hi))⟩) hT
    rw [← e] at this
    exact this
  · refine ⟨⟨by simp, trivial, rfl, rfl, fun _ _ => rfl, fun i o k hi _ hl => ?_⟩, ?_⟩
    · rw [rep_none] at hl; cases hl
    · have : (fun j => (Array.replicate l.toArray.size false).getD j false) = fun _ => false := by funext j; exact rep_none _ _
      rw [this]
      exact h0 _
  · unfold left
    exact Nat.le_trans List.countP_le_length (by simp)
end RY

end Go.Proofs.Ytojcopamegmeeaa

namespace Go.Proofs.Ytojcopamegmeeaa
open Go.RowKit Go.Deep

namespace RY
theorem region_TO {P : Program} {id : Nat} {Q : Exit → Act → World → Prop} {a0 : Act} {w : World} {l : List Oper} (V : Nat → Value → Prop) (T : (Nat → Bool) → (Nat → Value) → World → Prop) (hm : P.follows .mixedOrders = true)
    (hasc : asc .any l.toArray = true) (hap : apartB l = true) (hpl : plainB l a0.tmps.size = true) (h0 : ∀ vals, T (fun _ => false) vals w.drew)
    (hop : ∀ (up : Nat → Bool) (vals : Nat → Value) (i : Nat) (o : Oper), l[i]? = some o → up i = false → (∀ (j : Nat) (o' : Oper) (e : _), l[j]? = some o' → e ∈ o'.after → Region.binds .any e = true → up j = true → up e.on = true) →
      ∀ (a : Act) (W : World), (∀ k, (∀ (j : Nat) (o' : Oper), l[j]? = some o' → o'.dst = some k → up j = false) → a.eval (.tmp k) = a0.eval (.tmp k)) →
      (∀ (j : Nat) (o' : Oper) (k : Nat), l[j]? = some o' → o'.dst = some k → (∃ e ∈ o.after, e.on = j ∧ Region.binds .any e = true) → up j = true ∧ a.eval (.tmp k) = vals j ∧ V j (vals j)) → T up vals W →
      (∃ u W', (execOp a.eval o).run P W = .ok (.value u) W' ∧ o.dst.isSome = true ∧ V i u ∧ T (fun j => (j == i) || up j) (fun j => if j = i then u else vals j) W') ∨
      (∃ W', (execOp a.eval o).run P W = .ok .skip W' ∧ o.dst = none ∧ T (fun j => (j == i) || up j) vals W') ∨
      (∃ f args, (execOp a.eval o).run P W = .ok (.enter f args) W ∧ o.dst.isSome = true ∧ Calls P f args W fun e W' => ∃ u, e = .returned u ∧ V i u ∧ T (fun j => (j == i) || up j) (fun j => if j = i then u else vals j) W'))
    (hend : ∀ (up : Nat → Bool) (vals vs : Nat → Value) (W : World), (∀ i, i < l.length → up i = true) → (∀ (i : Nat) (o : Oper) (k : Nat), l[i]? = some o → o.dst = some k → vs k = vals i ∧ V i (vals i)) → T up vals W → Q .normal (putAll l a0 vs) W) :
    (Code.region id l.toArray true).wp P Q a0 w := by
  refine wp_region_any hm ?_
  refine wpAny_inv (fun L a W => RInv l a0 (fun _ _ => True) (fun j u _ => V j u) L a W ∧ T (fun j => L.getD j false) (valOf l a) W) ?_ ?_ _ _ _ _ ?_ (Closed.none _ (rep_none _)) ?_
  · rintro L a W i ⟨h, hT⟩ hc hi
    obtain ⟨hi1, o, ho0, hall⟩ := mem_ready.1 hi
    have ho : l[i]? = some o := by simpa using ho0
    have hg := (plain_spec hpl ho).1
    rcases hop (fun j => L.getD j false) (valOf l a) i o ho (getD_flip hi1) (fun j o' e hj he hb hu => hc j o' e (by simpa using hj) he hb hu) a W (fun k hk => h.old k hk)
      (fun j o' k hj hk ⟨e, he, hej, hb⟩ => by
        have hu : L.getD j false = true := by rw [← hej]; exact hall e he hb
        exact ⟨hu, (valOf_at hj hk).symm, by rw [valOf_at hj hk]; exact h.new j o' k hj hk hu⟩) hT with ⟨u, W', hr, hd, hV, hT'⟩ | ⟨W', hr, hd, hT'⟩ | ⟨f, args, hr, hd, hcl⟩
    · refine wpOp_value ho0 hg hr ⟨h.step hap hpl ho hi1 trivial (fun _ _ x => x) (fun _ => hV), ?_⟩
      obtain ⟨q, hq⟩ := Option.isSome_iff_exists.1 hd
      rw [up_set hi1, hq, valOf_put hap ho hq (by rw [h.sz]; exact (plain_spec hpl ho).2 q hq)]
      exact hT'
    · refine wpOp_skip ho0 hg hr ⟨h.step hap hpl ho hi1 trivial (fun _ _ x => x) (fun hs => by rw [hd] at hs; cases hs), ?_⟩
      rw [up_set hi1, hd, put_none]
      exact hT'
    · refine wpOp_enter ho0 hg hr (hcl.mono ?_)
      rintro e W' ⟨u, rfl, hV, hT'⟩
      refine ⟨u, rfl, h.step hap hpl ho hi1 trivial (fun _ _ x => x) (fun _ => hV), ?_⟩
      obtain ⟨q, hq⟩ := Option.isSome_iff_exists.1 hd
      rw [up_set hi1, hq, valOf_put hap ho hq (by rw [h.sz]; exact (plain_spec hpl ho).2 q hq)]
      exact hT'
  · rintro L a W ⟨h, hT⟩ hr
    have hall : ∀ i, i < l.length → L.getD i false = true := fun i hi => all_up hr hasc (by simpa using h.len) i (by simpa using hi)
    have lt : ∀ {i : Nat} {o : Oper}, l[i]? = some o → i < l.length := fun hi => (List.getElem?_eq_some_iff.1 hi).1
    have e : a = putAll l a0 (fun k => a.eval (.tmp k)) := by
      have hs : ∀ o ∈ l, ∀ q, o.dst = some q → q < a0.tmps.size := fun o ho q hq => by
        obtain ⟨i, hi⟩ := List.getElem?_of_mem ho
        exact (plain_spec hpl hi).2 q hq
      refine act_ext (by rw [putAll_defers]; exact h.df) (by rw [putAll_size]; exact h.sz) fun k => ?_
      rw [putAll_eval l a0 _ k hs]
      by_cases hk : ∃ o ∈ l, o.dst = some k
      · rw [if_pos hk]
      · rw [if_neg hk]
        refine h.old k fun i o hi hd => absurd ⟨o, List.mem_of_getElem? hi, hd⟩ hk
    have := hend (fun j => L.getD j false) (valOf l a) (fun k => a.eval (.tmp k)) W hall (fun i o k hi hd => ⟨(valOf_at hi hd).symm, by rw [valOf_at hi hd]; exact h.new i o k hi hd (hall i (lt hi))⟩) hT
    rw [← e] at this
    exact this
  · refine ⟨⟨by simp, trivial, rfl, rfl, fun _ _ => rfl, fun i o k hi _ hl => ?_⟩, ?_⟩
    · rw [rep_none] at hl; cases hl
    · have : (fun j => (Array.replicate l.toArray.size false).getD j false) = fun _ => false := by funext j; exact rep_none _ _
      rw [this]
      exact h0 _
  · unfold left
    exact Nat.le_trans List.countP_le_length (by simp)
end RY

end Go.Proofs.Ytojcopamegmeeaa

namespace Go.Proofs.Ytojcopamegmeeaa
open Go.RowKit Go.Deep
namespace RY

/-- What operations wait for, on and on. -/
def clo (l : List Oper) : Nat → List Nat → List Nat
  | 0, S => S
  | f + 1, S => clo l f ((S ++ S.flatMap fun i => match l[i]? with
    | some o => (o.after.toList.filter fun e => Region.binds .any e).map (·.on)
    | none => []).eraseDups)
theorem clo_up {l : List Oper} {up : Nat → Bool} (hcl : ∀ (j : Nat) (o' : Oper) (e : _), l[j]? = some o' → e ∈ o'.after → Region.binds .any e = true → up j = true → up e.on = true) : ∀ (f : Nat) (S : List Nat), (∀ i ∈ S, up i = true) → ∀ i ∈ clo l f S, up i = true
  | 0, _, h => h
  | f + 1, S, h => by
    rw [clo]
    refine clo_up hcl f _ fun i hi => ?_
    rw [List.mem_eraseDups] at hi
    rcases List.mem_append.1 hi with hi | hi
    · exact h i hi
    · obtain ⟨j, hj, hi⟩ := List.mem_flatMap.1 hi
      cases ho : l[j]? with
      | none => rw [ho] at hi; cases hi
      | some o =>
        rw [ho] at hi
        obtain ⟨e, he, rfl⟩ := List.mem_map.1 hi
        obtain ⟨he1, he2⟩ := List.mem_filter.1 he
        exact hcl j o e ho (by simpa using he1) he2 (h j hj)

/-- The slot k is written at n at the earliest. -/
def lateB (l : List Oper) (k n : Nat) : Bool := (List.range l.length).all fun j => match l[j]? with
  | some o => !(o.dst == some k) || decide (n ≤ j)
  | none => true
theorem late_spec {l : List Oper} {k n : Nat} (h : lateB l k n = true) : ∀ (j : Nat) (o' : Oper), l[j]? = some o' → o'.dst = some k → n ≤ j := fun j o' hj hd => by
  unfold lateB at h
  rw [List.all_eq_true] at h
  have := h j (List.mem_range.2 (List.getElem?_eq_some_iff.1 hj).1)
  rw [hj] at this
  simpa [hd] using this

theorem region_fin {P : Program} {id : Nat} {Q : Exit → Act → World → Prop} {a0 : Act} {w : World} {l : List Oper} (v : World) (hv : Below v.heap.size v w) (V : Nat → Value → World → Prop) (hVm : ∀ j u W W', Below W.heap.size W W' → V j u W → V j u W') (K : Value → World → Prop) (n fuel kL kA : Nat)
    (hm : P.follows .mixedOrders = true) (hasc : asc .any l.toArray = true) (hap : apartB l = true) (hpl : plainB l a0.tmps.size = true)
    (hclo : ((List.range n).all fun i => (clo l fuel [n]).contains i) = true) (hlen : l.length = n + 2) (hds : (l.all fun o => o.dst.isSome) = true)
    (oL oA : Oper) (hL : l[n]? = some oL) (hLd : oL.dst = some kL) (hA : l[n + 1]? = some oA) (hAd : oA.dst = some kA) (hAo : oA.op = .assign (.tmp kL)) (hAw : waits l (n + 1) n = true)
    (hop : ∀ (i : Nat) (o : Oper), l[i]? = some o → i < n → ∀ (a : Act) (W : World), Below v.heap.size v W → (∀ k, (∀ (j : Nat) (o' : Oper), l[j]? = some o' → o'.dst = some k → n ≤ j) → a.eval (.tmp k) = a0.eval (.tmp k)) →
      (∀ (j : Nat) (o' : Oper) (k : Nat), l[j]? = some o' → o'.dst = some k → (∃ e ∈ o.after, e.on = j ∧ Region.binds .any e = true) → j < n → V j (a.eval (.tmp k)) W) →
      ∃ u W', (execOp a.eval o).run P W = .ok (.value u) W' ∧ Below W.heap.size W W' ∧ V i u W')
    (hfin : ∀ (a : Act) (W : World), Below v.heap.size v W → (∀ k, (∀ (j : Nat) (o' : Oper), l[j]? = some o' → o'.dst = some k → n ≤ j) → a.eval (.tmp k) = a0.eval (.tmp k)) →
      (∀ (j : Nat) (o' : Oper) (k : Nat), l[j]? = some o' → o'.dst = some k → (∃ e ∈ oL.after, e.on = j ∧ Region.binds .any e = true) → j < n → V j (a.eval (.tmp k)) W) →
      ∃ u W', (execOp a.eval oL).run P W = .ok (.value u) W' ∧ K u W')
    (hend : ∀ (vs : Nat → Value) (W : World), K (vs kL) W → vs kA = vs kL → Q .normal (putAll l a0 vs) W) :
    (Code.region id l.toArray true).wp P Q a0 w := by
  have hdst : ∀ {i : Nat} {o : Oper}, l[i]? = some o → o.dst.isSome = true := fun h => by
    rw [List.all_eq_true] at hds
    exact hds _ (List.mem_of_getElem? h)
  refine region_TO (fun _ _ => True) (fun up vals W => (up n = false → up (n + 1) = false ∧ Below v.heap.size v W ∧ ∀ j, j < n → up j = true → V j (vals j) W) ∧ (up n = true → K (vals n) W) ∧ (up (n + 1) = true → vals (n + 1) = vals n)) hm hasc hap hpl ?_ ?_ ?_
  · intro vals
    exact ⟨fun _ => ⟨rfl, Below.drew hv, fun _ _ h => (by cases h)⟩, fun h => (by cases h), fun h => (by cases h)⟩
  · intro up vals i o ho hi hcl a W hk hd hT
    have hall : up n = true → ∀ j, j < n → up j = true := fun hn j hj => by
      rw [List.all_eq_true] at hclo
      have := hclo j (List.mem_range.2 hj)
      rw [List.contains_iff_mem] at this
      exact clo_up hcl fuel [n] (by simpa using hn) j this
    have hil : i < n + 2 := by rw [← hlen]; exact (List.getElem?_eq_some_iff.1 ho).1
    by_cases h1 : i < n
    · have hn : up n = false := by
        cases e : up n
        · rfl
        · rw [hall e i h1] at hi; cases hi
      obtain ⟨hn1, hB, hV⟩ := hT.1 hn
      obtain ⟨u, W', hr, hb, hu⟩ := hop i o ho h1 a W hB (fun k hkk => hk k fun j o' hj hj' => by
          have := hkk j o' hj hj'
          have hjl : j < n + 2 := by rw [← hlen]; exact (List.getElem?_eq_some_iff.1 hj).1
          by_cases e : j = n
          · rw [e]; exact hn
          · have : j = n + 1 := by omega
            rw [this]; exact hn1)
        (fun j o' k hj hk' hdep hjn => by
          obtain ⟨q1, q2, _⟩ := hd j o' k hj hk' hdep
          rw [q2]; exact hV j hjn q1)
      refine Or.inl ⟨u, W', hr, hdst ho, trivial, ⟨fun _ => ⟨?_, blw_trans hB hb, fun j hj hup => ?_⟩, fun h => ?_, fun h => ?_⟩⟩
      · simp [hn1]; omega
      · by_cases e : j = i
        · subst e; dsimp only; rw [if_pos rfl]; exact hu
        · dsimp only; rw [if_neg e]
          have : up j = true := by simpa [e] using hup
          exact hVm _ _ _ _ hb (hV j hj this)
      · have : up n = true := by have : n ≠ i := by omega
                                 simpa [this] using h
        rw [hn] at this; cases this
      · have : up (n + 1) = true := by have : n + 1 ≠ i := by omega
                                       simpa [this] using h
        rw [hn1] at this; cases this
    · by_cases h2 : i = n
      · subst h2
        obtain ⟨hn1, hB, hV⟩ := hT.1 hi
        obtain rfl : o = oL := Option.some.inj (ho.symm.trans hL)
        obtain ⟨u, W', hr, hK⟩ := hfin a W hB (fun k hkk => hk k fun j o' hj hj' => by
            have := hkk j o' hj hj'
            have hjl : j < i + 2 := by rw [← hlen]; exact (List.getElem?_eq_some_iff.1 hj).1
            by_cases e : j = i
            · rw [e]; exact hi
            · have : j = i + 1 := by omega
              rw [this]; exact hn1)
          (fun j o' k hj hk' hdep hjn => by
            obtain ⟨q1, q2, _⟩ := hd j o' k hj hk' hdep
            rw [q2]; exact hV j hjn q1)
        refine Or.inl ⟨u, W', hr, hdst ho, trivial, ⟨fun h => by simp at h, fun _ => by dsimp only; rw [if_pos rfl]; exact hK, fun h => ?_⟩⟩
        have : up (i + 1) = true := by simpa using h
        rw [hn1] at this; cases this
      · have h3 : i = n + 1 := by omega
        subst h3
        obtain rfl : o = oA := Option.some.inj (ho.symm.trans hA)
        obtain ⟨q1, q2, _⟩ := hd n oL kL hL hLd (by obtain ⟨e, he, h4, h5⟩ := waits_spec hAw hA; exact ⟨e, he, h4, h5⟩)
        refine Or.inl ⟨vals n, W, ?_, hdst ho, trivial, ⟨fun h => ?_, fun h => ?_, fun _ => ?_⟩⟩
        · rw [← q2]; simp [execOp, hAo]
        · dsimp only at h; rw [q1] at h; simp at h
        · have : n ≠ n + 1 := by omega
          dsimp only; rw [if_neg this]; exact hT.2.1 q1
        · have : n ≠ n + 1 := by omega
          dsimp only; rw [if_pos rfl, if_neg this]
  · intro up vals vs W hup hvs hT
    have h1 := hvs n oL kL hL hLd
    have h2 := hvs (n + 1) oA kA hA hAd
    have u1 := hup n (by omega)
    have u2 := hup (n + 1) (by omega)
    refine hend vs W ?_ ?_
    · rw [h1.1]; exact hT.2.1 u1
    · rw [h1.1, h2.1]; exact hT.2.2 u2
end RY
end Go.Proofs.Ytojcopamegmeeaa

namespace Go.Proofs.Ytojcopamegmeeaa
open Go.RowKit Go.Deep

set_option maxHeartbeats 1000000 in
theorem l37In_any (n lo hi : Int) (w : World) :
    Calls Try.prog 50 #[.int .i64 n, .int .i64 lo, .int .i64 hi] w fun e w' => e = .returned (.bool (decide (lo ≤ n) && decide (n ≤ hi))) ∧ w = w' := by
  by_cases h : lo ≤ n
  all_goals
    go_enter Try.func50, Try.ntmps50
    go_wp2
    go_ret
    exact ⟨Pl.ret_bool (by rw [Bool.eq_iff_iff]; simp; try omega), rfl⟩

end Go.Proofs.Ytojcopamegmeeaa

namespace Go.Proofs.Ytojcopamegmeeaa
open Go.RowKit Go.Deep

theorem Try.under_bytes : Try.prog.underlying 95 = some (.slice 5) := by kernel_rfl
theorem Try.info_byte : (Try.prog.info? 5).map (fun i => (i.zero, i.size, i.bytes)) = some (some (.int .u8 0), 1, 1) := by kernel_rfl
theorem uinfo {P : Program} {t : TypeId} {z : Value} {n b : Nat} (h : (P.info? t).map (fun i => (i.zero, i.size, i.bytes)) = some (some z, n, b)) : ∃ i, P.info? t = some i ∧ i.zero = some z ∧ i.size = n ∧ i.bytes = b := by
  cases hi : P.info? t with
  | none => rw [hi] at h; cases h
  | some i => rw [hi] at h; simp only [Option.map_some, Option.some.injEq, Prod.mk.injEq] at h; exact ⟨i, rfl, h.1, h.2.1, h.2.2⟩

/-- A row of bytes of one's own. -/
def By (W : World) (lo : Nat) (v : Value) (l : List UInt8) : Prop := W.ownsRow lo 5 1 v l.length (Pl.byV l)
theorem By.later {W W' : World} {lo : Nat} {v : Value} {l : List UInt8} (h : By W lo v l) (hb : Below W.heap.size W W') : By W' lo v l := owns_lt_later h hb
theorem By.nil (W : World) (lo : Nat) : By W lo (.slice none 0 0) [] := World.ownsRow_nil ..
theorem By.emp (W : World) (lo : Nat) (h : lo ≤ W.heap.size) : By (W.alloc (.cells #[] 5)) lo (.slice (some ⟨W.heap.size, 0, none⟩) 0 0) [] := World.ownsRow_made W #[] 0 h (by decide) rfl
theorem By.made (W : World) (lo : Nat) (c : UInt8) (h : lo ≤ W.heap.size) : By (W.alloc (.cells #[.int .u8 (c.toNat : Int)] 5)) lo (.slice (some ⟨W.heap.size, 0, none⟩) 1 1) [c] :=
  ⟨by simp [Pl.byV], .inr ⟨W.heap.size, 1, _, rfl, h, heap_alloc_new W _, Nat.le_refl _, by decide, rfl, rfl⟩⟩
theorem By.shape {W : World} {lo : Nat} {v : Value} {l : List UInt8} (h : By W lo v l) : ∃ a c, v = .slice a l.length c := by
  rcases h.2 with ⟨e, h0⟩ | ⟨g, cap, _, e, _⟩
  · exact ⟨none, 0, by rw [e, h0]⟩
  · exact ⟨_, _, e⟩
theorem By.str {W : World} {lo : Nat} {v : Value} {l : List UInt8} (h : By W lo v l) (h0 : 0 < l.length) : (convert 95 9 v).run Try.prog W = .ok (.string ⟨l.toArray⟩) W := by
  rcases h.2 with ⟨_, e⟩ | ⟨g, cap, cur, e, _, hg, hn, _, _, ht⟩
  · omega
  · rw [e]
    refine run_convert_bytes_back (P := Try.prog) W 95 9 5 ⟨g, 0, none⟩ cap l Try.under_bytes (by kernel_rfl) (by kernel_rfl) fun j hj => ?_
    have hx : (Pl.byV l)[j]? = some (.int .u8 (l[j].toNat : Int)) := by simp [Pl.byV, hj]
    have q : cur.toList[j]? = some (.int .u8 (l[j].toNat : Int)) := by rw [← hx, ← ht, List.getElem?_take, if_pos (by omega)]
    rw [show (Addr.add ⟨g, 0, none⟩ j) = ⟨g, j, none⟩ by rw [Addr.add_mid, Nat.zero_add]]
    simp only [World.cell?, hg]
    simpa using q
theorem By.str_any {W : World} {lo : Nat} {v : Value} {l : List UInt8} (h : By W lo v l) : (convert 95 9 v).run Try.prog W = .ok (.string ⟨l.toArray⟩) W := by
  rcases h.2 with ⟨e1, e⟩ | ⟨g, cap, cur, e, _, hg, hn, _, _, ht⟩
  · have : l = [] := List.eq_nil_of_length_eq_zero e
    subst this
    rw [e1, run_convert_bytes_string (P := Try.prog) W 95 9 5 none 0 0 Try.under_bytes (by kernel_rfl) (by kernel_rfl)]
    rfl
  · rw [e]
    refine run_convert_bytes_back (P := Try.prog) W 95 9 5 ⟨g, 0, none⟩ cap l Try.under_bytes (by kernel_rfl) (by kernel_rfl) fun j hj => ?_
    have hx : (Pl.byV l)[j]? = some (.int .u8 (l[j].toNat : Int)) := by simp [Pl.byV, hj]
    have q : cur.toList[j]? = some (.int .u8 (l[j].toNat : Int)) := by rw [← hx, ← ht, List.getElem?_take, if_pos (by omega)]
    rw [show (Addr.add ⟨g, 0, none⟩ j) = ⟨g, j, none⟩ by rw [Addr.add_mid, Nat.zero_add]]
    simp only [World.cell?, hg]
    simpa using q
theorem By.below {W w' : World} {a : World} {lo : Nat} {v : Value} {l : List UInt8} (h : By W lo v l) (hb : Below a.heap.size a W) (hg : W.grownBy w' v.ownBlock) (hlo : a.heap.size ≤ lo) : Below a.heap.size a w' :=
  Below.grown hb hg hb.size fun q hq => by have := (World.ownsRow.lt h q hq).1; omega
theorem by_push {w : World} {ops : Array Oper} {rest : List Oper} {o : Oper} {a : Act} {Q : Exit → Act → World → Prop} (hgd : o.guard = none) (s x : Operand)
    (ho : o.op = .call { callee := .builtin .append, args := #[s, x], argTypes := #[95, 95] }) (lo : Nat) (v : Value) (l : List UInt8) (hs : a.eval s = v) (hown : By w lo v l)
    (B m c : Nat) (news : List UInt8) (hx : a.eval x = .slice (some ⟨B, 0, none⟩) m c) (hl : news.length = m) (hnews : ∀ j u, (Pl.byV news)[j]? = some u → w.cell? ((⟨B, 0, none⟩ : Addr).add j) = some u)
    (hm : 0 < m) (h63 : l.length + m ≤ 1099511627776) (hlo : lo ≤ w.heap.size)
    (h : ∀ g cap w', By w' lo (.slice (some ⟨g, 0, none⟩) (l.length + m) cap) (l ++ news) → w.grownBy w' v.ownBlock → wpList Try.prog ops Q rest (a.put o.dst (.slice (some ⟨g, 0, none⟩) (l.length + m) cap)) w') : wpList Try.prog ops Q (o :: rest) a w := by
  obtain ⟨i0, hi, hz0, hz1, hz2⟩ := uinfo Try.info_byte
  refine wpList_append_lies w hgd s x 95 ho lo 5 i0 _ 1 1 Try.under_bytes hi hz0 hz1 hz2 rfl (by omega) v l.length (Pl.byV l) hs hown ⟨B, 0, none⟩ m c (Pl.byV news) hx (by rw [Pl.byV_len, hl, Nat.mul_one]) hnews
    (fun u hu => by obtain ⟨b, _, rfl⟩ := List.mem_map.1 hu; rfl) hm (by unfold maxLen; omega) (by omega) hlo _ rfl fun g cap w' q1 q2 _ _ => h g cap w' ?_ q2
  unfold By
  rw [Pl.byV_app, List.length_append, hl]
  exact q1
theorem by_step {w : World} {ops : Array Oper} {o : Oper} {a : Act} {K : Act → World → Prop} {Q : Exit → Act → World → Prop} {E : Prop} (hgd : o.guard = none) (s x : Operand)
    (ho : o.op = .call { callee := .builtin .append, args := #[s, x], argTypes := #[95, 95] }) (lo : Nat) (v : Value) (l : List UInt8) (hs : a.eval s = v) (hown : By w lo v l)
    (B m c : Nat) (news : List UInt8) (hx : a.eval x = .slice (some ⟨B, 0, none⟩) m c) (hl : news.length = m) (hnews : ∀ j u, (Pl.byV news)[j]? = some u → w.cell? ((⟨B, 0, none⟩ : Addr).add j) = some u)
    (hm : 0 < m) (h63 : l.length + m ≤ 1099511627776) (hlo : lo ≤ w.heap.size)
    (h : ∀ g cap w', By w' lo (.slice (some ⟨g, 0, none⟩) (l.length + m) cap) (l ++ news) → w.grownBy w' v.ownBlock → K (a.put o.dst (.slice (some ⟨g, 0, none⟩) (l.length + m) cap)) w') :
    if Region.wanted o (yielded ops a.tmps) = true then Oper.wp Try.prog o a w K Q else E := by
  obtain ⟨i0, hi, hz0, hz1, hz2⟩ := uinfo Try.info_byte
  refine step_append_lies w hgd s x 95 ho lo 5 i0 _ 1 1 Try.under_bytes hi hz0 hz1 hz2 rfl (by omega) v l.length (Pl.byV l) hs hown ⟨B, 0, none⟩ m c (Pl.byV news) hx (by rw [Pl.byV_len, hl, Nat.mul_one]) hnews
    (fun u hu => by obtain ⟨b, _, rfl⟩ := List.mem_map.1 hu; rfl) hm (by unfold maxLen; omega) (by omega) hlo _ rfl fun g cap w' q1 q2 _ _ => h g cap w' ?_ q2
  unfold By
  rw [Pl.byV_app, List.length_append, hl]
  exact q1
theorem by_run {w : World} {lo : Nat} {v : Value} {l : List UInt8} (hown : By w lo v l) (ty : TypeId)
    (B m c : Nat) (news : List UInt8) (hl : news.length = m) (cs : Array Value) (hcs : cs.toList = Pl.byV news) (hB : w.heap[B]? = some (.cells cs 5 (0, 0)))
    (hm : 0 < m) (h63 : l.length + m ≤ 1099511627776) (hlo : lo ≤ w.heap.size) :
    ∃ g cap w', (Builtin.append_ #[95, 95] ty #[v, .slice (some ⟨B, 0, none⟩) m c]).run Try.prog w = .ok (.slice (some ⟨g, 0, none⟩) (l.length + m) cap) w' ∧
      By w' lo (.slice (some ⟨g, 0, none⟩) (l.length + m) cap) (l ++ news) ∧ w.grownBy w' v.ownBlock := by
  obtain ⟨i0, hi, hz0, hz1, hz2⟩ := uinfo Try.info_byte
  obtain ⟨g, cap, w', h1, h2, h3, _⟩ := run_append_lies (P := Try.prog) w 95 ty lo 5 i0 _ 1 1 Try.under_bytes hi hz0 hz1 hz2 rfl (by omega) v l.length (Pl.byV l) hown ⟨B, 0, none⟩ m c (Pl.byV news) (by rw [Pl.byV_len, hl, Nat.mul_one]) (by rw [← hcs]; exact World.news_of_block hB)
    (fun u hu => by obtain ⟨b, _, rfl⟩ := List.mem_map.1 hu; rfl) hm (by unfold maxLen; omega) (by omega) hlo _ rfl
  refine ⟨g, cap, w', h1, ?_, h3⟩
  unfold By
  rw [Pl.byV_app, List.length_append, hl]
  exact h2
theorem hexs (n : Nat) (h : n < 16) : (Pl.hexd n).toNat = if n < 10 then 48 + n else 87 + n := by
  unfold Pl.hexd; split <;> rw [UInt8.toNat_ofNat'] <;> omega
def hexD : ByteArray := ⟨#[48, 49, 50, 51, 52, 53, 54, 55, 56, 57, 97, 98, 99, 100, 101, 102]⟩
theorem hexAt : ∀ n : Fin 16, (hexD.data.toList.getD n.1 0) = Pl.hexd n.1 := by decide
theorem hexIx (n : Nat) (h : n < hexD.size) : hexD[n] = Pl.hexd n := by
  have h' : n < 16 := h
  rw [← hexAt ⟨n, h'⟩]
  simp [hexD, h']
  rfl
theorem hexRun (n : Nat) (h : n < 16) (w : World) : (Instr.index 9 (.string ⟨#[48, 49, 50, 51, 52, 53, 54, 55, 56, 57, 97, 98, 99, 100, 101, 102]⟩) (.int .u8 (n : Int))).run Try.prog w = .ok (.int .u8 ((Pl.hexd n).toNat : Int)) w := by
  rw [run_index_string w 9 _ .u8 (n : Int) (by kernel_rfl), dif_pos ⟨by omega, by show (n : Int) < 16; omega⟩]
  have := hexIx n h
  simp only [hexD] at this
  simp only [Int.toNat_natCast]
  rw [this]

end Go.Proofs.Ytojcopamegmeeaa

namespace Go.Proofs.Ytojcopamegmeeaa
open Go.RowKit Go.Deep

theorem Try.under_texts : Try.prog.underlying 67 = some (.slice 9) := by kernel_rfl
theorem Try.info_text : (Try.prog.info? 9).map (fun i => (i.zero, i.size, i.bytes)) = some (some (.string { data := #[] }), 1, 16) := by kernel_rfl
def txV (l : List ByteArray) : List Value := l.map .string
def txD (l : List ByteArray) : List Dt := l.map .s
/-- A row of texts of one's own. -/
def TxR (W : World) (lo : Nat) (v : Value) (l : List ByteArray) : Prop := W.ownsRow lo 9 1 v l.length (txV l)
theorem TxR.later {W W' : World} {lo : Nat} {v : Value} {l : List ByteArray} (h : TxR W lo v l) (hb : Below W.heap.size W W') : TxR W' lo v l := owns_lt_later h hb
theorem TxR.nil (W : World) (lo : Nat) : TxR W lo (.slice none 0 0) [] := World.ownsRow_nil ..
theorem TxR.emp (W : World) (lo : Nat) (h : lo ≤ W.heap.size) : TxR (W.alloc (.cells #[] 9)) lo (.slice (some ⟨W.heap.size, 0, none⟩) 0 0) [] := World.ownsRow_made W #[] 0 h (by decide) rfl
theorem TxR.shape {W : World} {lo : Nat} {v : Value} {l : List ByteArray} (h : TxR W lo v l) : ∃ a c, v = .slice a l.length c := by
  rcases h.2 with ⟨e, h0⟩ | ⟨g, cap, _, e, _⟩
  · exact ⟨none, 0, by rw [e, h0]⟩
  · exact ⟨_, _, e⟩
theorem TxR.below {W w' : World} {a : World} {lo : Nat} {v : Value} {l : List ByteArray} (h : TxR W lo v l) (hb : Below a.heap.size a W) (hg : W.grownBy w' v.ownBlock) (hlo : a.heap.size ≤ lo) : Below a.heap.size a w' :=
  Below.grown hb hg hb.size fun q hq => by have := (World.ownsRow.lt h q hq).1; omega
theorem txV_app (a b : List ByteArray) : txV (a ++ b) = txV a ++ txV b := List.map_append
theorem txD_app (a b : List ByteArray) : txD (a ++ b) = txD a ++ txD b := List.map_append
theorem txV_len (a : List ByteArray) : (txV a).length = a.length := List.length_map ..
theorem txD_len (a : List ByteArray) : (txD a).length = a.length := List.length_map ..
theorem repTx (W : World) (tt : Bool) : ∀ l : List ByteArray, Rep W tt (reps l.length [.s]) [] (txD l) (txV l)
  | [] => .nil
  | x :: l => by rw [List.length_cons, reps_succ]; exact .s x (repTx W tt l)
theorem TxR.gr {W : World} {lo : Nat} {v : Value} {l : List ByteArray} (h : TxR W lo v l) : Gr W lo 9 [.s] v l.length [] (txD l) (txV l) := ⟨h, repTx W false l, List.nodup_nil, by simp⟩
theorem TxR.done {W : World} {lo : Nat} {v : Value} {l : List ByteArray} (h : TxR W lo v l) : ∃ F, Rep W false [.row 9 [.s]] F [.row l.length (txD l)] [v] ∧ F.Nodup ∧ ∀ b ∈ F, lo ≤ b := h.gr.done
theorem tx_push {w : World} {ops : Array Oper} {rest : List Oper} {o : Oper} {a : Act} {Q : Exit → Act → World → Prop} (hgd : o.guard = none) (s x : Operand)
    (ho : o.op = .call { callee := .builtin .append, args := #[s, x], argTypes := #[67, 67] }) (lo : Nat) (v : Value) (l : List ByteArray) (hs : a.eval s = v) (hown : TxR w lo v l)
    (B m c : Nat) (news : List ByteArray) (hx : a.eval x = .slice (some ⟨B, 0, none⟩) m c) (hl : news.length = m) (hnews : ∀ j u, (txV news)[j]? = some u → w.cell? ((⟨B, 0, none⟩ : Addr).add j) = some u)
    (hm : 0 < m) (h63 : l.length + m ≤ 1073741824) (hlo : lo ≤ w.heap.size)
    (h : ∀ g cap w', TxR w' lo (.slice (some ⟨g, 0, none⟩) (l.length + m) cap) (l ++ news) → w.grownBy w' v.ownBlock → wpList Try.prog ops Q rest (a.put o.dst (.slice (some ⟨g, 0, none⟩) (l.length + m) cap)) w') : wpList Try.prog ops Q (o :: rest) a w := by
  obtain ⟨i0, hi, hz0, hz1, hz2⟩ := uinfo Try.info_text
  refine wpList_append_lies w hgd s x 67 ho lo 9 i0 _ 1 16 Try.under_texts hi hz0 hz1 hz2 rfl (by omega) v l.length (txV l) hs hown ⟨B, 0, none⟩ m c (txV news) hx (by rw [txV_len, hl, Nat.mul_one]) hnews
    (fun u hu => by obtain ⟨b, _, rfl⟩ := List.mem_map.1 hu; rfl) hm (by unfold maxLen; omega) (by omega) hlo _ rfl fun g cap w' q1 q2 _ _ => h g cap w' ?_ q2
  unfold TxR
  rw [txV_app, List.length_append, hl]
  exact q1
theorem tx_run {w : World} {lo : Nat} {v : Value} {l : List ByteArray} (hown : TxR w lo v l) (ty : TypeId)
    (B m c : Nat) (news : List ByteArray) (hl : news.length = m) (hnews : ∀ j u, (txV news)[j]? = some u → w.cell? ((⟨B, 0, none⟩ : Addr).add j) = some u)
    (hm : 0 < m) (h63 : l.length + m ≤ 1073741824) (hlo : lo ≤ w.heap.size) :
    ∃ g cap w', (Builtin.append_ #[67, 67] ty #[v, .slice (some ⟨B, 0, none⟩) m c]).run Try.prog w = .ok (.slice (some ⟨g, 0, none⟩) (l.length + m) cap) w' ∧
      TxR w' lo (.slice (some ⟨g, 0, none⟩) (l.length + m) cap) (l ++ news) ∧ w.grownBy w' v.ownBlock := by
  obtain ⟨i0, hi, hz0, hz1, hz2⟩ := uinfo Try.info_text
  obtain ⟨g, cap, w', h1, h2, h3, _⟩ := run_append_lies (P := Try.prog) w 67 ty lo 9 i0 _ 1 16 Try.under_texts hi hz0 hz1 hz2 rfl (by omega) v l.length (txV l) hown ⟨B, 0, none⟩ m c (txV news) (by rw [txV_len, hl, Nat.mul_one]) hnews
    (fun u hu => by obtain ⟨b, _, rfl⟩ := List.mem_map.1 hu; rfl) hm (by unfold maxLen; omega) (by omega) hlo _ rfl
  refine ⟨g, cap, w', h1, ?_, h3⟩
  unfold TxR
  rw [txV_app, List.length_append, hl]
  exact h2
theorem WBox.grow {W W' : World} {row : Option Nat} {p : Nat} {u : TypeId} {cs : List Value} (h : WBox W p u cs) (hg : W.grownBy W' row) (hn : row ≠ some p) : WBox W' p u cs := by
  have hb : W'.heap[p]? = W.heap[p]? := hg.block p h.own.lt (fun e => hn e.symm)
  obtain ⟨cs', h1, h2⟩ := h.own
  exact ⟨⟨cs', hb.trans h1, h2⟩, rA_same h.at_ fun j _ => World.cell?_of_block (a := ⟨p, 0 + j, none⟩) hb⟩
theorem owns_mks {S : Nat → Prop} {W W' : World} {lo e size n : Nat} {v : Value} {xs : List Value} (h : W.ownsRow lo e size v n xs) (hm : Marks S W W') (hS : ∀ b, lo ≤ b → ¬ S b) : W'.ownsRow lo e size v n xs := by
  refine ⟨h.1, h.2.imp id ?_⟩
  rintro ⟨g, cap, cur, h1, h2, h3, h4⟩
  exact ⟨g, cap, cur, h1, h2, (hm.block g (Array.getElem?_eq_some_iff.1 h3).1 (hS g h2)).trans h3, h4⟩
theorem owns_scs_lo {W : World} {lo e size n p o : Nat} {v : Value} {xs : List Value} (h : W.ownsRow lo e size v n xs) (hp : p < lo) (cs : List Value) : (W.setCells p o cs).ownsRow lo e size v n xs :=
  owns_mks h (mks_scs (S := fun b => b = p) rfl cs o W) fun b hb e => by omega
theorem map_flat {α β : Type} (f : α → β) : ∀ l : List α, l.map f = l.flatMap fun x => [f x]
  | [] => rfl
  | x :: l => by rw [List.map_cons, List.flatMap_cons, map_flat f l]; rfl
theorem el_map1 {α : Type} (d : α) (f : α → Dt) (l : List α) (k : Nat) (h : k < l.length) : el 1 k (l.map f) = [f (l.getD k d)] := by
  have e : l.map f = l.flatMap fun x => [f x] := map_flat f l
  rw [e]
  exact el_flat d (fun x => [f x]) 1 (fun _ => rfl) l k h
theorem typTx : ∀ (n : Nat) (es : List Dt), Typ (reps n [.s]) es → ∃ ws : List ByteArray, es = txD ws ∧ ws.length = n
  | 0, es, h => by rw [reps_zero] at h; exact ⟨[], h.c_n, rfl⟩
  | n + 1, es, h => by
    rw [reps_succ] at h
    obtain ⟨x, r, rfl, h2⟩ := Typ.c_s h
    obtain ⟨ws, rfl, hl⟩ := typTx n r h2
    exact ⟨x :: ws, rfl, by rw [List.length_cons, hl]⟩
theorem szd_tx : ∀ ws : List ByteArray, szd (txD ws) → ∀ x ∈ ws, x.size ≤ maxLen
  | [], _, x, h => by simp at h
  | y :: ws, hz, x, h => by
    have hz' : y.size ≤ maxLen ∧ szd (txD ws) := by unfold txD at hz; rw [List.map_cons, szd] at hz; exact hz
    rcases List.mem_cons.1 h with rfl | q
    · exact hz'.1
    · exact szd_tx ws hz'.2 x q

end Go.Proofs.Ytojcopamegmeeaa
