/-
  Sheets: one laid over another: plain, and how great.
-/
import Derived.Test.YtojcopamegmeeaaEGf
import Derived.Test.YtojcopamegmeeaaEBt
import Derived.Test.YtojcopamegmeeaaEGn
import Derived.Test.YtojcopamegmeeaaETx
namespace Go.Proofs.Ytojcopamegmeeaa
open Go.RowKit Go.Deep

namespace RY
theorem region_TC {P : Program} {id : Nat} {Q : Exit → Act → World → Prop} {a0 : Act} {w : World} {l : List Oper} (V : Nat → Value → Prop) (T : (Nat → Bool) → (Nat → Value) → World → Prop) (hm : P.follows .mixedOrders = true)
    (hasc : asc .any l.toArray = true) (hap : apartB l = true) (hpl : plainB l a0.tmps.size = true) (h0 : ∀ vals, T (fun _ => false) vals w.drew)
    (hop : ∀ (up : Nat → Bool) (vals : Nat → Value) (i : Nat) (o : Oper), l[i]? = some o → up i = false → (∀ (j : Nat) (o' : Oper) (e : _), l[j]? = some o' → e ∈ o'.after → Region.binds .any e = true → up j = true → up e.on = true) →
      ∀ (a : Act) (W : World), (∀ k, noDst l k = true → a.eval (.tmp k) = a0.eval (.tmp k)) →
      (∀ (j : Nat) (o' : Oper) (k : Nat), l[j]? = some o' → o'.dst = some k → (∃ e ∈ o.after, e.on = j ∧ Region.binds .any e = true) → up j = true ∧ a.eval (.tmp k) = vals j ∧ V j (vals j)) → T up vals W →
      (∃ u W', (execOp a.eval o).run P W = .ok (.value u) W' ∧ o.dst.isSome = true ∧ V i u ∧ T (fun j => (j == i) || up j) (fun j => if j = i then u else vals j) W') ∨
      (∃ W', (execOp a.eval o).run P W = .ok .skip W' ∧ o.dst = none ∧ T (fun j => (j == i) || up j) vals W') ∨
      (∃ f args, (execOp a.eval o).run P W = .ok (.enter f args) W ∧ o.dst.isSome = true ∧ Calls P f args W fun e W' => ∃ u, e = .returned u ∧ V i u ∧ T (fun j => (j == i) || up j) (fun j => if j = i then u else vals j) W'))
    (hend : ∀ (up : Nat → Bool) (vals vs : Nat → Value) (W : World), (∀ i, i < l.length → up i = true) → (∀ (i : Nat) (o : Oper) (k : Nat), l[i]? = some o → o.dst = some k → vs k = vals i ∧ V i (vals i)) → T up vals W → Q .normal (putAll l a0 vs) W) :
    (Code.region id l.toArray true).wp P Q a0 w := by
  refine wp_region_any hm ?_
  refine wpAny_inv (fun L a W => RInv l a0 (fun _ _ => True) (fun j u _ => V j u) L a W ∧ T (fun j => L.getD j false) (valOf l a) W) ?_ ?_ _ _ _ _ ?_ (Closed.none _ (rep_none _)) ?_
  · rintro L a W i ⟨h, hT⟩ hc hi
    obtain ⟨hi1, o, ho0, hall⟩ := mem_ready.1 hi
    have ho : l[i]? = some o := by simpa using ho0
    have hg := (plain_spec hpl ho).1
    rcases hop (fun j => L.getD j false) (valOf l a) i o ho (getD_flip hi1) (fun j o' e hj he hb hu => hc j o' e (by simpa using hj) he hb hu) a W (fun k hk => h.keep hk)
      (fun j o' k hj hk ⟨e, he, hej, hb⟩ => by
        have hu : L.getD j false = true := by rw [← hej]; exact hall e he hb
        exact ⟨hu, (valOf_at hj hk).symm, by rw [valOf_at hj hk]; exact h.new j o' k hj hk hu⟩) hT with ⟨u, W', hr, hd, hV, hT'⟩ | ⟨W', hr, hd, hT'⟩ | ⟨f, args, hr, hd, hcl⟩
    · refine wpOp_value ho0 hg hr ⟨h.step hap hpl ho hi1 trivial (fun _ _ x => x) (fun _ => hV), ?_⟩
      obtain ⟨q, hq⟩ := Option.isSome_iff_exists.1 hd
      rw [up_set hi1, hq, valOf_put hap ho hq (by rw [h.sz]; exact (plain_spec hpl ho).2 q hq)]
      exact hT'
    · refine wpOp_skip ho0 hg hr ⟨h.step hap hpl ho hi1 trivial (fun _ _ x => x) (fun hs => by rw [hd] at hs; cases hs), ?_⟩
      rw [up_set hi1, hd, put_none]
      exact hT'
    · refine wpOp_enter ho0 hg hr (hcl.mono ?_)
      rintro e W' ⟨u, rfl, hV, hT'⟩
      refine ⟨u, rfl, h.step hap hpl ho hi1 trivial (fun _ _ x => x) (fun _ => hV), ?_⟩
      obtain ⟨q, hq⟩ := Option.isSome_iff_exists.1 hd
      rw [up_set hi1, hq, valOf_put hap ho hq (by rw [h.sz]; exact (plain_spec hpl ho).2 q hq)]
      exact hT'
  · rintro L a W ⟨h, hT⟩ hr
    have hall : ∀ i, i < l.length → L.getD i false = true := fun i hi => all_up hr hasc (by simpa using h.len) i (by simpa using hi)
    have lt : ∀ {i : Nat} {o : Oper}, l[i]? = some o → i < l.length := fun hi => (List.getElem?_eq_some_iff.1 hi).1
    have e : a = putAll l a0 (fun k => a.eval (.tmp k)) := by
      have hs : ∀ o ∈ l, ∀ q, o.dst = some q → q < a0.tmps.size := fun o ho q hq => by
        obtain ⟨i, hi⟩ := List.getElem?_of_mem ho
        exact (plain_spec hpl hi).2 q hq
      refine act_ext (by rw [putAll_defers]; exact h.df) (by rw [putAll_size]; exact h.sz) fun k => ?_
      rw [putAll_eval l a0 _ k hs]
      by_cases hk : ∃ o ∈ l, o.dst = some k
      · rw [if_pos hk]
      · rw [if_neg hk]
        refine h.old k fun i o hi hd => absurd ⟨o, List.mem_of_getElem? hi, hd⟩ hk
    have := hend (fun j => L.getD j false) (valOf l a) (fun k => a.eval (.tmp k)) W hall (fun i o k hi hd => ⟨(valOf_at hi hd).symm, by rw [valOf_at hi hd]; exact h.new i o k hi hd (hall i (lt hi))⟩) hT
    rw [← e] at this
    exact this
  · refine ⟨⟨by simp, trivial, rfl, rfl, fun _ _ => rfl, fun i o k hi _ hl => ?_⟩, ?_⟩
    · rw [rep_none] at hl; cases hl
    · have : (fun j => (Array.replicate l.toArray.size false).getD j false) = fun _ => false := by funext j; exact rep_none _ _
      rw [this]
      exact h0 _
  · unfold left
    exact Nat.le_trans List.countP_le_length (by simp)
end RY

end Go.Proofs.Ytojcopamegmeeaa

namespace Go.Proofs.Ytojcopamegmeeaa
open Go.RowKit Go.Deep

namespace RY
theorem region_st {P : Program} {id : Nat} {Q : Exit → Act → World → Prop} {a0 : Act} {w : World} {l : List Oper} (v : World) (hv : Below v.heap.size v w)
    (V : Nat → Value → World → Prop) (hVm : ∀ j u W W', Below W.heap.size W W' → V j u W → V j u W')
    (K : (Nat → Value) → World → Prop) (n fuel : Nat)
    (hm : P.follows .mixedOrders = true) (hasc : asc .any l.toArray = true) (hap : apartB l = true) (hpl : plainB l a0.tmps.size = true)
    (hlen : l.length = n + 1) (D : List Nat) (hD : (D.all fun d => decide (d < n) && waits l n d) = true)
    (hclo : ((List.range n).all fun i => (clo l fuel D).contains i) = true)
    (oS : Oper) (hS : l[n]? = some oS) (hSd : oS.dst = none)
    (hds : ((l.take n).all fun o => o.dst.isSome) = true)
    (hop : ∀ (i : Nat) (o : Oper), l[i]? = some o → i < n → ∀ (a : Act) (W : World), Below v.heap.size v W → (∀ k, noDst l k = true → a.eval (.tmp k) = a0.eval (.tmp k)) →
      (∀ (j : Nat) (o' : Oper) (k : Nat), l[j]? = some o' → o'.dst = some k → (∃ e ∈ o.after, e.on = j ∧ Region.binds .any e = true) → j < n → V j (a.eval (.tmp k)) W) →
      (∃ u W', (execOp a.eval o).run P W = .ok (.value u) W' ∧ Below W.heap.size W W' ∧ V i u W') ∨
      (∃ f args, (execOp a.eval o).run P W = .ok (.enter f args) W ∧ Calls P f args W fun e W' => ∃ u, e = .returned u ∧ Below W.heap.size W W' ∧ V i u W'))
    (hfin : ∀ (a : Act) (W : World) (vals : Nat → Value), Below v.heap.size v W → (∀ k, noDst l k = true → a.eval (.tmp k) = a0.eval (.tmp k)) → (∀ j, j < n → V j (vals j) W) →
      (∀ (j : Nat) (o' : Oper) (k : Nat), l[j]? = some o' → o'.dst = some k → (∃ e ∈ oS.after, e.on = j ∧ Region.binds .any e = true) → j < n → a.eval (.tmp k) = vals j) →
      ∃ W', (execOp a.eval oS).run P W = .ok .skip W' ∧ K vals W')
    (hend : ∀ (vals vs : Nat → Value) (W : World), K vals W → (∀ (i : Nat) (o : Oper) (k : Nat), l[i]? = some o → o.dst = some k → vs k = vals i) → Q .normal (putAll l a0 vs) W) :
    (Code.region id l.toArray true).wp P Q a0 w := by
  rw [List.all_eq_true] at hD
  refine region_TC (fun _ _ => True) (fun up vals W => (up n = false → Below v.heap.size v W ∧ ∀ j, j < n → up j = true → V j (vals j) W) ∧ (up n = true → K vals W)) hm hasc hap hpl ?_ ?_ ?_
  · intro vals
    exact ⟨fun _ => ⟨Below.drew hv, fun j _ h => by simp at h⟩, fun h => by simp at h⟩
  · intro up vals i o ho hi hcl a W hk hdep hT
    have hil : i < n + 1 := by rw [← hlen]; exact (List.getElem?_eq_some_iff.1 ho).1
    have hcl2 : (∀ d ∈ D, up d = true) → ∀ j, j < n → up j = true := fun h j hj => by
      rw [List.all_eq_true] at hclo
      have := hclo j (by simp; omega)
      exact clo_up hcl fuel D h j (by simpa using this)
    by_cases hS0 : up n = true
    · exfalso
      have hall : ∀ j, j < n + 1 → up j = true := fun j hj => by
        by_cases e : j = n
        · rw [e]; exact hS0
        · exact hcl2 (fun d hd => by
            have h2 := hD d hd
            rw [Bool.and_eq_true, decide_eq_true_eq] at h2
            obtain ⟨e, he, hej, hbd⟩ := waits_spec h2.2 hS
            rw [← hej]; exact hcl n oS e hS he hbd hS0) j (by omega)
      rw [hall i hil] at hi; cases hi
    · have hS0 : up n = false := by simpa using hS0
      obtain ⟨hBW, hV⟩ := hT.1 hS0
      have hdst : i < n → o.dst.isSome = true := fun h => by
        rw [List.all_eq_true] at hds
        exact hds _ (List.mem_of_getElem? (i := i) (by rw [List.getElem?_take_of_lt h]; exact ho))
      by_cases hin : i < n
      · have key : ∀ u W', Below W.heap.size W W' → V i u W' → ((fun j => (j == i) || up j) n = false → Below v.heap.size v W' ∧ ∀ j, j < n → (fun j => (j == i) || up j) j = true → V j ((fun j => if j = i then u else vals j) j) W') ∧ ((fun j => (j == i) || up j) n = true → K (fun j => if j = i then u else vals j) W') := fun u W' hW hVi => by
          refine ⟨fun _ => ⟨blw_trans hBW hW, fun j hj hu => ?_⟩, fun h => ?_⟩
          · by_cases e : j = i
            · simp only [e, if_true]; exact hVi
            · have hu : up j = true := by simpa [e] using hu
              simp only [e, if_false]
              exact hVm _ _ _ _ hW (hV j hj hu)
          · have : ¬ n = i := by omega
            have : up n = true := by simpa [this] using h
            rw [hS0] at this; cases this
        rcases hop i o ho hin a W hBW hk (fun j o' k hj hk' hd hjn => by
            obtain ⟨q1, q2, _⟩ := hdep j o' k hj hk' hd
            rw [q2]; exact hV j hjn q1) with ⟨u, W', hr, hW, hVi⟩ | ⟨f, args, hr, hc⟩
        · exact Or.inl ⟨u, W', hr, hdst hin, trivial, key u W' hW hVi⟩
        · refine Or.inr (Or.inr ⟨f, args, hr, hdst hin, hc.mono ?_⟩)
          rintro e W' ⟨u, rfl, hW, hVi⟩
          exact ⟨u, rfl, trivial, key u W' hW hVi⟩
      · obtain rfl : i = n := by omega
        rw [hS] at ho
        injection ho with ho
        subst ho
        have hsub : ∀ j, j < i → up j = true := hcl2 fun d hd => by
          have h2 := hD d hd
          rw [Bool.and_eq_true, decide_eq_true_eq] at h2
          obtain ⟨e, he, hej, hbd⟩ := waits_spec h2.2 hS
          have hdl : d < l.length := by rw [hlen]; omega
          have hq : (l[d]).dst.isSome = true := by
            rw [List.all_eq_true] at hds
            exact hds _ (List.mem_of_getElem? (i := d) (by rw [List.getElem?_take_of_lt h2.1]; simp))
          obtain ⟨k, hk'⟩ := Option.isSome_iff_exists.1 hq
          exact (hdep d l[d] k (by simp) hk' ⟨e, he, hej, hbd⟩).1
        obtain ⟨W', hr, hK⟩ := hfin a W vals hBW hk (fun j hj => hV j hj (hsub j hj)) (fun j o' k hj hk' hd hjn => (hdep j o' k hj hk' hd).2.1)
        exact Or.inr (Or.inl ⟨W', hr, hSd, fun h => by simp at h, fun _ => hK⟩)
  · intro up vals vs W hall hv2 hT
    exact hend vals vs W (hT.2 (hall n (by omega))) (fun i o k hi hd => (hv2 i o k hi hd).1)
theorem region_sti {P : Program} {id : Nat} {Q : Exit → Act → World → Prop} {a0 : Act} {w : World} {l : List Oper} (v : World) (hv : Below v.heap.size v w)
    (V : Nat → Value → World → Nat → Nat → Prop) (hVm : ∀ j u W W' lo hi, Below W.heap.size W W' → V j u W lo hi → V j u W' lo hi)
    (K : (Nat → Value) → World → Prop) (n fuel : Nat)
    (hm : P.follows .mixedOrders = true) (hasc : asc .any l.toArray = true) (hap : apartB l = true) (hpl : plainB l a0.tmps.size = true)
    (hlen : l.length = n + 1) (D : List Nat) (hD : (D.all fun d => decide (d < n) && waits l n d) = true)
    (hclo : ((List.range n).all fun i => (clo l fuel D).contains i) = true)
    (oS : Oper) (hS : l[n]? = some oS) (hSd : oS.dst = none)
    (hds : ((l.take n).all fun o => o.dst.isSome) = true)
    (hop : ∀ (i : Nat) (o : Oper), l[i]? = some o → i < n → ∀ (a : Act) (W : World), Below v.heap.size v W → (∀ k, noDst l k = true → a.eval (.tmp k) = a0.eval (.tmp k)) →
      (∀ (j : Nat) (o' : Oper) (k : Nat), l[j]? = some o' → o'.dst = some k → (∃ e ∈ o.after, e.on = j ∧ Region.binds .any e = true) → j < n → ∃ lo hi, V j (a.eval (.tmp k)) W lo hi) →
      (∃ u W', (execOp a.eval o).run P W = .ok (.value u) W' ∧ Below W.heap.size W W' ∧ V i u W' W.heap.size W'.heap.size) ∨
      (∃ f args, (execOp a.eval o).run P W = .ok (.enter f args) W ∧ Calls P f args W fun e W' => ∃ u, e = .returned u ∧ Below W.heap.size W W' ∧ V i u W' W.heap.size W'.heap.size))
    (hfin : ∀ (a : Act) (W : World) (vals : Nat → Value) (lo hi : Nat → Nat), Below v.heap.size v W → (∀ k, noDst l k = true → a.eval (.tmp k) = a0.eval (.tmp k)) → (∀ j, j < n → v.heap.size ≤ lo j ∧ hi j ≤ W.heap.size ∧ V j (vals j) W (lo j) (hi j)) → (∀ i j, i < n → j < n → i ≠ j → hi i ≤ lo j ∨ hi j ≤ lo i) →
      (∀ (j : Nat) (o' : Oper) (k : Nat), l[j]? = some o' → o'.dst = some k → (∃ e ∈ oS.after, e.on = j ∧ Region.binds .any e = true) → j < n → a.eval (.tmp k) = vals j) →
      ∃ W', (execOp a.eval oS).run P W = .ok .skip W' ∧ K vals W')
    (hend : ∀ (vals vs : Nat → Value) (W : World), K vals W → (∀ (i : Nat) (o : Oper) (k : Nat), l[i]? = some o → o.dst = some k → vs k = vals i) → Q .normal (putAll l a0 vs) W) :
    (Code.region id l.toArray true).wp P Q a0 w := by
  rw [List.all_eq_true] at hD
  refine region_TC (fun _ _ => True) (fun up vals W => (up n = false → Below v.heap.size v W ∧ ∃ lo hi : Nat → Nat, (∀ j, j < n → up j = true → v.heap.size ≤ lo j ∧ hi j ≤ W.heap.size ∧ V j (vals j) W (lo j) (hi j)) ∧ (∀ i j, i < n → j < n → up i = true → up j = true → i ≠ j → hi i ≤ lo j ∨ hi j ≤ lo i)) ∧ (up n = true → K vals W)) hm hasc hap hpl ?_ ?_ ?_
  · intro vals
    exact ⟨fun _ => ⟨Below.drew hv, fun _ => 0, fun _ => 0, fun j _ h => by simp at h, fun i j _ _ h => by simp at h⟩, fun h => by simp at h⟩
  · intro up vals i o ho hi hcl a W hk hdep hT
    have hil : i < n + 1 := by rw [← hlen]; exact (List.getElem?_eq_some_iff.1 ho).1
    have hcl2 : (∀ d ∈ D, up d = true) → ∀ j, j < n → up j = true := fun h j hj => by
      rw [List.all_eq_true] at hclo
      have := hclo j (by simp; omega)
      exact clo_up hcl fuel D h j (by simpa using this)
    by_cases hS0 : up n = true
    · exfalso
      have hall : ∀ j, j < n + 1 → up j = true := fun j hj => by
        by_cases e : j = n
        · rw [e]; exact hS0
        · exact hcl2 (fun d hd => by
            have h2 := hD d hd
            rw [Bool.and_eq_true, decide_eq_true_eq] at h2
            obtain ⟨e, he, hej, hbd⟩ := waits_spec h2.2 hS
            rw [← hej]; exact hcl n oS e hS he hbd hS0) j (by omega)
      rw [hall i hil] at hi; cases hi
    · have hS0 : up n = false := by simpa using hS0
      obtain ⟨hBW, lo, hi', hV, hdj⟩ := hT.1 hS0
      have hdst : i < n → o.dst.isSome = true := fun h => by
        rw [List.all_eq_true] at hds
        exact hds _ (List.mem_of_getElem? (i := i) (by rw [List.getElem?_take_of_lt h]; exact ho))
      by_cases hin : i < n
      · have key : ∀ u W', Below W.heap.size W W' → V i u W' W.heap.size W'.heap.size → ((fun j => (j == i) || up j) n = false → Below v.heap.size v W' ∧ ∃ lo hi : Nat → Nat, (∀ j, j < n → (fun j => (j == i) || up j) j = true → v.heap.size ≤ lo j ∧ hi j ≤ W'.heap.size ∧ V j ((fun j => if j = i then u else vals j) j) W' (lo j) (hi j)) ∧ (∀ i_1 j, i_1 < n → j < n → (fun j => (j == i) || up j) i_1 = true → (fun j => (j == i) || up j) j = true → i_1 ≠ j → hi i_1 ≤ lo j ∨ hi j ≤ lo i_1)) ∧ ((fun j => (j == i) || up j) n = true → K (fun j => if j = i then u else vals j) W') := fun u W' hW hVi => by
          refine ⟨fun _ => ⟨blw_trans hBW hW, fun j => if j = i then W.heap.size else lo j, fun j => if j = i then W'.heap.size else hi' j, fun j hj hu => ?_, fun x y hx hy ux uy hxy => ?_⟩, fun h => ?_⟩
          · by_cases e : j = i
            · simp only [e, if_true]
              exact ⟨hBW.size, Nat.le_refl _, hVi⟩
            · have hu : up j = true := by simpa [e] using hu
              simp only [e, if_false]
              obtain ⟨q1, q2, q3⟩ := hV j hj hu
              exact ⟨q1, Nat.le_trans q2 hW.size, hVm _ _ _ _ _ _ hW q3⟩
          · by_cases e1 : x = i
            · have e2 : ¬ y = i := fun q => hxy (e1.trans q.symm)
              have hu : up y = true := by simpa [e2] using uy
              simp only [e1, e2, if_true, if_false]
              exact Or.inr (hV y hy hu).2.1
            · have hu : up x = true := by simpa [e1] using ux
              by_cases e2 : y = i
              · simp only [e1, e2, if_true, if_false]
                exact Or.inl (hV x hx hu).2.1
              · have hu2 : up y = true := by simpa [e2] using uy
                simp only [e1, e2, if_false]
                exact hdj x y hx hy hu hu2 hxy
          · have : ¬ n = i := by omega
            have : up n = true := by simpa [this] using h
            rw [hS0] at this; cases this
        rcases hop i o ho hin a W hBW hk (fun j o' k hj hk' hd hjn => by
            obtain ⟨q1, q2, _⟩ := hdep j o' k hj hk' hd
            rw [q2]; exact ⟨_, _, (hV j hjn q1).2.2⟩) with ⟨u, W', hr, hW, hVi⟩ | ⟨f, args, hr, hc⟩
        · exact Or.inl ⟨u, W', hr, hdst hin, trivial, key u W' hW hVi⟩
        · refine Or.inr (Or.inr ⟨f, args, hr, hdst hin, hc.mono ?_⟩)
          rintro e W' ⟨u, rfl, hW, hVi⟩
          exact ⟨u, rfl, trivial, key u W' hW hVi⟩
      · obtain rfl : i = n := by omega
        rw [hS] at ho
        injection ho with ho
        subst ho
        have hsub : ∀ j, j < i → up j = true := hcl2 fun d hd => by
          have h2 := hD d hd
          rw [Bool.and_eq_true, decide_eq_true_eq] at h2
          obtain ⟨e, he, hej, hbd⟩ := waits_spec h2.2 hS
          have hdl : d < l.length := by rw [hlen]; omega
          have hq : (l[d]).dst.isSome = true := by
            rw [List.all_eq_true] at hds
            exact hds _ (List.mem_of_getElem? (i := d) (by rw [List.getElem?_take_of_lt h2.1]; simp))
          obtain ⟨k, hk'⟩ := Option.isSome_iff_exists.1 hq
          exact (hdep d l[d] k (by simp) hk' ⟨e, he, hej, hbd⟩).1
        obtain ⟨W', hr, hK⟩ := hfin a W vals lo hi' hBW hk (fun j hj => hV j hj (hsub j hj)) (fun x y hx hy hxy => hdj x y hx hy (hsub x hx) (hsub y hy) hxy) (fun j o' k hj hk' hd hjn => (hdep j o' k hj hk' hd).2.1)
        exact Or.inr (Or.inl ⟨W', hr, hSd, fun h => by simp at h, fun _ => hK⟩)
  · intro up vals vs W hall hv2 hT
    exact hend vals vs W (hT.2 (hall n (by omega))) (fun i o k hi hd => (hv2 i o k hi hd).1)
end RY
end Go.Proofs.Ytojcopamegmeeaa

namespace Go.Proofs.Ytojcopamegmeeaa
open Go.RowKit Go.Deep

namespace RY
theorem exec_store_mid {P : Program} {op : Oper} {a : Act} {W : World} (ty : TypeId) (x y : Operand) (ho : op.op = .store ty x y) {b o : Nat} {cs : List Value} (hx : a.eval x = .pointer (some ⟨b, o, none⟩)) (hy : a.eval y = .agg cs.toArray)
    (ht : W.there b o cs.toArray.size) (hi : (P.info? ty).map (·.size) = some cs.toArray.size) (h1 : cs.toArray.all (·.oneCell') = true) : (execOp a.eval op).run P W = .ok .skip (W.setCells b o cs) := by
  unfold execOp
  simp only [ho, hx, hy, Instr.storeAt, Instr.sureAddr, Sem.run_bind, Sem.run_pure, Result.andThen_ok, run_storeVar_mid W b o ty cs.toArray ht hi h1]
theorem region_mk {P : Program} {id : Nat} {Q : Exit → Act → World → Prop} {a0 : Act} {w : World} {l : List Oper} (v : World) (hv : Below v.heap.size v w)
    (V : Nat → Value → World → Nat → Nat → Prop) (hVm : ∀ j u W W' lo hi, Below W.heap.size W W' → V j u W lo hi → V j u W' lo hi)
    (Bf : (Nat → Value) → Value) (D : List Nat) (hBf : ∀ f g : Nat → Value, (∀ d ∈ D, f d = g d) → Bf f = Bf g)
    (K : (Nat → Value) → World → Prop) (n kb fuel : Nat)
    (hm : P.follows .mixedOrders = true) (hasc : asc .any l.toArray = true) (hap : apartB l = true) (hpl : plainB l a0.tmps.size = true)
    (hlen : l.length = n + 2) (hD : (D.all fun d => decide (d < n) && waits l n d) = true)
    (hclo : ((List.range n).all fun i => (clo l fuel [n]).contains i) = true)
    (oB oS : Oper) (hB : l[n]? = some oB) (hBd : oB.dst = some kb) (hS : l[n + 1]? = some oS) (hSd : oS.dst = none) (hSw : waits l (n + 1) n = true)
    (hds : ((l.take n).all fun o => o.dst.isSome) = true)
    (hop : ∀ (i : Nat) (o : Oper), l[i]? = some o → i < n → ∀ (a : Act) (W : World), Below v.heap.size v W → (∀ k, noDst l k = true → a.eval (.tmp k) = a0.eval (.tmp k)) →
      (∀ (j : Nat) (o' : Oper) (k : Nat), l[j]? = some o' → o'.dst = some k → (∃ e ∈ o.after, e.on = j ∧ Region.binds .any e = true) → j < n → ∃ lo hi, V j (a.eval (.tmp k)) W lo hi) →
      (∃ u W', (execOp a.eval o).run P W = .ok (.value u) W' ∧ Below W.heap.size W W' ∧ V i u W' W.heap.size W'.heap.size) ∨
      (∃ f args, (execOp a.eval o).run P W = .ok (.enter f args) W ∧ Calls P f args W fun e W' => ∃ u, e = .returned u ∧ Below W.heap.size W W' ∧ V i u W' W.heap.size W'.heap.size))
    (hbu : ∀ (a : Act) (W : World) (vals : Nat → Value), Below v.heap.size v W → (∀ k, noDst l k = true → a.eval (.tmp k) = a0.eval (.tmp k)) →
      (∀ (j : Nat) (o' : Oper) (k : Nat), l[j]? = some o' → o'.dst = some k → (∃ e ∈ oB.after, e.on = j ∧ Region.binds .any e = true) → j < n → a.eval (.tmp k) = vals j ∧ ∃ lo hi, V j (vals j) W lo hi) →
      (execOp a.eval oB).run P W = .ok (.value (Bf vals)) W)
    (hfin : ∀ (a : Act) (W : World) (vals : Nat → Value) (lo hi : Nat → Nat), Below v.heap.size v W → (∀ k, noDst l k = true → a.eval (.tmp k) = a0.eval (.tmp k)) →
      (∀ j, j < n → v.heap.size ≤ lo j ∧ hi j ≤ W.heap.size ∧ V j (vals j) W (lo j) (hi j)) → (∀ i j, i < n → j < n → i ≠ j → hi i ≤ lo j ∨ hi j ≤ lo i) → a.eval (.tmp kb) = Bf vals →
      ∃ W', (execOp a.eval oS).run P W = .ok .skip W' ∧ K vals W')
    (hend : ∀ (vals vs : Nat → Value) (W : World), K vals W → (∀ (i : Nat) (o : Oper) (k : Nat), l[i]? = some o → o.dst = some k → vs k = vals i) → Q .normal (putAll l a0 vs) W) :
    (Code.region id l.toArray true).wp P Q a0 w := by
  rw [List.all_eq_true] at hD
  refine region_TC (fun _ _ => True) (fun up vals W => (up (n + 1) = false → Below v.heap.size v W ∧ (up n = true → vals n = Bf vals) ∧ ∃ lo hi : Nat → Nat, (∀ j, j < n → up j = true → v.heap.size ≤ lo j ∧ hi j ≤ W.heap.size ∧ V j (vals j) W (lo j) (hi j)) ∧ (∀ i j, i < n → j < n → up i = true → up j = true → i ≠ j → hi i ≤ lo j ∨ hi j ≤ lo i)) ∧ (up (n + 1) = true → K vals W)) hm hasc hap hpl ?_ ?_ ?_
  · intro vals
    exact ⟨fun _ => ⟨Below.drew hv, fun h => by simp at h, fun _ => 0, fun _ => 0, fun j _ h => by simp at h, fun i j _ _ h => by simp at h⟩, fun h => by simp at h⟩
  · intro up vals i o ho hi hcl a W hk hdep hT
    have hil : i < n + 2 := by rw [← hlen]; exact (List.getElem?_eq_some_iff.1 ho).1
    have hupn : up n = true → ∀ j, j < n → up j = true := fun hun j hj => by
      rw [List.all_eq_true] at hclo
      have := hclo j (by simp; omega)
      exact clo_up hcl fuel [n] (fun x hx => by simp at hx; rw [hx]; exact hun) j (by simpa using this)
    by_cases hS0 : up (n + 1) = true
    · exfalso
      obtain ⟨e, he, hej, hbd⟩ := waits_spec hSw hS
      have hun : up n = true := by rw [← hej]; exact hcl (n + 1) oS e hS he hbd hS0
      have hall : ∀ j, j < n + 2 → up j = true := fun j hj => by
        by_cases e : j = n + 1
        · rw [e]; exact hS0
        · by_cases e2 : j = n
          · rw [e2]; exact hun
          · exact hupn hun j (by omega) 
      rw [hall i hil] at hi; cases hi
    · have hS0 : up (n + 1) = false := by simpa using hS0
      obtain ⟨hBW, hb, lo, hi', hV, hdj⟩ := hT.1 hS0
      have hdst : i < n → o.dst.isSome = true := fun h => by
        rw [List.all_eq_true] at hds
        exact hds _ (List.mem_of_getElem? (i := i) (by rw [List.getElem?_take_of_lt h]; exact ho))
      by_cases hin : i < n
      · have key : ∀ u W', Below W.heap.size W W' → V i u W' W.heap.size W'.heap.size → ((fun j => (j == i) || up j) (n + 1) = false → Below v.heap.size v W' ∧ ((fun j => (j == i) || up j) n = true → (fun j => if j = i then u else vals j) n = Bf (fun j => if j = i then u else vals j)) ∧ ∃ lo hi : Nat → Nat, (∀ j, j < n → (fun j => (j == i) || up j) j = true → v.heap.size ≤ lo j ∧ hi j ≤ W'.heap.size ∧ V j ((fun j => if j = i then u else vals j) j) W' (lo j) (hi j)) ∧ (∀ i_1 j, i_1 < n → j < n → (fun j => (j == i) || up j) i_1 = true → (fun j => (j == i) || up j) j = true → i_1 ≠ j → hi i_1 ≤ lo j ∨ hi j ≤ lo i_1)) ∧ ((fun j => (j == i) || up j) (n + 1) = true → K (fun j => if j = i then u else vals j) W') := fun u W' hW hVi => by
          refine ⟨fun _ => ⟨blw_trans hBW hW, fun hn => ?_, fun j => if j = i then W.heap.size else lo j, fun j => if j = i then W'.heap.size else hi' j, fun j hj hu => ?_, fun x y hx hy ux uy hxy => ?_⟩, fun h => ?_⟩
          · have hni : ¬ n = i := by omega
            have hun : up n = true := by simpa [hni] using hn
            simp only [hni, if_false]
            rw [hb hun]
            refine hBf _ _ fun d hd => ?_
            have h2 := hD d hd
            rw [Bool.and_eq_true, decide_eq_true_eq] at h2
            obtain ⟨e, he, hej, hbd⟩ := waits_spec h2.2 hB
            have hud : up d = true := by rw [← hej]; exact hcl n oB e hB he hbd hun
            have : ¬ d = i := fun q => by rw [q, hi] at hud; cases hud
            simp only [this, if_false]
          · by_cases e : j = i
            · simp only [e, if_true]
              exact ⟨hBW.size, Nat.le_refl _, hVi⟩
            · have hu : up j = true := by simpa [e] using hu
              simp only [e, if_false]
              obtain ⟨q1, q2, q3⟩ := hV j hj hu
              exact ⟨q1, Nat.le_trans q2 hW.size, hVm _ _ _ _ _ _ hW q3⟩
          · by_cases e1 : x = i
            · have e2 : ¬ y = i := fun q => hxy (e1.trans q.symm)
              have hu : up y = true := by simpa [e2] using uy
              simp only [e1, e2, if_true, if_false]
              exact Or.inr (hV y hy hu).2.1
            · have hu : up x = true := by simpa [e1] using ux
              by_cases e2 : y = i
              · simp only [e1, e2, if_true, if_false]
                exact Or.inl (hV x hx hu).2.1
              · have hu2 : up y = true := by simpa [e2] using uy
                simp only [e1, e2, if_false]
                exact hdj x y hx hy hu hu2 hxy
          · have : ¬ n + 1 = i := by omega
            have : up (n + 1) = true := by simpa [this] using h
            rw [hS0] at this; cases this
        rcases hop i o ho hin a W hBW hk (fun j o' k hj hk' hd hjn => by
            obtain ⟨q1, q2, _⟩ := hdep j o' k hj hk' hd
            rw [q2]; exact ⟨_, _, (hV j hjn q1).2.2⟩) with ⟨u, W', hr, hW, hVi⟩ | ⟨f, args, hr, hc⟩
        · exact Or.inl ⟨u, W', hr, hdst hin, trivial, key u W' hW hVi⟩
        · refine Or.inr (Or.inr ⟨f, args, hr, hdst hin, hc.mono ?_⟩)
          rintro e W' ⟨u, rfl, hW, hVi⟩
          exact ⟨u, rfl, trivial, key u W' hW hVi⟩
      · by_cases hin2 : i = n
        · subst hin2
          rw [hB] at ho
          injection ho with ho
          subst ho
          have hr := hbu a W vals hBW hk (fun j o' k hj hk' hd hjn => by
            obtain ⟨q1, q2, _⟩ := hdep j o' k hj hk' hd
            exact ⟨q2, _, _, (hV j hjn q1).2.2⟩)
          have hne : ∀ j, j < i → ¬ j = i := fun j hj => by omega
          have hBe : Bf (fun j => if j = i then Bf vals else vals j) = Bf vals := hBf _ _ fun d hd => by
            have h2 := hD d hd
            rw [Bool.and_eq_true, decide_eq_true_eq] at h2
            simp only [hne d h2.1, if_false]
          refine Or.inl ⟨_, W, hr, by rw [hBd]; rfl, trivial, fun _ => ⟨hBW, fun _ => ?_, lo, hi', fun j hj hu => ?_, fun x y hx hy ux uy hxy => ?_⟩, fun h => ?_⟩
          · simp only [if_true]; exact hBe.symm
          · have hu : up j = true := by simpa [hne j hj] using hu
            simp only [hne j hj, if_false]
            exact hV j hj hu
          · exact hdj x y hx hy (by simpa [hne x hx] using ux) (by simpa [hne y hy] using uy) hxy
          · have : ¬ i + 1 = i := by omega
            have : up (i + 1) = true := by simpa [this] using h
            rw [hS0] at this; cases this
        · obtain rfl : i = n + 1 := by omega
          rw [hS] at ho
          injection ho with ho
          subst ho
          obtain ⟨e, he, hej, hbd⟩ := waits_spec hSw hS
          obtain ⟨q1, q2, _⟩ := hdep n oB kb hB hBd ⟨e, he, hej, hbd⟩
          have hall := hupn q1
          obtain ⟨W', hr, hK⟩ := hfin a W vals lo hi' hBW hk (fun j hj => hV j hj (hall j hj)) (fun x y hx hy hxy => hdj x y hx hy (hall x hx) (hall y hy) hxy) (q2.trans (hb q1))
          exact Or.inr (Or.inl ⟨W', hr, hSd, fun h => by simp at h, fun _ => hK⟩)
  · intro up vals vs W hall hv2 hT
    exact hend vals vs W (hT.2 (hall (n + 1) (by omega))) (fun i o k hi hd => (hv2 i o k hi hd).1)
end RY
end Go.Proofs.Ytojcopamegmeeaa

namespace Go.Proofs.Ytojcopamegmeeaa
open Go.RowKit Go.Deep

set_option maxHeartbeats 4000000 in
theorem l41OfS (b : Pl.Bl) (lv : Value) (key : ByteArray) (w : World) (h : Raw w shLns [lnsD b.lines] [lv]) (hl : b.lines.length ≤ 4194304) (hw : ∀ x ∈ b.lines, x.ws.length ≤ 4194304) :
    Calls Try.prog 32 #[.agg #[.string b.kind, .string b.name, lv], .string key] w (AnsL shLns (lnsD (Pl.linesOf b.lines key)) w) := by
  have HL := uh h
  have HWS := uh hw
  obtain ⟨va, vc, ev⟩ := h.len0
  subst ev
  clear h hw
  obtain ⟨l, hl0⟩ : ∃ l, l = b.lines := ⟨_, rfl⟩
  rw [← hl0] at HL HWS hl ⊢
  clear hl0
  obtain ⟨n, hn⟩ : ∃ n, n = l.length := ⟨_, rfl⟩
  have HN := uh hn
  have hnz : n ≤ 4194304 := by omega
  have hnn : l.length = n := hn.symm
  clear hn hl
  rw [hnn]
  clear hnn
  obtain ⟨wa, hwa⟩ : ∃ wa, wa = w.alloc (.cells #[.string b.kind, .string b.name, .slice va n vc] 42) := ⟨_, rfl⟩
  have HBA : Hid (Below w.heap.size w wa) := by show Below _ _ _; rw [hwa]; exact blw_alloc (Below.refl _ _) _
  have HB0 : Hid (LBox wa w.heap.size [.string b.kind, .string b.name, .slice va n vc]) := by show LBox _ _ _; rw [hwa]; exact LBox.new w #[.string b.kind, .string b.name, .slice va n vc] _ _ rfl
  have HLA := uh (HL.out.later HBA.out)
  go_enter Try.func32, Try.ntmps32
  go_upto_region 1 with fail
  rw [← hwa]
  clear hwa
  obtain ⟨b0, hb0⟩ : ∃ b0, b0 = w.heap.size := ⟨_, rfl⟩
  rw [← hb0] at HB0 ⊢
  have HBZ := uh hb0
  clear hb0
  go_wp2
  go_loopw [5, 6] (fun vo vi wr => ∃ (k : Nat) (xs : List Value), k ≤ n ∧ vi = .int .i64 k ∧ Sv wa wr 69 shSheetLine vo (Pl.linesOf (l.take k) key).length ((Pl.linesOf (l.take k) key).flatMap lnD) xs ∧ Below wa.heap.size wa wr) (fun _ vi _ => n - (intOf vi).toNat)
  case atStart => exact ⟨0, [], Nat.zero_le _, rfl, Sv.emp shSheetLine (heap_alloc_new wa _) (Nat.le_refl _), blw_alloc (Below.refl _ _) _⟩
  case round =>
    obtain ⟨k, xs, hk, rfl, hG, hB⟩ := hrel
    have HGr := uh hG
    have HBr := uh hB
    obtain ⟨ua, uc, huu⟩ := hG.shape
    subst huu
    have x2 := (HB0.out.later hB).get 2 _ rfl
    have xl := (HB0.out.later hB).lt
    clear hG hB
    by_cases hlt : k < n
    rotate_left
    · have hks : l.take k = l := List.take_of_length_le (by have := HN.out; omega)
      rw [hks] at HGr ⊢
      have HC := uh (l39LinesS (Pl.linesOf l key) _ wr (HGr.out.done HBr.out) (Nat.le_trans (Pl.linesOf_len _ _) (by have := HN.out; omega)) (fun x hx => HWS.out x (List.mem_filter.1 hx).1))
      clear hks
      go_wp2_with fail
      refine HC.out.mono ?_
      rintro e w1 ⟨v1, F, rfl, hr, nd, lo, hb⟩
      have HD : Hid (AnsL shLns (lnsD (Pl.linesOf l key)) w (.returned v1) w1) := ⟨_, F, rfl, hr, nd, fun b hb => Nat.le_trans (Nat.le_trans HBA.out.size HBr.out.size) (lo b hb), blw_trans (blw_trans HBA.out HBr.out) hb⟩
      clear hr nd lo hb
      go_wp2
      go_ret
      exact HD.out
    have hkL : k < l.length := by have := HN.out; omega
    rcases lns_open HLA.out with ⟨e0, _⟩ | ⟨p, o, c, hv, hp, hml, hopen⟩
    · omega
    rw [← HN.out] at hv
    injection hv with g1 _ g3
    subst g1; subst g3
    obtain ⟨aw, cw, hgx, hrx⟩ := hopen k hkL
    have HST := uh (Pl.linesOf_step (key := key) hkL)
    have hle : (Pl.linesOf (l.take k) key).length ≤ n := Nat.le_trans (Pl.linesOf_len _ _) (by rw [List.length_take]; omega)
    obtain ⟨x, hx⟩ : ∃ x, x = l.getD k Pl.lnNo := ⟨_, rfl⟩
    rw [← hx] at hgx hrx HST
    have hgr : wr.rangeAt p (o + k * 2) [.string x.key, .slice aw x.ws.length cw] := rA_later hgx hp HBr.out
    have HRX : Hid (Raw wa shSheetLine (lnD x) [.string x.key, .slice aw x.ws.length cw]) := .s _ hrx
    have y0 : wr.cell? ⟨p, o + k * 2, none⟩ = some (.string x.key) := rA_get hgr 0 _ rfl
    obtain ⟨m, hm⟩ : ∃ m, m = (Pl.linesOf (l.take k) key).length := ⟨_, rfl⟩
    rw [← hm] at HGr hle ⊢
    have HM := uh hm
    have hk0 : (0 : Int) ≤ (k : Int) := by omega
    have hkn : (k : Int) < (n : Int) := by omega
    clear hx hgx hrx hopen hml hp hm
    cases hq : (x.key.toList == key.toList)
    · have HE : Hid (Pl.linesOf (l.take (k + 1)) key = Pl.linesOf (l.take k) key) := by show _ = _; rw [HST.out, hq]; rfl
      go_wp2
      go_roundw
      case rel => exact ⟨k + 1, xs, by omega, by go_num, by rw [HE.out, ← HM.out]; exact HGr.out, HBr.out⟩
      case measure => simp [intOf]; omega
    · have HE : Hid (Pl.linesOf (l.take (k + 1)) key = Pl.linesOf (l.take k) key ++ [x]) := by show _ = _; rw [HST.out, hq]; rfl
      go_wp2_with first | refine wpList_load_mid rfl 69 _ rfl p (o + k * 2) rfl [.string x.key, .slice aw x.ws.length cw] _ hgr Try.underlying69 rfl (by kernel_rfl) ?_ | (refine sv_push (wa := wa) rfl _ _ rfl (.slice ua m uc) m _ xs rfl (HGr.out.later (blw_alloc (Below.refl _ _) _)) wr.heap.size 1 (lnD x) [.string x.key, .slice aw x.ws.length cw] rfl HRX.out (World.news_of_block (cs := #[.string x.key, .slice aw x.ws.length cw]) (heap_alloc_new wr _)) (by omega) (Nat.le_trans HBr.out.size (by simp)) ?_; intro gg1 cc1 w1 q1 q2; have HQ := uh (And.intro q1 (HGr.out.later (blw_alloc (Below.refl _ _) _) |>.below (blw_alloc HBr.out _) q2)); clear q1 q2)
      go_roundw
      case rel => exact ⟨k + 1, _, by omega, by go_num, by rw [HE.out, List.length_append, ← HM.out, List.flatMap_append, List.flatMap_singleton]; exact HQ.out.1, HQ.out.2⟩
      case measure => simp [intOf]; omega

end Go.Proofs.Ytojcopamegmeeaa

namespace Go.Proofs.Ytojcopamegmeeaa
open Go.RowKit Go.Deep

def Dat (S : Nat → Prop) (B lo : Nat) (W : World) (sh : List Sh) (A : List Dt) (c : List Value) : Prop := ∃ F, Rep W false sh F A c ∧ ∀ b ∈ F, (S b ∧ b < B) ∨ lo ≤ b
theorem Dat.later {S : Nat → Prop} {B lo : Nat} {W W' : World} {sh : List Sh} {A : List Dt} {c : List Value} (h : Dat S B lo W sh A c) (hb : Below W.heap.size W W') : Dat S B lo W' sh A c := by
  obtain ⟨F, r, f⟩ := h
  exact ⟨F, r.later hb, f⟩
theorem Dat.keep {S T : Nat → Prop} {B lo : Nat} {W W' : World} {sh : List Sh} {A : List Dt} {c : List Value} (h : Dat S B lo W sh A c) (hb : Marks T W W') (hT : ∀ b, T b → B ≤ b ∧ b < lo) : Dat S B lo W' sh A c := by
  obtain ⟨F, r, f⟩ := h
  refine ⟨F, r.keep hb fun b hb' e => ?_, f⟩
  have := hT b e
  rcases f b hb' with q | q <;> omega
theorem Dat.raw {S : Nat → Prop} {B lo : Nat} {W : World} {sh : List Sh} {A : List Dt} {c : List Value} (h : Dat S B lo W sh A c) : Raw W sh A c := by
  obtain ⟨F, r, f⟩ := h
  exact r.raw
theorem dat_of {S : Nat → Prop} {F : List Nat} {w : World} (lo : Nat) {sh : List Sh} {A : List Dt} {c : List Value} (h : Rep w false sh F A c) (hS : ∀ b ∈ F, S b) : Dat S w.heap.size lo w sh A c := ⟨F, h, fun b hb => Or.inl ⟨hS b hb, h.lt b hb⟩⟩
theorem dat_new {S : Nat → Prop} {F : List Nat} {B lo : Nat} {w : World} {sh : List Sh} {A : List Dt} {c : List Value} (h : Rep w false sh F A c) (hF : ∀ b ∈ F, lo ≤ b) : Dat S B lo w sh A c := ⟨F, h, fun b hb => Or.inr (hF b hb)⟩
theorem dat_nil {S : Nat → Prop} {B lo : Nat} {w : World} {t : TypeId} {sh : List Sh} : Dat S B lo w [.row t sh] [.row 0 []] [.slice none 0 0] := ⟨[], .emp _ _ _ rfl .nil, by simp⟩
theorem Dat.ans {S : Nat → Prop} {w W : World} {B lo : Nat} {sh : List Sh} {A : List Dt} {c : List Value} (h : Dat S B lo W sh A c) (hl : w.heap.size ≤ lo) (hb : Below w.heap.size w W) : AnsS sh A S w (.returned (.agg c.toArray)) W := by
  obtain ⟨F, r, f⟩ := h
  refine ⟨c, F, rfl, r, fun b hb => ?_, hb⟩
  rcases f b hb with q | q
  · exact Or.inl q.1
  · exact Or.inr (by omega)
/-- What a call answers that is given such data. -/
def AnsD (S : Nat → Prop) (B lo : Nat) (sh : List Sh) (A : List Dt) (W : World) (e : Ending) (w' : World) : Prop := ∃ c, e = .returned (.agg c.toArray) ∧ Dat S B lo w' sh A c ∧ Below W.heap.size W w'
theorem ansS_dat {S : Nat → Prop} {B lo : Nat} {sh : List Sh} {A : List Dt} {W w' : World} {e : Ending} {T : Nat → Prop} (h : AnsS sh A T W e w') (hT : ∀ b, T b → (S b ∧ b < B) ∨ lo ≤ b) (hl : lo ≤ W.heap.size) : AnsD S B lo sh A W e w' := by
  obtain ⟨c, F, he, r, f, hb⟩ := h
  refine ⟨c, he, ⟨F, r, fun b hb => ?_⟩, hb⟩
  rcases f b hb with q | q
  · exact hT b q
  · exact Or.inr (by omega)
theorem dat_block {S : Nat → Prop} {B lo : Nat} {W : World} {b : Pl.Bl} {c : List Value} (h : Dat S B lo W shSheetBlock (blD b) c) : ∃ a m, c = [.string b.kind, .string b.name, .slice a b.lines.length m] ∧ Dat S B lo W shLns [lnsD b.lines] [.slice a b.lines.length m] := by
  obtain ⟨F, r, f⟩ := h
  obtain ⟨F2, v2, hF, hc, r2⟩ := repSheetBlock r
  subst hc
  obtain ⟨a, m, rfl⟩ := r2.raw.len0
  refine ⟨a, m, rfl, F2, r2, fun b hb => f b ?_⟩
  rw [hF]; simp [hb]
theorem dat_sheet {S : Nat → Prop} {B lo : Nat} {W : World} {s : List Pl.Bl} {c : List Value} (h : Dat S B lo W shSheet [blsD s] c) : ∃ a m, c = [.slice a s.length m] ∧ Dat S B lo W shBls [blsD s] [.slice a s.length m] := by
  obtain ⟨F, r, f⟩ := h
  obtain ⟨F2, v2, hF, hc, r2⟩ := repSheet r
  subst hc
  obtain ⟨a, m, rfl⟩ := r2.raw.len0
  refine ⟨a, m, rfl, F2, r2, fun b hb => f b ?_⟩
  rw [hF]; simp [hb]
theorem dat_blk_mk {S : Nat → Prop} {B lo : Nat} {W : World} {k n : ByteArray} {l : List Pl.Ln} {v : Value} (h : Dat S B lo W shLns [lnsD l] [v]) : Dat S B lo W shSheetBlock (blD ⟨k, n, l⟩) [.string k, .string n, v] := by
  obtain ⟨F, r, f⟩ := h
  exact ⟨F ++ [], repSheetBlock_mk k n r, fun b hb => f b (by simpa using hb)⟩
theorem dat_sh_mk {S : Nat → Prop} {B lo : Nat} {W : World} {s : List Pl.Bl} {v : Value} (h : Dat S B lo W shBls [blsD s] [v]) : Dat S B lo W shSheet [blsD s] [v] := by
  obtain ⟨F, r, f⟩ := h
  exact ⟨F ++ [], repSheet_mk r, fun b hb => f b (by simpa using hb)⟩
theorem Rep.elE {w : World} {tt : Bool} {n q : Nat} {sh : List Sh} {G : List Nat} {es : List Dt} {vs : List Value} (h : Rep w tt (reps n sh) G es vs) (hq : q < n) {p o : Nat} (hr : w.rangeAt p o vs) : ∃ ve G', Rep w tt sh G' (Go.Proofs.Ytojcopamegmeeaa.el sh.length q es) ve ∧ w.rangeAt p (o + q * sh.length) ve ∧ ∀ b ∈ G', b ∈ G := by
  rw [reps_cut hq] at h
  obtain ⟨F1, F2, d1, d2, c1, c2, rfl, rfl, rfl, h1, h2⟩ := Rep.cut _ h
  obtain ⟨F3, F4, d3, d4, c3, c4, rfl, rfl, rfl, h3, h4⟩ := Rep.cut _ h2
  rw [el_mid (by rw [h1.raw.typ.len, reps_len]) h3.raw.typ.len]
  refine ⟨c3, F3, h3, ?_, fun b hb => by simp [hb]⟩
  have := (rA_cut (rA_cut hr).2).1
  rwa [h1.len, reps_len] at this
/-- The lines of such a list, with their words. -/
theorem dat_lns {S : Nat → Prop} {B lo : Nat} {W : World} {l : List Pl.Ln} {v : Value} (h : Dat S B lo W shLns [lnsD l] [v]) {k : Nat} (hk : k < l.length) : ∃ p o c a m, v = .slice (some ⟨p, o, none⟩) l.length c ∧ p < W.heap.size ∧ l.length ≤ maxLen ∧ W.rangeAt p (o + k * 2) [.string (l.getD k Pl.lnNo).key, .slice a (l.getD k Pl.lnNo).ws.length m] ∧ Dat S B lo W shTxs [.row (l.getD k Pl.lnNo).ws.length (txD (l.getD k Pl.lnNo).ws)] [.slice a (l.getD k Pl.lnNo).ws.length m] := by
  obtain ⟨F, r, f⟩ := h
  rcases r.slice with ⟨_, h0, _⟩ | ⟨p, o, c, u, m, G, hv, hF, hn, ho, hm, _, vs, hr, hR⟩
  · omega
  obtain ⟨ve, G', hE, hg, hG⟩ := hR.elE hk hr
  have e : el shSheetLine.length k (l.flatMap lnD) = lnD (l.getD k Pl.lnNo) := el_flat Pl.lnNo lnD 2 lnD_len l k hk
  rw [e] at hE
  obtain ⟨F2, v2, hF2, hc, r2⟩ := repSheetLine hE
  subst hc
  obtain ⟨a, m', hv2⟩ := r2.raw.len0
  subst hv2
  exact ⟨p, o, c, a, m', hv, ho.lt, hn.1, hg, F2, r2, fun b hb => f b (by rw [hF]; exact List.mem_cons_of_mem _ (hG b (by rw [hF2]; simp [hb])))⟩
/-- The blocks of such a list. -/
theorem dat_bls {S : Nat → Prop} {B lo : Nat} {W : World} {l : List Pl.Bl} {v : Value} (h : Dat S B lo W shBls [blsD l] [v]) {k : Nat} (hk : k < l.length) : ∃ p o c a m, v = .slice (some ⟨p, o, none⟩) l.length c ∧ p < W.heap.size ∧ l.length ≤ maxLen ∧ W.rangeAt p (o + k * 3) [.string (l.getD k Pl.blNo).kind, .string (l.getD k Pl.blNo).name, .slice a (l.getD k Pl.blNo).lines.length m] ∧ Dat S B lo W shLns [lnsD (l.getD k Pl.blNo).lines] [.slice a (l.getD k Pl.blNo).lines.length m] := by
  obtain ⟨F, r, f⟩ := h
  rcases r.slice with ⟨_, h0, _⟩ | ⟨p, o, c, u, m, G, hv, hF, hn, ho, hm, _, vs, hr, hR⟩
  · omega
  obtain ⟨ve, G', hE, hg, hG⟩ := hR.elE hk hr
  have e : el shSheetBlock.length k (l.flatMap blD) = blD (l.getD k Pl.blNo) := el_flat Pl.blNo blD 3 blD_len l k hk
  rw [e] at hE
  obtain ⟨F2, v2, hF2, hc, r2⟩ := repSheetBlock hE
  subst hc
  obtain ⟨a, m', hv2⟩ := r2.raw.len0
  subst hv2
  exact ⟨p, o, c, a, m', hv, ho.lt, hn.1, hg, F2, r2, fun b hb => f b (by rw [hF]; exact List.mem_cons_of_mem _ (hG b (by rw [hF2]; simp [hb])))⟩
namespace Pl
theorem putLn_len (k : ByteArray) (l : List Ln) (x : Ln) : (putLn k l x).length = l.length + 1 := by
  have := List.takeWhile_append_dropWhile (p := fun y => lineLess k y x) (l := l)
  have h2 : (l.takeWhile fun y => lineLess k y x).length + (l.dropWhile fun y => lineLess k y x).length = l.length := by rw [← List.length_append, this]
  simp only [putLn, putAt, List.length_append, List.length_cons]; omega
theorem putBl_len (l : List Bl) (x : Bl) : (putBl l x).length = l.length + 1 := by
  have := List.takeWhile_append_dropWhile (p := fun y => ahead y x) (l := l)
  have h2 : (l.takeWhile fun y => ahead y x).length + (l.dropWhile fun y => ahead y x).length = l.length := by rw [← List.length_append, this]
  simp only [putBl, putAt, List.length_append, List.length_cons]; omega
theorem putLn_mem (k : ByteArray) (l : List Ln) (x y : Ln) : y ∈ putLn k l x ↔ y = x ∨ y ∈ l := by
  have := List.takeWhile_append_dropWhile (p := fun y => lineLess k y x) (l := l)
  rw [putLn, putAt, List.mem_append, List.mem_cons]
  conv => rhs; rw [← this, List.mem_append]
  constructor <;> (rintro (h | h | h) <;> simp [h])
theorem putBl_mem (l : List Bl) (x y : Bl) : y ∈ putBl l x ↔ y = x ∨ y ∈ l := by
  have := List.takeWhile_append_dropWhile (p := fun y => ahead y x) (l := l)
  rw [putBl, putAt, List.mem_append, List.mem_cons]
  conv => rhs; rw [← this, List.mem_append]
  constructor <;> (rintro (h | h | h) <;> simp [h])
/-- Lines put in their places, one after the other. -/
def putLns (k : ByteArray) (l : List Ln) (xs : List Ln) : List Ln := xs.foldl (putLn k) l
def free (l : List Ln) (x : Ln) : Bool := decide ((linesOf l x.key).length = 0)
def ovLines (kind : ByteArray) (u o : List Ln) : List Ln := putLns kind (putLns kind [] o) (u.filter (free o))
def ovBl (u o : Bl) : Bl := ⟨o.kind, o.name, ovLines o.kind u.lines o.lines⟩
theorem putLns_len (k : ByteArray) : ∀ (xs l : List Ln), (putLns k l xs).length = l.length + xs.length
  | [], l => rfl
  | x :: xs, l => by
    rw [putLns, List.foldl_cons]
    have := putLns_len k xs (putLn k l x)
    rw [putLns] at this
    rw [this, putLn_len, List.length_cons]; omega
theorem putLns_mem (k : ByteArray) : ∀ (xs l : List Ln) (y : Ln), y ∈ putLns k l xs ↔ y ∈ l ∨ y ∈ xs
  | [], l, y => by simp [putLns]
  | x :: xs, l, y => by
    rw [putLns, List.foldl_cons]
    have := putLns_mem k xs (putLn k l x) y
    rw [putLns] at this
    rw [this, putLn_mem, List.mem_cons, or_assoc, or_left_comm]
theorem putLns_step (k : ByteArray) (l xs : List Ln) (x : Ln) : putLns k l (xs ++ [x]) = putLn k (putLns k l xs) x := by simp [putLns]
theorem filt_step {l : List Ln} {p : Ln → Bool} {k : Nat} (hk : k < l.length) : (l.take (k + 1)).filter p = if p (l.getD k lnNo) then (l.take k).filter p ++ [l.getD k lnNo] else (l.take k).filter p := by
  rw [take_snocD lnNo l k hk, List.filter_append, List.filter_cons, List.filter_nil]
  split <;> simp
end Pl
end Go.Proofs.Ytojcopamegmeeaa

namespace Go.Proofs.Ytojcopamegmeeaa
open Go.RowKit Go.Deep


/-- While a block is laid over another one. -/
structure Ob (S : Nat → Prop) (w : World) (b0 : Nat) (u o : Pl.Bl) (uv ov : Value) (acc : List Pl.Ln) (xv : Value) (W : World) : Prop where
  bel : Below w.heap.size w W
  ub : LBox W b0 [.string u.kind, .string u.name, uv]
  ob : LBox W (b0 + 1) [.string o.kind, .string o.name, ov]
  res : WBox W (b0 + 2) 42 [.string Pl.txNo, .string Pl.txNo, .slice none 0 0]
  x : WBox W (b0 + 3) 42 [.string o.kind, .string o.name, xv]
  dat : Dat S b0 (b0 + 4) W shLns [lnsD acc] [xv]
theorem Ob.later {S : Nat → Prop} {w W W' : World} {b0 : Nat} {u o : Pl.Bl} {uv ov xv : Value} {acc : List Pl.Ln} (h : Ob S w b0 u o uv ov acc xv W) (hb : Below W.heap.size W W') : Ob S w b0 u o uv ov acc xv W' := ⟨blw_trans h.bel hb, h.ub.later hb, h.ob.later hb, h.res.later hb, h.x.later hb, h.dat.later hb⟩
theorem Ob.put {S : Nat → Prop} {w W : World} {b0 : Nat} {u o : Pl.Bl} {uv ov xv yv : Value} {acc acc' : List Pl.Ln} (h : Ob S w b0 u o uv ov acc xv W) (hb : b0 = w.heap.size) (hd : Dat S b0 (b0 + 4) W shLns [lnsD acc'] [yv]) : Ob S w b0 u o uv ov acc' yv (W.setCells (b0 + 3) 0 [.string o.kind, .string o.name, yv]) := by
  have hm : Marks (fun b => b = b0 + 3) W (W.setCells (b0 + 3) 0 [.string o.kind, .string o.name, yv]) := mks_scs (S := fun b => b = b0 + 3) rfl _ _ _
  exact ⟨hm.below (fun b e => by omega) h.bel, h.ub.mks hm (by omega), h.ob.mks hm (by omega), h.res.mks hm (by omega), ⟨own_scs _ _ _ h.x.own, World.rangeAt_setCells_same _ _ _ _ (uthere h.x.own _ _ (by simp))⟩, hd.keep hm fun b e => by omega⟩
def VOa (S : Nat → Prop) (b0 : Nat) (p : Nat) (o2 : Nat) (oc : Nat) (k : Nat) (o : Pl.Bl) (x : Pl.Ln) (acc : List Pl.Ln) (xa : Option Addr) (wa : Option Addr) (xc : Nat) (wc : Nat) : Nat → Value → World → Prop
  | 0, vv, _ => vv = .agg #[.string o.kind, .string o.name, .slice xa acc.length xc]
  | 1, vv, _ => vv = .pointer (some ⟨(b0 + 1), 2, none⟩)
  | 2, vv, _ => vv = .slice (some ⟨p, o2, none⟩) o.lines.length oc
  | 3, vv, _ => vv = .int .i64 (k : Int)
  | 4, vv, _ => vv = .pointer (some ⟨p, o2 + k * 2, none⟩)
  | 5, vv, _ => vv = .agg #[.string x.key, .slice wa x.ws.length wc]
  | 6, vv, W => ∃ c, vv = .agg c.toArray ∧ Dat S b0 (b0 + 4) W shSheetBlock (blD ⟨o.kind, o.name, Pl.putLn o.kind acc x⟩) c
  | _, _, _ => True
theorem VOa_mono (S : Nat → Prop) (b0 : Nat) (p : Nat) (o2 : Nat) (oc : Nat) (k : Nat) (o : Pl.Bl) (x : Pl.Ln) (acc : List Pl.Ln) (xa : Option Addr) (wa : Option Addr) (xc : Nat) (wc : Nat) : ∀ jj vv W W', Below W.heap.size W W' → VOa S b0 p o2 oc k o x acc xa wa xc wc jj vv W → VOa S b0 p o2 oc k o x acc xa wa xc wc jj vv W' := by
  intro jj vv W W' hb h
  match jj with
  | 0 => exact h
  | 1 => exact h
  | 2 => exact h
  | 3 => exact h
  | 4 => exact h
  | 5 => exact h
  | 6 =>
    obtain ⟨c, h1, h2⟩ := h
    exact ⟨c, h1, h2.later hb⟩
  | n + 7 => exact trivial
def VOb (S : Nat → Prop) (b0 : Nat) (p : Nat) (o2 : Nat) (uc : Nat) (k : Nat) (u : Pl.Bl) (o : Pl.Bl) (x : Pl.Ln) (acc : List Pl.Ln) (xa : Option Addr) (wa : Option Addr) (xc : Nat) (wc : Nat) : Nat → Value → World → Prop
  | 0, vv, _ => vv = .agg #[.string o.kind, .string o.name, .slice xa acc.length xc]
  | 1, vv, _ => vv = .pointer (some ⟨b0, 2, none⟩)
  | 2, vv, _ => vv = .slice (some ⟨p, o2, none⟩) u.lines.length uc
  | 3, vv, _ => vv = .int .i64 (k : Int)
  | 4, vv, _ => vv = .pointer (some ⟨p, o2 + k * 2, none⟩)
  | 5, vv, _ => vv = .agg #[.string x.key, .slice wa x.ws.length wc]
  | 6, vv, W => ∃ c, vv = .agg c.toArray ∧ Dat S b0 (b0 + 4) W shSheetBlock (blD ⟨o.kind, o.name, Pl.putLn o.kind acc x⟩) c
  | _, _, _ => True
theorem VOb_mono (S : Nat → Prop) (b0 : Nat) (p : Nat) (o2 : Nat) (uc : Nat) (k : Nat) (u : Pl.Bl) (o : Pl.Bl) (x : Pl.Ln) (acc : List Pl.Ln) (xa : Option Addr) (wa : Option Addr) (xc : Nat) (wc : Nat) : ∀ jj vv W W', Below W.heap.size W W' → VOb S b0 p o2 uc k u o x acc xa wa xc wc jj vv W → VOb S b0 p o2 uc k u o x acc xa wa xc wc jj vv W' := by
  intro jj vv W W' hb h
  match jj with
  | 0 => exact h
  | 1 => exact h
  | 2 => exact h
  | 3 => exact h
  | 4 => exact h
  | 5 => exact h
  | 6 =>
    obtain ⟨c, h1, h2⟩ := h
    exact ⟨c, h1, h2.later hb⟩
  | n + 7 => exact trivial
def VOc (b0 : Nat) (p : Nat) (o2 : Nat) (uc : Nat) (k : Nat) (oc : Nat) (oa : Option Addr) (u : Pl.Bl) (o : Pl.Bl) (x : Pl.Ln) : Nat → Value → World → Prop
  | 0, vv, _ => vv = .agg #[.string o.kind, .string o.name, .slice oa o.lines.length oc]
  | 1, vv, _ => vv = .pointer (some ⟨b0, 2, none⟩)
  | 2, vv, _ => vv = .slice (some ⟨p, o2, none⟩) u.lines.length uc
  | 3, vv, _ => vv = .int .i64 (k : Int)
  | 4, vv, _ => vv = .pointer (some ⟨p, o2 + k * 2, none⟩)
  | 5, vv, _ => vv = .pointer (some ⟨p, o2 + k * 2, none⟩)
  | 6, vv, _ => vv = .string x.key
  | 7, vv, _ => ∃ a m, vv = .slice a (Pl.linesOf o.lines x.key).length m
  | 8, vv, _ => vv = .int .i64 ((Pl.linesOf o.lines x.key).length : Int)
  | 9, vv, _ => vv = .bool (Pl.free o.lines x)
  | _, _, _ => True
theorem VOc_mono (b0 : Nat) (p : Nat) (o2 : Nat) (uc : Nat) (k : Nat) (oc : Nat) (oa : Option Addr) (u : Pl.Bl) (o : Pl.Bl) (x : Pl.Ln) : ∀ jj vv W W', Below W.heap.size W W' → VOc b0 p o2 uc k oc oa u o x jj vv W → VOc b0 p o2 uc k oc oa u o x jj vv W' := by
  intro jj vv W W' hb h
  match jj with
  | 0 => exact h
  | 1 => exact h
  | 2 => exact h
  | 3 => exact h
  | 4 => exact h
  | 5 => exact h
  | 6 => exact h
  | 7 =>
    exact h
  | 8 => exact h
  | 9 => exact h
  | n + 10 => exact trivial

end Go.Proofs.Ytojcopamegmeeaa

namespace Go.Proofs.Ytojcopamegmeeaa
open Go.RowKit Go.Deep


theorem Dat.shift {S : Nat → Prop} {B lo pb : Nat} {W : World} {sh : List Sh} {A : List Dt} {c : List Value} (h : Dat S B lo W sh A c) (hp : W.heap.size ≤ pb) (lo' : Nat) : Dat (fun b => (S b ∧ b < B) ∨ lo ≤ b) pb lo' W sh A c := by
  obtain ⟨F, r, f⟩ := h
  exact ⟨F, r, fun b hb => Or.inl ⟨f b hb, Nat.lt_of_lt_of_le (r.lt b hb) hp⟩⟩
theorem Dat.back {S : Nat → Prop} {B lo pb lo' : Nat} {W : World} {sh : List Sh} {A : List Dt} {c : List Value} (h : Dat (fun b => (S b ∧ b < B) ∨ lo ≤ b) pb lo' W sh A c) (hl : lo ≤ lo') : Dat S B lo W sh A c := by
  obtain ⟨F, r, f⟩ := h
  refine ⟨F, r, fun b hb => ?_⟩
  rcases f b hb with q | q
  · exact q.1
  · exact Or.inr (by omega)
namespace Pl
def noIn (s : List Bl) (b : Bl) : Bool := (findB s b.kind b.name).isNone
def ovOne (u : List Bl) (b : Bl) : Bl := match findB u b.kind b.name with
  | some j => ovBl (u.getD j blNo) b
  | none => b
def putBls (l xs : List Bl) : List Bl := xs.foldl putBl l
def ovSheet (u o : List Bl) : List Bl := putBls (putBls [] (o.map (ovOne u))) (u.filter (noIn o))
def overOut (u o : List Bl) : List Bl := if validS u && validS o then (if validS (ovSheet u o) then ovSheet u o else []) else []
theorem putBls_len : ∀ (xs l : List Bl), (putBls l xs).length = l.length + xs.length
  | [], l => rfl
  | x :: xs, l => by
    rw [putBls, List.foldl_cons]
    have := putBls_len xs (putBl l x)
    rw [putBls] at this
    rw [this, putBl_len, List.length_cons]; omega
theorem putBls_mem : ∀ (xs l : List Bl) (y : Bl), y ∈ putBls l xs ↔ y ∈ l ∨ y ∈ xs
  | [], l, y => by simp [putBls]
  | x :: xs, l, y => by
    rw [putBls, List.foldl_cons]
    have := putBls_mem xs (putBl l x) y
    rw [putBls] at this
    rw [this, putBl_mem, List.mem_cons, or_assoc, or_left_comm]
theorem putBls_step (l xs : List Bl) (x : Bl) : putBls l (xs ++ [x]) = putBl (putBls l xs) x := by simp [putBls]
theorem filtB_step {l : List Bl} {p : Bl → Bool} {k : Nat} (hk : k < l.length) : (l.take (k + 1)).filter p = if p (l.getD k blNo) then (l.take k).filter p ++ [l.getD k blNo] else (l.take k).filter p := by
  rw [take_snocD blNo l k hk, List.filter_append, List.filter_cons, List.filter_nil]
  split <;> simp
theorem mapB_step {l : List Bl} {g : Bl → Bl} {k : Nat} (hk : k < l.length) : (l.take (k + 1)).map g = (l.take k).map g ++ [g (l.getD k blNo)] := by
  rw [take_snocD blNo l k hk, List.map_append]; rfl
theorem valid_len {s : List Bl} (h : validS s = true) : s.length ≤ 60 := by
  unfold validS at h
  simp only [Bool.and_eq_true, decide_eq_true_eq] at h
  exact h.1
end Pl
/-- A block of a size. -/
structure Sm (m : Nat) (b : Pl.Bl) : Prop where
  nm : b.name.size ≤ maxLen
  ln : b.lines.length ≤ m
  ws : ∀ x ∈ b.lines, x.ws.length ≤ 4194304 ∧ ∀ t ∈ x.ws, t.size ≤ maxLen
theorem Sm.mono {m m' : Nat} {b : Pl.Bl} (h : Sm m b) (hm : m ≤ m') : Sm m' b := ⟨h.nm, Nat.le_trans h.ln hm, h.ws⟩
theorem Sm.ov {m m' : Nat} {u o : Pl.Bl} (hu : Sm m u) (ho : Sm m' o) : Sm (m' + m) (Pl.ovBl u o) := by
  refine ⟨ho.nm, ?_, fun x hx => ?_⟩
  · show (Pl.putLns _ _ _).length ≤ _
    rw [Pl.putLns_len, Pl.putLns_len]
    have := List.length_filter_le (Pl.free o.lines) u.lines
    have := hu.ln; have := ho.ln
    rw [List.length_nil]; omega
  · have hx : x ∈ Pl.putLns _ _ _ := hx
    rw [Pl.putLns_mem, Pl.putLns_mem] at hx
    rcases hx with (hx | hx) | hx
    · cases hx
    · exact ho.ws x hx
    · exact hu.ws x (List.mem_filter.1 hx).1
theorem sm_tx {m : Nat} {s : List Pl.Bl} (h : ∀ b ∈ s, Sm m b) : okTx s := fun b hb => ⟨(h b hb).nm, fun x hx => ((h b hb).ws x hx).2⟩
theorem sm_at {m : Nat} {s : List Pl.Bl} (h : ∀ b ∈ s, Sm m b) {k : Nat} (hk : k < s.length) : Sm m (s.getD k Pl.blNo) := by
  have e : s.getD k Pl.blNo = s[k] := by simp [hk]
  rw [e]; exact h _ (List.getElem_mem hk)
theorem Sm.one {m : Nat} {u : List Pl.Bl} (hu : ∀ b ∈ u, Sm m b) {b : Pl.Bl} (hb : Sm m b) : Sm (m + m) (Pl.ovOne u b) := by
  unfold Pl.ovOne
  split
  · rename_i j hj
    exact (sm_at hu (Pl.findB_lt hj)).ov hb
  · exact hb.mono (by omega)
theorem sm_sheet {m : Nat} {u o : List Pl.Bl} (hu : ∀ b ∈ u, Sm m b) (ho : ∀ b ∈ o, Sm m b) : ∀ b ∈ Pl.ovSheet u o, Sm (m + m) b := fun b hb => by
  unfold Pl.ovSheet at hb
  rw [Pl.putBls_mem, Pl.putBls_mem] at hb
  rcases hb with (hb | hb) | hb
  · cases hb
  · obtain ⟨y, hy, rfl⟩ := List.mem_map.1 hb
    exact Sm.one hu (ho y hy)
  · exact (hu b (List.mem_filter.1 hb).1).mono (by omega)
theorem ixI_neg {o : Option Nat} : (decide (Pl.ixI o < 0)) = o.isNone := by
  cases o with
  | none => rfl
  | some n => exact decide_eq_false (by show ¬ ((n : Int) < 0); omega)
end Go.Proofs.Ytojcopamegmeeaa
