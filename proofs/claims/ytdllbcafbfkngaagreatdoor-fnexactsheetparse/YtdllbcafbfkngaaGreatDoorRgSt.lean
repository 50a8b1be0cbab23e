/-
  A drawn region whose last operation is a store that all others flow into; the others read, make and call.
-/
import Derived.Test.YtdllbcafbfkngaaGreatDoorRegC
import Derived.Test.YtdllbcafbfkngaaGreatDoorRgF
namespace Go.Proofs.YtdllbcafbfkngaaGreatDoor
open Go.RowKit Go.Deep

namespace RY
theorem region_st {P : Program} {id : Nat} {Q : Exit → Act → World → Prop} {a0 : Act} {w : World} {l : List Oper} (v : World) (hv : Below v.heap.size v w)
    (V : Nat → Value → World → Prop) (hVm : ∀ j u W W', Below W.heap.size W W' → V j u W → V j u W')
    (K : (Nat → Value) → World → Prop) (n fuel : Nat)
    (hm : P.follows .mixedOrders = true) (hasc : asc .any l.toArray = true) (hap : apartB l = true) (hpl : plainB l a0.tmps.size = true)
    (hlen : l.length = n + 1) (D : List Nat) (hD : (D.all fun d => decide (d < n) && waits l n d) = true)
    (hclo : ((List.range n).all fun i => (clo l fuel D).contains i) = true)
    (oS : Oper) (hS : l[n]? = some oS) (hSd : oS.dst = none)
    (hds : ((l.take n).all fun o => o.dst.isSome) = true)
    (hop : ∀ (i : Nat) (o : Oper), l[i]? = some o → i < n → ∀ (a : Act) (W : World), Below v.heap.size v W → (∀ k, noDst l k = true → a.eval (.tmp k) = a0.eval (.tmp k)) →
      (∀ (j : Nat) (o' : Oper) (k : Nat), l[j]? = some o' → o'.dst = some k → (∃ e ∈ o.after, e.on = j ∧ Region.binds .any e = true) → j < n → V j (a.eval (.tmp k)) W) →
      (∃ u W', (execOp a.eval o).run P W = .ok (.value u) W' ∧ Below W.heap.size W W' ∧ V i u W') ∨
      (∃ f args, (execOp a.eval o).run P W = .ok (.enter f args) W ∧ Calls P f args W fun e W' => ∃ u, e = .returned u ∧ Below W.heap.size W W' ∧ V i u W'))
    (hfin : ∀ (a : Act) (W : World) (vals : Nat → Value), Below v.heap.size v W → (∀ k, noDst l k = true → a.eval (.tmp k) = a0.eval (.tmp k)) → (∀ j, j < n → V j (vals j) W) →
      (∀ (j : Nat) (o' : Oper) (k : Nat), l[j]? = some o' → o'.dst = some k → (∃ e ∈ oS.after, e.on = j ∧ Region.binds .any e = true) → j < n → a.eval (.tmp k) = vals j) →
      ∃ W', (execOp a.eval oS).run P W = .ok .skip W' ∧ K vals W')
    (hend : ∀ (vals vs : Nat → Value) (W : World), K vals W → (∀ (i : Nat) (o : Oper) (k : Nat), l[i]? = some o → o.dst = some k → vs k = vals i) → Q .normal (putAll l a0 vs) W) :
    (Code.region id l.toArray true).wp P Q a0 w := by
  rw [List.all_eq_true] at hD
  refine region_TC (fun _ _ => True) (fun up vals W => (up n = false → Below v.heap.size v W ∧ ∀ j, j < n → up j = true → V j (vals j) W) ∧ (up n = true → K vals W)) hm hasc hap hpl ?_ ?_ ?_
  · intro vals
    exact ⟨fun _ => ⟨Below.drew hv, fun j _ h => by simp at h⟩, fun h => by simp at h⟩
  · intro up vals i o ho hi hcl a W hk hdep hT
    have hil : i < n + 1 := by rw [← hlen]; exact (List.getElem?_eq_some_iff.1 ho).1
    have hcl2 : (∀ d ∈ D, up d = true) → ∀ j, j < n → up j = true := fun h j hj => by
      rw [List.all_eq_true] at hclo
      have := hclo j (by simp; omega)
      exact clo_up hcl fuel D h j (by simpa using this)
    by_cases hS0 : up n = true
    · exfalso
      have hall : ∀ j, j < n + 1 → up j = true := fun j hj => by
        by_cases e : j = n
        · rw [e]; exact hS0
        · exact hcl2 (fun d hd => by
            have h2 := hD d hd
            rw [Bool.and_eq_true, decide_eq_true_eq] at h2
            obtain ⟨e, he, hej, hbd⟩ := waits_spec h2.2 hS
            rw [← hej]; exact hcl n oS e hS he hbd hS0) j (by omega)
      rw [hall i hil] at hi; cases hi
    · have hS0 : up n = false := by simpa using hS0
      obtain ⟨hBW, hV⟩ := hT.1 hS0
      have hdst : i < n → o.dst.isSome = true := fun h => by
        rw [List.all_eq_true] at hds
        exact hds _ (List.mem_of_getElem? (i := i) (by rw [List.getElem?_take_of_lt h]; exact ho))
      by_cases hin : i < n
      · have key : ∀ u W', Below W.heap.size W W' → V i u W' → ((fun j => (j == i) || up j) n = false → Below v.heap.size v W' ∧ ∀ j, j < n → (fun j => (j == i) || up j) j = true → V j ((fun j => if j = i then u else vals j) j) W') ∧ ((fun j => (j == i) || up j) n = true → K (fun j => if j = i then u else vals j) W') := fun u W' hW hVi => by
          refine ⟨fun _ => ⟨blw_trans hBW hW, fun j hj hu => ?_⟩, fun h => ?_⟩
          · by_cases e : j = i
            · simp only [e, if_true]; exact hVi
            · have hu : up j = true := by simpa [e] using hu
              simp only [e, if_false]
              exact hVm _ _ _ _ hW (hV j hj hu)
          · have : ¬ n = i := by omega
            have : up n = true := by simpa [this] using h
            rw [hS0] at this; cases this
        rcases hop i o ho hin a W hBW hk (fun j o' k hj hk' hd hjn => by
            obtain ⟨q1, q2, _⟩ := hdep j o' k hj hk' hd
            rw [q2]; exact hV j hjn q1) with ⟨u, W', hr, hW, hVi⟩ | ⟨f, args, hr, hc⟩
        · exact Or.inl ⟨u, W', hr, hdst hin, trivial, key u W' hW hVi⟩
        · refine Or.inr (Or.inr ⟨f, args, hr, hdst hin, hc.mono ?_⟩)
          rintro e W' ⟨u, rfl, hW, hVi⟩
          exact ⟨u, rfl, trivial, key u W' hW hVi⟩
      · obtain rfl : i = n := by omega
        rw [hS] at ho
        injection ho with ho
        subst ho
        have hsub : ∀ j, j < i → up j = true := hcl2 fun d hd => by
          have h2 := hD d hd
          rw [Bool.and_eq_true, decide_eq_true_eq] at h2
          obtain ⟨e, he, hej, hbd⟩ := waits_spec h2.2 hS
          have hdl : d < l.length := by rw [hlen]; omega
          have hq : (l[d]).dst.isSome = true := by
            rw [List.all_eq_true] at hds
            exact hds _ (List.mem_of_getElem? (i := d) (by rw [List.getElem?_take_of_lt h2.1]; simp))
          obtain ⟨k, hk'⟩ := Option.isSome_iff_exists.1 hq
          exact (hdep d l[d] k (by simp) hk' ⟨e, he, hej, hbd⟩).1
        obtain ⟨W', hr, hK⟩ := hfin a W vals hBW hk (fun j hj => hV j hj (hsub j hj)) (fun j o' k hj hk' hd hjn => (hdep j o' k hj hk' hd).2.1)
        exact Or.inr (Or.inl ⟨W', hr, hSd, fun h => by simp at h, fun _ => hK⟩)
  · intro up vals vs W hall hv2 hT
    exact hend vals vs W (hT.2 (hall n (by omega))) (fun i o k hi hd => (hv2 i o k hi hd).1)
end RY
end Go.Proofs.YtdllbcafbfkngaaGreatDoor
