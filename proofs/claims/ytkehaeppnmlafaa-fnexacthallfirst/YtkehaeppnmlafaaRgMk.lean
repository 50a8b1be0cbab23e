/-
  A drawn region that makes a struct of what was loaded and what calls gave, and stores it: what the calls gave lies apart.
-/
import Derived.Test.YtkehaeppnmlafaaRegC
import Derived.Test.YtkehaeppnmlafaaRgF
namespace Go.Proofs.Ytkehaeppnmlafaa
open Go.RowKit Go.Deep

namespace RY
theorem exec_store_mid {P : Program} {op : Oper} {a : Act} {W : World} (ty : TypeId) (x y : Operand) (ho : op.op = .store ty x y) {b o : Nat} {cs : List Value} (hx : a.eval x = .pointer (some ⟨b, o, none⟩)) (hy : a.eval y = .agg cs.toArray)
    (ht : W.there b o cs.toArray.size) (hi : (P.info? ty).map (·.size) = some cs.toArray.size) (h1 : cs.toArray.all (·.oneCell') = true) : (execOp a.eval op).run P W = .ok .skip (W.setCells b o cs) := by
  unfold execOp
  simp only [ho, hx, hy, Instr.storeAt, Instr.sureAddr, Sem.run_bind, Sem.run_pure, Result.andThen_ok, run_storeVar_mid W b o ty cs.toArray ht hi h1]
theorem region_mk {P : Program} {id : Nat} {Q : Exit → Act → World → Prop} {a0 : Act} {w : World} {l : List Oper} (v : World) (hv : Below v.heap.size v w)
    (V : Nat → Value → World → Nat → Nat → Prop) (hVm : ∀ j u W W' lo hi, Below W.heap.size W W' → V j u W lo hi → V j u W' lo hi)
    (Bf : (Nat → Value) → Value) (D : List Nat) (hBf : ∀ f g : Nat → Value, (∀ d ∈ D, f d = g d) → Bf f = Bf g)
    (K : (Nat → Value) → World → Prop) (n kb fuel : Nat)
    (hm : P.follows .mixedOrders = true) (hasc : asc .any l.toArray = true) (hap : apartB l = true) (hpl : plainB l a0.tmps.size = true)
    (hlen : l.length = n + 2) (hD : (D.all fun d => decide (d < n) && waits l n d) = true)
    (hclo : ((List.range n).all fun i => (clo l fuel [n]).contains i) = true)
    (oB oS : Oper) (hB : l[n]? = some oB) (hBd : oB.dst = some kb) (hS : l[n + 1]? = some oS) (hSd : oS.dst = none) (hSw : waits l (n + 1) n = true)
    (hds : ((l.take n).all fun o => o.dst.isSome) = true)
    (hop : ∀ (i : Nat) (o : Oper), l[i]? = some o → i < n → ∀ (a : Act) (W : World), Below v.heap.size v W → (∀ k, noDst l k = true → a.eval (.tmp k) = a0.eval (.tmp k)) →
      (∀ (j : Nat) (o' : Oper) (k : Nat), l[j]? = some o' → o'.dst = some k → (∃ e ∈ o.after, e.on = j ∧ Region.binds .any e = true) → j < n → ∃ lo hi, V j (a.eval (.tmp k)) W lo hi) →
      (∃ u W', (execOp a.eval o).run P W = .ok (.value u) W' ∧ Below W.heap.size W W' ∧ V i u W' W.heap.size W'.heap.size) ∨
      (∃ f args, (execOp a.eval o).run P W = .ok (.enter f args) W ∧ Calls P f args W fun e W' => ∃ u, e = .returned u ∧ Below W.heap.size W W' ∧ V i u W' W.heap.size W'.heap.size))
    (hbu : ∀ (a : Act) (W : World) (vals : Nat → Value), Below v.heap.size v W → (∀ k, noDst l k = true → a.eval (.tmp k) = a0.eval (.tmp k)) →
      (∀ (j : Nat) (o' : Oper) (k : Nat), l[j]? = some o' → o'.dst = some k → (∃ e ∈ oB.after, e.on = j ∧ Region.binds .any e = true) → j < n → a.eval (.tmp k) = vals j ∧ ∃ lo hi, V j (vals j) W lo hi) →
      (execOp a.eval oB).run P W = .ok (.value (Bf vals)) W)
    (hfin : ∀ (a : Act) (W : World) (vals : Nat → Value) (lo hi : Nat → Nat), Below v.heap.size v W → (∀ k, noDst l k = true → a.eval (.tmp k) = a0.eval (.tmp k)) →
      (∀ j, j < n → v.heap.size ≤ lo j ∧ hi j ≤ W.heap.size ∧ V j (vals j) W (lo j) (hi j)) → (∀ i j, i < n → j < n → i ≠ j → hi i ≤ lo j ∨ hi j ≤ lo i) → a.eval (.tmp kb) = Bf vals →
      ∃ W', (execOp a.eval oS).run P W = .ok .skip W' ∧ K vals W')
    (hend : ∀ (vals vs : Nat → Value) (W : World), K vals W → (∀ (i : Nat) (o : Oper) (k : Nat), l[i]? = some o → o.dst = some k → vs k = vals i) → Q .normal (putAll l a0 vs) W) :
    (Code.region id l.toArray true).wp P Q a0 w := by
  rw [List.all_eq_true] at hD
  refine region_TC (fun _ _ => True) (fun up vals W => (up (n + 1) = false → Below v.heap.size v W ∧ (up n = true → vals n = Bf vals) ∧ ∃ lo hi : Nat → Nat, (∀ j, j < n → up j = true → v.heap.size ≤ lo j ∧ hi j ≤ W.heap.size ∧ V j (vals j) W (lo j) (hi j)) ∧ (∀ i j, i < n → j < n → up i = true → up j = true → i ≠ j → hi i ≤ lo j ∨ hi j ≤ lo i)) ∧ (up (n + 1) = true → K vals W)) hm hasc hap hpl ?_ ?_ ?_
  · intro vals
    exact ⟨fun _ => ⟨Below.drew hv, fun h => by simp at h, fun _ => 0, fun _ => 0, fun j _ h => by simp at h, fun i j _ _ h => by simp at h⟩, fun h => by simp at h⟩
  · intro up vals i o ho hi hcl a W hk hdep hT
    have hil : i < n + 2 := by rw [← hlen]; exact (List.getElem?_eq_some_iff.1 ho).1
    have hupn : up n = true → ∀ j, j < n → up j = true := fun hun j hj => by
      rw [List.all_eq_true] at hclo
      have := hclo j (by simp; omega)
      exact clo_up hcl fuel [n] (fun x hx => by simp at hx; rw [hx]; exact hun) j (by simpa using this)
    by_cases hS0 : up (n + 1) = true
    · exfalso
      obtain ⟨e, he, hej, hbd⟩ := waits_spec hSw hS
      have hun : up n = true := by rw [← hej]; exact hcl (n + 1) oS e hS he hbd hS0
      have hall : ∀ j, j < n + 2 → up j = true := fun j hj => by
        by_cases e : j = n + 1
        · rw [e]; exact hS0
        · by_cases e2 : j = n
          · rw [e2]; exact hun
          · exact hupn hun j (by omega) 
      rw [hall i hil] at hi; cases hi
    · have hS0 : up (n + 1) = false := by simpa using hS0
      obtain ⟨hBW, hb, lo, hi', hV, hdj⟩ := hT.1 hS0
      have hdst : i < n → o.dst.isSome = true := fun h => by
        rw [List.all_eq_true] at hds
        exact hds _ (List.mem_of_getElem? (i := i) (by rw [List.getElem?_take_of_lt h]; exact ho))
      by_cases hin : i < n
      · have key : ∀ u W', Below W.heap.size W W' → V i u W' W.heap.size W'.heap.size → ((fun j => (j == i) || up j) (n + 1) = false → Below v.heap.size v W' ∧ ((fun j => (j == i) || up j) n = true → (fun j => if j = i then u else vals j) n = Bf (fun j => if j = i then u else vals j)) ∧ ∃ lo hi : Nat → Nat, (∀ j, j < n → (fun j => (j == i) || up j) j = true → v.heap.size ≤ lo j ∧ hi j ≤ W'.heap.size ∧ V j ((fun j => if j = i then u else vals j) j) W' (lo j) (hi j)) ∧ (∀ i_1 j, i_1 < n → j < n → (fun j => (j == i) || up j) i_1 = true → (fun j => (j == i) || up j) j = true → i_1 ≠ j → hi i_1 ≤ lo j ∨ hi j ≤ lo i_1)) ∧ ((fun j => (j == i) || up j) (n + 1) = true → K (fun j => if j = i then u else vals j) W') := fun u W' hW hVi => by
          refine ⟨fun _ => ⟨blw_trans hBW hW, fun hn => ?_, fun j => if j = i then W.heap.size else lo j, fun j => if j = i then W'.heap.size else hi' j, fun j hj hu => ?_, fun x y hx hy ux uy hxy => ?_⟩, fun h => ?_⟩
          · have hni : ¬ n = i := by omega
            have hun : up n = true := by simpa [hni] using hn
            simp only [hni, if_false]
            rw [hb hun]
            refine hBf _ _ fun d hd => ?_
            have h2 := hD d hd
            rw [Bool.and_eq_true, decide_eq_true_eq] at h2
            obtain ⟨e, he, hej, hbd⟩ := waits_spec h2.2 hB
            have hud : up d = true := by rw [← hej]; exact hcl n oB e hB he hbd hun
            have : ¬ d = i := fun q => by rw [q, hi] at hud; cases hud
            simp only [this, if_false]
          · by_cases e : j = i
            · simp only [e, if_true]
              exact ⟨hBW.size, Nat.le_refl _, hVi⟩
            · have hu : up j = true := by simpa [e] using hu
              simp only [e, if_false]
              obtain ⟨q1, q2, q3⟩ := hV j hj hu
              exact ⟨q1, Nat.le_trans q2 hW.size, hVm _ _ _ _ _ _ hW q3⟩
          · by_cases e1 : x = i
            · have e2 : ¬ y = i := fun q => hxy (e1.trans q.symm)
              have hu : up y = true := by simpa [e2] using uy
              simp only [e1, e2, if_true, if_false]
              exact Or.inr (hV y hy hu).2.1
            · have hu : up x = true := by simpa [e1] using ux
              by_cases e2 : y = i
              · simp only [e1, e2, if_true, if_false]
                exact Or.inl (hV x hx hu).2.1
              · have hu2 : up y = true := by simpa [e2] using uy
                simp only [e1, e2, if_false]
                exact hdj x y hx hy hu hu2 hxy
          · have : ¬ n + 1 = i := by omega
            have : up (n + 1) = true := by simpa [this] using h
            rw [hS0] at this; cases this
        rcases hop i o ho hin a W hBW hk (fun j o' k hj hk' hd hjn => by
            obtain ⟨q1, q2, _⟩ := hdep j o' k hj hk' hd
            rw [q2]; exact ⟨_, _, (hV j hjn q1).2.2⟩) with ⟨u, W', hr, hW, hVi⟩ | ⟨f, args, hr, hc⟩
        · exact Or.inl ⟨u, W', hr, hdst hin, trivial, key u W' hW hVi⟩
        · refine Or.inr (Or.inr ⟨f, args, hr, hdst hin, hc.mono ?_⟩)
          rintro e W' ⟨u, rfl, hW, hVi⟩
          exact ⟨u, rfl, trivial, key u W' hW hVi⟩
      · by_cases hin2 : i = n
        · subst hin2
          rw [hB] at ho
          injection ho with ho
          subst ho
          have hr := hbu a W vals hBW hk (fun j o' k hj hk' hd hjn => by
            obtain ⟨q1, q2, _⟩ := hdep j o' k hj hk' hd
            exact ⟨q2, _, _, (hV j hjn q1).2.2⟩)
          have hne : ∀ j, j < i → ¬ j = i := fun j hj => by omega
          have hBe : Bf (fun j => if j = i then Bf vals else vals j) = Bf vals := hBf _ _ fun d hd => by
            have h2 := hD d hd
            rw [Bool.and_eq_true, decide_eq_true_eq] at h2
            simp only [hne d h2.1, if_false]
          refine Or.inl ⟨_, W, hr, by rw [hBd]; rfl, trivial, fun _ => ⟨hBW, fun _ => ?_, lo, hi', fun j hj hu => ?_, fun x y hx hy ux uy hxy => ?_⟩, fun h => ?_⟩
          · simp only [if_true]; exact hBe.symm
          · have hu : up j = true := by simpa [hne j hj] using hu
            simp only [hne j hj, if_false]
            exact hV j hj hu
          · exact hdj x y hx hy (by simpa [hne x hx] using ux) (by simpa [hne y hy] using uy) hxy
          · have : ¬ i + 1 = i := by omega
            have : up (i + 1) = true := by simpa [this] using h
            rw [hS0] at this; cases this
        · obtain rfl : i = n + 1 := by omega
          rw [hS] at ho
          injection ho with ho
          subst ho
          obtain ⟨e, he, hej, hbd⟩ := waits_spec hSw hS
          obtain ⟨q1, q2, _⟩ := hdep n oB kb hB hBd ⟨e, he, hej, hbd⟩
          have hall := hupn q1
          obtain ⟨W', hr, hK⟩ := hfin a W vals lo hi' hBW hk (fun j hj => hV j hj (hall j hj)) (fun x y hx hy hxy => hdj x y hx hy (hall x hx) (hall y hy) hxy) (q2.trans (hb q1))
          exact Or.inr (Or.inl ⟨W', hr, hSd, fun h => by simp at h, fun _ => hK⟩)
  · intro up vals vs W hall hv2 hT
    exact hend vals vs W (hT.2 (hall (n + 1) (by omega))) (fun i o k hi hd => (hv2 i o k hi hd).1)
end RY
end Go.Proofs.Ytkehaeppnmlafaa
