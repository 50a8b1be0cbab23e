/-
  The same where calls read a reader on: 'x.f = append(x.f, draw(r, ..))'.
-/
import Derived.Test.YtfhobegepiijhaaRgFs
import Derived.Test.YtfhobegepiijhaaEDr
namespace Go.Proofs.Ytfhobegepiijhaa
open Go.RowKit Go.Deep
namespace RY

theorem cnt_or (up : Nat → Bool) (i n : Nat) (hi : i < n) (h : up i = false) : (List.range n).countP (fun j => (j == i) || up j) = (List.range n).countP up + 1 := by
  induction n with
  | zero => omega
  | succ n ih =>
    rw [List.range_succ, List.countP_append, List.countP_append, List.countP_singleton, List.countP_singleton]
    by_cases e : i = n
    · subst e
      have : (List.range i).countP (fun j => (j == i) || up j) = (List.range i).countP up := by
        apply List.countP_congr
        intro j hj
        have := List.mem_range.1 hj
        have e : (j == i) = false := by simp; omega
        rw [e]; simp
      rw [this, h]; simp
    · rw [ih (by omega)]
      have e2 : (n == i) = false := by simp; omega
      rw [e2]; simp; omega
theorem cnt_off (up : Nat → Bool) (i n : Nat) (hi : n ≤ i) : (List.range n).countP (fun j => (j == i) || up j) = (List.range n).countP up := by
  apply List.countP_congr
  intro j hj
  have := List.mem_range.1 hj
  have e : (j == i) = false := by simp; omega
  rw [e]; simp
theorem cnt_n (up : Nat → Bool) (n : Nat) : (List.range n).countP up ≤ n := by
  have := List.countP_le_length (p := up) (l := List.range n)
  simpa using this
theorem region_finR {P : Program} {id : Nat} {Q : Exit → Act → World → Prop} {a0 : Act} {w : World} {l : List Oper} (R : Nat) (vv : Value) (len p0 : Nat) (hr0 : Rd w R vv len p0) (V : Nat → Value → World → Prop) (hVm : ∀ j u W W', Fr R W W' → R < W.heap.size → V j u W → V j u W') (K K2 : Value → World → Prop) (pv : Value) (n fuel kL kP : Nat)
    (hm : P.follows .mixedOrders = true) (hasc : asc .any l.toArray = true) (hap : apartB l = true) (hpl : plainB l a0.tmps.size = true)
    (hclo : ((List.range n).all fun i => (clo l fuel [n]).contains i) = true) (hlen : l.length = n + 3) (hds : ((l.take (n + 2)).all fun o => o.dst.isSome) = true)
    (oL oP oS : Oper) (hL : l[n]? = some oL) (hLd : oL.dst = some kL) (hP : l[n + 1]? = some oP) (hPd : oP.dst = some kP) (hS : l[n + 2]? = some oS) (hSd : oS.dst = none) (hSL : waits l (n + 2) n = true) (hSP : waits l (n + 2) (n + 1) = true)
    (hop : ∀ (i : Nat) (o : Oper), l[i]? = some o → i < n → ∀ (a : Act) (W : World) (p : Nat), Fr R w W → Rd W R vv len p → p ≤ p0 + 1000 * n → (∀ k, noDst l k = true → a.eval (.tmp k) = a0.eval (.tmp k)) →
      (∀ (j : Nat) (o' : Oper) (k : Nat), l[j]? = some o' → o'.dst = some k → (∃ e ∈ o.after, e.on = j ∧ Region.binds .any e = true) → j < n → V j (a.eval (.tmp k)) W) →
      (∃ u W', (execOp a.eval o).run P W = .ok (.value u) W' ∧ Below W.heap.size W W' ∧ V i u W') ∨ (∃ f args, (execOp a.eval o).run P W = .ok (.enter f args) W ∧ Calls P f args W fun e W' => ∃ u, e = .returned u ∧ Fr R W W' ∧ (∃ q, q ≤ p + 1000 ∧ Rd W' R vv len q) ∧ V i u W'))
    (hfin : ∀ (a : Act) (W : World) (p : Nat), Fr R w W → Rd W R vv len p → p ≤ p0 + 1000 * n → (∀ k, noDst l k = true → a.eval (.tmp k) = a0.eval (.tmp k)) →
      (∀ (j : Nat) (o' : Oper) (k : Nat), l[j]? = some o' → o'.dst = some k → (∃ e ∈ oL.after, e.on = j ∧ Region.binds .any e = true) → j < n → V j (a.eval (.tmp k)) W) →
      ∃ u W', (execOp a.eval oL).run P W = .ok (.value u) W' ∧ K u W')
    (hpt : ∀ (a : Act) (W : World), (∀ k, noDst l k = true → a.eval (.tmp k) = a0.eval (.tmp k)) → (execOp a.eval oP).run P W = .ok (.value pv) W)
    (hst : ∀ (a : Act) (W : World), K (a.eval (.tmp kL)) W → a.eval (.tmp kP) = pv → ∃ W', (execOp a.eval oS).run P W = .ok .skip W' ∧ K2 (a.eval (.tmp kL)) W')
    (hend : ∀ (vs : Nat → Value) (W : World), K2 (vs kL) W → vs kP = pv → Q .normal (putAll l a0 vs) W) :
    (Code.region id l.toArray true).wp P Q a0 w := by
  have hdst : ∀ {i : Nat} {o : Oper}, l[i]? = some o → i < n + 2 → o.dst.isSome = true := fun h hi => by
    rw [List.all_eq_true] at hds
    exact hds _ (List.mem_of_getElem? ((List.getElem?_take_of_lt hi).trans h))
  refine region_TO (fun _ _ => True) (fun up vals W => (up n = false → up (n + 2) = false ∧ (Fr R w W ∧ ∃ p, p ≤ p0 + 1000 * (List.range n).countP up ∧ Rd W R vv len p) ∧ ∀ j, j < n → up j = true → V j (vals j) W) ∧ (up n = true → up (n + 2) = false → K (vals n) W) ∧ (up (n + 1) = true → vals (n + 1) = pv) ∧ (up (n + 2) = true → K2 (vals n) W)) hm hasc hap hpl ?_ ?_ ?_
  · intro vals
    exact ⟨fun _ => ⟨rfl, ⟨Fr.of_below (Below.drew (Below.refl _ _)) hr0.own.lt, p0, by omega, hr0.later (Below.drew (Below.refl _ _))⟩, fun _ _ h => (by cases h)⟩, fun h => (by cases h), fun h => (by cases h), fun h => (by cases h)⟩
  · intro up vals i o ho hi hcl a W hk hd hT
    have hkk : ∀ k, noDst l k = true → a.eval (.tmp k) = a0.eval (.tmp k) := fun k h => hk k fun j o' hj hj' => absurd hj' (noDst_spec h hj)
    have hall : up n = true → ∀ j, j < n → up j = true := fun hn j hj => by
      rw [List.all_eq_true] at hclo
      have := hclo j (List.mem_range.2 hj)
      rw [List.contains_iff_mem] at this
      exact clo_up hcl fuel [n] (by simpa using hn) j this
    have hil : i < n + 3 := by rw [← hlen]; exact (List.getElem?_eq_some_iff.1 ho).1
    have hS2 : up (n + 2) = true → up n = true ∧ up (n + 1) = true := fun h => by
      obtain ⟨e, he, h4, h5⟩ := waits_spec hSL hS
      obtain ⟨e', he', h4', h5'⟩ := waits_spec hSP hS
      exact ⟨by have := hcl (n + 2) oS e hS he h5 h; rwa [h4] at this, by have := hcl (n + 2) oS e' hS he' h5' h; rwa [h4'] at this⟩
    by_cases h1 : i < n
    · have hn : up n = false := by
        cases e : up n
        · rfl
        · rw [hall e i h1] at hi; cases hi
      obtain ⟨hn2, hB, hV⟩ := hT.1 hn
      obtain ⟨hF, p, hp, hR⟩ := hB
      have hcn := cnt_n up n
      have hop' := hop i o ho h1 a W p hF hR (by omega) hkk
        (fun j o' k hj hk' hdep hjn => by
          obtain ⟨q1, q2, _⟩ := hd j o' k hj hk' hdep
          rw [q2]; exact hV j hjn q1)
      have e0 : n ≠ i := by omega
      have e1 : n + 1 ≠ i := by omega
      have e2 : n + 2 ≠ i := by omega
      have stp : ∀ u W', Fr R W W' → (∃ q, q ≤ p + 1000 ∧ Rd W' R vv len q) → V i u W' → (((fun j => (j == i) || up j) n = false → (fun j => (j == i) || up j) (n + 2) = false ∧ (Fr R w W' ∧ ∃ p, p ≤ p0 + 1000 * (List.range n).countP (fun j => (j == i) || up j) ∧ Rd W' R vv len p) ∧ ∀ j, j < n → (fun j => (j == i) || up j) j = true → V j ((fun j => if j = i then u else vals j) j) W') ∧ ((fun j => (j == i) || up j) n = true → (fun j => (j == i) || up j) (n + 2) = false → K ((fun j => if j = i then u else vals j) n) W') ∧ ((fun j => (j == i) || up j) (n + 1) = true → (fun j => if j = i then u else vals j) (n + 1) = pv) ∧ ((fun j => (j == i) || up j) (n + 2) = true → K2 ((fun j => if j = i then u else vals j) n) W')) := by
        intro u W' hb ⟨q, hq, hRq⟩ hu
        refine ⟨fun _ => ⟨?_, ⟨hF.trans hb, q, Nat.le_trans hq (Nat.le_trans (Nat.add_le_add_right hp 1000) (by rw [cnt_or up i n h1 hi, Nat.mul_add, Nat.mul_one, Nat.add_assoc]; exact Nat.le_refl _)), hRq⟩, fun j hj hup => ?_⟩, fun h => ?_, fun h => ?_, fun h => ?_⟩
        · simpa [e2] using hn2
        · by_cases e : j = i
          · subst e; dsimp only; rw [if_pos rfl]; exact hu
          · dsimp only; rw [if_neg e]
            have : up j = true := by simpa [e] using hup
            exact hVm _ _ _ _ hb hR.own.lt (hV j hj this)
        · have : up n = true := by simpa [e0] using h
          rw [hn] at this; cases this
        · dsimp only; rw [if_neg e1]; exact hT.2.2.1 (by simpa [e1] using h)
        · have : up (n + 2) = true := by simpa [e2] using h
          rw [hn2] at this; cases this
      rcases hop' with ⟨u, W', hr, hb, hu⟩ | ⟨f, args, hr, hc⟩
      · exact Or.inl ⟨u, W', hr, hdst ho (by omega), trivial, stp u W' (Fr.of_below hb hR.own.lt) ⟨p, by omega, hR.later hb⟩ hu⟩
      · exact Or.inr (Or.inr ⟨f, args, hr, hdst ho (by omega), hc.mono fun e W' ⟨u, he, hb, hq, hu⟩ => ⟨u, he, trivial, stp u W' hb hq hu⟩⟩)
    · by_cases h2 : i = n
      · subst h2
        obtain ⟨hn2, hB, hV⟩ := hT.1 hi
        obtain rfl : o = oL := Option.some.inj (ho.symm.trans hL)
        obtain ⟨hF, p, hp, hR⟩ := hB
        have hcn := cnt_n up i
        obtain ⟨u, W', hr, hK⟩ := hfin a W p hF hR (by omega) hkk
          (fun j o' k hj hk' hdep hjn => by
            obtain ⟨q1, q2, _⟩ := hd j o' k hj hk' hdep
            rw [q2]; exact hV j hjn q1)
        have e1 : i + 1 ≠ i := by omega
        have e2 : i + 2 ≠ i := by omega
        refine Or.inl ⟨u, W', hr, hdst ho (by omega), trivial, ⟨fun h => by simp at h, fun _ _ => by dsimp only; rw [if_pos rfl]; exact hK, fun h => ?_, fun h => ?_⟩⟩
        · dsimp only; rw [if_neg e1]; exact hT.2.2.1 (by simpa [e1] using h)
        · have : up (i + 2) = true := by simpa [e2] using h
          rw [hn2] at this; cases this
      · by_cases h3 : i = n + 1
        · subst h3
          obtain rfl : o = oP := Option.some.inj (ho.symm.trans hP)
          have hn2 : up (n + 2) = false := by
            cases e : up (n + 2)
            · rfl
            · rw [(hS2 e).2] at hi; cases hi
          have e0 : n ≠ n + 1 := by omega
          have e2 : n + 2 ≠ n + 1 := by omega
          refine Or.inl ⟨pv, W, hpt a W hkk, hdst ho (by omega), trivial, ⟨fun h => ?_, fun h _ => ?_, fun _ => ?_, fun h => ?_⟩⟩
          · obtain ⟨q1, q2, q3⟩ := hT.1 (by simpa [e0] using h)
            refine ⟨by simpa [e2] using q1, by rw [cnt_off up (n + 1) n (by omega)]; exact q2, fun j hj hup => ?_⟩
            have e : j ≠ n + 1 := by omega
            dsimp only; rw [if_neg e]; exact q3 j hj (by simpa [e] using hup)
          · dsimp only; rw [if_neg e0]; exact hT.2.1 (by simpa [e0] using h) hn2
          · dsimp only; rw [if_pos rfl]
          · have : up (n + 2) = true := by simpa [e2] using h
            rw [hn2] at this; cases this
        · have h4 : i = n + 2 := by omega
          subst h4
          obtain rfl : o = oS := Option.some.inj (ho.symm.trans hS)
          obtain ⟨u1, q1, _⟩ := hd n oL kL hL hLd (by obtain ⟨e, he, h4, h5⟩ := waits_spec hSL hS; exact ⟨e, he, h4, h5⟩)
          obtain ⟨u2, q2, _⟩ := hd (n + 1) oP kP hP hPd (by obtain ⟨e, he, h4, h5⟩ := waits_spec hSP hS; exact ⟨e, he, h4, h5⟩)
          obtain ⟨W', hr, hK2⟩ := hst a W (by rw [q1]; exact hT.2.1 u1 hi) (by rw [q2]; exact hT.2.2.1 u2)
          refine Or.inr (Or.inl ⟨W', hr, hSd, ⟨fun h => ?_, fun _ h => ?_, fun _ => hT.2.2.1 u2, fun _ => by rw [← q1]; exact hK2⟩⟩)
          · dsimp only at h; rw [u1] at h; simp at h
          · simp at h
  · intro up vals vs W hup hvs hT
    have h1 := hvs n oL kL hL hLd
    have h2 := hvs (n + 1) oP kP hP hPd
    refine hend vs W ?_ ?_
    · rw [h1.1]; exact hT.2.2.2 (hup (n + 2) (by omega))
    · rw [h2.1]; exact hT.2.2.1 (hup (n + 1) (by omega))
end RY
end Go.Proofs.Ytfhobegepiijhaa
