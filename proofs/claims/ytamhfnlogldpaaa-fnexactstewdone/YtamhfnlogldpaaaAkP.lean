/-
  Stewards: a service's live copies, by the program and by the specification.
-/
import Derived.Test.YtamhfnlogldpaaaPsJ
import Derived.Test.YtamhfnlogldpaaaStMI
namespace Go.Proofs.Ytamhfnlogldpaaa
open Go.RowKit Go.Deep

theorem leaves_eq {K : SBk} (ha : Apart K) (c : Cp) : leaves K c = drains K c := by
  unfold leaves drains dnIx
  rcases firstTo_cases (fun i => same (K.bts.getD i Bt.none).nm c.berth) K.bts.length with ⟨e, hn⟩ | ⟨k, hk, e, hp, hn⟩
  · have e' : btIx K.bts c.berth = -1 := e
    rw [e', firstTo_none (fun i hi => by
      have q := hn i hi
      have q' : same (K.bts.getD i Bt.none).nm c.berth = false := q
      rw [q', Bool.false_and])]
    rfl
  · have e' : btIx K.bts c.berth = (k : Int) := e
    have g : btGet K.bts (k : Int) = K.bts.getD k Bt.none := by unfold btGet; rw [Int.toNat_natCast]
    rw [e', g, if_pos (by omega)]
    have hp' : same (K.bts.getD k Bt.none).nm c.berth = true := hp
    cases hd : (K.bts.getD k Bt.none).drain
    · rw [firstTo_none (fun i hi => ?_)]
      · rfl
      · rw [Bool.eq_false_iff]
        intro q
        rw [Bool.and_eq_true] at q
        have : i = k := ha.2 i k hi hk (((same_iff _ _).1 q.1).trans ((same_iff _ _).1 hp').symm)
        rw [this, hd] at q
        exact absurd q.2 (by decide)
    · rw [firstTo_hit hk (by rw [hp', hd]; rfl) (fun i hi => by
        have q' : same (K.bts.getD i Bt.none).nm c.berth = false := hn i hi
        rw [q', Bool.false_and])]
      simp
theorem liveTo_row {l : List Cp} {svc : ByteArray} (ha : ascCp l = true) (hn : ∀ i, i < l.length → 1 ≤ (l.getD i Cp.none).num) : liveTo l svc l.length = (rowCp l svc).filter fun i => !(l.getD i Cp.none).ending := by
  obtain ⟨p, hp⟩ : ∃ p, p = placeCp l svc := ⟨_, rfl⟩
  obtain ⟨M, hM⟩ : ∃ M, M = runCp l svc p := ⟨_, rfl⟩
  have hpl : p ≤ l.length := by rw [hp]; exact placeCp_le _ _
  have hml : p + M ≤ l.length := by rw [hM]; exact runCp_le _ _ _ hpl
  have h0 : ∀ k, k ≤ p → liveTo l svc k = [] := by
    intro k
    induction k with
    | zero => intro _; rfl
    | succ k ih => intro hk; rw [liveTo, ih (by omega), isLive, place_not hn k (by rw [← hp]; omega)]; rfl
  have h1 : ∀ j, j ≤ M → liveTo l svc (p + j) = (List.range' p j).filter fun i => !(l.getD i Cp.none).ending := by
    intro j
    induction j with
    | zero => intro _; exact h0 p (Nat.le_refl _)
    | succ j ih =>
      intro hj
      rw [← Nat.add_assoc, liveTo, ih (by omega), ← range_snoc, List.filter_append, isLive, runCp_yes _ _ _ j (by rw [← hM]; omega), Bool.true_and]
      congr 1
      rw [List.filter_cons, List.filter_nil]
  have h2 : ∀ k, p + M + k ≤ l.length → liveTo l svc (p + M + k) = (List.range' p M).filter fun i => !(l.getD i Cp.none).ending := by
    intro k
    induction k with
    | zero => intro _; exact h1 M (Nat.le_refl _)
    | succ k ih =>
      intro hk
      rw [← Nat.add_assoc, liveTo, ih (by omega), isLive, after_not ha (p + M + k) (by rw [← hp, ← hM]; omega) (by omega)]
      simp
  have h3 := h2 (l.length - (p + M)) (by omega)
  rw [show p + M + (l.length - (p + M)) = l.length by omega] at h3
  rw [h3, hM, hp]; rfl
def getC (K : SBk) (z : Nat) : Cp := K.cps.getD z Cp.none
theorem liveC_eq {K : SBk} (ha : ascCp K.cps = true) (hn : ∀ i, i < K.cps.length → 1 ≤ (K.cps.getD i Cp.none).num) (nm : ByteArray) : liveC K nm = (liveOf K nm).map (getC K) := by
  unfold liveC liveOf
  rw [liveTo_row ha hn, List.filter_map]
  rfl
theorem live_at (l : List Cp) (svc : ByteArray) : ∀ k z, z ∈ liveTo l svc k → z < k ∧ same (l.getD z Cp.none).svc svc = true ∧ (l.getD z Cp.none).ending = false
  | 0, z, h => by simp [liveTo] at h
  | k + 1, z, h => by
    rw [liveTo, List.mem_append] at h
    rcases h with h | h
    · have := live_at l svc k z h
      exact ⟨by omega, this.2⟩
    · split at h
      · rename_i q
        simp only [List.mem_singleton] at h
        subst h
        unfold isLive at q
        simp only [Bool.and_eq_true, Bool.not_eq_true'] at q
        exact ⟨by omega, q⟩
      · simp at h
theorem fold_cnt (l : List Cp) (img : Int) : ∀ (xs : List Nat) (n : Cn),
    (xs.foldl (fun n i => n.one img (l.getD i Cp.none)) n).live = n.live + (((xs.map fun i => l.getD i Cp.none).filter fun c => !c.ending).length : Int) ∧
    (xs.foldl (fun n i => n.one img (l.getD i Cp.none)) n).old = n.old + ((((xs.map fun i => l.getD i Cp.none).filter fun c => !c.ending).filter fun c => c.image != img).length : Int)
  | [], n => by simp
  | x :: xs, n => by
    have ih := fold_cnt l img xs (n.one img (l.getD x Cp.none))
    rw [List.foldl_cons, List.map_cons]
    obtain ⟨c, hc⟩ : ∃ c, c = l.getD x Cp.none := ⟨_, rfl⟩
    rw [← hc] at ih ⊢
    rw [ih.1, ih.2]
    unfold Cn.one
    cases he : c.ending
    · simp only [he, Bool.false_eq_true, if_false, List.filter_cons, Bool.not_false, if_true]
      cases hi : (c.image != img)
      · simp only [Bool.false_eq_true, if_false, List.length_cons, bit]; omega
      · simp only [if_true, List.length_cons, bit]; omega
    · simp only [he, if_true, List.filter_cons, Bool.not_true, Bool.false_eq_true, if_false]
      exact ⟨trivial, trivial⟩
theorem sv_ix {K : SBk} (ha : Apart K) {k : Nat} (hk : k < K.svcs.length) : svIx K.svcs (K.svcs.getD k Sv.none).nm = (k : Int) := by
  refine firstTo_hit hk ((same_iff _ _).2 rfl) fun i hi => ?_
  rw [Bool.eq_false_iff]
  intro q
  have := ha.1 i k (by omega) hk ((same_iff _ _).1 q)
  omega
theorem filter_map' (K : SBk) (p : Cp → Bool) (L : List Nat) : (L.map (getC K)).filter p = (L.filter fun z => p (getC K z)).map (getC K) := by
  rw [List.filter_map]; rfl

end Go.Proofs.Ytamhfnlogldpaaa
