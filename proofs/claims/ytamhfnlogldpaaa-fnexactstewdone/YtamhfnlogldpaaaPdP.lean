/-
  Stewards: done, by the program and by the specification, is one.
-/
import Derived.Test.YtamhfnlogldpaaaStP
import Derived.Test.YtamhfnlogldpaaaPdA
import Derived.Test.YtamhfnlogldpaaaAkP
import Derived.Test.YtamhfnlogldpaaaStJ
namespace Go.Proofs.Ytamhfnlogldpaaa
open Go.RowKit Go.Deep

theorem svs_ok {K : SBk} (h : sbOk K = true) : K.svcs.length ≤ 8 ∧ ∀ i, i < K.svcs.length → svOk (K.svcs.getD i Sv.none) K.now = true := by
  simp only [sbOk, Bool.and_eq_true, decide_eq_true_eq] at h
  obtain ⟨⟨⟨⟨⟨⟨_, h1⟩, _⟩, _⟩, h4⟩, _⟩, _⟩ := h
  exact ⟨h1, fun i hi => by
    have := (allTo_iff _ _).1 h4 i hi
    simp only [Bool.and_eq_true] at this
    first | exact this | exact this.1 | exact this.2 | exact this.1.1⟩
theorem sv_bounds {s : Sv} {now : Int} (h : svOk s now = true) : (0 ≤ s.want ∧ s.want ≤ 10 ∧ 0 ≤ s.down ∧ s.down ≤ 10) ∧ (0 ≤ s.over ∧ s.over ≤ 10) ∧ 0 ≤ s.per ∧ s.per ≤ 1000000 ∧ 0 ≤ s.load ∧ s.load ≤ 1000000 ∧ 0 ≤ s.cool ∧ s.cool ≤ 3 := by
  simp only [svOk, Bool.and_eq_true, inB, decide_eq_true_eq] at h
  obtain ⟨⟨⟨⟨⟨_, hw⟩, hd⟩, ho⟩, _⟩, hp⟩ := h
  split at hp
  · simp only [Bool.and_eq_true, decide_eq_true_eq] at hp
    omega
  · simp only [Bool.and_eq_true, decide_eq_true_eq] at hp
    omega

end Go.Proofs.Ytamhfnlogldpaaa

namespace Go.Proofs.Ytamhfnlogldpaaa
open Go.RowKit Go.Deep

/-- The ranks, by the program: behind k services. -/
def rOne (K : SBk) (s : Sv) (j : Nat) : Int := rP K s (cnL K.cps s.image (rowCp K.cps s.nm)) (liveC K s.nm) j
def rTo (K : SBk) : Nat → Nat → Int
  | 0, _ => 0
  | k + 1, j => rTo K k j + rOne K (K.svcs.getD k Sv.none) j
def settledP (s : Sv) : Bool := (s.per == 0) || ((s.want == desired s) && (s.cool == 0))
def doneP (K : SBk) : Bool := sbOk K && allTo (fun j => rTo K K.svcs.length j == 0) 5 && allTo (fun i => settledP (K.svcs.getD i Sv.none)) K.svcs.length

theorem fold_ready (l : List Cp) (img : Int) : ∀ (xs : List Nat) (n : Cn),
    (xs.foldl (fun n i => n.one img (l.getD i Cp.none)) n).ready = n.ready + ((((xs.map fun i => l.getD i Cp.none).filter fun c => !c.ending).filter fun c => c.state == 3).length : Int)
  | [], n => by simp
  | x :: xs, n => by
    have ih := fold_ready l img xs (n.one img (l.getD x Cp.none))
    rw [List.foldl_cons, List.map_cons]
    obtain ⟨c, hc⟩ : ∃ c, c = l.getD x Cp.none := ⟨_, rfl⟩
    rw [← hc] at ih ⊢
    rw [ih]
    unfold Cn.one
    cases he : c.ending
    · simp only [he, Bool.false_eq_true, if_false, List.filter_cons, Bool.not_false, if_true]
      cases hi : (c.state == 3)
      · simp only [Bool.false_eq_true, if_false, bit]; omega
      · simp only [if_true, List.length_cons, bit]; omega
    · simp only [he, if_true, List.filter_cons, Bool.not_true, Bool.false_eq_true, if_false]

theorem take_snoc (L : List Nat) {k : Nat} (hk : k < L.length) : L.take (k + 1) = L.take k ++ [L.getD k 0] := by
  rw [List.take_add_one]
  simp [hk]
theorem rkL3_is (K : SBk) (s : Sv) (L : List Nat) : ∀ k, k ≤ L.length → rkL3 K s L k = ((((L.take k).map (getC K)).filter (oldOr K s)).length : Int)
  | 0, _ => by simp [rkL3]
  | k + 1, h => by
    rw [rkL3, rkL3_is K s L k (by omega), take_snoc L (by omega), List.map_append, List.filter_append, List.length_append]
    have e : getC K (L.getD k 0) = K.cps.getD (L.getD k 0) Cp.none := rfl
    simp only [List.map_cons, List.map_nil, e, List.filter_cons, List.filter_nil]
    cases oldOr K s (K.cps.getD (L.getD k 0) Cp.none) <;> simp [bit]
theorem rkL4_is (K : SBk) (L : List Nat) : ∀ k, k ≤ L.length → rkL4 K L k = (k : Int) - ((((L.take k).map (getC K)).filter fun c => c.state == 3).length : Int)
  | 0, _ => by simp [rkL4]
  | k + 1, h => by
    rw [rkL4, rkL4_is K L k (by omega), take_snoc L (by omega), List.map_append, List.filter_append, List.length_append]
    have e : getC K (L.getD k 0) = K.cps.getD (L.getD k 0) Cp.none := rfl
    simp only [List.map_cons, List.map_nil, e, List.filter_cons, List.filter_nil, bne]
    cases ((K.cps.getD (L.getD k 0) Cp.none).state == 3) <;> simp [bit] <;> omega

theorem rOne_eq {K : SBk} (hok : sbOk K = true) {k : Nat} (hk : k < K.svcs.length) (hg : (K.svcs.getD k Sv.none).gone = false) (r : Rk) (j : Nat) (hj : j < 5) :
    (r.add K (K.svcs.getD k Sv.none)).get j = r.get j + rOne K (K.svcs.getD k Sv.none) j := by
  obtain ⟨hap, ha, hlen, hn⟩ := chk_all hok
  have hix := sv_ix hap hk
  have hgs : svGet K.svcs (k : Int) = K.svcs.getD k Sv.none := by unfold svGet; rw [Int.toNat_natCast]
  obtain ⟨s, hs⟩ : ∃ s, s = K.svcs.getD k Sv.none := ⟨_, rfl⟩
  rw [← hs] at hix hgs hg ⊢
  have hcnt : countOf K s.nm = cnL K.cps s.image (rowCp K.cps s.nm) := by
    unfold countOf
    rw [hix, if_pos (by omega), hgs]
    exact cnTo_row ha hn _
  have hlc := liveC_eq ha hn s.nm
  have hfc := (fold_cnt K.cps s.image (rowCp K.cps s.nm) Cn.zero).1
  have hfr := fold_ready K.cps s.image (rowCp K.cps s.nm) Cn.zero
  have hl : (cnL K.cps s.image (rowCp K.cps s.nm)).live = 0 + ((liveC K s.nm).length : Int) := hfc
  have hr : (cnL K.cps s.image (rowCp K.cps s.nm)).ready = 0 + (((liveC K s.nm).filter fun c => c.state == 3).length : Int) := hfr
  have h3 := rkL3_is K s (liveOf K s.nm) _ (Nat.le_refl _)
  have h4 := rkL4_is K (liveOf K s.nm) _ (Nat.le_refl _)
  rw [List.take_length] at h3 h4
  have hgo : (fun c => goP K s c) = oldOr K s := by funext c; unfold goP oldOr; rw [leaves_eq hap]
  unfold rOne
  rw [hlc] at hl hr ⊢
  rw [List.length_map] at hl
  unfold Rk.add
  rw [hcnt, if_neg (by rw [hg]; decide)]
  match j, hj with
  | 0, _ => simp [Rk.get, rP, hg, bit]
  | 1, _ => simp [Rk.get, rP, hg]
  | 2, _ =>
    simp only [Rk.get, rP, hg, Bool.false_eq_true, if_false, iabs]
    generalize (cnL K.cps s.image (rowCp K.cps s.nm)).live = x
    split <;> split <;> omega
  | 3, _ =>
    have e : goP K s = oldOr K s := hgo
    simp only [Rk.get, rP, h3, e]
  | 4, _ =>
    simp only [Rk.get, rP, h4, hl, hr]
    omega
  | n + 5, hj => omega

theorem r0_eq (K : SBk) (s : Sv) (r : Rk) : (r.add K s).get 0 = r.get 0 + bit s.gone := by
  unfold Rk.add
  cases s.gone <;> simp [Rk.get, bit]
theorem rTo_eq {K : SBk} (hok : sbOk K = true) : ∀ k, k ≤ K.svcs.length → 0 ≤ rTo K k 0 ∧ rTo K k 0 = (rkTo K k).get 0 ∧ (rTo K k 0 = 0 → ∀ j, j < 5 → rTo K k j = (rkTo K k).get j)
  | 0, _ => ⟨Int.le_refl _, rfl, fun _ j hj => by
    match j, hj with
    | 0, _ => rfl
    | 1, _ => rfl
    | 2, _ => rfl
    | 3, _ => rfl
    | 4, _ => rfl
    | n + 5, hj => omega⟩
  | k + 1, h => by
    obtain ⟨i0, i1, i2⟩ := rTo_eq hok k (by omega)
    have e0 : rTo K (k + 1) 0 = rTo K k 0 + bit (K.svcs.getD k Sv.none).gone := rfl
    have b := bit_le (K.svcs.getD k Sv.none).gone
    refine ⟨by omega, ?_, fun hz j hj => ?_⟩
    · rw [e0, i1, rkTo, r0_eq]
    · have hg : (K.svcs.getD k Sv.none).gone = false := by
        cases hg : (K.svcs.getD k Sv.none).gone
        · rfl
        · rw [hg] at e0; simp [bit] at e0; omega
      rw [rkTo, rOne_eq hok (by omega) hg _ j hj, ← i2 (by omega) j hj]
      rfl

theorem doneP_eq (K : SBk) : doneP K = doneB K := by
  unfold doneP doneB
  cases hok : sbOk K
  · rfl
  · have hs : allTo (fun i => settledP (K.svcs.getD i Sv.none)) K.svcs.length = allTo (fun i => calmS (K.svcs.getD i Sv.none)) K.svcs.length := by
      refine allTo_congr fun i hi => ?_
      have hp := (sv_bounds ((svs_ok hok).2 i hi)).2.2.1
      unfold settledP calmS
      generalize desired (K.svcs.getD i Sv.none) = d
      by_cases h0 : (K.svcs.getD i Sv.none).per = 0
      · rw [h0]; rfl
      · have h1 : 0 < (K.svcs.getD i Sv.none).per := by omega
        have h2 : ((K.svcs.getD i Sv.none).per == 0) = false := by simpa using h0
        rw [h2, decide_eq_true h1]
        unfold bne
        cases ((K.svcs.getD i Sv.none).want == d) <;> cases ((K.svcs.getD i Sv.none).cool == 0) <;> rfl
    rw [hs]
    have hr : rankOf K = rkTo K K.svcs.length := by unfold rankOf; rw [hok]; rfl
    obtain ⟨_, i1, i2⟩ := rTo_eq hok K.svcs.length (Nat.le_refl _)
    rw [hr]
    congr 2
    by_cases hz : rTo K K.svcs.length 0 = 0
    · exact allTo_congr fun j hj => by rw [i2 hz j hj]
    · rw [allTo_false (k := 0) (by simpa using hz) 5 (by omega), allTo_false (k := 0) (by rw [← i1]; simpa using hz) 5 (by omega)]

end Go.Proofs.Ytamhfnlogldpaaa
