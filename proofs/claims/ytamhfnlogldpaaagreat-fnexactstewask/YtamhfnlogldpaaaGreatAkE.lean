/-
  Stewards: what is asked for, by the program and by the specification, is one.
-/
import Derived.Test.YtamhfnlogldpaaaGreatPsK
import Derived.Test.YtamhfnlogldpaaaGreatStMI
namespace Go.Proofs.YtamhfnlogldpaaaGreat
open Go.RowKit Go.Deep

theorem leaves_eq {K : SBk} (ha : Apart K) (c : Cp) : leaves K c = drains K c := by
  unfold leaves drains dnIx
  rcases firstTo_cases (fun i => same (K.bts.getD i Bt.none).nm c.berth) K.bts.length with ⟨e, hn⟩ | ⟨k, hk, e, hp, hn⟩
  · have e' : btIx K.bts c.berth = -1 := e
    rw [e', firstTo_none (fun i hi => by
      have q := hn i hi
      have q' : same (K.bts.getD i Bt.none).nm c.berth = false := q
      rw [q', Bool.false_and])]
    rfl
  · have e' : btIx K.bts c.berth = (k : Int) := e
    have g : btGet K.bts (k : Int) = K.bts.getD k Bt.none := by unfold btGet; rw [Int.toNat_natCast]
    rw [e', g, if_pos (by omega)]
    have hp' : same (K.bts.getD k Bt.none).nm c.berth = true := hp
    cases hd : (K.bts.getD k Bt.none).drain
    · rw [firstTo_none (fun i hi => ?_)]
      · rfl
      · rw [Bool.eq_false_iff]
        intro q
        rw [Bool.and_eq_true] at q
        have : i = k := ha.2 i k hi hk (((same_iff _ _).1 q.1).trans ((same_iff _ _).1 hp').symm)
        rw [this, hd] at q
        exact absurd q.2 (by decide)
    · rw [firstTo_hit hk (by rw [hp', hd]; rfl) (fun i hi => by
        have q' : same (K.bts.getD i Bt.none).nm c.berth = false := hn i hi
        rw [q', Bool.false_and])]
      simp

theorem liveTo_row {l : List Cp} {svc : ByteArray} (ha : ascCp l = true) (hn : ∀ i, i < l.length → 1 ≤ (l.getD i Cp.none).num) : liveTo l svc l.length = (rowCp l svc).filter fun i => !(l.getD i Cp.none).ending := by
  obtain ⟨p, hp⟩ : ∃ p, p = placeCp l svc := ⟨_, rfl⟩
  obtain ⟨M, hM⟩ : ∃ M, M = runCp l svc p := ⟨_, rfl⟩
  have hpl : p ≤ l.length := by rw [hp]; exact placeCp_le _ _
  have hml : p + M ≤ l.length := by rw [hM]; exact runCp_le _ _ _ hpl
  have h0 : ∀ k, k ≤ p → liveTo l svc k = [] := by
    intro k
    induction k with
    | zero => intro _; rfl
    | succ k ih => intro hk; rw [liveTo, ih (by omega), isLive, place_not hn k (by rw [← hp]; omega)]; rfl
  have h1 : ∀ j, j ≤ M → liveTo l svc (p + j) = (List.range' p j).filter fun i => !(l.getD i Cp.none).ending := by
    intro j
    induction j with
    | zero => intro _; exact h0 p (Nat.le_refl _)
    | succ j ih =>
      intro hj
      rw [← Nat.add_assoc, liveTo, ih (by omega), ← range_snoc, List.filter_append, isLive, runCp_yes _ _ _ j (by rw [← hM]; omega), Bool.true_and]
      congr 1
      rw [List.filter_cons, List.filter_nil]
  have h2 : ∀ k, p + M + k ≤ l.length → liveTo l svc (p + M + k) = (List.range' p M).filter fun i => !(l.getD i Cp.none).ending := by
    intro k
    induction k with
    | zero => intro _; exact h1 M (Nat.le_refl _)
    | succ k ih =>
      intro hk
      rw [← Nat.add_assoc, liveTo, ih (by omega), isLive, after_not ha (p + M + k) (by rw [← hp, ← hM]; omega) (by omega)]
      simp
  have h3 := h2 (l.length - (p + M)) (by omega)
  rw [show p + M + (l.length - (p + M)) = l.length by omega] at h3
  rw [h3, hM, hp]; rfl

def getC (K : SBk) (z : Nat) : Cp := K.cps.getD z Cp.none
theorem liveC_eq {K : SBk} (ha : ascCp K.cps = true) (hn : ∀ i, i < K.cps.length → 1 ≤ (K.cps.getD i Cp.none).num) (nm : ByteArray) : liveC K nm = (liveOf K nm).map (getC K) := by
  unfold liveC liveOf
  rw [liveTo_row ha hn, List.filter_map]
  rfl
theorem live_at (l : List Cp) (svc : ByteArray) : ∀ k z, z ∈ liveTo l svc k → z < k ∧ same (l.getD z Cp.none).svc svc = true ∧ (l.getD z Cp.none).ending = false
  | 0, z, h => by simp [liveTo] at h
  | k + 1, z, h => by
    rw [liveTo, List.mem_append] at h
    rcases h with h | h
    · have := live_at l svc k z h
      exact ⟨by omega, this.2⟩
    · split at h
      · rename_i q
        simp only [List.mem_singleton] at h
        subst h
        unfold isLive at q
        simp only [Bool.and_eq_true, Bool.not_eq_true'] at q
        exact ⟨by omega, q⟩
      · simp at h

theorem fold_cnt (l : List Cp) (img : Int) : ∀ (xs : List Nat) (n : Cn),
    (xs.foldl (fun n i => n.one img (l.getD i Cp.none)) n).live = n.live + (((xs.map fun i => l.getD i Cp.none).filter fun c => !c.ending).length : Int) ∧
    (xs.foldl (fun n i => n.one img (l.getD i Cp.none)) n).old = n.old + ((((xs.map fun i => l.getD i Cp.none).filter fun c => !c.ending).filter fun c => c.image != img).length : Int)
  | [], n => by simp
  | x :: xs, n => by
    have ih := fold_cnt l img xs (n.one img (l.getD x Cp.none))
    rw [List.foldl_cons, List.map_cons]
    obtain ⟨c, hc⟩ : ∃ c, c = l.getD x Cp.none := ⟨_, rfl⟩
    rw [← hc] at ih ⊢
    rw [ih.1, ih.2]
    unfold Cn.one
    cases he : c.ending
    · simp only [he, Bool.false_eq_true, if_false, List.filter_cons, Bool.not_false, if_true]
      cases hi : (c.image != img)
      · simp only [Bool.false_eq_true, if_false, List.length_cons, bit]; omega
      · simp only [if_true, List.length_cons, bit]; omega
    · simp only [he, if_true, List.filter_cons, Bool.not_true, Bool.false_eq_true, if_false]
      exact ⟨trivial, trivial⟩

theorem cmpE_lt {K : SBk} (ha : Apart K) (s : Sv) (x y : Cp) : decide (cmpE K s x y < 0) = sooner K x y s.image := by
  unfold cmpE sooner rule3
  simp only [leaves_eq ha]
  cases (x.state != 3) <;> cases (y.state != 3) <;> cases (x.image != s.image) <;> cases (y.image != s.image) <;> cases drains K x <;> cases drains K y <;> simp [sgn, numCmp] <;> (split <;> (try split) <;> omega)

theorem best_eq {K : SBk} (ha : Apart K) (s : Sv) (L : List Nat) : ∀ j, j < L.length → bestC (cmpE K s) (L.map (getC K)) (j + 1) = bestTo K s.image L j
  | 0, h => by
    rw [bestC, bestTo]
    simp [getC, h]
  | j + 1, h => by
    have ih := best_eq ha s L j (by omega)
    have e : (L.map (getC K)).getD (j + 1) Cp.none = K.cps.getD (L.getD (j + 1) 0) Cp.none := by simp [getC, h]
    rw [bestC, ih, e, cmpE_lt ha, bestTo]
    simp

theorem best_mem (f : Cp → Cp → Int) (C : List Cp) : ∀ j, j < C.length → bestC f C (j + 1) ∈ C
  | 0, h => by
    rw [bestC, if_pos (by simp)]
    simp [h]
  | j + 1, h => by
    rw [bestC]
    split
    · simp [h]
    · exact best_mem f C j (by omega)

theorem sv_ix {K : SBk} (ha : Apart K) {k : Nat} (hk : k < K.svcs.length) : svIx K.svcs (K.svcs.getD k Sv.none).nm = (k : Int) := by
  refine firstTo_hit hk ((same_iff _ _).2 rfl) fun i hi => ?_
  rw [Bool.eq_false_iff]
  intro q
  have := ha.1 i k (by omega) hk ((same_iff _ _).1 q)
  omega

theorem may_eq {K : SBk} (hap : Apart K) (ha : ascCp K.cps = true) (hn : ∀ i, i < K.cps.length → 1 ≤ (K.cps.getD i Cp.none).num) {k z : Nat} (hk : k < K.svcs.length) (hz : z ∈ liveOf K (K.svcs.getD k Sv.none).nm) :
    mayEnd K (K.svcs.getD k Sv.none).nm (getC K z).num = mayGo K (K.svcs.getD k Sv.none) (getC K z) ∧ mayP K z = mayGo K (K.svcs.getD k Sv.none) (getC K z) := by
  obtain ⟨s, hs⟩ : ∃ s, s = K.svcs.getD k Sv.none := ⟨_, rfl⟩
  have hix := sv_ix hap hk
  rw [← hs] at hz hix ⊢
  obtain ⟨zl, zs, _⟩ := live_at K.cps s.nm K.cps.length z hz
  have zs' := (same_iff _ _).1 zs
  have hit : (same (K.cps.getD z Cp.none).svc s.nm && ((K.cps.getD z Cp.none).num == (getC K z).num)) = true := by rw [zs]; simp [getC]
  have hc : 0 ≤ cpIx K.cps s.nm (getC K z).num := by
    rcases firstTo_cases (fun i => same (K.cps.getD i Cp.none).svc s.nm && ((K.cps.getD i Cp.none).num == (getC K z).num)) K.cps.length with ⟨_, q⟩ | ⟨j, _, e, _, _⟩
    · have := q z zl
      rw [hit] at this; cases this
    · have e' : cpIx K.cps s.nm (getC K z).num = (j : Int) := e
      omega
  have hp : placeAt K.cps s.nm (getC K z).num = z := by
    have q := (cpIx_place ha s.nm (getC K z).num).1
    rw [decide_eq_true hc, Bool.and_eq_true, decide_eq_true_eq, decide_eq_true_eq] at q
    have q2 := (cmp_zero _ _ _).1 q.2
    simp only [Bool.and_eq_true, beq_iff_eq] at q2
    refine asc_apart (lex_lin kc_lin num_lin) ((ascCp_iff K.cps).1 ha) q.1 zl ?_
    show ((K.cps.getD _ Cp.none).svc.toList, (K.cps.getD _ Cp.none).num) = ((K.cps.getD z Cp.none).svc.toList, (K.cps.getD z Cp.none).num)
    rw [(same_iff _ _).1 q2.1, q2.2, zs']
    rfl
  have m := mayEnd_go ha hn (svc := s.nm) (num := (getC K z).num) hix (by rw [← hs]) hc
  rw [hp, ← hs] at m
  refine ⟨m, ?_⟩
  unfold mayP
  rw [zs']
  exact m

theorem filter_map' (K : SBk) (p : Cp → Bool) (L : List Nat) : (L.map (getC K)).filter p = (L.filter fun z => p (getC K z)).map (getC K) := by
  rw [List.filter_map]; rfl

/-- One service, by both. -/
theorem ask_one {kind : Int} (h1 : 1 ≤ kind) (h6 : kind ≤ 6) {K : SBk} (hok : sbOk K = true) {k : Nat} (hk : k < K.svcs.length) :
    pAsk kind K (K.svcs.getD k Sv.none) = (actAc kind K (K.svcs.getD k Sv.none), asked (actAc kind K (K.svcs.getD k Sv.none))) := by
  obtain ⟨hap, ha, hlen, hn⟩ := chk_all hok
  have hv := (svs_ok hok).2 k hk
  have hmay := fun z hz => may_eq hap ha hn (z := z) hk hz
  have hix := sv_ix hap hk
  have hgs : svGet K.svcs (k : Int) = K.svcs.getD k Sv.none := by unfold svGet; rw [Int.toNat_natCast]
  obtain ⟨s, hs⟩ : ∃ s, s = K.svcs.getD k Sv.none := ⟨_, rfl⟩
  rw [← hs] at hv hmay hix hgs ⊢
  clear hs hk
  have hcnt : countOf K s.nm = cnL K.cps s.image (rowCp K.cps s.nm) := by
    unfold countOf
    rw [hix, if_pos (by omega), hgs]
    exact cnTo_row ha hn _
  unfold pAsk
  obtain ⟨n, hnn⟩ : ∃ n, n = cnL K.cps s.image (rowCp K.cps s.nm) := ⟨_, rfl⟩
  obtain ⟨L, hL⟩ : ∃ L, L = liveOf K s.nm := ⟨_, rfl⟩
  have hlc := liveC_eq ha hn s.nm
  have hfc := fold_cnt K.cps s.image (rowCp K.cps s.nm) Cn.zero
  have hl : n.live = (L.length : Int) := by
    have := hfc.1
    rw [hnn, hL]
    have e : (cnL K.cps s.image (rowCp K.cps s.nm)).live = 0 + ((liveC K s.nm).length : Int) := this
    rw [e, hlc, List.length_map]; omega
  have hs2 : someOf K s 2 = L.filter fun z => (getC K z).image != s.image := by rw [hL]; rfl
  have hs6 : someOf K s 6 = L.filter fun z => drains K (getC K z) := by rw [hL]; rfl
  have hs3 : someOf K s 3 = L.filter fun z => (getC K z).state == 4 := by rw [hL]; rfl
  have ho : n.old = ((someOf K s 2).length : Int) := by
    have := hfc.2
    rw [hnn]
    have e : (cnL K.cps s.image (rowCp K.cps s.nm)).old = 0 + (((liveC K s.nm).filter fun c => c.image != s.image).length : Int) := this
    rw [e, hlc, ← hL, filter_map', List.length_map, ← hs2]; omega
  have hlv : (((liveC K s.nm).filter fun c => leaves K c).length : Int) = ((someOf K s 6).length : Int) := by
    rw [hlc, ← hL, filter_map', List.length_map, hs6]
    simp only [leaves_eq hap]
  have hend : 0 ≤ n.ending := by rw [hnn]; exact (cnL_le K.cps s.image (rowCp K.cps s.nm)).2.2.2.2.1
  rw [hlv, hlc, ← hnn, ← hL]
  rw [← hnn] at hcnt
  rw [← hL] at hmay
  obtain ⟨⟨w0, w1, d0, d1⟩, ⟨o0, o1⟩, p0, p1, l0, l1, q0, q1⟩ := sv_bounds hv
  -- what is replaced
  have hrep : ∀ (q : Cp → Bool) (M : List Nat), M = L.filter (fun z => q (getC K z)) → M.length ≠ 0 →
      (⟨s.nm, s.ver, (rpl K s n (L.map (getC K)) q).1, 0, 0, false, (rpl K s n (L.map (getC K)) q).2.1, false⟩ : Ac) = replAc K s M ∧ (rpl K s n (L.map (getC K)) q).2.2 = asked (replAc K s M) := by
    intro q M hM hM0
    have hC : (L.map (getC K)).filter (fun c => q c && mayGo K s c) = (mayOf K M).map (getC K) := by
      rw [filter_map', hM, mayOf, List.filter_filter]
      congr 1
      refine List.filter_congr fun z hz => ?_
      rw [(hmay z hz).2, Bool.and_comm]
    have hmem : ∀ c, c ∈ (mayOf K M).map (getC K) → mayGo K s c = true := by
      intro c hc
      rw [← hC] at hc
      have := (List.mem_filter.1 hc).2
      rw [Bool.and_eq_true] at this
      exact this.2
    have hE : efE K s ((L.map (getC K)).filter fun c => q c && mayGo K s c) = firstOf K s.image (mayOf K M) := by
      rw [hC]
      unfold efE firstOf
      rw [List.length_map]
      by_cases h0 : (mayOf K M).length = 0
      · rw [h0]; simp
      · obtain ⟨j, hj⟩ : ∃ j, (mayOf K M).length = j + 1 := ⟨(mayOf K M).length - 1, by omega⟩
        have hb := best_mem (cmpE K s) ((mayOf K M).map (getC K)) j (by rw [List.length_map]; omega)
        rw [hj, hmem _ hb, best_eq hap s (mayOf K M) j (by omega)]
        simp
    unfold rpl replAc
    rw [hE, hl, if_neg hM0, ← hL]
    by_cases c1 : (L.length : Int) < s.want
    · rw [if_pos c1, if_pos c1]; exact ⟨rfl, rfl⟩
    · rw [if_neg c1, if_neg c1]
      by_cases c2 : (L.length : Int) < s.want + s.over
      · rw [if_pos c2, if_pos c2]; exact ⟨rfl, rfl⟩
      · rw [if_neg c2, if_neg c2]
        refine ⟨rfl, ?_⟩
        simp [asked]
  have hk6 : kind = 1 ∨ kind = 2 ∨ kind = 3 ∨ kind = 4 ∨ kind = 5 ∨ kind = 6 := by omega
  rcases hk6 with e | e | e | e | e | e
  · subst e
    unfold pAc actAc
    rw [if_pos rfl, if_neg (by decide), if_neg (by decide : ¬ (1 : Int) = 5), if_pos rfl]
    unfold couP
    cases hg : s.gone
    · simp only [Bool.false_eq_true, if_false]
      rw [hl, ho]
      unfold counterAc
      rw [← hL]
      by_cases c1 : (L.length : Int) < s.want
      · rw [if_pos c1, if_pos c1]
        simp only [asked, Prod.mk.injEq]
        exact ⟨trivial, by rw [decide_eq_true (by omega : 0 < s.want - (L.length : Int))]; rfl⟩
      · rw [if_neg c1, if_neg c1]
        have hcond : ((decide (s.want < (L.length : Int)) && (calmB K s || decide (s.want + s.over < (L.length : Int))))) = !decide ((L.length : Int) ≤ (if (decide (0 < ((someOf K s 2).length : Int)) || decide (0 < ((someOf K s 6).length : Int))) = true then s.want + s.over else s.want)) := by
          unfold calmB
          generalize (someOf K s 2).length = a1
          generalize (someOf K s 6).length = a2
          rw [Bool.eq_iff_iff]
          simp only [Bool.and_eq_true, Bool.or_eq_true, Bool.not_eq_true', decide_eq_true_eq, decide_eq_false_iff_not]
          split <;> omega
        rw [hcond]
        by_cases c2 : (L.length : Int) ≤ (if (decide (0 < ((someOf K s 2).length : Int)) || decide (0 < ((someOf K s 6).length : Int))) = true then s.want + s.over else s.want)
        · rw [if_pos c2, decide_eq_true c2]
          simp [baseAc, asked]
        · rw [if_neg c2, decide_eq_false c2]
          have c3 : s.want < (L.length : Int) := by
            split at c2 <;> omega
          obtain ⟨j, hj⟩ : ∃ j, L.length = j + 1 := ⟨L.length - 1, by omega⟩
          have hb := best_eq hap s L j (by omega)
          have hlast : lastOf K s = bestTo K s.image L j := by unfold lastOf; rw [← hL, hj]; rfl
          have hmb := best_mem (cmpE K s) (L.map (getC K)) j (by rw [List.length_map]; omega)
          rw [hb] at hmb
          obtain ⟨z, hz, hze⟩ := List.mem_map.1 hmb
          have hmz := (hmay z hz).1
          rw [hze] at hmz
          rw [hlast, hmz]
          unfold efE
          rw [List.length_map, hj, hb]
          cases mayGo K s (bestTo K s.image L j) <;> simp [baseAc, asked]
    · simp [baseAc, asked]
  · subst e
    unfold pAc actAc
    rw [if_neg (by decide), if_pos rfl, if_neg (by decide), if_neg (by decide : ¬ (2 : Int) = 5), if_neg (by decide : ¬ (2 : Int) = 1), if_pos rfl]
    unfold wavP
    cases hg : s.gone
    · simp only [Bool.false_or, Bool.false_eq_true, if_false]
      by_cases c0 : (someOf K s 2).length = 0
      · have : (n.old == 0) = true := by rw [ho, c0]; rfl
        rw [if_pos this]
        unfold replAc
        rw [if_pos c0]
        rfl
      · have : (n.old == 0) = false := by rw [ho]; simpa using c0
        rw [if_neg (by rw [this]; decide)]
        have r := hrep (fun c => c.image != s.image) (someOf K s 2) hs2 c0
        exact Prod.ext r.1 r.2
    · simp [baseAc, asked]
  · subst e
    unfold pAc actAc
    rw [if_neg (by decide), if_neg (by decide), if_pos rfl, if_pos rfl]
    have e1 : menP (L.map (getC K)) = endsOf K (someOf K s 3) := by
      unfold menP endsOf
      rw [filter_map', hs3, List.map_map]; rfl
    rw [e1]
    simp [asked]
  · subst e
    unfold pAc actAc
    rw [if_neg (by decide), if_neg (by decide), if_neg (by decide), if_pos rfl, if_neg (by decide), if_neg (by decide : ¬ (4 : Int) = 5), if_neg (by decide : ¬ (4 : Int) = 1), if_neg (by decide : ¬ (4 : Int) = 2), if_neg (by decide : ¬ (4 : Int) = 6), if_pos rfl]
    unfold scaP
    cases hg : s.gone
    · by_cases c0 : s.per = 0
      · rw [if_pos (show (false || (s.per == 0)) = true by rw [c0]; rfl), if_neg (show ¬ false = true by decide), if_neg (show ¬ 0 < s.per by omega)]
        rfl
      · have c0' : (s.per == 0) = false := by simpa using c0
        rw [if_neg (show ¬ (false || (s.per == 0)) = true by rw [c0']; decide), if_neg (show ¬ false = true by decide), if_pos (show 0 < s.per by omega)]
        have lm : s.least ≤ s.most := by
          have hv' := hv
          simp only [svOk, Bool.and_eq_true, inB, decide_eq_true_eq] at hv'
          have hp := hv'.2
          rw [if_neg c0] at hp
          simp only [Bool.and_eq_true, decide_eq_true_eq] at hp
          omega
        unfold scalAc
        have es : (if clamp s s.want ≠ s.want then (clamp s s.want, 0, true)
            else if s.want < desired s then (desired s, 0, true)
            else if (decide (desired s < s.want) && (s.cool == 3)) = true then (s.want - 1, 0, true)
            else if desired s < s.want then (s.want, s.cool + 1, true)
            else if s.cool ≠ 0 then (s.want, 0, true) else (0, 0, false)) = scal s := by
          unfold scal
          by_cases b1 : s.want < s.least
          · have e : clamp s s.want = s.least := by unfold clamp; rw [if_pos b1, if_neg (show ¬ s.least > s.most by omega)]
            rw [e, if_pos b1, if_pos (show s.least ≠ s.want by omega)]
          · rw [if_neg b1]
            by_cases b2 : s.most < s.want
            · have e : clamp s s.want = s.most := by unfold clamp; rw [if_neg b1, if_pos (show s.want > s.most by omega)]
              rw [e, if_pos b2, if_pos (show s.most ≠ s.want by omega)]
            · have e : clamp s s.want = s.want := by unfold clamp; rw [if_neg b1, if_neg (show ¬ s.want > s.most by omega)]
              rw [e, if_neg b2, if_neg (show ¬ s.want ≠ s.want by simp)]
              by_cases b3 : s.want < desired s
              · rw [if_pos b3, if_pos b3]
              · rw [if_neg b3, if_neg b3]
                by_cases b4 : desired s < s.want
                · rw [if_pos b4]
                  by_cases b5 : s.cool = 3
                  · rw [if_pos (show (decide (desired s < s.want) && (s.cool == 3)) = true by simp [b4, b5]), if_pos (show 3 ≤ s.cool by omega), if_pos b4]
                  · rw [if_neg (show ¬ (decide (desired s < s.want) && (s.cool == 3)) = true by simp [b5]), if_neg (show ¬ 3 ≤ s.cool by omega), if_pos b4]
                · rw [if_neg (show ¬ (decide (desired s < s.want) && (s.cool == 3)) = true by simp [b4]), if_neg b4, if_neg b4]
                  by_cases b5 : s.cool = 0
                  · rw [if_neg (show ¬ s.cool ≠ 0 by simp [b5]), if_pos b5]
                  · rw [if_pos b5, if_neg b5]
        rw [es]
        simp [asked]
    · simp [baseAc, asked]
  · subst e
    unfold pAc actAc
    rw [if_neg (by decide), if_neg (by decide), if_neg (by decide), if_neg (by decide), if_pos rfl, if_neg (by decide), if_pos rfl, if_neg (by decide : ¬ (5 : Int) = 1), if_neg (by decide : ¬ (5 : Int) = 2), if_neg (by decide : ¬ (5 : Int) = 6), if_neg (by decide : ¬ (5 : Int) = 4)]
    unfold sweP
    cases hg : s.gone
    · simp [baseAc, asked]
    · rw [if_neg (by decide), if_pos rfl, hcnt, ← hL]
      have e1 : (L.map (getC K)).map endOf = endsOf K L := by rw [List.map_map]; rfl
      by_cases c0 : n.live + n.ending = 0
      · have : L = [] := List.eq_nil_of_length_eq_zero (by omega)
        rw [if_pos c0, decide_eq_true c0, this]
        simp [asked, endsOf]
      · rw [if_neg c0, decide_eq_false c0, e1]
        simp [asked, endsOf]
  · subst e
    unfold pAc actAc
    rw [if_neg (by decide), if_neg (by decide), if_neg (by decide), if_neg (by decide), if_neg (by decide), if_neg (by decide : ¬ (6 : Int) = 3), if_neg (by decide : ¬ (6 : Int) = 5), if_neg (by decide : ¬ (6 : Int) = 1), if_neg (by decide : ¬ (6 : Int) = 2), if_pos rfl]
    unfold draP
    cases hg : s.gone
    · simp only [Bool.false_or, Bool.false_eq_true, if_false]
      by_cases c0 : (someOf K s 2).length = 0
      · rw [if_pos c0]
        have q0 : decide (0 < n.old) = false := by rw [ho, c0]; rfl
        rw [q0, Bool.false_or]
        by_cases c1 : (someOf K s 6).length = 0
        · rw [if_pos (by rw [c1]; rfl)]
          unfold replAc
          rw [if_pos c1]
          rfl
        · rw [if_neg (by simpa using c1)]
          have r := hrep (fun c => leaves K c) (someOf K s 6) (by rw [hs6]; simp only [leaves_eq hap]) c1
          exact Prod.ext r.1 r.2
      · rw [if_neg c0]
        have q0 : decide (0 < n.old) = true := by rw [ho]; have := Nat.pos_of_ne_zero c0; simpa using this
        rw [q0, Bool.true_or, if_pos rfl]
        rfl
    · simp [baseAc, asked]

theorem getD_take {α : Type} (l : List α) (d : α) : ∀ k, k ≤ l.length → l.take k = (List.range k).map fun i => l.getD i d := by
  intro k hk
  refine List.ext_getElem (by simp [hk]) fun i h1 h2 => ?_
  simp only [List.length_take, List.length_map, List.length_range] at h1 h2
  have : i < l.length := by omega
  simp [this]

/-- What is asked for is one. -/
theorem pOf_eq (kind : Int) (K : SBk) : pOf kind K = askOf kind K := by
  unfold pOf askOf
  cases hok : sbOk K
  · simp
  · rw [if_pos rfl]
    by_cases hk : 1 ≤ kind ∧ kind ≤ 6
    · rw [if_pos (by simp [inB, hk.1, hk.2])]
      unfold pTo askTo
      rw [getD_take K.svcs Sv.none _ (Nat.le_refl _), List.map_map, List.map_map]
      have : (List.range K.svcs.length).map (pAsk kind K ∘ fun i => K.svcs.getD i Sv.none) = ((List.range K.svcs.length).map (actAc kind K ∘ fun i => K.svcs.getD i Sv.none)).map fun a => (a, asked a) := by
        rw [List.map_map]
        refine List.map_congr_left fun i hi => ?_
        exact ask_one hk.1 hk.2 hok (List.mem_range.1 hi)
      rw [this, List.filter_map, List.map_map]
      exact List.map_id _
    · rw [if_neg (by simp only [inB, Bool.and_eq_true, decide_eq_true_eq]; omega)]
      unfold askTo
      symm
      rw [List.filter_eq_nil_iff]
      intro a ha
      obtain ⟨s, _, hs⟩ := List.mem_map.1 ha
      have : actAc kind K s = baseAc s := by
        unfold actAc
        rw [if_neg (by omega), if_neg (by omega : ¬ kind = 5), if_neg (by omega : ¬ kind = 1), if_neg (by omega : ¬ kind = 2), if_neg (by omega : ¬ kind = 6), if_neg (by omega : ¬ kind = 4)]
        split <;> rfl
      rw [← hs, this]
      simp [baseAc, asked]

end Go.Proofs.YtamhfnlogldpaaaGreat
