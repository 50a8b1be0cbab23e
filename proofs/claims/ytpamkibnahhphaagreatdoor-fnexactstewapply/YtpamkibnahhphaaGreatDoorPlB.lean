/-
  Stewards: the book that the program makes is the one that the specification makes.
-/
import Derived.Test.YtpamkibnahhphaaGreatDoorIaU
import Derived.Test.YtpamkibnahhphaaGreatDoorIaP
import Derived.Test.YtpamkibnahhphaaGreatDoorIaZ
namespace Go.Proofs.YtpamkibnahhphaaGreatDoor
open Go.RowKit Go.Deep

theorem cpIx_like {a b : List Cp} (h : ∀ j, likeCp (a.getD j Cp.none) (b.getD j Cp.none)) (hl : a.length = b.length) (svc : ByteArray) (num : Int) : cpIx a svc num = cpIx b svc num := by
  unfold cpIx
  rw [hl]
  congr 1
  funext i
  rw [(h i).1, (h i).2.1]
theorem pK_facts {K : SBk} {X : Ac} (h : 0 ≤ svIx K.svcs X.svc) : svIx K.svcs X.svc = ((pK K X : Nat) : Int) ∧ pK K X < K.svcs.length ∧ (K.svcs.getD (pK K X) Sv.none).nm = X.svc := by
  rcases firstTo_cases (fun i => same (K.svcs.getD i Sv.none).nm X.svc) K.svcs.length with ⟨e, _⟩ | ⟨k, hk, e, hp, _⟩
  · exact absurd h (by unfold svIx; rw [e]; decide)
  · have e' : svIx K.svcs X.svc = (k : Int) := e
    have : pK K X = k := by unfold pK; rw [e']; rfl
    rw [this]
    exact ⟨e', hk, (same_iff _ _).1 hp⟩
theorem pEs_get (K : SBk) (X : Ac) {i : Nat} (hi : i < X.ends.length) : (pEs K X).getD i 0 = placeAt K.cps X.svc (endN X i) := by simp [pEs, esTo, hi]
theorem fnd_at {K : SBk} {X : Ac} (hf : allTo (fndAt K X) X.ends.length = true) {i : Nat} (hi : i < X.ends.length) : 0 ≤ cpIx K.cps X.svc (endN X i) := of_decide_eq_true ((allTo_iff _ _).1 hf i hi)
theorem endTo_ix (K : SBk) (X : Ac) (v : Int) (i : Nat) (num : Int) : cpIx (endTo K.cps X v i) X.svc num = cpIx K.cps X.svc num :=
  cpIx_like (fun j => endTo_like K.cps X v j i) (endTo_len K.cps X v i) X.svc num
theorem ends_eq {K : SBk} {X : Ac} (hv : sbOk K = true) (hf : allTo (fndAt K X) X.ends.length = true) (v : Int) : ∀ i, i ≤ X.ends.length → endsTo K.cps v (pEs K X) i = endTo K.cps X v i
  | 0, _ => rfl
  | i + 1, h => by
    rw [endsTo, endTo, ends_eq hv hf v i (by omega), endTo_ix, pEs_get K X (by omega), ((cpIx_place (chk_all hv).2.1 X.svc (endN X i)).2 (fnd_at hf (by omega))).1, Int.toNat_natCast]
theorem endTo_asc {K : SBk} (hv : sbOk K = true) (X : Ac) (v : Int) (i : Nat) : ascCp (endTo K.cps X v i) = true :=
  (ascCp_like (fun j => endTo_like K.cps X v j i) (endTo_len K.cps X v i)).trans (chk_all hv).2.1
theorem endTo_num {K : SBk} (hv : sbOk K = true) (X : Ac) (v : Int) (k : Nat) : ∀ i, i < (endTo K.cps X v k).length → 1 ≤ ((endTo K.cps X v k).getD i Cp.none).num := by
  intro i hi
  rw [endTo_len] at hi
  rw [(endTo_like K.cps X v i k).2.1]
  exact (chk_all hv).2.2.2 i hi
theorem may_eq {K : SBk} {X : Ac} (hv : sbOk K = true) (hix : 0 ≤ svIx K.svcs X.svc) (hf : allTo (fndAt K X) X.ends.length = true) : pMay K X = allTo (mayAt K X) X.ends.length := by
  obtain ⟨h1, h2, h3⟩ := pK_facts hix
  unfold pMay
  have hl : (pEs K X).length = X.ends.length := esTo_len K X _
  rw [hl]
  refine allTo_congr fun i hi => ?_
  unfold mayTo mayAt
  rw [ends_eq hv hf _ i (by omega)]
  have hfi := fnd_at hf hi
  have hci : 0 ≤ cpIx (endTo K.cps X (K.now + 1) i) X.svc (endN X i) := by rw [endTo_ix]; exact hfi
  have hg := mayEnd_go (K := withC K (endTo K.cps X (K.now + 1) i)) (endTo_asc hv X _ i) (endTo_num hv X _ i) (svc := X.svc) (num := endN X i) (k := pK K X) h1 h3 hci
  rw [hg]
  have e1 : (pSv1 K X).getD (pK K X) Sv.none = pS1 K X := pS_at K X h2 _
  have e2 : (pEs K X).getD i 0 = placeAt (endTo K.cps X (K.now + 1) i) X.svc (endN X i) := by
    rw [pEs_get K X hi]
    have a1 := ((cpIx_place (chk_all hv).2.1 X.svc (endN X i)).2 hfi).1
    have a2 := ((cpIx_place (endTo_asc hv X (K.now + 1) i) X.svc (endN X i)).2 hci).1
    rw [endTo_ix, a1] at a2
    exact Int.ofNat.inj a2
  rw [e1, e2]
  rfl
theorem pCp2_eq {K : SBk} {X : Ac} (hv : sbOk K = true) (hf : allTo (fndAt K X) X.ends.length = true) : pCp2 K X = endCps K X := by
  unfold pCp2 endCps
  have hl : (pEs K X).length = X.ends.length := esTo_len K X _
  rw [hl]
  exact ends_eq hv hf _ _ (Nat.le_refl _)
theorem count_eq {K : SBk} {X : Ac} (hix : 0 ≤ svIx K.svcs X.svc) {E : List Cp} (ha : ascCp E = true) (hn : ∀ i, i < E.length → 1 ≤ (E.getD i Cp.none).num) : countOf (withC K E) X.svc = cnL E (acS K X).image (rowCp E X.svc) := by
  unfold countOf
  have : 0 ≤ svIx (withC K E).svcs X.svc := hix
  rw [if_pos this]
  exact cnTo_row ha hn _
theorem pS2_is (K : SBk) (X : Ac) : (pS2 K X).nm = (acS K X).nm ∧ (pS2 K X).gone = (acS K X).gone ∧ (pS2 K X).image = (acS K X).image ∧ (pS2 K X).want = (acS2 K X).want ∧ (pS2 K X).over = (acS2 K X).over ∧ (pS2 K X).next = (acS K X).next := by
  unfold pS2 acS2
  cases X.scale <;> exact ⟨rfl, rfl, rfl, rfl, rfl, rfl⟩
theorem make_eq {K : SBk} {X : Ac} (hv : sbOk K = true) (ha : acOk X = true) (hix : 0 ≤ svIx K.svcs X.svc) (hf : allTo (fndAt K X) X.ends.length = true) : ((X.create != 0) && createOff (pCp2 K X) (pS2 K X) X.create.toNat) = makeBad K X := by
  obtain ⟨h1, h2, h3⟩ := pK_facts hix
  obtain ⟨s1, s2, s3, s4, s5, s6⟩ := pS2_is K X
  have hb := (ac_bounds ha).1
  unfold makeBad createOff
  rw [pCp2_eq hv hf, s1, s2, s3, s4, s5, count_eq (E := endCps K X) hix (endTo_asc hv X _ _) (endTo_num hv X _ _)]
  have e1 : (acS K X).nm = X.svc := h3
  have e2 : ((X.create.toNat : Nat) : Int) = X.create := by omega
  have e3 : (X.create != 0) = decide (0 < X.create) := by
    by_cases h : X.create = 0
    · rw [h]; rfl
    · rw [decide_eq_true (by omega : 0 < X.create)]; simp [h]
  rw [e1, e2, e3]
theorem drop_eq {K : SBk} {X : Ac} (hv : sbOk K = true) (ha : acOk X = true) (hix : 0 ≤ svIx K.svcs X.svc) (hf : allTo (fndAt K X) X.ends.length = true) : (X.drop && dropOff (pCp3 K X) (pS3 K X)) = dropBad K X := by
  obtain ⟨h1, h2, h3⟩ := pK_facts hix
  unfold dropBad
  cases hd : X.drop
  · rfl
  · obtain ⟨d1, d2, d3⟩ := drop_bare ha hd
    have e0 : endCps K X = K.cps := by unfold endCps; rw [d3]; rfl
    have e1 : pCp3 K X = K.cps := by rw [(pMake0 d1).2, pCp2_eq hv hf, e0]
    have hc := count_eq (E := K.cps) hix (chk_all hv).2.1 (chk_all hv).2.2.2
    have hc' : countOf K X.svc = cnL K.cps (acS K X).image (rowCp K.cps X.svc) := hc
    obtain ⟨s1, s2, s3, _⟩ := pS2_is K X
    have t1 : (pS3 K X).nm = X.svc := s1.trans h3
    have t2 : (pS3 K X).gone = (acS K X).gone := s2
    have t3 : (pS3 K X).image = (acS K X).image := s3
    unfold dropOff
    rw [e1, hc', t1, t2, t3]
theorem high_iff (l : List Sv) : 0 ≤ highIx l ↔ ∃ i, i < l.length ∧ 1000000 < (l.getD i Sv.none).next := by
  unfold highIx
  rcases firstTo_cases (fun i => decide (1000000 < (l.getD i Sv.none).next)) l.length with ⟨e, h⟩ | ⟨k, hk, e, hp, _⟩
  · rw [e]
    constructor
    · intro q; exact absurd q (by decide)
    · rintro ⟨i, hi, hn⟩
      exact absurd hn (of_decide_eq_false (h i hi))
  · rw [e]
    exact ⟨fun _ => ⟨k, hk, of_decide_eq_true hp⟩, fun _ => by omega⟩
theorem mk_len3 (K : SBk) (X : Ac) : (pCp3 K X).length = (pCp2 K X).length + X.create.toNat := by
  have : pAt K X ≤ (pCp2 K X).length := placeAt_le _ _ _
  unfold pCp3
  rw [List.length_append, List.length_append, mkCps_len, List.length_take, List.length_drop]
  omega
theorem room_eq {K : SBk} {X : Ac} (hv : sbOk K = true) (ha : acOk X = true) (hix : 0 ≤ svIx K.svcs X.svc) : roomOff (K.now + 1) (pSv4 K X) (pCp3 K X) = roomBad K X := by
  obtain ⟨h1, h2, h3⟩ := pK_facts hix
  have hb := ac_bounds ha
  have hnx := fun i hi => (next_of_ok hv i hi).2.1
  have e2 : (pCp3 K X).length = K.cps.length + X.create.toNat := by rw [mk_len3]; unfold pCp2; rw [endsTo_len]
  have n3 : (pS3 K X).next = (acS K X).next + X.create := by
    have : (pS3 K X).next = (pS2 K X).next + ((X.create.toNat : Nat) : Int) := rfl
    rw [this, (pS2_is K X).2.2.2.2.2]
    omega
  have ehi : (0 ≤ highIx (pSv4 K X)) ↔ 1000000 < (acS K X).next + X.create := by
    rw [high_iff]
    unfold pSv4
    cases hd : X.drop
    · constructor
      · rintro ⟨i, hi, hn⟩
        have hi' : i < (pSv3 K X).length := hi
        unfold pSv3 at hi'
        rw [List.length_set] at hi'
        have hn' : 1000000 < ((pSv3 K X).getD i Sv.none).next := hn
        by_cases e : pK K X = i
        · subst e
          unfold pSv3 at hn'
          rw [pS_at K X h2, n3] at hn'
          exact hn'
        · have : (pSv3 K X).getD i Sv.none = K.svcs.getD i Sv.none := by unfold pSv3; simp [e]
          rw [this] at hn'
          have := hnx i hi'
          omega
      · intro h
        refine ⟨pK K X, ?_, ?_⟩
        · show pK K X < (pSv3 K X).length
          unfold pSv3; rw [List.length_set]; exact h2
        · show 1000000 < ((pSv3 K X).getD (pK K X) Sv.none).next
          unfold pSv3
          rw [pS_at K X h2, n3]
          exact h
    · obtain ⟨d1, _, _⟩ := drop_bare ha hd
      have hall : ∀ x ∈ K.svcs, x.next ≤ 1000000 := (all_mem Sv.none (fun x => x.next ≤ 1000000) K.svcs).1 hnx
      have hacn : (acS K X).next ≤ 1000000 := hnx _ h2
      have hs3 : ∀ x ∈ pSv3 K X, x.next ≤ 1000000 := by
        intro x hx
        unfold pSv3 at hx
        rcases List.mem_or_eq_of_mem_set hx with q | q
        · exact hall x q
        · rw [q, n3, d1]; omega
      constructor
      · rintro ⟨i, hi, hn⟩
        have hm : ((pSv3 K X).take (pK K X) ++ (pSv3 K X).drop (pK K X + 1)).getD i Sv.none ∈ (pSv3 K X).take (pK K X) ++ (pSv3 K X).drop (pK K X + 1) := by
          have hi' : i < ((pSv3 K X).take (pK K X) ++ (pSv3 K X).drop (pK K X + 1)).length := hi
          have e : ((pSv3 K X).take (pK K X) ++ (pSv3 K X).drop (pK K X + 1)).getD i Sv.none = ((pSv3 K X).take (pK K X) ++ (pSv3 K X).drop (pK K X + 1))[i] := by rw [List.getD_eq_getElem?_getD, List.getElem?_eq_getElem hi']; rfl
          rw [e]
          exact List.getElem_mem hi'
        have hn' : 1000000 < (((pSv3 K X).take (pK K X) ++ (pSv3 K X).drop (pK K X + 1)).getD i Sv.none).next := hn
        have : (((pSv3 K X).take (pK K X) ++ (pSv3 K X).drop (pK K X + 1)).getD i Sv.none).next ≤ 1000000 := by
          rcases List.mem_append.1 hm with q | q
          · exact hs3 _ (List.mem_of_mem_take q)
          · exact hs3 _ (List.mem_of_mem_drop q)
        omega
      · intro h; rw [d1] at h; omega
  unfold roomOff roomBad
  rw [e2]
  have a1 : decide (0 ≤ highIx (pSv4 K X)) = decide (1000000 < (acS K X).next + X.create) := by
    by_cases h : 1000000 < (acS K X).next + X.create
    · rw [decide_eq_true h, decide_eq_true (ehi.2 h)]
    · rw [decide_eq_false h, decide_eq_false (fun q => h (ehi.1 q))]
  have a2 : decide (200 < K.cps.length + X.create.toNat) = decide (200 < (K.cps.length : Int) + X.create) := by
    by_cases h : 200 < (K.cps.length : Int) + X.create
    · rw [decide_eq_true h, decide_eq_true (by omega)]
    · rw [decide_eq_false h, decide_eq_false (by omega)]
  have a3 : decide (1000000 < K.now + 1) = decide (1000000 ≤ K.now) := by
    by_cases h : 1000000 ≤ K.now
    · rw [decide_eq_true h, decide_eq_true (by omega)]
    · rw [decide_eq_false h, decide_eq_false (by omega)]
  rw [a1, a2, a3]
  cases decide (1000000 < (acS K X).next + X.create) <;> cases decide (200 < (K.cps.length : Int) + X.create) <;> rfl
/-- The codes are the same. -/
theorem code_eq {K : SBk} (X : Ac) (hv : sbOk K = true) : pCode K X = acCode K X := by
  unfold pCode acCode
  by_cases ha : acOk X = false
  · rw [if_pos ha, if_pos ha]
  rw [if_neg ha, if_neg ha]
  have ha' : acOk X = true := by simpa using ha
  unfold woCode
  by_cases hix : svIx K.svcs X.svc < 0
  · simp only [if_pos hix]; rfl
  simp only [if_neg hix]
  have hix' : 0 ≤ svIx K.svcs X.svc := by omega
  by_cases hf : allTo (fndAt K X) X.ends.length = false
  · simp only [if_pos hf]; rfl
  simp only [if_neg hf]
  have hf' : allTo (fndAt K X) X.ends.length = true := by simpa using hf
  by_cases hs : (acS K X).ver = X.seen
  case neg =>
    have hs1 : ((acS K X).ver == X.seen) = false := by simp [hs]
    rw [if_pos hs, hs1, Bool.false_and]
    rfl
  have hs1 : ((acS K X).ver == X.seen) = true := by simp [hs]
  rw [if_neg (by simp [hs] : ¬ (acS K X).ver ≠ X.seen), hs1, Bool.true_and]
  by_cases hr : allTo (verAt K X) X.ends.length = false
  · simp only [if_pos hr]; rfl
  simp only [if_neg hr, if_true]
  unfold pEnd pScale pMake pDrop pRoom
  rw [may_eq hv hix' hf', make_eq hv ha' hix' hf', drop_eq hv ha' hix' hf', room_eq hv ha' hix']
  have es : (X.scale && scaleOff X (pS1 K X)) = scaleBad K X := rfl
  rw [es]
  cases allTo (mayAt K X) X.ends.length <;> cases scaleBad K X <;> cases makeBad K X <;> cases dropBad K X <;> cases roomBad K X <;> rfl

end Go.Proofs.YtpamkibnahhphaaGreatDoor

namespace Go.Proofs.YtpamkibnahhphaaGreatDoor
open Go.RowKit Go.Deep

theorem mem_take_getD {α : Type} (d : α) {l : List α} {n : Nat} {x : α} (h : x ∈ l.take n) : ∃ j, j < n ∧ j < l.length ∧ l.getD j d = x := by
  obtain ⟨j, hj, e⟩ := List.getElem_of_mem h
  rw [List.length_take] at hj
  rw [List.getElem_take] at e
  exact ⟨j, by omega, by omega, by rw [List.getD_eq_getElem?_getD, List.getElem?_eq_getElem (by omega)]; exact e⟩
theorem mem_drop_getD {α : Type} (d : α) {l : List α} {n : Nat} {x : α} (h : x ∈ l.drop n) : ∃ j, n ≤ j ∧ j < l.length ∧ l.getD j d = x := by
  obtain ⟨j, hj, e⟩ := List.getElem_of_mem h
  rw [List.length_drop] at hj
  rw [List.getElem_drop] at e
  exact ⟨n + j, by omega, by omega, by rw [List.getD_eq_getElem?_getD, List.getElem?_eq_getElem (by omega)]; exact e⟩
theorem ins_at {P B : List Cp} {c : Cp} (hP : ∀ x ∈ P, ahead x c = true) (hB : ∀ x ∈ B, ahead x c = false) : insCp (P ++ B) c = P ++ [c] ++ B := by
  have h1 : (P ++ B).takeWhile (fun x => ahead x c) = P := by
    rw [List.takeWhile_append_of_pos hP]
    cases B with
    | nil => simp
    | cons b B => rw [List.takeWhile_cons_of_neg (by rw [hB b (by simp)]; decide), List.append_nil]
  unfold insCp plcCp
  rw [h1, List.take_left', List.drop_left'] <;> rfl
theorem same_self (s : ByteArray) : same s s = true := by simp [same]
theorem ahead_more {x : Cp} {s : Sv} {v : Int} {i j : Nat} (hij : i ≤ j) (h : ahead x (mkCp s v i) = true) : ahead x (mkCp s v j) = true := by
  unfold ahead at h ⊢
  rw [Bool.or_eq_true, Bool.and_eq_true, decide_eq_true_eq] at h ⊢
  rcases h with h | ⟨h, h'⟩
  · exact Or.inl h
  · refine Or.inr ⟨h, ?_⟩
    have h2 : x.num < s.next + i := h'
    show x.num < s.next + j
    omega
theorem made_eq {K : SBk} {X : Ac} (hv : sbOk K = true) (hix : 0 ≤ svIx K.svcs X.svc) (hf : allTo (fndAt K X) X.ends.length = true) : ∀ i, madeTo K X i = (pCp2 K X).take (pAt K X) ++ mkCps (pS2 K X) (K.now + 1) i ++ (pCp2 K X).drop (pAt K X)
  | 0 => by
    have : mkCps (pS2 K X) (K.now + 1) 0 = [] := rfl
    rw [this, List.append_nil, List.take_append_drop, pCp2_eq hv hf]
    rfl
  | i + 1 => by
    obtain ⟨h1, h2, h3⟩ := pK_facts hix
    obtain ⟨s1, s2, s3, s4, s5, s6⟩ := pS2_is K X
    have hnm : (pS2 K X).nm = X.svc := s1.trans h3
    have hasc := pCp2_asc (X := X) hv
    have ec : newCp K X ((acS K X).next + i) = mkCp (pS2 K X) (K.now + 1) i := by
      unfold newCp mkCp
      rw [hnm, s3, s6]
    have e0 : ∀ x : Cp, decide (cpCmp x.svc x.num (pS2 K X).nm (pS2 K X).next < 0) = ahead x (mkCp (pS2 K X) (K.now + 1) 0) := fun x => by
      have := cpCmp_neg x (mkCp (pS2 K X) (K.now + 1) 0)
      rw [← this]
      have e : (mkCp (pS2 K X) (K.now + 1) 0).num = (pS2 K X).next := by show (pS2 K X).next + ((0 : Nat) : Int) = _; omega
      rw [e]
      rfl
    rw [madeTo, made_eq hv hix hf i, ec, ins_at, mkCps_succ]
    · simp only [List.append_assoc]
    · intro x hx
      rcases List.mem_append.1 hx with q | q
      · obtain ⟨j, hj, hjl, rfl⟩ := mem_take_getD Cp.none q
        have := placeAt_lt (pCp2 K X) (pS2 K X).nm (pS2 K X).next j hj
        exact ahead_more (Nat.zero_le i) ((e0 _).symm.trans (decide_eq_true this))
      · obtain ⟨j, hj, rfl⟩ := List.mem_map.1 q
        have hji : j < i := List.mem_range.1 hj
        unfold ahead
        rw [Bool.or_eq_true, Bool.and_eq_true, decide_eq_true_eq]
        refine Or.inr ⟨same_self _, ?_⟩
        show (pS2 K X).next + (j : Int) < (pS2 K X).next + (i : Int)
        omega
    · intro x hx
      obtain ⟨j, hj, hjl, rfl⟩ := mem_drop_getD Cp.none hx
      have hge := placeAt_ge hasc (pS2 K X).nm (pS2 K X).next j hj hjl
      have hn0 : ahead ((pCp2 K X).getD j Cp.none) (mkCp (pS2 K X) (K.now + 1) 0) = false := (e0 _).symm.trans (decide_eq_false (by omega))
      rw [Bool.eq_false_iff]
      intro hah
      unfold ahead at hah hn0
      rw [Bool.or_eq_true, Bool.and_eq_true, decide_eq_true_eq] at hah
      rw [Bool.or_eq_false_iff] at hn0
      rcases hah with q | ⟨q, q'⟩
      · rw [show Pl.less ((pCp2 K X).getD j Cp.none).svc (mkCp (pS2 K X) (K.now + 1) 0).svc = true from q] at hn0
        cases hn0.1
      · have hq : same ((pCp2 K X).getD j Cp.none).svc (mkCp (pS2 K X) (K.now + 1) 0).svc = true := q
        rw [hq, Bool.true_and] at hn0
        have hle := of_decide_eq_false hn0.2
        apply hle
        have hjl' : j < K.cps.length := by
          have := hjl
          unfold pCp2 at this
          rwa [endsTo_len] at this
        have hlk : likeCp ((pCp2 K X).getD j Cp.none) (K.cps.getD j Cp.none) := endsTo_like K.cps _ _ j _
        have hok := hv
        simp only [sbOk, Bool.and_eq_true] at hok
        have hco := (allTo_iff _ _).1 hok.2 j hjl'
        simp only [cpOk, inB, Bool.and_eq_true, decide_eq_true_eq] at hco
        have hsm : same (K.cps.getD j Cp.none).svc X.svc = true := by
          rw [← hlk.1, ← hnm]; exact hq
        have hsx := svIx_same K.svcs hsm
        have hnum := hco.1.1.1.1.1.2.2
        rw [hsx] at hnum
        have e1 : svGet K.svcs (svIx K.svcs X.svc) = acS K X := rfl
        rw [e1] at hnum
        show ((pCp2 K X).getD j Cp.none).num < (pS2 K X).next + ((0 : Nat) : Int)
        rw [hlk.2.1, s6]
        omega
theorem pS3_is {K : SBk} {X : Ac} (ha : acOk X = true) : pS3 K X = acS3 K X := by
  have hb := (ac_bounds ha).1
  have e2 : ((X.create.toNat : Nat) : Int) = X.create := by omega
  unfold pS3 upNext acS3 pS2 acS2
  rw [e2]
  cases X.scale <;> rfl
theorem svs_eq {K : SBk} {X : Ac} (ha : acOk X = true) : pSv4 K X = acSvs K X := by
  unfold pSv4 acSvs
  have e : (svIx K.svcs X.svc).toNat = pK K X := rfl
  rw [e]
  cases X.drop
  · show pSv3 K X = K.svcs.set (pK K X) (acS3 K X)
    unfold pSv3
    rw [pS3_is ha]
  · show (pSv3 K X).take (pK K X) ++ (pSv3 K X).drop (pK K X + 1) = K.svcs.take (pK K X) ++ K.svcs.drop (pK K X + 1)
    unfold pSv3
    rw [List.take_set_of_le (Nat.le_refl _), List.drop_set_of_lt (Nat.lt_succ_self _)]
theorem code_steps {K : SBk} {X : Ac} (h : acCode K X = 0) : acOk X = true ∧ 0 ≤ svIx K.svcs X.svc ∧ allTo (fndAt K X) X.ends.length = true := by
  unfold acCode at h
  split at h
  · cases h
  · rename_i h1
    split at h
    · cases h
    · rename_i h2
      split at h
      · cases h
      · rename_i h3
        exact ⟨by simpa using h1, by omega, by simpa using h3⟩
theorem book_eq {K : SBk} {X : Ac} (hv : sbOk K = true) (h : pCode K X = 0) : pBook K X = acBook K X := by
  rw [code_eq X hv] at h
  obtain ⟨ha, hix, hf⟩ := code_steps h
  unfold pBook acBook
  rw [svs_eq ha, made_eq hv hix hf X.create.toNat]
  rfl
theorem ap_eq (K : SBk) (X : Ac) : pAp K X = stewAp K X ∧ pApC K X = stewApC K X := by
  unfold pAp stewAp pApC stewApC
  cases hv : sbOk K
  · exact ⟨rfl, rfl⟩
  · refine ⟨?_, code_eq X hv⟩
    show (if pCode K X = 0 then pBook K X else K) = applyK K X
    unfold applyK
    by_cases h : pCode K X = 0
    · rw [if_pos h, if_pos (by rw [← code_eq X hv]; exact h), book_eq hv h]
    · rw [if_neg h, if_neg (by rw [← code_eq X hv]; exact h)]

theorem stewApplyI (K : SBk) (X : Ac) (b0 b1 b2 be : Nat) (W : World) (hk : SBkIn W b0 b1 b2 K) (hk' : EnsIn W be X.ends) (hsz : X.svc.size ≤ maxLen) (hg : ErrT W) :
    Calls Tryz.prog 9 #[.agg #[.int .i64 K.now, .slice (some ⟨b0, 0, none⟩) K.svcs.length K.svcs.length, .slice (some ⟨b1, 0, none⟩) K.cps.length K.cps.length, .slice (some ⟨b2, 0, none⟩) K.bts.length K.bts.length], .agg #[.string X.svc, .int .i64 X.seen, .int .i64 X.create, .int .i64 X.want, .int .i64 X.cool, .bool X.scale, .slice (some ⟨be, 0, none⟩) X.ends.length X.ends.length, .bool X.drop]] W fun e w' => (∃ s0 s1 s2, e = .returned (.tuple #[.agg #[.int .i64 (stewAp K X).now, s0, s1, s2], .int .i64 (stewApC K X)]) ∧ BkOwn w' W.heap.size (stewAp K X) s0 s1 s2) ∧ Below W.heap.size W w' := by
  have := applyP K b0 b1 b2 K.svcs.length K.cps.length K.bts.length X (some ⟨be, 0, none⟩) X.ends.length W hk.v hk'.v hsz hg
  rw [(ap_eq K X).1, (ap_eq K X).2] at this
  exact this

end Go.Proofs.YtpamkibnahhphaaGreatDoor
