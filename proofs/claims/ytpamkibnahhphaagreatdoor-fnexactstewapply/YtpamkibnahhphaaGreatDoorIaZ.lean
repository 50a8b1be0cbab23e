/-
  Stewards: stewActed, whole, by the program.
-/
import Derived.Test.YtpamkibnahhphaaGreatDoorIaU
namespace Go.Proofs.YtpamkibnahhphaaGreatDoor
open Go.RowKit Go.Deep

theorem drop_bare {X : Ac} (h : acOk X = true) (hd : X.drop = true) : X.create = 0 ∧ X.scale = false ∧ X.ends.length = 0 := by
  simp only [acOk, Bool.and_eq_true] at h
  have h2 := h.2.2
  unfold acDrop at h2
  rw [hd] at h2
  simp at h2
  exact ⟨h2.1.1, h2.1.2, by simp [h2.2]⟩
theorem pS_at (K : SBk) (X : Ac) (hk : pK K X < K.svcs.length) (s : Sv) : (K.svcs.set (pK K X) s).getD (pK K X) Sv.none = s := getD_set_at Sv.none hk
theorem pMake0 {K : SBk} {X : Ac} (h : X.create = 0) : pSv3 K X = pSv2 K X ∧ pCp3 K X = pCp2 K X := by
  have e : pS3 K X = pS2 K X := by unfold pS3 upNext; rw [h]; simp
  refine ⟨by unfold pSv3 pSv2; rw [e], ?_⟩
  unfold pCp3 mkCps
  rw [h]
  simp
theorem pCp2_asc {K : SBk} {X : Ac} (h : sbOk K = true) : ascCp (pCp2 K X) = true := endsTo_asc (chk_all h).2.1 _ _ _
theorem pCp2_len {K : SBk} {X : Ac} (h : sbOk K = true) : (pCp2 K X).length ≤ 200 := by
  unfold pCp2; rw [endsTo_len]; exact (chk_all h).2.2.1
theorem pS1_bnd {K : SBk} {X : Ac} (hk : pK K X < K.svcs.length) (h : sbOk K = true) : 0 ≤ (pS1 K X).want ∧ (pS1 K X).want ≤ 10 ∧ 0 ≤ (pS1 K X).down ∧ (pS1 K X).down ≤ 10 := (sane_ok h).num _ hk
theorem pS2_bnd {K : SBk} {X : Ac} (hk : pK K X < K.svcs.length) (ha : acOk X = true) (h : sbOk K = true) : (0 ≤ (pS2 K X).want ∧ (pS2 K X).want ≤ 10 ∧ 0 ≤ (pS2 K X).over ∧ (pS2 K X).over ≤ 10) ∧ (1 ≤ (pS2 K X).next ∧ (pS2 K X).next ≤ 1000000) := by
  have h1 := pS1_bnd hk h
  have h2 := next_of_ok h (pK K X) hk
  unfold pS2
  cases hs : X.scale
  · exact ⟨⟨h1.1, h1.2.1, h2.2.2.1, h2.2.2.2⟩, h2.1, h2.2.1⟩
  · have h3 := (ac_bounds ha).2.2 hs
    exact ⟨⟨h3.1, h3.2, h2.2.2.1, h2.2.2.2⟩, h2.1, h2.2.1⟩

set_option maxRecDepth 8000 in
set_option maxHeartbeats 40000000 in
theorem segDrop (K : SBk) (X : Ac) (w : World) (L pn pe p : Nat) (W : World) (HC : Hid (Ct w L pn pe W)) (vae : Value) (g : Nat) (p1 p2 pf : Option Addr) (n0 n1 n2 ne q0 q1 q2 qe : Nat) (HW : Hid (Wk L p W X vae (K.now + 1) (pSv3 K X) (pCp3 K X) K.bts (pK K X) (pEs K X) (some ⟨g, 0, none⟩) p1 p2 pf n0 n1 n2 ne q0 q1 q2 qe)) (HP : Hid (pCode K X = pDrop K X)) (HSN : Hid (pK K X < K.svcs.length ∧ acOk X = true ∧ sbOk K = true)) (u0 u1 u2 u3 u7 u8 u9 u10 u11 u12 u13 u14 u15 u16 u17 u18 u19 u20 u21 u22 u23 u24 u25 u26 u27 u28 u29 u30 u31 u32 u33 u34 u35 u36 u37 : Value) :
    Code.wp Tryz.prog ac8 (bodyPostD Tryz.prog Tryz.f27 (ActR K X w)) { tmps := #[u0, u1, u2, u3, .pointer (some ⟨pn, 0, none⟩), .pointer (some ⟨pe, 0, none⟩), .pointer (some ⟨p, 0, none⟩), u7, u8, u9, u10, u11, u12, u13, u14, u15, u16, u17, u18, u19, u20, u21, u22, u23, u24, u25, u26, u27, u28, u29, u30, u31, u32, u33, u34, u35, u36, u37], defers := [{ target := .fn (.func 62) #[.pointer (some ⟨pn, 0, none⟩), .pointer (some ⟨pe, 0, none⟩)], args := #[] }] } W := by
  rw [ac8_9]
  simp only [ac8, ac7, ac6, ac5, ac4, ac3, ac2, ac1, ac0, Tryz.f27, Option.getD_some, sfst_seq, ssnd_seq]
  unfold pDrop at HP
  have HKN : Hid (pK K X < n0) := by
    have := HW.out.l0
    unfold pSv3 at this
    rw [List.length_set] at this
    show _ < _
    rw [← this]; exact HSN.out.1
  cases hd : X.drop
  · have HP2 : Hid (pCode K X = pRoom K X) := by show _ = _; rw [HP.out, hd]; rfl
    have e4 : pSv4 K X = pSv3 K X := by unfold pSv4; rw [hd]; rfl
    have HWN := hid (dropNo HW.out hd)
    have HW4 := HW
    rw [← e4] at HW4
    clear e4 hd
    go_wp2_with fail
    refine HWN.out.mono ?_
    rintro e w1 ⟨rfl, hw⟩
    obtain rfl := hw.symm
    go_wp2
    exact segRoom K X w L pn pe p _ HC vae _ p1 p2 pf n0 n1 n2 ne q0 q1 q2 qe HW4 HP2 _ _ _ _ _ _ _ _ _ _ _ _ _ _ _ _ _ _ _ _ _ _ _ _ _ _ _ _ _ _ _ _ _ _ _
  · have h0 := pMake0 (K := K) (drop_bare HSN.out.2.1 hd).1
    have HWY := hid (dropYes HW.out hd HKN.out (by rw [h0.2]; exact pCp2_asc HSN.out.2.2) (by rw [← HW.out.l1, h0.2]; exact pCp2_len HSN.out.2.2) (pS3 K X) (pS_at K X HSN.out.1 _).symm)
    have e4 : pSv4 K X = (pSv3 K X).take (pK K X) ++ (pSv3 K X).drop (pK K X + 1) := by unfold pSv4; rw [hd]; rfl
    rw [← e4] at HWY
    rw [hd, Bool.true_and] at HP
    clear e4 hd h0
    go_wp2_with fail
    refine HWY.out.mono ?_
    rintro e w1 ⟨he, hb⟩
    have HC1 := hid (HC.out.on hb)
    clear HWY hb
    cases hr : dropOff (pCp3 K X) (pS3 K X)
    · rw [hr] at he HP
      simp only [Bool.false_eq_true, if_false] at he HP
      obtain ⟨rfl, hw⟩ := he
      have HW4 := hid hw
      clear hr hw
      go_wp2
      exact segRoom K X w L pn pe p _ HC1 vae _ p1 p2 pf _ n1 n2 ne q0 q1 q2 qe HW4 HP _ _ _ _ _ _ _ _ _ _ _ _ _ _ _ _ _ _ _ _ _ _ _ _ _ _ _ _ _ _ _ _ _ _ _
    · rw [hr] at he HP
      simp only [if_true] at he HP
      unfold stopE at he
      subst he
      clear hr
      go_wp2
      exact doorStop _ 6 rfl rfl HC1.out HP.out (by decide)

set_option maxRecDepth 8000 in
set_option maxHeartbeats 40000000 in
theorem segMake (K : SBk) (X : Ac) (w : World) (L pn pe p : Nat) (W : World) (HC : Hid (Ct w L pn pe W)) (vae : Value) (g : Nat) (p1 p2 pf : Option Addr) (n0 n1 n2 ne q0 q1 q2 qe : Nat) (HW : Hid (Wk L p W X vae (K.now + 1) (pSv2 K X) (pCp2 K X) K.bts (pK K X) (pEs K X) (some ⟨g, 0, none⟩) p1 p2 pf n0 n1 n2 ne q0 q1 q2 qe)) (HP : Hid (pCode K X = pMake K X)) (HSN : Hid (pK K X < K.svcs.length ∧ acOk X = true ∧ sbOk K = true)) (u0 u1 u2 u3 u7 u8 u9 u10 u11 u12 u13 u14 u15 u16 u17 u18 u19 u20 u21 u22 u23 u24 u25 u26 u27 u28 u29 u30 u31 u32 u33 u34 u35 u36 u37 : Value) :
    Code.wp Tryz.prog ac7 (bodyPostD Tryz.prog Tryz.f27 (ActR K X w)) { tmps := #[u0, u1, u2, u3, .pointer (some ⟨pn, 0, none⟩), .pointer (some ⟨pe, 0, none⟩), .pointer (some ⟨p, 0, none⟩), u7, u8, u9, u10, u11, u12, u13, u14, u15, u16, u17, u18, u19, u20, u21, u22, u23, u24, u25, u26, u27, u28, u29, u30, u31, u32, u33, u34, u35, u36, u37], defers := [{ target := .fn (.func 62) #[.pointer (some ⟨pn, 0, none⟩), .pointer (some ⟨pe, 0, none⟩)], args := #[] }] } W := by
  rw [ac7_8]
  simp only [ac7, ac6, ac5, ac4, ac3, ac2, ac1, ac0, Tryz.f27, Option.getD_some, sfst_seq, ssnd_seq]
  unfold pMake at HP
  have HKN : Hid (pK K X < n0) := by
    have := HW.out.l0
    unfold pSv2 at this
    rw [List.length_set] at this
    show _ < _
    rw [← this]; exact HSN.out.1
  by_cases hd : X.create = 0
  · have HP2 : Hid (pCode K X = pDrop K X) := by show _ = _; rw [HP.out, hd]; rfl
    have h0 := pMake0 (K := K) hd
    have HWN := hid (createNo HW.out hd)
    have HW4 := HW
    rw [← h0.1, ← h0.2] at HW4
    clear h0 hd
    go_wp2_with fail
    refine HWN.out.mono ?_
    rintro e w1 ⟨rfl, hw⟩
    obtain rfl := hw.symm
    go_wp2
    exact segDrop K X w L pn pe p _ HC vae g p1 p2 pf n0 n1 n2 ne q0 q1 q2 qe HW4 HP2 HSN _ _ _ _ _ _ _ _ _ _ _ _ _ _ _ _ _ _ _ _ _ _ _ _ _ _ _ _ _ _ _ _ _ _ _
  · have hb := ac_bounds HSN.out.2.1
    have hcm : X.create = (X.create.toNat : Int) := by omega
    have h2 := pS2_bnd HSN.out.1 HSN.out.2.1 HSN.out.2.2
    have HWY := hid (createYes HW.out X.create.toNat hcm (by omega) (by omega) HKN.out (pCp2_asc HSN.out.2.2) (by rw [← HW.out.l1]; exact pCp2_len HSN.out.2.2) (pS2 K X) (pS_at K X HSN.out.1 _).symm h2.1 h2.2)
    have e3 : (pSv2 K X).set (pK K X) (upNext (pS2 K X) X.create.toNat) = pSv3 K X := by unfold pSv3 pSv2 pS3; rw [List.set_set]
    have e4 : (pCp2 K X).take (placeAt (pCp2 K X) (pS2 K X).nm (pS2 K X).next) ++ mkCps (pS2 K X) (K.now + 1) X.create.toNat ++ (pCp2 K X).drop (placeAt (pCp2 K X) (pS2 K X).nm (pS2 K X).next) = pCp3 K X := rfl
    rw [e3, e4] at HWY
    have hne : (X.create != 0) = true := by simp [hd]
    rw [hne, Bool.true_and] at HP
    clear e3 e4 hne hb hcm h2 hd
    go_wp2_with fail
    refine HWY.out.mono ?_
    rintro e w1 ⟨he, hb⟩
    have HC1 := hid (HC.out.on hb)
    clear HWY hb
    cases hr : createOff (pCp2 K X) (pS2 K X) X.create.toNat
    · rw [hr] at he HP
      simp only [Bool.false_eq_true, if_false] at he HP
      obtain ⟨rfl, p1', q1', hw⟩ := he
      have HW4 := hid hw
      clear hr hw
      go_wp2
      exact segDrop K X w L pn pe p _ HC1 vae g p1' p2 pf n0 _ n2 ne q0 q1' q2 qe HW4 HP HSN _ _ _ _ _ _ _ _ _ _ _ _ _ _ _ _ _ _ _ _ _ _ _ _ _ _ _ _ _ _ _ _ _ _ _
    · rw [hr] at he HP
      simp only [if_true] at he HP
      unfold stopE at he
      subst he
      clear hr
      go_wp2
      exact doorStop _ 6 rfl rfl HC1.out HP.out (by decide)

set_option maxRecDepth 8000 in
set_option maxHeartbeats 40000000 in
theorem segScale (K : SBk) (X : Ac) (w : World) (L pn pe p : Nat) (W : World) (HC : Hid (Ct w L pn pe W)) (vae : Value) (g : Nat) (p1 p2 pf : Option Addr) (n0 n1 n2 ne q0 q1 q2 qe : Nat) (HW : Hid (Wk L p W X vae (K.now + 1) (pSv1 K X) (pCp2 K X) K.bts (pK K X) (pEs K X) (some ⟨g, 0, none⟩) p1 p2 pf n0 n1 n2 ne q0 q1 q2 qe)) (HP : Hid (pCode K X = pScale K X)) (HSN : Hid (pK K X < K.svcs.length ∧ acOk X = true ∧ sbOk K = true)) (u0 u1 u2 u3 u7 u8 u9 u10 u11 u12 u13 u14 u15 u16 u17 u18 u19 u20 u21 u22 u23 u24 u25 u26 u27 u28 u29 u30 u31 u32 u33 u34 u35 u36 u37 : Value) :
    Code.wp Tryz.prog ac6 (bodyPostD Tryz.prog Tryz.f27 (ActR K X w)) { tmps := #[u0, u1, u2, u3, .pointer (some ⟨pn, 0, none⟩), .pointer (some ⟨pe, 0, none⟩), .pointer (some ⟨p, 0, none⟩), u7, u8, u9, u10, u11, u12, u13, u14, u15, u16, u17, u18, u19, u20, u21, u22, u23, u24, u25, u26, u27, u28, u29, u30, u31, u32, u33, u34, u35, u36, u37], defers := [{ target := .fn (.func 62) #[.pointer (some ⟨pn, 0, none⟩), .pointer (some ⟨pe, 0, none⟩)], args := #[] }] } W := by
  rw [ac6_7]
  simp only [ac6, ac5, ac4, ac3, ac2, ac1, ac0, Tryz.f27, Option.getD_some, sfst_seq, ssnd_seq]
  unfold pScale at HP
  have HKN : Hid (pK K X < n0) := by
    have := HW.out.l0
    unfold pSv1 at this
    rw [List.length_set] at this
    show _ < _
    rw [← this]; exact HSN.out.1
  cases hd : X.scale
  · have HP2 : Hid (pCode K X = pMake K X) := by show _ = _; rw [HP.out, hd]; rfl
    have e2 : pSv2 K X = pSv1 K X := by unfold pSv2 pSv1 pS2; rw [hd]; rfl
    have HWN := hid (scaleNo HW.out hd)
    have HW4 := HW
    rw [← e2] at HW4
    clear e2 hd
    go_wp2_with fail
    refine HWN.out.mono ?_
    rintro e w1 ⟨rfl, hw⟩
    obtain rfl := hw.symm
    go_wp2
    exact segMake K X w L pn pe p _ HC vae g p1 p2 pf n0 n1 n2 ne q0 q1 q2 qe HW4 HP2 HSN _ _ _ _ _ _ _ _ _ _ _ _ _ _ _ _ _ _ _ _ _ _ _ _ _ _ _ _ _ _ _ _ _ _ _
  · have HWY := hid (scaleYes HW.out hd HKN.out (pS1 K X) (pS_at K X HSN.out.1 _).symm)
    have e3 : (pSv1 K X).set (pK K X) (scaled X (pS1 K X)) = pSv2 K X := by unfold pSv2 pSv1 pS2; rw [List.set_set, hd]; rfl
    rw [e3] at HWY
    rw [hd, Bool.true_and] at HP
    clear e3 hd
    go_wp2_with fail
    refine HWY.out.mono ?_
    rintro e w1 ⟨he, hb⟩
    have HC1 := hid (HC.out.on hb)
    clear HWY hb
    cases hr : scaleOff X (pS1 K X)
    · rw [hr] at he HP
      simp only [Bool.false_eq_true, if_false] at he HP
      obtain ⟨rfl, hw⟩ := he
      have HW4 := hid hw
      clear hr hw
      go_wp2
      exact segMake K X w L pn pe p _ HC1 vae g p1 p2 pf n0 n1 n2 ne q0 q1 q2 qe HW4 HP HSN _ _ _ _ _ _ _ _ _ _ _ _ _ _ _ _ _ _ _ _ _ _ _ _ _ _ _ _ _ _ _ _ _ _ _
    · rw [hr] at he HP
      simp only [if_true] at he HP
      unfold stopE at he
      subst he
      clear hr
      go_wp2
      exact doorStop _ 6 rfl rfl HC1.out HP.out (by decide)

theorem pEs_at {K : SBk} {X : Ac} (hv : sbOk K = true) (h : allTo (fndAt K X) X.ends.length = true) : ∀ i, i < (pEs K X).length → (pEs K X).getD i 0 < K.cps.length := by
  intro i hi
  unfold pEs at hi ⊢
  rw [esTo_len] at hi
  have e : (esTo K X X.ends.length).getD i 0 = placeAt K.cps X.svc (endN X i) := by simp [esTo, hi]
  rw [e]
  have := of_decide_eq_true ((allTo_iff _ _).1 h i hi)
  exact ((cpIx_place (chk_all hv).2.1 _ _).2 this).2

set_option maxRecDepth 8000 in
set_option maxHeartbeats 40000000 in
theorem segEnd (K : SBk) (X : Ac) (w : World) (L pn pe p : Nat) (W : World) (HC : Hid (Ct w L pn pe W)) (vae : Value) (g : Nat) (p1 p2 pf : Option Addr) (n0 n1 n2 ne q0 q1 q2 qe : Nat) (HW : Hid (Wk L p W X vae (K.now + 1) (pSv1 K X) K.cps K.bts (pK K X) (pEs K X) (some ⟨g, 0, none⟩) p1 p2 pf n0 n1 n2 ne q0 q1 q2 qe)) (HP : Hid (pCode K X = pEnd K X)) (HSN : Hid (pK K X < K.svcs.length ∧ acOk X = true ∧ sbOk K = true)) (HF : Hid (allTo (fndAt K X) X.ends.length = true)) (u0 u1 u2 u3 u7 u8 u9 u10 u11 u12 u13 u14 u15 u16 u17 u18 u19 u20 u21 u22 u23 u24 u25 u26 u27 u28 u29 u30 u31 u32 u33 u34 u35 u36 u37 : Value) :
    Code.wp Tryz.prog ac5 (bodyPostD Tryz.prog Tryz.f27 (ActR K X w)) { tmps := #[u0, u1, u2, u3, .pointer (some ⟨pn, 0, none⟩), .pointer (some ⟨pe, 0, none⟩), .pointer (some ⟨p, 0, none⟩), u7, u8, u9, u10, u11, u12, u13, u14, u15, u16, u17, u18, u19, u20, u21, u22, u23, u24, u25, u26, u27, u28, u29, u30, u31, u32, u33, u34, u35, u36, u37], defers := [{ target := .fn (.func 62) #[.pointer (some ⟨pn, 0, none⟩), .pointer (some ⟨pe, 0, none⟩)], args := #[] }] } W := by
  rw [ac5_6]
  simp only [ac5, ac4, ac3, ac2, ac1, ac0, Tryz.f27, Option.getD_some, sfst_seq, ssnd_seq]
  unfold pEnd at HP
  have HKN : Hid (pK K X < n0) := by
    have := HW.out.l0
    unfold pSv1 at this
    rw [List.length_set] at this
    show _ < _
    rw [← this]; exact HSN.out.1
  have HWY := hid (endI HW.out HKN.out (chk_all HSN.out.2.2).2.1 (by rw [← HW.out.l1]; exact (chk_all HSN.out.2.2).2.2.1) (pS1 K X) (pS_at K X HSN.out.1 _).symm (pS1_bnd HSN.out.1 HSN.out.2.2) (pEs_at HSN.out.2.2 HF.out))
  have e3 : allTo (mayTo (K.now + 1) (pSv1 K X) K.cps K.bts (pK K X) (pEs K X)) (pEs K X).length = pMay K X := rfl
  have e4 : endsTo K.cps (K.now + 1) (pEs K X) (pEs K X).length = pCp2 K X := rfl
  rw [e3, e4] at HWY
  clear e3 e4
  go_wp2_with fail
  refine HWY.out.mono ?_
  rintro e w1 ⟨he, hb⟩
  have HC1 := hid (HC.out.on hb)
  clear HWY hb
  cases hr : pMay K X
  · rw [hr] at he HP
    simp only [Bool.false_eq_true, if_false] at he HP
    unfold stopE at he
    subst he
    clear hr
    go_wp2
    exact doorStop _ 5 rfl rfl HC1.out HP.out (by decide)
  · rw [hr] at he HP
    simp only [if_true] at he HP
    obtain ⟨rfl, hw⟩ := he
    have HW4 := hid hw
    clear hr hw
    go_wp2
    exact segScale K X w L pn pe p _ HC1 vae g p1 p2 pf n0 n1 n2 ne q0 q1 q2 qe HW4 HP HSN _ _ _ _ _ _ _ _ _ _ _ _ _ _ _ _ _ _ _ _ _ _ _ _ _ _ _ _ _ _ _ _ _ _ _

end Go.Proofs.YtpamkibnahhphaaGreatDoor

namespace Go.Proofs.YtpamkibnahhphaaGreatDoor
open Go.RowKit Go.Deep

theorem Wk.scLow {lo p : Nat} {W : World} {X : Ac} {ae : Value} {now : Int} {sv : List Sv} {cp : List Cp} {bt : List Bt} {k : Nat} {es : List Nat} {p0 p1 p2 pe : Option Addr} {n0 n1 n2 ne q0 q1 q2 qe : Nat} (h : Wk lo p W X ae now sv cp bt k es p0 p1 p2 pe n0 n1 n2 ne q0 q1 q2 qe) {b : Nat} (hb : b < lo) (j : Nat) (x : Value) : Wk lo p (W.setCell ⟨b, j, none⟩ x) X ae now sv cp bt k es p0 p1 p2 pe n0 n1 n2 ne q0 q1 q2 qe :=
  ⟨(set_other (by have := h.lp; omega) j x).trans h.bx, h.lp, owns_sc h.o0 hb j x, owns_sc h.o1 hb j x, owns_sc h.o2 hb j x, owns_sc h.oe hb j x, h.l0, h.l1, h.l2, h.le, h.z0, h.z1, h.z2, h.m0, h.m1, h.m2, h.me⟩
theorem wo_all {K : SBk} {X : Ac} (h : woCode K X = 0) : allTo (fndAt K X) X.ends.length = true := by
  unfold woCode at h
  split at h
  · cases h
  · split at h
    · cases h
    · rename_i h2; simpa using h2
/-- The two results, stored. -/
theorem two_stored {W : World} {pn pe : Nat} {v0 v1 v2 v3 v4 : Value} (hn : W.heap[pn]? = some (.cells #[v0, v1, v2, v3] 36 (0, 0))) (he : W.heap[pe]? = some (.cells #[v4] 60 (0, 0))) (hne : pn ≠ pe) (a0 a1 a2 a3 e : Value) :
    (((((W.setCell ⟨pn, 0, none⟩ a0).setCell ⟨pn, 1, none⟩ a1).setCell ⟨pn, 2, none⟩ a2).setCell ⟨pn, 3, none⟩ a3).setCell ⟨pe, 0, none⟩ e).heap[pn]? = some (.cells #[a0, a1, a2, a3] 36 (0, 0)) ∧ (((((W.setCell ⟨pn, 0, none⟩ a0).setCell ⟨pn, 1, none⟩ a1).setCell ⟨pn, 2, none⟩ a2).setCell ⟨pn, 3, none⟩ a3).setCell ⟨pe, 0, none⟩ e).heap[pe]? = some (.cells #[e] 60 (0, 0)) := by
  have hne' : pe ≠ pn := fun h => hne h.symm
  constructor
  · rw [set_other hne]
    exact set_block (set_block (set_block (set_block hn 0 _) 1 _) 2 _) 3 _
  · refine set_block (cs := #[v4]) ?_ 0 _
    rw [set_other hne', set_other hne', set_other hne', set_other hne']
    exact he

set_option maxRecDepth 8000 in
set_option maxHeartbeats 40000000 in
theorem actedI (K : SBk) (b0 b1 b2 c0 c1 c2 : Nat) (X : Ac) (ae : Option Addr) (ce : Nat) (w : World) (h : SBkV w (some ⟨b0, 0, none⟩) (some ⟨b1, 0, none⟩) (some ⟨b2, 0, none⟩) K) (hE : EnsV w ae X.ends) (hv : sbOk K = true) (hsz : X.svc.size ≤ maxLen) :
    Calls Tryz.prog 27 #[.agg #[.int .i64 K.now, .slice (some ⟨b0, 0, none⟩) K.svcs.length c0, .slice (some ⟨b1, 0, none⟩) K.cps.length c1, .slice (some ⟨b2, 0, none⟩) K.bts.length c2], .agg #[.string X.svc, .int .i64 X.seen, .int .i64 X.create, .int .i64 X.want, .int .i64 X.cool, .bool X.scale, .slice ae X.ends.length ce, .bool X.drop]] w (ActR K X w) := by
  have HH := hid h
  have HEN := hid hE
  have HV := hid hv
  have HSZ := hid hsz
  clear h hE hv hsz
  have hmf : ∀ (fn : Fn) (first cap : Array Value) (w : World), (Instr.makeFunc fn first cap).run Tryz.prog w = .ok (.func fn first cap) w := fun _ _ _ _ => rfl
  obtain ⟨wa, hwa⟩ : ∃ wa, wa = (((w.alloc (.cells #[.int .i64 K.now, .slice (some ⟨b0, 0, none⟩) K.svcs.length c0, .slice (some ⟨b1, 0, none⟩) K.cps.length c1, .slice (some ⟨b2, 0, none⟩) K.bts.length c2] 36)).alloc (.cells #[.string X.svc, .int .i64 X.seen, .int .i64 X.create, .int .i64 X.want, .int .i64 X.cool, .bool X.scale, .slice ae X.ends.length ce, .bool X.drop] 42)).alloc (.cells #[.int .i64 0, .slice none 0 0, .slice none 0 0, .slice none 0 0] 36)).alloc (.cells #[.nilIface] 60) := ⟨_, rfl⟩
  have HB : Hid (Below w.heap.size w wa) := by show Below _ _ _; rw [hwa]; exact blw_alloc (blw_alloc (blw_alloc (blw_alloc (Below.refl _ _) _) _) _) _
  have HX : Hid (Box4 wa w.heap.size (.int .i64 K.now) (.slice (some ⟨b0, 0, none⟩) K.svcs.length c0) (.slice (some ⟨b1, 0, none⟩) K.cps.length c1) (.slice (some ⟨b2, 0, none⟩) K.bts.length c2)) := by show Box4 _ _ _ _ _ _; rw [hwa]; exact (((Box4.new' _ _ _ _ _ _ _ rfl).past _).past _).past _
  have HY : Hid (BoxA wa (w.heap.size + 1) (.string X.svc) (.int .i64 X.seen) (.int .i64 X.create) (.int .i64 X.want) (.int .i64 X.cool) (.bool X.scale) (.slice ae X.ends.length ce) (.bool X.drop)) := by show BoxA _ _ _ _ _ _ _ _ _ _; rw [hwa]; exact ((BoxA.new' _ _ _ _ _ _ _ _ _ _ _ (by simp)).past _).past _
  have HN : Hid (wa.heap[w.heap.size + 2]? = some (.cells #[.int .i64 0, .slice none 0 0, .slice none 0 0, .slice none 0 0] 36 (0, 0))) := by
    show _ = _
    rw [hwa]
    have e : ((w.alloc (.cells #[.int .i64 K.now, .slice (some ⟨b0, 0, none⟩) K.svcs.length c0, .slice (some ⟨b1, 0, none⟩) K.cps.length c1, .slice (some ⟨b2, 0, none⟩) K.bts.length c2] 36)).alloc (.cells #[.string X.svc, .int .i64 X.seen, .int .i64 X.create, .int .i64 X.want, .int .i64 X.cool, .bool X.scale, .slice ae X.ends.length ce, .bool X.drop] 42)).heap.size = w.heap.size + 2 := by simp
    rw [← e]
    exact ((blw_alloc (Below.refl _ _) _).block _ (by simp)).trans (heap_alloc_new _ _)
  have HE : Hid (wa.heap[w.heap.size + 3]? = some (.cells #[.nilIface] 60 (0, 0))) := by
    show _ = _
    rw [hwa]
    have e : (((w.alloc (.cells #[.int .i64 K.now, .slice (some ⟨b0, 0, none⟩) K.svcs.length c0, .slice (some ⟨b1, 0, none⟩) K.cps.length c1, .slice (some ⟨b2, 0, none⟩) K.bts.length c2] 36)).alloc (.cells #[.string X.svc, .int .i64 X.seen, .int .i64 X.create, .int .i64 X.want, .int .i64 X.cool, .bool X.scale, .slice ae X.ends.length ce, .bool X.drop] 42)).alloc (.cells #[.int .i64 0, .slice none 0 0, .slice none 0 0, .slice none 0 0] 36)).heap.size = w.heap.size + 3 := by simp
    rw [← e]
    exact heap_alloc_new _ _
  have hne : w.heap.size + 2 ≠ w.heap.size + 3 := by omega
  have HNE := hid hne
  clear hne
  go_enter_defers Tryz.func27, Tryz.ntmps27
  show Code.wp Tryz.prog ac0 _ _ _
  rw [ac0_5]
  simp only [ac4, ac3, ac2, ac1, ac0, Tryz.f27, Option.getD_some, sfst_seq, ssnd_seq]
  go_upto_region 2 with fail
  rw [← hwa]
  clear hwa
  obtain ⟨xz, x0, x1, x2, x3, x4, x5, x6, x7⟩ := HY.out
  go_wp2_with fail
  refine (actOkI X ae ce wa (HEN.out.later HB.out)).mono ?_
  rintro e w1 ⟨rfl, hb1⟩
  have HB1 := hid (blw_trans HB.out hb1)
  have HX1 := hid (HX.out.later hb1)
  have HY1 := hid (HY.out.later hb1)
  have HN1 := hid ((hb1.block _ (lt_heap HN.out)).trans HN.out)
  have HE1 := hid ((hb1.block _ (lt_heap HE.out)).trans HE.out)
  clear xz x0 x1 x2 x3 x4 x5 x6 x7 hb1 HX HY HB HN HE
  cases hok : acOk X
  · have HP : Hid (pCode K X = 2) := by show _ = _; unfold pCode; rw [if_pos hok]
    clear hok
    have nz := lt_block HN1.out
    have m0 := cellsOf_block HN1.out 0
    have m1 := cellsOf_block HN1.out 1
    have m2 := cellsOf_block HN1.out 2
    have m3 := cellsOf_block HN1.out 3
    have f0 := frozen_block HN1.out 0
    have f1 := frozen_block HN1.out 1
    have f2 := frozen_block HN1.out 2
    have f3 := frozen_block HN1.out 3
    have ez := lt_block HE1.out
    have e0 := cellsOf_block HE1.out 0
    have ef := frozen_block HE1.out 0
    simp only [List.getElem?_toArray, List.getElem?_cons_zero, List.getElem?_cons_succ] at m0 m1 m2 m3 e0
    obtain ⟨w2, hw2⟩ : ∃ w2, w2 = ((((w1.setCell ⟨w.heap.size + 2, 0, none⟩ (.int .i64 0)).setCell ⟨w.heap.size + 2, 1, none⟩ (.slice none 0 0)).setCell ⟨w.heap.size + 2, 2, none⟩ (.slice none 0 0)).setCell ⟨w.heap.size + 2, 3, none⟩ (.slice none 0 0)).setCell ⟨w.heap.size + 3, 0, none⟩ (.iface 64 (.agg #[.int .i64 2])) := ⟨_, rfl⟩
    have HS2 : Hid (w2.heap[w.heap.size + 2]? = some (.cells #[.int .i64 0, .slice none 0 0, .slice none 0 0, .slice none 0 0] 36 (0, 0)) ∧ w2.heap[w.heap.size + 3]? = some (.cells #[.iface 64 (.agg #[.int .i64 2])] 60 (0, 0))) := by rw [hw2]; exact two_stored HN1.out HE1.out HNE.out _ _ _ _ _
    have HB2 : Hid (Below w.heap.size w w2) := by
      show Below _ _ _
      rw [hw2]
      exact blw_sc (blw_sc (blw_sc (blw_sc (blw_sc HB1.out (by omega) _ _) (by omega) _ _) (by omega) _ _) (by omega) _ _) (by omega) _ _
    go_wp2
    rw [← hw2]
    exact doorRet _ _ _ _ _ _ rfl rfl HS2.out.1 HS2.out.2 ⟨Or.inl ⟨by rw [HP.out]; decide, by rw [HP.out]; rfl⟩, HB2.out⟩
  have HOK := hid hok
  have hl : X.ends.length ≤ 200 := by
    have := hok
    simp only [acOk, Bool.and_eq_true, decide_eq_true_eq] at this
    exact this.1.1.2
  have HP : Hid (pCode K X = if woCode K X = 0 then pEnd K X else woCode K X) := by show _ = _; unfold pCode; rw [if_neg (by rw [hok]; decide)]
  have HWO := hid (workOfI K b0 b1 b2 c0 c1 c2 X ae ce w1 (HH.out.later HB1.out) (HEN.out.later HB1.out) HV.out HSZ.out hl)
  clear hok hl
  obtain ⟨yz, y0, y1, y2, y3⟩ := HX1.out
  obtain ⟨xz, x0, x1, x2, x3, x4, x5, x6, x7⟩ := HY1.out
  go_wp2_with fail
  refine HWO.out.mono ?_
  rintro e w2 ⟨hcase, hb2⟩
  have HB2 := hid (blw_trans HB1.out hb2)
  have HN2 := hid ((hb2.block _ (lt_heap HN1.out)).trans HN1.out)
  have HE2 := hid ((hb2.block _ (lt_heap HE1.out)).trans HE1.out)
  have HL1 : Hid (w.heap.size + 3 < w1.heap.size) := lt_heap HE1.out
  clear yz y0 y1 y2 y3 xz x0 x1 x2 x3 x4 x5 x6 x7 HX1 HY1 HN1 HE1 HWO
  rcases hcase with ⟨hc, rfl⟩ | ⟨hc, k, pw, g, p1, p2, pf, q0, q1, q2, qe, rfl, hix, hk, hW⟩
  · rw [if_neg hc] at HP
    obtain ⟨c, hcc⟩ : ∃ c, c = woCode K X := ⟨_, rfl⟩
    rw [← hcc] at HP hc ⊢
    have HCN := hid hc
    clear hcc hc
    unfold refV
    have ez := lt_block HE2.out
    have e0 := cellsOf_block HE2.out 0
    have ef := frozen_block HE2.out 0
    simp only [List.getElem?_toArray, List.getElem?_cons_zero] at e0
    obtain ⟨w3, hw3⟩ : ∃ w3, w3 = w2.setCell ⟨w.heap.size + 3, 0, none⟩ (.iface 64 (.agg #[.int .i64 c])) := ⟨_, rfl⟩
    have HE3 : Hid (w3.heap[w.heap.size + 3]? = some (.cells #[.iface 64 (.agg #[.int .i64 c])] 60 (0, 0))) := by show _ = _; rw [hw3]; exact (set_block HE2.out 0 _).trans rfl
    have HN3 : Hid (w3.heap[w.heap.size + 2]? = some (.cells #[.int .i64 0, .slice none 0 0, .slice none 0 0, .slice none 0 0] 36 (0, 0))) := by show _ = _; rw [hw3, set_other (by omega)]; exact HN2.out
    have HB3 : Hid (Below w.heap.size w w3) := by show Below _ _ _; rw [hw3]; exact blw_sc HB2.out (by omega) _ _
    go_upto_region 5 with fail
    rw [← hw3]
    clear hw3 ez e0 ef HE2 HN2 HB2 hb2
    have nz := lt_block HN3.out
    have m0 := cellsOf_block HN3.out 0
    have m1 := cellsOf_block HN3.out 1
    have m2 := cellsOf_block HN3.out 2
    have m3 := cellsOf_block HN3.out 3
    have f0 := frozen_block HN3.out 0
    have f1 := frozen_block HN3.out 1
    have f2 := frozen_block HN3.out 2
    have f3 := frozen_block HN3.out 3
    have ez := lt_block HE3.out
    have e0 := cellsOf_block HE3.out 0
    have ef := frozen_block HE3.out 0
    simp only [List.getElem?_toArray, List.getElem?_cons_zero, List.getElem?_cons_succ] at m0 m1 m2 m3 e0
    have q5 : ¬ (w.heap.size + 2 = w.heap.size + 3) := by omega
    have q6 : ¬ (w.heap.size + 3 = w.heap.size + 2) := by omega
    go_upto_region 6 with fail
    go_region
    obtain ⟨w4, hw4⟩ : ∃ w4, w4 = (((((w3.setCell ⟨w.heap.size + 2, 0, none⟩ (.int .i64 0)).setCell ⟨w.heap.size + 2, 1, none⟩ (.slice none 0 0)).setCell ⟨w.heap.size + 2, 2, none⟩ (.slice none 0 0)).setCell ⟨w.heap.size + 2, 3, none⟩ (.slice none 0 0)).setCell ⟨w.heap.size + 3, 0, none⟩ (.iface 64 (.agg #[.int .i64 c]))).drew := ⟨_, rfl⟩
    have HS4 : Hid (w4.heap[w.heap.size + 2]? = some (.cells #[.int .i64 0, .slice none 0 0, .slice none 0 0, .slice none 0 0] 36 (0, 0)) ∧ w4.heap[w.heap.size + 3]? = some (.cells #[.iface 64 (.agg #[.int .i64 c])] 60 (0, 0))) := by rw [hw4]; exact two_stored HN3.out HE3.out HNE.out _ _ _ _ _
    have HB4 : Hid (Below w.heap.size w w4) := by
      show Below _ _ _
      rw [hw4]
      exact Below.drew (blw_sc (blw_sc (blw_sc (blw_sc (blw_sc HB3.out (by omega) _ _) (by omega) _ _) (by omega) _ _) (by omega) _ _) (by omega) _ _)
    rw [← hw4]
    clear hw4 nz m0 m1 m2 m3 f0 f1 f2 f3 ez e0 ef q5 q6
    go_wp2
    exact doorRet _ _ _ _ _ _ rfl rfl HS4.out.1 HS4.out.2 ⟨Or.inl ⟨by rw [HP.out]; exact HCN.out, by rw [HP.out]; rfl⟩, HB4.out⟩
  · rw [if_pos hc] at HP
    obtain rfl : k = pK K X := by unfold pK; rw [hix]; rfl
    have HF := hid (wo_all hc)
    have HSN : Hid (pK K X < K.svcs.length ∧ acOk X = true ∧ sbOk K = true) := ⟨hk, HOK.out, HV.out⟩
    have ez := lt_block HE2.out
    have e0 := cellsOf_block HE2.out 0
    have ef := frozen_block HE2.out 0
    simp only [List.getElem?_toArray, List.getElem?_cons_zero] at e0
    obtain ⟨w3, hw3⟩ : ∃ w3, w3 = w2.setCell ⟨w.heap.size + 3, 0, none⟩ .nilIface := ⟨_, rfl⟩
    have HE3 : Hid (w3.heap[w.heap.size + 3]? = some (.cells #[.nilIface] 60 (0, 0))) := by show _ = _; rw [hw3]; exact (set_block HE2.out 0 _).trans rfl
    have HN3 : Hid (w3.heap[w.heap.size + 2]? = some (.cells #[.int .i64 0, .slice none 0 0, .slice none 0 0, .slice none 0 0] 36 (0, 0))) := by show _ = _; rw [hw3, set_other (by omega)]; exact HN2.out
    have HC3 : Hid (Ct w w1.heap.size (w.heap.size + 2) (w.heap.size + 3) w3) := by
      have hb3 : Below w.heap.size w w3 := by rw [hw3]; exact blw_sc HB2.out (by omega) _ _
      have := HL1.out
      exact ⟨hb3, HN3.out, HE3.out, by omega, by omega, by omega, by omega, by omega⟩
    have HW3 : Hid (Wk w1.heap.size pw w3 X (.slice ae X.ends.length ce) (K.now + 1) (pSv1 K X) K.cps K.bts (pK K X) (pEs K X) (some ⟨g, 0, none⟩) p1 p2 pf K.svcs.length K.cps.length K.bts.length X.ends.length q0 q1 q2 qe) := by
      rw [hw3]
      exact hW.scLow (by have := HL1.out; omega) _ _
    clear hW hc hix hk
    go_upto_region 5 with fail
    rw [← hw3]
    clear hw3 ez e0 ef HE2 HN2 HB2 hb2
    have ez := lt_block HE3.out
    have e0 := cellsOf_block HE3.out 0
    simp only [List.getElem?_toArray, List.getElem?_cons_zero] at e0
    go_wp2
    exact segEnd K X w _ _ _ pw _ HC3 _ g p1 p2 pf _ _ _ _ q0 q1 q2 qe HW3 HP HSN HF _ _ _ _ _ _ _ _ _ _ _ _ _ _ _ _ _ _ _ _ _ _ _ _ _ _ _ _ _ _ _ _ _ _ _

end Go.Proofs.YtpamkibnahhphaaGreatDoor
