/-
  The walk over the law of RecMerge.
-/
import Derived.Test.YtejhknclhdbgfaaRgS
namespace Go.Proofs.Ytejhknclhdbgfaa
open Go.RowKit Go.Deep

set_option maxRecDepth 8000 in
set_option maxHeartbeats 40000000 in
theorem lawRecMerge (x y : List Rs) (v0 v1 : Value) (w : World) (h0 : RssAt w v0 x) (h1 : RssAt w v1 y)
    (hI : ∀ W b0 b1, x.length ≤ 1048576 → y.length ≤ 1048576 → RssIn W b0 x → RssIn W b1 y → Calls Try.prog 16 #[.slice (some ⟨b0, 0, none⟩) x.length x.length, .slice (some ⟨b1, 0, none⟩) y.length y.length] W fun e w' => (∃ v, e = .returned v ∧ RsRow w' W.heap.size w'.heap.size v (mergeOf x y)) ∧ Below W.heap.size W w') :
    Calls Try.prog 4 #[v0, v1] w fun e w' => e = .returned (.bool true) ∧ Below w.heap.size w w' := by
  have HH := hid (And.intro h0 h1)
  have HI := hid hI
  clear h0 h1 hI
  go_enter Try.func4, Try.ntmps4
  go_wp2_with fail
  refine (szRss v0 x 1048576 w (by omega) (by omega) HH.out.1).mono ?_
  rintro e wa ⟨⟨r, rfl, q, q', hr⟩, hb⟩
  have HR : Hid (0 ≤ r → (x.length : Int) ≤ 1048576) := hr
  have HBa := hid hb
  clear hr hb
  by_cases c0 : r < 0
  · go_wp2
    go_ret
    exact ⟨rfl, HBa.out⟩
  go_wp2_with fail
  refine (szRss v1 y r wa (by omega) (by omega) (HH.out.2.later HBa.out)).mono ?_
  rintro e wb ⟨⟨s, rfl, k, k', hs⟩, hb⟩
  have HS : Hid (0 ≤ s → (y.length : Int) ≤ r) := hs
  have HBb := hid (blw_trans HBa.out hb)
  clear hs hb HBa
  by_cases c1 : s < 0
  · go_wp2
    go_ret
    exact ⟨rfl, HBb.out⟩
  have hx : x.length ≤ 1048576 := by have := HR.out (by omega); omega
  have hy : y.length ≤ 1048576 := by have := HS.out (by omega); omega
  clear HR HS
  obtain ⟨M, hM⟩ : ∃ M, M = mergeOf x y := ⟨_, rfl⟩
  have hMl : M.length ≤ 1048576 := by rw [hM, mergeOf_len]; omega
  have HSF : Hid (∀ W b0 b1, RssIn W b0 x → RssIn W b1 y → Calls Try.prog 14 #[.slice (some ⟨b0, 0, none⟩) x.length x.length, .slice (some ⟨b1, 0, none⟩) y.length y.length] W fun e w' => (∃ v, e = .returned v ∧ RsRow w' W.heap.size w'.heap.size v M) ∧ Below W.heap.size W w') := by
    intro W b0 b1 k0 k1
    rw [hM]
    exact recMergeS x y _ _ _ _ W k0.v k1.v hx hy
  have HIF : Hid (∀ W b0 b1, RssIn W b0 x → RssIn W b1 y → Calls Try.prog 16 #[.slice (some ⟨b0, 0, none⟩) x.length x.length, .slice (some ⟨b1, 0, none⟩) y.length y.length] W fun e w' => (∃ v, e = .returned v ∧ RsRow w' W.heap.size w'.heap.size v M) ∧ Below W.heap.size W w') := by
    intro W b0 b1 k0 k1
    rw [hM]
    exact HI.out W b0 b1 hx hy k0 k1
  clear hM HI
  go_wp2_with fail
  refine (toRss v0 x wb hx (HH.out.1.later HBb.out)).mono ?_
  rintro e W1 ⟨rfl, hb, hi⟩
  have HBW1 := hid (blw_trans HBb.out hb)
  have HAW1 := hid hi
  clear hi hb HBb
  go_wp2_with fail
  refine (toRss v1 y W1 hy (HH.out.2.later HBW1.out)).mono ?_
  rintro e W2 ⟨rfl, hb, hi⟩
  have HBW2 := hid (blw_trans HBW1.out hb)
  have HAW2 := hid (HAW1.out.later hb)
  have HCW2 := hid hi
  clear hi hb HAW1 HBW1
  go_wp2_with fail
  refine (HSF.out W2 wb.heap.size W1.heap.size HAW2.out HCW2.out).mono ?_
  rintro e W3 ⟨⟨vs, rfl, hr⟩, hb⟩
  have HBW3 := hid (blw_trans HBW2.out hb)
  have HAW3 := hid (HAW2.out.later hb)
  have HCW3 := hid (HCW2.out.later hb)
  have HVW3 := hid hr
  clear hr hb HAW2 HCW2 HAW3 HCW3 HBW2 HSF
  obtain ⟨hi1, hhi1⟩ : ∃ hi1, hi1 = W3.heap.size := ⟨_, rfl⟩
  rw [← hhi1] at HVW3
  have HHI := hid hhi1
  clear hhi1
  go_wp2_with fail
  refine (toRss v0 x W3 hx (HH.out.1.later HBW3.out)).mono ?_
  rintro e W4 ⟨rfl, hb, hi⟩
  have HBW4 := hid (blw_trans HBW3.out hb)
  have HVW4 := hid (HVW3.out.later hb)
  have HAW4 := hid hi
  obtain ⟨p0, hp0⟩ : ∃ p0, p0 = W3.heap.size := ⟨_, rfl⟩
  rw [← hp0] at HAW4 ⊢
  have hp0z : p0 < W4.heap.size := HAW4.out.lt
  have HP0 := hid hp0
  clear hp0 hi hb HVW3
  go_wp2_with fail
  refine (toRss v1 y W4 hy (HH.out.2.later HBW4.out)).mono ?_
  rintro e W5 ⟨rfl, hb, hi⟩
  have HBW5 := hid (blw_trans HBW4.out hb)
  have HVW5 := hid (HVW4.out.later hb)
  have HAW5 := hid (HAW4.out.later hb)
  have HCW5 := hid hi
  obtain ⟨p1, hp1⟩ : ∃ p1, p1 = W4.heap.size := ⟨_, rfl⟩
  rw [← hp1] at HCW5 ⊢
  have hp1z : p1 < W5.heap.size := HCW5.out.lt
  have HP1 := hid hp1
  clear hp1 hi hb HVW4 HAW4
  go_wp2_with fail
  refine (HIF.out W5 p0 p1 HAW5.out HCW5.out).mono ?_
  rintro e W6 ⟨⟨vg, rfl, hr⟩, hb⟩
  have HBW6 := hid (blw_trans HBW5.out hb)
  have HVW6 := hid (HVW5.out.later hb)
  have HAW6 := hid (HAW5.out.later hb)
  have HCW6 := hid (HCW5.out.later hb)
  have HGW6 := hid hr
  obtain ⟨lo2, hlo2⟩ : ∃ lo2, lo2 = W5.heap.size := ⟨_, rfl⟩
  obtain ⟨hi2, hhi2⟩ : ∃ hi2, hi2 = W6.heap.size := ⟨_, rfl⟩
  rw [← hlo2, ← hhi2] at HGW6
  have hord : hi1 ≤ p0 ∧ p0 < p1 ∧ p1 < lo2 ∧ w.heap.size ≤ p0 := by
    have z1 := HBW3.out.size
    have z2 := HP0.out
    have z3 := HP1.out
    have z4 := HHI.out
    exact ⟨by omega, by omega, by omega, by omega⟩
  have HOR := hid hord
  clear hr hb hord HVW5 HAW5 HCW5 HBW3 HBW4 HBW5 hp0z hp1z HP0 HP1 HHI hlo2 hhi2
  have HEQ : Hid (Calls Try.prog 17 #[vg, vs] W6 fun e w' => e = .returned (.bool true) ∧ Below W6.heap.size W6 w') := by
    obtain ⟨_, _, q1, hva⟩ := HGW6.out.v
    obtain ⟨_, _, q2, hvb⟩ := HVW6.out.v
    rw [q1, q2]
    exact eqRssV _ _ _ _ M W6 hva hvb
  go_wp2_with fail
  refine (HEQ.out).mono ?_
  rintro e W7 ⟨rfl, hb⟩
  have HBW7 := hid (blw_trans HBW6.out hb)
  have HVW7 := hid (HVW6.out.later hb)
  have HAW7 := hid (HAW6.out.later hb)
  have HCW7 := hid (HCW6.out.later hb)
  have HGW7 := hid (HGW6.out.later hb)
  clear hb HEQ HVW6 HAW6 HCW6 HGW6 HBW6
  go_wp2_with fail
  refine (toRss v0 x W7 hx (HH.out.1.later HBW7.out)).mono ?_
  rintro e W8 ⟨rfl, hb, hi⟩
  have HBW8 := hid (blw_trans HBW7.out hb)
  have HVW8 := hid (HVW7.out.later hb)
  have HAW8 := hid (HAW7.out.later hb)
  have HCW8 := hid (HCW7.out.later hb)
  have HGW8 := hid (HGW7.out.later hb)
  have HTW8 := hid hi
  clear hb hi HVW7 HAW7 HCW7 HGW7 HBW7
  go_wp2_with fail
  refine (eqRss p0 W7.heap.size x W8 HAW8.out HTW8.out).mono ?_
  rintro e W9 ⟨rfl, hb⟩
  have HBW9 := hid (blw_trans HBW8.out hb)
  have HVW9 := hid (HVW8.out.later hb)
  have HAW9 := hid (HAW8.out.later hb)
  have HCW9 := hid (HCW8.out.later hb)
  have HGW9 := hid (HGW8.out.later hb)
  clear hb HVW8 HAW8 HCW8 HGW8 HBW8 HTW8
  go_wp2_with fail
  refine (toRss v1 y W9 hy (HH.out.2.later HBW9.out)).mono ?_
  rintro e W10 ⟨rfl, hb, hi⟩
  have HBW10 := hid (blw_trans HBW9.out hb)
  have HVW10 := hid (HVW9.out.later hb)
  have HAW10 := hid (HAW9.out.later hb)
  have HCW10 := hid (HCW9.out.later hb)
  have HGW10 := hid (HGW9.out.later hb)
  have HTW10 := hid hi
  clear hb hi HVW9 HAW9 HCW9 HGW9 HBW9
  go_wp2_with fail
  refine (eqRss p1 W9.heap.size y W10 HCW10.out HTW10.out).mono ?_
  rintro e W11 ⟨rfl, hb⟩
  have HBW11 := hid (blw_trans HBW10.out hb)
  have HVW11 := hid (HVW10.out.later hb)
  have HAW11 := hid (HAW10.out.later hb)
  have HCW11 := hid (HCW10.out.later hb)
  have HGW11 := hid (HGW10.out.later hb)
  clear hb HVW10 HAW10 HCW10 HGW10 HBW10 HTW10
  obtain ⟨o1, o2, o3, o4⟩ := HOR.out
  go_wp2_with fail
  refine (markRow W11 p0 (p0 + 1) _ x 1 (RsRow.of_in HAW11.out (Nat.le_refl _) (Nat.lt_succ_self _)) (by omega) (by omega)).mono ?_
  rintro e W12 ⟨rfl, hm, hd⟩
  have HBW12 := hid (hm.below (a := w) (fun p hp => by omega) HBW11.out)
  have HCW12 := hid ((RsRow.of_in (lo := p1) (hi := p1 + 1) HCW11.out (Nat.le_refl _) (Nat.lt_succ_self _)).marks hm (fun p hp => by omega))
  have HVW12 := hid (HVW11.out.marks hm (fun p hp => by omega))
  have HGW12 := hid (HGW11.out.marks hm (fun p hp => by omega))
  clear hm HVW11 HAW11 HCW11 HGW11 HBW11 hd
  go_wp2_with fail
  refine (markRow W12 p1 (p1 + 1) _ y (1 + x.length * 2) HCW12.out (by omega) (by omega)).mono ?_
  rintro e W13 ⟨rfl, hm, hd⟩
  have HBW13 := hid (hm.below (a := w) (fun p hp => by omega) HBW12.out)
  have HVW13 := hid (HVW12.out.marks hm (fun p hp => by omega))
  have HGW13 := hid (HGW12.out.marks hm (fun p hp => by omega))
  clear hm HVW12 HCW12 HGW12 HBW12 hd
  have hpos : ¬ (((1 + x.length * 2 + y.length * 2 : Nat) : Int) < 0) := by omega
  have HEQ : Hid (Calls Try.prog 17 #[vg, vs] W13 fun e w' => e = .returned (.bool true) ∧ Below W13.heap.size W13 w') := by
    obtain ⟨_, _, q1, hva⟩ := HGW13.out.v
    obtain ⟨_, _, q2, hvb⟩ := HVW13.out.v
    rw [q1, q2]
    exact eqRssV _ _ _ _ M W13 hva hvb
  go_wp2_with fail
  refine (HEQ.out).mono ?_
  rintro e W14 ⟨rfl, hb⟩
  have HBW14 := hid (blw_trans HBW13.out hb)
  have HVW14 := hid (HVW13.out.later hb)
  have HGW14 := hid (HGW13.out.later hb)
  clear hb HEQ HVW13 HGW13 HBW13
  clear hpos
  go_wp2_with fail
  refine (markRow W14 lo2 hi2 vg M 1 HGW14.out (by omega) (by omega)).mono ?_
  rintro e W15 ⟨rfl, hm, hd⟩
  have HBW15 := hid (hm.below (a := w) (fun p hp => by omega) HBW14.out)
  have HVW15 := hid (HVW14.out.marks hm (fun p hp => by omega))
  clear hm HVW14 HGW14 HBW14
  have HDW15 := hid hd
  clear hd
  have hmn : ¬ (((1 + M.length * 2 : Nat) : Int) < 0) := by omega
  go_wp2_with fail
  refine (heldRow W15 lo2 hi2 vg M.length 1 HDW15.out (by omega) (by omega)).mono ?_
  rintro e W16 ⟨rfl, hb⟩
  have HBW16 := hid (blw_trans HBW15.out hb)
  have HVW16 := hid (HVW15.out.later hb)
  have HDW16 := hid (HDW15.out.later hb)
  clear hb HVW15 HDW15 HBW15
  go_wp2_with fail
  refine (toRss v0 x W16 hx (HH.out.1.later HBW16.out)).mono ?_
  rintro e W17 ⟨rfl, hb, hi⟩
  have HBW17 := hid (blw_trans HBW16.out hb)
  have HVW17 := hid (HVW16.out.later hb)
  have HDW17 := hid (HDW16.out.later hb)
  have HXW17 := hid hi
  clear hb hi HVW16 HDW16 HBW16
  go_wp2_with fail
  refine (toRss v1 y W17 hy (HH.out.2.later HBW17.out)).mono ?_
  rintro e W18 ⟨rfl, hb, hi⟩
  have HBW18 := hid (blw_trans HBW17.out hb)
  have HVW18 := hid (HVW17.out.later hb)
  have HDW18 := hid (HDW17.out.later hb)
  have HXW18 := hid (HXW17.out.later hb)
  have HYW18 := hid hi
  clear hb hi HVW17 HDW17 HXW17 HBW17
  go_wp2_with fail
  refine (HIF.out W18 W16.heap.size W17.heap.size HXW18.out HYW18.out).mono ?_
  rintro e W19 ⟨⟨vh, rfl, hr⟩, hb⟩
  have HBW19 := hid (blw_trans HBW18.out hb)
  have HVW19 := hid (HVW18.out.later hb)
  have HDW19 := hid (HDW18.out.later hb)
  have HXW19 := hid (HXW18.out.later hb)
  have HYW19 := hid (HYW18.out.later hb)
  have HQW19 := hid hr
  clear hb hr HIF HVW18 HDW18 HXW18 HYW18 HBW18 HXW19 HYW19
  have HEQ : Hid (Calls Try.prog 17 #[vh, vs] W19 fun e w' => e = .returned (.bool true) ∧ Below W19.heap.size W19 w') := by
    obtain ⟨_, _, q1, hva⟩ := HQW19.out.v
    obtain ⟨_, _, q2, hvb⟩ := HVW19.out.v
    rw [q1, q2]
    exact eqRssV _ _ _ _ M W19 hva hvb
  go_wp2_with fail
  refine (HEQ.out).mono ?_
  rintro e W20 ⟨rfl, hb⟩
  have HBW20 := hid (blw_trans HBW19.out hb)
  have HVW20 := hid (HVW19.out.later hb)
  have HDW20 := hid (HDW19.out.later hb)
  have HQW20 := hid (HQW19.out.later hb)
  clear hb HEQ HVW19 HDW19 HQW19 HBW19
  go_wp2_with fail
  refine (heldRow W20 lo2 hi2 vg M.length 1 HDW20.out (by omega) (by omega)).mono ?_
  rintro e W21 ⟨rfl, hb⟩
  have HBW21 := hid (blw_trans HBW20.out hb)
  have HVW21 := hid (HVW20.out.later hb)
  have HDW21 := hid (HDW20.out.later hb)
  have HQW21 := hid (HQW20.out.later hb)
  clear hb HVW20 HDW20 HQW20 HBW20
  go_wp2
  go_ret
  exact ⟨rfl, HBW21.out⟩

end Go.Proofs.Ytejhknclhdbgfaa
