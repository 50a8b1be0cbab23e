/-
  What marks books of the stewards bear.
-/
import Derived.Test.YtkehaeppnmlafaaBSh
import Derived.Test.YtkehaeppnmlafaaUBm
namespace Go.Proofs.Ytkehaeppnmlafaa
open Go.RowKit Go.Deep

set_option maxRecDepth 8000 in
set_option maxHeartbeats 8000000 in
theorem heldStewServiceS (n : Nat) (es : List Dt) (v : Value) (k : Nat) (w : World) (ht : Typ (reps n shStewService) es) (h : Raw w [.row 125 shStewService] [.row n (mkL k es)] [v]) (h1 : 1 ≤ k) (hk : k + cntL es ≤ 4000000000000000000) :
    Calls Try.prog 65 #[v, .int .i64 (k : Int)] w fun e w' => e = .returned (.int .i64 ((k + cntL es : Nat) : Int)) ∧ Below w.heap.size w w' := by
  have HT := uh ht
  clear ht
  rcases h.slice with ⟨rfl, hes, a, c, rfl⟩ | ⟨p, o, c, rfl, hp, hn, vs, hr, hR⟩
  · have he0 : es = [] := List.eq_nil_of_length_eq_zero (by have := HT.out.rows; omega)
    subst he0
    go_enter Try.func65, Try.ntmps65
    go_wp2
    refine wp_loop_rounds 1 ?_
    rw [rounds_succ]
    go_wp2
    go_ret
    exact ⟨by simp [cntL], Below.refl _ _⟩
  · have HR := uh hR; have HRG := uh hr
    have HP := uh hp
    have hn1 : n ≤ 9223372036854775807 := hn.1
    clear hr hR h hn hp
    go_enter Try.func65, Try.ntmps65
    go_wp2
    go_loopw [1, 5] (fun kk i wr => ∃ q : Nat, q ≤ n ∧ i = .int .i64 (q : Int) ∧ kk = .int .i64 ((k + cntL (es.take (q * 13)) : Nat) : Int) ∧ Below w.heap.size w wr) (fun _ i _ => n - (intOf i).toNat)
    case atStart => exact ⟨0, Nat.zero_le _, rfl, by simp [cntL], Below.refl _ _⟩
    case round =>
      obtain ⟨q, hq, rfl, rfl, hM⟩ := hrel
      have HB := uh hM
      clear hM
      by_cases hlt : q < n
      · obtain ⟨ve, hE, hrng⟩ := (HR.out.later HB.out).el hlt (rA_later HRG.out HP.out HB.out)
        have hE1 : Raw wr shStewService (el 13 q (mkL k es)) ve := hE
        rw [show el 13 q (mkL k es) = mkL (k + cntL (es.take (q * 13))) (el 13 q es) from mk_el (sh := shStewService) HT.out hlt] at hE1
        obtain ⟨d, hd⟩ : ∃ d, d = el 13 q es := ⟨_, rfl⟩
        have hte : Typ shStewService d := by rw [hd]; exact HT.out.el hlt
        have hcn : k + cntL (es.take (q * 13)) + cntL d ≤ 4000000000000000000 := by rw [hd]; have := @cnt_el q 13 es; omega
        have hnx : cntL (es.take ((q + 1) * 13)) = cntL (es.take (q * 13)) + cntL d := by rw [hd]; exact cnt_next (sh := shStewService) HT.out hlt
        rw [← hd] at hE1
        clear hE hd
        obtain ⟨kq, hkq⟩ : ∃ kq : Nat, kq = k + cntL (es.take (q * 13)) := ⟨_, rfl⟩
        rw [← hkq] at hcn hE1 ⊢
        have HNX : Hid (k + cntL (es.take ((q + 1) * 13)) = kq + cntL d) := by show _ = _; omega
        obtain ⟨a0, a1, a2, a3, a4, a5, a6, a7, a8, a9, a10, a11, a12, rfl⟩ := typStewService hte
        simp only [mkL] at hE1
        obtain rfl := rawStewService hE1
        have hkq1 : 1 ≤ kq := by omega
        have hkq2 : kq ≤ 4000000000000000000 := by omega
        simp only [cntL] at hcn
        have HCN := uh hcn
        have HPR : Hid (p < wr.heap.size) := Nat.lt_of_lt_of_le HP.out HB.out.size
        have HG : Hid (wr.rangeAt p (o + q * 13) _) := hrng
        clear hcn hE1 hte hkq hnx hrng
        have hm0 : (0 : Int) ≤ (q : Int) := by omega
        have hm3 : (q : Int) < (n : Int) := by omega
        have hbz := HPR.out
        have gc : wr.cell? ⟨p, o + q * 13, none⟩ = some (.string (mt kq)) := rA_get HG.out 0 _ rfl
        have hNE := upst_some wr
        have hbz2 : ∀ px : UPst wr, p < px.W.heap.size := fun px => px.size hbz
        have S1 : ∀ px : UPst wr, px.W.cell? ⟨p, o + q * 13, none⟩ = some (.string (mt kq)) := fun px => px.cell gc hbz
        go_upto_region 4 with fail
        clear gc hbz
        refine uregion wr (Below.refl _ _) (by kernel_rfl) (by kernel_rfl) ?_
        repeat (first
          | go_big_quiet_skip
          | (go_big_quiet_want; go_big_quiet_op; first | go_big_quiet_on | (apply Exists.intro; refine ⟨fun px => ?_, ?_⟩; (focus ((go_at_call 53; refine (markText kq _ (by omega) (by omega)).mono ?_; rintro e w' ⟨he, hb⟩; exact ⟨he, ⟨w', blw_trans px.ok hb⟩, rfl⟩))); go_big_quiet_on)))
        refine wpQuiet_nil ?_
        intro _ hw'
        obtain ⟨z0, hw''⟩ := hw'
        subst hw''
        replace HB := uh (blw_trans HB.out z0.ok)
        replace HG := uh (rA_later HG.out HPR.out z0.ok)
        replace HPR := uh (Nat.lt_of_lt_of_le HPR.out z0.ok.size)
        clear S1 hbz2 hNE
        obtain ⟨k0, hk0⟩ : ∃ k0 : Nat, k0 = kq + 1 := ⟨_, rfl⟩
        have hkc0 : (kq : Int) + 1 = (k0 : Int) := by omega
        have HK0 := uh hk0
        have kb0 : 1 ≤ k0 ∧ k0 ≤ 4000000000000000000 := by have := HCN.out; have := HK0.out; omega
        obtain ⟨kl0, ku0⟩ := kb0
        try rw [← hk0] at HG
        clear hk0
        go_upto_region 7 with fail
        clear hkc0
        have hbz := HPR.out
        have gc : z0.W.cell? ⟨p, o + q * 13 + 1, none⟩ = some (.int .i64 (k0 : Int)) := rA_get HG.out 1 _ rfl
        go_upto_region 9 with fail
        clear gc hbz
        obtain ⟨k1, hk1⟩ : ∃ k1 : Nat, k1 = k0 + 1 := ⟨_, rfl⟩
        have hkc1 : (k0 : Int) + 1 = (k1 : Int) := by omega
        have HK1 := uh hk1
        have kb1 : 1 ≤ k1 ∧ k1 ≤ 4000000000000000000 := by have := HCN.out; have := HK0.out; have := HK1.out; omega
        obtain ⟨kl1, ku1⟩ := kb1
        try rw [← hk1] at HG
        clear hk1
        go_upto_region 10 with fail
        clear hkc1
        have hbz := HPR.out
        have gc : z0.W.cell? ⟨p, o + q * 13 + 2, none⟩ = some (.bool (k1 % 3 == 0)) := rA_get HG.out 2 _ rfl
        have hrm := bmod k1
        go_upto_region 12 with fail
        clear hrm
        clear gc hbz
        obtain ⟨k2, hk2⟩ : ∃ k2 : Nat, k2 = k1 + 1 := ⟨_, rfl⟩
        have hkc2 : (k1 : Int) + 1 = (k2 : Int) := by omega
        have HK2 := uh hk2
        have kb2 : 1 ≤ k2 ∧ k2 ≤ 4000000000000000000 := by have := HCN.out; have := HK0.out; have := HK1.out; have := HK2.out; omega
        obtain ⟨kl2, ku2⟩ := kb2
        try rw [← hk2] at HG
        clear hk2
        go_upto_region 13 with fail
        clear hkc2
        have hbz := HPR.out
        have gc : z0.W.cell? ⟨p, o + q * 13 + 3, none⟩ = some (.int .i64 (k2 : Int)) := rA_get HG.out 3 _ rfl
        go_upto_region 15 with fail
        clear gc hbz
        obtain ⟨k3, hk3⟩ : ∃ k3 : Nat, k3 = k2 + 1 := ⟨_, rfl⟩
        have hkc3 : (k2 : Int) + 1 = (k3 : Int) := by omega
        have HK3 := uh hk3
        have kb3 : 1 ≤ k3 ∧ k3 ≤ 4000000000000000000 := by have := HCN.out; have := HK0.out; have := HK1.out; have := HK2.out; have := HK3.out; omega
        obtain ⟨kl3, ku3⟩ := kb3
        try rw [← hk3] at HG
        clear hk3
        go_upto_region 16 with fail
        clear hkc3
        have hbz := HPR.out
        have gc : z0.W.cell? ⟨p, o + q * 13 + 4, none⟩ = some (.int .i64 (k3 : Int)) := rA_get HG.out 4 _ rfl
        go_upto_region 18 with fail
        clear gc hbz
        obtain ⟨k4, hk4⟩ : ∃ k4 : Nat, k4 = k3 + 1 := ⟨_, rfl⟩
        have hkc4 : (k3 : Int) + 1 = (k4 : Int) := by omega
        have HK4 := uh hk4
        have kb4 : 1 ≤ k4 ∧ k4 ≤ 4000000000000000000 := by have := HCN.out; have := HK0.out; have := HK1.out; have := HK2.out; have := HK3.out; have := HK4.out; omega
        obtain ⟨kl4, ku4⟩ := kb4
        try rw [← hk4] at HG
        clear hk4
        go_upto_region 19 with fail
        clear hkc4
        have hbz := HPR.out
        have gc : z0.W.cell? ⟨p, o + q * 13 + 5, none⟩ = some (.int .i64 (k4 : Int)) := rA_get HG.out 5 _ rfl
        go_upto_region 21 with fail
        clear gc hbz
        obtain ⟨k5, hk5⟩ : ∃ k5 : Nat, k5 = k4 + 1 := ⟨_, rfl⟩
        have hkc5 : (k4 : Int) + 1 = (k5 : Int) := by omega
        have HK5 := uh hk5
        have kb5 : 1 ≤ k5 ∧ k5 ≤ 4000000000000000000 := by have := HCN.out; have := HK0.out; have := HK1.out; have := HK2.out; have := HK3.out; have := HK4.out; have := HK5.out; omega
        obtain ⟨kl5, ku5⟩ := kb5
        try rw [← hk5] at HG
        clear hk5
        go_upto_region 22 with fail
        clear hkc5
        have hbz := HPR.out
        have gc : z0.W.cell? ⟨p, o + q * 13 + 6, none⟩ = some (.int .i64 (k5 : Int)) := rA_get HG.out 6 _ rfl
        go_upto_region 24 with fail
        clear gc hbz
        obtain ⟨k6, hk6⟩ : ∃ k6 : Nat, k6 = k5 + 1 := ⟨_, rfl⟩
        have hkc6 : (k5 : Int) + 1 = (k6 : Int) := by omega
        have HK6 := uh hk6
        have kb6 : 1 ≤ k6 ∧ k6 ≤ 4000000000000000000 := by have := HCN.out; have := HK0.out; have := HK1.out; have := HK2.out; have := HK3.out; have := HK4.out; have := HK5.out; have := HK6.out; omega
        obtain ⟨kl6, ku6⟩ := kb6
        try rw [← hk6] at HG
        clear hk6
        go_upto_region 25 with fail
        clear hkc6
        have hbz := HPR.out
        have gc : z0.W.cell? ⟨p, o + q * 13 + 7, none⟩ = some (.int .i64 (k6 : Int)) := rA_get HG.out 7 _ rfl
        go_upto_region 27 with fail
        clear gc hbz
        obtain ⟨k7, hk7⟩ : ∃ k7 : Nat, k7 = k6 + 1 := ⟨_, rfl⟩
        have hkc7 : (k6 : Int) + 1 = (k7 : Int) := by omega
        have HK7 := uh hk7
        have kb7 : 1 ≤ k7 ∧ k7 ≤ 4000000000000000000 := by have := HCN.out; have := HK0.out; have := HK1.out; have := HK2.out; have := HK3.out; have := HK4.out; have := HK5.out; have := HK6.out; have := HK7.out; omega
        obtain ⟨kl7, ku7⟩ := kb7
        try rw [← hk7] at HG
        clear hk7
        go_upto_region 28 with fail
        clear hkc7
        have hbz := HPR.out
        have gc : z0.W.cell? ⟨p, o + q * 13 + 8, none⟩ = some (.int .i64 (k7 : Int)) := rA_get HG.out 8 _ rfl
        go_upto_region 30 with fail
        clear gc hbz
        obtain ⟨k8, hk8⟩ : ∃ k8 : Nat, k8 = k7 + 1 := ⟨_, rfl⟩
        have hkc8 : (k7 : Int) + 1 = (k8 : Int) := by omega
        have HK8 := uh hk8
        have kb8 : 1 ≤ k8 ∧ k8 ≤ 4000000000000000000 := by have := HCN.out; have := HK0.out; have := HK1.out; have := HK2.out; have := HK3.out; have := HK4.out; have := HK5.out; have := HK6.out; have := HK7.out; have := HK8.out; omega
        obtain ⟨kl8, ku8⟩ := kb8
        try rw [← hk8] at HG
        clear hk8
        go_upto_region 31 with fail
        clear hkc8
        have hbz := HPR.out
        have gc : z0.W.cell? ⟨p, o + q * 13 + 9, none⟩ = some (.int .i64 (k8 : Int)) := rA_get HG.out 9 _ rfl
        go_upto_region 33 with fail
        clear gc hbz
        obtain ⟨k9, hk9⟩ : ∃ k9 : Nat, k9 = k8 + 1 := ⟨_, rfl⟩
        have hkc9 : (k8 : Int) + 1 = (k9 : Int) := by omega
        have HK9 := uh hk9
        have kb9 : 1 ≤ k9 ∧ k9 ≤ 4000000000000000000 := by have := HCN.out; have := HK0.out; have := HK1.out; have := HK2.out; have := HK3.out; have := HK4.out; have := HK5.out; have := HK6.out; have := HK7.out; have := HK8.out; have := HK9.out; omega
        obtain ⟨kl9, ku9⟩ := kb9
        try rw [← hk9] at HG
        clear hk9
        go_upto_region 34 with fail
        clear hkc9
        have hbz := HPR.out
        have gc : z0.W.cell? ⟨p, o + q * 13 + 10, none⟩ = some (.int .i64 (k9 : Int)) := rA_get HG.out 10 _ rfl
        go_upto_region 36 with fail
        clear gc hbz
        obtain ⟨k10, hk10⟩ : ∃ k10 : Nat, k10 = k9 + 1 := ⟨_, rfl⟩
        have hkc10 : (k9 : Int) + 1 = (k10 : Int) := by omega
        have HK10 := uh hk10
        have kb10 : 1 ≤ k10 ∧ k10 ≤ 4000000000000000000 := by have := HCN.out; have := HK0.out; have := HK1.out; have := HK2.out; have := HK3.out; have := HK4.out; have := HK5.out; have := HK6.out; have := HK7.out; have := HK8.out; have := HK9.out; have := HK10.out; omega
        obtain ⟨kl10, ku10⟩ := kb10
        try rw [← hk10] at HG
        clear hk10
        go_upto_region 37 with fail
        clear hkc10
        have hbz := HPR.out
        have gc : z0.W.cell? ⟨p, o + q * 13 + 11, none⟩ = some (.int .i64 (k10 : Int)) := rA_get HG.out 11 _ rfl
        go_upto_region 39 with fail
        clear gc hbz
        obtain ⟨k11, hk11⟩ : ∃ k11 : Nat, k11 = k10 + 1 := ⟨_, rfl⟩
        have hkc11 : (k10 : Int) + 1 = (k11 : Int) := by omega
        have HK11 := uh hk11
        have kb11 : 1 ≤ k11 ∧ k11 ≤ 4000000000000000000 := by have := HCN.out; have := HK0.out; have := HK1.out; have := HK2.out; have := HK3.out; have := HK4.out; have := HK5.out; have := HK6.out; have := HK7.out; have := HK8.out; have := HK9.out; have := HK10.out; have := HK11.out; omega
        obtain ⟨kl11, ku11⟩ := kb11
        try rw [← hk11] at HG
        clear hk11
        go_upto_region 40 with fail
        clear hkc11
        have hbz := HPR.out
        have gc : z0.W.cell? ⟨p, o + q * 13 + 12, none⟩ = some (.int .i64 (k11 : Int)) := rA_get HG.out 12 _ rfl
        go_upto_region 42 with fail
        clear gc hbz
        obtain ⟨k12, hk12⟩ : ∃ k12 : Nat, k12 = k11 + 1 := ⟨_, rfl⟩
        have hkc12 : (k11 : Int) + 1 = (k12 : Int) := by omega
        have HK12 := uh hk12
        have kb12 : 1 ≤ k12 ∧ k12 ≤ 4000000000000000000 := by have := HCN.out; have := HK0.out; have := HK1.out; have := HK2.out; have := HK3.out; have := HK4.out; have := HK5.out; have := HK6.out; have := HK7.out; have := HK8.out; have := HK9.out; have := HK10.out; have := HK11.out; have := HK12.out; omega
        obtain ⟨kl12, ku12⟩ := kb12
        clear hk12
        have HF : Hid (k12 = k + cntL (es.take ((q + 1) * 13))) := by
          have := HNX.out; simp only [cntL] at this; have := HK0.out; have := HK1.out; have := HK2.out; have := HK3.out; have := HK4.out; have := HK5.out; have := HK6.out; have := HK7.out; have := HK8.out; have := HK9.out; have := HK10.out; have := HK11.out; have := HK12.out; show _ = _; omega
        go_wp2
        go_roundw
        case rel => exact ⟨q + 1, by omega, by go_num, by rw [← HF.out], HB.out⟩
        case measure => simp [intOf]; omega
      · obtain rfl : q = n := by omega
        have el_ : es.length = q * 13 := HT.out.rows
        rw [← el_, List.take_length]
        go_wp2
        go_ret
        exact ⟨rfl, HB.out⟩
set_option maxRecDepth 8000 in
set_option maxHeartbeats 8000000 in
theorem heldStewCopyS (n : Nat) (es : List Dt) (v : Value) (k : Nat) (w : World) (ht : Typ (reps n shStewCopy) es) (h : Raw w [.row 128 shStewCopy] [.row n (mkL k es)] [v]) (h1 : 1 ≤ k) (hk : k + cntL es ≤ 4000000000000000000) :
    Calls Try.prog 66 #[v, .int .i64 (k : Int)] w fun e w' => e = .returned (.int .i64 ((k + cntL es : Nat) : Int)) ∧ Below w.heap.size w w' := by
  have HT := uh ht
  clear ht
  rcases h.slice with ⟨rfl, hes, a, c, rfl⟩ | ⟨p, o, c, rfl, hp, hn, vs, hr, hR⟩
  · have he0 : es = [] := List.eq_nil_of_length_eq_zero (by have := HT.out.rows; omega)
    subst he0
    go_enter Try.func66, Try.ntmps66
    go_wp2
    refine wp_loop_rounds 1 ?_
    rw [rounds_succ]
    go_wp2
    go_ret
    exact ⟨by simp [cntL], Below.refl _ _⟩
  · have HR := uh hR; have HRG := uh hr
    have HP := uh hp
    have hn1 : n ≤ 9223372036854775807 := hn.1
    clear hr hR h hn hp
    go_enter Try.func66, Try.ntmps66
    go_wp2
    go_loopw [1, 5] (fun kk i wr => ∃ q : Nat, q ≤ n ∧ i = .int .i64 (q : Int) ∧ kk = .int .i64 ((k + cntL (es.take (q * 7)) : Nat) : Int) ∧ Below w.heap.size w wr) (fun _ i _ => n - (intOf i).toNat)
    case atStart => exact ⟨0, Nat.zero_le _, rfl, by simp [cntL], Below.refl _ _⟩
    case round =>
      obtain ⟨q, hq, rfl, rfl, hM⟩ := hrel
      have HB := uh hM
      clear hM
      by_cases hlt : q < n
      · obtain ⟨ve, hE, hrng⟩ := (HR.out.later HB.out).el hlt (rA_later HRG.out HP.out HB.out)
        have hE1 : Raw wr shStewCopy (el 7 q (mkL k es)) ve := hE
        rw [show el 7 q (mkL k es) = mkL (k + cntL (es.take (q * 7))) (el 7 q es) from mk_el (sh := shStewCopy) HT.out hlt] at hE1
        obtain ⟨d, hd⟩ : ∃ d, d = el 7 q es := ⟨_, rfl⟩
        have hte : Typ shStewCopy d := by rw [hd]; exact HT.out.el hlt
        have hcn : k + cntL (es.take (q * 7)) + cntL d ≤ 4000000000000000000 := by rw [hd]; have := @cnt_el q 7 es; omega
        have hnx : cntL (es.take ((q + 1) * 7)) = cntL (es.take (q * 7)) + cntL d := by rw [hd]; exact cnt_next (sh := shStewCopy) HT.out hlt
        rw [← hd] at hE1
        clear hE hd
        obtain ⟨kq, hkq⟩ : ∃ kq : Nat, kq = k + cntL (es.take (q * 7)) := ⟨_, rfl⟩
        rw [← hkq] at hcn hE1 ⊢
        have HNX : Hid (k + cntL (es.take ((q + 1) * 7)) = kq + cntL d) := by show _ = _; omega
        obtain ⟨a0, a1, a2, a3, a4, a5, a6, rfl⟩ := typStewCopy hte
        simp only [mkL] at hE1
        obtain rfl := rawStewCopy hE1
        have hkq1 : 1 ≤ kq := by omega
        have hkq2 : kq ≤ 4000000000000000000 := by omega
        simp only [cntL] at hcn
        have HCN := uh hcn
        have HPR : Hid (p < wr.heap.size) := Nat.lt_of_lt_of_le HP.out HB.out.size
        have HG : Hid (wr.rangeAt p (o + q * 7) _) := hrng
        clear hcn hE1 hte hkq hnx hrng
        have hm0 : (0 : Int) ≤ (q : Int) := by omega
        have hm3 : (q : Int) < (n : Int) := by omega
        have hbz := HPR.out
        have gc : wr.cell? ⟨p, o + q * 7, none⟩ = some (.string (mt kq)) := rA_get HG.out 0 _ rfl
        have hNE := upst_some wr
        have hbz2 : ∀ px : UPst wr, p < px.W.heap.size := fun px => px.size hbz
        have S1 : ∀ px : UPst wr, px.W.cell? ⟨p, o + q * 7, none⟩ = some (.string (mt kq)) := fun px => px.cell gc hbz
        go_upto_region 4 with fail
        clear gc hbz
        refine uregion wr (Below.refl _ _) (by kernel_rfl) (by kernel_rfl) ?_
        repeat (first
          | go_big_quiet_skip
          | (go_big_quiet_want; go_big_quiet_op; first | go_big_quiet_on | (apply Exists.intro; refine ⟨fun px => ?_, ?_⟩; (focus ((go_at_call 53; refine (markText kq _ (by omega) (by omega)).mono ?_; rintro e w' ⟨he, hb⟩; exact ⟨he, ⟨w', blw_trans px.ok hb⟩, rfl⟩))); go_big_quiet_on)))
        refine wpQuiet_nil ?_
        intro _ hw'
        obtain ⟨z0, hw''⟩ := hw'
        subst hw''
        replace HB := uh (blw_trans HB.out z0.ok)
        replace HG := uh (rA_later HG.out HPR.out z0.ok)
        replace HPR := uh (Nat.lt_of_lt_of_le HPR.out z0.ok.size)
        clear S1 hbz2 hNE
        obtain ⟨k0, hk0⟩ : ∃ k0 : Nat, k0 = kq + 1 := ⟨_, rfl⟩
        have hkc0 : (kq : Int) + 1 = (k0 : Int) := by omega
        have HK0 := uh hk0
        have kb0 : 1 ≤ k0 ∧ k0 ≤ 4000000000000000000 := by have := HCN.out; have := HK0.out; omega
        obtain ⟨kl0, ku0⟩ := kb0
        try rw [← hk0] at HG
        clear hk0
        go_upto_region 7 with fail
        clear hkc0
        have hbz := HPR.out
        have gc : z0.W.cell? ⟨p, o + q * 7 + 1, none⟩ = some (.int .i64 (k0 : Int)) := rA_get HG.out 1 _ rfl
        go_upto_region 9 with fail
        clear gc hbz
        obtain ⟨k1, hk1⟩ : ∃ k1 : Nat, k1 = k0 + 1 := ⟨_, rfl⟩
        have hkc1 : (k0 : Int) + 1 = (k1 : Int) := by omega
        have HK1 := uh hk1
        have kb1 : 1 ≤ k1 ∧ k1 ≤ 4000000000000000000 := by have := HCN.out; have := HK0.out; have := HK1.out; omega
        obtain ⟨kl1, ku1⟩ := kb1
        try rw [← hk1] at HG
        clear hk1
        go_upto_region 10 with fail
        clear hkc1
        have hbz := HPR.out
        have gc : z0.W.cell? ⟨p, o + q * 7 + 2, none⟩ = some (.int .i64 (k1 : Int)) := rA_get HG.out 2 _ rfl
        go_upto_region 12 with fail
        clear gc hbz
        obtain ⟨k2, hk2⟩ : ∃ k2 : Nat, k2 = k1 + 1 := ⟨_, rfl⟩
        have hkc2 : (k1 : Int) + 1 = (k2 : Int) := by omega
        have HK2 := uh hk2
        have kb2 : 1 ≤ k2 ∧ k2 ≤ 4000000000000000000 := by have := HCN.out; have := HK0.out; have := HK1.out; have := HK2.out; omega
        obtain ⟨kl2, ku2⟩ := kb2
        try rw [← hk2] at HG
        clear hk2
        go_upto_region 13 with fail
        clear hkc2
        have hbz := HPR.out
        have gc : z0.W.cell? ⟨p, o + q * 7 + 3, none⟩ = some (.int .i64 (k2 : Int)) := rA_get HG.out 3 _ rfl
        go_upto_region 15 with fail
        clear gc hbz
        obtain ⟨k3, hk3⟩ : ∃ k3 : Nat, k3 = k2 + 1 := ⟨_, rfl⟩
        have hkc3 : (k2 : Int) + 1 = (k3 : Int) := by omega
        have HK3 := uh hk3
        have kb3 : 1 ≤ k3 ∧ k3 ≤ 4000000000000000000 := by have := HCN.out; have := HK0.out; have := HK1.out; have := HK2.out; have := HK3.out; omega
        obtain ⟨kl3, ku3⟩ := kb3
        try rw [← hk3] at HG
        clear hk3
        go_upto_region 16 with fail
        clear hkc3
        have hbz := HPR.out
        have gc : z0.W.cell? ⟨p, o + q * 7 + 4, none⟩ = some (.int .i64 (k3 : Int)) := rA_get HG.out 4 _ rfl
        go_upto_region 18 with fail
        clear gc hbz
        obtain ⟨k4, hk4⟩ : ∃ k4 : Nat, k4 = k3 + 1 := ⟨_, rfl⟩
        have hkc4 : (k3 : Int) + 1 = (k4 : Int) := by omega
        have HK4 := uh hk4
        have kb4 : 1 ≤ k4 ∧ k4 ≤ 4000000000000000000 := by have := HCN.out; have := HK0.out; have := HK1.out; have := HK2.out; have := HK3.out; have := HK4.out; omega
        obtain ⟨kl4, ku4⟩ := kb4
        try rw [← hk4] at HG
        clear hk4
        go_upto_region 19 with fail
        clear hkc4
        have hbz := HPR.out
        have gc : z0.W.cell? ⟨p, o + q * 7 + 5, none⟩ = some (.bool (k4 % 3 == 0)) := rA_get HG.out 5 _ rfl
        have hrm := bmod k4
        go_upto_region 21 with fail
        clear hrm
        clear gc hbz
        obtain ⟨k5, hk5⟩ : ∃ k5 : Nat, k5 = k4 + 1 := ⟨_, rfl⟩
        have hkc5 : (k4 : Int) + 1 = (k5 : Int) := by omega
        have HK5 := uh hk5
        have kb5 : 1 ≤ k5 ∧ k5 ≤ 4000000000000000000 := by have := HCN.out; have := HK0.out; have := HK1.out; have := HK2.out; have := HK3.out; have := HK4.out; have := HK5.out; omega
        obtain ⟨kl5, ku5⟩ := kb5
        try rw [← hk5] at HG
        clear hk5
        go_upto_region 22 with fail
        clear hkc5
        have hbz := HPR.out
        have gc : z0.W.cell? ⟨p, o + q * 7 + 6, none⟩ = some (.string (mt k5)) := rA_get HG.out 6 _ rfl
        have hNE := upst_some z0.W
        have hbz2 : ∀ px : UPst z0.W, p < px.W.heap.size := fun px => px.size hbz
        have S1 : ∀ px : UPst z0.W, px.W.cell? ⟨p, o + q * 7 + 6, none⟩ = some (.string (mt k5)) := fun px => px.cell gc hbz
        go_upto_region 22 with fail
        clear gc hbz
        refine uregion z0.W (Below.refl _ _) (by kernel_rfl) (by kernel_rfl) ?_
        repeat (first
          | go_big_quiet_skip
          | (go_big_quiet_want; go_big_quiet_op; first | go_big_quiet_on | (apply Exists.intro; refine ⟨fun px => ?_, ?_⟩; (focus ((go_at_call 53; refine (markText k5 _ (by omega) (by omega)).mono ?_; rintro e w' ⟨he, hb⟩; exact ⟨he, ⟨w', blw_trans px.ok hb⟩, rfl⟩))); go_big_quiet_on)))
        refine wpQuiet_nil ?_
        intro _ hw'
        obtain ⟨z6, hw''⟩ := hw'
        subst hw''
        replace HB := uh (blw_trans HB.out z6.ok)
        replace HG := uh (rA_later HG.out HPR.out z6.ok)
        replace HPR := uh (Nat.lt_of_lt_of_le HPR.out z6.ok.size)
        clear S1 hbz2 hNE
        obtain ⟨k6, hk6⟩ : ∃ k6 : Nat, k6 = k5 + 1 := ⟨_, rfl⟩
        have hkc6 : (k5 : Int) + 1 = (k6 : Int) := by omega
        have HK6 := uh hk6
        have kb6 : 1 ≤ k6 ∧ k6 ≤ 4000000000000000000 := by have := HCN.out; have := HK0.out; have := HK1.out; have := HK2.out; have := HK3.out; have := HK4.out; have := HK5.out; have := HK6.out; omega
        obtain ⟨kl6, ku6⟩ := kb6
        clear hk6
        have HF : Hid (k6 = k + cntL (es.take ((q + 1) * 7))) := by
          have := HNX.out; simp only [cntL] at this; have := HK0.out; have := HK1.out; have := HK2.out; have := HK3.out; have := HK4.out; have := HK5.out; have := HK6.out; show _ = _; omega
        go_wp2
        go_roundw
        case rel => exact ⟨q + 1, by omega, by go_num, by rw [← HF.out], HB.out⟩
        case measure => simp [intOf]; omega
      · obtain rfl : q = n := by omega
        have el_ : es.length = q * 7 := HT.out.rows
        rw [← el_, List.take_length]
        go_wp2
        go_ret
        exact ⟨rfl, HB.out⟩
set_option maxRecDepth 8000 in
set_option maxHeartbeats 8000000 in
theorem heldStewBerthS (n : Nat) (es : List Dt) (v : Value) (k : Nat) (w : World) (ht : Typ (reps n shStewBerth) es) (h : Raw w [.row 131 shStewBerth] [.row n (mkL k es)] [v]) (h1 : 1 ≤ k) (hk : k + cntL es ≤ 4000000000000000000) :
    Calls Try.prog 67 #[v, .int .i64 (k : Int)] w fun e w' => e = .returned (.int .i64 ((k + cntL es : Nat) : Int)) ∧ Below w.heap.size w w' := by
  have HT := uh ht
  clear ht
  rcases h.slice with ⟨rfl, hes, a, c, rfl⟩ | ⟨p, o, c, rfl, hp, hn, vs, hr, hR⟩
  · have he0 : es = [] := List.eq_nil_of_length_eq_zero (by have := HT.out.rows; omega)
    subst he0
    go_enter Try.func67, Try.ntmps67
    go_wp2
    refine wp_loop_rounds 1 ?_
    rw [rounds_succ]
    go_wp2
    go_ret
    exact ⟨by simp [cntL], Below.refl _ _⟩
  · have HR := uh hR; have HRG := uh hr
    have HP := uh hp
    have hn1 : n ≤ 9223372036854775807 := hn.1
    clear hr hR h hn hp
    go_enter Try.func67, Try.ntmps67
    go_wp2
    go_loopw [1, 5] (fun kk i wr => ∃ q : Nat, q ≤ n ∧ i = .int .i64 (q : Int) ∧ kk = .int .i64 ((k + cntL (es.take (q * 2)) : Nat) : Int) ∧ Below w.heap.size w wr) (fun _ i _ => n - (intOf i).toNat)
    case atStart => exact ⟨0, Nat.zero_le _, rfl, by simp [cntL], Below.refl _ _⟩
    case round =>
      obtain ⟨q, hq, rfl, rfl, hM⟩ := hrel
      have HB := uh hM
      clear hM
      by_cases hlt : q < n
      · obtain ⟨ve, hE, hrng⟩ := (HR.out.later HB.out).el hlt (rA_later HRG.out HP.out HB.out)
        have hE1 : Raw wr shStewBerth (el 2 q (mkL k es)) ve := hE
        rw [show el 2 q (mkL k es) = mkL (k + cntL (es.take (q * 2))) (el 2 q es) from mk_el (sh := shStewBerth) HT.out hlt] at hE1
        obtain ⟨d, hd⟩ : ∃ d, d = el 2 q es := ⟨_, rfl⟩
        have hte : Typ shStewBerth d := by rw [hd]; exact HT.out.el hlt
        have hcn : k + cntL (es.take (q * 2)) + cntL d ≤ 4000000000000000000 := by rw [hd]; have := @cnt_el q 2 es; omega
        have hnx : cntL (es.take ((q + 1) * 2)) = cntL (es.take (q * 2)) + cntL d := by rw [hd]; exact cnt_next (sh := shStewBerth) HT.out hlt
        rw [← hd] at hE1
        clear hE hd
        obtain ⟨kq, hkq⟩ : ∃ kq : Nat, kq = k + cntL (es.take (q * 2)) := ⟨_, rfl⟩
        rw [← hkq] at hcn hE1 ⊢
        have HNX : Hid (k + cntL (es.take ((q + 1) * 2)) = kq + cntL d) := by show _ = _; omega
        obtain ⟨a0, a1, rfl⟩ := typStewBerth hte
        simp only [mkL] at hE1
        obtain rfl := rawStewBerth hE1
        have hkq1 : 1 ≤ kq := by omega
        have hkq2 : kq ≤ 4000000000000000000 := by omega
        simp only [cntL] at hcn
        have HCN := uh hcn
        have HPR : Hid (p < wr.heap.size) := Nat.lt_of_lt_of_le HP.out HB.out.size
        have HG : Hid (wr.rangeAt p (o + q * 2) _) := hrng
        clear hcn hE1 hte hkq hnx hrng
        have hm0 : (0 : Int) ≤ (q : Int) := by omega
        have hm3 : (q : Int) < (n : Int) := by omega
        have hbz := HPR.out
        have gc : wr.cell? ⟨p, o + q * 2, none⟩ = some (.string (mt kq)) := rA_get HG.out 0 _ rfl
        have hNE := upst_some wr
        have hbz2 : ∀ px : UPst wr, p < px.W.heap.size := fun px => px.size hbz
        have S1 : ∀ px : UPst wr, px.W.cell? ⟨p, o + q * 2, none⟩ = some (.string (mt kq)) := fun px => px.cell gc hbz
        go_upto_region 4 with fail
        clear gc hbz
        refine uregion wr (Below.refl _ _) (by kernel_rfl) (by kernel_rfl) ?_
        repeat (first
          | go_big_quiet_skip
          | (go_big_quiet_want; go_big_quiet_op; first | go_big_quiet_on | (apply Exists.intro; refine ⟨fun px => ?_, ?_⟩; (focus ((go_at_call 53; refine (markText kq _ (by omega) (by omega)).mono ?_; rintro e w' ⟨he, hb⟩; exact ⟨he, ⟨w', blw_trans px.ok hb⟩, rfl⟩))); go_big_quiet_on)))
        refine wpQuiet_nil ?_
        intro _ hw'
        obtain ⟨z0, hw''⟩ := hw'
        subst hw''
        replace HB := uh (blw_trans HB.out z0.ok)
        replace HG := uh (rA_later HG.out HPR.out z0.ok)
        replace HPR := uh (Nat.lt_of_lt_of_le HPR.out z0.ok.size)
        clear S1 hbz2 hNE
        obtain ⟨k0, hk0⟩ : ∃ k0 : Nat, k0 = kq + 1 := ⟨_, rfl⟩
        have hkc0 : (kq : Int) + 1 = (k0 : Int) := by omega
        have HK0 := uh hk0
        have kb0 : 1 ≤ k0 ∧ k0 ≤ 4000000000000000000 := by have := HCN.out; have := HK0.out; omega
        obtain ⟨kl0, ku0⟩ := kb0
        try rw [← hk0] at HG
        clear hk0
        go_upto_region 7 with fail
        clear hkc0
        have hbz := HPR.out
        have gc : z0.W.cell? ⟨p, o + q * 2 + 1, none⟩ = some (.bool (k0 % 3 == 0)) := rA_get HG.out 1 _ rfl
        have hrm := bmod k0
        go_upto_region 9 with fail
        clear hrm
        clear gc hbz
        obtain ⟨k1, hk1⟩ : ∃ k1 : Nat, k1 = k0 + 1 := ⟨_, rfl⟩
        have hkc1 : (k0 : Int) + 1 = (k1 : Int) := by omega
        have HK1 := uh hk1
        have kb1 : 1 ≤ k1 ∧ k1 ≤ 4000000000000000000 := by have := HCN.out; have := HK0.out; have := HK1.out; omega
        obtain ⟨kl1, ku1⟩ := kb1
        clear hk1
        have HF : Hid (k1 = k + cntL (es.take ((q + 1) * 2))) := by
          have := HNX.out; simp only [cntL] at this; have := HK0.out; have := HK1.out; show _ = _; omega
        go_wp2
        go_roundw
        case rel => exact ⟨q + 1, by omega, by go_num, by rw [← HF.out], HB.out⟩
        case measure => simp [intOf]; omega
      · obtain rfl : q = n := by omega
        have el_ : es.length = q * 2 := HT.out.rows
        rw [← el_, List.take_length]
        go_wp2
        go_ret
        exact ⟨rfl, HB.out⟩
set_option maxRecDepth 8000 in
set_option maxHeartbeats 8000000 in
theorem heldStewBook (ds : List Dt) (cs : List Value) (k : Nat) (w : World) (ht : Typ shStewBook ds) (h : Raw w shStewBook (mkT k ds) cs) (h1 : 1 ≤ k) (hk : k + cntT ds ≤ 4000000000000000000) :
    Calls Try.prog 31 #[.agg cs.toArray, .int .i64 (k : Int)] w fun e w' => e = .returned (.int .i64 ((k + cntT ds : Nat) : Int)) ∧ Below w.heap.size w w' := by
  obtain ⟨a0, n1, e1, n2, e2, n3, e3, rfl, t1, t2, t3⟩ := segTypStewBook ht
  simp only [mkT] at h
  obtain ⟨x0, rfl, h_0⟩ := h.c_i
  obtain ⟨v1, x1, rfl, r1, h_1⟩ := h_0.c_r
  obtain ⟨v2, x2, rfl, r2, h_2⟩ := h_1.c_r
  obtain ⟨v3, x3, rfl, r3, h_3⟩ := h_2.c_r
  obtain rfl := h_3.c_n
  obtain ⟨cs, hcs⟩ : ∃ cs : List Value, cs = .int .i64 a0 :: v1 :: v2 :: v3 :: [] := ⟨_, rfl⟩
  rw [← hcs]
  have HCS := uh hcs
  simp only [cntT] at hk ⊢
  obtain ⟨wa, hwa⟩ : ∃ wa, wa = w.alloc (.cells cs.toArray 37) := ⟨_, rfl⟩
  have HB : Hid (Below w.heap.size w wa) := by show Below _ _ _; rw [hwa]; exact blw_alloc (Below.refl _ _) _
  have HX : Hid (LBox wa w.heap.size cs) := by show LBox _ _ _; rw [hwa]; exact LBox.new w cs.toArray _ _ rfl
  have R1 := uh (r1.later HB.out)
  have R2 := uh (r2.later HB.out)
  have R3 := uh (r3.later HB.out)
  have HKK := uh hk
  clear hcs hk r1 r2 r3
  go_enter Try.func31, Try.ntmps31
  go_upto_region 1 with fail
  rw [← hwa]
  clear hwa
  have hbz := HX.out.lt
  have hbx := boxStewBook  (by have := HX.out.at_; rw [HCS.out] at this; exact this)
  have gc := hbx.2.1
  clear hbx
  obtain ⟨k1, hk1⟩ : ∃ k1 : Nat, k1 = k + cntL e1 := ⟨_, rfl⟩
  have HK1 := uh hk1
  have kb1 : 1 ≤ k1 ∧ k1 ≤ 4000000000000000000 := by have := HKK.out; have := HK1.out; omega
  obtain ⟨kl1, ku1⟩ := kb1
  clear hk1
  have kn1 : ¬ (k1 : Int) < 0 := by omega
  obtain ⟨va1, vc1, hva⟩ := R1.out.len0
  subst hva
  go_wp2_with fail
  refine (heldStewServiceS n1 e1 (.slice va1 n1 vc1) k wa t1 (by have := R1.out; simpa only [Nat.add_zero] using this) (by omega) (by have := HK1.out; omega)).mono ?_
  rintro e x1 ⟨he, hb1⟩
  rw [← HK1.out] at he
  subst he
  replace HX := uh (HX.out.later hb1)
  replace HB := uh (blw_trans HB.out hb1)
  replace R2 := uh (R2.out.later hb1)
  replace R3 := uh (R3.out.later hb1)
  clear gc hbz hb1
  have hbz := HX.out.lt
  have hbx := boxStewBook  (by have := HX.out.at_; rw [HCS.out] at this; exact this)
  have gc := hbx.2.2.1
  clear hbx
  obtain ⟨k2, hk2⟩ : ∃ k2 : Nat, k2 = k1 + cntL e2 := ⟨_, rfl⟩
  have HK2 := uh hk2
  have kb2 : 1 ≤ k2 ∧ k2 ≤ 4000000000000000000 := by have := HKK.out; have := HK1.out; have := HK2.out; omega
  obtain ⟨kl2, ku2⟩ := kb2
  clear hk2
  have kn2 : ¬ (k2 : Int) < 0 := by omega
  obtain ⟨va2, vc2, hva⟩ := R2.out.len0
  subst hva
  go_wp2_with fail
  refine (heldStewCopyS n2 e2 (.slice va2 n2 vc2) k1 x1 t2 (by have := R2.out; simpa only [HK1.out, Nat.add_zero] using this) (by omega) (by have := HK2.out; omega)).mono ?_
  rintro e x2 ⟨he, hb2⟩
  rw [← HK2.out] at he
  subst he
  replace HX := uh (HX.out.later hb2)
  replace HB := uh (blw_trans HB.out hb2)
  replace R3 := uh (R3.out.later hb2)
  clear gc hbz hb2
  have hbz := HX.out.lt
  have hbx := boxStewBook  (by have := HX.out.at_; rw [HCS.out] at this; exact this)
  have gc := hbx.2.2.2
  clear hbx
  obtain ⟨k3, hk3⟩ : ∃ k3 : Nat, k3 = k2 + cntL e3 := ⟨_, rfl⟩
  have HK3 := uh hk3
  have kb3 : 1 ≤ k3 ∧ k3 ≤ 4000000000000000000 := by have := HKK.out; have := HK1.out; have := HK2.out; have := HK3.out; omega
  obtain ⟨kl3, ku3⟩ := kb3
  clear hk3
  have kn3 : ¬ (k3 : Int) < 0 := by omega
  obtain ⟨va3, vc3, hva⟩ := R3.out.len0
  subst hva
  go_wp2_with fail
  refine (heldStewBerthS n3 e3 (.slice va3 n3 vc3) k2 x2 t3 (by have := R3.out; simpa only [HK1.out, HK2.out, Nat.add_zero] using this) (by omega) (by have := HK3.out; omega)).mono ?_
  rintro e x3 ⟨he, hb3⟩
  rw [← HK3.out] at he
  subst he
  replace HX := uh (HX.out.later hb3)
  replace HB := uh (blw_trans HB.out hb3)
  clear gc hbz hb3
  go_wp2
  go_ret
  exact ⟨Pl.ret_int (by have := HKK.out; have := HK1.out; have := HK2.out; have := HK3.out; omega), HB.out⟩
end Go.Proofs.Ytkehaeppnmlafaa
