/-
  What marks a recorder bears.
-/
import Derived.Test.YtnifdpjmpbocnaaGreatKHa
namespace Go.Proofs.YtnifdpjmpbocnaaGreat
open Go.RowKit Go.Deep

set_option maxRecDepth 8000 in
set_option maxHeartbeats 8000000 in
theorem heldRecMessageS (n : Nat) (es : List Dt) (v : Value) (k : Nat) (w : World) (ht : Typ (reps n shRecMessage) es) (h : Raw w [.row 89 shRecMessage] [.row n (mkL k es)] [v]) (h1 : 1 ≤ k) (hk : k + cntL es ≤ 4000000000000000000) :
    Calls Tryz.prog 42 #[v, .int .i64 (k : Int)] w fun e w' => e = .returned (.int .i64 ((k + cntL es : Nat) : Int)) ∧ Below w.heap.size w w' := by
  have HT := uh ht
  clear ht
  rcases h.slice with ⟨rfl, hes, a, c, rfl⟩ | ⟨p, o, c, rfl, hp, hn, vs, hr, hR⟩
  · have he0 : es = [] := List.eq_nil_of_length_eq_zero (by have := HT.out.rows; omega)
    subst he0
    go_enter Tryz.func42, Tryz.ntmps42
    go_wp2
    refine wp_loop_rounds 1 ?_
    rw [rounds_succ]
    go_wp2
    go_ret
    exact ⟨by simp [cntL], Below.refl _ _⟩
  · have HR := uh hR; have HRG := uh hr
    have HP := uh hp
    have hn1 : n ≤ 9223372036854775807 := hn.1
    clear hr hR h hn hp
    go_enter Tryz.func42, Tryz.ntmps42
    go_wp2
    go_loopw [1, 5] (fun kk i wr => ∃ q : Nat, q ≤ n ∧ i = .int .i64 (q : Int) ∧ kk = .int .i64 ((k + cntL (es.take (q * 8)) : Nat) : Int) ∧ Below w.heap.size w wr) (fun _ i _ => n - (intOf i).toNat)
    case atStart => exact ⟨0, Nat.zero_le _, rfl, by simp [cntL], Below.refl _ _⟩
    case round =>
      obtain ⟨q, hq, rfl, rfl, hM⟩ := hrel
      have HB := uh hM
      clear hM
      by_cases hlt : q < n
      · obtain ⟨ve, hE, hrng⟩ := (HR.out.later HB.out).el hlt (rA_later HRG.out HP.out HB.out)
        have hE1 : Raw wr shRecMessage (el 8 q (mkL k es)) ve := hE
        rw [show el 8 q (mkL k es) = mkL (k + cntL (es.take (q * 8))) (el 8 q es) from mk_el (sh := shRecMessage) HT.out hlt] at hE1
        obtain ⟨d, hd⟩ : ∃ d, d = el 8 q es := ⟨_, rfl⟩
        have hte : Typ shRecMessage d := by rw [hd]; exact HT.out.el hlt
        have hcn : k + cntL (es.take (q * 8)) + cntL d ≤ 4000000000000000000 := by rw [hd]; have := @cnt_el q 8 es; omega
        have hnx : cntL (es.take ((q + 1) * 8)) = cntL (es.take (q * 8)) + cntL d := by rw [hd]; exact cnt_next (sh := shRecMessage) HT.out hlt
        rw [← hd] at hE1
        clear hE hd
        obtain ⟨kq, hkq⟩ : ∃ kq : Nat, kq = k + cntL (es.take (q * 8)) := ⟨_, rfl⟩
        rw [← hkq] at hcn hE1 ⊢
        have HNX : Hid (k + cntL (es.take ((q + 1) * 8)) = kq + cntL d) := by show _ = _; omega
        obtain ⟨a0, a1, a2, a3, a4, a5, a6, n7, e7, rfl, t7⟩ := typRecMessage hte
        simp only [mkL] at hE1
        obtain ⟨v7, rfl, r7⟩ := rawRecMessage hE1
        have hkq1 : 1 ≤ kq := by omega
        have hkq2 : kq ≤ 4000000000000000000 := by omega
        simp only [cntL] at hcn
        have HCN := uh hcn
        have HPR : Hid (p < wr.heap.size) := Nat.lt_of_lt_of_le HP.out HB.out.size
        have HG : Hid (wr.rangeAt p (o + q * 8) _) := hrng
        have R7 := uh r7
        clear hcn hE1 hte hkq hnx hrng r7
        have hm0 : (0 : Int) ≤ (q : Int) := by omega
        have hm3 : (q : Int) < (n : Int) := by omega
        have hbz := HPR.out
        have gc : wr.cell? ⟨p, o + q * 8, none⟩ = some (.int .i64 (kq : Int)) := rA_get HG.out 0 _ rfl
        go_upto_region 6 with fail
        clear gc hbz
        obtain ⟨k0, hk0⟩ : ∃ k0 : Nat, k0 = kq + 1 := ⟨_, rfl⟩
        have hkc0 : (kq : Int) + 1 = (k0 : Int) := by omega
        have HK0 := uh hk0
        have kb0 : 1 ≤ k0 ∧ k0 ≤ 4000000000000000000 := by have := HCN.out; have := HK0.out; omega
        obtain ⟨kl0, ku0⟩ := kb0
        try rw [← hk0] at HG
        try rw [← hk0] at R7
        clear hk0
        go_upto_region 7 with fail
        clear hkc0
        have hbz := HPR.out
        have gc : wr.cell? ⟨p, o + q * 8 + 1, none⟩ = some (.int .i64 (k0 : Int)) := rA_get HG.out 1 _ rfl
        go_upto_region 9 with fail
        clear gc hbz
        obtain ⟨k1, hk1⟩ : ∃ k1 : Nat, k1 = k0 + 1 := ⟨_, rfl⟩
        have hkc1 : (k0 : Int) + 1 = (k1 : Int) := by omega
        have HK1 := uh hk1
        have kb1 : 1 ≤ k1 ∧ k1 ≤ 4000000000000000000 := by have := HCN.out; have := HK0.out; have := HK1.out; omega
        obtain ⟨kl1, ku1⟩ := kb1
        try rw [← hk1] at HG
        try rw [← hk1] at R7
        clear hk1
        go_upto_region 10 with fail
        clear hkc1
        have hbz := HPR.out
        have gc : wr.cell? ⟨p, o + q * 8 + 2, none⟩ = some (.int .i64 (k1 : Int)) := rA_get HG.out 2 _ rfl
        go_upto_region 12 with fail
        clear gc hbz
        obtain ⟨k2, hk2⟩ : ∃ k2 : Nat, k2 = k1 + 1 := ⟨_, rfl⟩
        have hkc2 : (k1 : Int) + 1 = (k2 : Int) := by omega
        have HK2 := uh hk2
        have kb2 : 1 ≤ k2 ∧ k2 ≤ 4000000000000000000 := by have := HCN.out; have := HK0.out; have := HK1.out; have := HK2.out; omega
        obtain ⟨kl2, ku2⟩ := kb2
        try rw [← hk2] at HG
        try rw [← hk2] at R7
        clear hk2
        go_upto_region 13 with fail
        clear hkc2
        have hbz := HPR.out
        have gc : wr.cell? ⟨p, o + q * 8 + 3, none⟩ = some (.int .i64 (k2 : Int)) := rA_get HG.out 3 _ rfl
        go_upto_region 15 with fail
        clear gc hbz
        obtain ⟨k3, hk3⟩ : ∃ k3 : Nat, k3 = k2 + 1 := ⟨_, rfl⟩
        have hkc3 : (k2 : Int) + 1 = (k3 : Int) := by omega
        have HK3 := uh hk3
        have kb3 : 1 ≤ k3 ∧ k3 ≤ 4000000000000000000 := by have := HCN.out; have := HK0.out; have := HK1.out; have := HK2.out; have := HK3.out; omega
        obtain ⟨kl3, ku3⟩ := kb3
        try rw [← hk3] at HG
        try rw [← hk3] at R7
        clear hk3
        go_upto_region 16 with fail
        clear hkc3
        have hbz := HPR.out
        have gc : wr.cell? ⟨p, o + q * 8 + 4, none⟩ = some (.int .i64 (k3 : Int)) := rA_get HG.out 4 _ rfl
        go_upto_region 18 with fail
        clear gc hbz
        obtain ⟨k4, hk4⟩ : ∃ k4 : Nat, k4 = k3 + 1 := ⟨_, rfl⟩
        have hkc4 : (k3 : Int) + 1 = (k4 : Int) := by omega
        have HK4 := uh hk4
        have kb4 : 1 ≤ k4 ∧ k4 ≤ 4000000000000000000 := by have := HCN.out; have := HK0.out; have := HK1.out; have := HK2.out; have := HK3.out; have := HK4.out; omega
        obtain ⟨kl4, ku4⟩ := kb4
        try rw [← hk4] at HG
        try rw [← hk4] at R7
        clear hk4
        go_upto_region 19 with fail
        clear hkc4
        have hbz := HPR.out
        have gc : wr.cell? ⟨p, o + q * 8 + 5, none⟩ = some (.int .i64 (k4 : Int)) := rA_get HG.out 5 _ rfl
        go_upto_region 21 with fail
        clear gc hbz
        obtain ⟨k5, hk5⟩ : ∃ k5 : Nat, k5 = k4 + 1 := ⟨_, rfl⟩
        have hkc5 : (k4 : Int) + 1 = (k5 : Int) := by omega
        have HK5 := uh hk5
        have kb5 : 1 ≤ k5 ∧ k5 ≤ 4000000000000000000 := by have := HCN.out; have := HK0.out; have := HK1.out; have := HK2.out; have := HK3.out; have := HK4.out; have := HK5.out; omega
        obtain ⟨kl5, ku5⟩ := kb5
        try rw [← hk5] at HG
        try rw [← hk5] at R7
        clear hk5
        go_upto_region 22 with fail
        clear hkc5
        have hbz := HPR.out
        have gc : wr.cell? ⟨p, o + q * 8 + 6, none⟩ = some (.string (mt k5)) := rA_get HG.out 6 _ rfl
        have hNE := upst_some wr
        have hbz2 : ∀ px : UPst wr, p < px.W.heap.size := fun px => px.size hbz
        have S1 : ∀ px : UPst wr, px.W.cell? ⟨p, o + q * 8 + 6, none⟩ = some (.string (mt k5)) := fun px => px.cell gc hbz
        go_upto_region 22 with fail
        clear gc hbz
        refine uregion wr (Below.refl _ _) (by kernel_rfl) (by kernel_rfl) ?_
        repeat (first
          | go_big_quiet_skip
          | (go_big_quiet_want; go_big_quiet_op; first | go_big_quiet_on | (apply Exists.intro; refine ⟨fun px => ?_, ?_⟩; (focus ((go_at_call 83; refine (markText k5 _ (by omega) (by omega)).mono ?_; rintro e w' ⟨he, hb⟩; exact ⟨he, ⟨w', blw_trans px.ok hb⟩, rfl⟩))); go_big_quiet_on)))
        refine wpQuiet_nil ?_
        intro _ hw'
        obtain ⟨z6, hw''⟩ := hw'
        subst hw''
        replace HB := uh (blw_trans HB.out z6.ok)
        replace HG := uh (rA_later HG.out HPR.out z6.ok)
        replace R7 := uh (R7.out.later z6.ok)
        replace HPR := uh (Nat.lt_of_lt_of_le HPR.out z6.ok.size)
        clear S1 hbz2 hNE
        obtain ⟨k6, hk6⟩ : ∃ k6 : Nat, k6 = k5 + 1 := ⟨_, rfl⟩
        have hkc6 : (k5 : Int) + 1 = (k6 : Int) := by omega
        have HK6 := uh hk6
        have kb6 : 1 ≤ k6 ∧ k6 ≤ 4000000000000000000 := by have := HCN.out; have := HK0.out; have := HK1.out; have := HK2.out; have := HK3.out; have := HK4.out; have := HK5.out; have := HK6.out; omega
        obtain ⟨kl6, ku6⟩ := kb6
        try rw [← hk6] at HG
        try rw [← hk6] at R7
        clear hk6
        go_upto_region 25 with fail
        clear hkc6
        have hbz := HPR.out
        obtain ⟨va7, vc7, hva⟩ := R7.out.len0
        subst hva
        have gc : z6.W.cell? ⟨p, o + q * 8 + 7, none⟩ = some (.slice va7 n7 vc7) := rA_get HG.out 7 _ rfl
        obtain ⟨k7, hk7⟩ : ∃ k7 : Nat, k7 = k6 + cntL e7 := ⟨_, rfl⟩
        have HK7 := uh hk7
        have kb7 : 1 ≤ k7 ∧ k7 ≤ 4000000000000000000 := by have := HCN.out; have := HK0.out; have := HK1.out; have := HK2.out; have := HK3.out; have := HK4.out; have := HK5.out; have := HK6.out; have := HK7.out; omega
        obtain ⟨kl7, ku7⟩ := kb7
        have kn7 : ¬ (k7 : Int) < 0 := by omega
        clear hk7
        go_wp2_with fail
        refine (heldRecSlotS n7 e7 (.slice va7 n7 vc7) k6 z6.W t7 R7.out (by omega) (by have := HK7.out; omega)).mono ?_
        rintro e x7 ⟨he, hb7⟩
        rw [← HK7.out] at he
        subst he
        replace HB := uh (blw_trans HB.out hb7)
        replace HG := uh (rA_later HG.out HPR.out hb7)
        replace HPR := uh (Nat.lt_of_lt_of_le HPR.out hb7.size)
        clear gc hbz hb7
        have HF : Hid (k7 = k + cntL (es.take ((q + 1) * 8))) := by
          have := HNX.out; simp only [cntL] at this; have := HK0.out; have := HK1.out; have := HK2.out; have := HK3.out; have := HK4.out; have := HK5.out; have := HK6.out; have := HK7.out; show _ = _; omega
        go_wp2
        go_roundw
        case rel => exact ⟨q + 1, by omega, by go_num, by rw [← HF.out], HB.out⟩
        case measure => simp [intOf]; omega
      · obtain rfl : q = n := by omega
        have el_ : es.length = q * 8 := HT.out.rows
        rw [← el_, List.take_length]
        go_wp2
        go_ret
        exact ⟨rfl, HB.out⟩
set_option maxRecDepth 8000 in
set_option maxHeartbeats 8000000 in
theorem heldRecAckS (n : Nat) (es : List Dt) (v : Value) (k : Nat) (w : World) (ht : Typ (reps n shRecAck) es) (h : Raw w [.row 96 shRecAck] [.row n (mkL k es)] [v]) (h1 : 1 ≤ k) (hk : k + cntL es ≤ 4000000000000000000) :
    Calls Tryz.prog 46 #[v, .int .i64 (k : Int)] w fun e w' => e = .returned (.int .i64 ((k + cntL es : Nat) : Int)) ∧ Below w.heap.size w w' := by
  have HT := uh ht
  clear ht
  rcases h.slice with ⟨rfl, hes, a, c, rfl⟩ | ⟨p, o, c, rfl, hp, hn, vs, hr, hR⟩
  · have he0 : es = [] := List.eq_nil_of_length_eq_zero (by have := HT.out.rows; omega)
    subst he0
    go_enter Tryz.func46, Tryz.ntmps46
    go_wp2
    refine wp_loop_rounds 1 ?_
    rw [rounds_succ]
    go_wp2
    go_ret
    exact ⟨by simp [cntL], Below.refl _ _⟩
  · have HR := uh hR; have HRG := uh hr
    have HP := uh hp
    have hn1 : n ≤ 9223372036854775807 := hn.1
    clear hr hR h hn hp
    go_enter Tryz.func46, Tryz.ntmps46
    go_wp2
    go_loopw [1, 5] (fun kk i wr => ∃ q : Nat, q ≤ n ∧ i = .int .i64 (q : Int) ∧ kk = .int .i64 ((k + cntL (es.take (q * 2)) : Nat) : Int) ∧ Below w.heap.size w wr) (fun _ i _ => n - (intOf i).toNat)
    case atStart => exact ⟨0, Nat.zero_le _, rfl, by simp [cntL], Below.refl _ _⟩
    case round =>
      obtain ⟨q, hq, rfl, rfl, hM⟩ := hrel
      have HB := uh hM
      clear hM
      by_cases hlt : q < n
      · obtain ⟨ve, hE, hrng⟩ := (HR.out.later HB.out).el hlt (rA_later HRG.out HP.out HB.out)
        have hE1 : Raw wr shRecAck (el 2 q (mkL k es)) ve := hE
        rw [show el 2 q (mkL k es) = mkL (k + cntL (es.take (q * 2))) (el 2 q es) from mk_el (sh := shRecAck) HT.out hlt] at hE1
        obtain ⟨d, hd⟩ : ∃ d, d = el 2 q es := ⟨_, rfl⟩
        have hte : Typ shRecAck d := by rw [hd]; exact HT.out.el hlt
        have hcn : k + cntL (es.take (q * 2)) + cntL d ≤ 4000000000000000000 := by rw [hd]; have := @cnt_el q 2 es; omega
        have hnx : cntL (es.take ((q + 1) * 2)) = cntL (es.take (q * 2)) + cntL d := by rw [hd]; exact cnt_next (sh := shRecAck) HT.out hlt
        rw [← hd] at hE1
        clear hE hd
        obtain ⟨kq, hkq⟩ : ∃ kq : Nat, kq = k + cntL (es.take (q * 2)) := ⟨_, rfl⟩
        rw [← hkq] at hcn hE1 ⊢
        have HNX : Hid (k + cntL (es.take ((q + 1) * 2)) = kq + cntL d) := by show _ = _; omega
        obtain ⟨a0, n1, e1, rfl, t1⟩ := typRecAck hte
        simp only [mkL] at hE1
        obtain ⟨v1, rfl, r1⟩ := rawRecAck hE1
        have hkq1 : 1 ≤ kq := by omega
        have hkq2 : kq ≤ 4000000000000000000 := by omega
        simp only [cntL] at hcn
        have HCN := uh hcn
        have HPR : Hid (p < wr.heap.size) := Nat.lt_of_lt_of_le HP.out HB.out.size
        have HG : Hid (wr.rangeAt p (o + q * 2) _) := hrng
        have R1 := uh r1
        clear hcn hE1 hte hkq hnx hrng r1
        have hm0 : (0 : Int) ≤ (q : Int) := by omega
        have hm3 : (q : Int) < (n : Int) := by omega
        have hbz := HPR.out
        have gc : wr.cell? ⟨p, o + q * 2, none⟩ = some (.int .i64 (kq : Int)) := rA_get HG.out 0 _ rfl
        go_upto_region 6 with fail
        clear gc hbz
        obtain ⟨k0, hk0⟩ : ∃ k0 : Nat, k0 = kq + 1 := ⟨_, rfl⟩
        have hkc0 : (kq : Int) + 1 = (k0 : Int) := by omega
        have HK0 := uh hk0
        have kb0 : 1 ≤ k0 ∧ k0 ≤ 4000000000000000000 := by have := HCN.out; have := HK0.out; omega
        obtain ⟨kl0, ku0⟩ := kb0
        try rw [← hk0] at HG
        try rw [← hk0] at R1
        clear hk0
        go_upto_region 7 with fail
        clear hkc0
        have hbz := HPR.out
        obtain ⟨va1, vc1, hva⟩ := R1.out.len0
        subst hva
        have gc : wr.cell? ⟨p, o + q * 2 + 1, none⟩ = some (.slice va1 n1 vc1) := rA_get HG.out 1 _ rfl
        obtain ⟨k1, hk1⟩ : ∃ k1 : Nat, k1 = k0 + cntL e1 := ⟨_, rfl⟩
        have HK1 := uh hk1
        have kb1 : 1 ≤ k1 ∧ k1 ≤ 4000000000000000000 := by have := HCN.out; have := HK0.out; have := HK1.out; omega
        obtain ⟨kl1, ku1⟩ := kb1
        have kn1 : ¬ (k1 : Int) < 0 := by omega
        clear hk1
        go_wp2_with fail
        refine (heldIntS n1 e1 (.slice va1 n1 vc1) k0 wr t1 R1.out (by omega) (by have := HK1.out; omega)).mono ?_
        rintro e x1 ⟨he, hb1⟩
        rw [← HK1.out] at he
        subst he
        replace HB := uh (blw_trans HB.out hb1)
        replace HG := uh (rA_later HG.out HPR.out hb1)
        replace HPR := uh (Nat.lt_of_lt_of_le HPR.out hb1.size)
        clear gc hbz hb1
        have HF : Hid (k1 = k + cntL (es.take ((q + 1) * 2))) := by
          have := HNX.out; simp only [cntL] at this; have := HK0.out; have := HK1.out; show _ = _; omega
        go_wp2
        go_roundw
        case rel => exact ⟨q + 1, by omega, by go_num, by rw [← HF.out], HB.out⟩
        case measure => simp [intOf]; omega
      · obtain rfl : q = n := by omega
        have el_ : es.length = q * 2 := HT.out.rows
        rw [← el_, List.take_length]
        go_wp2
        go_ret
        exact ⟨rfl, HB.out⟩
end Go.Proofs.YtnifdpjmpbocnaaGreat

namespace Go.Proofs.YtnifdpjmpbocnaaGreat
open Go.RowKit Go.Deep

set_option maxRecDepth 8000 in
set_option maxHeartbeats 8000000 in
theorem heldRecDisk (ds : List Dt) (cs : List Value) (k : Nat) (w : World) (ht : Typ shRecDisk ds) (h : Raw w shRecDisk (mkT k ds) cs) (h1 : 1 ≤ k) (hk : k + cntT ds ≤ 4000000000000000000) :
    Calls Tryz.prog 41 #[.agg cs.toArray, .int .i64 (k : Int)] w fun e w' => e = .returned (.int .i64 ((k + cntT ds : Nat) : Int)) ∧ Below w.heap.size w w' := by
  obtain ⟨a0, a1, n2, e2, rfl, t2⟩ := segTypRecDisk ht
  simp only [mkT] at h
  obtain ⟨x0, rfl, h_0⟩ := h.c_i
  obtain ⟨x1, rfl, h_1⟩ := h_0.c_i
  obtain ⟨v2, x2, rfl, r2, h_2⟩ := h_1.c_r
  obtain rfl := h_2.c_n
  obtain ⟨cs, hcs⟩ : ∃ cs : List Value, cs = .int .i64 a0 :: .int .i64 a1 :: v2 :: [] := ⟨_, rfl⟩
  rw [← hcs]
  have HCS := uh hcs
  simp only [cntT] at hk ⊢
  obtain ⟨wa, hwa⟩ : ∃ wa, wa = w.alloc (.cells cs.toArray 34) := ⟨_, rfl⟩
  have HB : Hid (Below w.heap.size w wa) := by show Below _ _ _; rw [hwa]; exact blw_alloc (Below.refl _ _) _
  have HX : Hid (LBox wa w.heap.size cs) := by show LBox _ _ _; rw [hwa]; exact LBox.new w cs.toArray _ _ rfl
  have R2 := uh (r2.later HB.out)
  have HKK := uh hk
  clear hcs hk r2
  go_enter Tryz.func41, Tryz.ntmps41
  go_upto_region 1 with fail
  rw [← hwa]
  clear hwa
  have hbz := HX.out.lt
  have hbx := boxRecDisk  (by have := HX.out.at_; rw [HCS.out] at this; exact this)
  have gc := hbx.2.2
  clear hbx
  obtain ⟨k2, hk2⟩ : ∃ k2 : Nat, k2 = k + cntL e2 := ⟨_, rfl⟩
  have HK2 := uh hk2
  have kb2 : 1 ≤ k2 ∧ k2 ≤ 4000000000000000000 := by have := HKK.out; have := HK2.out; omega
  obtain ⟨kl2, ku2⟩ := kb2
  clear hk2
  have kn2 : ¬ (k2 : Int) < 0 := by omega
  obtain ⟨va2, vc2, hva⟩ := R2.out.len0
  subst hva
  go_wp2_with fail
  refine (heldRecSlotS n2 e2 (.slice va2 n2 vc2) k wa t2 (by have := R2.out; simpa only [Nat.add_zero] using this) (by omega) (by have := HK2.out; omega)).mono ?_
  rintro e x2 ⟨he, hb2⟩
  rw [← HK2.out] at he
  subst he
  replace HX := uh (HX.out.later hb2)
  replace HB := uh (blw_trans HB.out hb2)
  clear gc hbz hb2
  go_wp2
  go_ret
  exact ⟨Pl.ret_int (by have := HKK.out; have := HK2.out; omega), HB.out⟩
set_option maxRecDepth 8000 in
set_option maxHeartbeats 8000000 in
theorem heldRecorder (ds : List Dt) (cs : List Value) (k : Nat) (w : World) (ht : Typ shRecorder ds) (h : Raw w shRecorder (mkT k ds) cs) (h1 : 1 ≤ k) (hk : k + cntT ds ≤ 4000000000000000000) :
    Calls Tryz.prog 10 #[.agg cs.toArray, .int .i64 (k : Int)] w fun e w' => e = .returned (.int .i64 ((k + cntT ds : Nat) : Int)) ∧ Below w.heap.size w w' := by
  obtain ⟨a0, a1, a2, d3, d4, n5, e5, n6, e6, a7, a8, a9, n10, e10, n11, e11, n12, e12, a13, rfl, t3, t4, t5, t6, t10, t11, t12⟩ := segTypRecorder ht
  simp only [mkT, mkT_app] at h
  obtain ⟨x0, rfl, h_0⟩ := h.c_i
  obtain ⟨x1, rfl, h_1⟩ := h_0.c_i
  obtain ⟨x2, rfl, h_2⟩ := h_1.c_b
  obtain ⟨c3, x3, rfl, r3, h_3⟩ := Raw.cut2 h_2 (t3.mkT _)
  obtain ⟨c4, x4, rfl, r4, h_4⟩ := Raw.cut2 h_3 (t4.mkT _)
  obtain ⟨v5, x5, rfl, r5, h_5⟩ := h_4.c_r
  obtain ⟨v6, x6, rfl, r6, h_6⟩ := h_5.c_r
  obtain ⟨x7, rfl, h_7⟩ := h_6.c_b
  obtain ⟨x8, rfl, h_8⟩ := h_7.c_b
  obtain ⟨x9, rfl, h_9⟩ := h_8.c_i
  obtain ⟨v10, x10, rfl, r10, h_10⟩ := h_9.c_r
  obtain ⟨v11, x11, rfl, r11, h_11⟩ := h_10.c_r
  obtain ⟨v12, x12, rfl, r12, h_12⟩ := h_11.c_r
  obtain ⟨x13, rfl, h_13⟩ := h_12.c_i
  obtain rfl := h_13.c_n
  obtain ⟨cs, hcs⟩ : ∃ cs : List Value, cs = .int .i64 a0 :: .int .i64 a1 :: .bool a2 :: (c3 ++ ((c4 ++ (v5 :: v6 :: .bool a7 :: .bool a8 :: .int .i64 a9 :: v10 :: v11 :: v12 :: .int .i64 a13 :: [])))) := ⟨_, rfl⟩
  rw [← hcs]
  have L3 : Hid (c3.length = 3) := r3.len
  have L4 : Hid (c4.length = 3) := r4.len
  have HCS := uh hcs
  simp only [cntT, cntT_app] at hk ⊢
  obtain ⟨wa, hwa⟩ : ∃ wa, wa = w.alloc (.cells cs.toArray 38) := ⟨_, rfl⟩
  have HB : Hid (Below w.heap.size w wa) := by show Below _ _ _; rw [hwa]; exact blw_alloc (Below.refl _ _) _
  have HX : Hid (LBox wa w.heap.size cs) := by show LBox _ _ _; rw [hwa]; exact LBox.new w cs.toArray _ _ rfl
  have R3 := uh (r3.later HB.out)
  have R4 := uh (r4.later HB.out)
  have R5 := uh (r5.later HB.out)
  have R6 := uh (r6.later HB.out)
  have R10 := uh (r10.later HB.out)
  have R11 := uh (r11.later HB.out)
  have R12 := uh (r12.later HB.out)
  have HKK := uh hk
  clear hcs hk r3 r4 r5 r6 r10 r11 r12
  go_enter Tryz.func10, Tryz.ntmps10
  go_upto_region 1 with fail
  rw [← hwa]
  clear hwa
  have hbz := HX.out.lt
  have hbx := boxRecorder L3.out L4.out (by have := HX.out.at_; rw [HCS.out] at this; exact this)
  have gc := hbx.2.2.2.1
  clear hbx
  obtain ⟨k3, hk3⟩ : ∃ k3 : Nat, k3 = k + cntT d3 := ⟨_, rfl⟩
  have HK3 := uh hk3
  have kb3 : 1 ≤ k3 ∧ k3 ≤ 4000000000000000000 := by have := HKK.out; have := HK3.out; omega
  obtain ⟨kl3, ku3⟩ := kb3
  clear hk3
  have kn3 : ¬ (k3 : Int) < 0 := by omega
  go_wp2_with (refine wpList_load_mid rfl 34 _ rfl w.heap.size 3 rfl c3 _ gc Tryz.underlying34 rfl (by rw [L3.out]; kernel_rfl) ?_)
  refine (heldRecDisk d3 c3 k wa t3 (by have := R3.out; simpa only [Nat.add_zero] using this) (by omega) (by have := HK3.out; omega)).mono ?_
  rintro e x3 ⟨he, hb3⟩
  rw [← HK3.out] at he
  subst he
  replace HX := uh (HX.out.later hb3)
  replace HB := uh (blw_trans HB.out hb3)
  replace R4 := uh (R4.out.later hb3)
  replace R5 := uh (R5.out.later hb3)
  replace R6 := uh (R6.out.later hb3)
  replace R10 := uh (R10.out.later hb3)
  replace R11 := uh (R11.out.later hb3)
  replace R12 := uh (R12.out.later hb3)
  clear gc hbz hb3
  have hbz := HX.out.lt
  have hbx := boxRecorder L3.out L4.out (by have := HX.out.at_; rw [HCS.out] at this; exact this)
  have gc := hbx.2.2.2.2.1
  clear hbx
  obtain ⟨k4, hk4⟩ : ∃ k4 : Nat, k4 = k3 + cntT d4 := ⟨_, rfl⟩
  have HK4 := uh hk4
  have kb4 : 1 ≤ k4 ∧ k4 ≤ 4000000000000000000 := by have := HKK.out; have := HK3.out; have := HK4.out; omega
  obtain ⟨kl4, ku4⟩ := kb4
  clear hk4
  have kn4 : ¬ (k4 : Int) < 0 := by omega
  go_wp2_with (refine wpList_load_mid rfl 34 _ rfl w.heap.size 6 rfl c4 _ gc Tryz.underlying34 rfl (by rw [L4.out]; kernel_rfl) ?_)
  refine (heldRecDisk d4 c4 k3 x3 t4 (by have := R4.out; simpa only [HK3.out, Nat.add_zero] using this) (by omega) (by have := HK4.out; omega)).mono ?_
  rintro e x4 ⟨he, hb4⟩
  rw [← HK4.out] at he
  subst he
  replace HX := uh (HX.out.later hb4)
  replace HB := uh (blw_trans HB.out hb4)
  replace R5 := uh (R5.out.later hb4)
  replace R6 := uh (R6.out.later hb4)
  replace R10 := uh (R10.out.later hb4)
  replace R11 := uh (R11.out.later hb4)
  replace R12 := uh (R12.out.later hb4)
  clear gc hbz hb4
  have hbz := HX.out.lt
  have hbx := boxRecorder L3.out L4.out (by have := HX.out.at_; rw [HCS.out] at this; exact this)
  have gc := hbx.2.2.2.2.2.1
  clear hbx
  obtain ⟨k5, hk5⟩ : ∃ k5 : Nat, k5 = k4 + cntL e5 := ⟨_, rfl⟩
  have HK5 := uh hk5
  have kb5 : 1 ≤ k5 ∧ k5 ≤ 4000000000000000000 := by have := HKK.out; have := HK3.out; have := HK4.out; have := HK5.out; omega
  obtain ⟨kl5, ku5⟩ := kb5
  clear hk5
  have kn5 : ¬ (k5 : Int) < 0 := by omega
  obtain ⟨va5, vc5, hva⟩ := R5.out.len0
  subst hva
  go_wp2_with fail
  refine (heldRecMessageS n5 e5 (.slice va5 n5 vc5) k4 x4 t5 (by have := R5.out; simpa only [HK3.out, HK4.out, Nat.add_zero] using this) (by omega) (by have := HK5.out; omega)).mono ?_
  rintro e x5 ⟨he, hb5⟩
  rw [← HK5.out] at he
  subst he
  replace HX := uh (HX.out.later hb5)
  replace HB := uh (blw_trans HB.out hb5)
  replace R6 := uh (R6.out.later hb5)
  replace R10 := uh (R10.out.later hb5)
  replace R11 := uh (R11.out.later hb5)
  replace R12 := uh (R12.out.later hb5)
  clear gc hbz hb5
  have hbz := HX.out.lt
  have hbx := boxRecorder L3.out L4.out (by have := HX.out.at_; rw [HCS.out] at this; exact this)
  have gc := hbx.2.2.2.2.2.2.1
  clear hbx
  obtain ⟨k6, hk6⟩ : ∃ k6 : Nat, k6 = k5 + cntL e6 := ⟨_, rfl⟩
  have HK6 := uh hk6
  have kb6 : 1 ≤ k6 ∧ k6 ≤ 4000000000000000000 := by have := HKK.out; have := HK3.out; have := HK4.out; have := HK5.out; have := HK6.out; omega
  obtain ⟨kl6, ku6⟩ := kb6
  clear hk6
  have kn6 : ¬ (k6 : Int) < 0 := by omega
  obtain ⟨va6, vc6, hva⟩ := R6.out.len0
  subst hva
  go_wp2_with fail
  refine (heldStringS n6 e6 (.slice va6 n6 vc6) k5 x5 t6 (by have := R6.out; simpa only [HK3.out, HK4.out, HK5.out, Nat.add_zero] using this) (by omega) (by have := HK6.out; omega)).mono ?_
  rintro e x6 ⟨he, hb6⟩
  rw [← HK6.out] at he
  subst he
  replace HX := uh (HX.out.later hb6)
  replace HB := uh (blw_trans HB.out hb6)
  replace R10 := uh (R10.out.later hb6)
  replace R11 := uh (R11.out.later hb6)
  replace R12 := uh (R12.out.later hb6)
  clear gc hbz hb6
  have hbz := HX.out.lt
  have hbx := boxRecorder L3.out L4.out (by have := HX.out.at_; rw [HCS.out] at this; exact this)
  have gc := hbx.2.2.2.2.2.2.2.2.2.2.1
  clear hbx
  obtain ⟨k10, hk10⟩ : ∃ k10 : Nat, k10 = k6 + cntL e10 := ⟨_, rfl⟩
  have HK10 := uh hk10
  have kb10 : 1 ≤ k10 ∧ k10 ≤ 4000000000000000000 := by have := HKK.out; have := HK3.out; have := HK4.out; have := HK5.out; have := HK6.out; have := HK10.out; omega
  obtain ⟨kl10, ku10⟩ := kb10
  clear hk10
  have kn10 : ¬ (k10 : Int) < 0 := by omega
  obtain ⟨va10, vc10, hva⟩ := R10.out.len0
  subst hva
  go_wp2_with fail
  refine (heldIntS n10 e10 (.slice va10 n10 vc10) k6 x6 t10 (by have := R10.out; simpa only [HK3.out, HK4.out, HK5.out, HK6.out, Nat.add_zero] using this) (by omega) (by have := HK10.out; omega)).mono ?_
  rintro e x10 ⟨he, hb10⟩
  rw [← HK10.out] at he
  subst he
  replace HX := uh (HX.out.later hb10)
  replace HB := uh (blw_trans HB.out hb10)
  replace R11 := uh (R11.out.later hb10)
  replace R12 := uh (R12.out.later hb10)
  clear gc hbz hb10
  have hbz := HX.out.lt
  have hbx := boxRecorder L3.out L4.out (by have := HX.out.at_; rw [HCS.out] at this; exact this)
  have gc := hbx.2.2.2.2.2.2.2.2.2.2.2.1
  clear hbx
  obtain ⟨k11, hk11⟩ : ∃ k11 : Nat, k11 = k10 + cntL e11 := ⟨_, rfl⟩
  have HK11 := uh hk11
  have kb11 : 1 ≤ k11 ∧ k11 ≤ 4000000000000000000 := by have := HKK.out; have := HK3.out; have := HK4.out; have := HK5.out; have := HK6.out; have := HK10.out; have := HK11.out; omega
  obtain ⟨kl11, ku11⟩ := kb11
  clear hk11
  have kn11 : ¬ (k11 : Int) < 0 := by omega
  obtain ⟨va11, vc11, hva⟩ := R11.out.len0
  subst hva
  go_wp2_with fail
  refine (heldRecSlotS n11 e11 (.slice va11 n11 vc11) k10 x10 t11 (by have := R11.out; simpa only [HK3.out, HK4.out, HK5.out, HK6.out, HK10.out, Nat.add_zero] using this) (by omega) (by have := HK11.out; omega)).mono ?_
  rintro e x11 ⟨he, hb11⟩
  rw [← HK11.out] at he
  subst he
  replace HX := uh (HX.out.later hb11)
  replace HB := uh (blw_trans HB.out hb11)
  replace R12 := uh (R12.out.later hb11)
  clear gc hbz hb11
  have hbz := HX.out.lt
  have hbx := boxRecorder L3.out L4.out (by have := HX.out.at_; rw [HCS.out] at this; exact this)
  have gc := hbx.2.2.2.2.2.2.2.2.2.2.2.2.1
  clear hbx
  obtain ⟨k12, hk12⟩ : ∃ k12 : Nat, k12 = k11 + cntL e12 := ⟨_, rfl⟩
  have HK12 := uh hk12
  have kb12 : 1 ≤ k12 ∧ k12 ≤ 4000000000000000000 := by have := HKK.out; have := HK3.out; have := HK4.out; have := HK5.out; have := HK6.out; have := HK10.out; have := HK11.out; have := HK12.out; omega
  obtain ⟨kl12, ku12⟩ := kb12
  clear hk12
  have kn12 : ¬ (k12 : Int) < 0 := by omega
  obtain ⟨va12, vc12, hva⟩ := R12.out.len0
  subst hva
  go_wp2_with fail
  refine (heldRecAckS n12 e12 (.slice va12 n12 vc12) k11 x11 t12 (by have := R12.out; simpa only [HK3.out, HK4.out, HK5.out, HK6.out, HK10.out, HK11.out, Nat.add_zero] using this) (by omega) (by have := HK12.out; omega)).mono ?_
  rintro e x12 ⟨he, hb12⟩
  rw [← HK12.out] at he
  subst he
  replace HX := uh (HX.out.later hb12)
  replace HB := uh (blw_trans HB.out hb12)
  clear gc hbz hb12
  go_wp2
  go_ret
  exact ⟨Pl.ret_int (by have := HKK.out; have := HK3.out; have := HK4.out; have := HK5.out; have := HK6.out; have := HK10.out; have := HK11.out; have := HK12.out; omega), HB.out⟩
end Go.Proofs.YtnifdpjmpbocnaaGreat
