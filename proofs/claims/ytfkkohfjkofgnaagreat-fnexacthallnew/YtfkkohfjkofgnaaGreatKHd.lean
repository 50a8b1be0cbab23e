/-
  What marks worlds bear.
-/
import Derived.Test.YtfkkohfjkofgnaaGreatKShw
import Derived.Test.YtfkkohfjkofgnaaGreatKHb
import Derived.Test.YtfkkohfjkofgnaaGreatUBm
namespace Go.Proofs.YtfkkohfjkofgnaaGreat
open Go.RowKit Go.Deep

set_option maxRecDepth 8000 in
set_option maxHeartbeats 8000000 in
theorem heldRecFixS (n : Nat) (es : List Dt) (v : Value) (k : Nat) (w : World) (ht : Typ (reps n shRecFix) es) (h : Raw w [.row 123 shRecFix] [.row n (mkL k es)] [v]) (h1 : 1 ≤ k) (hk : k + cntL es ≤ 4000000000000000000) :
    Calls Tryz.prog 67 #[v, .int .i64 (k : Int)] w fun e w' => e = .returned (.int .i64 ((k + cntL es : Nat) : Int)) ∧ Below w.heap.size w w' := by
  have HT := uh ht
  clear ht
  rcases h.slice with ⟨rfl, hes, a, c, rfl⟩ | ⟨p, o, c, rfl, hp, hn, vs, hr, hR⟩
  · have he0 : es = [] := List.eq_nil_of_length_eq_zero (by have := HT.out.rows; omega)
    subst he0
    go_enter Tryz.func67, Tryz.ntmps67
    go_wp2
    refine wp_loop_rounds 1 ?_
    rw [rounds_succ]
    go_wp2
    go_ret
    exact ⟨by simp [cntL], Below.refl _ _⟩
  · have HR := uh hR; have HRG := uh hr
    have HP := uh hp
    have hn1 : n ≤ 9223372036854775807 := hn.1
    clear hr hR h hn hp
    go_enter Tryz.func67, Tryz.ntmps67
    go_wp2
    go_loopw [1, 5] (fun kk i wr => ∃ q : Nat, q ≤ n ∧ i = .int .i64 (q : Int) ∧ kk = .int .i64 ((k + cntL (es.take (q * 2)) : Nat) : Int) ∧ Below w.heap.size w wr) (fun _ i _ => n - (intOf i).toNat)
    case atStart => exact ⟨0, Nat.zero_le _, rfl, by simp [cntL], Below.refl _ _⟩
    case round =>
      obtain ⟨q, hq, rfl, rfl, hM⟩ := hrel
      have HB := uh hM
      clear hM
      by_cases hlt : q < n
      · obtain ⟨ve, hE, hrng⟩ := (HR.out.later HB.out).el hlt (rA_later HRG.out HP.out HB.out)
        have hE1 : Raw wr shRecFix (el 2 q (mkL k es)) ve := hE
        rw [show el 2 q (mkL k es) = mkL (k + cntL (es.take (q * 2))) (el 2 q es) from mk_el (sh := shRecFix) HT.out hlt] at hE1
        obtain ⟨d, hd⟩ : ∃ d, d = el 2 q es := ⟨_, rfl⟩
        have hte : Typ shRecFix d := by rw [hd]; exact HT.out.el hlt
        have hcn : k + cntL (es.take (q * 2)) + cntL d ≤ 4000000000000000000 := by rw [hd]; have := @cnt_el q 2 es; omega
        have hnx : cntL (es.take ((q + 1) * 2)) = cntL (es.take (q * 2)) + cntL d := by rw [hd]; exact cnt_next (sh := shRecFix) HT.out hlt
        rw [← hd] at hE1
        clear hE hd
        obtain ⟨kq, hkq⟩ : ∃ kq : Nat, kq = k + cntL (es.take (q * 2)) := ⟨_, rfl⟩
        rw [← hkq] at hcn hE1 ⊢
        have HNX : Hid (k + cntL (es.take ((q + 1) * 2)) = kq + cntL d) := by show _ = _; omega
        obtain ⟨a0, a1, rfl⟩ := typRecFix hte
        simp only [mkL] at hE1
        obtain rfl := rawRecFix hE1
        have hkq1 : 1 ≤ kq := by omega
        have hkq2 : kq ≤ 4000000000000000000 := by omega
        simp only [cntL] at hcn
        have HCN := uh hcn
        have HPR : Hid (p < wr.heap.size) := Nat.lt_of_lt_of_le HP.out HB.out.size
        have HG : Hid (wr.rangeAt p (o + q * 2) _) := hrng
        clear hcn hE1 hte hkq hnx hrng
        have hm0 : (0 : Int) ≤ (q : Int) := by omega
        have hm3 : (q : Int) < (n : Int) := by omega
        have hbz := HPR.out
        have gc : wr.cell? ⟨p, o + q * 2, none⟩ = some (.int .i64 (kq : Int)) := rA_get HG.out 0 _ rfl
        go_upto_region 6 with fail
        clear gc hbz
        obtain ⟨k0, hk0⟩ : ∃ k0 : Nat, k0 = kq + 1 := ⟨_, rfl⟩
        have hkc0 : (kq : Int) + 1 = (k0 : Int) := by omega
        have HK0 := uh hk0
        have kb0 : 1 ≤ k0 ∧ k0 ≤ 4000000000000000000 := by have := HCN.out; have := HK0.out; omega
        obtain ⟨kl0, ku0⟩ := kb0
        try rw [← hk0] at HG
        clear hk0
        go_upto_region 7 with fail
        clear hkc0
        have hbz := HPR.out
        have gc : wr.cell? ⟨p, o + q * 2 + 1, none⟩ = some (.string (mt k0)) := rA_get HG.out 1 _ rfl
        have hNE := upst_some wr
        have hbz2 : ∀ px : UPst wr, p < px.W.heap.size := fun px => px.size hbz
        have S1 : ∀ px : UPst wr, px.W.cell? ⟨p, o + q * 2 + 1, none⟩ = some (.string (mt k0)) := fun px => px.cell gc hbz
        go_upto_region 7 with fail
        clear gc hbz
        refine uregion wr (Below.refl _ _) (by kernel_rfl) (by kernel_rfl) ?_
        repeat (first
          | go_big_quiet_skip
          | (go_big_quiet_want; go_big_quiet_op; first | go_big_quiet_on | (apply Exists.intro; refine ⟨fun px => ?_, ?_⟩; (focus ((go_at_call 58; refine (markText k0 _ (by omega) (by omega)).mono ?_; rintro e w' ⟨he, hb⟩; exact ⟨he, ⟨w', blw_trans px.ok hb⟩, rfl⟩))); go_big_quiet_on)))
        refine wpQuiet_nil ?_
        intro _ hw'
        obtain ⟨z1, hw''⟩ := hw'
        subst hw''
        replace HB := uh (blw_trans HB.out z1.ok)
        replace HG := uh (rA_later HG.out HPR.out z1.ok)
        replace HPR := uh (Nat.lt_of_lt_of_le HPR.out z1.ok.size)
        clear S1 hbz2 hNE
        obtain ⟨k1, hk1⟩ : ∃ k1 : Nat, k1 = k0 + 1 := ⟨_, rfl⟩
        have hkc1 : (k0 : Int) + 1 = (k1 : Int) := by omega
        have HK1 := uh hk1
        have kb1 : 1 ≤ k1 ∧ k1 ≤ 4000000000000000000 := by have := HCN.out; have := HK0.out; have := HK1.out; omega
        obtain ⟨kl1, ku1⟩ := kb1
        clear hk1
        have HF : Hid (k1 = k + cntL (es.take ((q + 1) * 2))) := by
          have := HNX.out; simp only [cntL] at this; have := HK0.out; have := HK1.out; show _ = _; omega
        go_wp2
        go_roundw
        case rel => exact ⟨q + 1, by omega, by go_num, by rw [← HF.out], HB.out⟩
        case measure => simp [intOf]; omega
      · obtain rfl : q = n := by omega
        have el_ : es.length = q * 2 := HT.out.rows
        rw [← el_, List.take_length]
        go_wp2
        go_ret
        exact ⟨rfl, HB.out⟩
set_option maxRecDepth 8000 in
set_option maxHeartbeats 8000000 in
theorem heldRecorderS (n : Nat) (es : List Dt) (v : Value) (k : Nat) (w : World) (ht : Typ (reps n shRecorder) es) (h : Raw w [.row 84 shRecorder] [.row n (mkL k es)] [v]) (h1 : 1 ≤ k) (hk : k + cntL es ≤ 4000000000000000000) :
    Calls Tryz.prog 65 #[v, .int .i64 (k : Int)] w fun e w' => e = .returned (.int .i64 ((k + cntL es : Nat) : Int)) ∧ Below w.heap.size w w' := by
  have HT := uh ht
  clear ht
  rcases h.slice with ⟨rfl, hes, a, c, rfl⟩ | ⟨p, o, c, rfl, hp, hn, vs, hr, hR⟩
  · have he0 : es = [] := List.eq_nil_of_length_eq_zero (by have := HT.out.rows; omega)
    subst he0
    go_enter Tryz.func65, Tryz.ntmps65
    go_wp2
    refine wp_loop_rounds 1 ?_
    rw [rounds_succ]
    go_wp2
    go_ret
    exact ⟨by simp [cntL], Below.refl _ _⟩
  · have HR := uh hR; have HRG := uh hr
    have HP := uh hp
    have hn1 : n ≤ 9223372036854775807 := hn.1
    clear hr hR h hn hp
    go_enter Tryz.func65, Tryz.ntmps65
    go_wp2
    go_loopw [1, 5] (fun kk i wr => ∃ q : Nat, q ≤ n ∧ i = .int .i64 (q : Int) ∧ kk = .int .i64 ((k + cntL (es.take (q * 18)) : Nat) : Int) ∧ Below w.heap.size w wr) (fun _ i _ => n - (intOf i).toNat)
    case atStart => exact ⟨0, Nat.zero_le _, rfl, by simp [cntL], Below.refl _ _⟩
    case round =>
      obtain ⟨q, hq, rfl, rfl, hM⟩ := hrel
      have HB := uh hM
      clear hM
      by_cases hlt : q < n
      · obtain ⟨ve, hE, hrng⟩ := (HR.out.later HB.out).el hlt (rA_later HRG.out HP.out HB.out)
        have hE1 : Raw wr shRecorder (el 18 q (mkL k es)) ve := hE
        rw [show el 18 q (mkL k es) = mkL (k + cntL (es.take (q * 18))) (el 18 q es) from mk_el (sh := shRecorder) HT.out hlt] at hE1
        obtain ⟨d, hd⟩ : ∃ d, d = el 18 q es := ⟨_, rfl⟩
        have hte : Typ shRecorder d := by rw [hd]; exact HT.out.el hlt
        have hcn : k + cntL (es.take (q * 18)) + cntL d ≤ 4000000000000000000 := by rw [hd]; have := @cnt_el q 18 es; omega
        have hnx : cntL (es.take ((q + 1) * 18)) = cntL (es.take (q * 18)) + cntL d := by rw [hd]; exact cnt_next (sh := shRecorder) HT.out hlt
        rw [← hd] at hE1
        clear hE hd
        obtain ⟨kq, hkq⟩ : ∃ kq : Nat, kq = k + cntL (es.take (q * 18)) := ⟨_, rfl⟩
        rw [← hkq] at hcn hE1 ⊢
        have HNX : Hid (k + cntL (es.take ((q + 1) * 18)) = kq + cntL d) := by show _ = _; omega
        obtain ⟨a0, a1, a2, a3, a4, n5, e5, a6, a7, n8, e8, n9, e9, n10, e10, a11, a12, a13, n14, e14, n15, e15, n16, e16, a17, rfl, t5, t8, t9, t10, t14, t15, t16⟩ := typRecorder hte
        simp only [mkL] at hE1
        obtain ⟨v5, v8, v9, v10, v14, v15, v16, rfl, r5, r8, r9, r10, r14, r15, r16⟩ := rawRecorder hE1
        have hkq1 : 1 ≤ kq := by omega
        have hkq2 : kq ≤ 4000000000000000000 := by omega
        simp only [cntL] at hcn
        have HCN := uh hcn
        have HPR : Hid (p < wr.heap.size) := Nat.lt_of_lt_of_le HP.out HB.out.size
        have HG : Hid (wr.rangeAt p (o + q * 18) _) := hrng
        have R5 := uh r5
        have R8 := uh r8
        have R9 := uh r9
        have R10 := uh r10
        have R14 := uh r14
        have R15 := uh r15
        have R16 := uh r16
        clear hcn hE1 hte hkq hnx hrng r5 r8 r9 r10 r14 r15 r16
        have hm0 : (0 : Int) ≤ (q : Int) := by omega
        have hm3 : (q : Int) < (n : Int) := by omega
        have hbz := HPR.out
        have gc : wr.cell? ⟨p, o + q * 18, none⟩ = some (.int .i64 (kq : Int)) := rA_get HG.out 0 _ rfl
        go_upto_region 6 with fail
        clear gc hbz
        obtain ⟨k0, hk0⟩ : ∃ k0 : Nat, k0 = kq + 1 := ⟨_, rfl⟩
        have hkc0 : (kq : Int) + 1 = (k0 : Int) := by omega
        have HK0 := uh hk0
        have kb0 : 1 ≤ k0 ∧ k0 ≤ 4000000000000000000 := by have := HCN.out; have := HK0.out; omega
        obtain ⟨kl0, ku0⟩ := kb0
        try rw [← hk0] at HG
        try rw [← hk0] at R5
        try rw [← hk0] at R8
        try rw [← hk0] at R9
        try rw [← hk0] at R10
        try rw [← hk0] at R14
        try rw [← hk0] at R15
        try rw [← hk0] at R16
        clear hk0
        go_upto_region 7 with fail
        clear hkc0
        have hbz := HPR.out
        have gc : wr.cell? ⟨p, o + q * 18 + 1, none⟩ = some (.int .i64 (k0 : Int)) := rA_get HG.out 1 _ rfl
        go_upto_region 9 with fail
        clear gc hbz
        obtain ⟨k1, hk1⟩ : ∃ k1 : Nat, k1 = k0 + 1 := ⟨_, rfl⟩
        have hkc1 : (k0 : Int) + 1 = (k1 : Int) := by omega
        have HK1 := uh hk1
        have kb1 : 1 ≤ k1 ∧ k1 ≤ 4000000000000000000 := by have := HCN.out; have := HK0.out; have := HK1.out; omega
        obtain ⟨kl1, ku1⟩ := kb1
        try rw [← hk1] at HG
        try rw [← hk1] at R5
        try rw [← hk1] at R8
        try rw [← hk1] at R9
        try rw [← hk1] at R10
        try rw [← hk1] at R14
        try rw [← hk1] at R15
        try rw [← hk1] at R16
        clear hk1
        go_upto_region 10 with fail
        clear hkc1
        have hbz := HPR.out
        have gc : wr.cell? ⟨p, o + q * 18 + 2, none⟩ = some (.bool (k1 % 3 == 0)) := rA_get HG.out 2 _ rfl
        have hrm := bmod k1
        go_upto_region 12 with fail
        clear hrm
        clear gc hbz
        obtain ⟨k2, hk2⟩ : ∃ k2 : Nat, k2 = k1 + 1 := ⟨_, rfl⟩
        have hkc2 : (k1 : Int) + 1 = (k2 : Int) := by omega
        have HK2 := uh hk2
        have kb2 : 1 ≤ k2 ∧ k2 ≤ 4000000000000000000 := by have := HCN.out; have := HK0.out; have := HK1.out; have := HK2.out; omega
        obtain ⟨kl2, ku2⟩ := kb2
        try rw [← hk2] at HG
        try rw [← hk2] at R5
        try rw [← hk2] at R8
        try rw [← hk2] at R9
        try rw [← hk2] at R10
        try rw [← hk2] at R14
        try rw [← hk2] at R15
        try rw [← hk2] at R16
        clear hk2
        go_upto_region 13 with fail
        clear hkc2
        have hbz := HPR.out
        have gc : wr.cell? ⟨p, o + q * 18 + 3, none⟩ = some (.int .i64 (k2 : Int)) := rA_get HG.out 3 _ rfl
        go_upto_region 15 with fail
        clear gc hbz
        obtain ⟨k3, hk3⟩ : ∃ k3 : Nat, k3 = k2 + 1 := ⟨_, rfl⟩
        have hkc3 : (k2 : Int) + 1 = (k3 : Int) := by omega
        have HK3 := uh hk3
        have kb3 : 1 ≤ k3 ∧ k3 ≤ 4000000000000000000 := by have := HCN.out; have := HK0.out; have := HK1.out; have := HK2.out; have := HK3.out; omega
        obtain ⟨kl3, ku3⟩ := kb3
        try rw [← hk3] at HG
        try rw [← hk3] at R5
        try rw [← hk3] at R8
        try rw [← hk3] at R9
        try rw [← hk3] at R10
        try rw [← hk3] at R14
        try rw [← hk3] at R15
        try rw [← hk3] at R16
        clear hk3
        go_upto_region 16 with fail
        clear hkc3
        have hbz := HPR.out
        have gc : wr.cell? ⟨p, o + q * 18 + 4, none⟩ = some (.int .i64 (k3 : Int)) := rA_get HG.out 4 _ rfl
        go_upto_region 18 with fail
        clear gc hbz
        obtain ⟨k4, hk4⟩ : ∃ k4 : Nat, k4 = k3 + 1 := ⟨_, rfl⟩
        have hkc4 : (k3 : Int) + 1 = (k4 : Int) := by omega
        have HK4 := uh hk4
        have kb4 : 1 ≤ k4 ∧ k4 ≤ 4000000000000000000 := by have := HCN.out; have := HK0.out; have := HK1.out; have := HK2.out; have := HK3.out; have := HK4.out; omega
        obtain ⟨kl4, ku4⟩ := kb4
        try rw [← hk4] at HG
        try rw [← hk4] at R5
        try rw [← hk4] at R8
        try rw [← hk4] at R9
        try rw [← hk4] at R10
        try rw [← hk4] at R14
        try rw [← hk4] at R15
        try rw [← hk4] at R16
        clear hk4
        go_upto_region 19 with fail
        clear hkc4
        have hbz := HPR.out
        obtain ⟨va5, vc5, hva⟩ := R5.out.len0
        subst hva
        have gc : wr.cell? ⟨p, o + q * 18 + 5, none⟩ = some (.slice va5 n5 vc5) := rA_get HG.out 5 _ rfl
        obtain ⟨k5, hk5⟩ : ∃ k5 : Nat, k5 = k4 + cntL e5 := ⟨_, rfl⟩
        have HK5 := uh hk5
        have kb5 : 1 ≤ k5 ∧ k5 ≤ 4000000000000000000 := by have := HCN.out; have := HK0.out; have := HK1.out; have := HK2.out; have := HK3.out; have := HK4.out; have := HK5.out; omega
        obtain ⟨kl5, ku5⟩ := kb5
        have kn5 : ¬ (k5 : Int) < 0 := by omega
        clear hk5
        go_wp2_with fail
        refine (heldRecSlotS n5 e5 (.slice va5 n5 vc5) k4 wr t5 R5.out (by omega) (by have := HK5.out; omega)).mono ?_
        rintro e x5 ⟨he, hb5⟩
        rw [← HK5.out] at he
        subst he
        replace HB := uh (blw_trans HB.out hb5)
        replace HG := uh (rA_later HG.out HPR.out hb5)
        replace R8 := uh (R8.out.later hb5)
        replace R9 := uh (R9.out.later hb5)
        replace R10 := uh (R10.out.later hb5)
        replace R14 := uh (R14.out.later hb5)
        replace R15 := uh (R15.out.later hb5)
        replace R16 := uh (R16.out.later hb5)
        replace HPR := uh (Nat.lt_of_lt_of_le HPR.out hb5.size)
        clear gc hbz hb5
        try rw [← HK5.out] at HG
        try rw [← HK5.out] at R8
        try rw [← HK5.out] at R9
        try rw [← HK5.out] at R10
        try rw [← HK5.out] at R14
        try rw [← HK5.out] at R15
        try rw [← HK5.out] at R16
        go_upto_region 22 with fail
        have hbz := HPR.out
        have gc : x5.cell? ⟨p, o + q * 18 + 6, none⟩ = some (.int .i64 (k5 : Int)) := rA_get HG.out 6 _ rfl
        go_upto_region 24 with fail
        clear gc hbz
        obtain ⟨k6, hk6⟩ : ∃ k6 : Nat, k6 = k5 + 1 := ⟨_, rfl⟩
        have hkc6 : (k5 : Int) + 1 = (k6 : Int) := by omega
        have HK6 := uh hk6
        have kb6 : 1 ≤ k6 ∧ k6 ≤ 4000000000000000000 := by have := HCN.out; have := HK0.out; have := HK1.out; have := HK2.out; have := HK3.out; have := HK4.out; have := HK5.out; have := HK6.out; omega
        obtain ⟨kl6, ku6⟩ := kb6
        try rw [← hk6] at HG
        try rw [← hk6] at R8
        try rw [← hk6] at R9
        try rw [← hk6] at R10
        try rw [← hk6] at R14
        try rw [← hk6] at R15
        try rw [← hk6] at R16
        clear hk6
        go_upto_region 25 with fail
        clear hkc6
        have hbz := HPR.out
        have gc : x5.cell? ⟨p, o + q * 18 + 7, none⟩ = some (.int .i64 (k6 : Int)) := rA_get HG.out 7 _ rfl
        go_upto_region 27 with fail
        clear gc hbz
        obtain ⟨k7, hk7⟩ : ∃ k7 : Nat, k7 = k6 + 1 := ⟨_, rfl⟩
        have hkc7 : (k6 : Int) + 1 = (k7 : Int) := by omega
        have HK7 := uh hk7
        have kb7 : 1 ≤ k7 ∧ k7 ≤ 4000000000000000000 := by have := HCN.out; have := HK0.out; have := HK1.out; have := HK2.out; have := HK3.out; have := HK4.out; have := HK5.out; have := HK6.out; have := HK7.out; omega
        obtain ⟨kl7, ku7⟩ := kb7
        try rw [← hk7] at HG
        try rw [← hk7] at R8
        try rw [← hk7] at R9
        try rw [← hk7] at R10
        try rw [← hk7] at R14
        try rw [← hk7] at R15
        try rw [← hk7] at R16
        clear hk7
        go_upto_region 28 with fail
        clear hkc7
        have hbz := HPR.out
        obtain ⟨va8, vc8, hva⟩ := R8.out.len0
        subst hva
        have gc : x5.cell? ⟨p, o + q * 18 + 8, none⟩ = some (.slice va8 n8 vc8) := rA_get HG.out 8 _ rfl
        obtain ⟨k8, hk8⟩ : ∃ k8 : Nat, k8 = k7 + cntL e8 := ⟨_, rfl⟩
        have HK8 := uh hk8
        have kb8 : 1 ≤ k8 ∧ k8 ≤ 4000000000000000000 := by have := HCN.out; have := HK0.out; have := HK1.out; have := HK2.out; have := HK3.out; have := HK4.out; have := HK5.out; have := HK6.out; have := HK7.out; have := HK8.out; omega
        obtain ⟨kl8, ku8⟩ := kb8
        have kn8 : ¬ (k8 : Int) < 0 := by omega
        clear hk8
        go_wp2_with fail
        refine (heldRecSlotS n8 e8 (.slice va8 n8 vc8) k7 x5 t8 R8.out (by omega) (by have := HK8.out; omega)).mono ?_
        rintro e x8 ⟨he, hb8⟩
        rw [← HK8.out] at he
        subst he
        replace HB := uh (blw_trans HB.out hb8)
        replace HG := uh (rA_later HG.out HPR.out hb8)
        replace R9 := uh (R9.out.later hb8)
        replace R10 := uh (R10.out.later hb8)
        replace R14 := uh (R14.out.later hb8)
        replace R15 := uh (R15.out.later hb8)
        replace R16 := uh (R16.out.later hb8)
        replace HPR := uh (Nat.lt_of_lt_of_le HPR.out hb8.size)
        clear gc hbz hb8
        try rw [← HK8.out] at HG
        try rw [← HK8.out] at R9
        try rw [← HK8.out] at R10
        try rw [← HK8.out] at R14
        try rw [← HK8.out] at R15
        try rw [← HK8.out] at R16
        go_upto_region 31 with fail
        have hbz := HPR.out
        obtain ⟨va9, vc9, hva⟩ := R9.out.len0
        subst hva
        have gc : x8.cell? ⟨p, o + q * 18 + 9, none⟩ = some (.slice va9 n9 vc9) := rA_get HG.out 9 _ rfl
        obtain ⟨k9, hk9⟩ : ∃ k9 : Nat, k9 = k8 + cntL e9 := ⟨_, rfl⟩
        have HK9 := uh hk9
        have kb9 : 1 ≤ k9 ∧ k9 ≤ 4000000000000000000 := by have := HCN.out; have := HK0.out; have := HK1.out; have := HK2.out; have := HK3.out; have := HK4.out; have := HK5.out; have := HK6.out; have := HK7.out; have := HK8.out; have := HK9.out; omega
        obtain ⟨kl9, ku9⟩ := kb9
        have kn9 : ¬ (k9 : Int) < 0 := by omega
        clear hk9
        go_wp2_with fail
        refine (heldRecMessageS n9 e9 (.slice va9 n9 vc9) k8 x8 t9 R9.out (by omega) (by have := HK9.out; omega)).mono ?_
        rintro e x9 ⟨he, hb9⟩
        rw [← HK9.out] at he
        subst he
        replace HB := uh (blw_trans HB.out hb9)
        replace HG := uh (rA_later HG.out HPR.out hb9)
        replace R10 := uh (R10.out.later hb9)
        replace R14 := uh (R14.out.later hb9)
        replace R15 := uh (R15.out.later hb9)
        replace R16 := uh (R16.out.later hb9)
        replace HPR := uh (Nat.lt_of_lt_of_le HPR.out hb9.size)
        clear gc hbz hb9
        try rw [← HK9.out] at HG
        try rw [← HK9.out] at R10
        try rw [← HK9.out] at R14
        try rw [← HK9.out] at R15
        try rw [← HK9.out] at R16
        go_upto_region 34 with fail
        have hbz := HPR.out
        obtain ⟨va10, vc10, hva⟩ := R10.out.len0
        subst hva
        have gc : x9.cell? ⟨p, o + q * 18 + 10, none⟩ = some (.slice va10 n10 vc10) := rA_get HG.out 10 _ rfl
        obtain ⟨k10, hk10⟩ : ∃ k10 : Nat, k10 = k9 + cntL e10 := ⟨_, rfl⟩
        have HK10 := uh hk10
        have kb10 : 1 ≤ k10 ∧ k10 ≤ 4000000000000000000 := by have := HCN.out; have := HK0.out; have := HK1.out; have := HK2.out; have := HK3.out; have := HK4.out; have := HK5.out; have := HK6.out; have := HK7.out; have := HK8.out; have := HK9.out; have := HK10.out; omega
        obtain ⟨kl10, ku10⟩ := kb10
        have kn10 : ¬ (k10 : Int) < 0 := by omega
        clear hk10
        go_wp2_with fail
        refine (heldStringS n10 e10 (.slice va10 n10 vc10) k9 x9 t10 R10.out (by omega) (by have := HK10.out; omega)).mono ?_
        rintro e x10 ⟨he, hb10⟩
        rw [← HK10.out] at he
        subst he
        replace HB := uh (blw_trans HB.out hb10)
        replace HG := uh (rA_later HG.out HPR.out hb10)
        replace R14 := uh (R14.out.later hb10)
        replace R15 := uh (R15.out.later hb10)
        replace R16 := uh (R16.out.later hb10)
        replace HPR := uh (Nat.lt_of_lt_of_le HPR.out hb10.size)
        clear gc hbz hb10
        try rw [← HK10.out] at HG
        try rw [← HK10.out] at R14
        try rw [← HK10.out] at R15
        try rw [← HK10.out] at R16
        go_upto_region 37 with fail
        have hbz := HPR.out
        have gc : x10.cell? ⟨p, o + q * 18 + 11, none⟩ = some (.bool (k10 % 3 == 0)) := rA_get HG.out 11 _ rfl
        have hrm := bmod k10
        go_upto_region 39 with fail
        clear hrm
        clear gc hbz
        obtain ⟨k11, hk11⟩ : ∃ k11 : Nat, k11 = k10 + 1 := ⟨_, rfl⟩
        have hkc11 : (k10 : Int) + 1 = (k11 : Int) := by omega
        have HK11 := uh hk11
        have kb11 : 1 ≤ k11 ∧ k11 ≤ 4000000000000000000 := by have := HCN.out; have := HK0.out; have := HK1.out; have := HK2.out; have := HK3.out; have := HK4.out; have := HK5.out; have := HK6.out; have := HK7.out; have := HK8.out; have := HK9.out; have := HK10.out; have := HK11.out; omega
        obtain ⟨kl11, ku11⟩ := kb11
        try rw [← hk11] at HG
        try rw [← hk11] at R14
        try rw [← hk11] at R15
        try rw [← hk11] at R16
        clear hk11
        go_upto_region 40 with fail
        clear hkc11
        have hbz := HPR.out
        have gc : x10.cell? ⟨p, o + q * 18 + 12, none⟩ = some (.bool (k11 % 3 == 0)) := rA_get HG.out 12 _ rfl
        have hrm := bmod k11
        go_upto_region 42 with fail
        clear hrm
        clear gc hbz
        obtain ⟨k12, hk12⟩ : ∃ k12 : Nat, k12 = k11 + 1 := ⟨_, rfl⟩
        have hkc12 : (k11 : Int) + 1 = (k12 : Int) := by omega
        have HK12 := uh hk12
        have kb12 : 1 ≤ k12 ∧ k12 ≤ 4000000000000000000 := by have := HCN.out; have := HK0.out; have := HK1.out; have := HK2.out; have := HK3.out; have := HK4.out; have := HK5.out; have := HK6.out; have := HK7.out; have := HK8.out; have := HK9.out; have := HK10.out; have := HK11.out; have := HK12.out; omega
        obtain ⟨kl12, ku12⟩ := kb12
        try rw [← hk12] at HG
        try rw [← hk12] at R14
        try rw [← hk12] at R15
        try rw [← hk12] at R16
        clear hk12
        go_upto_region 43 with fail
        clear hkc12
        have hbz := HPR.out
        have gc : x10.cell? ⟨p, o + q * 18 + 13, none⟩ = some (.int .i64 (k12 : Int)) := rA_get HG.out 13 _ rfl
        go_upto_region 45 with fail
        clear gc hbz
        obtain ⟨k13, hk13⟩ : ∃ k13 : Nat, k13 = k12 + 1 := ⟨_, rfl⟩
        have hkc13 : (k12 : Int) + 1 = (k13 : Int) := by omega
        have HK13 := uh hk13
        have kb13 : 1 ≤ k13 ∧ k13 ≤ 4000000000000000000 := by have := HCN.out; have := HK0.out; have := HK1.out; have := HK2.out; have := HK3.out; have := HK4.out; have := HK5.out; have := HK6.out; have := HK7.out; have := HK8.out; have := HK9.out; have := HK10.out; have := HK11.out; have := HK12.out; have := HK13.out; omega
        obtain ⟨kl13, ku13⟩ := kb13
        try rw [← hk13] at HG
        try rw [← hk13] at R14
        try rw [← hk13] at R15
        try rw [← hk13] at R16
        clear hk13
        go_upto_region 46 with fail
        clear hkc13
        have hbz := HPR.out
        obtain ⟨va14, vc14, hva⟩ := R14.out.len0
        subst hva
        have gc : x10.cell? ⟨p, o + q * 18 + 14, none⟩ = some (.slice va14 n14 vc14) := rA_get HG.out 14 _ rfl
        obtain ⟨k14, hk14⟩ : ∃ k14 : Nat, k14 = k13 + cntL e14 := ⟨_, rfl⟩
        have HK14 := uh hk14
        have kb14 : 1 ≤ k14 ∧ k14 ≤ 4000000000000000000 := by have := HCN.out; have := HK0.out; have := HK1.out; have := HK2.out; have := HK3.out; have := HK4.out; have := HK5.out; have := HK6.out; have := HK7.out; have := HK8.out; have := HK9.out; have := HK10.out; have := HK11.out; have := HK12.out; have := HK13.out; have := HK14.out; omega
        obtain ⟨kl14, ku14⟩ := kb14
        have kn14 : ¬ (k14 : Int) < 0 := by omega
        clear hk14
        go_wp2_with fail
        refine (heldIntS n14 e14 (.slice va14 n14 vc14) k13 x10 t14 R14.out (by omega) (by have := HK14.out; omega)).mono ?_
        rintro e x14 ⟨he, hb14⟩
        rw [← HK14.out] at he
        subst he
        replace HB := uh (blw_trans HB.out hb14)
        replace HG := uh (rA_later HG.out HPR.out hb14)
        replace R15 := uh (R15.out.later hb14)
        replace R16 := uh (R16.out.later hb14)
        replace HPR := uh (Nat.lt_of_lt_of_le HPR.out hb14.size)
        clear gc hbz hb14
        try rw [← HK14.out] at HG
        try rw [← HK14.out] at R15
        try rw [← HK14.out] at R16
        go_upto_region 49 with fail
        have hbz := HPR.out
        obtain ⟨va15, vc15, hva⟩ := R15.out.len0
        subst hva
        have gc : x14.cell? ⟨p, o + q * 18 + 15, none⟩ = some (.slice va15 n15 vc15) := rA_get HG.out 15 _ rfl
        obtain ⟨k15, hk15⟩ : ∃ k15 : Nat, k15 = k14 + cntL e15 := ⟨_, rfl⟩
        have HK15 := uh hk15
        have kb15 : 1 ≤ k15 ∧ k15 ≤ 4000000000000000000 := by have := HCN.out; have := HK0.out; have := HK1.out; have := HK2.out; have := HK3.out; have := HK4.out; have := HK5.out; have := HK6.out; have := HK7.out; have := HK8.out; have := HK9.out; have := HK10.out; have := HK11.out; have := HK12.out; have := HK13.out; have := HK14.out; have := HK15.out; omega
        obtain ⟨kl15, ku15⟩ := kb15
        have kn15 : ¬ (k15 : Int) < 0 := by omega
        clear hk15
        go_wp2_with fail
        refine (heldRecSlotS n15 e15 (.slice va15 n15 vc15) k14 x14 t15 R15.out (by omega) (by have := HK15.out; omega)).mono ?_
        rintro e x15 ⟨he, hb15⟩
        rw [← HK15.out] at he
        subst he
        replace HB := uh (blw_trans HB.out hb15)
        replace HG := uh (rA_later HG.out HPR.out hb15)
        replace R16 := uh (R16.out.later hb15)
        replace HPR := uh (Nat.lt_of_lt_of_le HPR.out hb15.size)
        clear gc hbz hb15
        try rw [← HK15.out] at HG
        try rw [← HK15.out] at R16
        go_upto_region 52 with fail
        have hbz := HPR.out
        obtain ⟨va16, vc16, hva⟩ := R16.out.len0
        subst hva
        have gc : x15.cell? ⟨p, o + q * 18 + 16, none⟩ = some (.slice va16 n16 vc16) := rA_get HG.out 16 _ rfl
        obtain ⟨k16, hk16⟩ : ∃ k16 : Nat, k16 = k15 + cntL e16 := ⟨_, rfl⟩
        have HK16 := uh hk16
        have kb16 : 1 ≤ k16 ∧ k16 ≤ 4000000000000000000 := by have := HCN.out; have := HK0.out; have := HK1.out; have := HK2.out; have := HK3.out; have := HK4.out; have := HK5.out; have := HK6.out; have := HK7.out; have := HK8.out; have := HK9.out; have := HK10.out; have := HK11.out; have := HK12.out; have := HK13.out; have := HK14.out; have := HK15.out; have := HK16.out; omega
        obtain ⟨kl16, ku16⟩ := kb16
        have kn16 : ¬ (k16 : Int) < 0 := by omega
        clear hk16
        go_wp2_with fail
        refine (heldRecAckS n16 e16 (.slice va16 n16 vc16) k15 x15 t16 R16.out (by omega) (by have := HK16.out; omega)).mono ?_
        rintro e x16 ⟨he, hb16⟩
        rw [← HK16.out] at he
        subst he
        replace HB := uh (blw_trans HB.out hb16)
        replace HG := uh (rA_later HG.out HPR.out hb16)
        replace HPR := uh (Nat.lt_of_lt_of_le HPR.out hb16.size)
        clear gc hbz hb16
        try rw [← HK16.out] at HG
        go_upto_region 55 with fail
        have hbz := HPR.out
        have gc : x16.cell? ⟨p, o + q * 18 + 17, none⟩ = some (.int .i64 (k16 : Int)) := rA_get HG.out 17 _ rfl
        go_upto_region 57 with fail
        clear gc hbz
        obtain ⟨k17, hk17⟩ : ∃ k17 : Nat, k17 = k16 + 1 := ⟨_, rfl⟩
        have hkc17 : (k16 : Int) + 1 = (k17 : Int) := by omega
        have HK17 := uh hk17
        have kb17 : 1 ≤ k17 ∧ k17 ≤ 4000000000000000000 := by have := HCN.out; have := HK0.out; have := HK1.out; have := HK2.out; have := HK3.out; have := HK4.out; have := HK5.out; have := HK6.out; have := HK7.out; have := HK8.out; have := HK9.out; have := HK10.out; have := HK11.out; have := HK12.out; have := HK13.out; have := HK14.out; have := HK15.out; have := HK16.out; have := HK17.out; omega
        obtain ⟨kl17, ku17⟩ := kb17
        clear hk17
        have HF : Hid (k17 = k + cntL (es.take ((q + 1) * 18))) := by
          have := HNX.out; simp only [cntL] at this; have := HK0.out; have := HK1.out; have := HK2.out; have := HK3.out; have := HK4.out; have := HK5.out; have := HK6.out; have := HK7.out; have := HK8.out; have := HK9.out; have := HK10.out; have := HK11.out; have := HK12.out; have := HK13.out; have := HK14.out; have := HK15.out; have := HK16.out; have := HK17.out; show _ = _; omega
        go_wp2
        go_roundw
        case rel => exact ⟨q + 1, by omega, by go_num, by rw [← HF.out], HB.out⟩
        case measure => simp [intOf]; omega
      · obtain rfl : q = n := by omega
        have el_ : es.length = q * 18 := HT.out.rows
        rw [← el_, List.take_length]
        go_wp2
        go_ret
        exact ⟨rfl, HB.out⟩
set_option maxRecDepth 8000 in
set_option maxHeartbeats 8000000 in
theorem heldRecWorld (ds : List Dt) (cs : List Value) (k : Nat) (w : World) (ht : Typ shRecWorld ds) (h : Raw w shRecWorld (mkT k ds) cs) (h1 : 1 ≤ k) (hk : k + cntT ds ≤ 4000000000000000000) :
    Calls Tryz.prog 33 #[.agg cs.toArray, .int .i64 (k : Int)] w fun e w' => e = .returned (.int .i64 ((k + cntT ds : Nat) : Int)) ∧ Below w.heap.size w w' := by
  obtain ⟨n0, e0, n1, e1, n2, e2, rfl, t0, t1, t2⟩ := segTypRecWorld ht
  simp only [mkT] at h
  obtain ⟨v0, x0, rfl, r0, h_0⟩ := h.c_r
  obtain ⟨v1, x1, rfl, r1, h_1⟩ := h_0.c_r
  obtain ⟨v2, x2, rfl, r2, h_2⟩ := h_1.c_r
  obtain rfl := h_2.c_n
  obtain ⟨cs, hcs⟩ : ∃ cs : List Value, cs = v0 :: v1 :: v2 :: [] := ⟨_, rfl⟩
  rw [← hcs]
  have HCS := uh hcs
  simp only [cntT] at hk ⊢
  obtain ⟨wa, hwa⟩ : ∃ wa, wa = w.alloc (.cells cs.toArray 35) := ⟨_, rfl⟩
  have HB : Hid (Below w.heap.size w wa) := by show Below _ _ _; rw [hwa]; exact blw_alloc (Below.refl _ _) _
  have HX : Hid (LBox wa w.heap.size cs) := by show LBox _ _ _; rw [hwa]; exact LBox.new w cs.toArray _ _ rfl
  have R0 := uh (r0.later HB.out)
  have R1 := uh (r1.later HB.out)
  have R2 := uh (r2.later HB.out)
  have HKK := uh hk
  clear hcs hk r0 r1 r2
  go_enter Tryz.func33, Tryz.ntmps33
  go_upto_region 1 with fail
  rw [← hwa]
  clear hwa
  have hbz := HX.out.lt
  have hbx := boxRecWorld  (by have := HX.out.at_; rw [HCS.out] at this; exact this)
  have gc := hbx.1
  clear hbx
  obtain ⟨k0, hk0⟩ : ∃ k0 : Nat, k0 = k + cntL e0 := ⟨_, rfl⟩
  have HK0 := uh hk0
  have kb0 : 1 ≤ k0 ∧ k0 ≤ 4000000000000000000 := by have := HKK.out; have := HK0.out; omega
  obtain ⟨kl0, ku0⟩ := kb0
  clear hk0
  have kn0 : ¬ (k0 : Int) < 0 := by omega
  obtain ⟨va0, vc0, hva⟩ := R0.out.len0
  subst hva
  go_wp2_with fail
  refine (heldRecorderS n0 e0 (.slice va0 n0 vc0) k wa t0 (by have := R0.out; simpa only [Nat.add_zero] using this) (by omega) (by have := HK0.out; omega)).mono ?_
  rintro e x0 ⟨he, hb0⟩
  rw [← HK0.out] at he
  subst he
  replace HX := uh (HX.out.later hb0)
  replace HB := uh (blw_trans HB.out hb0)
  replace R1 := uh (R1.out.later hb0)
  replace R2 := uh (R2.out.later hb0)
  clear gc hbz hb0
  have hbz := HX.out.lt
  have hbx := boxRecWorld  (by have := HX.out.at_; rw [HCS.out] at this; exact this)
  have gc := hbx.2.1
  clear hbx
  obtain ⟨k1, hk1⟩ : ∃ k1 : Nat, k1 = k0 + cntL e1 := ⟨_, rfl⟩
  have HK1 := uh hk1
  have kb1 : 1 ≤ k1 ∧ k1 ≤ 4000000000000000000 := by have := HKK.out; have := HK0.out; have := HK1.out; omega
  obtain ⟨kl1, ku1⟩ := kb1
  clear hk1
  have kn1 : ¬ (k1 : Int) < 0 := by omega
  obtain ⟨va1, vc1, hva⟩ := R1.out.len0
  subst hva
  go_wp2_with fail
  refine (heldRecMessageS n1 e1 (.slice va1 n1 vc1) k0 x0 t1 (by have := R1.out; simpa only [HK0.out, Nat.add_zero] using this) (by omega) (by have := HK1.out; omega)).mono ?_
  rintro e x1 ⟨he, hb1⟩
  rw [← HK1.out] at he
  subst he
  replace HX := uh (HX.out.later hb1)
  replace HB := uh (blw_trans HB.out hb1)
  replace R2 := uh (R2.out.later hb1)
  clear gc hbz hb1
  have hbz := HX.out.lt
  have hbx := boxRecWorld  (by have := HX.out.at_; rw [HCS.out] at this; exact this)
  have gc := hbx.2.2
  clear hbx
  obtain ⟨k2, hk2⟩ : ∃ k2 : Nat, k2 = k1 + cntL e2 := ⟨_, rfl⟩
  have HK2 := uh hk2
  have kb2 : 1 ≤ k2 ∧ k2 ≤ 4000000000000000000 := by have := HKK.out; have := HK0.out; have := HK1.out; have := HK2.out; omega
  obtain ⟨kl2, ku2⟩ := kb2
  clear hk2
  have kn2 : ¬ (k2 : Int) < 0 := by omega
  obtain ⟨va2, vc2, hva⟩ := R2.out.len0
  subst hva
  go_wp2_with fail
  refine (heldRecFixS n2 e2 (.slice va2 n2 vc2) k1 x1 t2 (by have := R2.out; simpa only [HK0.out, HK1.out, Nat.add_zero] using this) (by omega) (by have := HK2.out; omega)).mono ?_
  rintro e x2 ⟨he, hb2⟩
  rw [← HK2.out] at he
  subst he
  replace HX := uh (HX.out.later hb2)
  replace HB := uh (blw_trans HB.out hb2)
  clear gc hbz hb2
  go_wp2
  go_ret
  exact ⟨Pl.ret_int (by have := HKK.out; have := HK0.out; have := HK1.out; have := HK2.out; omega), HB.out⟩
end Go.Proofs.YtfkkohfjkofgnaaGreat
