/-
  What marks worlds of the hall bear.
-/
import Derived.Test.YtfkkohfjkofgnaaGreatHNSh
import Derived.Test.YtfkkohfjkofgnaaGreatKHd
namespace Go.Proofs.YtfkkohfjkofgnaaGreat
open Go.RowKit Go.Deep

set_option maxRecDepth 8000 in
set_option maxHeartbeats 8000000 in
theorem heldGateTeamS (n : Nat) (es : List Dt) (v : Value) (k : Nat) (w : World) (ht : Typ (reps n shGateTeam) es) (h : Raw w [.row 86 shGateTeam] [.row n (mkL k es)] [v]) (h1 : 1 ≤ k) (hk : k + cntL es ≤ 4000000000000000000) :
    Calls Tryz.prog 63 #[v, .int .i64 (k : Int)] w fun e w' => e = .returned (.int .i64 ((k + cntL es : Nat) : Int)) ∧ Below w.heap.size w w' := by
  have HT := uh ht
  clear ht
  rcases h.slice with ⟨rfl, hes, a, c, rfl⟩ | ⟨p, o, c, rfl, hp, hn, vs, hr, hR⟩
  · have he0 : es = [] := List.eq_nil_of_length_eq_zero (by have := HT.out.rows; omega)
    subst he0
    go_enter Tryz.func63, Tryz.ntmps63
    go_wp2
    refine wp_loop_rounds 1 ?_
    rw [rounds_succ]
    go_wp2
    go_ret
    exact ⟨by simp [cntL], Below.refl _ _⟩
  · have HR := uh hR; have HRG := uh hr
    have HP := uh hp
    have hn1 : n ≤ 9223372036854775807 := hn.1
    clear hr hR h hn hp
    go_enter Tryz.func63, Tryz.ntmps63
    go_wp2
    go_loopw [1, 5] (fun kk i wr => ∃ q : Nat, q ≤ n ∧ i = .int .i64 (q : Int) ∧ kk = .int .i64 ((k + cntL (es.take (q * 2)) : Nat) : Int) ∧ Below w.heap.size w wr) (fun _ i _ => n - (intOf i).toNat)
    case atStart => exact ⟨0, Nat.zero_le _, rfl, by simp [cntL], Below.refl _ _⟩
    case round =>
      obtain ⟨q, hq, rfl, rfl, hM⟩ := hrel
      have HB := uh hM
      clear hM
      by_cases hlt : q < n
      · obtain ⟨ve, hE, hrng⟩ := (HR.out.later HB.out).el hlt (rA_later HRG.out HP.out HB.out)
        have hE1 : Raw wr shGateTeam (el 2 q (mkL k es)) ve := hE
        rw [show el 2 q (mkL k es) = mkL (k + cntL (es.take (q * 2))) (el 2 q es) from mk_el (sh := shGateTeam) HT.out hlt] at hE1
        obtain ⟨d, hd⟩ : ∃ d, d = el 2 q es := ⟨_, rfl⟩
        have hte : Typ shGateTeam d := by rw [hd]; exact HT.out.el hlt
        have hcn : k + cntL (es.take (q * 2)) + cntL d ≤ 4000000000000000000 := by rw [hd]; have := @cnt_el q 2 es; omega
        have hnx : cntL (es.take ((q + 1) * 2)) = cntL (es.take (q * 2)) + cntL d := by rw [hd]; exact cnt_next (sh := shGateTeam) HT.out hlt
        rw [← hd] at hE1
        clear hE hd
        obtain ⟨kq, hkq⟩ : ∃ kq : Nat, kq = k + cntL (es.take (q * 2)) := ⟨_, rfl⟩
        rw [← hkq] at hcn hE1 ⊢
        have HNX : Hid (k + cntL (es.take ((q + 1) * 2)) = kq + cntL d) := by show _ = _; omega
        obtain ⟨a0, a1, rfl⟩ := typGateTeam hte
        simp only [mkL] at hE1
        obtain rfl := rawGateTeam hE1
        have hkq1 : 1 ≤ kq := by omega
        have hkq2 : kq ≤ 4000000000000000000 := by omega
        simp only [cntL] at hcn
        have HCN := uh hcn
        have HPR : Hid (p < wr.heap.size) := Nat.lt_of_lt_of_le HP.out HB.out.size
        have HG : Hid (wr.rangeAt p (o + q * 2) _) := hrng
        clear hcn hE1 hte hkq hnx hrng
        have hm0 : (0 : Int) ≤ (q : Int) := by omega
        have hm3 : (q : Int) < (n : Int) := by omega
        have hbz := HPR.out
        have gc : wr.cell? ⟨p, o + q * 2, none⟩ = some (.string (mt kq)) := rA_get HG.out 0 _ rfl
        have hNE := upst_some wr
        have hbz2 : ∀ px : UPst wr, p < px.W.heap.size := fun px => px.size hbz
        have S1 : ∀ px : UPst wr, px.W.cell? ⟨p, o + q * 2, none⟩ = some (.string (mt kq)) := fun px => px.cell gc hbz
        go_upto_region 4 with fail
        clear gc hbz
        refine uregion wr (Below.refl _ _) (by kernel_rfl) (by kernel_rfl) ?_
        repeat (first
          | go_big_quiet_skip
          | (go_big_quiet_want; go_big_quiet_op; first | go_big_quiet_on | (apply Exists.intro; refine ⟨fun px => ?_, ?_⟩; (focus ((go_at_call 58; refine (markText kq _ (by omega) (by omega)).mono ?_; rintro e w' ⟨he, hb⟩; exact ⟨he, ⟨w', blw_trans px.ok hb⟩, rfl⟩))); go_big_quiet_on)))
        refine wpQuiet_nil ?_
        intro _ hw'
        obtain ⟨z0, hw''⟩ := hw'
        subst hw''
        replace HB := uh (blw_trans HB.out z0.ok)
        replace HG := uh (rA_later HG.out HPR.out z0.ok)
        replace HPR := uh (Nat.lt_of_lt_of_le HPR.out z0.ok.size)
        clear S1 hbz2 hNE
        obtain ⟨k0, hk0⟩ : ∃ k0 : Nat, k0 = kq + 1 := ⟨_, rfl⟩
        have hkc0 : (kq : Int) + 1 = (k0 : Int) := by omega
        have HK0 := uh hk0
        have kb0 : 1 ≤ k0 ∧ k0 ≤ 4000000000000000000 := by have := HCN.out; have := HK0.out; omega
        obtain ⟨kl0, ku0⟩ := kb0
        try rw [← hk0] at HG
        clear hk0
        go_upto_region 7 with fail
        clear hkc0
        have hbz := HPR.out
        have gc : z0.W.cell? ⟨p, o + q * 2 + 1, none⟩ = some (.string (mt k0)) := rA_get HG.out 1 _ rfl
        have hNE := upst_some z0.W
        have hbz2 : ∀ px : UPst z0.W, p < px.W.heap.size := fun px => px.size hbz
        have S1 : ∀ px : UPst z0.W, px.W.cell? ⟨p, o + q * 2 + 1, none⟩ = some (.string (mt k0)) := fun px => px.cell gc hbz
        go_upto_region 7 with fail
        clear gc hbz
        refine uregion z0.W (Below.refl _ _) (by kernel_rfl) (by kernel_rfl) ?_
        repeat (first
          | go_big_quiet_skip
          | (go_big_quiet_want; go_big_quiet_op; first | go_big_quiet_on | (apply Exists.intro; refine ⟨fun px => ?_, ?_⟩; (focus ((go_at_call 58; refine (markText k0 _ (by omega) (by omega)).mono ?_; rintro e w' ⟨he, hb⟩; exact ⟨he, ⟨w', blw_trans px.ok hb⟩, rfl⟩))); go_big_quiet_on)))
        refine wpQuiet_nil ?_
        intro _ hw'
        obtain ⟨z1, hw''⟩ := hw'
        subst hw''
        replace HB := uh (blw_trans HB.out z1.ok)
        replace HG := uh (rA_later HG.out HPR.out z1.ok)
        replace HPR := uh (Nat.lt_of_lt_of_le HPR.out z1.ok.size)
        clear S1 hbz2 hNE
        obtain ⟨k1, hk1⟩ : ∃ k1 : Nat, k1 = k0 + 1 := ⟨_, rfl⟩
        have hkc1 : (k0 : Int) + 1 = (k1 : Int) := by omega
        have HK1 := uh hk1
        have kb1 : 1 ≤ k1 ∧ k1 ≤ 4000000000000000000 := by have := HCN.out; have := HK0.out; have := HK1.out; omega
        obtain ⟨kl1, ku1⟩ := kb1
        clear hk1
        have HF : Hid (k1 = k + cntL (es.take ((q + 1) * 2))) := by
          have := HNX.out; simp only [cntL] at this; have := HK0.out; have := HK1.out; show _ = _; omega
        go_wp2
        go_roundw
        case rel => exact ⟨q + 1, by omega, by go_num, by rw [← HF.out], HB.out⟩
        case measure => simp [intOf]; omega
      · obtain rfl : q = n := by omega
        have el_ : es.length = q * 2 := HT.out.rows
        rw [← el_, List.take_length]
        go_wp2
        go_ret
        exact ⟨rfl, HB.out⟩
set_option maxRecDepth 8000 in
set_option maxHeartbeats 8000000 in
theorem heldGateGrantS (n : Nat) (es : List Dt) (v : Value) (k : Nat) (w : World) (ht : Typ (reps n shGateGrant) es) (h : Raw w [.row 74 shGateGrant] [.row n (mkL k es)] [v]) (h1 : 1 ≤ k) (hk : k + cntL es ≤ 4000000000000000000) :
    Calls Tryz.prog 64 #[v, .int .i64 (k : Int)] w fun e w' => e = .returned (.int .i64 ((k + cntL es : Nat) : Int)) ∧ Below w.heap.size w w' := by
  have HT := uh ht
  clear ht
  rcases h.slice with ⟨rfl, hes, a, c, rfl⟩ | ⟨p, o, c, rfl, hp, hn, vs, hr, hR⟩
  · have he0 : es = [] := List.eq_nil_of_length_eq_zero (by have := HT.out.rows; omega)
    subst he0
    go_enter Tryz.func64, Tryz.ntmps64
    go_wp2
    refine wp_loop_rounds 1 ?_
    rw [rounds_succ]
    go_wp2
    go_ret
    exact ⟨by simp [cntL], Below.refl _ _⟩
  · have HR := uh hR; have HRG := uh hr
    have HP := uh hp
    have hn1 : n ≤ 9223372036854775807 := hn.1
    clear hr hR h hn hp
    go_enter Tryz.func64, Tryz.ntmps64
    go_wp2
    go_loopw [1, 5] (fun kk i wr => ∃ q : Nat, q ≤ n ∧ i = .int .i64 (q : Int) ∧ kk = .int .i64 ((k + cntL (es.take (q * 7)) : Nat) : Int) ∧ Below w.heap.size w wr) (fun _ i _ => n - (intOf i).toNat)
    case atStart => exact ⟨0, Nat.zero_le _, rfl, by simp [cntL], Below.refl _ _⟩
    case round =>
      obtain ⟨q, hq, rfl, rfl, hM⟩ := hrel
      have HB := uh hM
      clear hM
      by_cases hlt : q < n
      · obtain ⟨ve, hE, hrng⟩ := (HR.out.later HB.out).el hlt (rA_later HRG.out HP.out HB.out)
        have hE1 : Raw wr shGateGrant (el 7 q (mkL k es)) ve := hE
        rw [show el 7 q (mkL k es) = mkL (k + cntL (es.take (q * 7))) (el 7 q es) from mk_el (sh := shGateGrant) HT.out hlt] at hE1
        obtain ⟨d, hd⟩ : ∃ d, d = el 7 q es := ⟨_, rfl⟩
        have hte : Typ shGateGrant d := by rw [hd]; exact HT.out.el hlt
        have hcn : k + cntL (es.take (q * 7)) + cntL d ≤ 4000000000000000000 := by rw [hd]; have := @cnt_el q 7 es; omega
        have hnx : cntL (es.take ((q + 1) * 7)) = cntL (es.take (q * 7)) + cntL d := by rw [hd]; exact cnt_next (sh := shGateGrant) HT.out hlt
        rw [← hd] at hE1
        clear hE hd
        obtain ⟨kq, hkq⟩ : ∃ kq : Nat, kq = k + cntL (es.take (q * 7)) := ⟨_, rfl⟩
        rw [← hkq] at hcn hE1 ⊢
        have HNX : Hid (k + cntL (es.take ((q + 1) * 7)) = kq + cntL d) := by show _ = _; omega
        obtain ⟨a0, a1, a2, n3, e3, a4, a5, a6, rfl, t3⟩ := typGateGrant hte
        simp only [mkL] at hE1
        obtain ⟨v3, rfl, r3⟩ := rawGateGrant hE1
        have hkq1 : 1 ≤ kq := by omega
        have hkq2 : kq ≤ 4000000000000000000 := by omega
        simp only [cntL] at hcn
        have HCN := uh hcn
        have HPR : Hid (p < wr.heap.size) := Nat.lt_of_lt_of_le HP.out HB.out.size
        have HG : Hid (wr.rangeAt p (o + q * 7) _) := hrng
        have R3 := uh r3
        clear hcn hE1 hte hkq hnx hrng r3
        have hm0 : (0 : Int) ≤ (q : Int) := by omega
        have hm3 : (q : Int) < (n : Int) := by omega
        have hbz := HPR.out
        have gc : wr.cell? ⟨p, o + q * 7, none⟩ = some (.int .i64 (kq : Int)) := rA_get HG.out 0 _ rfl
        go_upto_region 6 with fail
        clear gc hbz
        obtain ⟨k0, hk0⟩ : ∃ k0 : Nat, k0 = kq + 1 := ⟨_, rfl⟩
        have hkc0 : (kq : Int) + 1 = (k0 : Int) := by omega
        have HK0 := uh hk0
        have kb0 : 1 ≤ k0 ∧ k0 ≤ 4000000000000000000 := by have := HCN.out; have := HK0.out; omega
        obtain ⟨kl0, ku0⟩ := kb0
        try rw [← hk0] at HG
        try rw [← hk0] at R3
        clear hk0
        go_upto_region 7 with fail
        clear hkc0
        have hbz := HPR.out
        have gc : wr.cell? ⟨p, o + q * 7 + 1, none⟩ = some (.string (mt k0)) := rA_get HG.out 1 _ rfl
        have hNE := upst_some wr
        have hbz2 : ∀ px : UPst wr, p < px.W.heap.size := fun px => px.size hbz
        have S1 : ∀ px : UPst wr, px.W.cell? ⟨p, o + q * 7 + 1, none⟩ = some (.string (mt k0)) := fun px => px.cell gc hbz
        go_upto_region 7 with fail
        clear gc hbz
        refine uregion wr (Below.refl _ _) (by kernel_rfl) (by kernel_rfl) ?_
        repeat (first
          | go_big_quiet_skip
          | (go_big_quiet_want; go_big_quiet_op; first | go_big_quiet_on | (apply Exists.intro; refine ⟨fun px => ?_, ?_⟩; (focus ((go_at_call 58; refine (markText k0 _ (by omega) (by omega)).mono ?_; rintro e w' ⟨he, hb⟩; exact ⟨he, ⟨w', blw_trans px.ok hb⟩, rfl⟩))); go_big_quiet_on)))
        refine wpQuiet_nil ?_
        intro _ hw'
        obtain ⟨z1, hw''⟩ := hw'
        subst hw''
        replace HB := uh (blw_trans HB.out z1.ok)
        replace HG := uh (rA_later HG.out HPR.out z1.ok)
        replace R3 := uh (R3.out.later z1.ok)
        replace HPR := uh (Nat.lt_of_lt_of_le HPR.out z1.ok.size)
        clear S1 hbz2 hNE
        obtain ⟨k1, hk1⟩ : ∃ k1 : Nat, k1 = k0 + 1 := ⟨_, rfl⟩
        have hkc1 : (k0 : Int) + 1 = (k1 : Int) := by omega
        have HK1 := uh hk1
        have kb1 : 1 ≤ k1 ∧ k1 ≤ 4000000000000000000 := by have := HCN.out; have := HK0.out; have := HK1.out; omega
        obtain ⟨kl1, ku1⟩ := kb1
        try rw [← hk1] at HG
        try rw [← hk1] at R3
        clear hk1
        go_upto_region 10 with fail
        clear hkc1
        have hbz := HPR.out
        have gc : z1.W.cell? ⟨p, o + q * 7 + 2, none⟩ = some (.string (mt k1)) := rA_get HG.out 2 _ rfl
        have hNE := upst_some z1.W
        have hbz2 : ∀ px : UPst z1.W, p < px.W.heap.size := fun px => px.size hbz
        have S1 : ∀ px : UPst z1.W, px.W.cell? ⟨p, o + q * 7 + 2, none⟩ = some (.string (mt k1)) := fun px => px.cell gc hbz
        go_upto_region 10 with fail
        clear gc hbz
        refine uregion z1.W (Below.refl _ _) (by kernel_rfl) (by kernel_rfl) ?_
        repeat (first
          | go_big_quiet_skip
          | (go_big_quiet_want; go_big_quiet_op; first | go_big_quiet_on | (apply Exists.intro; refine ⟨fun px => ?_, ?_⟩; (focus ((go_at_call 58; refine (markText k1 _ (by omega) (by omega)).mono ?_; rintro e w' ⟨he, hb⟩; exact ⟨he, ⟨w', blw_trans px.ok hb⟩, rfl⟩))); go_big_quiet_on)))
        refine wpQuiet_nil ?_
        intro _ hw'
        obtain ⟨z2, hw''⟩ := hw'
        subst hw''
        replace HB := uh (blw_trans HB.out z2.ok)
        replace HG := uh (rA_later HG.out HPR.out z2.ok)
        replace R3 := uh (R3.out.later z2.ok)
        replace HPR := uh (Nat.lt_of_lt_of_le HPR.out z2.ok.size)
        clear S1 hbz2 hNE
        obtain ⟨k2, hk2⟩ : ∃ k2 : Nat, k2 = k1 + 1 := ⟨_, rfl⟩
        have hkc2 : (k1 : Int) + 1 = (k2 : Int) := by omega
        have HK2 := uh hk2
        have kb2 : 1 ≤ k2 ∧ k2 ≤ 4000000000000000000 := by have := HCN.out; have := HK0.out; have := HK1.out; have := HK2.out; omega
        obtain ⟨kl2, ku2⟩ := kb2
        try rw [← hk2] at HG
        try rw [← hk2] at R3
        clear hk2
        go_upto_region 13 with fail
        clear hkc2
        have hbz := HPR.out
        obtain ⟨va3, vc3, hva⟩ := R3.out.len0
        subst hva
        have gc : z2.W.cell? ⟨p, o + q * 7 + 3, none⟩ = some (.slice va3 n3 vc3) := rA_get HG.out 3 _ rfl
        obtain ⟨k3, hk3⟩ : ∃ k3 : Nat, k3 = k2 + cntL e3 := ⟨_, rfl⟩
        have HK3 := uh hk3
        have kb3 : 1 ≤ k3 ∧ k3 ≤ 4000000000000000000 := by have := HCN.out; have := HK0.out; have := HK1.out; have := HK2.out; have := HK3.out; omega
        obtain ⟨kl3, ku3⟩ := kb3
        have kn3 : ¬ (k3 : Int) < 0 := by omega
        clear hk3
        go_wp2_with fail
        refine (heldIntS n3 e3 (.slice va3 n3 vc3) k2 z2.W t3 R3.out (by omega) (by have := HK3.out; omega)).mono ?_
        rintro e x3 ⟨he, hb3⟩
        rw [← HK3.out] at he
        subst he
        replace HB := uh (blw_trans HB.out hb3)
        replace HG := uh (rA_later HG.out HPR.out hb3)
        replace HPR := uh (Nat.lt_of_lt_of_le HPR.out hb3.size)
        clear gc hbz hb3
        try rw [← HK3.out] at HG
        go_upto_region 16 with fail
        have hbz := HPR.out
        have gc : x3.cell? ⟨p, o + q * 7 + 4, none⟩ = some (.string (mt k3)) := rA_get HG.out 4 _ rfl
        have hNE := upst_some x3
        have hbz2 : ∀ px : UPst x3, p < px.W.heap.size := fun px => px.size hbz
        have S1 : ∀ px : UPst x3, px.W.cell? ⟨p, o + q * 7 + 4, none⟩ = some (.string (mt k3)) := fun px => px.cell gc hbz
        go_upto_region 16 with fail
        clear gc hbz
        refine uregion x3 (Below.refl _ _) (by kernel_rfl) (by kernel_rfl) ?_
        repeat (first
          | go_big_quiet_skip
          | (go_big_quiet_want; go_big_quiet_op; first | go_big_quiet_on | (apply Exists.intro; refine ⟨fun px => ?_, ?_⟩; (focus ((go_at_call 58; refine (markText k3 _ (by omega) (by omega)).mono ?_; rintro e w' ⟨he, hb⟩; exact ⟨he, ⟨w', blw_trans px.ok hb⟩, rfl⟩))); go_big_quiet_on)))
        refine wpQuiet_nil ?_
        intro _ hw'
        obtain ⟨z4, hw''⟩ := hw'
        subst hw''
        replace HB := uh (blw_trans HB.out z4.ok)
        replace HG := uh (rA_later HG.out HPR.out z4.ok)
        replace HPR := uh (Nat.lt_of_lt_of_le HPR.out z4.ok.size)
        clear S1 hbz2 hNE
        obtain ⟨k4, hk4⟩ : ∃ k4 : Nat, k4 = k3 + 1 := ⟨_, rfl⟩
        have hkc4 : (k3 : Int) + 1 = (k4 : Int) := by omega
        have HK4 := uh hk4
        have kb4 : 1 ≤ k4 ∧ k4 ≤ 4000000000000000000 := by have := HCN.out; have := HK0.out; have := HK1.out; have := HK2.out; have := HK3.out; have := HK4.out; omega
        obtain ⟨kl4, ku4⟩ := kb4
        try rw [← hk4] at HG
        clear hk4
        go_upto_region 19 with fail
        clear hkc4
        have hbz := HPR.out
        have gc : z4.W.cell? ⟨p, o + q * 7 + 5, none⟩ = some (.string (mt k4)) := rA_get HG.out 5 _ rfl
        have hNE := upst_some z4.W
        have hbz2 : ∀ px : UPst z4.W, p < px.W.heap.size := fun px => px.size hbz
        have S1 : ∀ px : UPst z4.W, px.W.cell? ⟨p, o + q * 7 + 5, none⟩ = some (.string (mt k4)) := fun px => px.cell gc hbz
        go_upto_region 19 with fail
        clear gc hbz
        refine uregion z4.W (Below.refl _ _) (by kernel_rfl) (by kernel_rfl) ?_
        repeat (first
          | go_big_quiet_skip
          | (go_big_quiet_want; go_big_quiet_op; first | go_big_quiet_on | (apply Exists.intro; refine ⟨fun px => ?_, ?_⟩; (focus ((go_at_call 58; refine (markText k4 _ (by omega) (by omega)).mono ?_; rintro e w' ⟨he, hb⟩; exact ⟨he, ⟨w', blw_trans px.ok hb⟩, rfl⟩))); go_big_quiet_on)))
        refine wpQuiet_nil ?_
        intro _ hw'
        obtain ⟨z5, hw''⟩ := hw'
        subst hw''
        replace HB := uh (blw_trans HB.out z5.ok)
        replace HG := uh (rA_later HG.out HPR.out z5.ok)
        replace HPR := uh (Nat.lt_of_lt_of_le HPR.out z5.ok.size)
        clear S1 hbz2 hNE
        obtain ⟨k5, hk5⟩ : ∃ k5 : Nat, k5 = k4 + 1 := ⟨_, rfl⟩
        have hkc5 : (k4 : Int) + 1 = (k5 : Int) := by omega
        have HK5 := uh hk5
        have kb5 : 1 ≤ k5 ∧ k5 ≤ 4000000000000000000 := by have := HCN.out; have := HK0.out; have := HK1.out; have := HK2.out; have := HK3.out; have := HK4.out; have := HK5.out; omega
        obtain ⟨kl5, ku5⟩ := kb5
        try rw [← hk5] at HG
        clear hk5
        go_upto_region 22 with fail
        clear hkc5
        have hbz := HPR.out
        have gc : z5.W.cell? ⟨p, o + q * 7 + 6, none⟩ = some (.string (mt k5)) := rA_get HG.out 6 _ rfl
        have hNE := upst_some z5.W
        have hbz2 : ∀ px : UPst z5.W, p < px.W.heap.size := fun px => px.size hbz
        have S1 : ∀ px : UPst z5.W, px.W.cell? ⟨p, o + q * 7 + 6, none⟩ = some (.string (mt k5)) := fun px => px.cell gc hbz
        go_upto_region 22 with fail
        clear gc hbz
        refine uregion z5.W (Below.refl _ _) (by kernel_rfl) (by kernel_rfl) ?_
        repeat (first
          | go_big_quiet_skip
          | (go_big_quiet_want; go_big_quiet_op; first | go_big_quiet_on | (apply Exists.intro; refine ⟨fun px => ?_, ?_⟩; (focus ((go_at_call 58; refine (markText k5 _ (by omega) (by omega)).mono ?_; rintro e w' ⟨he, hb⟩; exact ⟨he, ⟨w', blw_trans px.ok hb⟩, rfl⟩))); go_big_quiet_on)))
        refine wpQuiet_nil ?_
        intro _ hw'
        obtain ⟨z6, hw''⟩ := hw'
        subst hw''
        replace HB := uh (blw_trans HB.out z6.ok)
        replace HG := uh (rA_later HG.out HPR.out z6.ok)
        replace HPR := uh (Nat.lt_of_lt_of_le HPR.out z6.ok.size)
        clear S1 hbz2 hNE
        obtain ⟨k6, hk6⟩ : ∃ k6 : Nat, k6 = k5 + 1 := ⟨_, rfl⟩
        have hkc6 : (k5 : Int) + 1 = (k6 : Int) := by omega
        have HK6 := uh hk6
        have kb6 : 1 ≤ k6 ∧ k6 ≤ 4000000000000000000 := by have := HCN.out; have := HK0.out; have := HK1.out; have := HK2.out; have := HK3.out; have := HK4.out; have := HK5.out; have := HK6.out; omega
        obtain ⟨kl6, ku6⟩ := kb6
        clear hk6
        have HF : Hid (k6 = k + cntL (es.take ((q + 1) * 7))) := by
          have := HNX.out; simp only [cntL] at this; have := HK0.out; have := HK1.out; have := HK2.out; have := HK3.out; have := HK4.out; have := HK5.out; have := HK6.out; show _ = _; omega
        go_wp2
        go_roundw
        case rel => exact ⟨q + 1, by omega, by go_num, by rw [← HF.out], HB.out⟩
        case measure => simp [intOf]; omega
      · obtain rfl : q = n := by omega
        have el_ : es.length = q * 7 := HT.out.rows
        rw [← el_, List.take_length]
        go_wp2
        go_ret
        exact ⟨rfl, HB.out⟩
set_option maxRecDepth 8000 in
set_option maxHeartbeats 8000000 in
theorem heldHallHouse (ds : List Dt) (cs : List Value) (k : Nat) (w : World) (ht : Typ shHallHouse ds) (h : Raw w shHallHouse (mkT k ds) cs) (h1 : 1 ≤ k) (hk : k + cntT ds ≤ 4000000000000000000) :
    Calls Tryz.prog 32 #[.agg cs.toArray, .int .i64 (k : Int)] w fun e w' => e = .returned (.int .i64 ((k + cntT ds : Nat) : Int)) ∧ Below w.heap.size w w' := by
  obtain ⟨n0, e0, n1, e1, rfl, t0, t1⟩ := segTypHallHouse ht
  simp only [mkT] at h
  obtain ⟨v0, x0, rfl, r0, h_0⟩ := h.c_r
  obtain ⟨v1, x1, rfl, r1, h_1⟩ := h_0.c_r
  obtain rfl := h_1.c_n
  obtain ⟨cs, hcs⟩ : ∃ cs : List Value, cs = v0 :: v1 :: [] := ⟨_, rfl⟩
  rw [← hcs]
  have HCS := uh hcs
  simp only [cntT] at hk ⊢
  obtain ⟨wa, hwa⟩ : ∃ wa, wa = w.alloc (.cells cs.toArray 30) := ⟨_, rfl⟩
  have HB : Hid (Below w.heap.size w wa) := by show Below _ _ _; rw [hwa]; exact blw_alloc (Below.refl _ _) _
  have HX : Hid (LBox wa w.heap.size cs) := by show LBox _ _ _; rw [hwa]; exact LBox.new w cs.toArray _ _ rfl
  have R0 := uh (r0.later HB.out)
  have R1 := uh (r1.later HB.out)
  have HKK := uh hk
  clear hcs hk r0 r1
  go_enter Tryz.func32, Tryz.ntmps32
  go_upto_region 1 with fail
  rw [← hwa]
  clear hwa
  have hbz := HX.out.lt
  have hbx := boxHallHouse  (by have := HX.out.at_; rw [HCS.out] at this; exact this)
  have gc := hbx.1
  clear hbx
  obtain ⟨k0, hk0⟩ : ∃ k0 : Nat, k0 = k + cntL e0 := ⟨_, rfl⟩
  have HK0 := uh hk0
  have kb0 : 1 ≤ k0 ∧ k0 ≤ 4000000000000000000 := by have := HKK.out; have := HK0.out; omega
  obtain ⟨kl0, ku0⟩ := kb0
  clear hk0
  have kn0 : ¬ (k0 : Int) < 0 := by omega
  obtain ⟨va0, vc0, hva⟩ := R0.out.len0
  subst hva
  go_wp2_with fail
  refine (heldGateTeamS n0 e0 (.slice va0 n0 vc0) k wa t0 (by have := R0.out; simpa only [Nat.add_zero] using this) (by omega) (by have := HK0.out; omega)).mono ?_
  rintro e x0 ⟨he, hb0⟩
  rw [← HK0.out] at he
  subst he
  replace HX := uh (HX.out.later hb0)
  replace HB := uh (blw_trans HB.out hb0)
  replace R1 := uh (R1.out.later hb0)
  clear gc hbz hb0
  have hbz := HX.out.lt
  have hbx := boxHallHouse  (by have := HX.out.at_; rw [HCS.out] at this; exact this)
  have gc := hbx.2
  clear hbx
  obtain ⟨k1, hk1⟩ : ∃ k1 : Nat, k1 = k0 + cntL e1 := ⟨_, rfl⟩
  have HK1 := uh hk1
  have kb1 : 1 ≤ k1 ∧ k1 ≤ 4000000000000000000 := by have := HKK.out; have := HK0.out; have := HK1.out; omega
  obtain ⟨kl1, ku1⟩ := kb1
  clear hk1
  have kn1 : ¬ (k1 : Int) < 0 := by omega
  obtain ⟨va1, vc1, hva⟩ := R1.out.len0
  subst hva
  go_wp2_with fail
  refine (heldGateGrantS n1 e1 (.slice va1 n1 vc1) k0 x0 t1 (by have := R1.out; simpa only [HK0.out, Nat.add_zero] using this) (by omega) (by have := HK1.out; omega)).mono ?_
  rintro e x1 ⟨he, hb1⟩
  rw [← HK1.out] at he
  subst he
  replace HX := uh (HX.out.later hb1)
  replace HB := uh (blw_trans HB.out hb1)
  clear gc hbz hb1
  go_wp2
  go_ret
  exact ⟨Pl.ret_int (by have := HKK.out; have := HK0.out; have := HK1.out; omega), HB.out⟩
set_option maxRecDepth 8000 in
set_option maxHeartbeats 8000000 in
theorem heldHallAskedS (n : Nat) (es : List Dt) (v : Value) (k : Nat) (w : World) (ht : Typ (reps n shHallAsked) es) (h : Raw w [.row 98 shHallAsked] [.row n (mkL k es)] [v]) (h1 : 1 ≤ k) (hk : k + cntL es ≤ 4000000000000000000) :
    Calls Tryz.prog 34 #[v, .int .i64 (k : Int)] w fun e w' => e = .returned (.int .i64 ((k + cntL es : Nat) : Int)) ∧ Below w.heap.size w w' := by
  have HT := uh ht
  clear ht
  rcases h.slice with ⟨rfl, hes, a, c, rfl⟩ | ⟨p, o, c, rfl, hp, hn, vs, hr, hR⟩
  · have he0 : es = [] := List.eq_nil_of_length_eq_zero (by have := HT.out.rows; omega)
    subst he0
    go_enter Tryz.func34, Tryz.ntmps34
    go_wp2
    refine wp_loop_rounds 1 ?_
    rw [rounds_succ]
    go_wp2
    go_ret
    exact ⟨by simp [cntL], Below.refl _ _⟩
  · have HR := uh hR; have HRG := uh hr
    have HP := uh hp
    have hn1 : n ≤ 9223372036854775807 := hn.1
    clear hr hR h hn hp
    go_enter Tryz.func34, Tryz.ntmps34
    go_wp2
    go_loopw [1, 5] (fun kk i wr => ∃ q : Nat, q ≤ n ∧ i = .int .i64 (q : Int) ∧ kk = .int .i64 ((k + cntL (es.take (q * 6)) : Nat) : Int) ∧ Below w.heap.size w wr) (fun _ i _ => n - (intOf i).toNat)
    case atStart => exact ⟨0, Nat.zero_le _, rfl, by simp [cntL], Below.refl _ _⟩
    case round =>
      obtain ⟨q, hq, rfl, rfl, hM⟩ := hrel
      have HB := uh hM
      clear hM
      by_cases hlt : q < n
      · obtain ⟨ve, hE, hrng⟩ := (HR.out.later HB.out).el hlt (rA_later HRG.out HP.out HB.out)
        have hE1 : Raw wr shHallAsked (el 6 q (mkL k es)) ve := hE
        rw [show el 6 q (mkL k es) = mkL (k + cntL (es.take (q * 6))) (el 6 q es) from mk_el (sh := shHallAsked) HT.out hlt] at hE1
        obtain ⟨d, hd⟩ : ∃ d, d = el 6 q es := ⟨_, rfl⟩
        have hte : Typ shHallAsked d := by rw [hd]; exact HT.out.el hlt
        have hcn : k + cntL (es.take (q * 6)) + cntL d ≤ 4000000000000000000 := by rw [hd]; have := @cnt_el q 6 es; omega
        have hnx : cntL (es.take ((q + 1) * 6)) = cntL (es.take (q * 6)) + cntL d := by rw [hd]; exact cnt_next (sh := shHallAsked) HT.out hlt
        rw [← hd] at hE1
        clear hE hd
        obtain ⟨kq, hkq⟩ : ∃ kq : Nat, kq = k + cntL (es.take (q * 6)) := ⟨_, rfl⟩
        rw [← hkq] at hcn hE1 ⊢
        have HNX : Hid (k + cntL (es.take ((q + 1) * 6)) = kq + cntL d) := by show _ = _; omega
        obtain ⟨a0, a1, a2, a3, a4, a5, rfl⟩ := typHallAsked hte
        simp only [mkL] at hE1
        obtain rfl := rawHallAsked hE1
        have hkq1 : 1 ≤ kq := by omega
        have hkq2 : kq ≤ 4000000000000000000 := by omega
        simp only [cntL] at hcn
        have HCN := uh hcn
        have HPR : Hid (p < wr.heap.size) := Nat.lt_of_lt_of_le HP.out HB.out.size
        have HG : Hid (wr.rangeAt p (o + q * 6) _) := hrng
        clear hcn hE1 hte hkq hnx hrng
        have hm0 : (0 : Int) ≤ (q : Int) := by omega
        have hm3 : (q : Int) < (n : Int) := by omega
        have hbz := HPR.out
        have gc : wr.cell? ⟨p, o + q * 6, none⟩ = some (.string (mt kq)) := rA_get HG.out 0 _ rfl
        have hNE := upst_some wr
        have hbz2 : ∀ px : UPst wr, p < px.W.heap.size := fun px => px.size hbz
        have S1 : ∀ px : UPst wr, px.W.cell? ⟨p, o + q * 6, none⟩ = some (.string (mt kq)) := fun px => px.cell gc hbz
        go_upto_region 4 with fail
        clear gc hbz
        refine uregion wr (Below.refl _ _) (by kernel_rfl) (by kernel_rfl) ?_
        repeat (first
          | go_big_quiet_skip
          | (go_big_quiet_want; go_big_quiet_op; first | go_big_quiet_on | (apply Exists.intro; refine ⟨fun px => ?_, ?_⟩; (focus ((go_at_call 58; refine (markText kq _ (by omega) (by omega)).mono ?_; rintro e w' ⟨he, hb⟩; exact ⟨he, ⟨w', blw_trans px.ok hb⟩, rfl⟩))); go_big_quiet_on)))
        refine wpQuiet_nil ?_
        intro _ hw'
        obtain ⟨z0, hw''⟩ := hw'
        subst hw''
        replace HB := uh (blw_trans HB.out z0.ok)
        replace HG := uh (rA_later HG.out HPR.out z0.ok)
        replace HPR := uh (Nat.lt_of_lt_of_le HPR.out z0.ok.size)
        clear S1 hbz2 hNE
        obtain ⟨k0, hk0⟩ : ∃ k0 : Nat, k0 = kq + 1 := ⟨_, rfl⟩
        have hkc0 : (kq : Int) + 1 = (k0 : Int) := by omega
        have HK0 := uh hk0
        have kb0 : 1 ≤ k0 ∧ k0 ≤ 4000000000000000000 := by have := HCN.out; have := HK0.out; omega
        obtain ⟨kl0, ku0⟩ := kb0
        try rw [← hk0] at HG
        clear hk0
        go_upto_region 7 with fail
        clear hkc0
        have hbz := HPR.out
        have gc : z0.W.cell? ⟨p, o + q * 6 + 1, none⟩ = some (.int .i64 (k0 : Int)) := rA_get HG.out 1 _ rfl
        go_upto_region 9 with fail
        clear gc hbz
        obtain ⟨k1, hk1⟩ : ∃ k1 : Nat, k1 = k0 + 1 := ⟨_, rfl⟩
        have hkc1 : (k0 : Int) + 1 = (k1 : Int) := by omega
        have HK1 := uh hk1
        have kb1 : 1 ≤ k1 ∧ k1 ≤ 4000000000000000000 := by have := HCN.out; have := HK0.out; have := HK1.out; omega
        obtain ⟨kl1, ku1⟩ := kb1
        try rw [← hk1] at HG
        clear hk1
        go_upto_region 10 with fail
        clear hkc1
        have hbz := HPR.out
        have gc : z0.W.cell? ⟨p, o + q * 6 + 2, none⟩ = some (.int .i64 (k1 : Int)) := rA_get HG.out 2 _ rfl
        go_upto_region 12 with fail
        clear gc hbz
        obtain ⟨k2, hk2⟩ : ∃ k2 : Nat, k2 = k1 + 1 := ⟨_, rfl⟩
        have hkc2 : (k1 : Int) + 1 = (k2 : Int) := by omega
        have HK2 := uh hk2
        have kb2 : 1 ≤ k2 ∧ k2 ≤ 4000000000000000000 := by have := HCN.out; have := HK0.out; have := HK1.out; have := HK2.out; omega
        obtain ⟨kl2, ku2⟩ := kb2
        try rw [← hk2] at HG
        clear hk2
        go_upto_region 13 with fail
        clear hkc2
        have hbz := HPR.out
        have gc : z0.W.cell? ⟨p, o + q * 6 + 3, none⟩ = some (.int .i64 (k2 : Int)) := rA_get HG.out 3 _ rfl
        go_upto_region 15 with fail
        clear gc hbz
        obtain ⟨k3, hk3⟩ : ∃ k3 : Nat, k3 = k2 + 1 := ⟨_, rfl⟩
        have hkc3 : (k2 : Int) + 1 = (k3 : Int) := by omega
        have HK3 := uh hk3
        have kb3 : 1 ≤ k3 ∧ k3 ≤ 4000000000000000000 := by have := HCN.out; have := HK0.out; have := HK1.out; have := HK2.out; have := HK3.out; omega
        obtain ⟨kl3, ku3⟩ := kb3
        try rw [← hk3] at HG
        clear hk3
        go_upto_region 16 with fail
        clear hkc3
        have hbz := HPR.out
        have gc : z0.W.cell? ⟨p, o + q * 6 + 4, none⟩ = some (.int .i64 (k3 : Int)) := rA_get HG.out 4 _ rfl
        go_upto_region 18 with fail
        clear gc hbz
        obtain ⟨k4, hk4⟩ : ∃ k4 : Nat, k4 = k3 + 1 := ⟨_, rfl⟩
        have hkc4 : (k3 : Int) + 1 = (k4 : Int) := by omega
        have HK4 := uh hk4
        have kb4 : 1 ≤ k4 ∧ k4 ≤ 4000000000000000000 := by have := HCN.out; have := HK0.out; have := HK1.out; have := HK2.out; have := HK3.out; have := HK4.out; omega
        obtain ⟨kl4, ku4⟩ := kb4
        try rw [← hk4] at HG
        clear hk4
        go_upto_region 19 with fail
        clear hkc4
        have hbz := HPR.out
        have gc : z0.W.cell? ⟨p, o + q * 6 + 5, none⟩ = some (.int .i64 (k4 : Int)) := rA_get HG.out 5 _ rfl
        go_upto_region 21 with fail
        clear gc hbz
        obtain ⟨k5, hk5⟩ : ∃ k5 : Nat, k5 = k4 + 1 := ⟨_, rfl⟩
        have hkc5 : (k4 : Int) + 1 = (k5 : Int) := by omega
        have HK5 := uh hk5
        have kb5 : 1 ≤ k5 ∧ k5 ≤ 4000000000000000000 := by have := HCN.out; have := HK0.out; have := HK1.out; have := HK2.out; have := HK3.out; have := HK4.out; have := HK5.out; omega
        obtain ⟨kl5, ku5⟩ := kb5
        clear hk5
        have HF : Hid (k5 = k + cntL (es.take ((q + 1) * 6))) := by
          have := HNX.out; simp only [cntL] at this; have := HK0.out; have := HK1.out; have := HK2.out; have := HK3.out; have := HK4.out; have := HK5.out; show _ = _; omega
        go_wp2
        go_roundw
        case rel => exact ⟨q + 1, by omega, by go_num, by rw [← HF.out], HB.out⟩
        case measure => simp [intOf]; omega
      · obtain rfl : q = n := by omega
        have el_ : es.length = q * 6 := HT.out.rows
        rw [← el_, List.take_length]
        go_wp2
        go_ret
        exact ⟨rfl, HB.out⟩
set_option maxRecDepth 8000 in
set_option maxHeartbeats 8000000 in
theorem heldHallWorld (ds : List Dt) (cs : List Value) (k : Nat) (w : World) (ht : Typ shHallWorld ds) (h : Raw w shHallWorld (mkT k ds) cs) (h1 : 1 ≤ k) (hk : k + cntT ds ≤ 4000000000000000000) :
    Calls Tryz.prog 12 #[.agg cs.toArray, .int .i64 (k : Int)] w fun e w' => e = .returned (.int .i64 ((k + cntT ds : Nat) : Int)) ∧ Below w.heap.size w w' := by
  obtain ⟨d0, d1, a2, n3, e3, rfl, t0, t1, t3⟩ := segTypHallWorld ht
  simp only [mkT, mkT_app] at h
  obtain ⟨c0, x0, rfl, r0, h_0⟩ := Raw.cut2 h (t0.mkT _)
  obtain ⟨c1, x1, rfl, r1, h_1⟩ := Raw.cut2 h_0 (t1.mkT _)
  obtain ⟨x2, rfl, h_2⟩ := h_1.c_i
  obtain ⟨v3, x3, rfl, r3, h_3⟩ := h_2.c_r
  obtain rfl := h_3.c_n
  obtain ⟨cs, hcs⟩ : ∃ cs : List Value, cs = (c0 ++ ((c1 ++ (.int .i64 a2 :: v3 :: [])))) := ⟨_, rfl⟩
  rw [← hcs]
  have L0 : Hid (c0.length = 2) := r0.len
  have L1 : Hid (c1.length = 3) := r1.len
  have HCS := uh hcs
  simp only [cntT, cntT_app] at hk ⊢
  obtain ⟨wa, hwa⟩ : ∃ wa, wa = w.alloc (.cells cs.toArray 38) := ⟨_, rfl⟩
  have HB : Hid (Below w.heap.size w wa) := by show Below _ _ _; rw [hwa]; exact blw_alloc (Below.refl _ _) _
  have HX : Hid (LBox wa w.heap.size cs) := by show LBox _ _ _; rw [hwa]; exact LBox.new w cs.toArray _ _ rfl
  have R0 := uh (r0.later HB.out)
  have R1 := uh (r1.later HB.out)
  have R3 := uh (r3.later HB.out)
  have HKK := uh hk
  clear hcs hk r0 r1 r3
  go_enter Tryz.func12, Tryz.ntmps12
  go_upto_region 1 with fail
  rw [← hwa]
  clear hwa
  have hbz := HX.out.lt
  have hbx := boxHallWorld L0.out L1.out (by have := HX.out.at_; rw [HCS.out] at this; exact this)
  have gc := hbx.1
  clear hbx
  obtain ⟨k0, hk0⟩ : ∃ k0 : Nat, k0 = k + cntT d0 := ⟨_, rfl⟩
  have HK0 := uh hk0
  have kb0 : 1 ≤ k0 ∧ k0 ≤ 4000000000000000000 := by have := HKK.out; have := HK0.out; omega
  obtain ⟨kl0, ku0⟩ := kb0
  clear hk0
  have kn0 : ¬ (k0 : Int) < 0 := by omega
  go_wp2_with (refine wpList_load_mid rfl 30 _ rfl w.heap.size 0 rfl c0 _ gc Tryz.underlying30 rfl (by rw [L0.out]; kernel_rfl) ?_)
  refine (heldHallHouse d0 c0 k wa t0 (by have := R0.out; simpa only [Nat.add_zero] using this) (by omega) (by have := HK0.out; omega)).mono ?_
  rintro e x0 ⟨he, hb0⟩
  rw [← HK0.out] at he
  subst he
  replace HX := uh (HX.out.later hb0)
  replace HB := uh (blw_trans HB.out hb0)
  replace R1 := uh (R1.out.later hb0)
  replace R3 := uh (R3.out.later hb0)
  clear gc hbz hb0
  have hbz := HX.out.lt
  have hbx := boxHallWorld L0.out L1.out (by have := HX.out.at_; rw [HCS.out] at this; exact this)
  have gc := hbx.2.1
  clear hbx
  obtain ⟨k1, hk1⟩ : ∃ k1 : Nat, k1 = k0 + cntT d1 := ⟨_, rfl⟩
  have HK1 := uh hk1
  have kb1 : 1 ≤ k1 ∧ k1 ≤ 4000000000000000000 := by have := HKK.out; have := HK0.out; have := HK1.out; omega
  obtain ⟨kl1, ku1⟩ := kb1
  clear hk1
  have kn1 : ¬ (k1 : Int) < 0 := by omega
  go_wp2_with (refine wpList_load_mid rfl 35 _ rfl w.heap.size 2 rfl c1 _ gc Tryz.underlying35 rfl (by rw [L1.out]; kernel_rfl) ?_)
  refine (heldRecWorld d1 c1 k0 x0 t1 (by have := R1.out; simpa only [HK0.out, Nat.add_zero] using this) (by omega) (by have := HK1.out; omega)).mono ?_
  rintro e x1 ⟨he, hb1⟩
  rw [← HK1.out] at he
  subst he
  replace HX := uh (HX.out.later hb1)
  replace HB := uh (blw_trans HB.out hb1)
  replace R3 := uh (R3.out.later hb1)
  clear gc hbz hb1
  have hbz := HX.out.lt
  have hbx := boxHallWorld L0.out L1.out (by have := HX.out.at_; rw [HCS.out] at this; exact this)
  have gc := hbx.2.2.2
  clear hbx
  obtain ⟨k3, hk3⟩ : ∃ k3 : Nat, k3 = k1 + cntL e3 := ⟨_, rfl⟩
  have HK3 := uh hk3
  have kb3 : 1 ≤ k3 ∧ k3 ≤ 4000000000000000000 := by have := HKK.out; have := HK0.out; have := HK1.out; have := HK3.out; omega
  obtain ⟨kl3, ku3⟩ := kb3
  clear hk3
  have kn3 : ¬ (k3 : Int) < 0 := by omega
  obtain ⟨va3, vc3, hva⟩ := R3.out.len0
  subst hva
  go_wp2_with fail
  refine (heldHallAskedS n3 e3 (.slice va3 n3 vc3) k1 x1 t3 (by have := R3.out; simpa only [HK0.out, HK1.out, Nat.add_zero] using this) (by omega) (by have := HK3.out; omega)).mono ?_
  rintro e x3 ⟨he, hb3⟩
  rw [← HK3.out] at he
  subst he
  replace HX := uh (HX.out.later hb3)
  replace HB := uh (blw_trans HB.out hb3)
  clear gc hbz hb3
  go_wp2
  go_ret
  exact ⟨Pl.ret_int (by have := HKK.out; have := HK0.out; have := HK1.out; have := HK3.out; omega), HB.out⟩
end Go.Proofs.YtfkkohfjkofgnaaGreat
