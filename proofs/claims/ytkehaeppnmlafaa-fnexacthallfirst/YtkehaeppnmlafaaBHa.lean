/-
  What marks books of the gate bear.
-/
import Derived.Test.YtkehaeppnmlafaaBSh
import Derived.Test.YtkehaeppnmlafaaUBm
namespace Go.Proofs.Ytkehaeppnmlafaa
open Go.RowKit Go.Deep

set_option maxRecDepth 8000 in
set_option maxHeartbeats 8000000 in
theorem heldIntS (n : Nat) (es : List Dt) (v : Value) (k : Nat) (w : World) (ht : Typ (reps n [.i]) es) (h : Raw w [.row 3 [.i]] [.row n (mkL k es)] [v]) (h1 : 1 ≤ k) (hk : k + cntL es ≤ 4000000000000000000) :
    Calls Try.prog 87 #[v, .int .i64 (k : Int)] w fun e w' => e = .returned (.int .i64 ((k + cntL es : Nat) : Int)) ∧ Below w.heap.size w w' := by
  have HT := uh ht
  clear ht
  rcases h.slice with ⟨rfl, hes, a, c, rfl⟩ | ⟨p, o, c, rfl, hp, hn, vs, hr, hR⟩
  · have he0 : es = [] := List.eq_nil_of_length_eq_zero (by have := HT.out.rows; omega)
    subst he0
    go_enter Try.func87, Try.ntmps87
    go_wp2
    refine wp_loop_rounds 1 ?_
    rw [rounds_succ]
    go_wp2
    go_ret
    exact ⟨by simp [cntL], Below.refl _ _⟩
  · have HR := uh hR; have HRG := uh hr
    have HP := uh hp
    have hn1 : n ≤ 9223372036854775807 := hn.1
    clear hr hR h hn hp
    go_enter Try.func87, Try.ntmps87
    go_wp2
    go_loopw [1, 5] (fun kk i wr => ∃ q : Nat, q ≤ n ∧ i = .int .i64 (q : Int) ∧ kk = .int .i64 ((k + cntL (es.take (q * 1)) : Nat) : Int) ∧ Below w.heap.size w wr) (fun _ i _ => n - (intOf i).toNat)
    case atStart => exact ⟨0, Nat.zero_le _, rfl, by simp [cntL], Below.refl _ _⟩
    case round =>
      obtain ⟨q, hq, rfl, rfl, hM⟩ := hrel
      have HB := uh hM
      clear hM
      by_cases hlt : q < n
      · obtain ⟨ve, hE, hrng⟩ := (HR.out.later HB.out).el hlt (rA_later HRG.out HP.out HB.out)
        have hE1 : Raw wr [.i] (el 1 q (mkL k es)) ve := hE
        rw [show el 1 q (mkL k es) = mkL (k + cntL (es.take (q * 1))) (el 1 q es) from mk_el (sh := [.i]) HT.out hlt] at hE1
        obtain ⟨d, hd⟩ : ∃ d, d = el 1 q es := ⟨_, rfl⟩
        have hte : Typ [.i] d := by rw [hd]; exact HT.out.el hlt
        have hcn : k + cntL (es.take (q * 1)) + cntL d ≤ 4000000000000000000 := by rw [hd]; have := @cnt_el q 1 es; omega
        have hnx : cntL (es.take ((q + 1) * 1)) = cntL (es.take (q * 1)) + cntL d := by rw [hd]; exact cnt_next (sh := [.i]) HT.out hlt
        rw [← hd] at hE1
        clear hE hd
        obtain ⟨kq, hkq⟩ : ∃ kq : Nat, kq = k + cntL (es.take (q * 1)) := ⟨_, rfl⟩
        rw [← hkq] at hcn hE1 ⊢
        have HNX : Hid (k + cntL (es.take ((q + 1) * 1)) = kq + cntL d) := by show _ = _; omega
        obtain ⟨a0, rfl⟩ := typN1 hte
        simp only [mkL] at hE1
        obtain rfl := rawN1 hE1
        have hkq1 : 1 ≤ kq := by omega
        have hkq2 : kq ≤ 4000000000000000000 := by omega
        simp only [cntL] at hcn
        have HCN := uh hcn
        have HPR : Hid (p < wr.heap.size) := Nat.lt_of_lt_of_le HP.out HB.out.size
        have HG : Hid (wr.rangeAt p (o + q) _) := (by show World.rangeAt _ _ _ _; have := hrng; simpa using this)
        clear hcn hE1 hte hkq hnx hrng
        have hm0 : (0 : Int) ≤ (q : Int) := by omega
        have hm3 : (q : Int) < (n : Int) := by omega
        have hbz := HPR.out
        have gc : wr.cell? ⟨p, o + q, none⟩ = some (.int .i64 (kq : Int)) := rA_get HG.out 0 _ rfl
        go_upto_region 6 with fail
        clear gc hbz
        obtain ⟨k0, hk0⟩ : ∃ k0 : Nat, k0 = kq + 1 := ⟨_, rfl⟩
        have hkc0 : (kq : Int) + 1 = (k0 : Int) := by omega
        have HK0 := uh hk0
        have kb0 : 1 ≤ k0 ∧ k0 ≤ 4000000000000000000 := by have := HCN.out; have := HK0.out; omega
        obtain ⟨kl0, ku0⟩ := kb0
        clear hk0
        have HF : Hid (k0 = k + cntL (es.take ((q + 1) * 1))) := by
          have := HNX.out; simp only [cntL] at this; have := HK0.out; show _ = _; omega
        go_wp2
        go_roundw
        case rel => exact ⟨q + 1, by omega, by go_num, by rw [← HF.out], HB.out⟩
        case measure => simp [intOf]; omega
      · obtain rfl : q = n := by omega
        have el_ : es.length = q * 1 := HT.out.rows
        rw [← el_, List.take_length]
        go_wp2
        go_ret
        exact ⟨rfl, HB.out⟩
set_option maxRecDepth 8000 in
set_option maxHeartbeats 8000000 in
theorem heldStringS (n : Nat) (es : List Dt) (v : Value) (k : Nat) (w : World) (ht : Typ (reps n [.s]) es) (h : Raw w [.row 9 [.s]] [.row n (mkL k es)] [v]) (h1 : 1 ≤ k) (hk : k + cntL es ≤ 4000000000000000000) :
    Calls Try.prog 86 #[v, .int .i64 (k : Int)] w fun e w' => e = .returned (.int .i64 ((k + cntL es : Nat) : Int)) ∧ Below w.heap.size w w' := by
  have HT := uh ht
  clear ht
  rcases h.slice with ⟨rfl, hes, a, c, rfl⟩ | ⟨p, o, c, rfl, hp, hn, vs, hr, hR⟩
  · have he0 : es = [] := List.eq_nil_of_length_eq_zero (by have := HT.out.rows; omega)
    subst he0
    go_enter Try.func86, Try.ntmps86
    go_wp2
    refine wp_loop_rounds 1 ?_
    rw [rounds_succ]
    go_wp2
    go_ret
    exact ⟨by simp [cntL], Below.refl _ _⟩
  · have HR := uh hR; have HRG := uh hr
    have HP := uh hp
    have hn1 : n ≤ 9223372036854775807 := hn.1
    clear hr hR h hn hp
    go_enter Try.func86, Try.ntmps86
    go_wp2
    go_loopw [1, 5] (fun kk i wr => ∃ q : Nat, q ≤ n ∧ i = .int .i64 (q : Int) ∧ kk = .int .i64 ((k + cntL (es.take (q * 1)) : Nat) : Int) ∧ Below w.heap.size w wr) (fun _ i _ => n - (intOf i).toNat)
    case atStart => exact ⟨0, Nat.zero_le _, rfl, by simp [cntL], Below.refl _ _⟩
    case round =>
      obtain ⟨q, hq, rfl, rfl, hM⟩ := hrel
      have HB := uh hM
      clear hM
      by_cases hlt : q < n
      · obtain ⟨ve, hE, hrng⟩ := (HR.out.later HB.out).el hlt (rA_later HRG.out HP.out HB.out)
        have hE1 : Raw wr [.s] (el 1 q (mkL k es)) ve := hE
        rw [show el 1 q (mkL k es) = mkL (k + cntL (es.take (q * 1))) (el 1 q es) from mk_el (sh := [.s]) HT.out hlt] at hE1
        obtain ⟨d, hd⟩ : ∃ d, d = el 1 q es := ⟨_, rfl⟩
        have hte : Typ [.s] d := by rw [hd]; exact HT.out.el hlt
        have hcn : k + cntL (es.take (q * 1)) + cntL d ≤ 4000000000000000000 := by rw [hd]; have := @cnt_el q 1 es; omega
        have hnx : cntL (es.take ((q + 1) * 1)) = cntL (es.take (q * 1)) + cntL d := by rw [hd]; exact cnt_next (sh := [.s]) HT.out hlt
        rw [← hd] at hE1
        clear hE hd
        obtain ⟨kq, hkq⟩ : ∃ kq : Nat, kq = k + cntL (es.take (q * 1)) := ⟨_, rfl⟩
        rw [← hkq] at hcn hE1 ⊢
        have HNX : Hid (k + cntL (es.take ((q + 1) * 1)) = kq + cntL d) := by show _ = _; omega
        obtain ⟨a0, rfl⟩ := typT1 hte
        simp only [mkL] at hE1
        obtain rfl := rawT1 hE1
        have hkq1 : 1 ≤ kq := by omega
        have hkq2 : kq ≤ 4000000000000000000 := by omega
        simp only [cntL] at hcn
        have HCN := uh hcn
        have HPR : Hid (p < wr.heap.size) := Nat.lt_of_lt_of_le HP.out HB.out.size
        have HG : Hid (wr.rangeAt p (o + q) _) := (by show World.rangeAt _ _ _ _; have := hrng; simpa using this)
        clear hcn hE1 hte hkq hnx hrng
        have hm0 : (0 : Int) ≤ (q : Int) := by omega
        have hm3 : (q : Int) < (n : Int) := by omega
        have hbz := HPR.out
        have gc : wr.cell? ⟨p, o + q, none⟩ = some (.string (mt kq)) := rA_get HG.out 0 _ rfl
        have hNE := upst_some wr
        have hbz2 : ∀ px : UPst wr, p < px.W.heap.size := fun px => px.size hbz
        have S1 : ∀ px : UPst wr, px.W.cell? ⟨p, o + q, none⟩ = some (.string (mt kq)) := fun px => px.cell gc hbz
        go_upto_region 4 with fail
        clear gc hbz
        refine uregion wr (Below.refl _ _) (by kernel_rfl) (by kernel_rfl) ?_
        repeat (first
          | go_big_quiet_skip
          | (go_big_quiet_want; go_big_quiet_op; first | go_big_quiet_on | (apply Exists.intro; refine ⟨fun px => ?_, ?_⟩; (focus ((go_at_call 53; refine (markText kq _ (by omega) (by omega)).mono ?_; rintro e w' ⟨he, hb⟩; exact ⟨he, ⟨w', blw_trans px.ok hb⟩, rfl⟩))); go_big_quiet_on)))
        refine wpQuiet_nil ?_
        intro _ hw'
        obtain ⟨z0, hw''⟩ := hw'
        subst hw''
        replace HB := uh (blw_trans HB.out z0.ok)
        replace HG := uh (rA_later HG.out HPR.out z0.ok)
        replace HPR := uh (Nat.lt_of_lt_of_le HPR.out z0.ok.size)
        clear S1 hbz2 hNE
        obtain ⟨k0, hk0⟩ : ∃ k0 : Nat, k0 = kq + 1 := ⟨_, rfl⟩
        have hkc0 : (kq : Int) + 1 = (k0 : Int) := by omega
        have HK0 := uh hk0
        have kb0 : 1 ≤ k0 ∧ k0 ≤ 4000000000000000000 := by have := HCN.out; have := HK0.out; omega
        obtain ⟨kl0, ku0⟩ := kb0
        clear hk0
        have HF : Hid (k0 = k + cntL (es.take ((q + 1) * 1))) := by
          have := HNX.out; simp only [cntL] at this; have := HK0.out; show _ = _; omega
        go_wp2
        go_roundw
        case rel => exact ⟨q + 1, by omega, by go_num, by rw [← HF.out], HB.out⟩
        case measure => simp [intOf]; omega
      · obtain rfl : q = n := by omega
        have el_ : es.length = q * 1 := HT.out.rows
        rw [← el_, List.take_length]
        go_wp2
        go_ret
        exact ⟨rfl, HB.out⟩
set_option maxRecDepth 8000 in
set_option maxHeartbeats 8000000 in
theorem heldGateObjectS (n : Nat) (es : List Dt) (v : Value) (k : Nat) (w : World) (ht : Typ (reps n shGateObject) es) (h : Raw w [.row 83 shGateObject] [.row n (mkL k es)] [v]) (h1 : 1 ≤ k) (hk : k + cntL es ≤ 4000000000000000000) :
    Calls Try.prog 61 #[v, .int .i64 (k : Int)] w fun e w' => e = .returned (.int .i64 ((k + cntL es : Nat) : Int)) ∧ Below w.heap.size w w' := by
  have HT := uh ht
  clear ht
  rcases h.slice with ⟨rfl, hes, a, c, rfl⟩ | ⟨p, o, c, rfl, hp, hn, vs, hr, hR⟩
  · have he0 : es = [] := List.eq_nil_of_length_eq_zero (by have := HT.out.rows; omega)
    subst he0
    go_enter Try.func61, Try.ntmps61
    go_wp2
    refine wp_loop_rounds 1 ?_
    rw [rounds_succ]
    go_wp2
    go_ret
    exact ⟨by simp [cntL], Below.refl _ _⟩
  · have HR := uh hR; have HRG := uh hr
    have HP := uh hp
    have hn1 : n ≤ 9223372036854775807 := hn.1
    clear hr hR h hn hp
    go_enter Try.func61, Try.ntmps61
    go_wp2
    go_loopw [1, 5] (fun kk i wr => ∃ q : Nat, q ≤ n ∧ i = .int .i64 (q : Int) ∧ kk = .int .i64 ((k + cntL (es.take (q * 7)) : Nat) : Int) ∧ Below w.heap.size w wr) (fun _ i _ => n - (intOf i).toNat)
    case atStart => exact ⟨0, Nat.zero_le _, rfl, by simp [cntL], Below.refl _ _⟩
    case round =>
      obtain ⟨q, hq, rfl, rfl, hM⟩ := hrel
      have HB := uh hM
      clear hM
      by_cases hlt : q < n
      · obtain ⟨ve, hE, hrng⟩ := (HR.out.later HB.out).el hlt (rA_later HRG.out HP.out HB.out)
        have hE1 : Raw wr shGateObject (el 7 q (mkL k es)) ve := hE
        rw [show el 7 q (mkL k es) = mkL (k + cntL (es.take (q * 7))) (el 7 q es) from mk_el (sh := shGateObject) HT.out hlt] at hE1
        obtain ⟨d, hd⟩ : ∃ d, d = el 7 q es := ⟨_, rfl⟩
        have hte : Typ shGateObject d := by rw [hd]; exact HT.out.el hlt
        have hcn : k + cntL (es.take (q * 7)) + cntL d ≤ 4000000000000000000 := by rw [hd]; have := @cnt_el q 7 es; omega
        have hnx : cntL (es.take ((q + 1) * 7)) = cntL (es.take (q * 7)) + cntL d := by rw [hd]; exact cnt_next (sh := shGateObject) HT.out hlt
        rw [← hd] at hE1
        clear hE hd
        obtain ⟨kq, hkq⟩ : ∃ kq : Nat, kq = k + cntL (es.take (q * 7)) := ⟨_, rfl⟩
        rw [← hkq] at hcn hE1 ⊢
        have HNX : Hid (k + cntL (es.take ((q + 1) * 7)) = kq + cntL d) := by show _ = _; omega
        obtain ⟨a0, a1, a2, n3, e3, a4, n5, e5, a6, rfl, t3, t5⟩ := typGateObject hte
        simp only [mkL] at hE1
        obtain ⟨v3, v5, rfl, r3, r5⟩ := rawGateObject hE1
        have hkq1 : 1 ≤ kq := by omega
        have hkq2 : kq ≤ 4000000000000000000 := by omega
        simp only [cntL] at hcn
        have HCN := uh hcn
        have HPR : Hid (p < wr.heap.size) := Nat.lt_of_lt_of_le HP.out HB.out.size
        have HG : Hid (wr.rangeAt p (o + q * 7) _) := hrng
        have R3 := uh r3
        have R5 := uh r5
        clear hcn hE1 hte hkq hnx hrng r3 r5
        have hm0 : (0 : Int) ≤ (q : Int) := by omega
        have hm3 : (q : Int) < (n : Int) := by omega
        have hbz := HPR.out
        have gc : wr.cell? ⟨p, o + q * 7, none⟩ = some (.string (mt kq)) := rA_get HG.out 0 _ rfl
        have hNE := upst_some wr
        have hbz2 : ∀ px : UPst wr, p < px.W.heap.size := fun px => px.size hbz
        have S1 : ∀ px : UPst wr, px.W.cell? ⟨p, o + q * 7, none⟩ = some (.string (mt kq)) := fun px => px.cell gc hbz
        go_upto_region 4 with fail
        clear gc hbz
        refine uregion wr (Below.refl _ _) (by kernel_rfl) (by kernel_rfl) ?_
        repeat (first
          | go_big_quiet_skip
          | (go_big_quiet_want; go_big_quiet_op; first | go_big_quiet_on | (apply Exists.intro; refine ⟨fun px => ?_, ?_⟩; (focus ((go_at_call 53; refine (markText kq _ (by omega) (by omega)).mono ?_; rintro e w' ⟨he, hb⟩; exact ⟨he, ⟨w', blw_trans px.ok hb⟩, rfl⟩))); go_big_quiet_on)))
        refine wpQuiet_nil ?_
        intro _ hw'
        obtain ⟨z0, hw''⟩ := hw'
        subst hw''
        replace HB := uh (blw_trans HB.out z0.ok)
        replace HG := uh (rA_later HG.out HPR.out z0.ok)
        replace R3 := uh (R3.out.later z0.ok)
        replace R5 := uh (R5.out.later z0.ok)
        replace HPR := uh (Nat.lt_of_lt_of_le HPR.out z0.ok.size)
        clear S1 hbz2 hNE
        obtain ⟨k0, hk0⟩ : ∃ k0 : Nat, k0 = kq + 1 := ⟨_, rfl⟩
        have hkc0 : (kq : Int) + 1 = (k0 : Int) := by omega
        have HK0 := uh hk0
        have kb0 : 1 ≤ k0 ∧ k0 ≤ 4000000000000000000 := by have := HCN.out; have := HK0.out; omega
        obtain ⟨kl0, ku0⟩ := kb0
        try rw [← hk0] at HG
        try rw [← hk0] at R3
        try rw [← hk0] at R5
        clear hk0
        go_upto_region 7 with fail
        clear hkc0
        have hbz := HPR.out
        have gc : z0.W.cell? ⟨p, o + q * 7 + 1, none⟩ = some (.string (mt k0)) := rA_get HG.out 1 _ rfl
        have hNE := upst_some z0.W
        have hbz2 : ∀ px : UPst z0.W, p < px.W.heap.size := fun px => px.size hbz
        have S1 : ∀ px : UPst z0.W, px.W.cell? ⟨p, o + q * 7 + 1, none⟩ = some (.string (mt k0)) := fun px => px.cell gc hbz
        go_upto_region 7 with fail
        clear gc hbz
        refine uregion z0.W (Below.refl _ _) (by kernel_rfl) (by kernel_rfl) ?_
        repeat (first
          | go_big_quiet_skip
          | (go_big_quiet_want; go_big_quiet_op; first | go_big_quiet_on | (apply Exists.intro; refine ⟨fun px => ?_, ?_⟩; (focus ((go_at_call 53; refine (markText k0 _ (by omega) (by omega)).mono ?_; rintro e w' ⟨he, hb⟩; exact ⟨he, ⟨w', blw_trans px.ok hb⟩, rfl⟩))); go_big_quiet_on)))
        refine wpQuiet_nil ?_
        intro _ hw'
        obtain ⟨z1, hw''⟩ := hw'
        subst hw''
        replace HB := uh (blw_trans HB.out z1.ok)
        replace HG := uh (rA_later HG.out HPR.out z1.ok)
        replace R3 := uh (R3.out.later z1.ok)
        replace R5 := uh (R5.out.later z1.ok)
        replace HPR := uh (Nat.lt_of_lt_of_le HPR.out z1.ok.size)
        clear S1 hbz2 hNE
        obtain ⟨k1, hk1⟩ : ∃ k1 : Nat, k1 = k0 + 1 := ⟨_, rfl⟩
        have hkc1 : (k0 : Int) + 1 = (k1 : Int) := by omega
        have HK1 := uh hk1
        have kb1 : 1 ≤ k1 ∧ k1 ≤ 4000000000000000000 := by have := HCN.out; have := HK0.out; have := HK1.out; omega
        obtain ⟨kl1, ku1⟩ := kb1
        try rw [← hk1] at HG
        try rw [← hk1] at R3
        try rw [← hk1] at R5
        clear hk1
        go_upto_region 10 with fail
        clear hkc1
        have hbz := HPR.out
        have gc : z1.W.cell? ⟨p, o + q * 7 + 2, none⟩ = some (.string (mt k1)) := rA_get HG.out 2 _ rfl
        have hNE := upst_some z1.W
        have hbz2 : ∀ px : UPst z1.W, p < px.W.heap.size := fun px => px.size hbz
        have S1 : ∀ px : UPst z1.W, px.W.cell? ⟨p, o + q * 7 + 2, none⟩ = some (.string (mt k1)) := fun px => px.cell gc hbz
        go_upto_region 10 with fail
        clear gc hbz
        refine uregion z1.W (Below.refl _ _) (by kernel_rfl) (by kernel_rfl) ?_
        repeat (first
          | go_big_quiet_skip
          | (go_big_quiet_want; go_big_quiet_op; first | go_big_quiet_on | (apply Exists.intro; refine ⟨fun px => ?_, ?_⟩; (focus ((go_at_call 53; refine (markText k1 _ (by omega) (by omega)).mono ?_; rintro e w' ⟨he, hb⟩; exact ⟨he, ⟨w', blw_trans px.ok hb⟩, rfl⟩))); go_big_quiet_on)))
        refine wpQuiet_nil ?_
        intro _ hw'
        obtain ⟨z2, hw''⟩ := hw'
        subst hw''
        replace HB := uh (blw_trans HB.out z2.ok)
        replace HG := uh (rA_later HG.out HPR.out z2.ok)
        replace R3 := uh (R3.out.later z2.ok)
        replace R5 := uh (R5.out.later z2.ok)
        replace HPR := uh (Nat.lt_of_lt_of_le HPR.out z2.ok.size)
        clear S1 hbz2 hNE
        obtain ⟨k2, hk2⟩ : ∃ k2 : Nat, k2 = k1 + 1 := ⟨_, rfl⟩
        have hkc2 : (k1 : Int) + 1 = (k2 : Int) := by omega
        have HK2 := uh hk2
        have kb2 : 1 ≤ k2 ∧ k2 ≤ 4000000000000000000 := by have := HCN.out; have := HK0.out; have := HK1.out; have := HK2.out; omega
        obtain ⟨kl2, ku2⟩ := kb2
        try rw [← hk2] at HG
        try rw [← hk2] at R3
        try rw [← hk2] at R5
        clear hk2
        go_upto_region 13 with fail
        clear hkc2
        have hbz := HPR.out
        obtain ⟨va3, vc3, hva⟩ := R3.out.len0
        subst hva
        have gc : z2.W.cell? ⟨p, o + q * 7 + 3, none⟩ = some (.slice va3 n3 vc3) := rA_get HG.out 3 _ rfl
        obtain ⟨k3, hk3⟩ : ∃ k3 : Nat, k3 = k2 + cntL e3 := ⟨_, rfl⟩
        have HK3 := uh hk3
        have kb3 : 1 ≤ k3 ∧ k3 ≤ 4000000000000000000 := by have := HCN.out; have := HK0.out; have := HK1.out; have := HK2.out; have := HK3.out; omega
        obtain ⟨kl3, ku3⟩ := kb3
        have kn3 : ¬ (k3 : Int) < 0 := by omega
        clear hk3
        go_wp2_with fail
        refine (heldStringS n3 e3 (.slice va3 n3 vc3) k2 z2.W t3 R3.out (by omega) (by have := HK3.out; omega)).mono ?_
        rintro e x3 ⟨he, hb3⟩
        rw [← HK3.out] at he
        subst he
        replace HB := uh (blw_trans HB.out hb3)
        replace HG := uh (rA_later HG.out HPR.out hb3)
        replace R5 := uh (R5.out.later hb3)
        replace HPR := uh (Nat.lt_of_lt_of_le HPR.out hb3.size)
        clear gc hbz hb3
        try rw [← HK3.out] at HG
        try rw [← HK3.out] at R5
        go_upto_region 16 with fail
        have hbz := HPR.out
        have gc : x3.cell? ⟨p, o + q * 7 + 4, none⟩ = some (.bool (k3 % 3 == 0)) := rA_get HG.out 4 _ rfl
        have hrm := bmod k3
        go_upto_region 18 with fail
        clear hrm
        clear gc hbz
        obtain ⟨k4, hk4⟩ : ∃ k4 : Nat, k4 = k3 + 1 := ⟨_, rfl⟩
        have hkc4 : (k3 : Int) + 1 = (k4 : Int) := by omega
        have HK4 := uh hk4
        have kb4 : 1 ≤ k4 ∧ k4 ≤ 4000000000000000000 := by have := HCN.out; have := HK0.out; have := HK1.out; have := HK2.out; have := HK3.out; have := HK4.out; omega
        obtain ⟨kl4, ku4⟩ := kb4
        try rw [← hk4] at HG
        try rw [← hk4] at R5
        clear hk4
        go_upto_region 19 with fail
        clear hkc4
        have hbz := HPR.out
        obtain ⟨va5, vc5, hva⟩ := R5.out.len0
        subst hva
        have gc : x3.cell? ⟨p, o + q * 7 + 5, none⟩ = some (.slice va5 n5 vc5) := rA_get HG.out 5 _ rfl
        obtain ⟨k5, hk5⟩ : ∃ k5 : Nat, k5 = k4 + cntL e5 := ⟨_, rfl⟩
        have HK5 := uh hk5
        have kb5 : 1 ≤ k5 ∧ k5 ≤ 4000000000000000000 := by have := HCN.out; have := HK0.out; have := HK1.out; have := HK2.out; have := HK3.out; have := HK4.out; have := HK5.out; omega
        obtain ⟨kl5, ku5⟩ := kb5
        have kn5 : ¬ (k5 : Int) < 0 := by omega
        clear hk5
        go_wp2_with fail
        refine (heldStringS n5 e5 (.slice va5 n5 vc5) k4 x3 t5 R5.out (by omega) (by have := HK5.out; omega)).mono ?_
        rintro e x5 ⟨he, hb5⟩
        rw [← HK5.out] at he
        subst he
        replace HB := uh (blw_trans HB.out hb5)
        replace HG := uh (rA_later HG.out HPR.out hb5)
        replace HPR := uh (Nat.lt_of_lt_of_le HPR.out hb5.size)
        clear gc hbz hb5
        try rw [← HK5.out] at HG
        go_upto_region 22 with fail
        have hbz := HPR.out
        have gc : x5.cell? ⟨p, o + q * 7 + 6, none⟩ = some (.int .i64 (k5 : Int)) := rA_get HG.out 6 _ rfl
        go_upto_region 24 with fail
        clear gc hbz
        obtain ⟨k6, hk6⟩ : ∃ k6 : Nat, k6 = k5 + 1 := ⟨_, rfl⟩
        have hkc6 : (k5 : Int) + 1 = (k6 : Int) := by omega
        have HK6 := uh hk6
        have kb6 : 1 ≤ k6 ∧ k6 ≤ 4000000000000000000 := by have := HCN.out; have := HK0.out; have := HK1.out; have := HK2.out; have := HK3.out; have := HK4.out; have := HK5.out; have := HK6.out; omega
        obtain ⟨kl6, ku6⟩ := kb6
        clear hk6
        have HF : Hid (k6 = k + cntL (es.take ((q + 1) * 7))) := by
          have := HNX.out; simp only [cntL] at this; have := HK0.out; have := HK1.out; have := HK2.out; have := HK3.out; have := HK4.out; have := HK5.out; have := HK6.out; show _ = _; omega
        go_wp2
        go_roundw
        case rel => exact ⟨q + 1, by omega, by go_num, by rw [← HF.out], HB.out⟩
        case measure => simp [intOf]; omega
      · obtain rfl : q = n := by omega
        have el_ : es.length = q * 7 := HT.out.rows
        rw [← el_, List.take_length]
        go_wp2
        go_ret
        exact ⟨rfl, HB.out⟩
set_option maxRecDepth 8000 in
set_option maxHeartbeats 8000000 in
theorem heldGateGrantS (n : Nat) (es : List Dt) (v : Value) (k : Nat) (w : World) (ht : Typ (reps n shGateGrant) es) (h : Raw w [.row 61 shGateGrant] [.row n (mkL k es)] [v]) (h1 : 1 ≤ k) (hk : k + cntL es ≤ 4000000000000000000) :
    Calls Try.prog 62 #[v, .int .i64 (k : Int)] w fun e w' => e = .returned (.int .i64 ((k + cntL es : Nat) : Int)) ∧ Below w.heap.size w w' := by
  have HT := uh ht
  clear ht
  rcases h.slice with ⟨rfl, hes, a, c, rfl⟩ | ⟨p, o, c, rfl, hp, hn, vs, hr, hR⟩
  · have he0 : es = [] := List.eq_nil_of_length_eq_zero (by have := HT.out.rows; omega)
    subst he0
    go_enter Try.func62, Try.ntmps62
    go_wp2
    refine wp_loop_rounds 1 ?_
    rw [rounds_succ]
    go_wp2
    go_ret
    exact ⟨by simp [cntL], Below.refl _ _⟩
  · have HR := uh hR; have HRG := uh hr
    have HP := uh hp
    have hn1 : n ≤ 9223372036854775807 := hn.1
    clear hr hR h hn hp
    go_enter Try.func62, Try.ntmps62
    go_wp2
    go_loopw [1, 5] (fun kk i wr => ∃ q : Nat, q ≤ n ∧ i = .int .i64 (q : Int) ∧ kk = .int .i64 ((k + cntL (es.take (q * 7)) : Nat) : Int) ∧ Below w.heap.size w wr) (fun _ i _ => n - (intOf i).toNat)
    case atStart => exact ⟨0, Nat.zero_le _, rfl, by simp [cntL], Below.refl _ _⟩
    case round =>
      obtain ⟨q, hq, rfl, rfl, hM⟩ := hrel
      have HB := uh hM
      clear hM
      by_cases hlt : q < n
      · obtain ⟨ve, hE, hrng⟩ := (HR.out.later HB.out).el hlt (rA_later HRG.out HP.out HB.out)
        have hE1 : Raw wr shGateGrant (el 7 q (mkL k es)) ve := hE
        rw [show el 7 q (mkL k es) = mkL (k + cntL (es.take (q * 7))) (el 7 q es) from mk_el (sh := shGateGrant) HT.out hlt] at hE1
        obtain ⟨d, hd⟩ : ∃ d, d = el 7 q es := ⟨_, rfl⟩
        have hte : Typ shGateGrant d := by rw [hd]; exact HT.out.el hlt
        have hcn : k + cntL (es.take (q * 7)) + cntL d ≤ 4000000000000000000 := by rw [hd]; have := @cnt_el q 7 es; omega
        have hnx : cntL (es.take ((q + 1) * 7)) = cntL (es.take (q * 7)) + cntL d := by rw [hd]; exact cnt_next (sh := shGateGrant) HT.out hlt
        rw [← hd] at hE1
        clear hE hd
        obtain ⟨kq, hkq⟩ : ∃ kq : Nat, kq = k + cntL (es.take (q * 7)) := ⟨_, rfl⟩
        rw [← hkq] at hcn hE1 ⊢
        have HNX : Hid (k + cntL (es.take ((q + 1) * 7)) = kq + cntL d) := by show _ = _; omega
        obtain ⟨a0, a1, a2, n3, e3, a4, a5, a6, rfl, t3⟩ := typGateGrant hte
        simp only [mkL] at hE1
        obtain ⟨v3, rfl, r3⟩ := rawGateGrant hE1
        have hkq1 : 1 ≤ kq := by omega
        have hkq2 : kq ≤ 4000000000000000000 := by omega
        simp only [cntL] at hcn
        have HCN := uh hcn
        have HPR : Hid (p < wr.heap.size) := Nat.lt_of_lt_of_le HP.out HB.out.size
        have HG : Hid (wr.rangeAt p (o + q * 7) _) := hrng
        have R3 := uh r3
        clear hcn hE1 hte hkq hnx hrng r3
        have hm0 : (0 : Int) ≤ (q : Int) := by omega
        have hm3 : (q : Int) < (n : Int) := by omega
        have hbz := HPR.out
        have gc : wr.cell? ⟨p, o + q * 7, none⟩ = some (.int .i64 (kq : Int)) := rA_get HG.out 0 _ rfl
        go_upto_region 6 with fail
        clear gc hbz
        obtain ⟨k0, hk0⟩ : ∃ k0 : Nat, k0 = kq + 1 := ⟨_, rfl⟩
        have hkc0 : (kq : Int) + 1 = (k0 : Int) := by omega
        have HK0 := uh hk0
        have kb0 : 1 ≤ k0 ∧ k0 ≤ 4000000000000000000 := by have := HCN.out; have := HK0.out; omega
        obtain ⟨kl0, ku0⟩ := kb0
        try rw [← hk0] at HG
        try rw [← hk0] at R3
        clear hk0
        go_upto_region 7 with fail
        clear hkc0
        have hbz := HPR.out
        have gc : wr.cell? ⟨p, o + q * 7 + 1, none⟩ = some (.string (mt k0)) := rA_get HG.out 1 _ rfl
        have hNE := upst_some wr
        have hbz2 : ∀ px : UPst wr, p < px.W.heap.size := fun px => px.size hbz
        have S1 : ∀ px : UPst wr, px.W.cell? ⟨p, o + q * 7 + 1, none⟩ = some (.string (mt k0)) := fun px => px.cell gc hbz
        go_upto_region 7 with fail
        clear gc hbz
        refine uregion wr (Below.refl _ _) (by kernel_rfl) (by kernel_rfl) ?_
        repeat (first
          | go_big_quiet_skip
          | (go_big_quiet_want; go_big_quiet_op; first | go_big_quiet_on | (apply Exists.intro; refine ⟨fun px => ?_, ?_⟩; (focus ((go_at_call 53; refine (markText k0 _ (by omega) (by omega)).mono ?_; rintro e w' ⟨he, hb⟩; exact ⟨he, ⟨w', blw_trans px.ok hb⟩, rfl⟩))); go_big_quiet_on)))
        refine wpQuiet_nil ?_
        intro _ hw'
        obtain ⟨z1, hw''⟩ := hw'
        subst hw''
        replace HB := uh (blw_trans HB.out z1.ok)
        replace HG := uh (rA_later HG.out HPR.out z1.ok)
        replace R3 := uh (R3.out.later z1.ok)
        replace HPR := uh (Nat.lt_of_lt_of_le HPR.out z1.ok.size)
        clear S1 hbz2 hNE
        obtain ⟨k1, hk1⟩ : ∃ k1 : Nat, k1 = k0 + 1 := ⟨_, rfl⟩
        have hkc1 : (k0 : Int) + 1 = (k1 : Int) := by omega
        have HK1 := uh hk1
        have kb1 : 1 ≤ k1 ∧ k1 ≤ 4000000000000000000 := by have := HCN.out; have := HK0.out; have := HK1.out; omega
        obtain ⟨kl1, ku1⟩ := kb1
        try rw [← hk1] at HG
        try rw [← hk1] at R3
        clear hk1
        go_upto_region 10 with fail
        clear hkc1
        have hbz := HPR.out
        have gc : z1.W.cell? ⟨p, o + q * 7 + 2, none⟩ = some (.string (mt k1)) := rA_get HG.out 2 _ rfl
        have hNE := upst_some z1.W
        have hbz2 : ∀ px : UPst z1.W, p < px.W.heap.size := fun px => px.size hbz
        have S1 : ∀ px : UPst z1.W, px.W.cell? ⟨p, o + q * 7 + 2, none⟩ = some (.string (mt k1)) := fun px => px.cell gc hbz
        go_upto_region 10 with fail
        clear gc hbz
        refine uregion z1.W (Below.refl _ _) (by kernel_rfl) (by kernel_rfl) ?_
        repeat (first
          | go_big_quiet_skip
          | (go_big_quiet_want; go_big_quiet_op; first | go_big_quiet_on | (apply Exists.intro; refine ⟨fun px => ?_, ?_⟩; (focus ((go_at_call 53; refine (markText k1 _ (by omega) (by omega)).mono ?_; rintro e w' ⟨he, hb⟩; exact ⟨he, ⟨w', blw_trans px.ok hb⟩, rfl⟩))); go_big_quiet_on)))
        refine wpQuiet_nil ?_
        intro _ hw'
        obtain ⟨z2, hw''⟩ := hw'
        subst hw''
        replace HB := uh (blw_trans HB.out z2.ok)
        replace HG := uh (rA_later HG.out HPR.out z2.ok)
        replace R3 := uh (R3.out.later z2.ok)
        replace HPR := uh (Nat.lt_of_lt_of_le HPR.out z2.ok.size)
        clear S1 hbz2 hNE
        obtain ⟨k2, hk2⟩ : ∃ k2 : Nat, k2 = k1 + 1 := ⟨_, rfl⟩
        have hkc2 : (k1 : Int) + 1 = (k2 : Int) := by omega
        have HK2 := uh hk2
        have kb2 : 1 ≤ k2 ∧ k2 ≤ 4000000000000000000 := by have := HCN.out; have := HK0.out; have := HK1.out; have := HK2.out; omega
        obtain ⟨kl2, ku2⟩ := kb2
        try rw [← hk2] at HG
        try rw [← hk2] at R3
        clear hk2
        go_upto_region 13 with fail
        clear hkc2
        have hbz := HPR.out
        obtain ⟨va3, vc3, hva⟩ := R3.out.len0
        subst hva
        have gc : z2.W.cell? ⟨p, o + q * 7 + 3, none⟩ = some (.slice va3 n3 vc3) := rA_get HG.out 3 _ rfl
        obtain ⟨k3, hk3⟩ : ∃ k3 : Nat, k3 = k2 + cntL e3 := ⟨_, rfl⟩
        have HK3 := uh hk3
        have kb3 : 1 ≤ k3 ∧ k3 ≤ 4000000000000000000 := by have := HCN.out; have := HK0.out; have := HK1.out; have := HK2.out; have := HK3.out; omega
        obtain ⟨kl3, ku3⟩ := kb3
        have kn3 : ¬ (k3 : Int) < 0 := by omega
        clear hk3
        go_wp2_with fail
        refine (heldIntS n3 e3 (.slice va3 n3 vc3) k2 z2.W t3 R3.out (by omega) (by have := HK3.out; omega)).mono ?_
        rintro e x3 ⟨he, hb3⟩
        rw [← HK3.out] at he
        subst he
        replace HB := uh (blw_trans HB.out hb3)
        replace HG := uh (rA_later HG.out HPR.out hb3)
        replace HPR := uh (Nat.lt_of_lt_of_le HPR.out hb3.size)
        clear gc hbz hb3
        try rw [← HK3.out] at HG
        go_upto_region 16 with fail
        have hbz := HPR.out
        have gc : x3.cell? ⟨p, o + q * 7 + 4, none⟩ = some (.string (mt k3)) := rA_get HG.out 4 _ rfl
        have hNE := upst_some x3
        have hbz2 : ∀ px : UPst x3, p < px.W.heap.size := fun px => px.size hbz
        have S1 : ∀ px : UPst x3, px.W.cell? ⟨p, o + q * 7 + 4, none⟩ = some (.string (mt k3)) := fun px => px.cell gc hbz
        go_upto_region 16 with fail
        clear gc hbz
        refine uregion x3 (Below.refl _ _) (by kernel_rfl) (by kernel_rfl) ?_
        repeat (first
          | go_big_quiet_skip
          | (go_big_quiet_want; go_big_quiet_op; first | go_big_quiet_on | (apply Exists.intro; refine ⟨fun px => ?_, ?_⟩; (focus ((go_at_call 53; refine (markText k3 _ (by omega) (by omega)).mono ?_; rintro e w' ⟨he, hb⟩; exact ⟨he, ⟨w', blw_trans px.ok hb⟩, rfl⟩))); go_big_quiet_on)))
        refine wpQuiet_nil ?_
        intro _ hw'
        obtain ⟨z4, hw''⟩ := hw'
        subst hw''
        replace HB := uh (blw_trans HB.out z4.ok)
        replace HG := uh (rA_later HG.out HPR.out z4.ok)
        replace HPR := uh (Nat.lt_of_lt_of_le HPR.out z4.ok.size)
        clear S1 hbz2 hNE
        obtain ⟨k4, hk4⟩ : ∃ k4 : Nat, k4 = k3 + 1 := ⟨_, rfl⟩
        have hkc4 : (k3 : Int) + 1 = (k4 : Int) := by omega
        have HK4 := uh hk4
        have kb4 : 1 ≤ k4 ∧ k4 ≤ 4000000000000000000 := by have := HCN.out; have := HK0.out; have := HK1.out; have := HK2.out; have := HK3.out; have := HK4.out; omega
        obtain ⟨kl4, ku4⟩ := kb4
        try rw [← hk4] at HG
        clear hk4
        go_upto_region 19 with fail
        clear hkc4
        have hbz := HPR.out
        have gc : z4.W.cell? ⟨p, o + q * 7 + 5, none⟩ = some (.string (mt k4)) := rA_get HG.out 5 _ rfl
        have hNE := upst_some z4.W
        have hbz2 : ∀ px : UPst z4.W, p < px.W.heap.size := fun px => px.size hbz
        have S1 : ∀ px : UPst z4.W, px.W.cell? ⟨p, o + q * 7 + 5, none⟩ = some (.string (mt k4)) := fun px => px.cell gc hbz
        go_upto_region 19 with fail
        clear gc hbz
        refine uregion z4.W (Below.refl _ _) (by kernel_rfl) (by kernel_rfl) ?_
        repeat (first
          | go_big_quiet_skip
          | (go_big_quiet_want; go_big_quiet_op; first | go_big_quiet_on | (apply Exists.intro; refine ⟨fun px => ?_, ?_⟩; (focus ((go_at_call 53; refine (markText k4 _ (by omega) (by omega)).mono ?_; rintro e w' ⟨he, hb⟩; exact ⟨he, ⟨w', blw_trans px.ok hb⟩, rfl⟩))); go_big_quiet_on)))
        refine wpQuiet_nil ?_
        intro _ hw'
        obtain ⟨z5, hw''⟩ := hw'
        subst hw''
        replace HB := uh (blw_trans HB.out z5.ok)
        replace HG := uh (rA_later HG.out HPR.out z5.ok)
        replace HPR := uh (Nat.lt_of_lt_of_le HPR.out z5.ok.size)
        clear S1 hbz2 hNE
        obtain ⟨k5, hk5⟩ : ∃ k5 : Nat, k5 = k4 + 1 := ⟨_, rfl⟩
        have hkc5 : (k4 : Int) + 1 = (k5 : Int) := by omega
        have HK5 := uh hk5
        have kb5 : 1 ≤ k5 ∧ k5 ≤ 4000000000000000000 := by have := HCN.out; have := HK0.out; have := HK1.out; have := HK2.out; have := HK3.out; have := HK4.out; have := HK5.out; omega
        obtain ⟨kl5, ku5⟩ := kb5
        try rw [← hk5] at HG
        clear hk5
        go_upto_region 22 with fail
        clear hkc5
        have hbz := HPR.out
        have gc : z5.W.cell? ⟨p, o + q * 7 + 6, none⟩ = some (.string (mt k5)) := rA_get HG.out 6 _ rfl
        have hNE := upst_some z5.W
        have hbz2 : ∀ px : UPst z5.W, p < px.W.heap.size := fun px => px.size hbz
        have S1 : ∀ px : UPst z5.W, px.W.cell? ⟨p, o + q * 7 + 6, none⟩ = some (.string (mt k5)) := fun px => px.cell gc hbz
        go_upto_region 22 with fail
        clear gc hbz
        refine uregion z5.W (Below.refl _ _) (by kernel_rfl) (by kernel_rfl) ?_
        repeat (first
          | go_big_quiet_skip
          | (go_big_quiet_want; go_big_quiet_op; first | go_big_quiet_on | (apply Exists.intro; refine ⟨fun px => ?_, ?_⟩; (focus ((go_at_call 53; refine (markText k5 _ (by omega) (by omega)).mono ?_; rintro e w' ⟨he, hb⟩; exact ⟨he, ⟨w', blw_trans px.ok hb⟩, rfl⟩))); go_big_quiet_on)))
        refine wpQuiet_nil ?_
        intro _ hw'
        obtain ⟨z6, hw''⟩ := hw'
        subst hw''
        replace HB := uh (blw_trans HB.out z6.ok)
        replace HG := uh (rA_later HG.out HPR.out z6.ok)
        replace HPR := uh (Nat.lt_of_lt_of_le HPR.out z6.ok.size)
        clear S1 hbz2 hNE
        obtain ⟨k6, hk6⟩ : ∃ k6 : Nat, k6 = k5 + 1 := ⟨_, rfl⟩
        have hkc6 : (k5 : Int) + 1 = (k6 : Int) := by omega
        have HK6 := uh hk6
        have kb6 : 1 ≤ k6 ∧ k6 ≤ 4000000000000000000 := by have := HCN.out; have := HK0.out; have := HK1.out; have := HK2.out; have := HK3.out; have := HK4.out; have := HK5.out; have := HK6.out; omega
        obtain ⟨kl6, ku6⟩ := kb6
        clear hk6
        have HF : Hid (k6 = k + cntL (es.take ((q + 1) * 7))) := by
          have := HNX.out; simp only [cntL] at this; have := HK0.out; have := HK1.out; have := HK2.out; have := HK3.out; have := HK4.out; have := HK5.out; have := HK6.out; show _ = _; omega
        go_wp2
        go_roundw
        case rel => exact ⟨q + 1, by omega, by go_num, by rw [← HF.out], HB.out⟩
        case measure => simp [intOf]; omega
      · obtain rfl : q = n := by omega
        have el_ : es.length = q * 7 := HT.out.rows
        rw [← el_, List.take_length]
        go_wp2
        go_ret
        exact ⟨rfl, HB.out⟩
set_option maxRecDepth 8000 in
set_option maxHeartbeats 8000000 in
theorem heldGateLedgerS (n : Nat) (es : List Dt) (v : Value) (k : Nat) (w : World) (ht : Typ (reps n shGateLedger) es) (h : Raw w [.row 119 shGateLedger] [.row n (mkL k es)] [v]) (h1 : 1 ≤ k) (hk : k + cntL es ≤ 4000000000000000000) :
    Calls Try.prog 63 #[v, .int .i64 (k : Int)] w fun e w' => e = .returned (.int .i64 ((k + cntL es : Nat) : Int)) ∧ Below w.heap.size w w' := by
  have HT := uh ht
  clear ht
  rcases h.slice with ⟨rfl, hes, a, c, rfl⟩ | ⟨p, o, c, rfl, hp, hn, vs, hr, hR⟩
  · have he0 : es = [] := List.eq_nil_of_length_eq_zero (by have := HT.out.rows; omega)
    subst he0
    go_enter Try.func63, Try.ntmps63
    go_wp2
    refine wp_loop_rounds 1 ?_
    rw [rounds_succ]
    go_wp2
    go_ret
    exact ⟨by simp [cntL], Below.refl _ _⟩
  · have HR := uh hR; have HRG := uh hr
    have HP := uh hp
    have hn1 : n ≤ 9223372036854775807 := hn.1
    clear hr hR h hn hp
    go_enter Try.func63, Try.ntmps63
    go_wp2
    go_loopw [1, 5] (fun kk i wr => ∃ q : Nat, q ≤ n ∧ i = .int .i64 (q : Int) ∧ kk = .int .i64 ((k + cntL (es.take (q * 4)) : Nat) : Int) ∧ Below w.heap.size w wr) (fun _ i _ => n - (intOf i).toNat)
    case atStart => exact ⟨0, Nat.zero_le _, rfl, by simp [cntL], Below.refl _ _⟩
    case round =>
      obtain ⟨q, hq, rfl, rfl, hM⟩ := hrel
      have HB := uh hM
      clear hM
      by_cases hlt : q < n
      · obtain ⟨ve, hE, hrng⟩ := (HR.out.later HB.out).el hlt (rA_later HRG.out HP.out HB.out)
        have hE1 : Raw wr shGateLedger (el 4 q (mkL k es)) ve := hE
        rw [show el 4 q (mkL k es) = mkL (k + cntL (es.take (q * 4))) (el 4 q es) from mk_el (sh := shGateLedger) HT.out hlt] at hE1
        obtain ⟨d, hd⟩ : ∃ d, d = el 4 q es := ⟨_, rfl⟩
        have hte : Typ shGateLedger d := by rw [hd]; exact HT.out.el hlt
        have hcn : k + cntL (es.take (q * 4)) + cntL d ≤ 4000000000000000000 := by rw [hd]; have := @cnt_el q 4 es; omega
        have hnx : cntL (es.take ((q + 1) * 4)) = cntL (es.take (q * 4)) + cntL d := by rw [hd]; exact cnt_next (sh := shGateLedger) HT.out hlt
        rw [← hd] at hE1
        clear hE hd
        obtain ⟨kq, hkq⟩ : ∃ kq : Nat, kq = k + cntL (es.take (q * 4)) := ⟨_, rfl⟩
        rw [← hkq] at hcn hE1 ⊢
        have HNX : Hid (k + cntL (es.take ((q + 1) * 4)) = kq + cntL d) := by show _ = _; omega
        obtain ⟨a0, a1, a2, a3, rfl⟩ := typGateLedger hte
        simp only [mkL] at hE1
        obtain rfl := rawGateLedger hE1
        have hkq1 : 1 ≤ kq := by omega
        have hkq2 : kq ≤ 4000000000000000000 := by omega
        simp only [cntL] at hcn
        have HCN := uh hcn
        have HPR : Hid (p < wr.heap.size) := Nat.lt_of_lt_of_le HP.out HB.out.size
        have HG : Hid (wr.rangeAt p (o + q * 4) _) := hrng
        clear hcn hE1 hte hkq hnx hrng
        have hm0 : (0 : Int) ≤ (q : Int) := by omega
        have hm3 : (q : Int) < (n : Int) := by omega
        have hbz := HPR.out
        have gc : wr.cell? ⟨p, o + q * 4, none⟩ = some (.string (mt kq)) := rA_get HG.out 0 _ rfl
        have hNE := upst_some wr
        have hbz2 : ∀ px : UPst wr, p < px.W.heap.size := fun px => px.size hbz
        have S1 : ∀ px : UPst wr, px.W.cell? ⟨p, o + q * 4, none⟩ = some (.string (mt kq)) := fun px => px.cell gc hbz
        go_upto_region 4 with fail
        clear gc hbz
        refine uregion wr (Below.refl _ _) (by kernel_rfl) (by kernel_rfl) ?_
        repeat (first
          | go_big_quiet_skip
          | (go_big_quiet_want; go_big_quiet_op; first | go_big_quiet_on | (apply Exists.intro; refine ⟨fun px => ?_, ?_⟩; (focus ((go_at_call 53; refine (markText kq _ (by omega) (by omega)).mono ?_; rintro e w' ⟨he, hb⟩; exact ⟨he, ⟨w', blw_trans px.ok hb⟩, rfl⟩))); go_big_quiet_on)))
        refine wpQuiet_nil ?_
        intro _ hw'
        obtain ⟨z0, hw''⟩ := hw'
        subst hw''
        replace HB := uh (blw_trans HB.out z0.ok)
        replace HG := uh (rA_later HG.out HPR.out z0.ok)
        replace HPR := uh (Nat.lt_of_lt_of_le HPR.out z0.ok.size)
        clear S1 hbz2 hNE
        obtain ⟨k0, hk0⟩ : ∃ k0 : Nat, k0 = kq + 1 := ⟨_, rfl⟩
        have hkc0 : (kq : Int) + 1 = (k0 : Int) := by omega
        have HK0 := uh hk0
        have kb0 : 1 ≤ k0 ∧ k0 ≤ 4000000000000000000 := by have := HCN.out; have := HK0.out; omega
        obtain ⟨kl0, ku0⟩ := kb0
        try rw [← hk0] at HG
        clear hk0
        go_upto_region 7 with fail
        clear hkc0
        have hbz := HPR.out
        have gc : z0.W.cell? ⟨p, o + q * 4 + 1, none⟩ = some (.string (mt k0)) := rA_get HG.out 1 _ rfl
        have hNE := upst_some z0.W
        have hbz2 : ∀ px : UPst z0.W, p < px.W.heap.size := fun px => px.size hbz
        have S1 : ∀ px : UPst z0.W, px.W.cell? ⟨p, o + q * 4 + 1, none⟩ = some (.string (mt k0)) := fun px => px.cell gc hbz
        go_upto_region 7 with fail
        clear gc hbz
        refine uregion z0.W (Below.refl _ _) (by kernel_rfl) (by kernel_rfl) ?_
        repeat (first
          | go_big_quiet_skip
          | (go_big_quiet_want; go_big_quiet_op; first | go_big_quiet_on | (apply Exists.intro; refine ⟨fun px => ?_, ?_⟩; (focus ((go_at_call 53; refine (markText k0 _ (by omega) (by omega)).mono ?_; rintro e w' ⟨he, hb⟩; exact ⟨he, ⟨w', blw_trans px.ok hb⟩, rfl⟩))); go_big_quiet_on)))
        refine wpQuiet_nil ?_
        intro _ hw'
        obtain ⟨z1, hw''⟩ := hw'
        subst hw''
        replace HB := uh (blw_trans HB.out z1.ok)
        replace HG := uh (rA_later HG.out HPR.out z1.ok)
        replace HPR := uh (Nat.lt_of_lt_of_le HPR.out z1.ok.size)
        clear S1 hbz2 hNE
        obtain ⟨k1, hk1⟩ : ∃ k1 : Nat, k1 = k0 + 1 := ⟨_, rfl⟩
        have hkc1 : (k0 : Int) + 1 = (k1 : Int) := by omega
        have HK1 := uh hk1
        have kb1 : 1 ≤ k1 ∧ k1 ≤ 4000000000000000000 := by have := HCN.out; have := HK0.out; have := HK1.out; omega
        obtain ⟨kl1, ku1⟩ := kb1
        try rw [← hk1] at HG
        clear hk1
        go_upto_region 10 with fail
        clear hkc1
        have hbz := HPR.out
        have gc : z1.W.cell? ⟨p, o + q * 4 + 2, none⟩ = some (.int .i64 (k1 : Int)) := rA_get HG.out 2 _ rfl
        go_upto_region 12 with fail
        clear gc hbz
        obtain ⟨k2, hk2⟩ : ∃ k2 : Nat, k2 = k1 + 1 := ⟨_, rfl⟩
        have hkc2 : (k1 : Int) + 1 = (k2 : Int) := by omega
        have HK2 := uh hk2
        have kb2 : 1 ≤ k2 ∧ k2 ≤ 4000000000000000000 := by have := HCN.out; have := HK0.out; have := HK1.out; have := HK2.out; omega
        obtain ⟨kl2, ku2⟩ := kb2
        try rw [← hk2] at HG
        clear hk2
        go_upto_region 13 with fail
        clear hkc2
        have hbz := HPR.out
        have gc : z1.W.cell? ⟨p, o + q * 4 + 3, none⟩ = some (.int .i64 (k2 : Int)) := rA_get HG.out 3 _ rfl
        go_upto_region 15 with fail
        clear gc hbz
        obtain ⟨k3, hk3⟩ : ∃ k3 : Nat, k3 = k2 + 1 := ⟨_, rfl⟩
        have hkc3 : (k2 : Int) + 1 = (k3 : Int) := by omega
        have HK3 := uh hk3
        have kb3 : 1 ≤ k3 ∧ k3 ≤ 4000000000000000000 := by have := HCN.out; have := HK0.out; have := HK1.out; have := HK2.out; have := HK3.out; omega
        obtain ⟨kl3, ku3⟩ := kb3
        clear hk3
        have HF : Hid (k3 = k + cntL (es.take ((q + 1) * 4))) := by
          have := HNX.out; simp only [cntL] at this; have := HK0.out; have := HK1.out; have := HK2.out; have := HK3.out; show _ = _; omega
        go_wp2
        go_roundw
        case rel => exact ⟨q + 1, by omega, by go_num, by rw [← HF.out], HB.out⟩
        case measure => simp [intOf]; omega
      · obtain rfl : q = n := by omega
        have el_ : es.length = q * 4 := HT.out.rows
        rw [← el_, List.take_length]
        go_wp2
        go_ret
        exact ⟨rfl, HB.out⟩
set_option maxRecDepth 8000 in
set_option maxHeartbeats 8000000 in
theorem heldGatePurseS (n : Nat) (es : List Dt) (v : Value) (k : Nat) (w : World) (ht : Typ (reps n shGatePurse) es) (h : Raw w [.row 122 shGatePurse] [.row n (mkL k es)] [v]) (h1 : 1 ≤ k) (hk : k + cntL es ≤ 4000000000000000000) :
    Calls Try.prog 64 #[v, .int .i64 (k : Int)] w fun e w' => e = .returned (.int .i64 ((k + cntL es : Nat) : Int)) ∧ Below w.heap.size w w' := by
  have HT := uh ht
  clear ht
  rcases h.slice with ⟨rfl, hes, a, c, rfl⟩ | ⟨p, o, c, rfl, hp, hn, vs, hr, hR⟩
  · have he0 : es = [] := List.eq_nil_of_length_eq_zero (by have := HT.out.rows; omega)
    subst he0
    go_enter Try.func64, Try.ntmps64
    go_wp2
    refine wp_loop_rounds 1 ?_
    rw [rounds_succ]
    go_wp2
    go_ret
    exact ⟨by simp [cntL], Below.refl _ _⟩
  · have HR := uh hR; have HRG := uh hr
    have HP := uh hp
    have hn1 : n ≤ 9223372036854775807 := hn.1
    clear hr hR h hn hp
    go_enter Try.func64, Try.ntmps64
    go_wp2
    go_loopw [1, 5] (fun kk i wr => ∃ q : Nat, q ≤ n ∧ i = .int .i64 (q : Int) ∧ kk = .int .i64 ((k + cntL (es.take (q * 5)) : Nat) : Int) ∧ Below w.heap.size w wr) (fun _ i _ => n - (intOf i).toNat)
    case atStart => exact ⟨0, Nat.zero_le _, rfl, by simp [cntL], Below.refl _ _⟩
    case round =>
      obtain ⟨q, hq, rfl, rfl, hM⟩ := hrel
      have HB := uh hM
      clear hM
      by_cases hlt : q < n
      · obtain ⟨ve, hE, hrng⟩ := (HR.out.later HB.out).el hlt (rA_later HRG.out HP.out HB.out)
        have hE1 : Raw wr shGatePurse (el 5 q (mkL k es)) ve := hE
        rw [show el 5 q (mkL k es) = mkL (k + cntL (es.take (q * 5))) (el 5 q es) from mk_el (sh := shGatePurse) HT.out hlt] at hE1
        obtain ⟨d, hd⟩ : ∃ d, d = el 5 q es := ⟨_, rfl⟩
        have hte : Typ shGatePurse d := by rw [hd]; exact HT.out.el hlt
        have hcn : k + cntL (es.take (q * 5)) + cntL d ≤ 4000000000000000000 := by rw [hd]; have := @cnt_el q 5 es; omega
        have hnx : cntL (es.take ((q + 1) * 5)) = cntL (es.take (q * 5)) + cntL d := by rw [hd]; exact cnt_next (sh := shGatePurse) HT.out hlt
        rw [← hd] at hE1
        clear hE hd
        obtain ⟨kq, hkq⟩ : ∃ kq : Nat, kq = k + cntL (es.take (q * 5)) := ⟨_, rfl⟩
        rw [← hkq] at hcn hE1 ⊢
        have HNX : Hid (k + cntL (es.take ((q + 1) * 5)) = kq + cntL d) := by show _ = _; omega
        obtain ⟨a0, a1, a2, a3, a4, rfl⟩ := typGatePurse hte
        simp only [mkL] at hE1
        obtain rfl := rawGatePurse hE1
        have hkq1 : 1 ≤ kq := by omega
        have hkq2 : kq ≤ 4000000000000000000 := by omega
        simp only [cntL] at hcn
        have HCN := uh hcn
        have HPR : Hid (p < wr.heap.size) := Nat.lt_of_lt_of_le HP.out HB.out.size
        have HG : Hid (wr.rangeAt p (o + q * 5) _) := hrng
        clear hcn hE1 hte hkq hnx hrng
        have hm0 : (0 : Int) ≤ (q : Int) := by omega
        have hm3 : (q : Int) < (n : Int) := by omega
        have hbz := HPR.out
        have gc : wr.cell? ⟨p, o + q * 5, none⟩ = some (.string (mt kq)) := rA_get HG.out 0 _ rfl
        have hNE := upst_some wr
        have hbz2 : ∀ px : UPst wr, p < px.W.heap.size := fun px => px.size hbz
        have S1 : ∀ px : UPst wr, px.W.cell? ⟨p, o + q * 5, none⟩ = some (.string (mt kq)) := fun px => px.cell gc hbz
        go_upto_region 4 with fail
        clear gc hbz
        refine uregion wr (Below.refl _ _) (by kernel_rfl) (by kernel_rfl) ?_
        repeat (first
          | go_big_quiet_skip
          | (go_big_quiet_want; go_big_quiet_op; first | go_big_quiet_on | (apply Exists.intro; refine ⟨fun px => ?_, ?_⟩; (focus ((go_at_call 53; refine (markText kq _ (by omega) (by omega)).mono ?_; rintro e w' ⟨he, hb⟩; exact ⟨he, ⟨w', blw_trans px.ok hb⟩, rfl⟩))); go_big_quiet_on)))
        refine wpQuiet_nil ?_
        intro _ hw'
        obtain ⟨z0, hw''⟩ := hw'
        subst hw''
        replace HB := uh (blw_trans HB.out z0.ok)
        replace HG := uh (rA_later HG.out HPR.out z0.ok)
        replace HPR := uh (Nat.lt_of_lt_of_le HPR.out z0.ok.size)
        clear S1 hbz2 hNE
        obtain ⟨k0, hk0⟩ : ∃ k0 : Nat, k0 = kq + 1 := ⟨_, rfl⟩
        have hkc0 : (kq : Int) + 1 = (k0 : Int) := by omega
        have HK0 := uh hk0
        have kb0 : 1 ≤ k0 ∧ k0 ≤ 4000000000000000000 := by have := HCN.out; have := HK0.out; omega
        obtain ⟨kl0, ku0⟩ := kb0
        try rw [← hk0] at HG
        clear hk0
        go_upto_region 7 with fail
        clear hkc0
        have hbz := HPR.out
        have gc : z0.W.cell? ⟨p, o + q * 5 + 1, none⟩ = some (.string (mt k0)) := rA_get HG.out 1 _ rfl
        have hNE := upst_some z0.W
        have hbz2 : ∀ px : UPst z0.W, p < px.W.heap.size := fun px => px.size hbz
        have S1 : ∀ px : UPst z0.W, px.W.cell? ⟨p, o + q * 5 + 1, none⟩ = some (.string (mt k0)) := fun px => px.cell gc hbz
        go_upto_region 7 with fail
        clear gc hbz
        refine uregion z0.W (Below.refl _ _) (by kernel_rfl) (by kernel_rfl) ?_
        repeat (first
          | go_big_quiet_skip
          | (go_big_quiet_want; go_big_quiet_op; first | go_big_quiet_on | (apply Exists.intro; refine ⟨fun px => ?_, ?_⟩; (focus ((go_at_call 53; refine (markText k0 _ (by omega) (by omega)).mono ?_; rintro e w' ⟨he, hb⟩; exact ⟨he, ⟨w', blw_trans px.ok hb⟩, rfl⟩))); go_big_quiet_on)))
        refine wpQuiet_nil ?_
        intro _ hw'
        obtain ⟨z1, hw''⟩ := hw'
        subst hw''
        replace HB := uh (blw_trans HB.out z1.ok)
        replace HG := uh (rA_later HG.out HPR.out z1.ok)
        replace HPR := uh (Nat.lt_of_lt_of_le HPR.out z1.ok.size)
        clear S1 hbz2 hNE
        obtain ⟨k1, hk1⟩ : ∃ k1 : Nat, k1 = k0 + 1 := ⟨_, rfl⟩
        have hkc1 : (k0 : Int) + 1 = (k1 : Int) := by omega
        have HK1 := uh hk1
        have kb1 : 1 ≤ k1 ∧ k1 ≤ 4000000000000000000 := by have := HCN.out; have := HK0.out; have := HK1.out; omega
        obtain ⟨kl1, ku1⟩ := kb1
        try rw [← hk1] at HG
        clear hk1
        go_upto_region 10 with fail
        clear hkc1
        have hbz := HPR.out
        have gc : z1.W.cell? ⟨p, o + q * 5 + 2, none⟩ = some (.string (mt k1)) := rA_get HG.out 2 _ rfl
        have hNE := upst_some z1.W
        have hbz2 : ∀ px : UPst z1.W, p < px.W.heap.size := fun px => px.size hbz
        have S1 : ∀ px : UPst z1.W, px.W.cell? ⟨p, o + q * 5 + 2, none⟩ = some (.string (mt k1)) := fun px => px.cell gc hbz
        go_upto_region 10 with fail
        clear gc hbz
        refine uregion z1.W (Below.refl _ _) (by kernel_rfl) (by kernel_rfl) ?_
        repeat (first
          | go_big_quiet_skip
          | (go_big_quiet_want; go_big_quiet_op; first | go_big_quiet_on | (apply Exists.intro; refine ⟨fun px => ?_, ?_⟩; (focus ((go_at_call 53; refine (markText k1 _ (by omega) (by omega)).mono ?_; rintro e w' ⟨he, hb⟩; exact ⟨he, ⟨w', blw_trans px.ok hb⟩, rfl⟩))); go_big_quiet_on)))
        refine wpQuiet_nil ?_
        intro _ hw'
        obtain ⟨z2, hw''⟩ := hw'
        subst hw''
        replace HB := uh (blw_trans HB.out z2.ok)
        replace HG := uh (rA_later HG.out HPR.out z2.ok)
        replace HPR := uh (Nat.lt_of_lt_of_le HPR.out z2.ok.size)
        clear S1 hbz2 hNE
        obtain ⟨k2, hk2⟩ : ∃ k2 : Nat, k2 = k1 + 1 := ⟨_, rfl⟩
        have hkc2 : (k1 : Int) + 1 = (k2 : Int) := by omega
        have HK2 := uh hk2
        have kb2 : 1 ≤ k2 ∧ k2 ≤ 4000000000000000000 := by have := HCN.out; have := HK0.out; have := HK1.out; have := HK2.out; omega
        obtain ⟨kl2, ku2⟩ := kb2
        try rw [← hk2] at HG
        clear hk2
        go_upto_region 13 with fail
        clear hkc2
        have hbz := HPR.out
        have gc : z2.W.cell? ⟨p, o + q * 5 + 3, none⟩ = some (.int .i64 (k2 : Int)) := rA_get HG.out 3 _ rfl
        go_upto_region 15 with fail
        clear gc hbz
        obtain ⟨k3, hk3⟩ : ∃ k3 : Nat, k3 = k2 + 1 := ⟨_, rfl⟩
        have hkc3 : (k2 : Int) + 1 = (k3 : Int) := by omega
        have HK3 := uh hk3
        have kb3 : 1 ≤ k3 ∧ k3 ≤ 4000000000000000000 := by have := HCN.out; have := HK0.out; have := HK1.out; have := HK2.out; have := HK3.out; omega
        obtain ⟨kl3, ku3⟩ := kb3
        try rw [← hk3] at HG
        clear hk3
        go_upto_region 16 with fail
        clear hkc3
        have hbz := HPR.out
        have gc : z2.W.cell? ⟨p, o + q * 5 + 4, none⟩ = some (.int .i64 (k3 : Int)) := rA_get HG.out 4 _ rfl
        go_upto_region 18 with fail
        clear gc hbz
        obtain ⟨k4, hk4⟩ : ∃ k4 : Nat, k4 = k3 + 1 := ⟨_, rfl⟩
        have hkc4 : (k3 : Int) + 1 = (k4 : Int) := by omega
        have HK4 := uh hk4
        have kb4 : 1 ≤ k4 ∧ k4 ≤ 4000000000000000000 := by have := HCN.out; have := HK0.out; have := HK1.out; have := HK2.out; have := HK3.out; have := HK4.out; omega
        obtain ⟨kl4, ku4⟩ := kb4
        clear hk4
        have HF : Hid (k4 = k + cntL (es.take ((q + 1) * 5))) := by
          have := HNX.out; simp only [cntL] at this; have := HK0.out; have := HK1.out; have := HK2.out; have := HK3.out; have := HK4.out; show _ = _; omega
        go_wp2
        go_roundw
        case rel => exact ⟨q + 1, by omega, by go_num, by rw [← HF.out], HB.out⟩
        case measure => simp [intOf]; omega
      · obtain rfl : q = n := by omega
        have el_ : es.length = q * 5 := HT.out.rows
        rw [← el_, List.take_length]
        go_wp2
        go_ret
        exact ⟨rfl, HB.out⟩
set_option maxRecDepth 8000 in
set_option maxHeartbeats 8000000 in
theorem heldGateBook (ds : List Dt) (cs : List Value) (k : Nat) (w : World) (ht : Typ shGateBook ds) (h : Raw w shGateBook (mkT k ds) cs) (h1 : 1 ≤ k) (hk : k + cntT ds ≤ 4000000000000000000) :
    Calls Try.prog 30 #[.agg cs.toArray, .int .i64 (k : Int)] w fun e w' => e = .returned (.int .i64 ((k + cntT ds : Nat) : Int)) ∧ Below w.heap.size w w' := by
  obtain ⟨a0, a1, a2, n3, e3, n4, e4, n5, e5, n6, e6, rfl, t3, t4, t5, t6⟩ := segTypGateBook ht
  simp only [mkT] at h
  obtain ⟨x0, rfl, h_0⟩ := h.c_i
  obtain ⟨x1, rfl, h_1⟩ := h_0.c_i
  obtain ⟨x2, rfl, h_2⟩ := h_1.c_i
  obtain ⟨v3, x3, rfl, r3, h_3⟩ := h_2.c_r
  obtain ⟨v4, x4, rfl, r4, h_4⟩ := h_3.c_r
  obtain ⟨v5, x5, rfl, r5, h_5⟩ := h_4.c_r
  obtain ⟨v6, x6, rfl, r6, h_6⟩ := h_5.c_r
  obtain rfl := h_6.c_n
  obtain ⟨cs, hcs⟩ : ∃ cs : List Value, cs = .int .i64 a0 :: .int .i64 a1 :: .int .i64 a2 :: v3 :: v4 :: v5 :: v6 :: [] := ⟨_, rfl⟩
  rw [← hcs]
  have HCS := uh hcs
  simp only [cntT] at hk ⊢
  obtain ⟨wa, hwa⟩ : ∃ wa, wa = w.alloc (.cells cs.toArray 32) := ⟨_, rfl⟩
  have HB : Hid (Below w.heap.size w wa) := by show Below _ _ _; rw [hwa]; exact blw_alloc (Below.refl _ _) _
  have HX : Hid (LBox wa w.heap.size cs) := by show LBox _ _ _; rw [hwa]; exact LBox.new w cs.toArray _ _ rfl
  have R3 := uh (r3.later HB.out)
  have R4 := uh (r4.later HB.out)
  have R5 := uh (r5.later HB.out)
  have R6 := uh (r6.later HB.out)
  have HKK := uh hk
  clear hcs hk r3 r4 r5 r6
  go_enter Try.func30, Try.ntmps30
  go_upto_region 1 with fail
  rw [← hwa]
  clear hwa
  have hbz := HX.out.lt
  have hbx := boxGateBook  (by have := HX.out.at_; rw [HCS.out] at this; exact this)
  have gc := hbx.2.2.2.1
  clear hbx
  obtain ⟨k3, hk3⟩ : ∃ k3 : Nat, k3 = k + cntL e3 := ⟨_, rfl⟩
  have HK3 := uh hk3
  have kb3 : 1 ≤ k3 ∧ k3 ≤ 4000000000000000000 := by have := HKK.out; have := HK3.out; omega
  obtain ⟨kl3, ku3⟩ := kb3
  clear hk3
  have kn3 : ¬ (k3 : Int) < 0 := by omega
  obtain ⟨va3, vc3, hva⟩ := R3.out.len0
  subst hva
  go_wp2_with fail
  refine (heldGateObjectS n3 e3 (.slice va3 n3 vc3) k wa t3 (by have := R3.out; simpa only [Nat.add_zero] using this) (by omega) (by have := HK3.out; omega)).mono ?_
  rintro e x3 ⟨he, hb3⟩
  rw [← HK3.out] at he
  subst he
  replace HX := uh (HX.out.later hb3)
  replace HB := uh (blw_trans HB.out hb3)
  replace R4 := uh (R4.out.later hb3)
  replace R5 := uh (R5.out.later hb3)
  replace R6 := uh (R6.out.later hb3)
  clear gc hbz hb3
  have hbz := HX.out.lt
  have hbx := boxGateBook  (by have := HX.out.at_; rw [HCS.out] at this; exact this)
  have gc := hbx.2.2.2.2.1
  clear hbx
  obtain ⟨k4, hk4⟩ : ∃ k4 : Nat, k4 = k3 + cntL e4 := ⟨_, rfl⟩
  have HK4 := uh hk4
  have kb4 : 1 ≤ k4 ∧ k4 ≤ 4000000000000000000 := by have := HKK.out; have := HK3.out; have := HK4.out; omega
  obtain ⟨kl4, ku4⟩ := kb4
  clear hk4
  have kn4 : ¬ (k4 : Int) < 0 := by omega
  obtain ⟨va4, vc4, hva⟩ := R4.out.len0
  subst hva
  go_wp2_with fail
  refine (heldGateGrantS n4 e4 (.slice va4 n4 vc4) k3 x3 t4 (by have := R4.out; simpa only [HK3.out, Nat.add_zero] using this) (by omega) (by have := HK4.out; omega)).mono ?_
  rintro e x4 ⟨he, hb4⟩
  rw [← HK4.out] at he
  subst he
  replace HX := uh (HX.out.later hb4)
  replace HB := uh (blw_trans HB.out hb4)
  replace R5 := uh (R5.out.later hb4)
  replace R6 := uh (R6.out.later hb4)
  clear gc hbz hb4
  have hbz := HX.out.lt
  have hbx := boxGateBook  (by have := HX.out.at_; rw [HCS.out] at this; exact this)
  have gc := hbx.2.2.2.2.2.1
  clear hbx
  obtain ⟨k5, hk5⟩ : ∃ k5 : Nat, k5 = k4 + cntL e5 := ⟨_, rfl⟩
  have HK5 := uh hk5
  have kb5 : 1 ≤ k5 ∧ k5 ≤ 4000000000000000000 := by have := HKK.out; have := HK3.out; have := HK4.out; have := HK5.out; omega
  obtain ⟨kl5, ku5⟩ := kb5
  clear hk5
  have kn5 : ¬ (k5 : Int) < 0 := by omega
  obtain ⟨va5, vc5, hva⟩ := R5.out.len0
  subst hva
  go_wp2_with fail
  refine (heldGateLedgerS n5 e5 (.slice va5 n5 vc5) k4 x4 t5 (by have := R5.out; simpa only [HK3.out, HK4.out, Nat.add_zero] using this) (by omega) (by have := HK5.out; omega)).mono ?_
  rintro e x5 ⟨he, hb5⟩
  rw [← HK5.out] at he
  subst he
  replace HX := uh (HX.out.later hb5)
  replace HB := uh (blw_trans HB.out hb5)
  replace R6 := uh (R6.out.later hb5)
  clear gc hbz hb5
  have hbz := HX.out.lt
  have hbx := boxGateBook  (by have := HX.out.at_; rw [HCS.out] at this; exact this)
  have gc := hbx.2.2.2.2.2.2
  clear hbx
  obtain ⟨k6, hk6⟩ : ∃ k6 : Nat, k6 = k5 + cntL e6 := ⟨_, rfl⟩
  have HK6 := uh hk6
  have kb6 : 1 ≤ k6 ∧ k6 ≤ 4000000000000000000 := by have := HKK.out; have := HK3.out; have := HK4.out; have := HK5.out; have := HK6.out; omega
  obtain ⟨kl6, ku6⟩ := kb6
  clear hk6
  have kn6 : ¬ (k6 : Int) < 0 := by omega
  obtain ⟨va6, vc6, hva⟩ := R6.out.len0
  subst hva
  go_wp2_with fail
  refine (heldGatePurseS n6 e6 (.slice va6 n6 vc6) k5 x5 t6 (by have := R6.out; simpa only [HK3.out, HK4.out, HK5.out, Nat.add_zero] using this) (by omega) (by have := HK6.out; omega)).mono ?_
  rintro e x6 ⟨he, hb6⟩
  rw [← HK6.out] at he
  subst he
  replace HX := uh (HX.out.later hb6)
  replace HB := uh (blw_trans HB.out hb6)
  clear gc hbz hb6
  go_wp2
  go_ret
  exact ⟨Pl.ret_int (by have := HKK.out; have := HK3.out; have := HK4.out; have := HK5.out; have := HK6.out; omega), HB.out⟩
end Go.Proofs.Ytkehaeppnmlafaa
