/-
  What marks sheets bear.
-/
import Derived.Test.YtfmhfacaemfhlaaESs
import Derived.Test.YtfmhfacaemfhlaaUBm
import Derived.Test.YtfmhfacaemfhlaaUB
namespace Go.Proofs.Ytfmhfacaemfhlaa
open Go.RowKit Go.Deep

set_option maxRecDepth 8000 in
set_option maxHeartbeats 8000000 in
theorem heldStringS (n : Nat) (es : List Dt) (v : Value) (k : Nat) (w : World) (ht : Typ (reps n [.s]) es) (h : Raw w [.row 9 [.s]] [.row n (mkL k es)] [v]) (h1 : 1 ≤ k) (hk : k + cntL es ≤ 4000000000000000000) :
    Calls Try.prog 67 #[v, .int .i64 (k : Int)] w fun e w' => e = .returned (.int .i64 ((k + cntL es : Nat) : Int)) ∧ Below w.heap.size w w' := by
  have HT := uh ht
  clear ht
  rcases h.slice with ⟨rfl, hes, a, c, rfl⟩ | ⟨p, o, c, rfl, hp, hn, vs, hr, hR⟩
  · have he0 : es = [] := List.eq_nil_of_length_eq_zero (by have := HT.out.rows; omega)
    subst he0
    go_enter Try.func67, Try.ntmps67
    go_wp2
    refine wp_loop_rounds 1 ?_
    rw [rounds_succ]
    go_wp2
    go_ret
    exact ⟨by simp [cntL], Below.refl _ _⟩
  · have HR := uh hR; have HRG := uh hr
    have HP := uh hp
    have hn1 : n ≤ 9223372036854775807 := hn.1
    clear hr hR h hn hp
    go_enter Try.func67, Try.ntmps67
    go_wp2
    go_loopw [1, 5] (fun kk i wr => ∃ q : Nat, q ≤ n ∧ i = .int .i64 (q : Int) ∧ kk = .int .i64 ((k + cntL (es.take (q * 1)) : Nat) : Int) ∧ Below w.heap.size w wr) (fun _ i _ => n - (intOf i).toNat)
    case atStart => exact ⟨0, Nat.zero_le _, rfl, by simp [cntL], Below.refl _ _⟩
    case round =>
      obtain ⟨q, hq, rfl, rfl, hM⟩ := hrel
      have HB := uh hM
      clear hM
      by_cases hlt : q < n
      · obtain ⟨ve, hE, hrng⟩ := (HR.out.later HB.out).el hlt (rA_later HRG.out HP.out HB.out)
        have hE1 : Raw wr [.s] (el 1 q (mkL k es)) ve := hE
        rw [show el 1 q (mkL k es) = mkL (k + cntL (es.take (q * 1))) (el 1 q es) from mk_el (sh := [.s]) HT.out hlt] at hE1
        obtain ⟨d, hd⟩ : ∃ d, d = el 1 q es := ⟨_, rfl⟩
        have hte : Typ [.s] d := by rw [hd]; exact HT.out.el hlt
        have hcn : k + cntL (es.take (q * 1)) + cntL d ≤ 4000000000000000000 := by rw [hd]; have := @cnt_el q 1 es; omega
        have hnx : cntL (es.take ((q + 1) * 1)) = cntL (es.take (q * 1)) + cntL d := by rw [hd]; exact cnt_next (sh := [.s]) HT.out hlt
        rw [← hd] at hE1
        clear hE hd
        obtain ⟨kq, hkq⟩ : ∃ kq : Nat, kq = k + cntL (es.take (q * 1)) := ⟨_, rfl⟩
        rw [← hkq] at hcn hE1 ⊢
        have HNX : Hid (k + cntL (es.take ((q + 1) * 1)) = kq + cntL d) := by show _ = _; omega
        obtain ⟨a0, rfl⟩ := typT1 hte
        simp only [mkL] at hE1
        obtain rfl := rawT1 hE1
        have hkq1 : 1 ≤ kq := by omega
        have hkq2 : kq ≤ 4000000000000000000 := by omega
        simp only [cntL] at hcn
        have HCN := uh hcn
        have HPR : Hid (p < wr.heap.size) := Nat.lt_of_lt_of_le HP.out HB.out.size
        have HG : Hid (wr.rangeAt p (o + q) _) := (by show World.rangeAt _ _ _ _; have := hrng; simpa using this)
        clear hcn hE1 hte hkq hnx hrng
        have hm0 : (0 : Int) ≤ (q : Int) := by omega
        have hm3 : (q : Int) < (n : Int) := by omega
        have hbz := HPR.out
        have gc : wr.cell? ⟨p, o + q, none⟩ = some (.string (mt kq)) := rA_get HG.out 0 _ rfl
        have hNE := upst_some wr
        have hbz2 : ∀ px : UPst wr, p < px.W.heap.size := fun px => px.size hbz
        have S1 : ∀ px : UPst wr, px.W.cell? ⟨p, o + q, none⟩ = some (.string (mt kq)) := fun px => px.cell gc hbz
        go_upto_region 4 with fail
        clear gc hbz
        refine uregion wr (Below.refl _ _) (by kernel_rfl) (by kernel_rfl) ?_
        repeat (first
          | go_big_quiet_skip
          | (go_big_quiet_want; go_big_quiet_op; first | go_big_quiet_on | (apply Exists.intro; refine ⟨fun px => ?_, ?_⟩; (focus ((go_at_call 45; refine (markText kq _ (by omega) (by omega)).mono ?_; rintro e w' ⟨he, hb⟩; exact ⟨he, ⟨w', blw_trans px.ok hb⟩, rfl⟩))); go_big_quiet_on)))
        refine wpQuiet_nil ?_
        intro _ hw'
        obtain ⟨z0, hw''⟩ := hw'
        subst hw''
        replace HB := uh (blw_trans HB.out z0.ok)
        replace HG := uh (rA_later HG.out HPR.out z0.ok)
        replace HPR := uh (Nat.lt_of_lt_of_le HPR.out z0.ok.size)
        clear S1 hbz2 hNE
        obtain ⟨k0, hk0⟩ : ∃ k0 : Nat, k0 = kq + 1 := ⟨_, rfl⟩
        have hkc0 : (kq : Int) + 1 = (k0 : Int) := by omega
        have HK0 := uh hk0
        have kb0 : 1 ≤ k0 ∧ k0 ≤ 4000000000000000000 := by have := HCN.out; have := HK0.out; omega
        obtain ⟨kl0, ku0⟩ := kb0
        clear hk0
        have HF : Hid (k0 = k + cntL (es.take ((q + 1) * 1))) := by
          have := HNX.out; simp only [cntL] at this; have := HK0.out; show _ = _; omega
        go_wp2
        go_roundw
        case rel => exact ⟨q + 1, by omega, by go_num, by rw [← HF.out], HB.out⟩
        case measure => simp [intOf]; omega
      · obtain rfl : q = n := by omega
        have el_ : es.length = q * 1 := HT.out.rows
        rw [← el_, List.take_length]
        go_wp2
        go_ret
        exact ⟨rfl, HB.out⟩
set_option maxRecDepth 8000 in
set_option maxHeartbeats 8000000 in
theorem heldSheetLineS (n : Nat) (es : List Dt) (v : Value) (k : Nat) (w : World) (ht : Typ (reps n shSheetLine) es) (h : Raw w [.row 48 shSheetLine] [.row n (mkL k es)] [v]) (h1 : 1 ≤ k) (hk : k + cntL es ≤ 4000000000000000000) :
    Calls Try.prog 47 #[v, .int .i64 (k : Int)] w fun e w' => e = .returned (.int .i64 ((k + cntL es : Nat) : Int)) ∧ Below w.heap.size w w' := by
  have HT := uh ht
  clear ht
  rcases h.slice with ⟨rfl, hes, a, c, rfl⟩ | ⟨p, o, c, rfl, hp, hn, vs, hr, hR⟩
  · have he0 : es = [] := List.eq_nil_of_length_eq_zero (by have := HT.out.rows; omega)
    subst he0
    go_enter Try.func47, Try.ntmps47
    go_wp2
    refine wp_loop_rounds 1 ?_
    rw [rounds_succ]
    go_wp2
    go_ret
    exact ⟨by simp [cntL], Below.refl _ _⟩
  · have HR := uh hR; have HRG := uh hr
    have HP := uh hp
    have hn1 : n ≤ 9223372036854775807 := hn.1
    clear hr hR h hn hp
    go_enter Try.func47, Try.ntmps47
    go_wp2
    go_loopw [1, 5] (fun kk i wr => ∃ q : Nat, q ≤ n ∧ i = .int .i64 (q : Int) ∧ kk = .int .i64 ((k + cntL (es.take (q * 2)) : Nat) : Int) ∧ Below w.heap.size w wr) (fun _ i _ => n - (intOf i).toNat)
    case atStart => exact ⟨0, Nat.zero_le _, rfl, by simp [cntL], Below.refl _ _⟩
    case round =>
      obtain ⟨q, hq, rfl, rfl, hM⟩ := hrel
      have HB := uh hM
      clear hM
      by_cases hlt : q < n
      · obtain ⟨ve, hE, hrng⟩ := (HR.out.later HB.out).el hlt (rA_later HRG.out HP.out HB.out)
        have hE1 : Raw wr shSheetLine (el 2 q (mkL k es)) ve := hE
        rw [show el 2 q (mkL k es) = mkL (k + cntL (es.take (q * 2))) (el 2 q es) from mk_el (sh := shSheetLine) HT.out hlt] at hE1
        obtain ⟨d, hd⟩ : ∃ d, d = el 2 q es := ⟨_, rfl⟩
        have hte : Typ shSheetLine d := by rw [hd]; exact HT.out.el hlt
        have hcn : k + cntL (es.take (q * 2)) + cntL d ≤ 4000000000000000000 := by rw [hd]; have := @cnt_el q 2 es; omega
        have hnx : cntL (es.take ((q + 1) * 2)) = cntL (es.take (q * 2)) + cntL d := by rw [hd]; exact cnt_next (sh := shSheetLine) HT.out hlt
        rw [← hd] at hE1
        clear hE hd
        obtain ⟨kq, hkq⟩ : ∃ kq : Nat, kq = k + cntL (es.take (q * 2)) := ⟨_, rfl⟩
        rw [← hkq] at hcn hE1 ⊢
        have HNX : Hid (k + cntL (es.take ((q + 1) * 2)) = kq + cntL d) := by show _ = _; omega
        obtain ⟨a0, n1, e1, rfl, t1⟩ := typSheetLine hte
        simp only [mkL] at hE1
        obtain ⟨v1, rfl, r1⟩ := rawSheetLine hE1
        have hkq1 : 1 ≤ kq := by omega
        have hkq2 : kq ≤ 4000000000000000000 := by omega
        simp only [cntL] at hcn
        have HCN := uh hcn
        have HPR : Hid (p < wr.heap.size) := Nat.lt_of_lt_of_le HP.out HB.out.size
        have HG : Hid (wr.rangeAt p (o + q * 2) _) := hrng
        have R1 := uh r1
        clear hcn hE1 hte hkq hnx hrng r1
        have hm0 : (0 : Int) ≤ (q : Int) := by omega
        have hm3 : (q : Int) < (n : Int) := by omega
        have hbz := HPR.out
        have gc : wr.cell? ⟨p, o + q * 2, none⟩ = some (.string (mt kq)) := rA_get HG.out 0 _ rfl
        have hNE := upst_some wr
        have hbz2 : ∀ px : UPst wr, p < px.W.heap.size := fun px => px.size hbz
        have S1 : ∀ px : UPst wr, px.W.cell? ⟨p, o + q * 2, none⟩ = some (.string (mt kq)) := fun px => px.cell gc hbz
        go_upto_region 4 with fail
        clear gc hbz
        refine uregion wr (Below.refl _ _) (by kernel_rfl) (by kernel_rfl) ?_
        repeat (first
          | go_big_quiet_skip
          | (go_big_quiet_want; go_big_quiet_op; first | go_big_quiet_on | (apply Exists.intro; refine ⟨fun px => ?_, ?_⟩; (focus ((go_at_call 45; refine (markText kq _ (by omega) (by omega)).mono ?_; rintro e w' ⟨he, hb⟩; exact ⟨he, ⟨w', blw_trans px.ok hb⟩, rfl⟩))); go_big_quiet_on)))
        refine wpQuiet_nil ?_
        intro _ hw'
        obtain ⟨z0, hw''⟩ := hw'
        subst hw''
        replace HB := uh (blw_trans HB.out z0.ok)
        replace HG := uh (rA_later HG.out HPR.out z0.ok)
        replace R1 := uh (R1.out.later z0.ok)
        replace HPR := uh (Nat.lt_of_lt_of_le HPR.out z0.ok.size)
        clear S1 hbz2 hNE
        obtain ⟨k0, hk0⟩ : ∃ k0 : Nat, k0 = kq + 1 := ⟨_, rfl⟩
        have hkc0 : (kq : Int) + 1 = (k0 : Int) := by omega
        have HK0 := uh hk0
        have kb0 : 1 ≤ k0 ∧ k0 ≤ 4000000000000000000 := by have := HCN.out; have := HK0.out; omega
        obtain ⟨kl0, ku0⟩ := kb0
        try rw [← hk0] at HG
        try rw [← hk0] at R1
        clear hk0
        go_upto_region 7 with fail
        clear hkc0
        have hbz := HPR.out
        obtain ⟨va1, vc1, hva⟩ := R1.out.len0
        subst hva
        have gc : z0.W.cell? ⟨p, o + q * 2 + 1, none⟩ = some (.slice va1 n1 vc1) := rA_get HG.out 1 _ rfl
        obtain ⟨k1, hk1⟩ : ∃ k1 : Nat, k1 = k0 + cntL e1 := ⟨_, rfl⟩
        have HK1 := uh hk1
        have kb1 : 1 ≤ k1 ∧ k1 ≤ 4000000000000000000 := by have := HCN.out; have := HK0.out; have := HK1.out; omega
        obtain ⟨kl1, ku1⟩ := kb1
        have kn1 : ¬ (k1 : Int) < 0 := by omega
        clear hk1
        go_wp2_with fail
        refine (heldStringS n1 e1 (.slice va1 n1 vc1) k0 z0.W t1 R1.out (by omega) (by have := HK1.out; omega)).mono ?_
        rintro e x1 ⟨he, hb1⟩
        rw [← HK1.out] at he
        subst he
        replace HB := uh (blw_trans HB.out hb1)
        replace HG := uh (rA_later HG.out HPR.out hb1)
        replace HPR := uh (Nat.lt_of_lt_of_le HPR.out hb1.size)
        clear gc hbz hb1
        have HF : Hid (k1 = k + cntL (es.take ((q + 1) * 2))) := by
          have := HNX.out; simp only [cntL] at this; have := HK0.out; have := HK1.out; show _ = _; omega
        go_wp2
        go_roundw
        case rel => exact ⟨q + 1, by omega, by go_num, by rw [← HF.out], HB.out⟩
        case measure => simp [intOf]; omega
      · obtain rfl : q = n := by omega
        have el_ : es.length = q * 2 := HT.out.rows
        rw [← el_, List.take_length]
        go_wp2
        go_ret
        exact ⟨rfl, HB.out⟩
set_option maxRecDepth 8000 in
set_option maxHeartbeats 8000000 in
theorem heldSheetBlockS (n : Nat) (es : List Dt) (v : Value) (k : Nat) (w : World) (ht : Typ (reps n shSheetBlock) es) (h : Raw w [.row 40 shSheetBlock] [.row n (mkL k es)] [v]) (h1 : 1 ≤ k) (hk : k + cntL es ≤ 4000000000000000000) :
    Calls Try.prog 25 #[v, .int .i64 (k : Int)] w fun e w' => e = .returned (.int .i64 ((k + cntL es : Nat) : Int)) ∧ Below w.heap.size w w' := by
  have HT := uh ht
  clear ht
  rcases h.slice with ⟨rfl, hes, a, c, rfl⟩ | ⟨p, o, c, rfl, hp, hn, vs, hr, hR⟩
  · have he0 : es = [] := List.eq_nil_of_length_eq_zero (by have := HT.out.rows; omega)
    subst he0
    go_enter Try.func25, Try.ntmps25
    go_wp2
    refine wp_loop_rounds 1 ?_
    rw [rounds_succ]
    go_wp2
    go_ret
    exact ⟨by simp [cntL], Below.refl _ _⟩
  · have HR := uh hR; have HRG := uh hr
    have HP := uh hp
    have hn1 : n ≤ 9223372036854775807 := hn.1
    clear hr hR h hn hp
    go_enter Try.func25, Try.ntmps25
    go_wp2
    go_loopw [1, 5] (fun kk i wr => ∃ q : Nat, q ≤ n ∧ i = .int .i64 (q : Int) ∧ kk = .int .i64 ((k + cntL (es.take (q * 3)) : Nat) : Int) ∧ Below w.heap.size w wr) (fun _ i _ => n - (intOf i).toNat)
    case atStart => exact ⟨0, Nat.zero_le _, rfl, by simp [cntL], Below.refl _ _⟩
    case round =>
      obtain ⟨q, hq, rfl, rfl, hM⟩ := hrel
      have HB := uh hM
      clear hM
      by_cases hlt : q < n
      · obtain ⟨ve, hE, hrng⟩ := (HR.out.later HB.out).el hlt (rA_later HRG.out HP.out HB.out)
        have hE1 : Raw wr shSheetBlock (el 3 q (mkL k es)) ve := hE
        rw [show el 3 q (mkL k es) = mkL (k + cntL (es.take (q * 3))) (el 3 q es) from mk_el (sh := shSheetBlock) HT.out hlt] at hE1
        obtain ⟨d, hd⟩ : ∃ d, d = el 3 q es := ⟨_, rfl⟩
        have hte : Typ shSheetBlock d := by rw [hd]; exact HT.out.el hlt
        have hcn : k + cntL (es.take (q * 3)) + cntL d ≤ 4000000000000000000 := by rw [hd]; have := @cnt_el q 3 es; omega
        have hnx : cntL (es.take ((q + 1) * 3)) = cntL (es.take (q * 3)) + cntL d := by rw [hd]; exact cnt_next (sh := shSheetBlock) HT.out hlt
        rw [← hd] at hE1
        clear hE hd
        obtain ⟨kq, hkq⟩ : ∃ kq : Nat, kq = k + cntL (es.take (q * 3)) := ⟨_, rfl⟩
        rw [← hkq] at hcn hE1 ⊢
        have HNX : Hid (k + cntL (es.take ((q + 1) * 3)) = kq + cntL d) := by show _ = _; omega
        obtain ⟨a0, a1, n2, e2, rfl, t2⟩ := typSheetBlock hte
        simp only [mkL] at hE1
        obtain ⟨v2, rfl, r2⟩ := rawSheetBlock hE1
        have hkq1 : 1 ≤ kq := by omega
        have hkq2 : kq ≤ 4000000000000000000 := by omega
        simp only [cntL] at hcn
        have HCN := uh hcn
        have HPR : Hid (p < wr.heap.size) := Nat.lt_of_lt_of_le HP.out HB.out.size
        have HG : Hid (wr.rangeAt p (o + q * 3) _) := hrng
        have R2 := uh r2
        clear hcn hE1 hte hkq hnx hrng r2
        have hm0 : (0 : Int) ≤ (q : Int) := by omega
        have hm3 : (q : Int) < (n : Int) := by omega
        have hbz := HPR.out
        have gc : wr.cell? ⟨p, o + q * 3, none⟩ = some (.string (mt kq)) := rA_get HG.out 0 _ rfl
        have hNE := upst_some wr
        have hbz2 : ∀ px : UPst wr, p < px.W.heap.size := fun px => px.size hbz
        have S1 : ∀ px : UPst wr, px.W.cell? ⟨p, o + q * 3, none⟩ = some (.string (mt kq)) := fun px => px.cell gc hbz
        go_upto_region 4 with fail
        clear gc hbz
        refine uregion wr (Below.refl _ _) (by kernel_rfl) (by kernel_rfl) ?_
        repeat (first
          | go_big_quiet_skip
          | (go_big_quiet_want; go_big_quiet_op; first | go_big_quiet_on | (apply Exists.intro; refine ⟨fun px => ?_, ?_⟩; (focus ((go_at_call 45; refine (markText kq _ (by omega) (by omega)).mono ?_; rintro e w' ⟨he, hb⟩; exact ⟨he, ⟨w', blw_trans px.ok hb⟩, rfl⟩))); go_big_quiet_on)))
        refine wpQuiet_nil ?_
        intro _ hw'
        obtain ⟨z0, hw''⟩ := hw'
        subst hw''
        replace HB := uh (blw_trans HB.out z0.ok)
        replace HG := uh (rA_later HG.out HPR.out z0.ok)
        replace R2 := uh (R2.out.later z0.ok)
        replace HPR := uh (Nat.lt_of_lt_of_le HPR.out z0.ok.size)
        clear S1 hbz2 hNE
        obtain ⟨k0, hk0⟩ : ∃ k0 : Nat, k0 = kq + 1 := ⟨_, rfl⟩
        have hkc0 : (kq : Int) + 1 = (k0 : Int) := by omega
        have HK0 := uh hk0
        have kb0 : 1 ≤ k0 ∧ k0 ≤ 4000000000000000000 := by have := HCN.out; have := HK0.out; omega
        obtain ⟨kl0, ku0⟩ := kb0
        try rw [← hk0] at HG
        try rw [← hk0] at R2
        clear hk0
        go_upto_region 7 with fail
        clear hkc0
        have hbz := HPR.out
        have gc : z0.W.cell? ⟨p, o + q * 3 + 1, none⟩ = some (.string (mt k0)) := rA_get HG.out 1 _ rfl
        have hNE := upst_some z0.W
        have hbz2 : ∀ px : UPst z0.W, p < px.W.heap.size := fun px => px.size hbz
        have S1 : ∀ px : UPst z0.W, px.W.cell? ⟨p, o + q * 3 + 1, none⟩ = some (.string (mt k0)) := fun px => px.cell gc hbz
        go_upto_region 7 with fail
        clear gc hbz
        refine uregion z0.W (Below.refl _ _) (by kernel_rfl) (by kernel_rfl) ?_
        repeat (first
          | go_big_quiet_skip
          | (go_big_quiet_want; go_big_quiet_op; first | go_big_quiet_on | (apply Exists.intro; refine ⟨fun px => ?_, ?_⟩; (focus ((go_at_call 45; refine (markText k0 _ (by omega) (by omega)).mono ?_; rintro e w' ⟨he, hb⟩; exact ⟨he, ⟨w', blw_trans px.ok hb⟩, rfl⟩))); go_big_quiet_on)))
        refine wpQuiet_nil ?_
        intro _ hw'
        obtain ⟨z1, hw''⟩ := hw'
        subst hw''
        replace HB := uh (blw_trans HB.out z1.ok)
        replace HG := uh (rA_later HG.out HPR.out z1.ok)
        replace R2 := uh (R2.out.later z1.ok)
        replace HPR := uh (Nat.lt_of_lt_of_le HPR.out z1.ok.size)
        clear S1 hbz2 hNE
        obtain ⟨k1, hk1⟩ : ∃ k1 : Nat, k1 = k0 + 1 := ⟨_, rfl⟩
        have hkc1 : (k0 : Int) + 1 = (k1 : Int) := by omega
        have HK1 := uh hk1
        have kb1 : 1 ≤ k1 ∧ k1 ≤ 4000000000000000000 := by have := HCN.out; have := HK0.out; have := HK1.out; omega
        obtain ⟨kl1, ku1⟩ := kb1
        try rw [← hk1] at HG
        try rw [← hk1] at R2
        clear hk1
        go_upto_region 10 with fail
        clear hkc1
        have hbz := HPR.out
        obtain ⟨va2, vc2, hva⟩ := R2.out.len0
        subst hva
        have gc : z1.W.cell? ⟨p, o + q * 3 + 2, none⟩ = some (.slice va2 n2 vc2) := rA_get HG.out 2 _ rfl
        obtain ⟨k2, hk2⟩ : ∃ k2 : Nat, k2 = k1 + cntL e2 := ⟨_, rfl⟩
        have HK2 := uh hk2
        have kb2 : 1 ≤ k2 ∧ k2 ≤ 4000000000000000000 := by have := HCN.out; have := HK0.out; have := HK1.out; have := HK2.out; omega
        obtain ⟨kl2, ku2⟩ := kb2
        have kn2 : ¬ (k2 : Int) < 0 := by omega
        clear hk2
        go_wp2_with fail
        refine (heldSheetLineS n2 e2 (.slice va2 n2 vc2) k1 z1.W t2 R2.out (by omega) (by have := HK2.out; omega)).mono ?_
        rintro e x2 ⟨he, hb2⟩
        rw [← HK2.out] at he
        subst he
        replace HB := uh (blw_trans HB.out hb2)
        replace HG := uh (rA_later HG.out HPR.out hb2)
        replace HPR := uh (Nat.lt_of_lt_of_le HPR.out hb2.size)
        clear gc hbz hb2
        have HF : Hid (k2 = k + cntL (es.take ((q + 1) * 3))) := by
          have := HNX.out; simp only [cntL] at this; have := HK0.out; have := HK1.out; have := HK2.out; show _ = _; omega
        go_wp2
        go_roundw
        case rel => exact ⟨q + 1, by omega, by go_num, by rw [← HF.out], HB.out⟩
        case measure => simp [intOf]; omega
      · obtain rfl : q = n := by omega
        have el_ : es.length = q * 3 := HT.out.rows
        rw [← el_, List.take_length]
        go_wp2
        go_ret
        exact ⟨rfl, HB.out⟩
set_option maxRecDepth 8000 in
set_option maxHeartbeats 8000000 in
theorem heldSheet (ds : List Dt) (cs : List Value) (k : Nat) (w : World) (ht : Typ shSheet ds) (h : Raw w shSheet (mkT k ds) cs) (h1 : 1 ≤ k) (hk : k + cntT ds ≤ 4000000000000000000) :
    Calls Try.prog 11 #[.agg cs.toArray, .int .i64 (k : Int)] w fun e w' => e = .returned (.int .i64 ((k + cntT ds : Nat) : Int)) ∧ Below w.heap.size w w' := by
  obtain ⟨n0, e0, rfl, t0⟩ := segTypSheet ht
  simp only [mkT] at h
  obtain ⟨v0, x0, rfl, r0, h_0⟩ := h.c_r
  obtain rfl := h_0.c_n
  obtain ⟨cs, hcs⟩ : ∃ cs : List Value, cs = v0 :: [] := ⟨_, rfl⟩
  rw [← hcs]
  have HCS := uh hcs
  simp only [cntT] at hk ⊢
  obtain ⟨wa, hwa⟩ : ∃ wa, wa = w.alloc (.cells cs.toArray 28) := ⟨_, rfl⟩
  have HB : Hid (Below w.heap.size w wa) := by show Below _ _ _; rw [hwa]; exact blw_alloc (Below.refl _ _) _
  have HX : Hid (LBox wa w.heap.size cs) := by show LBox _ _ _; rw [hwa]; exact LBox.new w cs.toArray _ _ rfl
  have R0 := uh (r0.later HB.out)
  have HKK := uh hk
  clear hcs hk r0
  go_enter Try.func11, Try.ntmps11
  go_upto_region 1 with fail
  rw [← hwa]
  clear hwa
  have hbz := HX.out.lt
  have hbx := boxSheet  (by have := HX.out.at_; rw [HCS.out] at this; exact this)
  have gc := hbx
  clear hbx
  obtain ⟨k0, hk0⟩ : ∃ k0 : Nat, k0 = k + cntL e0 := ⟨_, rfl⟩
  have HK0 := uh hk0
  have kb0 : 1 ≤ k0 ∧ k0 ≤ 4000000000000000000 := by have := HKK.out; have := HK0.out; omega
  obtain ⟨kl0, ku0⟩ := kb0
  clear hk0
  have kn0 : ¬ (k0 : Int) < 0 := by omega
  obtain ⟨va0, vc0, hva⟩ := R0.out.len0
  subst hva
  go_wp2_with fail
  refine (heldSheetBlockS n0 e0 (.slice va0 n0 vc0) k wa t0 (by have := R0.out; simpa only [Nat.add_zero] using this) (by omega) (by have := HK0.out; omega)).mono ?_
  rintro e x0 ⟨he, hb0⟩
  rw [← HK0.out] at he
  subst he
  replace HX := uh (HX.out.later hb0)
  replace HB := uh (blw_trans HB.out hb0)
  clear gc hbz hb0
  go_wp2
  go_ret
  exact ⟨Pl.ret_int (by have := HKK.out; have := HK0.out; omega), HB.out⟩
end Go.Proofs.Ytfmhfacaemfhlaa
