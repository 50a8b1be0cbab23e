/-
  The law of SheetParse.
-/
import Derived.Test.YtdllbcafbfkngaaGreatDoorUB
import Derived.Test.YtdllbcafbfkngaaGreatDoorESs
import Derived.Test.YtdllbcafbfkngaaGreatDoorECs
import Derived.Test.YtdllbcafbfkngaaGreatDoorESm
import Derived.Test.YtdllbcafbfkngaaGreatDoorEPy
namespace Go.Proofs.YtdllbcafbfkngaaGreatDoor
open Go.RowKit Go.Deep

set_option maxRecDepth 8000 in
set_option maxHeartbeats 8000000 in
theorem heldStringS (n : Nat) (es : List Dt) (v : Value) (k : Nat) (w : World) (ht : Typ (reps n [.s]) es) (h : Raw w [.row 9 [.s]] [.row n (mkL k es)] [v]) (h1 : 1 ≤ k) (hk : k + cntL es ≤ 4000000000000000000) :
    Calls Tryz.prog 61 #[v, .int .i64 (k : Int)] w fun e w' => e = .returned (.int .i64 ((k + cntL es : Nat) : Int)) ∧ Below w.heap.size w w' := by
  have HT := uh ht
  clear ht
  rcases h.slice with ⟨rfl, hes, a, c, rfl⟩ | ⟨p, o, c, rfl, hp, hn, vs, hr, hR⟩
  · have he0 : es = [] := List.eq_nil_of_length_eq_zero (by have := HT.out.rows; omega)
    subst he0
    go_enter Tryz.func61, Tryz.ntmps61
    go_wp2
    refine wp_loop_rounds 1 ?_
    rw [rounds_succ]
    go_wp2
    go_ret
    exact ⟨by simp [cntL], Below.refl _ _⟩
  · have HR := uh hR; have HRG := uh hr
    have HP := uh hp
    have hn1 : n ≤ 9223372036854775807 := hn.1
    clear hr hR h hn hp
    go_enter Tryz.func61, Tryz.ntmps61
    go_wp2
    go_loopw [1, 5] (fun kk i wr => ∃ q : Nat, q ≤ n ∧ i = .int .i64 (q : Int) ∧ kk = .int .i64 ((k + cntL (es.take (q * 1)) : Nat) : Int) ∧ Below w.heap.size w wr) (fun _ i _ => n - (intOf i).toNat)
    case atStart => exact ⟨0, Nat.zero_le _, rfl, by simp [cntL], Below.refl _ _⟩
    case round =>
      obtain ⟨q, hq, rfl, rfl, hM⟩ := hrel
      have HB := uh hM
      clear hM
      by_cases hlt : q < n
      · obtain ⟨ve, hE, hrng⟩ := (HR.out.later HB.out).el hlt (rA_later HRG.out HP.out HB.out)
        have hE1 : Raw wr [.s] (el 1 q (mkL k es)) ve := hE
        rw [show el 1 q (mkL k es) = mkL (k + cntL (es.take (q * 1))) (el 1 q es) from mk_el (sh := [.s]) HT.out hlt] at hE1
        obtain ⟨d, hd⟩ : ∃ d, d = el 1 q es := ⟨_, rfl⟩
        have hte : Typ [.s] d := by rw [hd]; exact HT.out.el hlt
        have hcn : k + cntL (es.take (q * 1)) + cntL d ≤ 4000000000000000000 := by rw [hd]; have := @cnt_el q 1 es; omega
        have hnx : cntL (es.take ((q + 1) * 1)) = cntL (es.take (q * 1)) + cntL d := by rw [hd]; exact cnt_next (sh := [.s]) HT.out hlt
        rw [← hd] at hE1
        clear hE hd
        obtain ⟨kq, hkq⟩ : ∃ kq : Nat, kq = k + cntL (es.take (q * 1)) := ⟨_, rfl⟩
        rw [← hkq] at hcn hE1 ⊢
        have HNX : Hid (k + cntL (es.take ((q + 1) * 1)) = kq + cntL d) := by show _ = _; omega
        obtain ⟨a0, rfl⟩ := typT1 hte
        simp only [mkL] at hE1
        obtain rfl := rawT1 hE1
        have hkq1 : 1 ≤ kq := by omega
        have hkq2 : kq ≤ 4000000000000000000 := by omega
        simp only [cntL] at hcn
        have HCN := uh hcn
        have HPR : Hid (p < wr.heap.size) := Nat.lt_of_lt_of_le HP.out HB.out.size
        have HG : Hid (wr.rangeAt p (o + q) _) := (by show World.rangeAt _ _ _ _; have := hrng; simpa using this)
        clear hcn hE1 hte hkq hnx hrng
        have hm0 : (0 : Int) ≤ (q : Int) := by omega
        have hm3 : (q : Int) < (n : Int) := by omega
        have hbz := HPR.out
        have gc : wr.cell? ⟨p, o + q, none⟩ = some (.string (mt kq)) := rA_get HG.out 0 _ rfl
        have hNE := upst_some wr
        have hbz2 : ∀ px : UPst wr, p < px.W.heap.size := fun px => px.size hbz
        have S1 : ∀ px : UPst wr, px.W.cell? ⟨p, o + q, none⟩ = some (.string (mt kq)) := fun px => px.cell gc hbz
        go_upto_region 4 with fail
        clear gc hbz
        refine uregion wr (Below.refl _ _) (by kernel_rfl) (by kernel_rfl) ?_
        repeat (first
          | go_big_quiet_skip
          | (go_big_quiet_want; go_big_quiet_op; first | go_big_quiet_on | (apply Exists.intro; refine ⟨fun px => ?_, ?_⟩; (focus ((go_at_call 40; refine (markText kq _ (by omega) (by omega)).mono ?_; rintro e w' ⟨he, hb⟩; exact ⟨he, ⟨w', blw_trans px.ok hb⟩, rfl⟩))); go_big_quiet_on)))
        refine wpQuiet_nil ?_
        intro _ hw'
        obtain ⟨z0, hw''⟩ := hw'
        subst hw''
        replace HB := uh (blw_trans HB.out z0.ok)
        replace HG := uh (rA_later HG.out HPR.out z0.ok)
        replace HPR := uh (Nat.lt_of_lt_of_le HPR.out z0.ok.size)
        clear S1 hbz2 hNE
        obtain ⟨k0, hk0⟩ : ∃ k0 : Nat, k0 = kq + 1 := ⟨_, rfl⟩
        have hkc0 : (kq : Int) + 1 = (k0 : Int) := by omega
        have HK0 := uh hk0
        have kb0 : 1 ≤ k0 ∧ k0 ≤ 4000000000000000000 := by have := HCN.out; have := HK0.out; omega
        obtain ⟨kl0, ku0⟩ := kb0
        clear hk0
        have HF : Hid (k0 = k + cntL (es.take ((q + 1) * 1))) := by
          have := HNX.out; simp only [cntL] at this; have := HK0.out; show _ = _; omega
        go_wp2
        go_roundw
        case rel => exact ⟨q + 1, by omega, by go_num, by rw [← HF.out], HB.out⟩
        case measure => simp [intOf]; omega
      · obtain rfl : q = n := by omega
        have el_ : es.length = q * 1 := HT.out.rows
        rw [← el_, List.take_length]
        go_wp2
        go_ret
        exact ⟨rfl, HB.out⟩
set_option maxRecDepth 8000 in
set_option maxHeartbeats 8000000 in
theorem heldSheetLineS (n : Nat) (es : List Dt) (v : Value) (k : Nat) (w : World) (ht : Typ (reps n shSheetLine) es) (h : Raw w [.row 62 shSheetLine] [.row n (mkL k es)] [v]) (h1 : 1 ≤ k) (hk : k + cntL es ≤ 4000000000000000000) :
    Calls Tryz.prog 42 #[v, .int .i64 (k : Int)] w fun e w' => e = .returned (.int .i64 ((k + cntL es : Nat) : Int)) ∧ Below w.heap.size w w' := by
  have HT := uh ht
  clear ht
  rcases h.slice with ⟨rfl, hes, a, c, rfl⟩ | ⟨p, o, c, rfl, hp, hn, vs, hr, hR⟩
  · have he0 : es = [] := List.eq_nil_of_length_eq_zero (by have := HT.out.rows; omega)
    subst he0
    go_enter Tryz.func42, Tryz.ntmps42
    go_wp2
    refine wp_loop_rounds 1 ?_
    rw [rounds_succ]
    go_wp2
    go_ret
    exact ⟨by simp [cntL], Below.refl _ _⟩
  · have HR := uh hR; have HRG := uh hr
    have HP := uh hp
    have hn1 : n ≤ 9223372036854775807 := hn.1
    clear hr hR h hn hp
    go_enter Tryz.func42, Tryz.ntmps42
    go_wp2
    go_loopw [1, 5] (fun kk i wr => ∃ q : Nat, q ≤ n ∧ i = .int .i64 (q : Int) ∧ kk = .int .i64 ((k + cntL (es.take (q * 2)) : Nat) : Int) ∧ Below w.heap.size w wr) (fun _ i _ => n - (intOf i).toNat)
    case atStart => exact ⟨0, Nat.zero_le _, rfl, by simp [cntL], Below.refl _ _⟩
    case round =>
      obtain ⟨q, hq, rfl, rfl, hM⟩ := hrel
      have HB := uh hM
      clear hM
      by_cases hlt : q < n
      · obtain ⟨ve, hE, hrng⟩ := (HR.out.later HB.out).el hlt (rA_later HRG.out HP.out HB.out)
        have hE1 : Raw wr shSheetLine (el 2 q (mkL k es)) ve := hE
        rw [show el 2 q (mkL k es) = mkL (k + cntL (es.take (q * 2))) (el 2 q es) from mk_el (sh := shSheetLine) HT.out hlt] at hE1
        obtain ⟨d, hd⟩ : ∃ d, d = el 2 q es := ⟨_, rfl⟩
        have hte : Typ shSheetLine d := by rw [hd]; exact HT.out.el hlt
        have hcn : k + cntL (es.take (q * 2)) + cntL d ≤ 4000000000000000000 := by rw [hd]; have := @cnt_el q 2 es; omega
        have hnx : cntL (es.take ((q + 1) * 2)) = cntL (es.take (q * 2)) + cntL d := by rw [hd]; exact cnt_next (sh := shSheetLine) HT.out hlt
        rw [← hd] at hE1
        clear hE hd
        obtain ⟨kq, hkq⟩ : ∃ kq : Nat, kq = k + cntL (es.take (q * 2)) := ⟨_, rfl⟩
        rw [← hkq] at hcn hE1 ⊢
        have HNX : Hid (k + cntL (es.take ((q + 1) * 2)) = kq + cntL d) := by show _ = _; omega
        obtain ⟨a0, n1, e1, rfl, t1⟩ := typSheetLine hte
        simp only [mkL] at hE1
        obtain ⟨v1, rfl, r1⟩ := rawSheetLine hE1
        have hkq1 : 1 ≤ kq := by omega
        have hkq2 : kq ≤ 4000000000000000000 := by omega
        simp only [cntL] at hcn
        have HCN := uh hcn
        have HPR : Hid (p < wr.heap.size) := Nat.lt_of_lt_of_le HP.out HB.out.size
        have HG : Hid (wr.rangeAt p (o + q * 2) _) := hrng
        have R1 := uh r1
        clear hcn hE1 hte hkq hnx hrng r1
        have hm0 : (0 : Int) ≤ (q : Int) := by omega
        have hm3 : (q : Int) < (n : Int) := by omega
        have hbz := HPR.out
        have gc : wr.cell? ⟨p, o + q * 2, none⟩ = some (.string (mt kq)) := rA_get HG.out 0 _ rfl
        have hNE := upst_some wr
        have hbz2 : ∀ px : UPst wr, p < px.W.heap.size := fun px => px.size hbz
        have S1 : ∀ px : UPst wr, px.W.cell? ⟨p, o + q * 2, none⟩ = some (.string (mt kq)) := fun px => px.cell gc hbz
        go_upto_region 4 with fail
        clear gc hbz
        refine uregion wr (Below.refl _ _) (by kernel_rfl) (by kernel_rfl) ?_
        repeat (first
          | go_big_quiet_skip
          | (go_big_quiet_want; go_big_quiet_op; first | go_big_quiet_on | (apply Exists.intro; refine ⟨fun px => ?_, ?_⟩; (focus ((go_at_call 40; refine (markText kq _ (by omega) (by omega)).mono ?_; rintro e w' ⟨he, hb⟩; exact ⟨he, ⟨w', blw_trans px.ok hb⟩, rfl⟩))); go_big_quiet_on)))
        refine wpQuiet_nil ?_
        intro _ hw'
        obtain ⟨z0, hw''⟩ := hw'
        subst hw''
        replace HB := uh (blw_trans HB.out z0.ok)
        replace HG := uh (rA_later HG.out HPR.out z0.ok)
        replace R1 := uh (R1.out.later z0.ok)
        replace HPR := uh (Nat.lt_of_lt_of_le HPR.out z0.ok.size)
        clear S1 hbz2 hNE
        obtain ⟨k0, hk0⟩ : ∃ k0 : Nat, k0 = kq + 1 := ⟨_, rfl⟩
        have hkc0 : (kq : Int) + 1 = (k0 : Int) := by omega
        have HK0 := uh hk0
        have kb0 : 1 ≤ k0 ∧ k0 ≤ 4000000000000000000 := by have := HCN.out; have := HK0.out; omega
        obtain ⟨kl0, ku0⟩ := kb0
        try rw [← hk0] at HG
        try rw [← hk0] at R1
        clear hk0
        go_upto_region 7 with fail
        clear hkc0
        have hbz := HPR.out
        obtain ⟨va1, vc1, hva⟩ := R1.out.len0
        subst hva
        have gc : z0.W.cell? ⟨p, o + q * 2 + 1, none⟩ = some (.slice va1 n1 vc1) := rA_get HG.out 1 _ rfl
        obtain ⟨k1, hk1⟩ : ∃ k1 : Nat, k1 = k0 + cntL e1 := ⟨_, rfl⟩
        have HK1 := uh hk1
        have kb1 : 1 ≤ k1 ∧ k1 ≤ 4000000000000000000 := by have := HCN.out; have := HK0.out; have := HK1.out; omega
        obtain ⟨kl1, ku1⟩ := kb1
        have kn1 : ¬ (k1 : Int) < 0 := by omega
        clear hk1
        go_wp2_with fail
        refine (heldStringS n1 e1 (.slice va1 n1 vc1) k0 z0.W t1 R1.out (by omega) (by have := HK1.out; omega)).mono ?_
        rintro e x1 ⟨he, hb1⟩
        rw [← HK1.out] at he
        subst he
        replace HB := uh (blw_trans HB.out hb1)
        replace HG := uh (rA_later HG.out HPR.out hb1)
        replace HPR := uh (Nat.lt_of_lt_of_le HPR.out hb1.size)
        clear gc hbz hb1
        have HF : Hid (k1 = k + cntL (es.take ((q + 1) * 2))) := by
          have := HNX.out; simp only [cntL] at this; have := HK0.out; have := HK1.out; show _ = _; omega
        go_wp2
        go_roundw
        case rel => exact ⟨q + 1, by omega, by go_num, by rw [← HF.out], HB.out⟩
        case measure => simp [intOf]; omega
      · obtain rfl : q = n := by omega
        have el_ : es.length = q * 2 := HT.out.rows
        rw [← el_, List.take_length]
        go_wp2
        go_ret
        exact ⟨rfl, HB.out⟩
set_option maxRecDepth 8000 in
set_option maxHeartbeats 8000000 in
theorem heldSheetBlockS (n : Nat) (es : List Dt) (v : Value) (k : Nat) (w : World) (ht : Typ (reps n shSheetBlock) es) (h : Raw w [.row 37 shSheetBlock] [.row n (mkL k es)] [v]) (h1 : 1 ≤ k) (hk : k + cntL es ≤ 4000000000000000000) :
    Calls Tryz.prog 20 #[v, .int .i64 (k : Int)] w fun e w' => e = .returned (.int .i64 ((k + cntL es : Nat) : Int)) ∧ Below w.heap.size w w' := by
  have HT := uh ht
  clear ht
  rcases h.slice with ⟨rfl, hes, a, c, rfl⟩ | ⟨p, o, c, rfl, hp, hn, vs, hr, hR⟩
  · have he0 : es = [] := List.eq_nil_of_length_eq_zero (by have := HT.out.rows; omega)
    subst he0
    go_enter Tryz.func20, Tryz.ntmps20
    go_wp2
    refine wp_loop_rounds 1 ?_
    rw [rounds_succ]
    go_wp2
    go_ret
    exact ⟨by simp [cntL], Below.refl _ _⟩
  · have HR := uh hR; have HRG := uh hr
    have HP := uh hp
    have hn1 : n ≤ 9223372036854775807 := hn.1
    clear hr hR h hn hp
    go_enter Tryz.func20, Tryz.ntmps20
    go_wp2
    go_loopw [1, 5] (fun kk i wr => ∃ q : Nat, q ≤ n ∧ i = .int .i64 (q : Int) ∧ kk = .int .i64 ((k + cntL (es.take (q * 3)) : Nat) : Int) ∧ Below w.heap.size w wr) (fun _ i _ => n - (intOf i).toNat)
    case atStart => exact ⟨0, Nat.zero_le _, rfl, by simp [cntL], Below.refl _ _⟩
    case round =>
      obtain ⟨q, hq, rfl, rfl, hM⟩ := hrel
      have HB := uh hM
      clear hM
      by_cases hlt : q < n
      · obtain ⟨ve, hE, hrng⟩ := (HR.out.later HB.out).el hlt (rA_later HRG.out HP.out HB.out)
        have hE1 : Raw wr shSheetBlock (el 3 q (mkL k es)) ve := hE
        rw [show el 3 q (mkL k es) = mkL (k + cntL (es.take (q * 3))) (el 3 q es) from mk_el (sh := shSheetBlock) HT.out hlt] at hE1
        obtain ⟨d, hd⟩ : ∃ d, d = el 3 q es := ⟨_, rfl⟩
        have hte : Typ shSheetBlock d := by rw [hd]; exact HT.out.el hlt
        have hcn : k + cntL (es.take (q * 3)) + cntL d ≤ 4000000000000000000 := by rw [hd]; have := @cnt_el q 3 es; omega
        have hnx : cntL (es.take ((q + 1) * 3)) = cntL (es.take (q * 3)) + cntL d := by rw [hd]; exact cnt_next (sh := shSheetBlock) HT.out hlt
        rw [← hd] at hE1
        clear hE hd
        obtain ⟨kq, hkq⟩ : ∃ kq : Nat, kq = k + cntL (es.take (q * 3)) := ⟨_, rfl⟩
        rw [← hkq] at hcn hE1 ⊢
        have HNX : Hid (k + cntL (es.take ((q + 1) * 3)) = kq + cntL d) := by show _ = _; omega
        obtain ⟨a0, a1, n2, e2, rfl, t2⟩ := typSheetBlock hte
        simp only [mkL] at hE1
        obtain ⟨v2, rfl, r2⟩ := rawSheetBlock hE1
        have hkq1 : 1 ≤ kq := by omega
        have hkq2 : kq ≤ 4000000000000000000 := by omega
        simp only [cntL] at hcn
        have HCN := uh hcn
        have HPR : Hid (p < wr.heap.size) := Nat.lt_of_lt_of_le HP.out HB.out.size
        have HG : Hid (wr.rangeAt p (o + q * 3) _) := hrng
        have R2 := uh r2
        clear hcn hE1 hte hkq hnx hrng r2
        have hm0 : (0 : Int) ≤ (q : Int) := by omega
        have hm3 : (q : Int) < (n : Int) := by omega
        have hbz := HPR.out
        have gc : wr.cell? ⟨p, o + q * 3, none⟩ = some (.string (mt kq)) := rA_get HG.out 0 _ rfl
        have hNE := upst_some wr
        have hbz2 : ∀ px : UPst wr, p < px.W.heap.size := fun px => px.size hbz
        have S1 : ∀ px : UPst wr, px.W.cell? ⟨p, o + q * 3, none⟩ = some (.string (mt kq)) := fun px => px.cell gc hbz
        go_upto_region 4 with fail
        clear gc hbz
        refine uregion wr (Below.refl _ _) (by kernel_rfl) (by kernel_rfl) ?_
        repeat (first
          | go_big_quiet_skip
          | (go_big_quiet_want; go_big_quiet_op; first | go_big_quiet_on | (apply Exists.intro; refine ⟨fun px => ?_, ?_⟩; (focus ((go_at_call 40; refine (markText kq _ (by omega) (by omega)).mono ?_; rintro e w' ⟨he, hb⟩; exact ⟨he, ⟨w', blw_trans px.ok hb⟩, rfl⟩))); go_big_quiet_on)))
        refine wpQuiet_nil ?_
        intro _ hw'
        obtain ⟨z0, hw''⟩ := hw'
        subst hw''
        replace HB := uh (blw_trans HB.out z0.ok)
        replace HG := uh (rA_later HG.out HPR.out z0.ok)
        replace R2 := uh (R2.out.later z0.ok)
        replace HPR := uh (Nat.lt_of_lt_of_le HPR.out z0.ok.size)
        clear S1 hbz2 hNE
        obtain ⟨k0, hk0⟩ : ∃ k0 : Nat, k0 = kq + 1 := ⟨_, rfl⟩
        have hkc0 : (kq : Int) + 1 = (k0 : Int) := by omega
        have HK0 := uh hk0
        have kb0 : 1 ≤ k0 ∧ k0 ≤ 4000000000000000000 := by have := HCN.out; have := HK0.out; omega
        obtain ⟨kl0, ku0⟩ := kb0
        try rw [← hk0] at HG
        try rw [← hk0] at R2
        clear hk0
        go_upto_region 7 with fail
        clear hkc0
        have hbz := HPR.out
        have gc : z0.W.cell? ⟨p, o + q * 3 + 1, none⟩ = some (.string (mt k0)) := rA_get HG.out 1 _ rfl
        have hNE := upst_some z0.W
        have hbz2 : ∀ px : UPst z0.W, p < px.W.heap.size := fun px => px.size hbz
        have S1 : ∀ px : UPst z0.W, px.W.cell? ⟨p, o + q * 3 + 1, none⟩ = some (.string (mt k0)) := fun px => px.cell gc hbz
        go_upto_region 7 with fail
        clear gc hbz
        refine uregion z0.W (Below.refl _ _) (by kernel_rfl) (by kernel_rfl) ?_
        repeat (first
          | go_big_quiet_skip
          | (go_big_quiet_want; go_big_quiet_op; first | go_big_quiet_on | (apply Exists.intro; refine ⟨fun px => ?_, ?_⟩; (focus ((go_at_call 40; refine (markText k0 _ (by omega) (by omega)).mono ?_; rintro e w' ⟨he, hb⟩; exact ⟨he, ⟨w', blw_trans px.ok hb⟩, rfl⟩))); go_big_quiet_on)))
        refine wpQuiet_nil ?_
        intro _ hw'
        obtain ⟨z1, hw''⟩ := hw'
        subst hw''
        replace HB := uh (blw_trans HB.out z1.ok)
        replace HG := uh (rA_later HG.out HPR.out z1.ok)
        replace R2 := uh (R2.out.later z1.ok)
        replace HPR := uh (Nat.lt_of_lt_of_le HPR.out z1.ok.size)
        clear S1 hbz2 hNE
        obtain ⟨k1, hk1⟩ : ∃ k1 : Nat, k1 = k0 + 1 := ⟨_, rfl⟩
        have hkc1 : (k0 : Int) + 1 = (k1 : Int) := by omega
        have HK1 := uh hk1
        have kb1 : 1 ≤ k1 ∧ k1 ≤ 4000000000000000000 := by have := HCN.out; have := HK0.out; have := HK1.out; omega
        obtain ⟨kl1, ku1⟩ := kb1
        try rw [← hk1] at HG
        try rw [← hk1] at R2
        clear hk1
        go_upto_region 10 with fail
        clear hkc1
        have hbz := HPR.out
        obtain ⟨va2, vc2, hva⟩ := R2.out.len0
        subst hva
        have gc : z1.W.cell? ⟨p, o + q * 3 + 2, none⟩ = some (.slice va2 n2 vc2) := rA_get HG.out 2 _ rfl
        obtain ⟨k2, hk2⟩ : ∃ k2 : Nat, k2 = k1 + cntL e2 := ⟨_, rfl⟩
        have HK2 := uh hk2
        have kb2 : 1 ≤ k2 ∧ k2 ≤ 4000000000000000000 := by have := HCN.out; have := HK0.out; have := HK1.out; have := HK2.out; omega
        obtain ⟨kl2, ku2⟩ := kb2
        have kn2 : ¬ (k2 : Int) < 0 := by omega
        clear hk2
        go_wp2_with fail
        refine (heldSheetLineS n2 e2 (.slice va2 n2 vc2) k1 z1.W t2 R2.out (by omega) (by have := HK2.out; omega)).mono ?_
        rintro e x2 ⟨he, hb2⟩
        rw [← HK2.out] at he
        subst he
        replace HB := uh (blw_trans HB.out hb2)
        replace HG := uh (rA_later HG.out HPR.out hb2)
        replace HPR := uh (Nat.lt_of_lt_of_le HPR.out hb2.size)
        clear gc hbz hb2
        have HF : Hid (k2 = k + cntL (es.take ((q + 1) * 3))) := by
          have := HNX.out; simp only [cntL] at this; have := HK0.out; have := HK1.out; have := HK2.out; show _ = _; omega
        go_wp2
        go_roundw
        case rel => exact ⟨q + 1, by omega, by go_num, by rw [← HF.out], HB.out⟩
        case measure => simp [intOf]; omega
      · obtain rfl : q = n := by omega
        have el_ : es.length = q * 3 := HT.out.rows
        rw [← el_, List.take_length]
        go_wp2
        go_ret
        exact ⟨rfl, HB.out⟩
set_option maxRecDepth 8000 in
set_option maxHeartbeats 8000000 in
theorem heldSheet (ds : List Dt) (cs : List Value) (k : Nat) (w : World) (ht : Typ shSheet ds) (h : Raw w shSheet (mkT k ds) cs) (h1 : 1 ≤ k) (hk : k + cntT ds ≤ 4000000000000000000) :
    Calls Tryz.prog 9 #[.agg cs.toArray, .int .i64 (k : Int)] w fun e w' => e = .returned (.int .i64 ((k + cntT ds : Nat) : Int)) ∧ Below w.heap.size w w' := by
  obtain ⟨n0, e0, rfl, t0⟩ := segTypSheet ht
  simp only [mkT] at h
  obtain ⟨v0, x0, rfl, r0, h_0⟩ := h.c_r
  obtain rfl := h_0.c_n
  obtain ⟨cs, hcs⟩ : ∃ cs : List Value, cs = v0 :: [] := ⟨_, rfl⟩
  rw [← hcs]
  have HCS := uh hcs
  simp only [cntT] at hk ⊢
  obtain ⟨wa, hwa⟩ : ∃ wa, wa = w.alloc (.cells cs.toArray 24) := ⟨_, rfl⟩
  have HB : Hid (Below w.heap.size w wa) := by show Below _ _ _; rw [hwa]; exact blw_alloc (Below.refl _ _) _
  have HX : Hid (LBox wa w.heap.size cs) := by show LBox _ _ _; rw [hwa]; exact LBox.new w cs.toArray _ _ rfl
  have R0 := uh (r0.later HB.out)
  have HKK := uh hk
  clear hcs hk r0
  go_enter Tryz.func9, Tryz.ntmps9
  go_upto_region 1 with fail
  rw [← hwa]
  clear hwa
  have hbz := HX.out.lt
  have hbx := boxSheet  (by have := HX.out.at_; rw [HCS.out] at this; exact this)
  have gc := hbx
  clear hbx
  obtain ⟨k0, hk0⟩ : ∃ k0 : Nat, k0 = k + cntL e0 := ⟨_, rfl⟩
  have HK0 := uh hk0
  have kb0 : 1 ≤ k0 ∧ k0 ≤ 4000000000000000000 := by have := HKK.out; have := HK0.out; omega
  obtain ⟨kl0, ku0⟩ := kb0
  clear hk0
  have kn0 : ¬ (k0 : Int) < 0 := by omega
  obtain ⟨va0, vc0, hva⟩ := R0.out.len0
  subst hva
  go_wp2_with fail
  refine (heldSheetBlockS n0 e0 (.slice va0 n0 vc0) k wa t0 (by have := R0.out; simpa only [Nat.add_zero] using this) (by omega) (by have := HK0.out; omega)).mono ?_
  rintro e x0 ⟨he, hb0⟩
  rw [← HK0.out] at he
  subst he
  replace HX := uh (HX.out.later hb0)
  replace HB := uh (blw_trans HB.out hb0)
  clear gc hbz hb0
  go_wp2
  go_ret
  exact ⟨Pl.ret_int (by have := HKK.out; have := HK0.out; omega), HB.out⟩
end Go.Proofs.YtdllbcafbfkngaaGreatDoor

namespace Go.Proofs.YtdllbcafbfkngaaGreatDoor
open Go.RowKit Go.Deep

set_option maxRecDepth 8000 in
set_option maxHeartbeats 8000000 in
theorem eqStringS (n : Nat) (es : List Dt) (v v' : Value) (w : World) (h : Raw w [.row 9 [.s]] [.row n es] [v]) (h' : Raw w [.row 9 [.s]] [.row n es] [v']) :
    Calls Tryz.prog 97 #[v, v'] w fun e w' => e = .returned (.bool true) ∧ Below w.heap.size w w' := by
  by_cases h0 : n = 0
  · subst h0
    obtain ⟨a, c, rfl⟩ := h.len0
    obtain ⟨a', c', rfl⟩ := h'.len0
    go_enter Tryz.func97, Tryz.ntmps97
    go_wp2
    refine wp_loop_rounds 1 ?_
    rw [rounds_succ]
    go_wp2
    go_ret
    exact ⟨rfl, Below.refl _ _⟩
  rcases h.slice with ⟨e0, _⟩ | ⟨p, o, c, rfl, hp, hn, vs, hr, hR⟩
  · exact absurd e0 h0
  rcases h'.slice with ⟨e0, _⟩ | ⟨p', o', c', rfl, hp', _, vs', hr', hR'⟩
  · exact absurd e0 h0
  have HR := uh (And.intro hR (And.intro hr hp))
  have HR' := uh (And.intro hR' (And.intro hr' hp'))
  have hn1 : n ≤ 9223372036854775807 := hn.1
  clear h h' hr hR hp hr' hR' hp' hn
  go_enter Tryz.func97, Tryz.ntmps97
  go_wp2
  go_loopw [5] (fun i wr => ∃ q : Nat, q ≤ n ∧ i = .int .i64 q ∧ Below w.heap.size w wr) (fun i _ => n - (intOf i).toNat)
  case atStart => exact ⟨0, Nat.zero_le _, rfl, Below.refl _ _⟩
  case round =>
    obtain ⟨q, hq, rfl, hW⟩ := hrel
    have HB := uh hW
    clear hW
    by_cases hlt : q < n
    · obtain ⟨ve, hE, hg⟩ := (HR.out.1.later HB.out).el hlt (rA_later HR.out.2.1 HR.out.2.2 HB.out)
      obtain ⟨ve', hE', hg'⟩ := (HR'.out.1.later HB.out).el hlt (rA_later HR'.out.2.1 HR'.out.2.2 HB.out)
      have hbp : p < wr.heap.size := Nat.lt_of_lt_of_le HR.out.2.2 HB.out.size
      have hbq : p' < wr.heap.size := Nat.lt_of_lt_of_le HR'.out.2.2 HB.out.size
      have hm0 : (0 : Int) ≤ (q : Int) := by omega
      have hm3 : (q : Int) < (n : Int) := by omega
      have hNE := upst_some wr
      have z1 : ∀ px : UPst wr, p < px.W.heap.size := fun px => px.size hbp
      have z2 : ∀ px : UPst wr, p' < px.W.heap.size := fun px => px.size hbq
      obtain ⟨d, hd⟩ : ∃ d, d = el 1 q es := ⟨_, rfl⟩
      have hE1 : Raw wr [.s] d ve := by rw [hd]; exact hE
      have hE2 : Raw wr [.s] d ve' := by rw [hd]; exact hE'
      obtain ⟨a0, rfl⟩ := typT1 hE1.typ
      obtain rfl := rawT1 hE1
      obtain rfl := rawT1 hE2
      have S1 : ∀ px : UPst wr, px.W.cell? ⟨p, o + q, none⟩ = some (.string a0) := fun px => px.cell (by have := rA_get hg 0 _ rfl; simpa using this) hbp
      have S2 : ∀ px : UPst wr, px.W.cell? ⟨p', o' + q, none⟩ = some (.string a0) := fun px => px.cell (by have := rA_get hg' 0 _ rfl; simpa using this) hbq
      clear hE hE' hE1 hE2 hd hg hg' hbp hbq HR HR'
      go_upto_region 6 with fail
      refine uregion wr (Below.refl _ _) (by kernel_rfl) (by kernel_rfl) ?_
      repeat (first
        | go_big_quiet_skip
        | (go_big_quiet_want; go_big_quiet_op; go_big_quiet_on))
      refine wpQuiet_nil ?_
      intro _ hw'
      obtain ⟨z, hw''⟩ := hw'
      subst hw''
      replace HB := uh (blw_trans HB.out z.ok)
      go_wp2
      go_roundw
      case rel => exact ⟨q + 1, by omega, by go_num, HB.out⟩
      case measure => simp [intOf]; omega
    · go_wp2
      go_ret
      exact ⟨rfl, HB.out⟩
set_option maxRecDepth 8000 in
set_option maxHeartbeats 8000000 in
theorem eqSheetLine (ds : List Dt) (cs cs' : List Value) (w : World) (h : Raw w shSheetLine ds cs) (h' : Raw w shSheetLine ds cs') :
    Calls Tryz.prog 77 #[.agg cs.toArray, .agg cs'.toArray] w fun e w' => e = .returned (.bool true) ∧ Below w.heap.size w w' := by
  obtain ⟨a0, n1, e1, rfl, t1⟩ := segTypSheetLine h.typ
  obtain ⟨zpp, hzpp⟩ : ∃ x, x = cs := ⟨_, rfl⟩
  obtain ⟨xp0, hxp0, hp1⟩ := h.c_s
  obtain ⟨vp1, xp1, hxp1, rp1, hp2⟩ := hp1.c_r
  have hxpn := hp2.c_n
  have Hp : Hid (cs = .string a0 :: vp1 :: []) := by show _ = _; rw [hxp0, hxp1, hxpn]
  clear hxp0 hxp1 hxpn
  obtain ⟨zqq, hzqq⟩ : ∃ x, x = cs' := ⟨_, rfl⟩
  obtain ⟨xq0, hxq0, hq1⟩ := h'.c_s
  obtain ⟨vq1, xq1, hxq1, rq1, hq2⟩ := hq1.c_r
  have hxqn := hq2.c_n
  have Hq : Hid (cs' = .string a0 :: vq1 :: []) := by show _ = _; rw [hxq0, hxq1, hxqn]
  clear hxq0 hxq1 hxqn
  obtain ⟨wa, hwa⟩ : ∃ wa, wa = (w.alloc (.cells cs.toArray 62)).alloc (.cells cs'.toArray 62) := ⟨_, rfl⟩
  have HB : Hid (Below w.heap.size w wa) := by show Below _ _ _; rw [hwa]; exact blw_alloc (blw_alloc (Below.refl _ _) _) _
  have HX : Hid (LBox wa w.heap.size cs) := by show LBox _ _ _; rw [hwa]; exact (LBox.new w cs.toArray _ _ rfl).past _
  have HY : Hid (LBox wa (w.heap.size + 1) cs') := by show LBox _ _ _; rw [hwa]; exact LBox.new _ cs'.toArray _ _ (by simp)
  have Rp1 := uh (rp1.later HB.out)
  have Rq1 := uh (rq1.later HB.out)
  clear h h' rp1 rq1 hp1 hq1 hp2 hq2 hzpp hzqq zpp zqq
  go_enter Tryz.func77, Tryz.ntmps77
  go_upto_region 1 with fail
  rw [← hwa]
  clear hwa
  have yz := HX.out.lt
  have xz := HY.out.lt
  have bp := boxSheetLine  (by have := HX.out.at_; rw [Hp.out] at this; exact this)
  have bq := boxSheetLine  (by have := HY.out.at_; rw [Hq.out] at this; exact this)
  obtain ⟨gp0, gp1⟩ := bp
  obtain ⟨gq0, gq1⟩ := bq
  obtain ⟨vap1, vcp1, hva⟩ := Rp1.out.len0
  subst hva
  obtain ⟨vaq1, vcq1, hva⟩ := Rq1.out.len0
  subst hva
  go_wp2_with fail
  refine (eqStringS n1 e1 _ _ wa Rp1.out Rq1.out).mono ?_
  rintro e x1 ⟨rfl, hb1⟩
  replace HB := uh (blw_trans HB.out hb1)
  replace HX := uh (HX.out.later hb1)
  replace HY := uh (HY.out.later hb1)
  clear hb1 yz xz gp0 gq0 gp1 gq1
  have yz := HX.out.lt
  have xz := HY.out.lt
  have bp := boxSheetLine  (by have := HX.out.at_; rw [Hp.out] at this; exact this)
  have bq := boxSheetLine  (by have := HY.out.at_; rw [Hq.out] at this; exact this)
  obtain ⟨gp0, gp1⟩ := bp
  obtain ⟨gq0, gq1⟩ := bq
  go_wp2
  go_ret
  exact ⟨rfl, HB.out⟩
set_option maxRecDepth 8000 in
set_option maxHeartbeats 8000000 in
theorem eqSheetLineS (n : Nat) (es : List Dt) (v v' : Value) (w : World) (h : Raw w [.row 62 shSheetLine] [.row n es] [v]) (h' : Raw w [.row 62 shSheetLine] [.row n es] [v']) :
    Calls Tryz.prog 59 #[v, v'] w fun e w' => e = .returned (.bool true) ∧ Below w.heap.size w w' := by
  by_cases h0 : n = 0
  · subst h0
    obtain ⟨a, c, rfl⟩ := h.len0
    obtain ⟨a', c', rfl⟩ := h'.len0
    go_enter Tryz.func59, Tryz.ntmps59
    go_wp2
    refine wp_loop_rounds 1 ?_
    rw [rounds_succ]
    go_wp2
    go_ret
    exact ⟨rfl, Below.refl _ _⟩
  rcases h.slice with ⟨e0, _⟩ | ⟨p, o, c, rfl, hp, hn, vs, hr, hR⟩
  · exact absurd e0 h0
  rcases h'.slice with ⟨e0, _⟩ | ⟨p', o', c', rfl, hp', _, vs', hr', hR'⟩
  · exact absurd e0 h0
  have HR := uh (And.intro hR (And.intro hr hp))
  have HR' := uh (And.intro hR' (And.intro hr' hp'))
  have hn1 : n ≤ 9223372036854775807 := hn.1
  clear h h' hr hR hp hr' hR' hp' hn
  go_enter Tryz.func59, Tryz.ntmps59
  go_wp2
  go_loopw [5] (fun i wr => ∃ q : Nat, q ≤ n ∧ i = .int .i64 q ∧ Below w.heap.size w wr) (fun i _ => n - (intOf i).toNat)
  case atStart => exact ⟨0, Nat.zero_le _, rfl, Below.refl _ _⟩
  case round =>
    obtain ⟨q, hq, rfl, hW⟩ := hrel
    have HB := uh hW
    clear hW
    by_cases hlt : q < n
    · obtain ⟨ve, hE, hg⟩ := (HR.out.1.later HB.out).el hlt (rA_later HR.out.2.1 HR.out.2.2 HB.out)
      obtain ⟨ve', hE', hg'⟩ := (HR'.out.1.later HB.out).el hlt (rA_later HR'.out.2.1 HR'.out.2.2 HB.out)
      have hbp : p < wr.heap.size := Nat.lt_of_lt_of_le HR.out.2.2 HB.out.size
      have hbq : p' < wr.heap.size := Nat.lt_of_lt_of_le HR'.out.2.2 HB.out.size
      have hm0 : (0 : Int) ≤ (q : Int) := by omega
      have hm3 : (q : Int) < (n : Int) := by omega
      have hNE := upst_some wr
      have z1 : ∀ px : UPst wr, p < px.W.heap.size := fun px => px.size hbp
      have z2 : ∀ px : UPst wr, p' < px.W.heap.size := fun px => px.size hbq
      have H1 := uh (And.intro hE.len (And.intro (show wr.rangeAt p (o + q * 2) ve from hg) hbp))
      have H2 := uh (And.intro hE'.len (And.intro (show wr.rangeAt p' (o' + q * 2) ve' from hg') hbq))
      have HX : Hid (∀ px : UPst wr, Calls Tryz.prog 77 #[.agg ve.toArray, .agg ve'.toArray] px.W fun e w' => e = .returned (.bool true) ∧ Below px.W.heap.size px.W w') := fun px => eqSheetLine _ ve ve' px.W (hE.later px.ok) (hE'.later px.ok)
      clear hE hE' hg hg' hbp hbq HR HR'
      go_upto_region 6 with fail
      refine uregion wr (Below.refl _ _) (by kernel_rfl) (by kernel_rfl) ?_
      repeat (first
        | go_big_quiet_skip
        | (go_big_quiet_want; (first | refine uq_load 62 _ rfl p (o + q * 2) rfl ve _ H1.out.2.1 H1.out.2.2 Tryz.underlying62 rfl (by rw [H1.out.1]; kernel_rfl) ?_ | refine uq_load 62 _ rfl p' (o' + q * 2) rfl ve' _ H2.out.2.1 H2.out.2.2 Tryz.underlying62 rfl (by rw [H2.out.1]; kernel_rfl) ?_); (simp only [Act.put, List.setIfInBounds_toArray, List.set_cons_zero, List.set_cons_succ]); go_big_quiet_on)
        | (go_big_quiet_want; go_big_quiet_op; first | go_big_quiet_on | (apply Exists.intro; refine ⟨fun px => ?_, ?_⟩; (focus ((go_at_call 77; refine (HX.out px).mono ?_; rintro e w' ⟨he, hb⟩; exact ⟨he, ⟨w', blw_trans px.ok hb⟩, rfl⟩))); go_big_quiet_on)))
      refine wpQuiet_nil ?_
      intro _ hw'
      obtain ⟨z, hw''⟩ := hw'
      subst hw''
      replace HB := uh (blw_trans HB.out z.ok)
      go_wp2
      go_roundw
      case rel => exact ⟨q + 1, by omega, by go_num, HB.out⟩
      case measure => simp [intOf]; omega
    · go_wp2
      go_ret
      exact ⟨rfl, HB.out⟩
set_option maxRecDepth 8000 in
set_option maxHeartbeats 8000000 in
theorem eqSheetBlock (ds : List Dt) (cs cs' : List Value) (w : World) (h : Raw w shSheetBlock ds cs) (h' : Raw w shSheetBlock ds cs') :
    Calls Tryz.prog 39 #[.agg cs.toArray, .agg cs'.toArray] w fun e w' => e = .returned (.bool true) ∧ Below w.heap.size w w' := by
  obtain ⟨a0, a1, n2, e2, rfl, t2⟩ := segTypSheetBlock h.typ
  obtain ⟨zpp, hzpp⟩ : ∃ x, x = cs := ⟨_, rfl⟩
  obtain ⟨xp0, hxp0, hp1⟩ := h.c_s
  obtain ⟨xp1, hxp1, hp2⟩ := hp1.c_s
  obtain ⟨vp2, xp2, hxp2, rp2, hp3⟩ := hp2.c_r
  have hxpn := hp3.c_n
  have Hp : Hid (cs = .string a0 :: .string a1 :: vp2 :: []) := by show _ = _; rw [hxp0, hxp1, hxp2, hxpn]
  clear hxp0 hxp1 hxp2 hxpn
  obtain ⟨zqq, hzqq⟩ : ∃ x, x = cs' := ⟨_, rfl⟩
  obtain ⟨xq0, hxq0, hq1⟩ := h'.c_s
  obtain ⟨xq1, hxq1, hq2⟩ := hq1.c_s
  obtain ⟨vq2, xq2, hxq2, rq2, hq3⟩ := hq2.c_r
  have hxqn := hq3.c_n
  have Hq : Hid (cs' = .string a0 :: .string a1 :: vq2 :: []) := by show _ = _; rw [hxq0, hxq1, hxq2, hxqn]
  clear hxq0 hxq1 hxq2 hxqn
  obtain ⟨wa, hwa⟩ : ∃ wa, wa = (w.alloc (.cells cs.toArray 37)).alloc (.cells cs'.toArray 37) := ⟨_, rfl⟩
  have HB : Hid (Below w.heap.size w wa) := by show Below _ _ _; rw [hwa]; exact blw_alloc (blw_alloc (Below.refl _ _) _) _
  have HX : Hid (LBox wa w.heap.size cs) := by show LBox _ _ _; rw [hwa]; exact (LBox.new w cs.toArray _ _ rfl).past _
  have HY : Hid (LBox wa (w.heap.size + 1) cs') := by show LBox _ _ _; rw [hwa]; exact LBox.new _ cs'.toArray _ _ (by simp)
  have Rp2 := uh (rp2.later HB.out)
  have Rq2 := uh (rq2.later HB.out)
  clear h h' rp2 rq2 hp1 hq1 hp2 hq2 hp3 hq3 hzpp hzqq zpp zqq
  go_enter Tryz.func39, Tryz.ntmps39
  go_upto_region 1 with fail
  rw [← hwa]
  clear hwa
  have yz := HX.out.lt
  have xz := HY.out.lt
  have bp := boxSheetBlock  (by have := HX.out.at_; rw [Hp.out] at this; exact this)
  have bq := boxSheetBlock  (by have := HY.out.at_; rw [Hq.out] at this; exact this)
  obtain ⟨gp0, gp1, gp2⟩ := bp
  obtain ⟨gq0, gq1, gq2⟩ := bq
  obtain ⟨vap2, vcp2, hva⟩ := Rp2.out.len0
  subst hva
  obtain ⟨vaq2, vcq2, hva⟩ := Rq2.out.len0
  subst hva
  go_wp2_with fail
  refine (eqSheetLineS n2 e2 _ _ wa Rp2.out Rq2.out).mono ?_
  rintro e x2 ⟨rfl, hb2⟩
  replace HB := uh (blw_trans HB.out hb2)
  replace HX := uh (HX.out.later hb2)
  replace HY := uh (HY.out.later hb2)
  clear hb2 yz xz gp0 gq0 gp1 gq1 gp2 gq2
  have yz := HX.out.lt
  have xz := HY.out.lt
  have bp := boxSheetBlock  (by have := HX.out.at_; rw [Hp.out] at this; exact this)
  have bq := boxSheetBlock  (by have := HY.out.at_; rw [Hq.out] at this; exact this)
  obtain ⟨gp0, gp1, gp2⟩ := bp
  obtain ⟨gq0, gq1, gq2⟩ := bq
  go_wp2
  go_ret
  exact ⟨rfl, HB.out⟩
set_option maxRecDepth 8000 in
set_option maxHeartbeats 8000000 in
theorem eqSheetBlockS (n : Nat) (es : List Dt) (v v' : Value) (w : World) (h : Raw w [.row 37 shSheetBlock] [.row n es] [v]) (h' : Raw w [.row 37 shSheetBlock] [.row n es] [v']) :
    Calls Tryz.prog 18 #[v, v'] w fun e w' => e = .returned (.bool true) ∧ Below w.heap.size w w' := by
  by_cases h0 : n = 0
  · subst h0
    obtain ⟨a, c, rfl⟩ := h.len0
    obtain ⟨a', c', rfl⟩ := h'.len0
    go_enter Tryz.func18, Tryz.ntmps18
    go_wp2
    refine wp_loop_rounds 1 ?_
    rw [rounds_succ]
    go_wp2
    go_ret
    exact ⟨rfl, Below.refl _ _⟩
  rcases h.slice with ⟨e0, _⟩ | ⟨p, o, c, rfl, hp, hn, vs, hr, hR⟩
  · exact absurd e0 h0
  rcases h'.slice with ⟨e0, _⟩ | ⟨p', o', c', rfl, hp', _, vs', hr', hR'⟩
  · exact absurd e0 h0
  have HR := uh (And.intro hR (And.intro hr hp))
  have HR' := uh (And.intro hR' (And.intro hr' hp'))
  have hn1 : n ≤ 9223372036854775807 := hn.1
  clear h h' hr hR hp hr' hR' hp' hn
  go_enter Tryz.func18, Tryz.ntmps18
  go_wp2
  go_loopw [5] (fun i wr => ∃ q : Nat, q ≤ n ∧ i = .int .i64 q ∧ Below w.heap.size w wr) (fun i _ => n - (intOf i).toNat)
  case atStart => exact ⟨0, Nat.zero_le _, rfl, Below.refl _ _⟩
  case round =>
    obtain ⟨q, hq, rfl, hW⟩ := hrel
    have HB := uh hW
    clear hW
    by_cases hlt : q < n
    · obtain ⟨ve, hE, hg⟩ := (HR.out.1.later HB.out).el hlt (rA_later HR.out.2.1 HR.out.2.2 HB.out)
      obtain ⟨ve', hE', hg'⟩ := (HR'.out.1.later HB.out).el hlt (rA_later HR'.out.2.1 HR'.out.2.2 HB.out)
      have hbp : p < wr.heap.size := Nat.lt_of_lt_of_le HR.out.2.2 HB.out.size
      have hbq : p' < wr.heap.size := Nat.lt_of_lt_of_le HR'.out.2.2 HB.out.size
      have hm0 : (0 : Int) ≤ (q : Int) := by omega
      have hm3 : (q : Int) < (n : Int) := by omega
      have hNE := upst_some wr
      have z1 : ∀ px : UPst wr, p < px.W.heap.size := fun px => px.size hbp
      have z2 : ∀ px : UPst wr, p' < px.W.heap.size := fun px => px.size hbq
      have H1 := uh (And.intro hE.len (And.intro (show wr.rangeAt p (o + q * 3) ve from hg) hbp))
      have H2 := uh (And.intro hE'.len (And.intro (show wr.rangeAt p' (o' + q * 3) ve' from hg') hbq))
      have HX : Hid (∀ px : UPst wr, Calls Tryz.prog 39 #[.agg ve.toArray, .agg ve'.toArray] px.W fun e w' => e = .returned (.bool true) ∧ Below px.W.heap.size px.W w') := fun px => eqSheetBlock _ ve ve' px.W (hE.later px.ok) (hE'.later px.ok)
      clear hE hE' hg hg' hbp hbq HR HR'
      go_upto_region 6 with fail
      refine uregion wr (Below.refl _ _) (by kernel_rfl) (by kernel_rfl) ?_
      repeat (first
        | go_big_quiet_skip
        | (go_big_quiet_want; (first | refine uq_load 37 _ rfl p (o + q * 3) rfl ve _ H1.out.2.1 H1.out.2.2 Tryz.underlying37 rfl (by rw [H1.out.1]; kernel_rfl) ?_ | refine uq_load 37 _ rfl p' (o' + q * 3) rfl ve' _ H2.out.2.1 H2.out.2.2 Tryz.underlying37 rfl (by rw [H2.out.1]; kernel_rfl) ?_); (simp only [Act.put, List.setIfInBounds_toArray, List.set_cons_zero, List.set_cons_succ]); go_big_quiet_on)
        | (go_big_quiet_want; go_big_quiet_op; first | go_big_quiet_on | (apply Exists.intro; refine ⟨fun px => ?_, ?_⟩; (focus ((go_at_call 39; refine (HX.out px).mono ?_; rintro e w' ⟨he, hb⟩; exact ⟨he, ⟨w', blw_trans px.ok hb⟩, rfl⟩))); go_big_quiet_on)))
      refine wpQuiet_nil ?_
      intro _ hw'
      obtain ⟨z, hw''⟩ := hw'
      subst hw''
      replace HB := uh (blw_trans HB.out z.ok)
      go_wp2
      go_roundw
      case rel => exact ⟨q + 1, by omega, by go_num, HB.out⟩
      case measure => simp [intOf]; omega
    · go_wp2
      go_ret
      exact ⟨rfl, HB.out⟩
set_option maxRecDepth 8000 in
set_option maxHeartbeats 8000000 in
theorem eqSheet (ds : List Dt) (cs cs' : List Value) (w : World) (h : Raw w shSheet ds cs) (h' : Raw w shSheet ds cs') :
    Calls Tryz.prog 6 #[.agg cs.toArray, .agg cs'.toArray] w fun e w' => e = .returned (.bool true) ∧ Below w.heap.size w w' := by
  obtain ⟨n0, e0, rfl, t0⟩ := segTypSheet h.typ
  obtain ⟨zpp, hzpp⟩ : ∃ x, x = cs := ⟨_, rfl⟩
  obtain ⟨vp0, xp0, hxp0, rp0, hp1⟩ := h.c_r
  have hxpn := hp1.c_n
  have Hp : Hid (cs = vp0 :: []) := by show _ = _; rw [hxp0, hxpn]
  clear hxp0 hxpn
  obtain ⟨zqq, hzqq⟩ : ∃ x, x = cs' := ⟨_, rfl⟩
  obtain ⟨vq0, xq0, hxq0, rq0, hq1⟩ := h'.c_r
  have hxqn := hq1.c_n
  have Hq : Hid (cs' = vq0 :: []) := by show _ = _; rw [hxq0, hxqn]
  clear hxq0 hxqn
  obtain ⟨wa, hwa⟩ : ∃ wa, wa = (w.alloc (.cells cs.toArray 24)).alloc (.cells cs'.toArray 24) := ⟨_, rfl⟩
  have HB : Hid (Below w.heap.size w wa) := by show Below _ _ _; rw [hwa]; exact blw_alloc (blw_alloc (Below.refl _ _) _) _
  have HX : Hid (LBox wa w.heap.size cs) := by show LBox _ _ _; rw [hwa]; exact (LBox.new w cs.toArray _ _ rfl).past _
  have HY : Hid (LBox wa (w.heap.size + 1) cs') := by show LBox _ _ _; rw [hwa]; exact LBox.new _ cs'.toArray _ _ (by simp)
  have Rp0 := uh (rp0.later HB.out)
  have Rq0 := uh (rq0.later HB.out)
  clear h h' rp0 rq0 hp1 hq1 hzpp hzqq zpp zqq
  go_enter Tryz.func6, Tryz.ntmps6
  go_upto_region 1 with fail
  rw [← hwa]
  clear hwa
  have yz := HX.out.lt
  have xz := HY.out.lt
  have bp := boxSheet  (by have := HX.out.at_; rw [Hp.out] at this; exact this)
  have bq := boxSheet  (by have := HY.out.at_; rw [Hq.out] at this; exact this)
  have gp0 := bp
  have gq0 := bq
  clear bp bq
  obtain ⟨vap0, vcp0, hva⟩ := Rp0.out.len0
  subst hva
  obtain ⟨vaq0, vcq0, hva⟩ := Rq0.out.len0
  subst hva
  go_wp2_with fail
  refine (eqSheetBlockS n0 e0 _ _ wa Rp0.out Rq0.out).mono ?_
  rintro e x0 ⟨rfl, hb0⟩
  replace HB := uh (blw_trans HB.out hb0)
  replace HX := uh (HX.out.later hb0)
  replace HY := uh (HY.out.later hb0)
  clear hb0 yz xz gp0 gq0
  have yz := HX.out.lt
  have xz := HY.out.lt
  have bp := boxSheet  (by have := HX.out.at_; rw [Hp.out] at this; exact this)
  have bq := boxSheet  (by have := HY.out.at_; rw [Hq.out] at this; exact this)
  have gp0 := bp
  have gq0 := bq
  clear bp bq
  go_wp2
  go_ret
  exact ⟨rfl, HB.out⟩
end Go.Proofs.YtdllbcafbfkngaaGreatDoor

namespace Go.Proofs.YtdllbcafbfkngaaGreatDoor
open Go.RowKit Go.Deep

abbrev shSheetFault : List Sh := [.i, .i]
theorem rawSheetFault_mk {w : World} (a0 : Int) (a1 : Int) : Raw w shSheetFault [.i a0, .i a1] [.int .i64 a0, .int .i64 a1] :=
  (.i a0 (.i a1 .nil))
theorem segTypSheetFault {ds : List Dt} (h : Typ shSheetFault ds) : ∃ (a0 : Int) (a1 : Int), ds = .i a0 :: .i a1 :: [] := by
  obtain ⟨a0, x0, rfl, h1⟩ := h.c_i
  obtain ⟨a1, x1, rfl, h2⟩ := h1.c_i
  obtain rfl := h2.c_n
  exact ⟨a0, a1, rfl⟩
theorem boxSheetFault {W : World} {B : Nat} {a0 : Int} {a1 : Int}  (h : W.rangeAt B 0 (.int .i64 a0 :: .int .i64 a1 :: [])) : W.cell? ⟨B, 0, none⟩ = some (.int .i64 a0) ∧ W.cell? ⟨B, 1, none⟩ = some (.int .i64 a1) := by
  obtain ⟨g0, k0⟩ := rA_cons h
  have h1 : W.rangeAt B 1 _ := k0
  obtain ⟨g1, k1⟩ := rA_cons h1
  have h2 : W.rangeAt B 2 _ := k1
  exact ⟨g0, g1⟩
end Go.Proofs.YtdllbcafbfkngaaGreatDoor

namespace Go.Proofs.YtdllbcafbfkngaaGreatDoor
open Go.RowKit Go.Deep

set_option maxRecDepth 8000 in
set_option maxHeartbeats 8000000 in
theorem eqSheetFault (ds : List Dt) (cs cs' : List Value) (w : World) (h : Raw w shSheetFault ds cs) (h' : Raw w shSheetFault ds cs') :
    Calls Tryz.prog 7 #[.agg cs.toArray, .agg cs'.toArray] w fun e w' => e = .returned (.bool true) ∧ Below w.heap.size w w' := by
  obtain ⟨a0, a1, rfl⟩ := segTypSheetFault h.typ
  obtain ⟨zpp, hzpp⟩ : ∃ x, x = cs := ⟨_, rfl⟩
  obtain ⟨xp0, hxp0, hp1⟩ := h.c_i
  obtain ⟨xp1, hxp1, hp2⟩ := hp1.c_i
  have hxpn := hp2.c_n
  have Hp : Hid (cs = .int .i64 a0 :: .int .i64 a1 :: []) := by show _ = _; rw [hxp0, hxp1, hxpn]
  clear hxp0 hxp1 hxpn
  obtain ⟨zqq, hzqq⟩ : ∃ x, x = cs' := ⟨_, rfl⟩
  obtain ⟨xq0, hxq0, hq1⟩ := h'.c_i
  obtain ⟨xq1, hxq1, hq2⟩ := hq1.c_i
  have hxqn := hq2.c_n
  have Hq : Hid (cs' = .int .i64 a0 :: .int .i64 a1 :: []) := by show _ = _; rw [hxq0, hxq1, hxqn]
  clear hxq0 hxq1 hxqn
  obtain ⟨wa, hwa⟩ : ∃ wa, wa = (w.alloc (.cells cs.toArray 26)).alloc (.cells cs'.toArray 26) := ⟨_, rfl⟩
  have HB : Hid (Below w.heap.size w wa) := by show Below _ _ _; rw [hwa]; exact blw_alloc (blw_alloc (Below.refl _ _) _) _
  have HX : Hid (LBox wa w.heap.size cs) := by show LBox _ _ _; rw [hwa]; exact (LBox.new w cs.toArray _ _ rfl).past _
  have HY : Hid (LBox wa (w.heap.size + 1) cs') := by show LBox _ _ _; rw [hwa]; exact LBox.new _ cs'.toArray _ _ (by simp)
  clear h h' hp1 hq1 hp2 hq2 hzpp hzqq zpp zqq
  go_enter Tryz.func7, Tryz.ntmps7
  go_upto_region 1 with fail
  rw [← hwa]
  clear hwa
  have yz := HX.out.lt
  have xz := HY.out.lt
  have bp := boxSheetFault  (by have := HX.out.at_; rw [Hp.out] at this; exact this)
  have bq := boxSheetFault  (by have := HY.out.at_; rw [Hq.out] at this; exact this)
  obtain ⟨gp0, gp1⟩ := bp
  obtain ⟨gq0, gq1⟩ := bq
  go_wp2
  go_ret
  exact ⟨rfl, HB.out⟩
end Go.Proofs.YtdllbcafbfkngaaGreatDoor

namespace Go.Proofs.YtdllbcafbfkngaaGreatDoor
open Go.RowKit Go.Deep

/-- Two new variables, a sheet and a fault, stored into. -/
theorem nv2 (W : World) (c f : List Value) (t1 t2 : TypeId) (y1 y2 : World) (h1 : y1 = ((W.alloc (.cells #[.slice none 0 0] t1)).alloc (.cells #[.int .i64 0, .int .i64 0] t2)).setCells W.heap.size 0 c) (h2 : y2 = y1.setCells (W.heap.size + 1) 0 f) (hc : c.length = 1) (hf : f.length = 2) :
    ((W.alloc (.cells #[.slice none 0 0] t1)).alloc (.cells #[.int .i64 0, .int .i64 0] t2)).there W.heap.size 0 c.toArray.size ∧ y1.there (W.heap.size + 1) 0 f.toArray.size ∧ WBox y2 W.heap.size t1 c ∧ WBox y2 (W.heap.size + 1) t2 f ∧ Below W.heap.size W y2 := by
  have b1 : WBox ((W.alloc (.cells #[.slice none 0 0] t1)).alloc (.cells #[.int .i64 0, .int .i64 0] t2)) W.heap.size t1 [.slice none 0 0] := (WBox.new W [.slice none 0 0] t1 _ rfl).later (blw_alloc (Below.refl _ _) _)
  have b2 : WBox ((W.alloc (.cells #[.slice none 0 0] t1)).alloc (.cells #[.int .i64 0, .int .i64 0] t2)) (W.heap.size + 1) t2 [.int .i64 0, .int .i64 0] := WBox.new (W.alloc (.cells #[.slice none 0 0] t1)) [.int .i64 0, .int .i64 0] t2 _ (by simp)
  have th1 : ((W.alloc (.cells #[.slice none 0 0] t1)).alloc (.cells #[.int .i64 0, .int .i64 0] t2)).there W.heap.size 0 c.toArray.size := uthere b1.own _ _ (by simp [hc])
  have m1 : Marks (fun b => b = W.heap.size) ((W.alloc (.cells #[.slice none 0 0] t1)).alloc (.cells #[.int .i64 0, .int .i64 0] t2)) y1 := by rw [h1]; exact mks_scs (S := fun b => b = W.heap.size) rfl _ _ _
  have c2 := b2.mks m1 (by omega)
  have th2 : y1.there (W.heap.size + 1) 0 f.toArray.size := uthere c2.own _ _ (by simp [hf])
  have m2 : Marks (fun b => b = W.heap.size + 1) y1 y2 := by rw [h2]; exact mks_scs (S := fun b => b = W.heap.size + 1) rfl _ _ _
  have c1 : WBox y1 W.heap.size t1 c := by
    rw [h1]
    exact ⟨(by rw [hc]; exact own_scs _ _ _ b1.own), World.rangeAt_setCells_same _ _ _ _ (by simpa using th1)⟩
  refine ⟨th1, th2, c1.mks m2 (by omega), ?_, m2.below (fun b e => by omega) (m1.below (fun b e => by omega) (blw_alloc (blw_alloc (Below.refl _ _) _) _))⟩
  rw [h2]
  exact ⟨(by rw [hf]; exact own_scs _ _ _ c2.own), World.rangeAt_setCells_same _ _ _ _ (by simpa using th2)⟩

set_option maxRecDepth 8000 in
set_option maxHeartbeats 16000000 in
theorem lawSheetParse (ex0 : ByteArray) (o : List Pl.Bl × Nat × Nat) (w : World) (hx0 : ex0.size ≤ maxLen)
    (hS : ex0.size ≤ 1048576 → ∀ W : World, Calls Tryz.prog 4 #[.string ex0] W (AnsF o W))
    (hI : ex0.size ≤ 1048576 → ∀ W : World, Below w.heap.size w W → Calls Tryz.prog 5 #[.string ex0] W (AnsF o W))
    (hA : ex0.size ≤ 1048576 → cntT [blsD o.1] ≤ 1000000000) :
    Calls Tryz.prog 3 #[.string ex0] w fun e w' => e = .returned (.bool true) ∧ Below w.heap.size w w' := by
  have hy0 : ex0.size ≤ 9223372036854775807 := hx0
  clear hx0
  have HSP := uh hS
  have HIM := uh hI
  have HCN := uh hA
  clear hS hI hA
  have HB : Hid (Below w.heap.size w w) := Below.refl _ _
  have O0 := uh (Nat.le_refl w.heap.size)
  go_enter Tryz.func3, Tryz.ntmps3
  by_cases ht0 : 1048576 < (ex0.size : Int)
  · go_wp2
    go_ret
    exact ⟨rfl, HB.out⟩
  have HT0 : Hid (ex0.size ≤ 1048576) := by show _ ≤ _; omega
  replace HSP := uh (HSP.out HT0.out)
  replace HIM := uh (HIM.out HT0.out)
  replace HCN := uh (HCN.out HT0.out)
  have HC := uh (HSP.out w)
  go_wp2_with fail
  refine HC.out.mono ?_
  rintro e w1 ⟨cS, FS, rfl, rep, nd, fr, hb⟩
  clear HC
  replace HB := uh (blw_trans HB.out hb)
  have O1 := uh (hb.size)
  have FBS : Hid (∀ b ∈ FS, w.heap.size ≤ b ∧ b < w1.heap.size) := fun b hb => ⟨fr b hb, rep.lt b hb⟩
  have NDS := uh nd
  have RPS := uh rep
  have LNS : Hid (cS.length = 1) := rep.len
  have hone := all_oneCell_toArray rep.raw.one
  have hsz : (Tryz.prog.info? 24).map (·.size) = some cS.toArray.size := by rw [List.size_toArray, LNS.out]; kernel_rfl
  clear rep nd fr hb
  obtain ⟨yS1, hy1⟩ : ∃ y, y = ((w1.alloc (.cells #[.slice none 0 0] 24)).alloc (.cells #[.int .i64 0, .int .i64 0] 26)).setCells w1.heap.size 0 cS := ⟨_, rfl⟩
  obtain ⟨yS, hy2⟩ : ∃ y, y = yS1.setCells (w1.heap.size + 1) 0 [.int .i64 ((o.2.1 : Nat) : Int), .int .i64 ((o.2.2 : Nat) : Int)] := ⟨_, rfl⟩
  obtain ⟨hth1, hth2, hx1, hx2, hb⟩ := nv2 w1 cS [.int .i64 ((o.2.1 : Nat) : Int), .int .i64 ((o.2.2 : Nat) : Int)] 24 26 yS1 yS hy1 hy2 LNS.out rfl
  have HXS := uh hx1
  have HYS := uh hx2
  have HW1 := uh hy1
  have HW2 := uh hy2
  replace HB := uh (blw_trans HB.out hb)
  have O2 := uh (hb.size)
  replace RPS := uh (RPS.out.later hb)
  have O3 := uh (HYS.out.own.lt)
  clear hb hx1 hx2 hy1 hy2
  go_upto_region 4 with (first | (refine wpList_store_mid rfl 24 _ _ rfl w1.heap.size 0 cS.toArray rfl rfl hth1 hsz hone ?_; first | rw [← HW1.out] | (simp only [List.toList_toArray]; rw [← HW1.out])) | (refine wpList_store_mid rfl 26 _ _ rfl (w1.heap.size + 1) 0 #[.int .i64 ((o.2.1 : Nat) : Int), .int .i64 ((o.2.2 : Nat) : Int)] rfl rfl hth2 (by kernel_rfl) (by simp [Value.oneCell']) ?_; first | rw [← HW2.out] | (simp only [List.toList_toArray]; rw [← HW2.out])))
  clear hth1 hth2 hsz hone HW1 HW2
  have HC := uh (HIM.out yS HB.out)
  have zHXS := HXS.out.own.lt
  have zHYS := HYS.out.own.lt
  go_wp2_with fail
  refine HC.out.mono ?_
  rintro e w2 ⟨cG, FG, rfl, rep, nd, fr, hb⟩
  clear HC
  clear zHXS zHYS
  replace HB := uh (blw_trans HB.out hb)
  replace HXS := uh (HXS.out.later hb)
  replace HYS := uh (HYS.out.later hb)
  replace RPS := uh (RPS.out.later hb)
  have O4 := uh (hb.size)
  have FBG : Hid (∀ b ∈ FG, yS.heap.size ≤ b ∧ b < w2.heap.size) := fun b hb => ⟨fr b hb, rep.lt b hb⟩
  have NDG := uh nd
  have RPG := uh rep
  have LNG : Hid (cG.length = 1) := rep.len
  have hone := all_oneCell_toArray rep.raw.one
  have hsz : (Tryz.prog.info? 24).map (·.size) = some cG.toArray.size := by rw [List.size_toArray, LNG.out]; kernel_rfl
  clear rep nd fr hb
  obtain ⟨yG1, hy1⟩ : ∃ y, y = ((w2.alloc (.cells #[.slice none 0 0] 24)).alloc (.cells #[.int .i64 0, .int .i64 0] 26)).setCells w2.heap.size 0 cG := ⟨_, rfl⟩
  obtain ⟨yG, hy2⟩ : ∃ y, y = yG1.setCells (w2.heap.size + 1) 0 [.int .i64 ((o.2.1 : Nat) : Int), .int .i64 ((o.2.2 : Nat) : Int)] := ⟨_, rfl⟩
  obtain ⟨hth1, hth2, hx1, hx2, hb⟩ := nv2 w2 cG [.int .i64 ((o.2.1 : Nat) : Int), .int .i64 ((o.2.2 : Nat) : Int)] 24 26 yG1 yG hy1 hy2 LNG.out rfl
  have HXG := uh hx1
  have HYG := uh hx2
  have HW1 := uh hy1
  have HW2 := uh hy2
  replace HB := uh (blw_trans HB.out hb)
  replace HXS := uh (HXS.out.later hb)
  replace HYS := uh (HYS.out.later hb)
  replace RPS := uh (RPS.out.later hb)
  have O5 := uh (hb.size)
  replace RPG := uh (RPG.out.later hb)
  have O6 := uh (HYG.out.own.lt)
  clear hb hx1 hx2 hy1 hy2
  go_upto_region 5 with (first | (refine wpList_store_mid rfl 24 _ _ rfl w2.heap.size 0 cG.toArray rfl rfl hth1 hsz hone ?_; first | rw [← HW1.out] | (simp only [List.toList_toArray]; rw [← HW1.out])) | (refine wpList_store_mid rfl 26 _ _ rfl (w2.heap.size + 1) 0 #[.int .i64 ((o.2.1 : Nat) : Int), .int .i64 ((o.2.2 : Nat) : Int)] rfl rfl hth2 (by kernel_rfl) (by simp [Value.oneCell']) ?_; first | rw [← HW2.out] | (simp only [List.toList_toArray]; rw [← HW2.out])))
  clear hth1 hth2 hsz hone HW1 HW2
  have zHXS := HXS.out.own.lt
  have zHYS := HYS.out.own.lt
  have zHXG := HXG.out.own.lt
  have zHYG := HYG.out.own.lt
  have aHXG := HXG.out.at_
  have aHXS := HXS.out.at_
  go_wp2_with (first | (refine wpList_load_mid rfl 24 _ rfl (w2.heap.size) 0 rfl cG _ aHXG Tryz.underlying24 rfl (by rw [LNG.out]; kernel_rfl) ?_) | (refine wpList_load_mid rfl 24 _ rfl (w1.heap.size) 0 rfl cS _ aHXS Tryz.underlying24 rfl (by rw [LNS.out]; kernel_rfl) ?_))
  refine (eqSheet [blsD o.1] cG cS yG RPG.out.raw RPS.out.raw).mono ?_
  rintro e w3 ⟨rfl, hb⟩
  clear aHXG aHXS
  clear zHXS zHYS zHXG zHYG
  replace HB := uh (blw_trans HB.out hb)
  replace HXS := uh (HXS.out.later hb)
  replace HYS := uh (HYS.out.later hb)
  replace HXG := uh (HXG.out.later hb)
  replace HYG := uh (HYG.out.later hb)
  replace RPS := uh (RPS.out.later hb)
  replace RPG := uh (RPG.out.later hb)
  have O7 := uh (hb.size)
  clear hb
  have zHXS := HXS.out.own.lt
  have zHYS := HYS.out.own.lt
  have zHXG := HXG.out.own.lt
  have zHYG := HYG.out.own.lt
  have aHYG := HYG.out.at_
  have aHYS := HYS.out.at_
  go_wp2_with (first | (refine uload_g (by kernel_rfl) 26 _ rfl (w2.heap.size + 1) 0 rfl [.int .i64 ((o.2.1 : Nat) : Int), .int .i64 ((o.2.2 : Nat) : Int)] _ aHYG Tryz.underlying26 rfl (by kernel_rfl) ?_) | (refine uload_g (by kernel_rfl) 26 _ rfl (w1.heap.size + 1) 0 rfl [.int .i64 ((o.2.1 : Nat) : Int), .int .i64 ((o.2.2 : Nat) : Int)] _ aHYS Tryz.underlying26 rfl (by kernel_rfl) ?_))
  refine (eqSheetFault [.i (o.2.1 : Nat), .i (o.2.2 : Nat)] [.int .i64 ((o.2.1 : Nat) : Int), .int .i64 ((o.2.2 : Nat) : Int)] [.int .i64 ((o.2.1 : Nat) : Int), .int .i64 ((o.2.2 : Nat) : Int)] w3 (rawSheetFault_mk _ _) (rawSheetFault_mk _ _)).mono ?_
  rintro e w4 ⟨rfl, hb⟩
  clear aHYG aHYS
  clear zHXS zHYS zHXG zHYG
  replace HB := uh (blw_trans HB.out hb)
  replace HXS := uh (HXS.out.later hb)
  replace HYS := uh (HYS.out.later hb)
  replace HXG := uh (HXG.out.later hb)
  replace HYG := uh (HYG.out.later hb)
  replace RPS := uh (RPS.out.later hb)
  replace RPG := uh (RPG.out.later hb)
  have O8 := uh (hb.size)
  clear hb
  have zHXS := HXS.out.own.lt
  have zHYS := HYS.out.own.lt
  have zHXG := HXG.out.own.lt
  have zHYG := HYG.out.own.lt
  have aHXG := HXG.out.at_
  go_wp2_with (refine wpList_load_mid rfl 24 _ rfl (w2.heap.size) 0 rfl cG _ aHXG Tryz.underlying24 rfl (by rw [LNG.out]; kernel_rfl) ?_)
  refine (markSheet FG [blsD o.1] cG 1 w4 RPG.out NDG.out (by omega) (by have := HCN.out; omega)).mono ?_
  rintro e w5 ⟨he, hb, rr⟩
  clear aHXG
  clear zHXS zHYS zHXG zHYG
  obtain ⟨k10, hk10⟩ : ∃ k10 : Nat, k10 = 1 + cntT [blsD o.1] := ⟨_, rfl⟩
  rw [← hk10] at he
  subst he
  have HK10 := uh hk10
  have kn10 : ¬ (k10 : Int) < 0 := by omega
  clear hk10
  have HTY := uh RPG.out.raw.typ
  replace HB := uh (hb.below (fun b e => by have := FBG.out b e; have := O0.out; have := O1.out; have := O2.out; have := O3.out; have := O4.out; have := O5.out; have := O6.out; have := O7.out; have := O8.out; omega) HB.out)
  replace HXS := uh (HXS.out.mks hb (fun e => by have := FBG.out _ e; have := O0.out; have := O1.out; have := O2.out; have := O3.out; have := O4.out; have := O5.out; have := O6.out; have := O7.out; have := O8.out; omega))
  replace HYS := uh (HYS.out.mks hb (fun e => by have := FBG.out _ e; have := O0.out; have := O1.out; have := O2.out; have := O3.out; have := O4.out; have := O5.out; have := O6.out; have := O7.out; have := O8.out; omega))
  replace HXG := uh (HXG.out.mks hb (fun e => by have := FBG.out _ e; have := O0.out; have := O1.out; have := O2.out; have := O3.out; have := O4.out; have := O5.out; have := O6.out; have := O7.out; have := O8.out; omega))
  replace HYG := uh (HYG.out.mks hb (fun e => by have := FBG.out _ e; have := O0.out; have := O1.out; have := O2.out; have := O3.out; have := O4.out; have := O5.out; have := O6.out; have := O7.out; have := O8.out; omega))
  replace RPS := uh (RPS.out.keep hb (fun b hb e => by have := FBG.out b e; have := FBS.out b hb; have := O0.out; have := O1.out; have := O2.out; have := O3.out; have := O4.out; have := O5.out; have := O6.out; have := O7.out; have := O8.out; omega))
  have O9 := uh (hb.size)
  replace RPG := uh rr
  clear hb rr
  have zHXS := HXS.out.own.lt
  have zHYS := HYS.out.own.lt
  have zHXG := HXG.out.own.lt
  have zHYG := HYG.out.own.lt
  have aHXG := HXG.out.at_
  go_wp2_with (refine wpList_load_mid rfl 24 _ rfl (w2.heap.size) 0 rfl cG _ aHXG Tryz.underlying24 rfl (by rw [LNG.out]; kernel_rfl) ?_)
  refine (heldSheet [blsD o.1] cG 1 w5 HTY.out RPG.out.raw (by omega) (by have := HCN.out; omega)).mono ?_
  rintro e w6 ⟨he, hb⟩
  rw [← HK10.out] at he
  subst he
  clear aHXG
  clear zHXS zHYS zHXG zHYG
  replace HB := uh (blw_trans HB.out hb)
  replace HXS := uh (HXS.out.later hb)
  replace HYS := uh (HYS.out.later hb)
  replace HXG := uh (HXG.out.later hb)
  replace HYG := uh (HYG.out.later hb)
  replace RPS := uh (RPS.out.later hb)
  replace RPG := uh (RPG.out.later hb)
  have O10 := uh (hb.size)
  clear hb
  have HC := uh (HIM.out w6 HB.out)
  have zHXS := HXS.out.own.lt
  have zHYS := HYS.out.own.lt
  have zHXG := HXG.out.own.lt
  have zHYG := HYG.out.own.lt
  go_wp2_with fail
  refine HC.out.mono ?_
  rintro e w7 ⟨cH, FH, rfl, rep, nd, fr, hb⟩
  clear HC
  clear zHXS zHYS zHXG zHYG
  replace HB := uh (blw_trans HB.out hb)
  replace HXS := uh (HXS.out.later hb)
  replace HYS := uh (HYS.out.later hb)
  replace HXG := uh (HXG.out.later hb)
  replace HYG := uh (HYG.out.later hb)
  replace RPS := uh (RPS.out.later hb)
  replace RPG := uh (RPG.out.later hb)
  have O11 := uh (hb.size)
  have FBH : Hid (∀ b ∈ FH, w6.heap.size ≤ b ∧ b < w7.heap.size) := fun b hb => ⟨fr b hb, rep.lt b hb⟩
  have NDH := uh nd
  have RPH := uh rep
  have LNH : Hid (cH.length = 1) := rep.len
  have hone := all_oneCell_toArray rep.raw.one
  have hsz : (Tryz.prog.info? 24).map (·.size) = some cH.toArray.size := by rw [List.size_toArray, LNH.out]; kernel_rfl
  clear rep nd fr hb
  obtain ⟨yH1, hy1⟩ : ∃ y, y = ((w7.alloc (.cells #[.slice none 0 0] 24)).alloc (.cells #[.int .i64 0, .int .i64 0] 26)).setCells w7.heap.size 0 cH := ⟨_, rfl⟩
  obtain ⟨yH, hy2⟩ : ∃ y, y = yH1.setCells (w7.heap.size + 1) 0 [.int .i64 ((o.2.1 : Nat) : Int), .int .i64 ((o.2.2 : Nat) : Int)] := ⟨_, rfl⟩
  obtain ⟨hth1, hth2, hx1, hx2, hb⟩ := nv2 w7 cH [.int .i64 ((o.2.1 : Nat) : Int), .int .i64 ((o.2.2 : Nat) : Int)] 24 26 yH1 yH hy1 hy2 LNH.out rfl
  have HXH := uh hx1
  have HYH := uh hx2
  have HW1 := uh hy1
  have HW2 := uh hy2
  replace HB := uh (blw_trans HB.out hb)
  replace HXS := uh (HXS.out.later hb)
  replace HYS := uh (HYS.out.later hb)
  replace HXG := uh (HXG.out.later hb)
  replace HYG := uh (HYG.out.later hb)
  replace RPS := uh (RPS.out.later hb)
  replace RPG := uh (RPG.out.later hb)
  have O12 := uh (hb.size)
  replace RPH := uh (RPH.out.later hb)
  have O13 := uh (HYH.out.own.lt)
  clear hb hx1 hx2 hy1 hy2
  go_upto_region 16 with (first | (refine wpList_store_mid rfl 24 _ _ rfl w7.heap.size 0 cH.toArray rfl rfl hth1 hsz hone ?_; first | rw [← HW1.out] | (simp only [List.toList_toArray]; rw [← HW1.out])) | (refine wpList_store_mid rfl 26 _ _ rfl (w7.heap.size + 1) 0 #[.int .i64 ((o.2.1 : Nat) : Int), .int .i64 ((o.2.2 : Nat) : Int)] rfl rfl hth2 (by kernel_rfl) (by simp [Value.oneCell']) ?_; first | rw [← HW2.out] | (simp only [List.toList_toArray]; rw [← HW2.out])))
  clear hth1 hth2 hsz hone HW1 HW2
  have zHXS := HXS.out.own.lt
  have zHYS := HYS.out.own.lt
  have zHXG := HXG.out.own.lt
  have zHYG := HYG.out.own.lt
  have zHXH := HXH.out.own.lt
  have zHYH := HYH.out.own.lt
  have aHXH := HXH.out.at_
  have aHXS := HXS.out.at_
  go_wp2_with (first | (refine wpList_load_mid rfl 24 _ rfl (w7.heap.size) 0 rfl cH _ aHXH Tryz.underlying24 rfl (by rw [LNH.out]; kernel_rfl) ?_) | (refine wpList_load_mid rfl 24 _ rfl (w1.heap.size) 0 rfl cS _ aHXS Tryz.underlying24 rfl (by rw [LNS.out]; kernel_rfl) ?_))
  refine (eqSheet [blsD o.1] cH cS yH RPH.out.raw RPS.out.raw).mono ?_
  rintro e w8 ⟨rfl, hb⟩
  clear aHXH aHXS
  clear zHXS zHYS zHXG zHYG zHXH zHYH
  replace HB := uh (blw_trans HB.out hb)
  replace HXS := uh (HXS.out.later hb)
  replace HYS := uh (HYS.out.later hb)
  replace HXG := uh (HXG.out.later hb)
  replace HYG := uh (HYG.out.later hb)
  replace HXH := uh (HXH.out.later hb)
  replace HYH := uh (HYH.out.later hb)
  replace RPS := uh (RPS.out.later hb)
  replace RPG := uh (RPG.out.later hb)
  replace RPH := uh (RPH.out.later hb)
  have O14 := uh (hb.size)
  clear hb
  have zHXS := HXS.out.own.lt
  have zHYS := HYS.out.own.lt
  have zHXG := HXG.out.own.lt
  have zHYG := HYG.out.own.lt
  have zHXH := HXH.out.own.lt
  have zHYH := HYH.out.own.lt
  have aHYH := HYH.out.at_
  have aHYS := HYS.out.at_
  go_wp2_with (first | (refine uload_g (by kernel_rfl) 26 _ rfl (w7.heap.size + 1) 0 rfl [.int .i64 ((o.2.1 : Nat) : Int), .int .i64 ((o.2.2 : Nat) : Int)] _ aHYH Tryz.underlying26 rfl (by kernel_rfl) ?_) | (refine uload_g (by kernel_rfl) 26 _ rfl (w1.heap.size + 1) 0 rfl [.int .i64 ((o.2.1 : Nat) : Int), .int .i64 ((o.2.2 : Nat) : Int)] _ aHYS Tryz.underlying26 rfl (by kernel_rfl) ?_))
  refine (eqSheetFault [.i (o.2.1 : Nat), .i (o.2.2 : Nat)] [.int .i64 ((o.2.1 : Nat) : Int), .int .i64 ((o.2.2 : Nat) : Int)] [.int .i64 ((o.2.1 : Nat) : Int), .int .i64 ((o.2.2 : Nat) : Int)] w8 (rawSheetFault_mk _ _) (rawSheetFault_mk _ _)).mono ?_
  rintro e w9 ⟨rfl, hb⟩
  clear aHYH aHYS
  clear zHXS zHYS zHXG zHYG zHXH zHYH
  replace HB := uh (blw_trans HB.out hb)
  replace HXS := uh (HXS.out.later hb)
  replace HYS := uh (HYS.out.later hb)
  replace HXG := uh (HXG.out.later hb)
  replace HYG := uh (HYG.out.later hb)
  replace HXH := uh (HXH.out.later hb)
  replace HYH := uh (HYH.out.later hb)
  replace RPS := uh (RPS.out.later hb)
  replace RPG := uh (RPG.out.later hb)
  replace RPH := uh (RPH.out.later hb)
  have O15 := uh (hb.size)
  clear hb
  have zHXS := HXS.out.own.lt
  have zHYS := HYS.out.own.lt
  have zHXG := HXG.out.own.lt
  have zHYG := HYG.out.own.lt
  have zHXH := HXH.out.own.lt
  have zHYH := HYH.out.own.lt
  have aHXG := HXG.out.at_
  go_wp2_with (refine wpList_load_mid rfl 24 _ rfl (w2.heap.size) 0 rfl cG _ aHXG Tryz.underlying24 rfl (by rw [LNG.out]; kernel_rfl) ?_)
  refine (heldSheet [blsD o.1] cG 1 w9 HTY.out RPG.out.raw (by omega) (by have := HCN.out; omega)).mono ?_
  rintro e w10 ⟨he, hb⟩
  rw [← HK10.out] at he
  subst he
  clear aHXG
  clear zHXS zHYS zHXG zHYG zHXH zHYH
  replace HB := uh (blw_trans HB.out hb)
  replace HXS := uh (HXS.out.later hb)
  replace HYS := uh (HYS.out.later hb)
  replace HXG := uh (HXG.out.later hb)
  replace HYG := uh (HYG.out.later hb)
  replace HXH := uh (HXH.out.later hb)
  replace HYH := uh (HYH.out.later hb)
  replace RPS := uh (RPS.out.later hb)
  replace RPG := uh (RPG.out.later hb)
  replace RPH := uh (RPH.out.later hb)
  have O16 := uh (hb.size)
  clear hb
  go_wp2
  go_ret
  exact ⟨rfl, HB.out⟩

end Go.Proofs.YtdllbcafbfkngaaGreatDoor
