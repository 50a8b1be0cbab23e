/-
  The law of SheetGet.
-/
import Derived.Test.YtikacjpbnoihjaaESs
import Derived.Test.YtikacjpbnoihjaaUM
import Derived.Test.YtikacjpbnoihjaaESz
import Derived.Test.YtikacjpbnoihjaaESt
import Derived.Test.YtikacjpbnoihjaaESe
import Derived.Test.YtikacjpbnoihjaaESm
import Derived.Test.YtikacjpbnoihjaaUL
import Derived.Test.YtikacjpbnoihjaaECb
namespace Go.Proofs.Ytikacjpbnoihjaa
open Go.RowKit Go.Deep

set_option maxRecDepth 8000 in
set_option maxHeartbeats 8000000 in
theorem heldStringS (n : Nat) (es : List Dt) (v : Value) (k : Nat) (w : World) (ht : Typ (reps n [.s]) es) (h : Raw w [.row 9 [.s]] [.row n (mkL k es)] [v]) (h1 : 1 ≤ k) (hk : k + cntL es ≤ 4000000000000000000) :
    Calls Try.prog 31 #[v, .int .i64 (k : Int)] w fun e w' => e = .returned (.int .i64 ((k + cntL es : Nat) : Int)) ∧ Below w.heap.size w w' := by
  have HT := uh ht
  clear ht
  rcases h.slice with ⟨rfl, hes, a, c, rfl⟩ | ⟨p, o, c, rfl, hp, hn, vs, hr, hR⟩
  · have he0 : es = [] := List.eq_nil_of_length_eq_zero (by have := HT.out.rows; omega)
    subst he0
    go_enter Try.func31, Try.ntmps31
    go_wp2
    refine wp_loop_rounds 1 ?_
    rw [rounds_succ]
    go_wp2
    go_ret
    exact ⟨by simp [cntL], Below.refl _ _⟩
  · have HR := uh hR; have HRG := uh hr
    have HP := uh hp
    have hn1 : n ≤ 9223372036854775807 := hn.1
    clear hr hR h hn hp
    go_enter Try.func31, Try.ntmps31
    go_wp2
    go_loopw [1, 5] (fun kk i wr => ∃ q : Nat, q ≤ n ∧ i = .int .i64 (q : Int) ∧ kk = .int .i64 ((k + cntL (es.take (q * 1)) : Nat) : Int) ∧ Below w.heap.size w wr) (fun _ i _ => n - (intOf i).toNat)
    case atStart => exact ⟨0, Nat.zero_le _, rfl, by simp [cntL], Below.refl _ _⟩
    case round =>
      obtain ⟨q, hq, rfl, rfl, hM⟩ := hrel
      have HB := uh hM
      clear hM
      by_cases hlt : q < n
      · obtain ⟨ve, hE, hrng⟩ := (HR.out.later HB.out).el hlt (rA_later HRG.out HP.out HB.out)
        have hE1 : Raw wr [.s] (el 1 q (mkL k es)) ve := hE
        rw [show el 1 q (mkL k es) = mkL (k + cntL (es.take (q * 1))) (el 1 q es) from mk_el (sh := [.s]) HT.out hlt] at hE1
        obtain ⟨d, hd⟩ : ∃ d, d = el 1 q es := ⟨_, rfl⟩
        have hte : Typ [.s] d := by rw [hd]; exact HT.out.el hlt
        have hcn : k + cntL (es.take (q * 1)) + cntL d ≤ 4000000000000000000 := by rw [hd]; have := @cnt_el q 1 es; omega
        have hnx : cntL (es.take ((q + 1) * 1)) = cntL (es.take (q * 1)) + cntL d := by rw [hd]; exact cnt_next (sh := [.s]) HT.out hlt
        rw [← hd] at hE1
        clear hE hd
        obtain ⟨kq, hkq⟩ : ∃ kq : Nat, kq = k + cntL (es.take (q * 1)) := ⟨_, rfl⟩
        rw [← hkq] at hcn hE1 ⊢
        have HNX : Hid (k + cntL (es.take ((q + 1) * 1)) = kq + cntL d) := by show _ = _; omega
        obtain ⟨a0, rfl⟩ := typT1 hte
        simp only [mkL] at hE1
        obtain rfl := rawT1 hE1
        have hkq1 : 1 ≤ kq := by omega
        have hkq2 : kq ≤ 4000000000000000000 := by omega
        simp only [cntL] at hcn
        have HCN := uh hcn
        have HPR : Hid (p < wr.heap.size) := Nat.lt_of_lt_of_le HP.out HB.out.size
        have HG : Hid (wr.rangeAt p (o + q) _) := (by show World.rangeAt _ _ _ _; have := hrng; simpa using this)
        clear hcn hE1 hte hkq hnx hrng
        have hm0 : (0 : Int) ≤ (q : Int) := by omega
        have hm3 : (q : Int) < (n : Int) := by omega
        have hbz := HPR.out
        have gc : wr.cell? ⟨p, o + q, none⟩ = some (.string (mt kq)) := rA_get HG.out 0 _ rfl
        have hNE := upst_some wr
        have hbz2 : ∀ px : UPst wr, p < px.W.heap.size := fun px => px.size hbz
        have S1 : ∀ px : UPst wr, px.W.cell? ⟨p, o + q, none⟩ = some (.string (mt kq)) := fun px => px.cell gc hbz
        go_upto_region 4 with fail
        clear gc hbz
        refine uregion wr (Below.refl _ _) (by kernel_rfl) (by kernel_rfl) ?_
        repeat (first
          | go_big_quiet_skip
          | (go_big_quiet_want; go_big_quiet_op; first | go_big_quiet_on | (apply Exists.intro; refine ⟨fun px => ?_, ?_⟩; (focus ((go_at_call 29; refine (markText kq _ (by omega) (by omega)).mono ?_; rintro e w' ⟨he, hb⟩; exact ⟨he, ⟨w', blw_trans px.ok hb⟩, rfl⟩))); go_big_quiet_on)))
        refine wpQuiet_nil ?_
        intro _ hw'
        obtain ⟨z0, hw''⟩ := hw'
        subst hw''
        replace HB := uh (blw_trans HB.out z0.ok)
        replace HG := uh (rA_later HG.out HPR.out z0.ok)
        replace HPR := uh (Nat.lt_of_lt_of_le HPR.out z0.ok.size)
        clear S1 hbz2 hNE
        obtain ⟨k0, hk0⟩ : ∃ k0 : Nat, k0 = kq + 1 := ⟨_, rfl⟩
        have hkc0 : (kq : Int) + 1 = (k0 : Int) := by omega
        have HK0 := uh hk0
        have kb0 : 1 ≤ k0 ∧ k0 ≤ 4000000000000000000 := by have := HCN.out; have := HK0.out; omega
        obtain ⟨kl0, ku0⟩ := kb0
        clear hk0
        have HF : Hid (k0 = k + cntL (es.take ((q + 1) * 1))) := by
          have := HNX.out; simp only [cntL] at this; have := HK0.out; show _ = _; omega
        go_wp2
        go_roundw
        case rel => exact ⟨q + 1, by omega, by go_num, by rw [← HF.out], HB.out⟩
        case measure => simp [intOf]; omega
      · obtain rfl : q = n := by omega
        have el_ : es.length = q * 1 := HT.out.rows
        rw [← el_, List.take_length]
        go_wp2
        go_ret
        exact ⟨rfl, HB.out⟩
set_option maxRecDepth 8000 in
set_option maxHeartbeats 8000000 in
theorem heldSheetLineS (n : Nat) (es : List Dt) (v : Value) (k : Nat) (w : World) (ht : Typ (reps n shSheetLine) es) (h : Raw w [.row 52 shSheetLine] [.row n (mkL k es)] [v]) (h1 : 1 ≤ k) (hk : k + cntL es ≤ 4000000000000000000) :
    Calls Try.prog 12 #[v, .int .i64 (k : Int)] w fun e w' => e = .returned (.int .i64 ((k + cntL es : Nat) : Int)) ∧ Below w.heap.size w w' := by
  have HT := uh ht
  clear ht
  rcases h.slice with ⟨rfl, hes, a, c, rfl⟩ | ⟨p, o, c, rfl, hp, hn, vs, hr, hR⟩
  · have he0 : es = [] := List.eq_nil_of_length_eq_zero (by have := HT.out.rows; omega)
    subst he0
    go_enter Try.func12, Try.ntmps12
    go_wp2
    refine wp_loop_rounds 1 ?_
    rw [rounds_succ]
    go_wp2
    go_ret
    exact ⟨by simp [cntL], Below.refl _ _⟩
  · have HR := uh hR; have HRG := uh hr
    have HP := uh hp
    have hn1 : n ≤ 9223372036854775807 := hn.1
    clear hr hR h hn hp
    go_enter Try.func12, Try.ntmps12
    go_wp2
    go_loopw [1, 5] (fun kk i wr => ∃ q : Nat, q ≤ n ∧ i = .int .i64 (q : Int) ∧ kk = .int .i64 ((k + cntL (es.take (q * 2)) : Nat) : Int) ∧ Below w.heap.size w wr) (fun _ i _ => n - (intOf i).toNat)
    case atStart => exact ⟨0, Nat.zero_le _, rfl, by simp [cntL], Below.refl _ _⟩
    case round =>
      obtain ⟨q, hq, rfl, rfl, hM⟩ := hrel
      have HB := uh hM
      clear hM
      by_cases hlt : q < n
      · obtain ⟨ve, hE, hrng⟩ := (HR.out.later HB.out).el hlt (rA_later HRG.out HP.out HB.out)
        have hE1 : Raw wr shSheetLine (el 2 q (mkL k es)) ve := hE
        rw [show el 2 q (mkL k es) = mkL (k + cntL (es.take (q * 2))) (el 2 q es) from mk_el (sh := shSheetLine) HT.out hlt] at hE1
        obtain ⟨d, hd⟩ : ∃ d, d = el 2 q es := ⟨_, rfl⟩
        have hte : Typ shSheetLine d := by rw [hd]; exact HT.out.el hlt
        have hcn : k + cntL (es.take (q * 2)) + cntL d ≤ 4000000000000000000 := by rw [hd]; have := @cnt_el q 2 es; omega
        have hnx : cntL (es.take ((q + 1) * 2)) = cntL (es.take (q * 2)) + cntL d := by rw [hd]; exact cnt_next (sh := shSheetLine) HT.out hlt
        rw [← hd] at hE1
        clear hE hd
        obtain ⟨kq, hkq⟩ : ∃ kq : Nat, kq = k + cntL (es.take (q * 2)) := ⟨_, rfl⟩
        rw [← hkq] at hcn hE1 ⊢
        have HNX : Hid (k + cntL (es.take ((q + 1) * 2)) = kq + cntL d) := by show _ = _; omega
        obtain ⟨a0, n1, e1, rfl, t1⟩ := typSheetLine hte
        simp only [mkL] at hE1
        obtain ⟨v1, rfl, r1⟩ := rawSheetLine hE1
        have hkq1 : 1 ≤ kq := by omega
        have hkq2 : kq ≤ 4000000000000000000 := by omega
        simp only [cntL] at hcn
        have HCN := uh hcn
        have HPR : Hid (p < wr.heap.size) := Nat.lt_of_lt_of_le HP.out HB.out.size
        have HG : Hid (wr.rangeAt p (o + q * 2) _) := hrng
        have R1 := uh r1
        clear hcn hE1 hte hkq hnx hrng r1
        have hm0 : (0 : Int) ≤ (q : Int) := by omega
        have hm3 : (q : Int) < (n : Int) := by omega
        have hbz := HPR.out
        have gc : wr.cell? ⟨p, o + q * 2, none⟩ = some (.string (mt kq)) := rA_get HG.out 0 _ rfl
        have hNE := upst_some wr
        have hbz2 : ∀ px : UPst wr, p < px.W.heap.size := fun px => px.size hbz
        have S1 : ∀ px : UPst wr, px.W.cell? ⟨p, o + q * 2, none⟩ = some (.string (mt kq)) := fun px => px.cell gc hbz
        go_upto_region 4 with fail
        clear gc hbz
        refine uregion wr (Below.refl _ _) (by kernel_rfl) (by kernel_rfl) ?_
        repeat (first
          | go_big_quiet_skip
          | (go_big_quiet_want; go_big_quiet_op; first | go_big_quiet_on | (apply Exists.intro; refine ⟨fun px => ?_, ?_⟩; (focus ((go_at_call 29; refine (markText kq _ (by omega) (by omega)).mono ?_; rintro e w' ⟨he, hb⟩; exact ⟨he, ⟨w', blw_trans px.ok hb⟩, rfl⟩))); go_big_quiet_on)))
        refine wpQuiet_nil ?_
        intro _ hw'
        obtain ⟨z0, hw''⟩ := hw'
        subst hw''
        replace HB := uh (blw_trans HB.out z0.ok)
        replace HG := uh (rA_later HG.out HPR.out z0.ok)
        replace R1 := uh (R1.out.later z0.ok)
        replace HPR := uh (Nat.lt_of_lt_of_le HPR.out z0.ok.size)
        clear S1 hbz2 hNE
        obtain ⟨k0, hk0⟩ : ∃ k0 : Nat, k0 = kq + 1 := ⟨_, rfl⟩
        have hkc0 : (kq : Int) + 1 = (k0 : Int) := by omega
        have HK0 := uh hk0
        have kb0 : 1 ≤ k0 ∧ k0 ≤ 4000000000000000000 := by have := HCN.out; have := HK0.out; omega
        obtain ⟨kl0, ku0⟩ := kb0
        try rw [← hk0] at HG
        try rw [← hk0] at R1
        clear hk0
        go_upto_region 7 with fail
        clear hkc0
        have hbz := HPR.out
        obtain ⟨va1, vc1, hva⟩ := R1.out.len0
        subst hva
        have gc : z0.W.cell? ⟨p, o + q * 2 + 1, none⟩ = some (.slice va1 n1 vc1) := rA_get HG.out 1 _ rfl
        obtain ⟨k1, hk1⟩ : ∃ k1 : Nat, k1 = k0 + cntL e1 := ⟨_, rfl⟩
        have HK1 := uh hk1
        have kb1 : 1 ≤ k1 ∧ k1 ≤ 4000000000000000000 := by have := HCN.out; have := HK0.out; have := HK1.out; omega
        obtain ⟨kl1, ku1⟩ := kb1
        have kn1 : ¬ (k1 : Int) < 0 := by omega
        clear hk1
        go_wp2_with fail
        refine (heldStringS n1 e1 (.slice va1 n1 vc1) k0 z0.W t1 R1.out (by omega) (by have := HK1.out; omega)).mono ?_
        rintro e x1 ⟨he, hb1⟩
        rw [← HK1.out] at he
        subst he
        replace HB := uh (blw_trans HB.out hb1)
        replace HG := uh (rA_later HG.out HPR.out hb1)
        replace HPR := uh (Nat.lt_of_lt_of_le HPR.out hb1.size)
        clear gc hbz hb1
        have HF : Hid (k1 = k + cntL (es.take ((q + 1) * 2))) := by
          have := HNX.out; simp only [cntL] at this; have := HK0.out; have := HK1.out; show _ = _; omega
        go_wp2
        go_roundw
        case rel => exact ⟨q + 1, by omega, by go_num, by rw [← HF.out], HB.out⟩
        case measure => simp [intOf]; omega
      · obtain rfl : q = n := by omega
        have el_ : es.length = q * 2 := HT.out.rows
        rw [← el_, List.take_length]
        go_wp2
        go_ret
        exact ⟨rfl, HB.out⟩
end Go.Proofs.Ytikacjpbnoihjaa

namespace Go.Proofs.Ytikacjpbnoihjaa
open Go.RowKit Go.Deep


set_option maxRecDepth 8000 in
set_option maxHeartbeats 16000000 in
theorem lawSheetGet (ds : List Dt) (cs : List Value) (ex0 : ByteArray) (ex1 : ByteArray) (ex2 : ByteArray) (N : Nat) (A : List Dt) (Bo : Bool) (w : World) (h : Raw w shSheet ds cs) (hz : szd ds) (hx0 : ex0.size ≤ maxLen) (hx1 : ex1.size ≤ maxLen) (hx2 : ex2.size ≤ maxLen)
    (hS : wtL ds ≤ 1048576 → ex0.size ≤ 1048576 → ex1.size ≤ 1048576 → ex2.size ≤ 1048576 → ∀ (c : List Value) (F : List Nat) (W : World), Rep W true shSheet F ds c → Calls Try.prog 5 #[.agg c.toArray, .string ex0, .string ex1, .string ex2] W (AnsLB [.row 52 shSheetLine] (.row N A) Bo W))
    (hI : wtL ds ≤ 1048576 → ex0.size ≤ 1048576 → ex1.size ≤ 1048576 → ex2.size ≤ 1048576 → ∀ (c : List Value) (F : List Nat) (W : World), Rep W true shSheet F ds c → Calls Try.prog 7 #[.agg c.toArray, .string ex0, .string ex1, .string ex2] W (AnsLB [.row 52 shSheetLine] (.row N A) Bo W))
    (hA : wtL ds ≤ 1048576 → ex0.size ≤ 1048576 → ex1.size ≤ 1048576 → ex2.size ≤ 1048576 → cntL A ≤ 1000000000) (hD : wtL ds ≤ 1048576 → ex0.size ≤ 1048576 → ex1.size ≤ 1048576 → ex2.size ≤ 1048576 → cntT ds ≤ 1000000000) :
    Calls Try.prog 3 #[.agg cs.toArray, .string ex0, .string ex1, .string ex2] w fun e w' => e = .returned (.bool true) ∧ Below w.heap.size w w' := by
  have HR := uh h
  have HZ := uh hz
  have HSP := uh hS
  have HIM := uh hI
  have HAN := uh hA
  have HAD := uh hD
  have LNX : Hid (cs.length = 1) := h.len
  have hy0 : ex0.size ≤ 9223372036854775807 := hx0
  have hy1 : ex1.size ≤ 9223372036854775807 := hx1
  have hy2 : ex2.size ≤ 9223372036854775807 := hx2
  clear h hz hS hI hA hD hx0 hx1 hx2
  obtain ⟨wa, hwa⟩ : ∃ wa, wa = w.alloc (.cells cs.toArray 24) := ⟨_, rfl⟩
  have HB : Hid (Below w.heap.size w wa) := by show Below _ _ _; rw [hwa]; exact blw_alloc (Below.refl _ _) _
  have HX : Hid (LBox wa w.heap.size cs) := by show LBox _ _ _; rw [hwa]; exact LBox.new w cs.toArray _ _ rfl
  have O0 := uh (HX.out.lt)
  go_enter Try.func3, Try.ntmps3
  go_upto_region 1 with fail
  rw [← hwa]
  clear hwa
  by_cases ht0 : 1048576 < (ex0.size : Int)
  · go_wp2
    go_ret
    exact ⟨rfl, HB.out⟩
  have HT0 : Hid (ex0.size ≤ 1048576) := by show _ ≤ _; omega
  by_cases ht1 : 1048576 < (ex1.size : Int)
  · go_wp2
    go_ret
    exact ⟨rfl, HB.out⟩
  have HT1 : Hid (ex1.size ≤ 1048576) := by show _ ≤ _; omega
  by_cases ht2 : 1048576 < (ex2.size : Int)
  · go_wp2
    go_ret
    exact ⟨rfl, HB.out⟩
  have HT2 : Hid (ex2.size ≤ 1048576) := by show _ ≤ _; omega
  have hzX := HX.out.lt
  have haX := HX.out.at_
  obtain ⟨m, hm⟩ : ∃ m : Int, m = if ((wtL ds : Nat) : Int) ≤ 1048576 then 1048576 - ((wtL ds : Nat) : Int) else -1 := ⟨_, rfl⟩
  have HC := uh (szSheet ds cs 1048576 wa (by omega) (by omega) (HR.out.later HB.out) HZ.out)
  rw [← hm] at HC
  have HM := uh hm
  clear hm
  go_wp2_with (refine wpList_load_mid rfl 24 _ rfl w.heap.size 0 rfl cs _ haX Try.underlying24 rfl (by rw [LNX.out]; kernel_rfl) ?_)
  refine HC.out.mono ?_
  rintro e w1 ⟨rfl, hb⟩
  clear hzX haX
  replace HB := uh (blw_trans HB.out hb)
  replace HX := uh (HX.out.later hb)
  have O1 := uh (hb.size)
  clear hb HC
  by_cases hl : m < 0
  · go_wp2
    go_ret
    exact ⟨rfl, HB.out⟩
  have HW : Hid (wtL ds ≤ 1048576) := by
    show _ ≤ _; have h2 := HM.out
    split at h2
    · omega
    · omega
  have hcn : cntL A ≤ 1000000000 := HAN.out HW.out HT0.out HT1.out HT2.out
  have HCN := uh hcn
  have HCD : Hid (cntT ds ≤ 1000000000) := HAD.out HW.out HT0.out HT1.out HT2.out
  clear hcn HAN HAD
  have hzX := HX.out.lt
  have haX := HX.out.at_
  go_wp2_with (refine wpList_load_mid rfl 24 _ rfl w.heap.size 0 rfl cs _ haX Try.underlying24 rfl (by rw [LNX.out]; kernel_rfl) ?_)
  refine (toSheet ds cs w1 (HR.out.later HB.out) HW.out).mono ?_
  rintro e w2 ⟨c1, F1, rfl, rep, nd, fr, hb⟩
  clear hzX haX
  replace HB := uh (blw_trans HB.out hb)
  replace HX := uh (HX.out.later hb)
  have O2 := uh (hb.size)
  clear hb
  have HC := uh (HSP.out HW.out HT0.out HT1.out HT2.out c1 F1 w2 rep)
  clear rep nd fr HSP
  have hzX := HX.out.lt
  go_wp2_with fail
  refine HC.out.mono ?_
  rintro e w3 ⟨vS, FS, rfl, rep, nd, fr, hb⟩
  clear hzX
  clear HC
  replace HB := uh (blw_trans HB.out hb)
  replace HX := uh (HX.out.later hb)
  have O3 := uh (hb.size)
  have FBS : Hid (∀ b ∈ FS, w2.heap.size ≤ b ∧ b < w3.heap.size) := fun b hb => ⟨fr b hb, rep.lt b hb⟩
  have NDS := uh nd
  have RPS := uh rep
  obtain ⟨saS, scS, hva⟩ := rep.raw.len0
  subst hva
  clear rep nd fr hb
  go_upto_region 12 with fail
  have hzX := HX.out.lt
  have haX := HX.out.at_
  go_wp2_with (refine wpList_load_mid rfl 24 _ rfl w.heap.size 0 rfl cs _ haX Try.underlying24 rfl (by rw [LNX.out]; kernel_rfl) ?_)
  refine (toSheet ds cs w3 (HR.out.later HB.out) HW.out).mono ?_
  rintro e w4 ⟨cQ, FQ, rfl, rep, nd, fr, hb⟩
  clear hzX haX
  replace HB := uh (blw_trans HB.out hb)
  replace HX := uh (HX.out.later hb)
  replace RPS := uh (RPS.out.later hb)
  have O4 := uh (hb.size)
  have FBQ : Hid (∀ b ∈ FQ, w3.heap.size ≤ b ∧ b < w4.heap.size) := fun b hb => ⟨fr b hb, rep.lt b hb⟩
  have NDQ := uh nd
  have RPQ := uh rep
  have LNQ : Hid (cQ.length = 1) := rep.len
  obtain ⟨yQ, hy⟩ : ∃ y, y = (w4.alloc (.cells #[.slice none 0 0] 31)).setCells w4.heap.size 0 cQ := ⟨_, rfl⟩
  have hth := nv_there w4 #[.slice none 0 0] 31 cQ (by rw [LNQ.out]; rfl)
  have hone := all_oneCell_toArray rep.raw.one
  have hsz : (Try.prog.info? 31).map (·.size) = some cQ.toArray.size := by rw [List.size_toArray, LNQ.out]; kernel_rfl
  have HXQ : Hid (LBox yQ w4.heap.size cQ) := by show LBox _ _ _; rw [hy]; exact nv_box w4 #[.slice none 0 0] 31 cQ (by rw [LNQ.out]; rfl)
  have hby : Below w4.heap.size w4 yQ := by rw [hy]; exact nv_below w4 #[.slice none 0 0] 31 cQ
  clear rep nd fr hb
  replace HB := uh (blw_trans HB.out hby)
  replace HX := uh (HX.out.later hby)
  replace RPS := uh (RPS.out.later hby)
  replace RPQ := uh (RPQ.out.later hby)
  clear hby
  have O5 := uh (HXQ.out.lt)
  go_upto_region 13 with (refine wpList_store_mid rfl 31 _ _ rfl w4.heap.size 0 cQ.toArray rfl rfl hth hsz hone ?_)
  first | rw [← hy] | (simp only [List.toList_toArray]; rw [← hy])
  clear hy hth hone hsz
  have hzX := HX.out.lt
  have hzQ := HXQ.out.lt
  have haQ := HXQ.out.at_
  have HC := uh (HIM.out HW.out HT0.out HT1.out HT2.out cQ FQ yQ RPQ.out)
  go_wp2_with (refine wpList_load_mid rfl 31 _ rfl w4.heap.size 0 rfl cQ _ haQ Try.underlying31 rfl (by rw [LNQ.out]; kernel_rfl) ?_)
  refine HC.out.mono ?_
  rintro e w5 ⟨vG, FG, rfl, rep, nd, fr, hb⟩
  clear hzX hzQ haQ
  clear HC
  replace HB := uh (blw_trans HB.out hb)
  replace HX := uh (HX.out.later hb)
  replace HXQ := uh (HXQ.out.later hb)
  replace RPS := uh (RPS.out.later hb)
  replace RPQ := uh (RPQ.out.later hb)
  have O6 := uh (hb.size)
  have FBG : Hid (∀ b ∈ FG, yQ.heap.size ≤ b ∧ b < w5.heap.size) := fun b hb => ⟨fr b hb, rep.lt b hb⟩
  have NDG := uh nd
  have RPG := uh rep
  replace RPQ := uh RPQ.out.loose
  obtain ⟨saG, scG, hva⟩ := rep.raw.len0
  subst hva
  clear rep nd fr hb
  go_upto_region 14 with fail
  have hzX := HX.out.lt
  have hzQ := HXQ.out.lt
  go_wp2_with fail
  refine (eqSheetLineS N A _ _ w5 RPG.out.raw RPS.out.raw).mono ?_
  rintro e w6 ⟨rfl, hb⟩
  clear hzX hzQ
  replace HB := uh (blw_trans HB.out hb)
  replace HX := uh (HX.out.later hb)
  replace HXQ := uh (HXQ.out.later hb)
  replace RPS := uh (RPS.out.later hb)
  replace RPQ := uh (RPQ.out.later hb)
  replace RPG := uh (RPG.out.later hb)
  have O7 := uh (hb.size)
  clear hb
  go_upto_region 16 with fail
  refine RY.region_past w6 (Below.refl _ _) (VEq (.agg cs.toArray) (.agg cQ.toArray) (fun W d => ∃ c F, d = c.toArray ∧ Rep W true shSheet F ds c)) (VEq_mono (.agg cs.toArray) (.agg cQ.toArray) _ (by rintro W W' d ⟨c, F, rfl, h⟩ hb; exact ⟨c, F, rfl, h.later hb⟩)) (by kernel_rfl) (by kernel_rfl) (by kernel_rfl) (by kernel_rfl) ?_ ?_
  · intro i o ho a W hW hk hd
    have z0 := HXQ.out.later hW
    have z1 := HX.out.later hW
    match i, ho with
    | 0, ho =>
      injection ho with ho; subst ho
      exact Or.inl ⟨_, W, exec_load_mid 31 _ rfl w4.heap.size 0 ((hk 12 rfl).trans rfl) cQ _ z0.at_ Try.underlying31 rfl (by rw [LNQ.out]; kernel_rfl), Below.refl _ _, rfl⟩
    | 1, ho =>
      injection ho with ho; subst ho
      exact Or.inl ⟨_, W, exec_load_mid 24 _ rfl w.heap.size 0 ((hk 4 rfl).trans rfl) cs _ z1.at_ Try.underlying24 rfl (by rw [LNX.out]; kernel_rfl), Below.refl _ _, rfl⟩
    | 2, ho =>
      injection ho with ho; subst ho
      have e0 : a.tmps[63]?.getD undef = _ := (RY.ev_tmp a 63).trans (hd 1 _ 63 rfl rfl ⟨⟨1, .data⟩, by simp, rfl, rfl⟩)
      refine Or.inr ⟨6, #[.agg cs.toArray], by simp [go_sem, e0], (toSheet ds cs W (HR.out.later (blw_trans HB.out hW)) HW.out).mono ?_⟩
      rintro e W' ⟨c, F, rfl, hr, _, _, hb⟩
      exact ⟨_, rfl, hb, _, rfl, c, F, rfl, hr⟩
    | 3, ho =>
      injection ho with ho; subst ho
      have e0 : a.tmps[62]?.getD undef = _ := (RY.ev_tmp a 62).trans (hd 0 _ 62 rfl rfl ⟨⟨0, .data⟩, by simp, rfl, rfl⟩)
      obtain ⟨b1, e1, c, F, rfl, hr1⟩ := hd 2 _ 64 rfl rfl ⟨⟨2, .data⟩, by simp, rfl, rfl⟩
      have e1 := (RY.ev_tmp a 64).trans e1
      refine Or.inr ⟨9, #[.agg cQ.toArray, .agg c.toArray], by simp [go_sem, e0, e1], (eqSheet ds cQ c W (RPQ.out.raw.later hW) hr1.raw).mono ?_⟩
      rintro e W' ⟨rfl, hb⟩
      exact ⟨_, rfl, hb, rfl⟩
    | 4, ho =>
      injection ho with ho; subst ho
      have e0 : a.tmps[65]?.getD undef = _ := (RY.ev_tmp a 65).trans (hd 3 _ 65 rfl rfl ⟨⟨3, .data⟩, by simp, rfl, rfl⟩)
      exact Or.inl ⟨.bool false, W, by simp [execOp, go_sem, e0], Below.refl _ _, rfl⟩
    | n + 5, ho => simp at ho
  intro w7 vs hb hvs
  have el_ : vs 66 = .bool false := hvs 4 _ 66 rfl rfl
  simp only [RY.putAll, Act.put, List.setIfInBounds_toArray, List.set_cons_zero, List.set_cons_succ]
  rw [el_]
  generalize vs 62 = s0
  generalize vs 63 = s1
  generalize vs 64 = s2
  generalize vs 65 = s3
  clear hvs el_
  replace HB := uh (blw_trans HB.out hb)
  replace HX := uh (HX.out.later hb)
  replace HXQ := uh (HXQ.out.later hb)
  replace RPS := uh (RPS.out.later hb)
  replace RPQ := uh (RPQ.out.later hb)
  replace RPG := uh (RPG.out.later hb)
  have O8 := uh (hb.size)
  clear hb
  have hzX := HX.out.lt
  have hzQ := HXQ.out.lt
  have haQ := HXQ.out.at_
  have hcds : cntT ds ≤ 1000000000 := HCD.out
  have HKD := uh hcds
  clear hcds
  go_wp2_with (refine wpList_load_mid rfl 31 _ rfl w4.heap.size 0 rfl cQ _ haQ Try.underlying31 rfl (by rw [LNQ.out]; kernel_rfl) ?_)
  refine (markSheet FQ ds cQ 1 w7 RPQ.out NDQ.out (by omega) (by have := HKD.out; omega)).mono ?_
  rintro e w8 ⟨he, hb, rr⟩
  clear hzX hzQ haQ
  obtain ⟨k8, hk8⟩ : ∃ k8 : Nat, k8 = 1 + cntT ds := ⟨_, rfl⟩
  rw [← hk8] at he
  subst he
  have kn8 : ¬ (k8 : Int) < 0 := by omega
  clear hk8
  replace HB := uh (hb.below (fun b e => by have := FBQ.out b e; have := O0.out; have := O1.out; have := O2.out; have := O3.out; have := O4.out; have := O5.out; have := O6.out; have := O7.out; have := O8.out; omega) HB.out)
  replace HX := uh (HX.out.mks hb (fun e => by have := FBQ.out _ e; have := O0.out; have := O1.out; have := O2.out; have := O3.out; have := O4.out; have := O5.out; have := O6.out; have := O7.out; have := O8.out; omega))
  replace HXQ := uh (HXQ.out.mks hb (fun e => by have := FBQ.out _ e; have := O0.out; have := O1.out; have := O2.out; have := O3.out; have := O4.out; have := O5.out; have := O6.out; have := O7.out; have := O8.out; omega))
  replace RPS := uh (RPS.out.keep hb (fun b hb e => by have := FBQ.out b e; have := FBS.out b hb; have := O0.out; have := O1.out; have := O2.out; have := O3.out; have := O4.out; have := O5.out; have := O6.out; have := O7.out; have := O8.out; omega))
  replace RPG := uh (RPG.out.keep hb (fun b hb e => by have := FBQ.out b e; have := FBG.out b hb; have := O0.out; have := O1.out; have := O2.out; have := O3.out; have := O4.out; have := O5.out; have := O6.out; have := O7.out; have := O8.out; omega))
  have O9 := uh (hb.size)
  clear hb rr RPQ NDQ
  have hzX := HX.out.lt
  have hzQ := HXQ.out.lt
  go_wp2_with fail
  refine (eqSheetLineS N A _ _ w8 RPG.out.raw RPS.out.raw).mono ?_
  rintro e w9 ⟨rfl, hb⟩
  clear hzX hzQ
  replace HB := uh (blw_trans HB.out hb)
  replace HX := uh (HX.out.later hb)
  replace HXQ := uh (HXQ.out.later hb)
  replace RPS := uh (RPS.out.later hb)
  replace RPG := uh (RPG.out.later hb)
  have O10 := uh (hb.size)
  clear hb
  have hzX := HX.out.lt
  have hzQ := HXQ.out.lt
  go_wp2_with fail
  refine (markSheetLineS FG N A _ 1 w9 RPG.out NDG.out (by omega) (by have := HCN.out; omega)).mono ?_
  rintro e w10 ⟨he, hb, rr⟩
  clear hzX hzQ
  obtain ⟨k10, hk10⟩ : ∃ k10 : Nat, k10 = 1 + cntL A := ⟨_, rfl⟩
  rw [← hk10] at he
  subst he
  have HK10 := uh hk10
  have kn10 : ¬ (k10 : Int) < 0 := by omega
  clear hk10
  have HTY := uh RPG.out.raw.typ
  replace HB := uh (hb.below (fun b e => by have := FBG.out b e; have := O0.out; have := O1.out; have := O2.out; have := O3.out; have := O4.out; have := O5.out; have := O6.out; have := O7.out; have := O8.out; have := O9.out; have := O10.out; omega) HB.out)
  replace HX := uh (HX.out.mks hb (fun e => by have := FBG.out _ e; have := O0.out; have := O1.out; have := O2.out; have := O3.out; have := O4.out; have := O5.out; have := O6.out; have := O7.out; have := O8.out; have := O9.out; have := O10.out; omega))
  replace HXQ := uh (HXQ.out.mks hb (fun e => by have := FBG.out _ e; have := O0.out; have := O1.out; have := O2.out; have := O3.out; have := O4.out; have := O5.out; have := O6.out; have := O7.out; have := O8.out; have := O9.out; have := O10.out; omega))
  replace RPS := uh (RPS.out.keep hb (fun b hb e => by have := FBG.out b e; have := FBS.out b hb; have := O0.out; have := O1.out; have := O2.out; have := O3.out; have := O4.out; have := O5.out; have := O6.out; have := O7.out; have := O8.out; have := O9.out; have := O10.out; omega))
  have O11 := uh (hb.size)
  replace RPG := uh rr
  clear hb rr
  have hzX := HX.out.lt
  have hzQ := HXQ.out.lt
  go_wp2_with fail
  refine (heldSheetLineS N A _ 1 w10 (by obtain ⟨_, _, _, e, t, _⟩ := HTY.out.c_r; injection e with e1 e2; injection e1 with e3 e4; subst e3; subst e4; exact t) RPG.out.raw (by omega) (by have := HCN.out; omega)).mono ?_
  rintro e w11 ⟨he, hb⟩
  rw [← HK10.out] at he
  subst he
  clear hzX hzQ
  replace HB := uh (blw_trans HB.out hb)
  replace HX := uh (HX.out.later hb)
  replace HXQ := uh (HXQ.out.later hb)
  replace RPS := uh (RPS.out.later hb)
  replace RPG := uh (RPG.out.later hb)
  have O12 := uh (hb.size)
  clear hb
  have hzX := HX.out.lt
  have haX := HX.out.at_
  have hzQ := HXQ.out.lt
  go_wp2_with (refine wpList_load_mid rfl 24 _ rfl w.heap.size 0 rfl cs _ haX Try.underlying24 rfl (by rw [LNX.out]; kernel_rfl) ?_)
  refine (toSheet ds cs w11 (HR.out.later HB.out) HW.out).mono ?_
  rintro e w12 ⟨cT, FT, rfl, rep, nd, fr, hb⟩
  clear hzX haX hzQ
  replace HB := uh (blw_trans HB.out hb)
  replace HX := uh (HX.out.later hb)
  replace HXQ := uh (HXQ.out.later hb)
  replace RPS := uh (RPS.out.later hb)
  replace RPG := uh (RPG.out.later hb)
  have O13 := uh (hb.size)
  clear hb
  have HC := uh (HIM.out HW.out HT0.out HT1.out HT2.out cT FT w12 rep)
  clear rep nd fr HIM
  have hzX := HX.out.lt
  have hzQ := HXQ.out.lt
  go_wp2_with fail
  refine HC.out.mono ?_
  rintro e w13 ⟨vH, FH, rfl, rep, nd, fr, hb⟩
  clear hzX hzQ
  clear HC
  replace HB := uh (blw_trans HB.out hb)
  replace HX := uh (HX.out.later hb)
  replace HXQ := uh (HXQ.out.later hb)
  replace RPS := uh (RPS.out.later hb)
  replace RPG := uh (RPG.out.later hb)
  have O14 := uh (hb.size)
  have FBH : Hid (∀ b ∈ FH, w12.heap.size ≤ b ∧ b < w13.heap.size) := fun b hb => ⟨fr b hb, rep.lt b hb⟩
  have NDH := uh nd
  have RPH := uh rep
  obtain ⟨saH, scH, hva⟩ := rep.raw.len0
  subst hva
  clear rep nd fr hb
  go_upto_region 31 with fail
  have hzX := HX.out.lt
  have hzQ := HXQ.out.lt
  go_wp2_with fail
  refine (eqSheetLineS N A _ _ w13 RPH.out.raw RPS.out.raw).mono ?_
  rintro e w14 ⟨rfl, hb⟩
  clear hzX hzQ
  replace HB := uh (blw_trans HB.out hb)
  replace HX := uh (HX.out.later hb)
  replace HXQ := uh (HXQ.out.later hb)
  replace RPS := uh (RPS.out.later hb)
  replace RPG := uh (RPG.out.later hb)
  replace RPH := uh (RPH.out.later hb)
  have O15 := uh (hb.size)
  clear hb
  have hzX := HX.out.lt
  have hzQ := HXQ.out.lt
  go_wp2_with fail
  refine (heldSheetLineS N A _ 1 w14 (by obtain ⟨_, _, _, e, t, _⟩ := HTY.out.c_r; injection e with e1 e2; injection e1 with e3 e4; subst e3; subst e4; exact t) RPG.out.raw (by omega) (by have := HCN.out; omega)).mono ?_
  rintro e w15 ⟨he, hb⟩
  rw [← HK10.out] at he
  subst he
  clear hzX hzQ
  replace HB := uh (blw_trans HB.out hb)
  replace HX := uh (HX.out.later hb)
  replace HXQ := uh (HXQ.out.later hb)
  replace RPS := uh (RPS.out.later hb)
  replace RPG := uh (RPG.out.later hb)
  replace RPH := uh (RPH.out.later hb)
  have O16 := uh (hb.size)
  clear hb
  go_wp2
  go_ret
  exact ⟨rfl, HB.out⟩

end Go.Proofs.Ytikacjpbnoihjaa
