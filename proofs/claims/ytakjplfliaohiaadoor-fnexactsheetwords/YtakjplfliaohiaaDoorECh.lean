/-
  Words of lines: marks that are there.
-/
import Derived.Test.YtakjplfliaohiaaDoorECs
import Derived.Test.YtakjplfliaohiaaDoorUM
namespace Go.Proofs.YtakjplfliaohiaaDoor
open Go.RowKit Go.Deep

set_option maxRecDepth 8000 in
set_option maxHeartbeats 8000000 in
theorem heldStringS (n : Nat) (es : List Dt) (v : Value) (k : Nat) (w : World) (ht : Typ (reps n [.s]) es) (h : Raw w [.row 9 [.s]] [.row n (mkL k es)] [v]) (h1 : 1 ≤ k) (hk : k + cntL es ≤ 4000000000000000000) :
    Calls Tryd.prog 16 #[v, .int .i64 (k : Int)] w fun e w' => e = .returned (.int .i64 ((k + cntL es : Nat) : Int)) ∧ Below w.heap.size w w' := by
  have HT := uh ht
  clear ht
  rcases h.slice with ⟨rfl, hes, a, c, rfl⟩ | ⟨p, o, c, rfl, hp, hn, vs, hr, hR⟩
  · have he0 : es = [] := List.eq_nil_of_length_eq_zero (by have := HT.out.rows; omega)
    subst he0
    go_enter Tryd.func16, Tryd.ntmps16
    go_wp2
    refine wp_loop_rounds 1 ?_
    rw [rounds_succ]
    go_wp2
    go_ret
    exact ⟨by simp [cntL], Below.refl _ _⟩
  · have HR := uh hR; have HRG := uh hr
    have HP := uh hp
    have hn1 : n ≤ 9223372036854775807 := hn.1
    clear hr hR h hn hp
    go_enter Tryd.func16, Tryd.ntmps16
    go_wp2
    go_loopw [1, 5] (fun kk i wr => ∃ q : Nat, q ≤ n ∧ i = .int .i64 (q : Int) ∧ kk = .int .i64 ((k + cntL (es.take (q * 1)) : Nat) : Int) ∧ Below w.heap.size w wr) (fun _ i _ => n - (intOf i).toNat)
    case atStart => exact ⟨0, Nat.zero_le _, rfl, by simp [cntL], Below.refl _ _⟩
    case round =>
      obtain ⟨q, hq, rfl, rfl, hM⟩ := hrel
      have HB := uh hM
      clear hM
      by_cases hlt : q < n
      · obtain ⟨ve, hE, hrng⟩ := (HR.out.later HB.out).el hlt (rA_later HRG.out HP.out HB.out)
        have hE1 : Raw wr [.s] (el 1 q (mkL k es)) ve := hE
        rw [show el 1 q (mkL k es) = mkL (k + cntL (es.take (q * 1))) (el 1 q es) from mk_el (sh := [.s]) HT.out hlt] at hE1
        obtain ⟨d, hd⟩ : ∃ d, d = el 1 q es := ⟨_, rfl⟩
        have hte : Typ [.s] d := by rw [hd]; exact HT.out.el hlt
        have hcn : k + cntL (es.take (q * 1)) + cntL d ≤ 4000000000000000000 := by rw [hd]; have := @cnt_el q 1 es; omega
        have hnx : cntL (es.take ((q + 1) * 1)) = cntL (es.take (q * 1)) + cntL d := by rw [hd]; exact cnt_next (sh := [.s]) HT.out hlt
        rw [← hd] at hE1
        clear hE hd
        obtain ⟨kq, hkq⟩ : ∃ kq : Nat, kq = k + cntL (es.take (q * 1)) := ⟨_, rfl⟩
        rw [← hkq] at hcn hE1 ⊢
        have HNX : Hid (k + cntL (es.take ((q + 1) * 1)) = kq + cntL d) := by show _ = _; omega
        obtain ⟨a0, rfl⟩ := typT1 hte
        simp only [mkL] at hE1
        obtain rfl := rawT1 hE1
        have hkq1 : 1 ≤ kq := by omega
        have hkq2 : kq ≤ 4000000000000000000 := by omega
        simp only [cntL] at hcn
        have HCN := uh hcn
        have HPR : Hid (p < wr.heap.size) := Nat.lt_of_lt_of_le HP.out HB.out.size
        have HG : Hid (wr.rangeAt p (o + q) _) := (by show World.rangeAt _ _ _ _; have := hrng; simpa using this)
        clear hcn hE1 hte hkq hnx hrng
        have hm0 : (0 : Int) ≤ (q : Int) := by omega
        have hm3 : (q : Int) < (n : Int) := by omega
        have hbz := HPR.out
        have gc : wr.cell? ⟨p, o + q, none⟩ = some (.string (mt kq)) := rA_get HG.out 0 _ rfl
        have hNE := upst_some wr
        have hbz2 : ∀ px : UPst wr, p < px.W.heap.size := fun px => px.size hbz
        have S1 : ∀ px : UPst wr, px.W.cell? ⟨p, o + q, none⟩ = some (.string (mt kq)) := fun px => px.cell gc hbz
        go_upto_region 4 with fail
        clear gc hbz
        refine uregion wr (Below.refl _ _) (by kernel_rfl) (by kernel_rfl) ?_
        repeat (first
          | go_big_quiet_skip
          | (go_big_quiet_want; go_big_quiet_op; first | go_big_quiet_on | (apply Exists.intro; refine ⟨fun px => ?_, ?_⟩; (focus ((go_at_call 19; refine (markText kq _ (by omega) (by omega)).mono ?_; rintro e w' ⟨he, hb⟩; exact ⟨he, ⟨w', blw_trans px.ok hb⟩, rfl⟩))); go_big_quiet_on)))
        refine wpQuiet_nil ?_
        intro _ hw'
        obtain ⟨z0, hw''⟩ := hw'
        subst hw''
        replace HB := uh (blw_trans HB.out z0.ok)
        replace HG := uh (rA_later HG.out HPR.out z0.ok)
        replace HPR := uh (Nat.lt_of_lt_of_le HPR.out z0.ok.size)
        clear S1 hbz2 hNE
        obtain ⟨k0, hk0⟩ : ∃ k0 : Nat, k0 = kq + 1 := ⟨_, rfl⟩
        have hkc0 : (kq : Int) + 1 = (k0 : Int) := by omega
        have HK0 := uh hk0
        have kb0 : 1 ≤ k0 ∧ k0 ≤ 4000000000000000000 := by have := HCN.out; have := HK0.out; omega
        obtain ⟨kl0, ku0⟩ := kb0
        clear hk0
        have HF : Hid (k0 = k + cntL (es.take ((q + 1) * 1))) := by
          have := HNX.out; simp only [cntL] at this; have := HK0.out; show _ = _; omega
        go_wp2
        go_roundw
        case rel => exact ⟨q + 1, by omega, by go_num, by rw [← HF.out], HB.out⟩
        case measure => simp [intOf]; omega
      · obtain rfl : q = n := by omega
        have el_ : es.length = q * 1 := HT.out.rows
        rw [← el_, List.take_length]
        go_wp2
        go_ret
        exact ⟨rfl, HB.out⟩
set_option maxRecDepth 8000 in
set_option maxHeartbeats 8000000 in
theorem heldSheetCut (ds : List Dt) (cs : List Value) (k : Nat) (w : World) (ht : Typ shSheetCut ds) (h : Raw w shSheetCut (mkT k ds) cs) (h1 : 1 ≤ k) (hk : k + cntT ds ≤ 4000000000000000000) :
    Calls Tryd.prog 8 #[.agg cs.toArray, .int .i64 (k : Int)] w fun e w' => e = .returned (.int .i64 ((k + cntT ds : Nat) : Int)) ∧ Below w.heap.size w w' := by
  obtain ⟨n0, e0, a1, rfl, t0⟩ := segTypSheetCut ht
  simp only [mkT] at h
  obtain ⟨v0, x0, rfl, r0, h_0⟩ := h.c_r
  obtain ⟨x1, rfl, h_1⟩ := h_0.c_b
  obtain rfl := h_1.c_n
  obtain ⟨cs, hcs⟩ : ∃ cs : List Value, cs = v0 :: .bool a1 :: [] := ⟨_, rfl⟩
  rw [← hcs]
  have HCS := uh hcs
  simp only [cntT] at hk ⊢
  obtain ⟨wa, hwa⟩ : ∃ wa, wa = w.alloc (.cells cs.toArray 24) := ⟨_, rfl⟩
  have HB : Hid (Below w.heap.size w wa) := by show Below _ _ _; rw [hwa]; exact blw_alloc (Below.refl _ _) _
  have HX : Hid (LBox wa w.heap.size cs) := by show LBox _ _ _; rw [hwa]; exact LBox.new w cs.toArray _ _ rfl
  have R0 := uh (r0.later HB.out)
  have HKK := uh hk
  clear hcs hk r0
  go_enter Tryd.func8, Tryd.ntmps8
  go_upto_region 1 with fail
  rw [← hwa]
  clear hwa
  have hbz := HX.out.lt
  have hbx := boxSheetCut  (by have := HX.out.at_; rw [HCS.out] at this; exact this)
  have gc := hbx.1
  clear hbx
  obtain ⟨k0, hk0⟩ : ∃ k0 : Nat, k0 = k + cntL e0 := ⟨_, rfl⟩
  have HK0 := uh hk0
  have kb0 : 1 ≤ k0 ∧ k0 ≤ 4000000000000000000 := by have := HKK.out; have := HK0.out; omega
  obtain ⟨kl0, ku0⟩ := kb0
  clear hk0
  have kn0 : ¬ (k0 : Int) < 0 := by omega
  obtain ⟨va0, vc0, hva⟩ := R0.out.len0
  subst hva
  go_wp2_with fail
  refine (heldStringS n0 e0 (.slice va0 n0 vc0) k wa t0 (by have := R0.out; simpa only [Nat.add_zero] using this) (by omega) (by have := HK0.out; omega)).mono ?_
  rintro e x0 ⟨he, hb0⟩
  rw [← HK0.out] at he
  subst he
  replace HX := uh (HX.out.later hb0)
  replace HB := uh (blw_trans HB.out hb0)
  clear gc hbz hb0
  go_wp2
  go_ret
  exact ⟨Pl.ret_int (by have := HKK.out; have := HK0.out; omega), HB.out⟩
end Go.Proofs.YtakjplfliaohiaaDoor
