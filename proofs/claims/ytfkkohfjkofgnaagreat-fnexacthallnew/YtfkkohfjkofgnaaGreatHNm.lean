/-
  Marks of worlds of the hall.
-/
import Derived.Test.YtfkkohfjkofgnaaGreatHNSh
import Derived.Test.YtfkkohfjkofgnaaGreatHMk
import Derived.Test.YtfkkohfjkofgnaaGreatKMe
namespace Go.Proofs.YtfkkohfjkofgnaaGreat
open Go.RowKit Go.Deep

set_option maxRecDepth 8000 in
set_option maxHeartbeats 8000000 in
theorem markHallAskedS (F : List Nat) (n : Nat) (es : List Dt) (v : Value) (k : Nat) (w : World) (h : Rep w false [.row 98 shHallAsked] F [.row n es] [v]) (hnd : F.Nodup) (h1 : 1 ≤ k) (hk : k + cntL es ≤ 4000000000000000000) :
    Calls Tryz.prog 31 #[v, .int .i64 (k : Int)] w fun e w' => e = .returned (.int .i64 ((k + cntL es : Nat) : Int)) ∧ Marks (· ∈ F) w w' ∧ Rep w' false [.row 98 shHallAsked] F [.row n (mkL k es)] [v] := by
  rcases h.slice with ⟨_, rfl, rfl, rfl, a, rfl⟩ | ⟨p, o, c, u, m, G, rfl, rfl, hn, ho, hm, _, vs, hr, hR⟩
  · go_enter Tryz.func31, Tryz.ntmps31
    go_wp2
    refine wp_loop_rounds 1 ?_
    rw [rounds_succ]
    go_wp2
    go_ret
    exact ⟨by simp [cntL], Marks.refl _ _, by rw [mkL]; exact Rep.emp _ _ a rfl .nil⟩
  · have HT : Hid (Typ (reps n shHallAsked) es) := hR.raw.typ
    have HR : Hid (Row w shHallAsked p o n u m G es) := ⟨ho, hm, vs, hr, hR⟩
    have HND : Hid ((p :: G).Nodup) := hnd
    have hn1 : n ≤ 9223372036854775807 := hn.1
    have HNC := uh hn
    have hmm : o + n * 6 ≤ m := hm
    clear hr hR ho hm hnd h hn vs
    go_enter Tryz.func31, Tryz.ntmps31
    go_wp2
    go_loopw [1, 5] (fun kk i wr => ∃ q : Nat, q ≤ n ∧ i = .int .i64 (q : Int) ∧ kk = .int .i64 ((k + cntL (es.take (q * 6)) : Nat) : Int) ∧ Marks (· ∈ p :: G) w wr ∧ Row wr shHallAsked p o n u m G (mkL k (es.take (q * 6)) ++ es.drop (q * 6))) (fun _ i _ => n - (intOf i).toNat)
    case atStart => exact ⟨0, Nat.zero_le _, rfl, by simp [cntL], Marks.refl _ _, by simpa [mkL] using HR.out⟩
    case round =>
      obtain ⟨q, hq, rfl, rfl, hM, hRow⟩ := hrel
      have HM := uh hM
      have HW := uh hRow
      clear hM hRow
      by_cases hlt : q < n
      · obtain ⟨Ge, ve, hE, hrng, hpG, hndE, hsub, hclose⟩ := HW.out.open HND.out q hlt
        obtain ⟨d, hd⟩ : ∃ d, d = el 6 q es := ⟨_, rfl⟩
        have hte : Typ shHallAsked d := by rw [hd]; exact HT.out.el hlt
        have hE2 : Rep wr false shHallAsked Ge d ve := by
          have ee : el 6 q (mkL k (es.take (q * 6)) ++ es.drop (q * 6)) = el 6 q es := half_el (sh := shHallAsked) HT.out hlt
          have hh : Rep wr false shHallAsked Ge (el 6 q (mkL k (es.take (q * 6)) ++ es.drop (q * 6))) ve := hE
          rw [ee, ← hd] at hh; exact hh
        have hcn : k + cntL (es.take (q * 6)) + cntL d ≤ 4000000000000000000 := by rw [hd]; have := @cnt_el q 6 es; omega
        have hnx : cntL (es.take ((q + 1) * 6)) = cntL (es.take (q * 6)) + cntL d := by rw [hd]; exact cnt_next (sh := shHallAsked) HT.out hlt
        have hhn : (mkL k (es.take (q * 6)) ++ es.drop (q * 6)).take (q * 6) ++ (mkL (k + cntL (es.take (q * 6))) d ++ (mkL k (es.take (q * 6)) ++ es.drop (q * 6)).drop (q * 6 + 6)) = mkL k (es.take ((q + 1) * 6)) ++ es.drop ((q + 1) * 6) := by rw [hd]; exact half_next (sh := shHallAsked) HT.out hlt
        clear hE hd
        obtain ⟨kq, hkq⟩ : ∃ kq : Nat, kq = k + cntL (es.take (q * 6)) := ⟨_, rfl⟩
        rw [← hkq] at hcn hhn ⊢
        have HNX : Hid (k + cntL (es.take ((q + 1) * 6)) = kq + cntL d) := by show _ = _; omega
        obtain ⟨a0, a1, a2, a3, a4, a5, rfl⟩ := typHallAsked hte
        obtain ⟨rfl, rfl⟩ := repHallAsked hE2
        have hkq1 : 1 ≤ kq := by omega
        have hkq2 : kq ≤ 4000000000000000000 := by omega
        simp only [cntL] at hcn
        have HCN := uh hcn
        clear hcn
        clear hE2 hte hkq hnx
        obtain ⟨off, hoff⟩ : ∃ off, off = o + q * 6 := ⟨_, rfl⟩
        have hom : off + 6 ≤ m := by have : q * 6 + 6 ≤ n * 6 := (by omega); omega
        have P0 : Hid (Pg wr wr p off 6 u m [.string a0, .int .i64 a1, .int .i64 a2, .int .i64 a3, .int .i64 a4, .int .i64 a5] (· ∈ ([] : List Nat))) := Pg.refl _ HW.out.own (by rw [hoff]; exact hrng)
        have HC := uh hclose
        have HH := uh hhn
        have HO : Hid (off = o + q * 6) := hoff
        have HPG := uh hpG; have HNE := uh hndE
        have HSU := uh hsub
        clear hclose hhn hrng hpG hndE hsub HW
        have hm0 : (0 : Int) ≤ (q : Int) := by omega
        have hm3 : (q : Int) < (n : Int) := by omega
        go_wp2_with fail
        refine (markText kq wr (by omega) (by omega)).mono ?_
        rintro e x0 ⟨rfl, hb0⟩
        have Q1 := uh (P0.out.later hb0)
        clear hb0
        obtain ⟨y0, hz0⟩ : ∃ y, y = x0.setCell ⟨p, o + q * 6, none⟩ (.string (mt kq)) := ⟨_, rfl⟩
        have P1 : Hid (Pg wr y0 p off 6 u m [.string (mt kq), .int .i64 a1, .int .i64 a2, .int .i64 a3, .int .i64 a4, .int .i64 a5] (· ∈ ([] : List Nat))) := by
          have := Q1.out.store 0 (.string (mt kq)) (by omega) hom
          rw [hz0, ← HO.out]; exact this
        have hfz := Q1.out.own.frozen
        have hbz := Q1.out.own.lt
        obtain ⟨ux, eu⟩ := Q1.out.own.cell (o + q * 6) (by have := HO.out; omega)
        go_upto_region 5 with fail
        rw [← hz0]
        clear hz0 hfz hbz eu
        obtain ⟨k0, hk0⟩ : ∃ k0 : Nat, k0 = kq + 1 := ⟨_, rfl⟩
        have hkc0 : (kq : Int) + 1 = (k0 : Int) := by omega
        have HK0 := uh hk0
        have kb0 : 1 ≤ k0 ∧ k0 ≤ 4000000000000000000 := by have := HCN.out; have := HK0.out; omega
        obtain ⟨kl0, ku0⟩ := kb0
        clear hk0
        go_upto_region 6 with fail
        clear hkc0
        obtain ⟨y1, hz1⟩ : ∃ y, y = y0.setCell ⟨p, o + q * 6 + 1, none⟩ (.int .i64 (k0 : Int)) := ⟨_, rfl⟩
        have P2 : Hid (Pg wr y1 p off 6 u m [.string (mt kq), .int .i64 (k0 : Int), .int .i64 a2, .int .i64 a3, .int .i64 a4, .int .i64 a5] (· ∈ ([] : List Nat))) := by
          have := P1.out.store 1 (.int .i64 (k0 : Int)) (by omega) hom
          rw [hz1, ← HO.out]; exact this
        have hfz := P1.out.own.frozen
        have hbz := P1.out.own.lt
        obtain ⟨ux, eu⟩ := P1.out.own.cell (o + q * 6 + 1) (by have := HO.out; omega)
        go_upto_region 7 with fail
        rw [← hz1]
        clear hz1 hfz hbz eu
        obtain ⟨k1, hk1⟩ : ∃ k1 : Nat, k1 = k0 + 1 := ⟨_, rfl⟩
        have hkc1 : (k0 : Int) + 1 = (k1 : Int) := by omega
        have HK1 := uh hk1
        have kb1 : 1 ≤ k1 ∧ k1 ≤ 4000000000000000000 := by have := HCN.out; have := HK0.out; have := HK1.out; omega
        obtain ⟨kl1, ku1⟩ := kb1
        clear hk1
        go_upto_region 8 with fail
        clear hkc1
        obtain ⟨y2, hz2⟩ : ∃ y, y = y1.setCell ⟨p, o + q * 6 + 2, none⟩ (.int .i64 (k1 : Int)) := ⟨_, rfl⟩
        have P3 : Hid (Pg wr y2 p off 6 u m [.string (mt kq), .int .i64 (k0 : Int), .int .i64 (k1 : Int), .int .i64 a3, .int .i64 a4, .int .i64 a5] (· ∈ ([] : List Nat))) := by
          have := P2.out.store 2 (.int .i64 (k1 : Int)) (by omega) hom
          rw [hz2, ← HO.out]; exact this
        have hfz := P2.out.own.frozen
        have hbz := P2.out.own.lt
        obtain ⟨ux, eu⟩ := P2.out.own.cell (o + q * 6 + 2) (by have := HO.out; omega)
        go_upto_region 9 with fail
        rw [← hz2]
        clear hz2 hfz hbz eu
        obtain ⟨k2, hk2⟩ : ∃ k2 : Nat, k2 = k1 + 1 := ⟨_, rfl⟩
        have hkc2 : (k1 : Int) + 1 = (k2 : Int) := by omega
        have HK2 := uh hk2
        have kb2 : 1 ≤ k2 ∧ k2 ≤ 4000000000000000000 := by have := HCN.out; have := HK0.out; have := HK1.out; have := HK2.out; omega
        obtain ⟨kl2, ku2⟩ := kb2
        clear hk2
        go_upto_region 10 with fail
        clear hkc2
        obtain ⟨y3, hz3⟩ : ∃ y, y = y2.setCell ⟨p, o + q * 6 + 3, none⟩ (.int .i64 (k2 : Int)) := ⟨_, rfl⟩
        have P4 : Hid (Pg wr y3 p off 6 u m [.string (mt kq), .int .i64 (k0 : Int), .int .i64 (k1 : Int), .int .i64 (k2 : Int), .int .i64 a4, .int .i64 a5] (· ∈ ([] : List Nat))) := by
          have := P3.out.store 3 (.int .i64 (k2 : Int)) (by omega) hom
          rw [hz3, ← HO.out]; exact this
        have hfz := P3.out.own.frozen
        have hbz := P3.out.own.lt
        obtain ⟨ux, eu⟩ := P3.out.own.cell (o + q * 6 + 3) (by have := HO.out; omega)
        go_upto_region 11 with fail
        rw [← hz3]
        clear hz3 hfz hbz eu
        obtain ⟨k3, hk3⟩ : ∃ k3 : Nat, k3 = k2 + 1 := ⟨_, rfl⟩
        have hkc3 : (k2 : Int) + 1 = (k3 : Int) := by omega
        have HK3 := uh hk3
        have kb3 : 1 ≤ k3 ∧ k3 ≤ 4000000000000000000 := by have := HCN.out; have := HK0.out; have := HK1.out; have := HK2.out; have := HK3.out; omega
        obtain ⟨kl3, ku3⟩ := kb3
        clear hk3
        go_upto_region 12 with fail
        clear hkc3
        obtain ⟨y4, hz4⟩ : ∃ y, y = y3.setCell ⟨p, o + q * 6 + 4, none⟩ (.int .i64 (k3 : Int)) := ⟨_, rfl⟩
        have P5 : Hid (Pg wr y4 p off 6 u m [.string (mt kq), .int .i64 (k0 : Int), .int .i64 (k1 : Int), .int .i64 (k2 : Int), .int .i64 (k3 : Int), .int .i64 a5] (· ∈ ([] : List Nat))) := by
          have := P4.out.store 4 (.int .i64 (k3 : Int)) (by omega) hom
          rw [hz4, ← HO.out]; exact this
        have hfz := P4.out.own.frozen
        have hbz := P4.out.own.lt
        obtain ⟨ux, eu⟩ := P4.out.own.cell (o + q * 6 + 4) (by have := HO.out; omega)
        go_upto_region 13 with fail
        rw [← hz4]
        clear hz4 hfz hbz eu
        obtain ⟨k4, hk4⟩ : ∃ k4 : Nat, k4 = k3 + 1 := ⟨_, rfl⟩
        have hkc4 : (k3 : Int) + 1 = (k4 : Int) := by omega
        have HK4 := uh hk4
        have kb4 : 1 ≤ k4 ∧ k4 ≤ 4000000000000000000 := by have := HCN.out; have := HK0.out; have := HK1.out; have := HK2.out; have := HK3.out; have := HK4.out; omega
        obtain ⟨kl4, ku4⟩ := kb4
        clear hk4
        go_upto_region 14 with fail
        clear hkc4
        obtain ⟨y5, hz5⟩ : ∃ y, y = y4.setCell ⟨p, o + q * 6 + 5, none⟩ (.int .i64 (k4 : Int)) := ⟨_, rfl⟩
        have P6 : Hid (Pg wr y5 p off 6 u m [.string (mt kq), .int .i64 (k0 : Int), .int .i64 (k1 : Int), .int .i64 (k2 : Int), .int .i64 (k3 : Int), .int .i64 (k4 : Int)] (· ∈ ([] : List Nat))) := by
          have := P5.out.store 5 (.int .i64 (k4 : Int)) (by omega) hom
          rw [hz5, ← HO.out]; exact this
        have hfz := P5.out.own.frozen
        have hbz := P5.out.own.lt
        obtain ⟨ux, eu⟩ := P5.out.own.cell (o + q * 6 + 5) (by have := HO.out; omega)
        go_upto_region 15 with fail
        rw [← hz5]
        clear hz5 hfz hbz eu
        obtain ⟨k5, hk5⟩ : ∃ k5 : Nat, k5 = k4 + 1 := ⟨_, rfl⟩
        have hkc5 : (k4 : Int) + 1 = (k5 : Int) := by omega
        have HK5 := uh hk5
        have kb5 : 1 ≤ k5 ∧ k5 ≤ 4000000000000000000 := by have := HCN.out; have := HK0.out; have := HK1.out; have := HK2.out; have := HK3.out; have := HK4.out; have := HK5.out; omega
        obtain ⟨kl5, ku5⟩ := kb5
        clear hk5
        have HF : Hid (Marks (· ∈ p :: G) w y5 ∧ Row y5 shHallAsked p o n u m G (mkL k (es.take ((q + 1) * 6)) ++ es.drop ((q + 1) * 6)) ∧ k5 = k + cntL (es.take ((q + 1) * 6))) := by
          have hmk : mkL kq [.s a0, .i a1, .i a2, .i a3, .i a4, .i a5] = [.s (mt kq), .i (k0 : Int), .i (k1 : Int), .i (k2 : Int), .i (k3 : Int), .i (k4 : Int)] := by simp only [mkL, HK0.out, HK1.out, HK2.out, HK3.out, HK4.out]
          have hs : ∀ b, b ∈ ([] : List Nat) → b ∈ ([] : List Nat) := by intro b hb; cases hb
          refine ⟨HM.out.trans (P6.out.mks.mono ?_), ?_, ?_⟩
          · rintro b (rfl | e)
            · simp
            · exact List.mem_cons_of_mem _ (HSU.out b (hs b e))
          · have := HC.out y5 _ _ (by have := P6.out.mono hs; rw [HO.out] at this; exact this) (repHallAsked_mk _ _ _ _ _ _)
            rw [← HH.out, hmk]; exact this
          · have := HNX.out; simp only [cntL] at this; have := HK0.out; have := HK1.out; have := HK2.out; have := HK3.out; have := HK4.out; have := HK5.out; omega
        clear HC HH HM
        go_wp2
        go_roundw
        case rel => exact ⟨q + 1, by omega, by go_num, by rw [← HF.out.2.2], HF.out.1, HF.out.2.1⟩
        case measure => simp [intOf]; omega
      · obtain rfl : q = n := by omega
        have el_ : es.length = q * 6 := HT.out.rows
        rw [← el_, List.take_length, List.drop_length, List.append_nil] at HW
        rw [← el_, List.take_length]
        go_wp2
        go_ret
        exact ⟨rfl, HM.out, Rep.of_row HW.out HNC.out⟩
set_option maxRecDepth 8000 in
set_option maxHeartbeats 8000000 in
theorem markHallWorld (F : List Nat) (ds : List Dt) (cs : List Value) (k : Nat) (w : World) (h : Rep w false shHallWorld F ds cs) (hnd : F.Nodup) (h1 : 1 ≤ k) (hk : k + cntT ds ≤ 4000000000000000000) :
    Calls Tryz.prog 11 #[.agg cs.toArray, .int .i64 (k : Int)] w fun e w' => e = .returned (.int .i64 ((k + cntT ds : Nat) : Int)) ∧ Marks (· ∈ F) w w' ∧ Rep w' false shHallWorld F (mkT k ds) cs := by
  obtain ⟨F0, d0, c0, F1, d1, c1, a2, F3, n3, e3, v3, rfl, rfl, hcs, r0, r1, r3⟩ := segRepHallWorld h
  have L0 : Hid (c0.length = 2) := r0.len
  have L1 : Hid (c1.length = 3) := r1.len
  have HCS := uh hcs
  simp only [cntT, cntT_app] at hk ⊢
  obtain ⟨nd0, ndr0, dj0⟩ := nd_app hnd
  have ND0 := uh nd0
  have DJ0 := uh dj0
  have LT0 := uh r0.lt
  obtain ⟨nd1, ndr1, dj1⟩ := nd_app ndr0
  have ND1 := uh nd1
  have DJ1 := uh dj1
  have LT1 := uh r1.lt
  obtain ⟨nd3, ndr3, dj3⟩ := nd_app ndr1
  have ND3 := uh nd3
  have DJ3 := uh dj3
  have LT3 := uh r3.lt
  clear hnd nd0 ndr0 dj0 nd1 ndr1 dj1 nd3 ndr3 dj3
  obtain ⟨wa, hwa⟩ : ∃ wa, wa = w.alloc (.cells cs.toArray 38) := ⟨_, rfl⟩
  have HB : Hid (Below w.heap.size w wa) := by show Below _ _ _; rw [hwa]; exact blw_alloc (Below.refl _ _) _
  have HX : Hid (LBox wa w.heap.size cs) := by show LBox _ _ _; rw [hwa]; exact LBox.new w cs.toArray _ _ rfl
  have R0 := uh (r0.later HB.out)
  have R1 := uh (r1.later HB.out)
  have R3 := uh (r3.later HB.out)
  have HM := uh (Marks.of_below (· ∈ ([] : List Nat)) HB.out)
  have HKK := uh hk
  clear hcs hk h r0 r1 r3
  go_enter Tryz.func11, Tryz.ntmps11
  go_upto_region 1 with fail
  rw [← hwa]
  clear hwa
  have hbz := HX.out.lt
  have hbx := boxHallWorld L0.out L1.out (by have := HX.out.at_; rw [HCS.out] at this; exact this)
  have gc := hbx.1
  clear hbx
  obtain ⟨k0, hk0⟩ : ∃ k0 : Nat, k0 = k + cntT d0 := ⟨_, rfl⟩
  have HK0 := uh hk0
  have kb0 : 1 ≤ k0 ∧ k0 ≤ 4000000000000000000 := by have := HKK.out; have := HK0.out; omega
  obtain ⟨kl0, ku0⟩ := kb0
  clear hk0
  go_wp2_with (refine wpList_load_mid rfl 30 _ rfl w.heap.size 0 rfl c0 _ gc Tryz.underlying30 rfl (by rw [L0.out]; kernel_rfl) ?_)
  refine (markHallHouse F0 d0 c0 k wa R0.out ND0.out (by omega) (by have := HK0.out; omega)).mono ?_
  rintro e x0 ⟨he, hb0, rr0⟩
  rw [← HK0.out] at he
  subst he
  replace HX := uh (HX.out.mks hb0 (fun e => Nat.lt_irrefl _ (LT0.out _ e)))
  replace HM := uh ((HM.out.mono (fun b (e : b ∈ ([] : List Nat)) => List.mem_append_left F0 e)).trans (hb0.mono (fun b (e : b ∈ F0) => List.mem_append_right ([] : List Nat) e)))
  replace R1 := uh (R1.out.keep hb0 (fun b hb e => DJ0.out b e (by simp [hb])))
  replace R3 := uh (R3.out.keep hb0 (fun b hb e => DJ0.out b e (by simp [hb])))
  replace R0 := uh rr0
  clear gc hbz hb0 rr0
  have hbz := HX.out.lt
  have hbx := boxHallWorld L0.out L1.out (by have := HX.out.at_; rw [HCS.out] at this; exact this)
  have gc := hbx.2.1
  clear hbx
  obtain ⟨k1, hk1⟩ : ∃ k1 : Nat, k1 = k0 + cntT d1 := ⟨_, rfl⟩
  have HK1 := uh hk1
  have kb1 : 1 ≤ k1 ∧ k1 ≤ 4000000000000000000 := by have := HKK.out; have := HK0.out; have := HK1.out; omega
  obtain ⟨kl1, ku1⟩ := kb1
  clear hk1
  go_wp2_with (refine wpList_load_mid rfl 35 _ rfl w.heap.size 2 rfl c1 _ gc Tryz.underlying35 rfl (by rw [L1.out]; kernel_rfl) ?_)
  refine (markRecWorld F1 d1 c1 k0 x0 R1.out ND1.out (by omega) (by have := HK1.out; omega)).mono ?_
  rintro e x1 ⟨he, hb1, rr1⟩
  rw [← HK1.out] at he
  subst he
  replace HX := uh (HX.out.mks hb1 (fun e => Nat.lt_irrefl _ (LT1.out _ e)))
  replace HM := uh ((HM.out.mono (fun b (e : b ∈ (([] : List Nat) ++ F0)) => List.mem_append_left F1 e)).trans (hb1.mono (fun b (e : b ∈ F1) => List.mem_append_right (([] : List Nat) ++ F0) e)))
  replace R0 := uh (R0.out.keep hb1 (fun b hb e => DJ0.out b hb (by simp [e])))
  replace R3 := uh (R3.out.keep hb1 (fun b hb e => DJ1.out b e (by simp [hb])))
  replace R1 := uh rr1
  clear gc hbz hb1 rr1
  have hbz := HX.out.lt
  have hbx := boxHallWorld L0.out L1.out (by have := HX.out.at_; rw [HCS.out] at this; exact this)
  have gc := hbx.2.2.2
  clear hbx
  obtain ⟨k3, hk3⟩ : ∃ k3 : Nat, k3 = k1 + cntL e3 := ⟨_, rfl⟩
  have HK3 := uh hk3
  have kb3 : 1 ≤ k3 ∧ k3 ≤ 4000000000000000000 := by have := HKK.out; have := HK0.out; have := HK1.out; have := HK3.out; omega
  obtain ⟨kl3, ku3⟩ := kb3
  clear hk3
  obtain ⟨va3, vc3, hva⟩ := R3.out.raw.len0
  subst hva
  go_wp2_with fail
  refine (markHallAskedS F3 n3 e3 (.slice va3 n3 vc3) k1 x1 R3.out ND3.out (by omega) (by have := HK3.out; omega)).mono ?_
  rintro e x3 ⟨he, hb3, rr3⟩
  rw [← HK3.out] at he
  subst he
  replace HX := uh (HX.out.mks hb3 (fun e => Nat.lt_irrefl _ (LT3.out _ e)))
  replace HM := uh ((HM.out.mono (fun b (e : b ∈ ((([] : List Nat) ++ F0) ++ F1)) => List.mem_append_left F3 e)).trans (hb3.mono (fun b (e : b ∈ F3) => List.mem_append_right ((([] : List Nat) ++ F0) ++ F1) e)))
  replace R0 := uh (R0.out.keep hb3 (fun b hb e => DJ0.out b hb (by simp [e])))
  replace R1 := uh (R1.out.keep hb3 (fun b hb e => DJ1.out b hb (by simp [e])))
  replace R3 := uh rr3
  clear gc hbz hb3 rr3
  go_wp2
  go_ret
  refine ⟨Pl.ret_int (by have := HKK.out; have := HK0.out; have := HK1.out; have := HK3.out; omega), HM.out.mono (fun b (e : b ∈ (((([] : List Nat) ++ F0) ++ F1) ++ F3)) => by simpa [or_assoc] using e), ?_⟩
  have := segRepHallWorld_mk R0.out R1.out a2 R3.out
  rw [← HCS.out] at this
  simp only [mkT, mkT_app]
  simpa only [HK0.out, HK1.out, HK3.out, Nat.add_zero] using this
end Go.Proofs.YtfkkohfjkofgnaaGreat
