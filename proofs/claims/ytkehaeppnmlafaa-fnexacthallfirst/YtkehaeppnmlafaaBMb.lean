/-
  Marks of books of the stewards.
-/
import Derived.Test.YtkehaeppnmlafaaBSh
import Derived.Test.YtkehaeppnmlafaaUBm
namespace Go.Proofs.Ytkehaeppnmlafaa
open Go.RowKit Go.Deep

set_option maxRecDepth 8000 in
set_option maxHeartbeats 8000000 in
theorem markStewServiceS (F : List Nat) (n : Nat) (es : List Dt) (v : Value) (k : Nat) (w : World) (h : Rep w false [.row 125 shStewService] F [.row n es] [v]) (hnd : F.Nodup) (h1 : 1 ≤ k) (hk : k + cntL es ≤ 4000000000000000000) :
    Calls Try.prog 58 #[v, .int .i64 (k : Int)] w fun e w' => e = .returned (.int .i64 ((k + cntL es : Nat) : Int)) ∧ Marks (· ∈ F) w w' ∧ Rep w' false [.row 125 shStewService] F [.row n (mkL k es)] [v] := by
  rcases h.slice with ⟨_, rfl, rfl, rfl, a, rfl⟩ | ⟨p, o, c, u, m, G, rfl, rfl, hn, ho, hm, _, vs, hr, hR⟩
  · go_enter Try.func58, Try.ntmps58
    go_wp2
    refine wp_loop_rounds 1 ?_
    rw [rounds_succ]
    go_wp2
    go_ret
    exact ⟨by simp [cntL], Marks.refl _ _, by rw [mkL]; exact Rep.emp _ _ a rfl .nil⟩
  · have HT : Hid (Typ (reps n shStewService) es) := hR.raw.typ
    have HR : Hid (Row w shStewService p o n u m G es) := ⟨ho, hm, vs, hr, hR⟩
    have HND : Hid ((p :: G).Nodup) := hnd
    have hn1 : n ≤ 9223372036854775807 := hn.1
    have HNC := uh hn
    have hmm : o + n * 13 ≤ m := hm
    clear hr hR ho hm hnd h hn vs
    go_enter Try.func58, Try.ntmps58
    go_wp2
    go_loopw [1, 5] (fun kk i wr => ∃ q : Nat, q ≤ n ∧ i = .int .i64 (q : Int) ∧ kk = .int .i64 ((k + cntL (es.take (q * 13)) : Nat) : Int) ∧ Marks (· ∈ p :: G) w wr ∧ Row wr shStewService p o n u m G (mkL k (es.take (q * 13)) ++ es.drop (q * 13))) (fun _ i _ => n - (intOf i).toNat)
    case atStart => exact ⟨0, Nat.zero_le _, rfl, by simp [cntL], Marks.refl _ _, by simpa [mkL] using HR.out⟩
    case round =>
      obtain ⟨q, hq, rfl, rfl, hM, hRow⟩ := hrel
      have HM := uh hM
      have HW := uh hRow
      clear hM hRow
      by_cases hlt : q < n
      · obtain ⟨Ge, ve, hE, hrng, hpG, hndE, hsub, hclose⟩ := HW.out.open HND.out q hlt
        obtain ⟨d, hd⟩ : ∃ d, d = el 13 q es := ⟨_, rfl⟩
        have hte : Typ shStewService d := by rw [hd]; exact HT.out.el hlt
        have hE2 : Rep wr false shStewService Ge d ve := by
          have ee : el 13 q (mkL k (es.take (q * 13)) ++ es.drop (q * 13)) = el 13 q es := half_el (sh := shStewService) HT.out hlt
          have hh : Rep wr false shStewService Ge (el 13 q (mkL k (es.take (q * 13)) ++ es.drop (q * 13))) ve := hE
          rw [ee, ← hd] at hh; exact hh
        have hcn : k + cntL (es.take (q * 13)) + cntL d ≤ 4000000000000000000 := by rw [hd]; have := @cnt_el q 13 es; omega
        have hnx : cntL (es.take ((q + 1) * 13)) = cntL (es.take (q * 13)) + cntL d := by rw [hd]; exact cnt_next (sh := shStewService) HT.out hlt
        have hhn : (mkL k (es.take (q * 13)) ++ es.drop (q * 13)).take (q * 13) ++ (mkL (k + cntL (es.take (q * 13))) d ++ (mkL k (es.take (q * 13)) ++ es.drop (q * 13)).drop (q * 13 + 13)) = mkL k (es.take ((q + 1) * 13)) ++ es.drop ((q + 1) * 13) := by rw [hd]; exact half_next (sh := shStewService) HT.out hlt
        clear hE hd
        obtain ⟨kq, hkq⟩ : ∃ kq : Nat, kq = k + cntL (es.take (q * 13)) := ⟨_, rfl⟩
        rw [← hkq] at hcn hhn ⊢
        have HNX : Hid (k + cntL (es.take ((q + 1) * 13)) = kq + cntL d) := by show _ = _; omega
        obtain ⟨a0, a1, a2, a3, a4, a5, a6, a7, a8, a9, a10, a11, a12, rfl⟩ := typStewService hte
        obtain ⟨rfl, rfl⟩ := repStewService hE2
        have hkq1 : 1 ≤ kq := by omega
        have hkq2 : kq ≤ 4000000000000000000 := by omega
        simp only [cntL] at hcn
        have HCN := uh hcn
        clear hcn
        clear hE2 hte hkq hnx
        obtain ⟨off, hoff⟩ : ∃ off, off = o + q * 13 := ⟨_, rfl⟩
        have hom : off + 13 ≤ m := by have : q * 13 + 13 ≤ n * 13 := (by omega); omega
        have P0 : Hid (Pg wr wr p off 13 u m [.string a0, .int .i64 a1, .bool a2, .int .i64 a3, .int .i64 a4, .int .i64 a5, .int .i64 a6, .int .i64 a7, .int .i64 a8, .int .i64 a9, .int .i64 a10, .int .i64 a11, .int .i64 a12] (· ∈ ([] : List Nat))) := Pg.refl _ HW.out.own (by rw [hoff]; exact hrng)
        have HC := uh hclose
        have HH := uh hhn
        have HO : Hid (off = o + q * 13) := hoff
        have HPG := uh hpG; have HNE := uh hndE
        have HSU := uh hsub
        clear hclose hhn hrng hpG hndE hsub HW
        have hm0 : (0 : Int) ≤ (q : Int) := by omega
        have hm3 : (q : Int) < (n : Int) := by omega
        go_wp2_with fail
        refine (markText kq wr (by omega) (by omega)).mono ?_
        rintro e x0 ⟨rfl, hb0⟩
        have Q1 := uh (P0.out.later hb0)
        clear hb0
        obtain ⟨y0, hz0⟩ : ∃ y, y = x0.setCell ⟨p, o + q * 13, none⟩ (.string (mt kq)) := ⟨_, rfl⟩
        have P1 : Hid (Pg wr y0 p off 13 u m [.string (mt kq), .int .i64 a1, .bool a2, .int .i64 a3, .int .i64 a4, .int .i64 a5, .int .i64 a6, .int .i64 a7, .int .i64 a8, .int .i64 a9, .int .i64 a10, .int .i64 a11, .int .i64 a12] (· ∈ ([] : List Nat))) := by
          have := Q1.out.store 0 (.string (mt kq)) (by omega) hom
          rw [hz0, ← HO.out]; exact this
        have hfz := Q1.out.own.frozen
        have hbz := Q1.out.own.lt
        obtain ⟨ux, eu⟩ := Q1.out.own.cell (o + q * 13) (by have := HO.out; omega)
        go_upto_region 5 with fail
        rw [← hz0]
        clear hz0 hfz hbz eu
        obtain ⟨k0, hk0⟩ : ∃ k0 : Nat, k0 = kq + 1 := ⟨_, rfl⟩
        have hkc0 : (kq : Int) + 1 = (k0 : Int) := by omega
        have HK0 := uh hk0
        have kb0 : 1 ≤ k0 ∧ k0 ≤ 4000000000000000000 := by have := HCN.out; have := HK0.out; omega
        obtain ⟨kl0, ku0⟩ := kb0
        clear hk0
        go_upto_region 6 with fail
        clear hkc0
        obtain ⟨y1, hz1⟩ : ∃ y, y = y0.setCell ⟨p, o + q * 13 + 1, none⟩ (.int .i64 (k0 : Int)) := ⟨_, rfl⟩
        have P2 : Hid (Pg wr y1 p off 13 u m [.string (mt kq), .int .i64 (k0 : Int), .bool a2, .int .i64 a3, .int .i64 a4, .int .i64 a5, .int .i64 a6, .int .i64 a7, .int .i64 a8, .int .i64 a9, .int .i64 a10, .int .i64 a11, .int .i64 a12] (· ∈ ([] : List Nat))) := by
          have := P1.out.store 1 (.int .i64 (k0 : Int)) (by omega) hom
          rw [hz1, ← HO.out]; exact this
        have hfz := P1.out.own.frozen
        have hbz := P1.out.own.lt
        obtain ⟨ux, eu⟩ := P1.out.own.cell (o + q * 13 + 1) (by have := HO.out; omega)
        go_upto_region 7 with fail
        rw [← hz1]
        clear hz1 hfz hbz eu
        obtain ⟨k1, hk1⟩ : ∃ k1 : Nat, k1 = k0 + 1 := ⟨_, rfl⟩
        have hkc1 : (k0 : Int) + 1 = (k1 : Int) := by omega
        have HK1 := uh hk1
        have kb1 : 1 ≤ k1 ∧ k1 ≤ 4000000000000000000 := by have := HCN.out; have := HK0.out; have := HK1.out; omega
        obtain ⟨kl1, ku1⟩ := kb1
        clear hk1
        go_upto_region 8 with fail
        clear hkc1
        have hrm := bmod k1
        obtain ⟨y2, hz2⟩ : ∃ y, y = y1.setCell ⟨p, o + q * 13 + 2, none⟩ (.bool (k1 % 3 == 0)) := ⟨_, rfl⟩
        have P3 : Hid (Pg wr y2 p off 13 u m [.string (mt kq), .int .i64 (k0 : Int), .bool (k1 % 3 == 0), .int .i64 a3, .int .i64 a4, .int .i64 a5, .int .i64 a6, .int .i64 a7, .int .i64 a8, .int .i64 a9, .int .i64 a10, .int .i64 a11, .int .i64 a12] (· ∈ ([] : List Nat))) := by
          have := P2.out.store 2 (.bool (k1 % 3 == 0)) (by omega) hom
          rw [hz2, ← HO.out]; exact this
        have hfz := P2.out.own.frozen
        have hbz := P2.out.own.lt
        obtain ⟨ux, eu⟩ := P2.out.own.cell (o + q * 13 + 2) (by have := HO.out; omega)
        go_upto_region 9 with fail
        rw [← hz2]
        clear hz2 hfz hbz eu hrm
        obtain ⟨k2, hk2⟩ : ∃ k2 : Nat, k2 = k1 + 1 := ⟨_, rfl⟩
        have hkc2 : (k1 : Int) + 1 = (k2 : Int) := by omega
        have HK2 := uh hk2
        have kb2 : 1 ≤ k2 ∧ k2 ≤ 4000000000000000000 := by have := HCN.out; have := HK0.out; have := HK1.out; have := HK2.out; omega
        obtain ⟨kl2, ku2⟩ := kb2
        clear hk2
        go_upto_region 10 with fail
        clear hkc2
        obtain ⟨y3, hz3⟩ : ∃ y, y = y2.setCell ⟨p, o + q * 13 + 3, none⟩ (.int .i64 (k2 : Int)) := ⟨_, rfl⟩
        have P4 : Hid (Pg wr y3 p off 13 u m [.string (mt kq), .int .i64 (k0 : Int), .bool (k1 % 3 == 0), .int .i64 (k2 : Int), .int .i64 a4, .int .i64 a5, .int .i64 a6, .int .i64 a7, .int .i64 a8, .int .i64 a9, .int .i64 a10, .int .i64 a11, .int .i64 a12] (· ∈ ([] : List Nat))) := by
          have := P3.out.store 3 (.int .i64 (k2 : Int)) (by omega) hom
          rw [hz3, ← HO.out]; exact this
        have hfz := P3.out.own.frozen
        have hbz := P3.out.own.lt
        obtain ⟨ux, eu⟩ := P3.out.own.cell (o + q * 13 + 3) (by have := HO.out; omega)
        go_upto_region 11 with fail
        rw [← hz3]
        clear hz3 hfz hbz eu
        obtain ⟨k3, hk3⟩ : ∃ k3 : Nat, k3 = k2 + 1 := ⟨_, rfl⟩
        have hkc3 : (k2 : Int) + 1 = (k3 : Int) := by omega
        have HK3 := uh hk3
        have kb3 : 1 ≤ k3 ∧ k3 ≤ 4000000000000000000 := by have := HCN.out; have := HK0.out; have := HK1.out; have := HK2.out; have := HK3.out; omega
        obtain ⟨kl3, ku3⟩ := kb3
        clear hk3
        go_upto_region 12 with fail
        clear hkc3
        obtain ⟨y4, hz4⟩ : ∃ y, y = y3.setCell ⟨p, o + q * 13 + 4, none⟩ (.int .i64 (k3 : Int)) := ⟨_, rfl⟩
        have P5 : Hid (Pg wr y4 p off 13 u m [.string (mt kq), .int .i64 (k0 : Int), .bool (k1 % 3 == 0), .int .i64 (k2 : Int), .int .i64 (k3 : Int), .int .i64 a5, .int .i64 a6, .int .i64 a7, .int .i64 a8, .int .i64 a9, .int .i64 a10, .int .i64 a11, .int .i64 a12] (· ∈ ([] : List Nat))) := by
          have := P4.out.store 4 (.int .i64 (k3 : Int)) (by omega) hom
          rw [hz4, ← HO.out]; exact this
        have hfz := P4.out.own.frozen
        have hbz := P4.out.own.lt
        obtain ⟨ux, eu⟩ := P4.out.own.cell (o + q * 13 + 4) (by have := HO.out; omega)
        go_upto_region 13 with fail
        rw [← hz4]
        clear hz4 hfz hbz eu
        obtain ⟨k4, hk4⟩ : ∃ k4 : Nat, k4 = k3 + 1 := ⟨_, rfl⟩
        have hkc4 : (k3 : Int) + 1 = (k4 : Int) := by omega
        have HK4 := uh hk4
        have kb4 : 1 ≤ k4 ∧ k4 ≤ 4000000000000000000 := by have := HCN.out; have := HK0.out; have := HK1.out; have := HK2.out; have := HK3.out; have := HK4.out; omega
        obtain ⟨kl4, ku4⟩ := kb4
        clear hk4
        go_upto_region 14 with fail
        clear hkc4
        obtain ⟨y5, hz5⟩ : ∃ y, y = y4.setCell ⟨p, o + q * 13 + 5, none⟩ (.int .i64 (k4 : Int)) := ⟨_, rfl⟩
        have P6 : Hid (Pg wr y5 p off 13 u m [.string (mt kq), .int .i64 (k0 : Int), .bool (k1 % 3 == 0), .int .i64 (k2 : Int), .int .i64 (k3 : Int), .int .i64 (k4 : Int), .int .i64 a6, .int .i64 a7, .int .i64 a8, .int .i64 a9, .int .i64 a10, .int .i64 a11, .int .i64 a12] (· ∈ ([] : List Nat))) := by
          have := P5.out.store 5 (.int .i64 (k4 : Int)) (by omega) hom
          rw [hz5, ← HO.out]; exact this
        have hfz := P5.out.own.frozen
        have hbz := P5.out.own.lt
        obtain ⟨ux, eu⟩ := P5.out.own.cell (o + q * 13 + 5) (by have := HO.out; omega)
        go_upto_region 15 with fail
        rw [← hz5]
        clear hz5 hfz hbz eu
        obtain ⟨k5, hk5⟩ : ∃ k5 : Nat, k5 = k4 + 1 := ⟨_, rfl⟩
        have hkc5 : (k4 : Int) + 1 = (k5 : Int) := by omega
        have HK5 := uh hk5
        have kb5 : 1 ≤ k5 ∧ k5 ≤ 4000000000000000000 := by have := HCN.out; have := HK0.out; have := HK1.out; have := HK2.out; have := HK3.out; have := HK4.out; have := HK5.out; omega
        obtain ⟨kl5, ku5⟩ := kb5
        clear hk5
        go_upto_region 16 with fail
        clear hkc5
        obtain ⟨y6, hz6⟩ : ∃ y, y = y5.setCell ⟨p, o + q * 13 + 6, none⟩ (.int .i64 (k5 : Int)) := ⟨_, rfl⟩
        have P7 : Hid (Pg wr y6 p off 13 u m [.string (mt kq), .int .i64 (k0 : Int), .bool (k1 % 3 == 0), .int .i64 (k2 : Int), .int .i64 (k3 : Int), .int .i64 (k4 : Int), .int .i64 (k5 : Int), .int .i64 a7, .int .i64 a8, .int .i64 a9, .int .i64 a10, .int .i64 a11, .int .i64 a12] (· ∈ ([] : List Nat))) := by
          have := P6.out.store 6 (.int .i64 (k5 : Int)) (by omega) hom
          rw [hz6, ← HO.out]; exact this
        have hfz := P6.out.own.frozen
        have hbz := P6.out.own.lt
        obtain ⟨ux, eu⟩ := P6.out.own.cell (o + q * 13 + 6) (by have := HO.out; omega)
        go_upto_region 17 with fail
        rw [← hz6]
        clear hz6 hfz hbz eu
        obtain ⟨k6, hk6⟩ : ∃ k6 : Nat, k6 = k5 + 1 := ⟨_, rfl⟩
        have hkc6 : (k5 : Int) + 1 = (k6 : Int) := by omega
        have HK6 := uh hk6
        have kb6 : 1 ≤ k6 ∧ k6 ≤ 4000000000000000000 := by have := HCN.out; have := HK0.out; have := HK1.out; have := HK2.out; have := HK3.out; have := HK4.out; have := HK5.out; have := HK6.out; omega
        obtain ⟨kl6, ku6⟩ := kb6
        clear hk6
        go_upto_region 18 with fail
        clear hkc6
        obtain ⟨y7, hz7⟩ : ∃ y, y = y6.setCell ⟨p, o + q * 13 + 7, none⟩ (.int .i64 (k6 : Int)) := ⟨_, rfl⟩
        have P8 : Hid (Pg wr y7 p off 13 u m [.string (mt kq), .int .i64 (k0 : Int), .bool (k1 % 3 == 0), .int .i64 (k2 : Int), .int .i64 (k3 : Int), .int .i64 (k4 : Int), .int .i64 (k5 : Int), .int .i64 (k6 : Int), .int .i64 a8, .int .i64 a9, .int .i64 a10, .int .i64 a11, .int .i64 a12] (· ∈ ([] : List Nat))) := by
          have := P7.out.store 7 (.int .i64 (k6 : Int)) (by omega) hom
          rw [hz7, ← HO.out]; exact this
        have hfz := P7.out.own.frozen
        have hbz := P7.out.own.lt
        obtain ⟨ux, eu⟩ := P7.out.own.cell (o + q * 13 + 7) (by have := HO.out; omega)
        go_upto_region 19 with fail
        rw [← hz7]
        clear hz7 hfz hbz eu
        obtain ⟨k7, hk7⟩ : ∃ k7 : Nat, k7 = k6 + 1 := ⟨_, rfl⟩
        have hkc7 : (k6 : Int) + 1 = (k7 : Int) := by omega
        have HK7 := uh hk7
        have kb7 : 1 ≤ k7 ∧ k7 ≤ 4000000000000000000 := by have := HCN.out; have := HK0.out; have := HK1.out; have := HK2.out; have := HK3.out; have := HK4.out; have := HK5.out; have := HK6.out; have := HK7.out; omega
        obtain ⟨kl7, ku7⟩ := kb7
        clear hk7
        go_upto_region 20 with fail
        clear hkc7
        obtain ⟨y8, hz8⟩ : ∃ y, y = y7.setCell ⟨p, o + q * 13 + 8, none⟩ (.int .i64 (k7 : Int)) := ⟨_, rfl⟩
        have P9 : Hid (Pg wr y8 p off 13 u m [.string (mt kq), .int .i64 (k0 : Int), .bool (k1 % 3 == 0), .int .i64 (k2 : Int), .int .i64 (k3 : Int), .int .i64 (k4 : Int), .int .i64 (k5 : Int), .int .i64 (k6 : Int), .int .i64 (k7 : Int), .int .i64 a9, .int .i64 a10, .int .i64 a11, .int .i64 a12] (· ∈ ([] : List Nat))) := by
          have := P8.out.store 8 (.int .i64 (k7 : Int)) (by omega) hom
          rw [hz8, ← HO.out]; exact this
        have hfz := P8.out.own.frozen
        have hbz := P8.out.own.lt
        obtain ⟨ux, eu⟩ := P8.out.own.cell (o + q * 13 + 8) (by have := HO.out; omega)
        go_upto_region 21 with fail
        rw [← hz8]
        clear hz8 hfz hbz eu
        obtain ⟨k8, hk8⟩ : ∃ k8 : Nat, k8 = k7 + 1 := ⟨_, rfl⟩
        have hkc8 : (k7 : Int) + 1 = (k8 : Int) := by omega
        have HK8 := uh hk8
        have kb8 : 1 ≤ k8 ∧ k8 ≤ 4000000000000000000 := by have := HCN.out; have := HK0.out; have := HK1.out; have := HK2.out; have := HK3.out; have := HK4.out; have := HK5.out; have := HK6.out; have := HK7.out; have := HK8.out; omega
        obtain ⟨kl8, ku8⟩ := kb8
        clear hk8
        go_upto_region 22 with fail
        clear hkc8
        obtain ⟨y9, hz9⟩ : ∃ y, y = y8.setCell ⟨p, o + q * 13 + 9, none⟩ (.int .i64 (k8 : Int)) := ⟨_, rfl⟩
        have P10 : Hid (Pg wr y9 p off 13 u m [.string (mt kq), .int .i64 (k0 : Int), .bool (k1 % 3 == 0), .int .i64 (k2 : Int), .int .i64 (k3 : Int), .int .i64 (k4 : Int), .int .i64 (k5 : Int), .int .i64 (k6 : Int), .int .i64 (k7 : Int), .int .i64 (k8 : Int), .int .i64 a10, .int .i64 a11, .int .i64 a12] (· ∈ ([] : List Nat))) := by
          have := P9.out.store 9 (.int .i64 (k8 : Int)) (by omega) hom
          rw [hz9, ← HO.out]; exact this
        have hfz := P9.out.own.frozen
        have hbz := P9.out.own.lt
        obtain ⟨ux, eu⟩ := P9.out.own.cell (o + q * 13 + 9) (by have := HO.out; omega)
        go_upto_region 23 with fail
        rw [← hz9]
        clear hz9 hfz hbz eu
        obtain ⟨k9, hk9⟩ : ∃ k9 : Nat, k9 = k8 + 1 := ⟨_, rfl⟩
        have hkc9 : (k8 : Int) + 1 = (k9 : Int) := by omega
        have HK9 := uh hk9
        have kb9 : 1 ≤ k9 ∧ k9 ≤ 4000000000000000000 := by have := HCN.out; have := HK0.out; have := HK1.out; have := HK2.out; have := HK3.out; have := HK4.out; have := HK5.out; have := HK6.out; have := HK7.out; have := HK8.out; have := HK9.out; omega
        obtain ⟨kl9, ku9⟩ := kb9
        clear hk9
        go_upto_region 24 with fail
        clear hkc9
        obtain ⟨y10, hz10⟩ : ∃ y, y = y9.setCell ⟨p, o + q * 13 + 10, none⟩ (.int .i64 (k9 : Int)) := ⟨_, rfl⟩
        have P11 : Hid (Pg wr y10 p off 13 u m [.string (mt kq), .int .i64 (k0 : Int), .bool (k1 % 3 == 0), .int .i64 (k2 : Int), .int .i64 (k3 : Int), .int .i64 (k4 : Int), .int .i64 (k5 : Int), .int .i64 (k6 : Int), .int .i64 (k7 : Int), .int .i64 (k8 : Int), .int .i64 (k9 : Int), .int .i64 a11, .int .i64 a12] (· ∈ ([] : List Nat))) := by
          have := P10.out.store 10 (.int .i64 (k9 : Int)) (by omega) hom
          rw [hz10, ← HO.out]; exact this
        have hfz := P10.out.own.frozen
        have hbz := P10.out.own.lt
        obtain ⟨ux, eu⟩ := P10.out.own.cell (o + q * 13 + 10) (by have := HO.out; omega)
        go_upto_region 25 with fail
        rw [← hz10]
        clear hz10 hfz hbz eu
        obtain ⟨k10, hk10⟩ : ∃ k10 : Nat, k10 = k9 + 1 := ⟨_, rfl⟩
        have hkc10 : (k9 : Int) + 1 = (k10 : Int) := by omega
        have HK10 := uh hk10
        have kb10 : 1 ≤ k10 ∧ k10 ≤ 4000000000000000000 := by have := HCN.out; have := HK0.out; have := HK1.out; have := HK2.out; have := HK3.out; have := HK4.out; have := HK5.out; have := HK6.out; have := HK7.out; have := HK8.out; have := HK9.out; have := HK10.out; omega
        obtain ⟨kl10, ku10⟩ := kb10
        clear hk10
        go_upto_region 26 with fail
        clear hkc10
        obtain ⟨y11, hz11⟩ : ∃ y, y = y10.setCell ⟨p, o + q * 13 + 11, none⟩ (.int .i64 (k10 : Int)) := ⟨_, rfl⟩
        have P12 : Hid (Pg wr y11 p off 13 u m [.string (mt kq), .int .i64 (k0 : Int), .bool (k1 % 3 == 0), .int .i64 (k2 : Int), .int .i64 (k3 : Int), .int .i64 (k4 : Int), .int .i64 (k5 : Int), .int .i64 (k6 : Int), .int .i64 (k7 : Int), .int .i64 (k8 : Int), .int .i64 (k9 : Int), .int .i64 (k10 : Int), .int .i64 a12] (· ∈ ([] : List Nat))) := by
          have := P11.out.store 11 (.int .i64 (k10 : Int)) (by omega) hom
          rw [hz11, ← HO.out]; exact this
        have hfz := P11.out.own.frozen
        have hbz := P11.out.own.lt
        obtain ⟨ux, eu⟩ := P11.out.own.cell (o + q * 13 + 11) (by have := HO.out; omega)
        go_upto_region 27 with fail
        rw [← hz11]
        clear hz11 hfz hbz eu
        obtain ⟨k11, hk11⟩ : ∃ k11 : Nat, k11 = k10 + 1 := ⟨_, rfl⟩
        have hkc11 : (k10 : Int) + 1 = (k11 : Int) := by omega
        have HK11 := uh hk11
        have kb11 : 1 ≤ k11 ∧ k11 ≤ 4000000000000000000 := by have := HCN.out; have := HK0.out; have := HK1.out; have := HK2.out; have := HK3.out; have := HK4.out; have := HK5.out; have := HK6.out; have := HK7.out; have := HK8.out; have := HK9.out; have := HK10.out; have := HK11.out; omega
        obtain ⟨kl11, ku11⟩ := kb11
        clear hk11
        go_upto_region 28 with fail
        clear hkc11
        obtain ⟨y12, hz12⟩ : ∃ y, y = y11.setCell ⟨p, o + q * 13 + 12, none⟩ (.int .i64 (k11 : Int)) := ⟨_, rfl⟩
        have P13 : Hid (Pg wr y12 p off 13 u m [.string (mt kq), .int .i64 (k0 : Int), .bool (k1 % 3 == 0), .int .i64 (k2 : Int), .int .i64 (k3 : Int), .int .i64 (k4 : Int), .int .i64 (k5 : Int), .int .i64 (k6 : Int), .int .i64 (k7 : Int), .int .i64 (k8 : Int), .int .i64 (k9 : Int), .int .i64 (k10 : Int), .int .i64 (k11 : Int)] (· ∈ ([] : List Nat))) := by
          have := P12.out.store 12 (.int .i64 (k11 : Int)) (by omega) hom
          rw [hz12, ← HO.out]; exact this
        have hfz := P12.out.own.frozen
        have hbz := P12.out.own.lt
        obtain ⟨ux, eu⟩ := P12.out.own.cell (o + q * 13 + 12) (by have := HO.out; omega)
        go_upto_region 29 with fail
        rw [← hz12]
        clear hz12 hfz hbz eu
        obtain ⟨k12, hk12⟩ : ∃ k12 : Nat, k12 = k11 + 1 := ⟨_, rfl⟩
        have hkc12 : (k11 : Int) + 1 = (k12 : Int) := by omega
        have HK12 := uh hk12
        have kb12 : 1 ≤ k12 ∧ k12 ≤ 4000000000000000000 := by have := HCN.out; have := HK0.out; have := HK1.out; have := HK2.out; have := HK3.out; have := HK4.out; have := HK5.out; have := HK6.out; have := HK7.out; have := HK8.out; have := HK9.out; have := HK10.out; have := HK11.out; have := HK12.out; omega
        obtain ⟨kl12, ku12⟩ := kb12
        clear hk12
        have HF : Hid (Marks (· ∈ p :: G) w y12 ∧ Row y12 shStewService p o n u m G (mkL k (es.take ((q + 1) * 13)) ++ es.drop ((q + 1) * 13)) ∧ k12 = k + cntL (es.take ((q + 1) * 13))) := by
          have hmk : mkL kq [.s a0, .i a1, .b a2, .i a3, .i a4, .i a5, .i a6, .i a7, .i a8, .i a9, .i a10, .i a11, .i a12] = [.s (mt kq), .i (k0 : Int), .b (k1 % 3 == 0), .i (k2 : Int), .i (k3 : Int), .i (k4 : Int), .i (k5 : Int), .i (k6 : Int), .i (k7 : Int), .i (k8 : Int), .i (k9 : Int), .i (k10 : Int), .i (k11 : Int)] := by simp only [mkL, HK0.out, HK1.out, HK2.out, HK3.out, HK4.out, HK5.out, HK6.out, HK7.out, HK8.out, HK9.out, HK10.out, HK11.out]
          have hs : ∀ b, b ∈ ([] : List Nat) → b ∈ ([] : List Nat) := by intro b hb; cases hb
          refine ⟨HM.out.trans (P13.out.mks.mono ?_), ?_, ?_⟩
          · rintro b (rfl | e)
            · simp
            · exact List.mem_cons_of_mem _ (HSU.out b (hs b e))
          · have := HC.out y12 _ _ (by have := P13.out.mono hs; rw [HO.out] at this; exact this) (repStewService_mk _ _ _ _ _ _ _ _ _ _ _ _ _)
            rw [← HH.out, hmk]; exact this
          · have := HNX.out; simp only [cntL] at this; have := HK0.out; have := HK1.out; have := HK2.out; have := HK3.out; have := HK4.out; have := HK5.out; have := HK6.out; have := HK7.out; have := HK8.out; have := HK9.out; have := HK10.out; have := HK11.out; have := HK12.out; omega
        clear HC HH HM
        go_wp2
        go_roundw
        case rel => exact ⟨q + 1, by omega, by go_num, by rw [← HF.out.2.2], HF.out.1, HF.out.2.1⟩
        case measure => simp [intOf]; omega
      · obtain rfl : q = n := by omega
        have el_ : es.length = q * 13 := HT.out.rows
        rw [← el_, List.take_length, List.drop_length, List.append_nil] at HW
        rw [← el_, List.take_length]
        go_wp2
        go_ret
        exact ⟨rfl, HM.out, Rep.of_row HW.out HNC.out⟩
set_option maxRecDepth 8000 in
set_option maxHeartbeats 8000000 in
theorem markStewCopyS (F : List Nat) (n : Nat) (es : List Dt) (v : Value) (k : Nat) (w : World) (h : Rep w false [.row 128 shStewCopy] F [.row n es] [v]) (hnd : F.Nodup) (h1 : 1 ≤ k) (hk : k + cntL es ≤ 4000000000000000000) :
    Calls Try.prog 59 #[v, .int .i64 (k : Int)] w fun e w' => e = .returned (.int .i64 ((k + cntL es : Nat) : Int)) ∧ Marks (· ∈ F) w w' ∧ Rep w' false [.row 128 shStewCopy] F [.row n (mkL k es)] [v] := by
  rcases h.slice with ⟨_, rfl, rfl, rfl, a, rfl⟩ | ⟨p, o, c, u, m, G, rfl, rfl, hn, ho, hm, _, vs, hr, hR⟩
  · go_enter Try.func59, Try.ntmps59
    go_wp2
    refine wp_loop_rounds 1 ?_
    rw [rounds_succ]
    go_wp2
    go_ret
    exact ⟨by simp [cntL], Marks.refl _ _, by rw [mkL]; exact Rep.emp _ _ a rfl .nil⟩
  · have HT : Hid (Typ (reps n shStewCopy) es) := hR.raw.typ
    have HR : Hid (Row w shStewCopy p o n u m G es) := ⟨ho, hm, vs, hr, hR⟩
    have HND : Hid ((p :: G).Nodup) := hnd
    have hn1 : n ≤ 9223372036854775807 := hn.1
    have HNC := uh hn
    have hmm : o + n * 7 ≤ m := hm
    clear hr hR ho hm hnd h hn vs
    go_enter Try.func59, Try.ntmps59
    go_wp2
    go_loopw [1, 5] (fun kk i wr => ∃ q : Nat, q ≤ n ∧ i = .int .i64 (q : Int) ∧ kk = .int .i64 ((k + cntL (es.take (q * 7)) : Nat) : Int) ∧ Marks (· ∈ p :: G) w wr ∧ Row wr shStewCopy p o n u m G (mkL k (es.take (q * 7)) ++ es.drop (q * 7))) (fun _ i _ => n - (intOf i).toNat)
    case atStart => exact ⟨0, Nat.zero_le _, rfl, by simp [cntL], Marks.refl _ _, by simpa [mkL] using HR.out⟩
    case round =>
      obtain ⟨q, hq, rfl, rfl, hM, hRow⟩ := hrel
      have HM := uh hM
      have HW := uh hRow
      clear hM hRow
      by_cases hlt : q < n
      · obtain ⟨Ge, ve, hE, hrng, hpG, hndE, hsub, hclose⟩ := HW.out.open HND.out q hlt
        obtain ⟨d, hd⟩ : ∃ d, d = el 7 q es := ⟨_, rfl⟩
        have hte : Typ shStewCopy d := by rw [hd]; exact HT.out.el hlt
        have hE2 : Rep wr false shStewCopy Ge d ve := by
          have ee : el 7 q (mkL k (es.take (q * 7)) ++ es.drop (q * 7)) = el 7 q es := half_el (sh := shStewCopy) HT.out hlt
          have hh : Rep wr false shStewCopy Ge (el 7 q (mkL k (es.take (q * 7)) ++ es.drop (q * 7))) ve := hE
          rw [ee, ← hd] at hh; exact hh
        have hcn : k + cntL (es.take (q * 7)) + cntL d ≤ 4000000000000000000 := by rw [hd]; have := @cnt_el q 7 es; omega
        have hnx : cntL (es.take ((q + 1) * 7)) = cntL (es.take (q * 7)) + cntL d := by rw [hd]; exact cnt_next (sh := shStewCopy) HT.out hlt
        have hhn : (mkL k (es.take (q * 7)) ++ es.drop (q * 7)).take (q * 7) ++ (mkL (k + cntL (es.take (q * 7))) d ++ (mkL k (es.take (q * 7)) ++ es.drop (q * 7)).drop (q * 7 + 7)) = mkL k (es.take ((q + 1) * 7)) ++ es.drop ((q + 1) * 7) := by rw [hd]; exact half_next (sh := shStewCopy) HT.out hlt
        clear hE hd
        obtain ⟨kq, hkq⟩ : ∃ kq : Nat, kq = k + cntL (es.take (q * 7)) := ⟨_, rfl⟩
        rw [← hkq] at hcn hhn ⊢
        have HNX : Hid (k + cntL (es.take ((q + 1) * 7)) = kq + cntL d) := by show _ = _; omega
        obtain ⟨a0, a1, a2, a3, a4, a5, a6, rfl⟩ := typStewCopy hte
        obtain ⟨rfl, rfl⟩ := repStewCopy hE2
        have hkq1 : 1 ≤ kq := by omega
        have hkq2 : kq ≤ 4000000000000000000 := by omega
        simp only [cntL] at hcn
        have HCN := uh hcn
        clear hcn
        clear hE2 hte hkq hnx
        obtain ⟨off, hoff⟩ : ∃ off, off = o + q * 7 := ⟨_, rfl⟩
        have hom : off + 7 ≤ m := by have : q * 7 + 7 ≤ n * 7 := (by omega); omega
        have P0 : Hid (Pg wr wr p off 7 u m [.string a0, .int .i64 a1, .int .i64 a2, .int .i64 a3, .int .i64 a4, .bool a5, .string a6] (· ∈ ([] : List Nat))) := Pg.refl _ HW.out.own (by rw [hoff]; exact hrng)
        have HC := uh hclose
        have HH := uh hhn
        have HO : Hid (off = o + q * 7) := hoff
        have HPG := uh hpG; have HNE := uh hndE
        have HSU := uh hsub
        clear hclose hhn hrng hpG hndE hsub HW
        have hm0 : (0 : Int) ≤ (q : Int) := by omega
        have hm3 : (q : Int) < (n : Int) := by omega
        go_wp2_with fail
        refine (markText kq wr (by omega) (by omega)).mono ?_
        rintro e x0 ⟨rfl, hb0⟩
        have Q1 := uh (P0.out.later hb0)
        clear hb0
        obtain ⟨y0, hz0⟩ : ∃ y, y = x0.setCell ⟨p, o + q * 7, none⟩ (.string (mt kq)) := ⟨_, rfl⟩
        have P1 : Hid (Pg wr y0 p off 7 u m [.string (mt kq), .int .i64 a1, .int .i64 a2, .int .i64 a3, .int .i64 a4, .bool a5, .string a6] (· ∈ ([] : List Nat))) := by
          have := Q1.out.store 0 (.string (mt kq)) (by omega) hom
          rw [hz0, ← HO.out]; exact this
        have hfz := Q1.out.own.frozen
        have hbz := Q1.out.own.lt
        obtain ⟨ux, eu⟩ := Q1.out.own.cell (o + q * 7) (by have := HO.out; omega)
        go_upto_region 5 with fail
        rw [← hz0]
        clear hz0 hfz hbz eu
        obtain ⟨k0, hk0⟩ : ∃ k0 : Nat, k0 = kq + 1 := ⟨_, rfl⟩
        have hkc0 : (kq : Int) + 1 = (k0 : Int) := by omega
        have HK0 := uh hk0
        have kb0 : 1 ≤ k0 ∧ k0 ≤ 4000000000000000000 := by have := HCN.out; have := HK0.out; omega
        obtain ⟨kl0, ku0⟩ := kb0
        clear hk0
        go_upto_region 6 with fail
        clear hkc0
        obtain ⟨y1, hz1⟩ : ∃ y, y = y0.setCell ⟨p, o + q * 7 + 1, none⟩ (.int .i64 (k0 : Int)) := ⟨_, rfl⟩
        have P2 : Hid (Pg wr y1 p off 7 u m [.string (mt kq), .int .i64 (k0 : Int), .int .i64 a2, .int .i64 a3, .int .i64 a4, .bool a5, .string a6] (· ∈ ([] : List Nat))) := by
          have := P1.out.store 1 (.int .i64 (k0 : Int)) (by omega) hom
          rw [hz1, ← HO.out]; exact this
        have hfz := P1.out.own.frozen
        have hbz := P1.out.own.lt
        obtain ⟨ux, eu⟩ := P1.out.own.cell (o + q * 7 + 1) (by have := HO.out; omega)
        go_upto_region 7 with fail
        rw [← hz1]
        clear hz1 hfz hbz eu
        obtain ⟨k1, hk1⟩ : ∃ k1 : Nat, k1 = k0 + 1 := ⟨_, rfl⟩
        have hkc1 : (k0 : Int) + 1 = (k1 : Int) := by omega
        have HK1 := uh hk1
        have kb1 : 1 ≤ k1 ∧ k1 ≤ 4000000000000000000 := by have := HCN.out; have := HK0.out; have := HK1.out; omega
        obtain ⟨kl1, ku1⟩ := kb1
        clear hk1
        go_upto_region 8 with fail
        clear hkc1
        obtain ⟨y2, hz2⟩ : ∃ y, y = y1.setCell ⟨p, o + q * 7 + 2, none⟩ (.int .i64 (k1 : Int)) := ⟨_, rfl⟩
        have P3 : Hid (Pg wr y2 p off 7 u m [.string (mt kq), .int .i64 (k0 : Int), .int .i64 (k1 : Int), .int .i64 a3, .int .i64 a4, .bool a5, .string a6] (· ∈ ([] : List Nat))) := by
          have := P2.out.store 2 (.int .i64 (k1 : Int)) (by omega) hom
          rw [hz2, ← HO.out]; exact this
        have hfz := P2.out.own.frozen
        have hbz := P2.out.own.lt
        obtain ⟨ux, eu⟩ := P2.out.own.cell (o + q * 7 + 2) (by have := HO.out; omega)
        go_upto_region 9 with fail
        rw [← hz2]
        clear hz2 hfz hbz eu
        obtain ⟨k2, hk2⟩ : ∃ k2 : Nat, k2 = k1 + 1 := ⟨_, rfl⟩
        have hkc2 : (k1 : Int) + 1 = (k2 : Int) := by omega
        have HK2 := uh hk2
        have kb2 : 1 ≤ k2 ∧ k2 ≤ 4000000000000000000 := by have := HCN.out; have := HK0.out; have := HK1.out; have := HK2.out; omega
        obtain ⟨kl2, ku2⟩ := kb2
        clear hk2
        go_upto_region 10 with fail
        clear hkc2
        obtain ⟨y3, hz3⟩ : ∃ y, y = y2.setCell ⟨p, o + q * 7 + 3, none⟩ (.int .i64 (k2 : Int)) := ⟨_, rfl⟩
        have P4 : Hid (Pg wr y3 p off 7 u m [.string (mt kq), .int .i64 (k0 : Int), .int .i64 (k1 : Int), .int .i64 (k2 : Int), .int .i64 a4, .bool a5, .string a6] (· ∈ ([] : List Nat))) := by
          have := P3.out.store 3 (.int .i64 (k2 : Int)) (by omega) hom
          rw [hz3, ← HO.out]; exact this
        have hfz := P3.out.own.frozen
        have hbz := P3.out.own.lt
        obtain ⟨ux, eu⟩ := P3.out.own.cell (o + q * 7 + 3) (by have := HO.out; omega)
        go_upto_region 11 with fail
        rw [← hz3]
        clear hz3 hfz hbz eu
        obtain ⟨k3, hk3⟩ : ∃ k3 : Nat, k3 = k2 + 1 := ⟨_, rfl⟩
        have hkc3 : (k2 : Int) + 1 = (k3 : Int) := by omega
        have HK3 := uh hk3
        have kb3 : 1 ≤ k3 ∧ k3 ≤ 4000000000000000000 := by have := HCN.out; have := HK0.out; have := HK1.out; have := HK2.out; have := HK3.out; omega
        obtain ⟨kl3, ku3⟩ := kb3
        clear hk3
        go_upto_region 12 with fail
        clear hkc3
        obtain ⟨y4, hz4⟩ : ∃ y, y = y3.setCell ⟨p, o + q * 7 + 4, none⟩ (.int .i64 (k3 : Int)) := ⟨_, rfl⟩
        have P5 : Hid (Pg wr y4 p off 7 u m [.string (mt kq), .int .i64 (k0 : Int), .int .i64 (k1 : Int), .int .i64 (k2 : Int), .int .i64 (k3 : Int), .bool a5, .string a6] (· ∈ ([] : List Nat))) := by
          have := P4.out.store 4 (.int .i64 (k3 : Int)) (by omega) hom
          rw [hz4, ← HO.out]; exact this
        have hfz := P4.out.own.frozen
        have hbz := P4.out.own.lt
        obtain ⟨ux, eu⟩ := P4.out.own.cell (o + q * 7 + 4) (by have := HO.out; omega)
        go_upto_region 13 with fail
        rw [← hz4]
        clear hz4 hfz hbz eu
        obtain ⟨k4, hk4⟩ : ∃ k4 : Nat, k4 = k3 + 1 := ⟨_, rfl⟩
        have hkc4 : (k3 : Int) + 1 = (k4 : Int) := by omega
        have HK4 := uh hk4
        have kb4 : 1 ≤ k4 ∧ k4 ≤ 4000000000000000000 := by have := HCN.out; have := HK0.out; have := HK1.out; have := HK2.out; have := HK3.out; have := HK4.out; omega
        obtain ⟨kl4, ku4⟩ := kb4
        clear hk4
        go_upto_region 14 with fail
        clear hkc4
        have hrm := bmod k4
        obtain ⟨y5, hz5⟩ : ∃ y, y = y4.setCell ⟨p, o + q * 7 + 5, none⟩ (.bool (k4 % 3 == 0)) := ⟨_, rfl⟩
        have P6 : Hid (Pg wr y5 p off 7 u m [.string (mt kq), .int .i64 (k0 : Int), .int .i64 (k1 : Int), .int .i64 (k2 : Int), .int .i64 (k3 : Int), .bool (k4 % 3 == 0), .string a6] (· ∈ ([] : List Nat))) := by
          have := P5.out.store 5 (.bool (k4 % 3 == 0)) (by omega) hom
          rw [hz5, ← HO.out]; exact this
        have hfz := P5.out.own.frozen
        have hbz := P5.out.own.lt
        obtain ⟨ux, eu⟩ := P5.out.own.cell (o + q * 7 + 5) (by have := HO.out; omega)
        go_upto_region 15 with fail
        rw [← hz5]
        clear hz5 hfz hbz eu hrm
        obtain ⟨k5, hk5⟩ : ∃ k5 : Nat, k5 = k4 + 1 := ⟨_, rfl⟩
        have hkc5 : (k4 : Int) + 1 = (k5 : Int) := by omega
        have HK5 := uh hk5
        have kb5 : 1 ≤ k5 ∧ k5 ≤ 4000000000000000000 := by have := HCN.out; have := HK0.out; have := HK1.out; have := HK2.out; have := HK3.out; have := HK4.out; have := HK5.out; omega
        obtain ⟨kl5, ku5⟩ := kb5
        clear hk5
        go_upto_region 16 with fail
        clear hkc5
        go_wp2_with fail
        refine (markText k5 y5 (by omega) (by omega)).mono ?_
        rintro e x6 ⟨rfl, hb6⟩
        have Q7 := uh (P6.out.later hb6)
        clear hb6
        obtain ⟨y6, hz6⟩ : ∃ y, y = x6.setCell ⟨p, o + q * 7 + 6, none⟩ (.string (mt k5)) := ⟨_, rfl⟩
        have P7 : Hid (Pg wr y6 p off 7 u m [.string (mt kq), .int .i64 (k0 : Int), .int .i64 (k1 : Int), .int .i64 (k2 : Int), .int .i64 (k3 : Int), .bool (k4 % 3 == 0), .string (mt k5)] (· ∈ ([] : List Nat))) := by
          have := Q7.out.store 6 (.string (mt k5)) (by omega) hom
          rw [hz6, ← HO.out]; exact this
        have hfz := Q7.out.own.frozen
        have hbz := Q7.out.own.lt
        obtain ⟨ux, eu⟩ := Q7.out.own.cell (o + q * 7 + 6) (by have := HO.out; omega)
        go_upto_region 17 with fail
        rw [← hz6]
        clear hz6 hfz hbz eu
        obtain ⟨k6, hk6⟩ : ∃ k6 : Nat, k6 = k5 + 1 := ⟨_, rfl⟩
        have hkc6 : (k5 : Int) + 1 = (k6 : Int) := by omega
        have HK6 := uh hk6
        have kb6 : 1 ≤ k6 ∧ k6 ≤ 4000000000000000000 := by have := HCN.out; have := HK0.out; have := HK1.out; have := HK2.out; have := HK3.out; have := HK4.out; have := HK5.out; have := HK6.out; omega
        obtain ⟨kl6, ku6⟩ := kb6
        clear hk6
        have HF : Hid (Marks (· ∈ p :: G) w y6 ∧ Row y6 shStewCopy p o n u m G (mkL k (es.take ((q + 1) * 7)) ++ es.drop ((q + 1) * 7)) ∧ k6 = k + cntL (es.take ((q + 1) * 7))) := by
          have hmk : mkL kq [.s a0, .i a1, .i a2, .i a3, .i a4, .b a5, .s a6] = [.s (mt kq), .i (k0 : Int), .i (k1 : Int), .i (k2 : Int), .i (k3 : Int), .b (k4 % 3 == 0), .s (mt k5)] := by simp only [mkL, HK0.out, HK1.out, HK2.out, HK3.out, HK4.out, HK5.out]
          have hs : ∀ b, b ∈ ([] : List Nat) → b ∈ ([] : List Nat) := by intro b hb; cases hb
          refine ⟨HM.out.trans (P7.out.mks.mono ?_), ?_, ?_⟩
          · rintro b (rfl | e)
            · simp
            · exact List.mem_cons_of_mem _ (HSU.out b (hs b e))
          · have := HC.out y6 _ _ (by have := P7.out.mono hs; rw [HO.out] at this; exact this) (repStewCopy_mk _ _ _ _ _ _ _)
            rw [← HH.out, hmk]; exact this
          · have := HNX.out; simp only [cntL] at this; have := HK0.out; have := HK1.out; have := HK2.out; have := HK3.out; have := HK4.out; have := HK5.out; have := HK6.out; omega
        clear HC HH HM
        go_wp2
        go_roundw
        case rel => exact ⟨q + 1, by omega, by go_num, by rw [← HF.out.2.2], HF.out.1, HF.out.2.1⟩
        case measure => simp [intOf]; omega
      · obtain rfl : q = n := by omega
        have el_ : es.length = q * 7 := HT.out.rows
        rw [← el_, List.take_length, List.drop_length, List.append_nil] at HW
        rw [← el_, List.take_length]
        go_wp2
        go_ret
        exact ⟨rfl, HM.out, Rep.of_row HW.out HNC.out⟩
set_option maxRecDepth 8000 in
set_option maxHeartbeats 8000000 in
theorem markStewBerthS (F : List Nat) (n : Nat) (es : List Dt) (v : Value) (k : Nat) (w : World) (h : Rep w false [.row 131 shStewBerth] F [.row n es] [v]) (hnd : F.Nodup) (h1 : 1 ≤ k) (hk : k + cntL es ≤ 4000000000000000000) :
    Calls Try.prog 60 #[v, .int .i64 (k : Int)] w fun e w' => e = .returned (.int .i64 ((k + cntL es : Nat) : Int)) ∧ Marks (· ∈ F) w w' ∧ Rep w' false [.row 131 shStewBerth] F [.row n (mkL k es)] [v] := by
  rcases h.slice with ⟨_, rfl, rfl, rfl, a, rfl⟩ | ⟨p, o, c, u, m, G, rfl, rfl, hn, ho, hm, _, vs, hr, hR⟩
  · go_enter Try.func60, Try.ntmps60
    go_wp2
    refine wp_loop_rounds 1 ?_
    rw [rounds_succ]
    go_wp2
    go_ret
    exact ⟨by simp [cntL], Marks.refl _ _, by rw [mkL]; exact Rep.emp _ _ a rfl .nil⟩
  · have HT : Hid (Typ (reps n shStewBerth) es) := hR.raw.typ
    have HR : Hid (Row w shStewBerth p o n u m G es) := ⟨ho, hm, vs, hr, hR⟩
    have HND : Hid ((p :: G).Nodup) := hnd
    have hn1 : n ≤ 9223372036854775807 := hn.1
    have HNC := uh hn
    have hmm : o + n * 2 ≤ m := hm
    clear hr hR ho hm hnd h hn vs
    go_enter Try.func60, Try.ntmps60
    go_wp2
    go_loopw [1, 5] (fun kk i wr => ∃ q : Nat, q ≤ n ∧ i = .int .i64 (q : Int) ∧ kk = .int .i64 ((k + cntL (es.take (q * 2)) : Nat) : Int) ∧ Marks (· ∈ p :: G) w wr ∧ Row wr shStewBerth p o n u m G (mkL k (es.take (q * 2)) ++ es.drop (q * 2))) (fun _ i _ => n - (intOf i).toNat)
    case atStart => exact ⟨0, Nat.zero_le _, rfl, by simp [cntL], Marks.refl _ _, by simpa [mkL] using HR.out⟩
    case round =>
      obtain ⟨q, hq, rfl, rfl, hM, hRow⟩ := hrel
      have HM := uh hM
      have HW := uh hRow
      clear hM hRow
      by_cases hlt : q < n
      · obtain ⟨Ge, ve, hE, hrng, hpG, hndE, hsub, hclose⟩ := HW.out.open HND.out q hlt
        obtain ⟨d, hd⟩ : ∃ d, d = el 2 q es := ⟨_, rfl⟩
        have hte : Typ shStewBerth d := by rw [hd]; exact HT.out.el hlt
        have hE2 : Rep wr false shStewBerth Ge d ve := by
          have ee : el 2 q (mkL k (es.take (q * 2)) ++ es.drop (q * 2)) = el 2 q es := half_el (sh := shStewBerth) HT.out hlt
          have hh : Rep wr false shStewBerth Ge (el 2 q (mkL k (es.take (q * 2)) ++ es.drop (q * 2))) ve := hE
          rw [ee, ← hd] at hh; exact hh
        have hcn : k + cntL (es.take (q * 2)) + cntL d ≤ 4000000000000000000 := by rw [hd]; have := @cnt_el q 2 es; omega
        have hnx : cntL (es.take ((q + 1) * 2)) = cntL (es.take (q * 2)) + cntL d := by rw [hd]; exact cnt_next (sh := shStewBerth) HT.out hlt
        have hhn : (mkL k (es.take (q * 2)) ++ es.drop (q * 2)).take (q * 2) ++ (mkL (k + cntL (es.take (q * 2))) d ++ (mkL k (es.take (q * 2)) ++ es.drop (q * 2)).drop (q * 2 + 2)) = mkL k (es.take ((q + 1) * 2)) ++ es.drop ((q + 1) * 2) := by rw [hd]; exact half_next (sh := shStewBerth) HT.out hlt
        clear hE hd
        obtain ⟨kq, hkq⟩ : ∃ kq : Nat, kq = k + cntL (es.take (q * 2)) := ⟨_, rfl⟩
        rw [← hkq] at hcn hhn ⊢
        have HNX : Hid (k + cntL (es.take ((q + 1) * 2)) = kq + cntL d) := by show _ = _; omega
        obtain ⟨a0, a1, rfl⟩ := typStewBerth hte
        obtain ⟨rfl, rfl⟩ := repStewBerth hE2
        have hkq1 : 1 ≤ kq := by omega
        have hkq2 : kq ≤ 4000000000000000000 := by omega
        simp only [cntL] at hcn
        have HCN := uh hcn
        clear hcn
        clear hE2 hte hkq hnx
        obtain ⟨off, hoff⟩ : ∃ off, off = o + q * 2 := ⟨_, rfl⟩
        have hom : off + 2 ≤ m := by have : q * 2 + 2 ≤ n * 2 := (by omega); omega
        have P0 : Hid (Pg wr wr p off 2 u m [.string a0, .bool a1] (· ∈ ([] : List Nat))) := Pg.refl _ HW.out.own (by rw [hoff]; exact hrng)
        have HC := uh hclose
        have HH := uh hhn
        have HO : Hid (off = o + q * 2) := hoff
        have HPG := uh hpG; have HNE := uh hndE
        have HSU := uh hsub
        clear hclose hhn hrng hpG hndE hsub HW
        have hm0 : (0 : Int) ≤ (q : Int) := by omega
        have hm3 : (q : Int) < (n : Int) := by omega
        go_wp2_with fail
        refine (markText kq wr (by omega) (by omega)).mono ?_
        rintro e x0 ⟨rfl, hb0⟩
        have Q1 := uh (P0.out.later hb0)
        clear hb0
        obtain ⟨y0, hz0⟩ : ∃ y, y = x0.setCell ⟨p, o + q * 2, none⟩ (.string (mt kq)) := ⟨_, rfl⟩
        have P1 : Hid (Pg wr y0 p off 2 u m [.string (mt kq), .bool a1] (· ∈ ([] : List Nat))) := by
          have := Q1.out.store 0 (.string (mt kq)) (by omega) hom
          rw [hz0, ← HO.out]; exact this
        have hfz := Q1.out.own.frozen
        have hbz := Q1.out.own.lt
        obtain ⟨ux, eu⟩ := Q1.out.own.cell (o + q * 2) (by have := HO.out; omega)
        go_upto_region 5 with fail
        rw [← hz0]
        clear hz0 hfz hbz eu
        obtain ⟨k0, hk0⟩ : ∃ k0 : Nat, k0 = kq + 1 := ⟨_, rfl⟩
        have hkc0 : (kq : Int) + 1 = (k0 : Int) := by omega
        have HK0 := uh hk0
        have kb0 : 1 ≤ k0 ∧ k0 ≤ 4000000000000000000 := by have := HCN.out; have := HK0.out; omega
        obtain ⟨kl0, ku0⟩ := kb0
        clear hk0
        go_upto_region 6 with fail
        clear hkc0
        have hrm := bmod k0
        obtain ⟨y1, hz1⟩ : ∃ y, y = y0.setCell ⟨p, o + q * 2 + 1, none⟩ (.bool (k0 % 3 == 0)) := ⟨_, rfl⟩
        have P2 : Hid (Pg wr y1 p off 2 u m [.string (mt kq), .bool (k0 % 3 == 0)] (· ∈ ([] : List Nat))) := by
          have := P1.out.store 1 (.bool (k0 % 3 == 0)) (by omega) hom
          rw [hz1, ← HO.out]; exact this
        have hfz := P1.out.own.frozen
        have hbz := P1.out.own.lt
        obtain ⟨ux, eu⟩ := P1.out.own.cell (o + q * 2 + 1) (by have := HO.out; omega)
        go_upto_region 7 with fail
        rw [← hz1]
        clear hz1 hfz hbz eu hrm
        obtain ⟨k1, hk1⟩ : ∃ k1 : Nat, k1 = k0 + 1 := ⟨_, rfl⟩
        have hkc1 : (k0 : Int) + 1 = (k1 : Int) := by omega
        have HK1 := uh hk1
        have kb1 : 1 ≤ k1 ∧ k1 ≤ 4000000000000000000 := by have := HCN.out; have := HK0.out; have := HK1.out; omega
        obtain ⟨kl1, ku1⟩ := kb1
        clear hk1
        have HF : Hid (Marks (· ∈ p :: G) w y1 ∧ Row y1 shStewBerth p o n u m G (mkL k (es.take ((q + 1) * 2)) ++ es.drop ((q + 1) * 2)) ∧ k1 = k + cntL (es.take ((q + 1) * 2))) := by
          have hmk : mkL kq [.s a0, .b a1] = [.s (mt kq), .b (k0 % 3 == 0)] := by simp only [mkL, HK0.out]
          have hs : ∀ b, b ∈ ([] : List Nat) → b ∈ ([] : List Nat) := by intro b hb; cases hb
          refine ⟨HM.out.trans (P2.out.mks.mono ?_), ?_, ?_⟩
          · rintro b (rfl | e)
            · simp
            · exact List.mem_cons_of_mem _ (HSU.out b (hs b e))
          · have := HC.out y1 _ _ (by have := P2.out.mono hs; rw [HO.out] at this; exact this) (repStewBerth_mk _ _)
            rw [← HH.out, hmk]; exact this
          · have := HNX.out; simp only [cntL] at this; have := HK0.out; have := HK1.out; omega
        clear HC HH HM
        go_wp2
        go_roundw
        case rel => exact ⟨q + 1, by omega, by go_num, by rw [← HF.out.2.2], HF.out.1, HF.out.2.1⟩
        case measure => simp [intOf]; omega
      · obtain rfl : q = n := by omega
        have el_ : es.length = q * 2 := HT.out.rows
        rw [← el_, List.take_length, List.drop_length, List.append_nil] at HW
        rw [← el_, List.take_length]
        go_wp2
        go_ret
        exact ⟨rfl, HM.out, Rep.of_row HW.out HNC.out⟩
set_option maxRecDepth 8000 in
set_option maxHeartbeats 8000000 in
theorem markStewBook (F : List Nat) (ds : List Dt) (cs : List Value) (k : Nat) (w : World) (h : Rep w false shStewBook F ds cs) (hnd : F.Nodup) (h1 : 1 ≤ k) (hk : k + cntT ds ≤ 4000000000000000000) :
    Calls Try.prog 29 #[.agg cs.toArray, .int .i64 (k : Int)] w fun e w' => e = .returned (.int .i64 ((k + cntT ds : Nat) : Int)) ∧ Marks (· ∈ F) w w' ∧ Rep w' false shStewBook F (mkT k ds) cs := by
  obtain ⟨a0, F1, n1, e1, v1, F2, n2, e2, v2, F3, n3, e3, v3, rfl, rfl, hcs, r1, r2, r3⟩ := segRepStewBook h
  have HCS := uh hcs
  simp only [cntT] at hk ⊢
  obtain ⟨nd1, ndr1, dj1⟩ := nd_app hnd
  have ND1 := uh nd1
  have DJ1 := uh dj1
  have LT1 := uh r1.lt
  obtain ⟨nd2, ndr2, dj2⟩ := nd_app ndr1
  have ND2 := uh nd2
  have DJ2 := uh dj2
  have LT2 := uh r2.lt
  obtain ⟨nd3, ndr3, dj3⟩ := nd_app ndr2
  have ND3 := uh nd3
  have DJ3 := uh dj3
  have LT3 := uh r3.lt
  clear hnd nd1 ndr1 dj1 nd2 ndr2 dj2 nd3 ndr3 dj3
  obtain ⟨wa, hwa⟩ : ∃ wa, wa = w.alloc (.cells cs.toArray 37) := ⟨_, rfl⟩
  have HB : Hid (Below w.heap.size w wa) := by show Below _ _ _; rw [hwa]; exact blw_alloc (Below.refl _ _) _
  have HX : Hid (LBox wa w.heap.size cs) := by show LBox _ _ _; rw [hwa]; exact LBox.new w cs.toArray _ _ rfl
  have R1 := uh (r1.later HB.out)
  have R2 := uh (r2.later HB.out)
  have R3 := uh (r3.later HB.out)
  have HM := uh (Marks.of_below (· ∈ ([] : List Nat)) HB.out)
  have HKK := uh hk
  clear hcs hk h r1 r2 r3
  go_enter Try.func29, Try.ntmps29
  go_upto_region 1 with fail
  rw [← hwa]
  clear hwa
  have hbz := HX.out.lt
  have hbx := boxStewBook  (by have := HX.out.at_; rw [HCS.out] at this; exact this)
  have gc := hbx.2.1
  clear hbx
  obtain ⟨k1, hk1⟩ : ∃ k1 : Nat, k1 = k + cntL e1 := ⟨_, rfl⟩
  have HK1 := uh hk1
  have kb1 : 1 ≤ k1 ∧ k1 ≤ 4000000000000000000 := by have := HKK.out; have := HK1.out; omega
  obtain ⟨kl1, ku1⟩ := kb1
  clear hk1
  obtain ⟨va1, vc1, hva⟩ := R1.out.raw.len0
  subst hva
  go_wp2_with fail
  refine (markStewServiceS F1 n1 e1 (.slice va1 n1 vc1) k wa R1.out ND1.out (by omega) (by have := HK1.out; omega)).mono ?_
  rintro e x1 ⟨he, hb1, rr1⟩
  rw [← HK1.out] at he
  subst he
  replace HX := uh (HX.out.mks hb1 (fun e => Nat.lt_irrefl _ (LT1.out _ e)))
  replace HM := uh ((HM.out.mono (fun b (e : b ∈ ([] : List Nat)) => List.mem_append_left F1 e)).trans (hb1.mono (fun b (e : b ∈ F1) => List.mem_append_right ([] : List Nat) e)))
  replace R2 := uh (R2.out.keep hb1 (fun b hb e => DJ1.out b e (by simp [hb])))
  replace R3 := uh (R3.out.keep hb1 (fun b hb e => DJ1.out b e (by simp [hb])))
  replace R1 := uh rr1
  clear gc hbz hb1 rr1
  have hbz := HX.out.lt
  have hbx := boxStewBook  (by have := HX.out.at_; rw [HCS.out] at this; exact this)
  have gc := hbx.2.2.1
  clear hbx
  obtain ⟨k2, hk2⟩ : ∃ k2 : Nat, k2 = k1 + cntL e2 := ⟨_, rfl⟩
  have HK2 := uh hk2
  have kb2 : 1 ≤ k2 ∧ k2 ≤ 4000000000000000000 := by have := HKK.out; have := HK1.out; have := HK2.out; omega
  obtain ⟨kl2, ku2⟩ := kb2
  clear hk2
  obtain ⟨va2, vc2, hva⟩ := R2.out.raw.len0
  subst hva
  go_wp2_with fail
  refine (markStewCopyS F2 n2 e2 (.slice va2 n2 vc2) k1 x1 R2.out ND2.out (by omega) (by have := HK2.out; omega)).mono ?_
  rintro e x2 ⟨he, hb2, rr2⟩
  rw [← HK2.out] at he
  subst he
  replace HX := uh (HX.out.mks hb2 (fun e => Nat.lt_irrefl _ (LT2.out _ e)))
  replace HM := uh ((HM.out.mono (fun b (e : b ∈ (([] : List Nat) ++ F1)) => List.mem_append_left F2 e)).trans (hb2.mono (fun b (e : b ∈ F2) => List.mem_append_right (([] : List Nat) ++ F1) e)))
  replace R1 := uh (R1.out.keep hb2 (fun b hb e => DJ1.out b hb (by simp [e])))
  replace R3 := uh (R3.out.keep hb2 (fun b hb e => DJ2.out b e (by simp [hb])))
  replace R2 := uh rr2
  clear gc hbz hb2 rr2
  have hbz := HX.out.lt
  have hbx := boxStewBook  (by have := HX.out.at_; rw [HCS.out] at this; exact this)
  have gc := hbx.2.2.2
  clear hbx
  obtain ⟨k3, hk3⟩ : ∃ k3 : Nat, k3 = k2 + cntL e3 := ⟨_, rfl⟩
  have HK3 := uh hk3
  have kb3 : 1 ≤ k3 ∧ k3 ≤ 4000000000000000000 := by have := HKK.out; have := HK1.out; have := HK2.out; have := HK3.out; omega
  obtain ⟨kl3, ku3⟩ := kb3
  clear hk3
  obtain ⟨va3, vc3, hva⟩ := R3.out.raw.len0
  subst hva
  go_wp2_with fail
  refine (markStewBerthS F3 n3 e3 (.slice va3 n3 vc3) k2 x2 R3.out ND3.out (by omega) (by have := HK3.out; omega)).mono ?_
  rintro e x3 ⟨he, hb3, rr3⟩
  rw [← HK3.out] at he
  subst he
  replace HX := uh (HX.out.mks hb3 (fun e => Nat.lt_irrefl _ (LT3.out _ e)))
  replace HM := uh ((HM.out.mono (fun b (e : b ∈ ((([] : List Nat) ++ F1) ++ F2)) => List.mem_append_left F3 e)).trans (hb3.mono (fun b (e : b ∈ F3) => List.mem_append_right ((([] : List Nat) ++ F1) ++ F2) e)))
  replace R1 := uh (R1.out.keep hb3 (fun b hb e => DJ1.out b hb (by simp [e])))
  replace R2 := uh (R2.out.keep hb3 (fun b hb e => DJ2.out b hb (by simp [e])))
  replace R3 := uh rr3
  clear gc hbz hb3 rr3
  go_wp2
  go_ret
  refine ⟨Pl.ret_int (by have := HKK.out; have := HK1.out; have := HK2.out; have := HK3.out; omega), HM.out.mono (fun b (e : b ∈ (((([] : List Nat) ++ F1) ++ F2) ++ F3)) => by simpa [or_assoc] using e), ?_⟩
  have := segRepStewBook_mk a0 R1.out R2.out R3.out
  rw [← HCS.out] at this
  simp only [mkT]
  simpa only [HK1.out, HK2.out, HK3.out, Nat.add_zero] using this
end Go.Proofs.Ytkehaeppnmlafaa
