/-
  Marks of books of the gate.
-/
import Derived.Test.YtkehaeppnmlafaaBSh
import Derived.Test.YtkehaeppnmlafaaHMk
import Derived.Test.YtkehaeppnmlafaaUBm
namespace Go.Proofs.Ytkehaeppnmlafaa
open Go.RowKit Go.Deep

set_option maxRecDepth 8000 in
set_option maxHeartbeats 8000000 in
theorem markStringS (F : List Nat) (n : Nat) (es : List Dt) (v : Value) (k : Nat) (w : World) (h : Rep w false [.row 9 [.s]] F [.row n es] [v]) (hnd : F.Nodup) (h1 : 1 ≤ k) (hk : k + cntL es ≤ 4000000000000000000) :
    Calls Try.prog 85 #[v, .int .i64 (k : Int)] w fun e w' => e = .returned (.int .i64 ((k + cntL es : Nat) : Int)) ∧ Marks (· ∈ F) w w' ∧ Rep w' false [.row 9 [.s]] F [.row n (mkL k es)] [v] := by
  rcases h.slice with ⟨_, rfl, rfl, rfl, a, rfl⟩ | ⟨p, o, c, u, m, G, rfl, rfl, hn, ho, hm, _, vs, hr, hR⟩
  · go_enter Try.func85, Try.ntmps85
    go_wp2
    refine wp_loop_rounds 1 ?_
    rw [rounds_succ]
    go_wp2
    go_ret
    exact ⟨by simp [cntL], Marks.refl _ _, by rw [mkL]; exact Rep.emp _ _ a rfl .nil⟩
  · have HT : Hid (Typ (reps n [.s]) es) := hR.raw.typ
    have HR : Hid (Row w [.s] p o n u m G es) := ⟨ho, hm, vs, hr, hR⟩
    have HND : Hid ((p :: G).Nodup) := hnd
    have hn1 : n ≤ 9223372036854775807 := hn.1
    have HNC := uh hn
    have hmm : o + n * 1 ≤ m := hm
    clear hr hR ho hm hnd h hn vs
    go_enter Try.func85, Try.ntmps85
    go_wp2
    go_loopw [1, 5] (fun kk i wr => ∃ q : Nat, q ≤ n ∧ i = .int .i64 (q : Int) ∧ kk = .int .i64 ((k + cntL (es.take (q * 1)) : Nat) : Int) ∧ Marks (· ∈ p :: G) w wr ∧ Row wr [.s] p o n u m G (mkL k (es.take (q * 1)) ++ es.drop (q * 1))) (fun _ i _ => n - (intOf i).toNat)
    case atStart => exact ⟨0, Nat.zero_le _, rfl, by simp [cntL], Marks.refl _ _, by simpa [mkL] using HR.out⟩
    case round =>
      obtain ⟨q, hq, rfl, rfl, hM, hRow⟩ := hrel
      have HM := uh hM
      have HW := uh hRow
      clear hM hRow
      by_cases hlt : q < n
      · obtain ⟨Ge, ve, hE, hrng, hpG, hndE, hsub, hclose⟩ := HW.out.open HND.out q hlt
        obtain ⟨d, hd⟩ : ∃ d, d = el 1 q es := ⟨_, rfl⟩
        have hte : Typ [.s] d := by rw [hd]; exact HT.out.el hlt
        have hE2 : Rep wr false [.s] Ge d ve := by
          have ee : el 1 q (mkL k (es.take (q * 1)) ++ es.drop (q * 1)) = el 1 q es := half_el (sh := [.s]) HT.out hlt
          have hh : Rep wr false [.s] Ge (el 1 q (mkL k (es.take (q * 1)) ++ es.drop (q * 1))) ve := hE
          rw [ee, ← hd] at hh; exact hh
        have hcn : k + cntL (es.take (q * 1)) + cntL d ≤ 4000000000000000000 := by rw [hd]; have := @cnt_el q 1 es; omega
        have hnx : cntL (es.take ((q + 1) * 1)) = cntL (es.take (q * 1)) + cntL d := by rw [hd]; exact cnt_next (sh := [.s]) HT.out hlt
        have hhn : (mkL k (es.take (q * 1)) ++ es.drop (q * 1)).take (q * 1) ++ (mkL (k + cntL (es.take (q * 1))) d ++ (mkL k (es.take (q * 1)) ++ es.drop (q * 1)).drop (q * 1 + 1)) = mkL k (es.take ((q + 1) * 1)) ++ es.drop ((q + 1) * 1) := by rw [hd]; exact half_next (sh := [.s]) HT.out hlt
        clear hE hd
        obtain ⟨kq, hkq⟩ : ∃ kq : Nat, kq = k + cntL (es.take (q * 1)) := ⟨_, rfl⟩
        rw [← hkq] at hcn hhn ⊢
        have HNX : Hid (k + cntL (es.take ((q + 1) * 1)) = kq + cntL d) := by show _ = _; omega
        obtain ⟨a0, rfl⟩ := typT1 hte
        obtain ⟨rfl, rfl⟩ := repT1 hE2
        have hkq1 : 1 ≤ kq := by omega
        have hkq2 : kq ≤ 4000000000000000000 := by omega
        simp only [cntL] at hcn
        have HCN := uh hcn
        clear hcn
        clear hE2 hte hkq hnx
        obtain ⟨off, hoff⟩ : ∃ off, off = o + q := ⟨_, rfl⟩
        have hom : off + 1 ≤ m := by have : q * 1 + 1 ≤ n * 1 := (by omega); omega
        have P0 : Hid (Pg wr wr p off 1 u m [.string a0] (· ∈ ([] : List Nat))) := Pg.refl _ HW.out.own (by rw [hoff]; simpa using hrng)
        have HC := uh hclose
        have HH := uh hhn
        have HO : Hid (off = o + q) := hoff
        have HPG := uh hpG; have HNE := uh hndE
        have HSU := uh hsub
        clear hclose hhn hrng hpG hndE hsub HW
        have hm0 : (0 : Int) ≤ (q : Int) := by omega
        have hm3 : (q : Int) < (n : Int) := by omega
        go_wp2_with fail
        refine (markText kq wr (by omega) (by omega)).mono ?_
        rintro e x0 ⟨rfl, hb0⟩
        have Q1 := uh (P0.out.later hb0)
        clear hb0
        obtain ⟨y0, hz0⟩ : ∃ y, y = x0.setCell ⟨p, o + q, none⟩ (.string (mt kq)) := ⟨_, rfl⟩
        have P1 : Hid (Pg wr y0 p off 1 u m [.string (mt kq)] (· ∈ ([] : List Nat))) := by
          have := Q1.out.store 0 (.string (mt kq)) (by omega) hom
          rw [hz0, ← HO.out]; exact this
        have hfz := Q1.out.own.frozen
        have hbz := Q1.out.own.lt
        obtain ⟨ux, eu⟩ := Q1.out.own.cell (o + q) (by have := HO.out; omega)
        go_upto_region 5 with fail
        rw [← hz0]
        clear hz0 hfz hbz eu
        obtain ⟨k0, hk0⟩ : ∃ k0 : Nat, k0 = kq + 1 := ⟨_, rfl⟩
        have hkc0 : (kq : Int) + 1 = (k0 : Int) := by omega
        have HK0 := uh hk0
        have kb0 : 1 ≤ k0 ∧ k0 ≤ 4000000000000000000 := by have := HCN.out; have := HK0.out; omega
        obtain ⟨kl0, ku0⟩ := kb0
        clear hk0
        have HF : Hid (Marks (· ∈ p :: G) w y0 ∧ Row y0 [.s] p o n u m G (mkL k (es.take ((q + 1) * 1)) ++ es.drop ((q + 1) * 1)) ∧ k0 = k + cntL (es.take ((q + 1) * 1))) := by
          have hmk : mkL kq [.s a0] = [.s (mt kq)] := by simp only [mkL]
          have hs : ∀ b, b ∈ ([] : List Nat) → b ∈ ([] : List Nat) := by intro b hb; cases hb
          refine ⟨HM.out.trans (P1.out.mks.mono ?_), ?_, ?_⟩
          · rintro b (rfl | e)
            · simp
            · exact List.mem_cons_of_mem _ (HSU.out b (hs b e))
          · have := HC.out y0 _ _ (by have := P1.out.mono hs; rw [HO.out, show o + q = o + q * 1 by omega] at this; exact this) (repT1_mk _)
            rw [← HH.out, hmk]; exact this
          · have := HNX.out; simp only [cntL] at this; have := HK0.out; omega
        clear HC HH HM
        go_wp2
        go_roundw
        case rel => exact ⟨q + 1, by omega, by go_num, by rw [← HF.out.2.2], HF.out.1, HF.out.2.1⟩
        case measure => simp [intOf]; omega
      · obtain rfl : q = n := by omega
        have el_ : es.length = q * 1 := HT.out.rows
        rw [← el_, List.take_length, List.drop_length, List.append_nil] at HW
        rw [← el_, List.take_length]
        go_wp2
        go_ret
        exact ⟨rfl, HM.out, Rep.of_row HW.out HNC.out⟩
set_option maxRecDepth 8000 in
set_option maxHeartbeats 8000000 in
theorem markGateObjectS (F : List Nat) (n : Nat) (es : List Dt) (v : Value) (k : Nat) (w : World) (h : Rep w false [.row 83 shGateObject] F [.row n es] [v]) (hnd : F.Nodup) (h1 : 1 ≤ k) (hk : k + cntL es ≤ 4000000000000000000) :
    Calls Try.prog 55 #[v, .int .i64 (k : Int)] w fun e w' => e = .returned (.int .i64 ((k + cntL es : Nat) : Int)) ∧ Marks (· ∈ F) w w' ∧ Rep w' false [.row 83 shGateObject] F [.row n (mkL k es)] [v] := by
  rcases h.slice with ⟨_, rfl, rfl, rfl, a, rfl⟩ | ⟨p, o, c, u, m, G, rfl, rfl, hn, ho, hm, _, vs, hr, hR⟩
  · go_enter Try.func55, Try.ntmps55
    go_wp2
    refine wp_loop_rounds 1 ?_
    rw [rounds_succ]
    go_wp2
    go_ret
    exact ⟨by simp [cntL], Marks.refl _ _, by rw [mkL]; exact Rep.emp _ _ a rfl .nil⟩
  · have HT : Hid (Typ (reps n shGateObject) es) := hR.raw.typ
    have HR : Hid (Row w shGateObject p o n u m G es) := ⟨ho, hm, vs, hr, hR⟩
    have HND : Hid ((p :: G).Nodup) := hnd
    have hn1 : n ≤ 9223372036854775807 := hn.1
    have HNC := uh hn
    have hmm : o + n * 7 ≤ m := hm
    clear hr hR ho hm hnd h hn vs
    go_enter Try.func55, Try.ntmps55
    go_wp2
    go_loopw [1, 5] (fun kk i wr => ∃ q : Nat, q ≤ n ∧ i = .int .i64 (q : Int) ∧ kk = .int .i64 ((k + cntL (es.take (q * 7)) : Nat) : Int) ∧ Marks (· ∈ p :: G) w wr ∧ Row wr shGateObject p o n u m G (mkL k (es.take (q * 7)) ++ es.drop (q * 7))) (fun _ i _ => n - (intOf i).toNat)
    case atStart => exact ⟨0, Nat.zero_le _, rfl, by simp [cntL], Marks.refl _ _, by simpa [mkL] using HR.out⟩
    case round =>
      obtain ⟨q, hq, rfl, rfl, hM, hRow⟩ := hrel
      have HM := uh hM
      have HW := uh hRow
      clear hM hRow
      by_cases hlt : q < n
      · obtain ⟨Ge, ve, hE, hrng, hpG, hndE, hsub, hclose⟩ := HW.out.open HND.out q hlt
        obtain ⟨d, hd⟩ : ∃ d, d = el 7 q es := ⟨_, rfl⟩
        have hte : Typ shGateObject d := by rw [hd]; exact HT.out.el hlt
        have hE2 : Rep wr false shGateObject Ge d ve := by
          have ee : el 7 q (mkL k (es.take (q * 7)) ++ es.drop (q * 7)) = el 7 q es := half_el (sh := shGateObject) HT.out hlt
          have hh : Rep wr false shGateObject Ge (el 7 q (mkL k (es.take (q * 7)) ++ es.drop (q * 7))) ve := hE
          rw [ee, ← hd] at hh; exact hh
        have hcn : k + cntL (es.take (q * 7)) + cntL d ≤ 4000000000000000000 := by rw [hd]; have := @cnt_el q 7 es; omega
        have hnx : cntL (es.take ((q + 1) * 7)) = cntL (es.take (q * 7)) + cntL d := by rw [hd]; exact cnt_next (sh := shGateObject) HT.out hlt
        have hhn : (mkL k (es.take (q * 7)) ++ es.drop (q * 7)).take (q * 7) ++ (mkL (k + cntL (es.take (q * 7))) d ++ (mkL k (es.take (q * 7)) ++ es.drop (q * 7)).drop (q * 7 + 7)) = mkL k (es.take ((q + 1) * 7)) ++ es.drop ((q + 1) * 7) := by rw [hd]; exact half_next (sh := shGateObject) HT.out hlt
        clear hE hd
        obtain ⟨kq, hkq⟩ : ∃ kq : Nat, kq = k + cntL (es.take (q * 7)) := ⟨_, rfl⟩
        rw [← hkq] at hcn hhn ⊢
        have HNX : Hid (k + cntL (es.take ((q + 1) * 7)) = kq + cntL d) := by show _ = _; omega
        obtain ⟨a0, a1, a2, n3, e3, a4, n5, e5, a6, rfl, t3, t5⟩ := typGateObject hte
        obtain ⟨F3, v3, F5, v5, rfl, rfl, r3, r5⟩ := repGateObject hE2
        have hkq1 : 1 ≤ kq := by omega
        have hkq2 : kq ≤ 4000000000000000000 := by omega
        simp only [cntL] at hcn
        have HCN := uh hcn
        clear hcn
        clear hE2 hte hkq hnx
        obtain ⟨off, hoff⟩ : ∃ off, off = o + q * 7 := ⟨_, rfl⟩
        have hom : off + 7 ≤ m := by have : q * 7 + 7 ≤ n * 7 := (by omega); omega
        have P0 : Hid (Pg wr wr p off 7 u m [.string a0, .string a1, .string a2, v3, .bool a4, v5, .int .i64 a6] (· ∈ ([] : List Nat))) := Pg.refl _ HW.out.own (by rw [hoff]; exact hrng)
        have HC := uh hclose
        have HH := uh hhn
        have HO : Hid (off = o + q * 7) := hoff
        have HPG := uh hpG; have HNE := uh hndE
        have HSU := uh hsub
        clear hclose hhn hrng hpG hndE hsub HW
        have hm0 : (0 : Int) ≤ (q : Int) := by omega
        have hm3 : (q : Int) < (n : Int) := by omega
        have R3 := uh r3
        have R5 := uh r5
        clear r3 r5
        have nd := HNE.out
        obtain ⟨nd3, ndr3, dj3⟩ := nd_app nd
        have ND3 := uh nd3
        have DJ3 := uh dj3
        obtain ⟨nd5, ndr5, dj5⟩ := nd_app ndr3
        have ND5 := uh nd5
        have DJ5 := uh dj5
        clear nd nd3 ndr3 dj3 nd5 ndr5 dj5
        go_wp2_with fail
        refine (markText kq wr (by omega) (by omega)).mono ?_
        rintro e x0 ⟨rfl, hb0⟩
        have Q1 := uh (P0.out.later hb0)
        clear hb0
        obtain ⟨y0, hz0⟩ : ∃ y, y = x0.setCell ⟨p, o + q * 7, none⟩ (.string (mt kq)) := ⟨_, rfl⟩
        have P1 : Hid (Pg wr y0 p off 7 u m [.string (mt kq), .string a1, .string a2, v3, .bool a4, v5, .int .i64 a6] (· ∈ ([] : List Nat))) := by
          have := Q1.out.store 0 (.string (mt kq)) (by omega) hom
          rw [hz0, ← HO.out]; exact this
        have hfz := Q1.out.own.frozen
        have hbz := Q1.out.own.lt
        obtain ⟨ux, eu⟩ := Q1.out.own.cell (o + q * 7) (by have := HO.out; omega)
        go_upto_region 5 with fail
        rw [← hz0]
        clear hz0 hfz hbz eu
        obtain ⟨k0, hk0⟩ : ∃ k0 : Nat, k0 = kq + 1 := ⟨_, rfl⟩
        have hkc0 : (kq : Int) + 1 = (k0 : Int) := by omega
        have HK0 := uh hk0
        have kb0 : 1 ≤ k0 ∧ k0 ≤ 4000000000000000000 := by have := HCN.out; have := HK0.out; omega
        obtain ⟨kl0, ku0⟩ := kb0
        clear hk0
        go_upto_region 6 with fail
        clear hkc0
        go_wp2_with fail
        refine (markText k0 y0 (by omega) (by omega)).mono ?_
        rintro e x1 ⟨rfl, hb1⟩
        have Q2 := uh (P1.out.later hb1)
        clear hb1
        obtain ⟨y1, hz1⟩ : ∃ y, y = x1.setCell ⟨p, o + q * 7 + 1, none⟩ (.string (mt k0)) := ⟨_, rfl⟩
        have P2 : Hid (Pg wr y1 p off 7 u m [.string (mt kq), .string (mt k0), .string a2, v3, .bool a4, v5, .int .i64 a6] (· ∈ ([] : List Nat))) := by
          have := Q2.out.store 1 (.string (mt k0)) (by omega) hom
          rw [hz1, ← HO.out]; exact this
        have hfz := Q2.out.own.frozen
        have hbz := Q2.out.own.lt
        obtain ⟨ux, eu⟩ := Q2.out.own.cell (o + q * 7 + 1) (by have := HO.out; omega)
        go_upto_region 7 with fail
        rw [← hz1]
        clear hz1 hfz hbz eu
        obtain ⟨k1, hk1⟩ : ∃ k1 : Nat, k1 = k0 + 1 := ⟨_, rfl⟩
        have hkc1 : (k0 : Int) + 1 = (k1 : Int) := by omega
        have HK1 := uh hk1
        have kb1 : 1 ≤ k1 ∧ k1 ≤ 4000000000000000000 := by have := HCN.out; have := HK0.out; have := HK1.out; omega
        obtain ⟨kl1, ku1⟩ := kb1
        clear hk1
        go_upto_region 8 with fail
        clear hkc1
        go_wp2_with fail
        refine (markText k1 y1 (by omega) (by omega)).mono ?_
        rintro e x2 ⟨rfl, hb2⟩
        have Q3 := uh (P2.out.later hb2)
        clear hb2
        obtain ⟨y2, hz2⟩ : ∃ y, y = x2.setCell ⟨p, o + q * 7 + 2, none⟩ (.string (mt k1)) := ⟨_, rfl⟩
        have P3 : Hid (Pg wr y2 p off 7 u m [.string (mt kq), .string (mt k0), .string (mt k1), v3, .bool a4, v5, .int .i64 a6] (· ∈ ([] : List Nat))) := by
          have := Q3.out.store 2 (.string (mt k1)) (by omega) hom
          rw [hz2, ← HO.out]; exact this
        have hfz := Q3.out.own.frozen
        have hbz := Q3.out.own.lt
        obtain ⟨ux, eu⟩ := Q3.out.own.cell (o + q * 7 + 2) (by have := HO.out; omega)
        go_upto_region 9 with fail
        rw [← hz2]
        clear hz2 hfz hbz eu
        obtain ⟨k2, hk2⟩ : ∃ k2 : Nat, k2 = k1 + 1 := ⟨_, rfl⟩
        have hkc2 : (k1 : Int) + 1 = (k2 : Int) := by omega
        have HK2 := uh hk2
        have kb2 : 1 ≤ k2 ∧ k2 ≤ 4000000000000000000 := by have := HCN.out; have := HK0.out; have := HK1.out; have := HK2.out; omega
        obtain ⟨kl2, ku2⟩ := kb2
        clear hk2
        go_upto_region 10 with fail
        clear hkc2
        have hbz := P3.out.own.lt
        have K3 : Hid (Rep y2 false [.row 9 [.s]] F3 [.row n3 e3] [v3]) := by
          refine R3.out.keep P3.out.mks ?_
          rintro b hb (rfl | e)
          · exact HPG.out (by simp [hb])
          · cases e
        obtain ⟨va3, vc3, hva⟩ := K3.out.raw.len0
        subst hva
        have gc := rA_get P3.out.at_ 3 _ rfl
        rw [HO.out] at gc
        obtain ⟨k3, hk3⟩ : ∃ k3 : Nat, k3 = k2 + cntL e3 := ⟨_, rfl⟩
        have HK3 := uh hk3
        have kb3 : 1 ≤ k3 ∧ k3 ≤ 4000000000000000000 := by have := HCN.out; have := HK0.out; have := HK1.out; have := HK2.out; have := HK3.out; omega
        obtain ⟨kl3, ku3⟩ := kb3
        clear hk3
        go_wp2_with fail
        refine (markStringS F3 n3 e3 (.slice va3 n3 vc3) k2 y2 K3.out ND3.out (by omega) (by have := HK3.out; omega)).mono ?_
        rintro e x3 ⟨he, hb3, rr3⟩
        rw [← HK3.out] at he
        subst he
        have P4 := uh (P3.out.grow hb3 (fun e => HPG.out (by simp [e])))
        have D3 := uh rr3
        clear gc hbz rr3 hb3 K3
        have hrm := bmod k3
        obtain ⟨y4, hz4⟩ : ∃ y, y = x3.setCell ⟨p, o + q * 7 + 4, none⟩ (.bool (k3 % 3 == 0)) := ⟨_, rfl⟩
        have P5 : Hid (Pg wr y4 p off 7 u m [.string (mt kq), .string (mt k0), .string (mt k1), .slice va3 n3 vc3, .bool (k3 % 3 == 0), v5, .int .i64 a6] (· ∈ (([] : List Nat) ++ F3))) := by
          have := P4.out.store 4 (.bool (k3 % 3 == 0)) (by omega) hom
          rw [hz4, ← HO.out]; exact this
        replace D3 := uh (D3.out.keep (w' := y4) (S := fun b => b = p) (by rw [hz4]; exact Marks.sc (S := fun b => b = p) _ rfl _ _) (by rintro b hb rfl; exact HPG.out (by simp [hb])))
        have hfz := P4.out.own.frozen
        have hbz := P4.out.own.lt
        obtain ⟨ux, eu⟩ := P4.out.own.cell (o + q * 7 + 4) (by have := HO.out; omega)
        go_upto_region 12 with fail
        rw [← hz4]
        clear hz4 hfz hbz eu hrm
        obtain ⟨k4, hk4⟩ : ∃ k4 : Nat, k4 = k3 + 1 := ⟨_, rfl⟩
        have hkc4 : (k3 : Int) + 1 = (k4 : Int) := by omega
        have HK4 := uh hk4
        have kb4 : 1 ≤ k4 ∧ k4 ≤ 4000000000000000000 := by have := HCN.out; have := HK0.out; have := HK1.out; have := HK2.out; have := HK3.out; have := HK4.out; omega
        obtain ⟨kl4, ku4⟩ := kb4
        clear hk4
        go_upto_region 13 with fail
        clear hkc4
        have hbz := P5.out.own.lt
        have K5 : Hid (Rep y4 false [.row 9 [.s]] F5 [.row n5 e5] [v5]) := by
          refine R5.out.keep P5.out.mks ?_
          rintro b hb (rfl | e)
          · exact HPG.out (by simp [hb])
          · simp only [List.mem_append, List.not_mem_nil, false_or] at e
            skip
            exact DJ3.out b e (by simp [hb])
        obtain ⟨va5, vc5, hva⟩ := K5.out.raw.len0
        subst hva
        have gc := rA_get P5.out.at_ 5 _ rfl
        rw [HO.out] at gc
        obtain ⟨k5, hk5⟩ : ∃ k5 : Nat, k5 = k4 + cntL e5 := ⟨_, rfl⟩
        have HK5 := uh hk5
        have kb5 : 1 ≤ k5 ∧ k5 ≤ 4000000000000000000 := by have := HCN.out; have := HK0.out; have := HK1.out; have := HK2.out; have := HK3.out; have := HK4.out; have := HK5.out; omega
        obtain ⟨kl5, ku5⟩ := kb5
        clear hk5
        go_wp2_with fail
        refine (markStringS F5 n5 e5 (.slice va5 n5 vc5) k4 y4 K5.out ND5.out (by omega) (by have := HK5.out; omega)).mono ?_
        rintro e x5 ⟨he, hb5, rr5⟩
        rw [← HK5.out] at he
        subst he
        have P6 := uh (P5.out.grow hb5 (fun e => HPG.out (by simp [e])))
        replace D3 := uh (D3.out.keep hb5 (fun b hb e => DJ3.out b hb (by simp [e])))
        have D5 := uh rr5
        clear gc hbz rr5 hb5 K5
        obtain ⟨y6, hz6⟩ : ∃ y, y = x5.setCell ⟨p, o + q * 7 + 6, none⟩ (.int .i64 (k5 : Int)) := ⟨_, rfl⟩
        have P7 : Hid (Pg wr y6 p off 7 u m [.string (mt kq), .string (mt k0), .string (mt k1), .slice va3 n3 vc3, .bool (k3 % 3 == 0), .slice va5 n5 vc5, .int .i64 (k5 : Int)] (· ∈ ((([] : List Nat) ++ F3) ++ F5))) := by
          have := P6.out.store 6 (.int .i64 (k5 : Int)) (by omega) hom
          rw [hz6, ← HO.out]; exact this
        replace D3 := uh (D3.out.keep (w' := y6) (S := fun b => b = p) (by rw [hz6]; exact Marks.sc (S := fun b => b = p) _ rfl _ _) (by rintro b hb rfl; exact HPG.out (by simp [hb])))
        replace D5 := uh (D5.out.keep (w' := y6) (S := fun b => b = p) (by rw [hz6]; exact Marks.sc (S := fun b => b = p) _ rfl _ _) (by rintro b hb rfl; exact HPG.out (by simp [hb])))
        have hfz := P6.out.own.frozen
        have hbz := P6.out.own.lt
        obtain ⟨ux, eu⟩ := P6.out.own.cell (o + q * 7 + 6) (by have := HO.out; omega)
        go_upto_region 15 with fail
        rw [← hz6]
        clear hz6 hfz hbz eu
        obtain ⟨k6, hk6⟩ : ∃ k6 : Nat, k6 = k5 + 1 := ⟨_, rfl⟩
        have hkc6 : (k5 : Int) + 1 = (k6 : Int) := by omega
        have HK6 := uh hk6
        have kb6 : 1 ≤ k6 ∧ k6 ≤ 4000000000000000000 := by have := HCN.out; have := HK0.out; have := HK1.out; have := HK2.out; have := HK3.out; have := HK4.out; have := HK5.out; have := HK6.out; omega
        obtain ⟨kl6, ku6⟩ := kb6
        clear hk6
        have HF : Hid (Marks (· ∈ p :: G) w y6 ∧ Row y6 shGateObject p o n u m G (mkL k (es.take ((q + 1) * 7)) ++ es.drop ((q + 1) * 7)) ∧ k6 = k + cntL (es.take ((q + 1) * 7))) := by
          have hmk : mkL kq [.s a0, .s a1, .s a2, .row n3 e3, .b a4, .row n5 e5, .i a6] = [.s (mt kq), .s (mt k0), .s (mt k1), .row n3 (mkL k2 e3), .b (k3 % 3 == 0), .row n5 (mkL k4 e5), .i (k5 : Int)] := by simp only [mkL, HK0.out, HK1.out, HK2.out, HK3.out, HK4.out, HK5.out]
          have hs : ∀ b, b ∈ ((([] : List Nat) ++ F3) ++ F5) → b ∈ (F3 ++ (F5 ++ []) : List Nat) := by intro b hb; simpa [or_assoc] using hb
          refine ⟨HM.out.trans (P7.out.mks.mono ?_), ?_, ?_⟩
          · rintro b (rfl | e)
            · simp
            · exact List.mem_cons_of_mem _ (HSU.out b (hs b e))
          · have := HC.out y6 _ _ (by have := P7.out.mono hs; rw [HO.out] at this; exact this) (repGateObject_mk _ _ _ D3.out _ D5.out _)
            rw [← HH.out, hmk]; exact this
          · have := HNX.out; simp only [cntL] at this; have := HK0.out; have := HK1.out; have := HK2.out; have := HK3.out; have := HK4.out; have := HK5.out; have := HK6.out; omega
        clear HC HH HM
        go_wp2
        go_roundw
        case rel => exact ⟨q + 1, by omega, by go_num, by rw [← HF.out.2.2], HF.out.1, HF.out.2.1⟩
        case measure => simp [intOf]; omega
      · obtain rfl : q = n := by omega
        have el_ : es.length = q * 7 := HT.out.rows
        rw [← el_, List.take_length, List.drop_length, List.append_nil] at HW
        rw [← el_, List.take_length]
        go_wp2
        go_ret
        exact ⟨rfl, HM.out, Rep.of_row HW.out HNC.out⟩
set_option maxRecDepth 8000 in
set_option maxHeartbeats 8000000 in
theorem markGateLedgerS (F : List Nat) (n : Nat) (es : List Dt) (v : Value) (k : Nat) (w : World) (h : Rep w false [.row 119 shGateLedger] F [.row n es] [v]) (hnd : F.Nodup) (h1 : 1 ≤ k) (hk : k + cntL es ≤ 4000000000000000000) :
    Calls Try.prog 56 #[v, .int .i64 (k : Int)] w fun e w' => e = .returned (.int .i64 ((k + cntL es : Nat) : Int)) ∧ Marks (· ∈ F) w w' ∧ Rep w' false [.row 119 shGateLedger] F [.row n (mkL k es)] [v] := by
  rcases h.slice with ⟨_, rfl, rfl, rfl, a, rfl⟩ | ⟨p, o, c, u, m, G, rfl, rfl, hn, ho, hm, _, vs, hr, hR⟩
  · go_enter Try.func56, Try.ntmps56
    go_wp2
    refine wp_loop_rounds 1 ?_
    rw [rounds_succ]
    go_wp2
    go_ret
    exact ⟨by simp [cntL], Marks.refl _ _, by rw [mkL]; exact Rep.emp _ _ a rfl .nil⟩
  · have HT : Hid (Typ (reps n shGateLedger) es) := hR.raw.typ
    have HR : Hid (Row w shGateLedger p o n u m G es) := ⟨ho, hm, vs, hr, hR⟩
    have HND : Hid ((p :: G).Nodup) := hnd
    have hn1 : n ≤ 9223372036854775807 := hn.1
    have HNC := uh hn
    have hmm : o + n * 4 ≤ m := hm
    clear hr hR ho hm hnd h hn vs
    go_enter Try.func56, Try.ntmps56
    go_wp2
    go_loopw [1, 5] (fun kk i wr => ∃ q : Nat, q ≤ n ∧ i = .int .i64 (q : Int) ∧ kk = .int .i64 ((k + cntL (es.take (q * 4)) : Nat) : Int) ∧ Marks (· ∈ p :: G) w wr ∧ Row wr shGateLedger p o n u m G (mkL k (es.take (q * 4)) ++ es.drop (q * 4))) (fun _ i _ => n - (intOf i).toNat)
    case atStart => exact ⟨0, Nat.zero_le _, rfl, by simp [cntL], Marks.refl _ _, by simpa [mkL] using HR.out⟩
    case round =>
      obtain ⟨q, hq, rfl, rfl, hM, hRow⟩ := hrel
      have HM := uh hM
      have HW := uh hRow
      clear hM hRow
      by_cases hlt : q < n
      · obtain ⟨Ge, ve, hE, hrng, hpG, hndE, hsub, hclose⟩ := HW.out.open HND.out q hlt
        obtain ⟨d, hd⟩ : ∃ d, d = el 4 q es := ⟨_, rfl⟩
        have hte : Typ shGateLedger d := by rw [hd]; exact HT.out.el hlt
        have hE2 : Rep wr false shGateLedger Ge d ve := by
          have ee : el 4 q (mkL k (es.take (q * 4)) ++ es.drop (q * 4)) = el 4 q es := half_el (sh := shGateLedger) HT.out hlt
          have hh : Rep wr false shGateLedger Ge (el 4 q (mkL k (es.take (q * 4)) ++ es.drop (q * 4))) ve := hE
          rw [ee, ← hd] at hh; exact hh
        have hcn : k + cntL (es.take (q * 4)) + cntL d ≤ 4000000000000000000 := by rw [hd]; have := @cnt_el q 4 es; omega
        have hnx : cntL (es.take ((q + 1) * 4)) = cntL (es.take (q * 4)) + cntL d := by rw [hd]; exact cnt_next (sh := shGateLedger) HT.out hlt
        have hhn : (mkL k (es.take (q * 4)) ++ es.drop (q * 4)).take (q * 4) ++ (mkL (k + cntL (es.take (q * 4))) d ++ (mkL k (es.take (q * 4)) ++ es.drop (q * 4)).drop (q * 4 + 4)) = mkL k (es.take ((q + 1) * 4)) ++ es.drop ((q + 1) * 4) := by rw [hd]; exact half_next (sh := shGateLedger) HT.out hlt
        clear hE hd
        obtain ⟨kq, hkq⟩ : ∃ kq : Nat, kq = k + cntL (es.take (q * 4)) := ⟨_, rfl⟩
        rw [← hkq] at hcn hhn ⊢
        have HNX : Hid (k + cntL (es.take ((q + 1) * 4)) = kq + cntL d) := by show _ = _; omega
        obtain ⟨a0, a1, a2, a3, rfl⟩ := typGateLedger hte
        obtain ⟨rfl, rfl⟩ := repGateLedger hE2
        have hkq1 : 1 ≤ kq := by omega
        have hkq2 : kq ≤ 4000000000000000000 := by omega
        simp only [cntL] at hcn
        have HCN := uh hcn
        clear hcn
        clear hE2 hte hkq hnx
        obtain ⟨off, hoff⟩ : ∃ off, off = o + q * 4 := ⟨_, rfl⟩
        have hom : off + 4 ≤ m := by have : q * 4 + 4 ≤ n * 4 := (by omega); omega
        have P0 : Hid (Pg wr wr p off 4 u m [.string a0, .string a1, .int .i64 a2, .int .i64 a3] (· ∈ ([] : List Nat))) := Pg.refl _ HW.out.own (by rw [hoff]; exact hrng)
        have HC := uh hclose
        have HH := uh hhn
        have HO : Hid (off = o + q * 4) := hoff
        have HPG := uh hpG; have HNE := uh hndE
        have HSU := uh hsub
        clear hclose hhn hrng hpG hndE hsub HW
        have hm0 : (0 : Int) ≤ (q : Int) := by omega
        have hm3 : (q : Int) < (n : Int) := by omega
        go_wp2_with fail
        refine (markText kq wr (by omega) (by omega)).mono ?_
        rintro e x0 ⟨rfl, hb0⟩
        have Q1 := uh (P0.out.later hb0)
        clear hb0
        obtain ⟨y0, hz0⟩ : ∃ y, y = x0.setCell ⟨p, o + q * 4, none⟩ (.string (mt kq)) := ⟨_, rfl⟩
        have P1 : Hid (Pg wr y0 p off 4 u m [.string (mt kq), .string a1, .int .i64 a2, .int .i64 a3] (· ∈ ([] : List Nat))) := by
          have := Q1.out.store 0 (.string (mt kq)) (by omega) hom
          rw [hz0, ← HO.out]; exact this
        have hfz := Q1.out.own.frozen
        have hbz := Q1.out.own.lt
        obtain ⟨ux, eu⟩ := Q1.out.own.cell (o + q * 4) (by have := HO.out; omega)
        go_upto_region 5 with fail
        rw [← hz0]
        clear hz0 hfz hbz eu
        obtain ⟨k0, hk0⟩ : ∃ k0 : Nat, k0 = kq + 1 := ⟨_, rfl⟩
        have hkc0 : (kq : Int) + 1 = (k0 : Int) := by omega
        have HK0 := uh hk0
        have kb0 : 1 ≤ k0 ∧ k0 ≤ 4000000000000000000 := by have := HCN.out; have := HK0.out; omega
        obtain ⟨kl0, ku0⟩ := kb0
        clear hk0
        go_upto_region 6 with fail
        clear hkc0
        go_wp2_with fail
        refine (markText k0 y0 (by omega) (by omega)).mono ?_
        rintro e x1 ⟨rfl, hb1⟩
        have Q2 := uh (P1.out.later hb1)
        clear hb1
        obtain ⟨y1, hz1⟩ : ∃ y, y = x1.setCell ⟨p, o + q * 4 + 1, none⟩ (.string (mt k0)) := ⟨_, rfl⟩
        have P2 : Hid (Pg wr y1 p off 4 u m [.string (mt kq), .string (mt k0), .int .i64 a2, .int .i64 a3] (· ∈ ([] : List Nat))) := by
          have := Q2.out.store 1 (.string (mt k0)) (by omega) hom
          rw [hz1, ← HO.out]; exact this
        have hfz := Q2.out.own.frozen
        have hbz := Q2.out.own.lt
        obtain ⟨ux, eu⟩ := Q2.out.own.cell (o + q * 4 + 1) (by have := HO.out; omega)
        go_upto_region 7 with fail
        rw [← hz1]
        clear hz1 hfz hbz eu
        obtain ⟨k1, hk1⟩ : ∃ k1 : Nat, k1 = k0 + 1 := ⟨_, rfl⟩
        have hkc1 : (k0 : Int) + 1 = (k1 : Int) := by omega
        have HK1 := uh hk1
        have kb1 : 1 ≤ k1 ∧ k1 ≤ 4000000000000000000 := by have := HCN.out; have := HK0.out; have := HK1.out; omega
        obtain ⟨kl1, ku1⟩ := kb1
        clear hk1
        go_upto_region 8 with fail
        clear hkc1
        obtain ⟨y2, hz2⟩ : ∃ y, y = y1.setCell ⟨p, o + q * 4 + 2, none⟩ (.int .i64 (k1 : Int)) := ⟨_, rfl⟩
        have P3 : Hid (Pg wr y2 p off 4 u m [.string (mt kq), .string (mt k0), .int .i64 (k1 : Int), .int .i64 a3] (· ∈ ([] : List Nat))) := by
          have := P2.out.store 2 (.int .i64 (k1 : Int)) (by omega) hom
          rw [hz2, ← HO.out]; exact this
        have hfz := P2.out.own.frozen
        have hbz := P2.out.own.lt
        obtain ⟨ux, eu⟩ := P2.out.own.cell (o + q * 4 + 2) (by have := HO.out; omega)
        go_upto_region 9 with fail
        rw [← hz2]
        clear hz2 hfz hbz eu
        obtain ⟨k2, hk2⟩ : ∃ k2 : Nat, k2 = k1 + 1 := ⟨_, rfl⟩
        have hkc2 : (k1 : Int) + 1 = (k2 : Int) := by omega
        have HK2 := uh hk2
        have kb2 : 1 ≤ k2 ∧ k2 ≤ 4000000000000000000 := by have := HCN.out; have := HK0.out; have := HK1.out; have := HK2.out; omega
        obtain ⟨kl2, ku2⟩ := kb2
        clear hk2
        go_upto_region 10 with fail
        clear hkc2
        obtain ⟨y3, hz3⟩ : ∃ y, y = y2.setCell ⟨p, o + q * 4 + 3, none⟩ (.int .i64 (k2 : Int)) := ⟨_, rfl⟩
        have P4 : Hid (Pg wr y3 p off 4 u m [.string (mt kq), .string (mt k0), .int .i64 (k1 : Int), .int .i64 (k2 : Int)] (· ∈ ([] : List Nat))) := by
          have := P3.out.store 3 (.int .i64 (k2 : Int)) (by omega) hom
          rw [hz3, ← HO.out]; exact this
        have hfz := P3.out.own.frozen
        have hbz := P3.out.own.lt
        obtain ⟨ux, eu⟩ := P3.out.own.cell (o + q * 4 + 3) (by have := HO.out; omega)
        go_upto_region 11 with fail
        rw [← hz3]
        clear hz3 hfz hbz eu
        obtain ⟨k3, hk3⟩ : ∃ k3 : Nat, k3 = k2 + 1 := ⟨_, rfl⟩
        have hkc3 : (k2 : Int) + 1 = (k3 : Int) := by omega
        have HK3 := uh hk3
        have kb3 : 1 ≤ k3 ∧ k3 ≤ 4000000000000000000 := by have := HCN.out; have := HK0.out; have := HK1.out; have := HK2.out; have := HK3.out; omega
        obtain ⟨kl3, ku3⟩ := kb3
        clear hk3
        have HF : Hid (Marks (· ∈ p :: G) w y3 ∧ Row y3 shGateLedger p o n u m G (mkL k (es.take ((q + 1) * 4)) ++ es.drop ((q + 1) * 4)) ∧ k3 = k + cntL (es.take ((q + 1) * 4))) := by
          have hmk : mkL kq [.s a0, .s a1, .i a2, .i a3] = [.s (mt kq), .s (mt k0), .i (k1 : Int), .i (k2 : Int)] := by simp only [mkL, HK0.out, HK1.out, HK2.out]
          have hs : ∀ b, b ∈ ([] : List Nat) → b ∈ ([] : List Nat) := by intro b hb; cases hb
          refine ⟨HM.out.trans (P4.out.mks.mono ?_), ?_, ?_⟩
          · rintro b (rfl | e)
            · simp
            · exact List.mem_cons_of_mem _ (HSU.out b (hs b e))
          · have := HC.out y3 _ _ (by have := P4.out.mono hs; rw [HO.out] at this; exact this) (repGateLedger_mk _ _ _ _)
            rw [← HH.out, hmk]; exact this
          · have := HNX.out; simp only [cntL] at this; have := HK0.out; have := HK1.out; have := HK2.out; have := HK3.out; omega
        clear HC HH HM
        go_wp2
        go_roundw
        case rel => exact ⟨q + 1, by omega, by go_num, by rw [← HF.out.2.2], HF.out.1, HF.out.2.1⟩
        case measure => simp [intOf]; omega
      · obtain rfl : q = n := by omega
        have el_ : es.length = q * 4 := HT.out.rows
        rw [← el_, List.take_length, List.drop_length, List.append_nil] at HW
        rw [← el_, List.take_length]
        go_wp2
        go_ret
        exact ⟨rfl, HM.out, Rep.of_row HW.out HNC.out⟩
set_option maxRecDepth 8000 in
set_option maxHeartbeats 8000000 in
theorem markGatePurseS (F : List Nat) (n : Nat) (es : List Dt) (v : Value) (k : Nat) (w : World) (h : Rep w false [.row 122 shGatePurse] F [.row n es] [v]) (hnd : F.Nodup) (h1 : 1 ≤ k) (hk : k + cntL es ≤ 4000000000000000000) :
    Calls Try.prog 57 #[v, .int .i64 (k : Int)] w fun e w' => e = .returned (.int .i64 ((k + cntL es : Nat) : Int)) ∧ Marks (· ∈ F) w w' ∧ Rep w' false [.row 122 shGatePurse] F [.row n (mkL k es)] [v] := by
  rcases h.slice with ⟨_, rfl, rfl, rfl, a, rfl⟩ | ⟨p, o, c, u, m, G, rfl, rfl, hn, ho, hm, _, vs, hr, hR⟩
  · go_enter Try.func57, Try.ntmps57
    go_wp2
    refine wp_loop_rounds 1 ?_
    rw [rounds_succ]
    go_wp2
    go_ret
    exact ⟨by simp [cntL], Marks.refl _ _, by rw [mkL]; exact Rep.emp _ _ a rfl .nil⟩
  · have HT : Hid (Typ (reps n shGatePurse) es) := hR.raw.typ
    have HR : Hid (Row w shGatePurse p o n u m G es) := ⟨ho, hm, vs, hr, hR⟩
    have HND : Hid ((p :: G).Nodup) := hnd
    have hn1 : n ≤ 9223372036854775807 := hn.1
    have HNC := uh hn
    have hmm : o + n * 5 ≤ m := hm
    clear hr hR ho hm hnd h hn vs
    go_enter Try.func57, Try.ntmps57
    go_wp2
    go_loopw [1, 5] (fun kk i wr => ∃ q : Nat, q ≤ n ∧ i = .int .i64 (q : Int) ∧ kk = .int .i64 ((k + cntL (es.take (q * 5)) : Nat) : Int) ∧ Marks (· ∈ p :: G) w wr ∧ Row wr shGatePurse p o n u m G (mkL k (es.take (q * 5)) ++ es.drop (q * 5))) (fun _ i _ => n - (intOf i).toNat)
    case atStart => exact ⟨0, Nat.zero_le _, rfl, by simp [cntL], Marks.refl _ _, by simpa [mkL] using HR.out⟩
    case round =>
      obtain ⟨q, hq, rfl, rfl, hM, hRow⟩ := hrel
      have HM := uh hM
      have HW := uh hRow
      clear hM hRow
      by_cases hlt : q < n
      · obtain ⟨Ge, ve, hE, hrng, hpG, hndE, hsub, hclose⟩ := HW.out.open HND.out q hlt
        obtain ⟨d, hd⟩ : ∃ d, d = el 5 q es := ⟨_, rfl⟩
        have hte : Typ shGatePurse d := by rw [hd]; exact HT.out.el hlt
        have hE2 : Rep wr false shGatePurse Ge d ve := by
          have ee : el 5 q (mkL k (es.take (q * 5)) ++ es.drop (q * 5)) = el 5 q es := half_el (sh := shGatePurse) HT.out hlt
          have hh : Rep wr false shGatePurse Ge (el 5 q (mkL k (es.take (q * 5)) ++ es.drop (q * 5))) ve := hE
          rw [ee, ← hd] at hh; exact hh
        have hcn : k + cntL (es.take (q * 5)) + cntL d ≤ 4000000000000000000 := by rw [hd]; have := @cnt_el q 5 es; omega
        have hnx : cntL (es.take ((q + 1) * 5)) = cntL (es.take (q * 5)) + cntL d := by rw [hd]; exact cnt_next (sh := shGatePurse) HT.out hlt
        have hhn : (mkL k (es.take (q * 5)) ++ es.drop (q * 5)).take (q * 5) ++ (mkL (k + cntL (es.take (q * 5))) d ++ (mkL k (es.take (q * 5)) ++ es.drop (q * 5)).drop (q * 5 + 5)) = mkL k (es.take ((q + 1) * 5)) ++ es.drop ((q + 1) * 5) := by rw [hd]; exact half_next (sh := shGatePurse) HT.out hlt
        clear hE hd
        obtain ⟨kq, hkq⟩ : ∃ kq : Nat, kq = k + cntL (es.take (q * 5)) := ⟨_, rfl⟩
        rw [← hkq] at hcn hhn ⊢
        have HNX : Hid (k + cntL (es.take ((q + 1) * 5)) = kq + cntL d) := by show _ = _; omega
        obtain ⟨a0, a1, a2, a3, a4, rfl⟩ := typGatePurse hte
        obtain ⟨rfl, rfl⟩ := repGatePurse hE2
        have hkq1 : 1 ≤ kq := by omega
        have hkq2 : kq ≤ 4000000000000000000 := by omega
        simp only [cntL] at hcn
        have HCN := uh hcn
        clear hcn
        clear hE2 hte hkq hnx
        obtain ⟨off, hoff⟩ : ∃ off, off = o + q * 5 := ⟨_, rfl⟩
        have hom : off + 5 ≤ m := by have : q * 5 + 5 ≤ n * 5 := (by omega); omega
        have P0 : Hid (Pg wr wr p off 5 u m [.string a0, .string a1, .string a2, .int .i64 a3, .int .i64 a4] (· ∈ ([] : List Nat))) := Pg.refl _ HW.out.own (by rw [hoff]; exact hrng)
        have HC := uh hclose
        have HH := uh hhn
        have HO : Hid (off = o + q * 5) := hoff
        have HPG := uh hpG; have HNE := uh hndE
        have HSU := uh hsub
        clear hclose hhn hrng hpG hndE hsub HW
        have hm0 : (0 : Int) ≤ (q : Int) := by omega
        have hm3 : (q : Int) < (n : Int) := by omega
        go_wp2_with fail
        refine (markText kq wr (by omega) (by omega)).mono ?_
        rintro e x0 ⟨rfl, hb0⟩
        have Q1 := uh (P0.out.later hb0)
        clear hb0
        obtain ⟨y0, hz0⟩ : ∃ y, y = x0.setCell ⟨p, o + q * 5, none⟩ (.string (mt kq)) := ⟨_, rfl⟩
        have P1 : Hid (Pg wr y0 p off 5 u m [.string (mt kq), .string a1, .string a2, .int .i64 a3, .int .i64 a4] (· ∈ ([] : List Nat))) := by
          have := Q1.out.store 0 (.string (mt kq)) (by omega) hom
          rw [hz0, ← HO.out]; exact this
        have hfz := Q1.out.own.frozen
        have hbz := Q1.out.own.lt
        obtain ⟨ux, eu⟩ := Q1.out.own.cell (o + q * 5) (by have := HO.out; omega)
        go_upto_region 5 with fail
        rw [← hz0]
        clear hz0 hfz hbz eu
        obtain ⟨k0, hk0⟩ : ∃ k0 : Nat, k0 = kq + 1 := ⟨_, rfl⟩
        have hkc0 : (kq : Int) + 1 = (k0 : Int) := by omega
        have HK0 := uh hk0
        have kb0 : 1 ≤ k0 ∧ k0 ≤ 4000000000000000000 := by have := HCN.out; have := HK0.out; omega
        obtain ⟨kl0, ku0⟩ := kb0
        clear hk0
        go_upto_region 6 with fail
        clear hkc0
        go_wp2_with fail
        refine (markText k0 y0 (by omega) (by omega)).mono ?_
        rintro e x1 ⟨rfl, hb1⟩
        have Q2 := uh (P1.out.later hb1)
        clear hb1
        obtain ⟨y1, hz1⟩ : ∃ y, y = x1.setCell ⟨p, o + q * 5 + 1, none⟩ (.string (mt k0)) := ⟨_, rfl⟩
        have P2 : Hid (Pg wr y1 p off 5 u m [.string (mt kq), .string (mt k0), .string a2, .int .i64 a3, .int .i64 a4] (· ∈ ([] : List Nat))) := by
          have := Q2.out.store 1 (.string (mt k0)) (by omega) hom
          rw [hz1, ← HO.out]; exact this
        have hfz := Q2.out.own.frozen
        have hbz := Q2.out.own.lt
        obtain ⟨ux, eu⟩ := Q2.out.own.cell (o + q * 5 + 1) (by have := HO.out; omega)
        go_upto_region 7 with fail
        rw [← hz1]
        clear hz1 hfz hbz eu
        obtain ⟨k1, hk1⟩ : ∃ k1 : Nat, k1 = k0 + 1 := ⟨_, rfl⟩
        have hkc1 : (k0 : Int) + 1 = (k1 : Int) := by omega
        have HK1 := uh hk1
        have kb1 : 1 ≤ k1 ∧ k1 ≤ 4000000000000000000 := by have := HCN.out; have := HK0.out; have := HK1.out; omega
        obtain ⟨kl1, ku1⟩ := kb1
        clear hk1
        go_upto_region 8 with fail
        clear hkc1
        go_wp2_with fail
        refine (markText k1 y1 (by omega) (by omega)).mono ?_
        rintro e x2 ⟨rfl, hb2⟩
        have Q3 := uh (P2.out.later hb2)
        clear hb2
        obtain ⟨y2, hz2⟩ : ∃ y, y = x2.setCell ⟨p, o + q * 5 + 2, none⟩ (.string (mt k1)) := ⟨_, rfl⟩
        have P3 : Hid (Pg wr y2 p off 5 u m [.string (mt kq), .string (mt k0), .string (mt k1), .int .i64 a3, .int .i64 a4] (· ∈ ([] : List Nat))) := by
          have := Q3.out.store 2 (.string (mt k1)) (by omega) hom
          rw [hz2, ← HO.out]; exact this
        have hfz := Q3.out.own.frozen
        have hbz := Q3.out.own.lt
        obtain ⟨ux, eu⟩ := Q3.out.own.cell (o + q * 5 + 2) (by have := HO.out; omega)
        go_upto_region 9 with fail
        rw [← hz2]
        clear hz2 hfz hbz eu
        obtain ⟨k2, hk2⟩ : ∃ k2 : Nat, k2 = k1 + 1 := ⟨_, rfl⟩
        have hkc2 : (k1 : Int) + 1 = (k2 : Int) := by omega
        have HK2 := uh hk2
        have kb2 : 1 ≤ k2 ∧ k2 ≤ 4000000000000000000 := by have := HCN.out; have := HK0.out; have := HK1.out; have := HK2.out; omega
        obtain ⟨kl2, ku2⟩ := kb2
        clear hk2
        go_upto_region 10 with fail
        clear hkc2
        obtain ⟨y3, hz3⟩ : ∃ y, y = y2.setCell ⟨p, o + q * 5 + 3, none⟩ (.int .i64 (k2 : Int)) := ⟨_, rfl⟩
        have P4 : Hid (Pg wr y3 p off 5 u m [.string (mt kq), .string (mt k0), .string (mt k1), .int .i64 (k2 : Int), .int .i64 a4] (· ∈ ([] : List Nat))) := by
          have := P3.out.store 3 (.int .i64 (k2 : Int)) (by omega) hom
          rw [hz3, ← HO.out]; exact this
        have hfz := P3.out.own.frozen
        have hbz := P3.out.own.lt
        obtain ⟨ux, eu⟩ := P3.out.own.cell (o + q * 5 + 3) (by have := HO.out; omega)
        go_upto_region 11 with fail
        rw [← hz3]
        clear hz3 hfz hbz eu
        obtain ⟨k3, hk3⟩ : ∃ k3 : Nat, k3 = k2 + 1 := ⟨_, rfl⟩
        have hkc3 : (k2 : Int) + 1 = (k3 : Int) := by omega
        have HK3 := uh hk3
        have kb3 : 1 ≤ k3 ∧ k3 ≤ 4000000000000000000 := by have := HCN.out; have := HK0.out; have := HK1.out; have := HK2.out; have := HK3.out; omega
        obtain ⟨kl3, ku3⟩ := kb3
        clear hk3
        go_upto_region 12 with fail
        clear hkc3
        obtain ⟨y4, hz4⟩ : ∃ y, y = y3.setCell ⟨p, o + q * 5 + 4, none⟩ (.int .i64 (k3 : Int)) := ⟨_, rfl⟩
        have P5 : Hid (Pg wr y4 p off 5 u m [.string (mt kq), .string (mt k0), .string (mt k1), .int .i64 (k2 : Int), .int .i64 (k3 : Int)] (· ∈ ([] : List Nat))) := by
          have := P4.out.store 4 (.int .i64 (k3 : Int)) (by omega) hom
          rw [hz4, ← HO.out]; exact this
        have hfz := P4.out.own.frozen
        have hbz := P4.out.own.lt
        obtain ⟨ux, eu⟩ := P4.out.own.cell (o + q * 5 + 4) (by have := HO.out; omega)
        go_upto_region 13 with fail
        rw [← hz4]
        clear hz4 hfz hbz eu
        obtain ⟨k4, hk4⟩ : ∃ k4 : Nat, k4 = k3 + 1 := ⟨_, rfl⟩
        have hkc4 : (k3 : Int) + 1 = (k4 : Int) := by omega
        have HK4 := uh hk4
        have kb4 : 1 ≤ k4 ∧ k4 ≤ 4000000000000000000 := by have := HCN.out; have := HK0.out; have := HK1.out; have := HK2.out; have := HK3.out; have := HK4.out; omega
        obtain ⟨kl4, ku4⟩ := kb4
        clear hk4
        have HF : Hid (Marks (· ∈ p :: G) w y4 ∧ Row y4 shGatePurse p o n u m G (mkL k (es.take ((q + 1) * 5)) ++ es.drop ((q + 1) * 5)) ∧ k4 = k + cntL (es.take ((q + 1) * 5))) := by
          have hmk : mkL kq [.s a0, .s a1, .s a2, .i a3, .i a4] = [.s (mt kq), .s (mt k0), .s (mt k1), .i (k2 : Int), .i (k3 : Int)] := by simp only [mkL, HK0.out, HK1.out, HK2.out, HK3.out]
          have hs : ∀ b, b ∈ ([] : List Nat) → b ∈ ([] : List Nat) := by intro b hb; cases hb
          refine ⟨HM.out.trans (P5.out.mks.mono ?_), ?_, ?_⟩
          · rintro b (rfl | e)
            · simp
            · exact List.mem_cons_of_mem _ (HSU.out b (hs b e))
          · have := HC.out y4 _ _ (by have := P5.out.mono hs; rw [HO.out] at this; exact this) (repGatePurse_mk _ _ _ _ _)
            rw [← HH.out, hmk]; exact this
          · have := HNX.out; simp only [cntL] at this; have := HK0.out; have := HK1.out; have := HK2.out; have := HK3.out; have := HK4.out; omega
        clear HC HH HM
        go_wp2
        go_roundw
        case rel => exact ⟨q + 1, by omega, by go_num, by rw [← HF.out.2.2], HF.out.1, HF.out.2.1⟩
        case measure => simp [intOf]; omega
      · obtain rfl : q = n := by omega
        have el_ : es.length = q * 5 := HT.out.rows
        rw [← el_, List.take_length, List.drop_length, List.append_nil] at HW
        rw [← el_, List.take_length]
        go_wp2
        go_ret
        exact ⟨rfl, HM.out, Rep.of_row HW.out HNC.out⟩
set_option maxRecDepth 8000 in
set_option maxHeartbeats 8000000 in
theorem markGateBook (F : List Nat) (ds : List Dt) (cs : List Value) (k : Nat) (w : World) (h : Rep w false shGateBook F ds cs) (hnd : F.Nodup) (h1 : 1 ≤ k) (hk : k + cntT ds ≤ 4000000000000000000) :
    Calls Try.prog 28 #[.agg cs.toArray, .int .i64 (k : Int)] w fun e w' => e = .returned (.int .i64 ((k + cntT ds : Nat) : Int)) ∧ Marks (· ∈ F) w w' ∧ Rep w' false shGateBook F (mkT k ds) cs := by
  obtain ⟨a0, a1, a2, F3, n3, e3, v3, F4, n4, e4, v4, F5, n5, e5, v5, F6, n6, e6, v6, rfl, rfl, hcs, r3, r4, r5, r6⟩ := segRepGateBook h
  have HCS := uh hcs
  simp only [cntT] at hk ⊢
  obtain ⟨nd3, ndr3, dj3⟩ := nd_app hnd
  have ND3 := uh nd3
  have DJ3 := uh dj3
  have LT3 := uh r3.lt
  obtain ⟨nd4, ndr4, dj4⟩ := nd_app ndr3
  have ND4 := uh nd4
  have DJ4 := uh dj4
  have LT4 := uh r4.lt
  obtain ⟨nd5, ndr5, dj5⟩ := nd_app ndr4
  have ND5 := uh nd5
  have DJ5 := uh dj5
  have LT5 := uh r5.lt
  obtain ⟨nd6, ndr6, dj6⟩ := nd_app ndr5
  have ND6 := uh nd6
  have DJ6 := uh dj6
  have LT6 := uh r6.lt
  clear hnd nd3 ndr3 dj3 nd4 ndr4 dj4 nd5 ndr5 dj5 nd6 ndr6 dj6
  obtain ⟨wa, hwa⟩ : ∃ wa, wa = w.alloc (.cells cs.toArray 32) := ⟨_, rfl⟩
  have HB : Hid (Below w.heap.size w wa) := by show Below _ _ _; rw [hwa]; exact blw_alloc (Below.refl _ _) _
  have HX : Hid (LBox wa w.heap.size cs) := by show LBox _ _ _; rw [hwa]; exact LBox.new w cs.toArray _ _ rfl
  have R3 := uh (r3.later HB.out)
  have R4 := uh (r4.later HB.out)
  have R5 := uh (r5.later HB.out)
  have R6 := uh (r6.later HB.out)
  have HM := uh (Marks.of_below (· ∈ ([] : List Nat)) HB.out)
  have HKK := uh hk
  clear hcs hk h r3 r4 r5 r6
  go_enter Try.func28, Try.ntmps28
  go_upto_region 1 with fail
  rw [← hwa]
  clear hwa
  have hbz := HX.out.lt
  have hbx := boxGateBook  (by have := HX.out.at_; rw [HCS.out] at this; exact this)
  have gc := hbx.2.2.2.1
  clear hbx
  obtain ⟨k3, hk3⟩ : ∃ k3 : Nat, k3 = k + cntL e3 := ⟨_, rfl⟩
  have HK3 := uh hk3
  have kb3 : 1 ≤ k3 ∧ k3 ≤ 4000000000000000000 := by have := HKK.out; have := HK3.out; omega
  obtain ⟨kl3, ku3⟩ := kb3
  clear hk3
  obtain ⟨va3, vc3, hva⟩ := R3.out.raw.len0
  subst hva
  go_wp2_with fail
  refine (markGateObjectS F3 n3 e3 (.slice va3 n3 vc3) k wa R3.out ND3.out (by omega) (by have := HK3.out; omega)).mono ?_
  rintro e x3 ⟨he, hb3, rr3⟩
  rw [← HK3.out] at he
  subst he
  replace HX := uh (HX.out.mks hb3 (fun e => Nat.lt_irrefl _ (LT3.out _ e)))
  replace HM := uh ((HM.out.mono (fun b (e : b ∈ ([] : List Nat)) => List.mem_append_left F3 e)).trans (hb3.mono (fun b (e : b ∈ F3) => List.mem_append_right ([] : List Nat) e)))
  replace R4 := uh (R4.out.keep hb3 (fun b hb e => DJ3.out b e (by simp [hb])))
  replace R5 := uh (R5.out.keep hb3 (fun b hb e => DJ3.out b e (by simp [hb])))
  replace R6 := uh (R6.out.keep hb3 (fun b hb e => DJ3.out b e (by simp [hb])))
  replace R3 := uh rr3
  clear gc hbz hb3 rr3
  have hbz := HX.out.lt
  have hbx := boxGateBook  (by have := HX.out.at_; rw [HCS.out] at this; exact this)
  have gc := hbx.2.2.2.2.1
  clear hbx
  obtain ⟨k4, hk4⟩ : ∃ k4 : Nat, k4 = k3 + cntL e4 := ⟨_, rfl⟩
  have HK4 := uh hk4
  have kb4 : 1 ≤ k4 ∧ k4 ≤ 4000000000000000000 := by have := HKK.out; have := HK3.out; have := HK4.out; omega
  obtain ⟨kl4, ku4⟩ := kb4
  clear hk4
  obtain ⟨va4, vc4, hva⟩ := R4.out.raw.len0
  subst hva
  go_wp2_with fail
  refine (markGateGrantS F4 n4 e4 (.slice va4 n4 vc4) k3 x3 R4.out ND4.out (by omega) (by have := HK4.out; omega)).mono ?_
  rintro e x4 ⟨he, hb4, rr4⟩
  rw [← HK4.out] at he
  subst he
  replace HX := uh (HX.out.mks hb4 (fun e => Nat.lt_irrefl _ (LT4.out _ e)))
  replace HM := uh ((HM.out.mono (fun b (e : b ∈ (([] : List Nat) ++ F3)) => List.mem_append_left F4 e)).trans (hb4.mono (fun b (e : b ∈ F4) => List.mem_append_right (([] : List Nat) ++ F3) e)))
  replace R3 := uh (R3.out.keep hb4 (fun b hb e => DJ3.out b hb (by simp [e])))
  replace R5 := uh (R5.out.keep hb4 (fun b hb e => DJ4.out b e (by simp [hb])))
  replace R6 := uh (R6.out.keep hb4 (fun b hb e => DJ4.out b e (by simp [hb])))
  replace R4 := uh rr4
  clear gc hbz hb4 rr4
  have hbz := HX.out.lt
  have hbx := boxGateBook  (by have := HX.out.at_; rw [HCS.out] at this; exact this)
  have gc := hbx.2.2.2.2.2.1
  clear hbx
  obtain ⟨k5, hk5⟩ : ∃ k5 : Nat, k5 = k4 + cntL e5 := ⟨_, rfl⟩
  have HK5 := uh hk5
  have kb5 : 1 ≤ k5 ∧ k5 ≤ 4000000000000000000 := by have := HKK.out; have := HK3.out; have := HK4.out; have := HK5.out; omega
  obtain ⟨kl5, ku5⟩ := kb5
  clear hk5
  obtain ⟨va5, vc5, hva⟩ := R5.out.raw.len0
  subst hva
  go_wp2_with fail
  refine (markGateLedgerS F5 n5 e5 (.slice va5 n5 vc5) k4 x4 R5.out ND5.out (by omega) (by have := HK5.out; omega)).mono ?_
  rintro e x5 ⟨he, hb5, rr5⟩
  rw [← HK5.out] at he
  subst he
  replace HX := uh (HX.out.mks hb5 (fun e => Nat.lt_irrefl _ (LT5.out _ e)))
  replace HM := uh ((HM.out.mono (fun b (e : b ∈ ((([] : List Nat) ++ F3) ++ F4)) => List.mem_append_left F5 e)).trans (hb5.mono (fun b (e : b ∈ F5) => List.mem_append_right ((([] : List Nat) ++ F3) ++ F4) e)))
  replace R3 := uh (R3.out.keep hb5 (fun b hb e => DJ3.out b hb (by simp [e])))
  replace R4 := uh (R4.out.keep hb5 (fun b hb e => DJ4.out b hb (by simp [e])))
  replace R6 := uh (R6.out.keep hb5 (fun b hb e => DJ5.out b e (by simp [hb])))
  replace R5 := uh rr5
  clear gc hbz hb5 rr5
  have hbz := HX.out.lt
  have hbx := boxGateBook  (by have := HX.out.at_; rw [HCS.out] at this; exact this)
  have gc := hbx.2.2.2.2.2.2
  clear hbx
  obtain ⟨k6, hk6⟩ : ∃ k6 : Nat, k6 = k5 + cntL e6 := ⟨_, rfl⟩
  have HK6 := uh hk6
  have kb6 : 1 ≤ k6 ∧ k6 ≤ 4000000000000000000 := by have := HKK.out; have := HK3.out; have := HK4.out; have := HK5.out; have := HK6.out; omega
  obtain ⟨kl6, ku6⟩ := kb6
  clear hk6
  obtain ⟨va6, vc6, hva⟩ := R6.out.raw.len0
  subst hva
  go_wp2_with fail
  refine (markGatePurseS F6 n6 e6 (.slice va6 n6 vc6) k5 x5 R6.out ND6.out (by omega) (by have := HK6.out; omega)).mono ?_
  rintro e x6 ⟨he, hb6, rr6⟩
  rw [← HK6.out] at he
  subst he
  replace HX := uh (HX.out.mks hb6 (fun e => Nat.lt_irrefl _ (LT6.out _ e)))
  replace HM := uh ((HM.out.mono (fun b (e : b ∈ (((([] : List Nat) ++ F3) ++ F4) ++ F5)) => List.mem_append_left F6 e)).trans (hb6.mono (fun b (e : b ∈ F6) => List.mem_append_right (((([] : List Nat) ++ F3) ++ F4) ++ F5) e)))
  replace R3 := uh (R3.out.keep hb6 (fun b hb e => DJ3.out b hb (by simp [e])))
  replace R4 := uh (R4.out.keep hb6 (fun b hb e => DJ4.out b hb (by simp [e])))
  replace R5 := uh (R5.out.keep hb6 (fun b hb e => DJ5.out b hb (by simp [e])))
  replace R6 := uh rr6
  clear gc hbz hb6 rr6
  go_wp2
  go_ret
  refine ⟨Pl.ret_int (by have := HKK.out; have := HK3.out; have := HK4.out; have := HK5.out; have := HK6.out; omega), HM.out.mono (fun b (e : b ∈ ((((([] : List Nat) ++ F3) ++ F4) ++ F5) ++ F6)) => by simpa [or_assoc] using e), ?_⟩
  have := segRepGateBook_mk a0 a1 a2 R3.out R4.out R5.out R6.out
  rw [← HCS.out] at this
  simp only [mkT]
  simpa only [HK3.out, HK4.out, HK5.out, HK6.out, Nat.add_zero] using this
end Go.Proofs.Ytkehaeppnmlafaa
