/-
  Marks of lists of messages, of acks.
-/
import Derived.Test.YtfkkohfjkofgnaaGreatKMa
namespace Go.Proofs.YtfkkohfjkofgnaaGreat
open Go.RowKit Go.Deep

set_option maxRecDepth 8000 in
set_option maxHeartbeats 8000000 in
theorem markRecMessageS (F : List Nat) (n : Nat) (es : List Dt) (v : Value) (k : Nat) (w : World) (h : Rep w false [.row 120 shRecMessage] F [.row n es] [v]) (hnd : F.Nodup) (h1 : 1 ≤ k) (hk : k + cntL es ≤ 4000000000000000000) :
    Calls Tryz.prog 61 #[v, .int .i64 (k : Int)] w fun e w' => e = .returned (.int .i64 ((k + cntL es : Nat) : Int)) ∧ Marks (· ∈ F) w w' ∧ Rep w' false [.row 120 shRecMessage] F [.row n (mkL k es)] [v] := by
  rcases h.slice with ⟨_, rfl, rfl, rfl, a, rfl⟩ | ⟨p, o, c, u, m, G, rfl, rfl, hn, ho, hm, _, vs, hr, hR⟩
  · go_enter Tryz.func61, Tryz.ntmps61
    go_wp2
    refine wp_loop_rounds 1 ?_
    rw [rounds_succ]
    go_wp2
    go_ret
    exact ⟨by simp [cntL], Marks.refl _ _, by rw [mkL]; exact Rep.emp _ _ a rfl .nil⟩
  · have HT : Hid (Typ (reps n shRecMessage) es) := hR.raw.typ
    have HR : Hid (Row w shRecMessage p o n u m G es) := ⟨ho, hm, vs, hr, hR⟩
    have HND : Hid ((p :: G).Nodup) := hnd
    have hn1 : n ≤ 9223372036854775807 := hn.1
    have HNC := uh hn
    have hmm : o + n * 8 ≤ m := hm
    clear hr hR ho hm hnd h hn vs
    go_enter Tryz.func61, Tryz.ntmps61
    go_wp2
    go_loopw [1, 5] (fun kk i wr => ∃ q : Nat, q ≤ n ∧ i = .int .i64 (q : Int) ∧ kk = .int .i64 ((k + cntL (es.take (q * 8)) : Nat) : Int) ∧ Marks (· ∈ p :: G) w wr ∧ Row wr shRecMessage p o n u m G (mkL k (es.take (q * 8)) ++ es.drop (q * 8))) (fun _ i _ => n - (intOf i).toNat)
    case atStart => exact ⟨0, Nat.zero_le _, rfl, by simp [cntL], Marks.refl _ _, by simpa [mkL] using HR.out⟩
    case round =>
      obtain ⟨q, hq, rfl, rfl, hM, hRow⟩ := hrel
      have HM := uh hM
      have HW := uh hRow
      clear hM hRow
      by_cases hlt : q < n
      · obtain ⟨Ge, ve, hE, hrng, hpG, hndE, hsub, hclose⟩ := HW.out.open HND.out q hlt
        obtain ⟨d, hd⟩ : ∃ d, d = el 8 q es := ⟨_, rfl⟩
        have hte : Typ shRecMessage d := by rw [hd]; exact HT.out.el hlt
        have hE2 : Rep wr false shRecMessage Ge d ve := by
          have ee : el 8 q (mkL k (es.take (q * 8)) ++ es.drop (q * 8)) = el 8 q es := half_el (sh := shRecMessage) HT.out hlt
          have hh : Rep wr false shRecMessage Ge (el 8 q (mkL k (es.take (q * 8)) ++ es.drop (q * 8))) ve := hE
          rw [ee, ← hd] at hh; exact hh
        have hcn : k + cntL (es.take (q * 8)) + cntL d ≤ 4000000000000000000 := by rw [hd]; have := @cnt_el q 8 es; omega
        have hnx : cntL (es.take ((q + 1) * 8)) = cntL (es.take (q * 8)) + cntL d := by rw [hd]; exact cnt_next (sh := shRecMessage) HT.out hlt
        have hhn : (mkL k (es.take (q * 8)) ++ es.drop (q * 8)).take (q * 8) ++ (mkL (k + cntL (es.take (q * 8))) d ++ (mkL k (es.take (q * 8)) ++ es.drop (q * 8)).drop (q * 8 + 8)) = mkL k (es.take ((q + 1) * 8)) ++ es.drop ((q + 1) * 8) := by rw [hd]; exact half_next (sh := shRecMessage) HT.out hlt
        clear hE hd
        obtain ⟨kq, hkq⟩ : ∃ kq : Nat, kq = k + cntL (es.take (q * 8)) := ⟨_, rfl⟩
        rw [← hkq] at hcn hhn ⊢
        have HNX : Hid (k + cntL (es.take ((q + 1) * 8)) = kq + cntL d) := by show _ = _; omega
        obtain ⟨a0, a1, a2, a3, a4, a5, a6, n7, e7, rfl, t7⟩ := typRecMessage hte
        obtain ⟨F7, v7, rfl, rfl, r7⟩ := repRecMessage hE2
        have hkq1 : 1 ≤ kq := by omega
        have hkq2 : kq ≤ 4000000000000000000 := by omega
        simp only [cntL] at hcn
        have HCN := uh hcn
        clear hcn
        clear hE2 hte hkq hnx
        obtain ⟨off, hoff⟩ : ∃ off, off = o + q * 8 := ⟨_, rfl⟩
        have hom : off + 8 ≤ m := by have : q * 8 + 8 ≤ n * 8 := by omega
                                     omega
        have P0 : Hid (Pg wr wr p off 8 u m [.int .i64 a0, .int .i64 a1, .int .i64 a2, .int .i64 a3, .int .i64 a4, .int .i64 a5, .string a6, v7] (· ∈ ([] : List Nat))) := Pg.refl _ HW.out.own (by rw [hoff]; exact hrng)
        have HC := uh hclose
        have HH := uh hhn
        have HO : Hid (off = o + q * 8) := hoff
        have HPG := uh hpG; have HNE := uh hndE
        have HSU := uh hsub
        clear hclose hhn hrng hpG hndE hsub HW
        have hm0 : (0 : Int) ≤ (q : Int) := by omega
        have hm3 : (q : Int) < (n : Int) := by omega
        have R7 := uh r7
        clear r7
        have nd := HNE.out
        obtain ⟨nd7, ndr7, dj7⟩ := nd_app nd
        have ND7 := uh nd7
        have DJ7 := uh dj7
        clear nd nd7 ndr7 dj7
        obtain ⟨y0, hz0⟩ : ∃ y, y = wr.setCell ⟨p, o + q * 8, none⟩ (.int .i64 (kq : Int)) := ⟨_, rfl⟩
        have P1 : Hid (Pg wr y0 p off 8 u m [.int .i64 (kq : Int), .int .i64 a1, .int .i64 a2, .int .i64 a3, .int .i64 a4, .int .i64 a5, .string a6, v7] (· ∈ ([] : List Nat))) := by
          have := P0.out.store 0 (.int .i64 (kq : Int)) (by omega) hom
          rw [hz0, ← HO.out]; exact this
        have hfz := P0.out.own.frozen
        have hbz := P0.out.own.lt
        obtain ⟨ux, eu⟩ := P0.out.own.cell (o + q * 8) (by have := HO.out; omega)
        go_upto_region 5 with fail
        rw [← hz0]
        clear hz0 hfz hbz eu
        obtain ⟨k0, hk0⟩ : ∃ k0 : Nat, k0 = kq + 1 := ⟨_, rfl⟩
        have hkc0 : (kq : Int) + 1 = (k0 : Int) := by omega
        have HK0 := uh hk0
        have kb0 : 1 ≤ k0 ∧ k0 ≤ 4000000000000000000 := by have := HCN.out; have := HK0.out; omega
        obtain ⟨kl0, ku0⟩ := kb0
        clear hk0
        go_upto_region 6 with fail
        clear hkc0
        obtain ⟨y1, hz1⟩ : ∃ y, y = y0.setCell ⟨p, o + q * 8 + 1, none⟩ (.int .i64 (k0 : Int)) := ⟨_, rfl⟩
        have P2 : Hid (Pg wr y1 p off 8 u m [.int .i64 (kq : Int), .int .i64 (k0 : Int), .int .i64 a2, .int .i64 a3, .int .i64 a4, .int .i64 a5, .string a6, v7] (· ∈ ([] : List Nat))) := by
          have := P1.out.store 1 (.int .i64 (k0 : Int)) (by omega) hom
          rw [hz1, ← HO.out]; exact this
        have hfz := P1.out.own.frozen
        have hbz := P1.out.own.lt
        obtain ⟨ux, eu⟩ := P1.out.own.cell (o + q * 8 + 1) (by have := HO.out; omega)
        go_upto_region 7 with fail
        rw [← hz1]
        clear hz1 hfz hbz eu
        obtain ⟨k1, hk1⟩ : ∃ k1 : Nat, k1 = k0 + 1 := ⟨_, rfl⟩
        have hkc1 : (k0 : Int) + 1 = (k1 : Int) := by omega
        have HK1 := uh hk1
        have kb1 : 1 ≤ k1 ∧ k1 ≤ 4000000000000000000 := by have := HCN.out; have := HK0.out; have := HK1.out; omega
        obtain ⟨kl1, ku1⟩ := kb1
        clear hk1
        go_upto_region 8 with fail
        clear hkc1
        obtain ⟨y2, hz2⟩ : ∃ y, y = y1.setCell ⟨p, o + q * 8 + 2, none⟩ (.int .i64 (k1 : Int)) := ⟨_, rfl⟩
        have P3 : Hid (Pg wr y2 p off 8 u m [.int .i64 (kq : Int), .int .i64 (k0 : Int), .int .i64 (k1 : Int), .int .i64 a3, .int .i64 a4, .int .i64 a5, .string a6, v7] (· ∈ ([] : List Nat))) := by
          have := P2.out.store 2 (.int .i64 (k1 : Int)) (by omega) hom
          rw [hz2, ← HO.out]; exact this
        have hfz := P2.out.own.frozen
        have hbz := P2.out.own.lt
        obtain ⟨ux, eu⟩ := P2.out.own.cell (o + q * 8 + 2) (by have := HO.out; omega)
        go_upto_region 9 with fail
        rw [← hz2]
        clear hz2 hfz hbz eu
        obtain ⟨k2, hk2⟩ : ∃ k2 : Nat, k2 = k1 + 1 := ⟨_, rfl⟩
        have hkc2 : (k1 : Int) + 1 = (k2 : Int) := by omega
        have HK2 := uh hk2
        have kb2 : 1 ≤ k2 ∧ k2 ≤ 4000000000000000000 := by have := HCN.out; have := HK0.out; have := HK1.out; have := HK2.out; omega
        obtain ⟨kl2, ku2⟩ := kb2
        clear hk2
        go_upto_region 10 with fail
        clear hkc2
        obtain ⟨y3, hz3⟩ : ∃ y, y = y2.setCell ⟨p, o + q * 8 + 3, none⟩ (.int .i64 (k2 : Int)) := ⟨_, rfl⟩
        have P4 : Hid (Pg wr y3 p off 8 u m [.int .i64 (kq : Int), .int .i64 (k0 : Int), .int .i64 (k1 : Int), .int .i64 (k2 : Int), .int .i64 a4, .int .i64 a5, .string a6, v7] (· ∈ ([] : List Nat))) := by
          have := P3.out.store 3 (.int .i64 (k2 : Int)) (by omega) hom
          rw [hz3, ← HO.out]; exact this
        have hfz := P3.out.own.frozen
        have hbz := P3.out.own.lt
        obtain ⟨ux, eu⟩ := P3.out.own.cell (o + q * 8 + 3) (by have := HO.out; omega)
        go_upto_region 11 with fail
        rw [← hz3]
        clear hz3 hfz hbz eu
        obtain ⟨k3, hk3⟩ : ∃ k3 : Nat, k3 = k2 + 1 := ⟨_, rfl⟩
        have hkc3 : (k2 : Int) + 1 = (k3 : Int) := by omega
        have HK3 := uh hk3
        have kb3 : 1 ≤ k3 ∧ k3 ≤ 4000000000000000000 := by have := HCN.out; have := HK0.out; have := HK1.out; have := HK2.out; have := HK3.out; omega
        obtain ⟨kl3, ku3⟩ := kb3
        clear hk3
        go_upto_region 12 with fail
        clear hkc3
        obtain ⟨y4, hz4⟩ : ∃ y, y = y3.setCell ⟨p, o + q * 8 + 4, none⟩ (.int .i64 (k3 : Int)) := ⟨_, rfl⟩
        have P5 : Hid (Pg wr y4 p off 8 u m [.int .i64 (kq : Int), .int .i64 (k0 : Int), .int .i64 (k1 : Int), .int .i64 (k2 : Int), .int .i64 (k3 : Int), .int .i64 a5, .string a6, v7] (· ∈ ([] : List Nat))) := by
          have := P4.out.store 4 (.int .i64 (k3 : Int)) (by omega) hom
          rw [hz4, ← HO.out]; exact this
        have hfz := P4.out.own.frozen
        have hbz := P4.out.own.lt
        obtain ⟨ux, eu⟩ := P4.out.own.cell (o + q * 8 + 4) (by have := HO.out; omega)
        go_upto_region 13 with fail
        rw [← hz4]
        clear hz4 hfz hbz eu
        obtain ⟨k4, hk4⟩ : ∃ k4 : Nat, k4 = k3 + 1 := ⟨_, rfl⟩
        have hkc4 : (k3 : Int) + 1 = (k4 : Int) := by omega
        have HK4 := uh hk4
        have kb4 : 1 ≤ k4 ∧ k4 ≤ 4000000000000000000 := by have := HCN.out; have := HK0.out; have := HK1.out; have := HK2.out; have := HK3.out; have := HK4.out; omega
        obtain ⟨kl4, ku4⟩ := kb4
        clear hk4
        go_upto_region 14 with fail
        clear hkc4
        obtain ⟨y5, hz5⟩ : ∃ y, y = y4.setCell ⟨p, o + q * 8 + 5, none⟩ (.int .i64 (k4 : Int)) := ⟨_, rfl⟩
        have P6 : Hid (Pg wr y5 p off 8 u m [.int .i64 (kq : Int), .int .i64 (k0 : Int), .int .i64 (k1 : Int), .int .i64 (k2 : Int), .int .i64 (k3 : Int), .int .i64 (k4 : Int), .string a6, v7] (· ∈ ([] : List Nat))) := by
          have := P5.out.store 5 (.int .i64 (k4 : Int)) (by omega) hom
          rw [hz5, ← HO.out]; exact this
        have hfz := P5.out.own.frozen
        have hbz := P5.out.own.lt
        obtain ⟨ux, eu⟩ := P5.out.own.cell (o + q * 8 + 5) (by have := HO.out; omega)
        go_upto_region 15 with fail
        rw [← hz5]
        clear hz5 hfz hbz eu
        obtain ⟨k5, hk5⟩ : ∃ k5 : Nat, k5 = k4 + 1 := ⟨_, rfl⟩
        have hkc5 : (k4 : Int) + 1 = (k5 : Int) := by omega
        have HK5 := uh hk5
        have kb5 : 1 ≤ k5 ∧ k5 ≤ 4000000000000000000 := by have := HCN.out; have := HK0.out; have := HK1.out; have := HK2.out; have := HK3.out; have := HK4.out; have := HK5.out; omega
        obtain ⟨kl5, ku5⟩ := kb5
        clear hk5
        go_upto_region 16 with fail
        clear hkc5
        go_wp2_with fail
        refine (markText k5 y5 (by omega) (by omega)).mono ?_
        rintro e x6 ⟨rfl, hb6⟩
        have Q7 := uh (P6.out.later hb6)
        clear hb6
        obtain ⟨y6, hz6⟩ : ∃ y, y = x6.setCell ⟨p, o + q * 8 + 6, none⟩ (.string (mt k5)) := ⟨_, rfl⟩
        have P7 : Hid (Pg wr y6 p off 8 u m [.int .i64 (kq : Int), .int .i64 (k0 : Int), .int .i64 (k1 : Int), .int .i64 (k2 : Int), .int .i64 (k3 : Int), .int .i64 (k4 : Int), .string (mt k5), v7] (· ∈ ([] : List Nat))) := by
          have := Q7.out.store 6 (.string (mt k5)) (by omega) hom
          rw [hz6, ← HO.out]; exact this
        have hfz := Q7.out.own.frozen
        have hbz := Q7.out.own.lt
        obtain ⟨ux, eu⟩ := Q7.out.own.cell (o + q * 8 + 6) (by have := HO.out; omega)
        go_upto_region 17 with fail
        rw [← hz6]
        clear hz6 hfz hbz eu
        obtain ⟨k6, hk6⟩ : ∃ k6 : Nat, k6 = k5 + 1 := ⟨_, rfl⟩
        have hkc6 : (k5 : Int) + 1 = (k6 : Int) := by omega
        have HK6 := uh hk6
        have kb6 : 1 ≤ k6 ∧ k6 ≤ 4000000000000000000 := by have := HCN.out; have := HK0.out; have := HK1.out; have := HK2.out; have := HK3.out; have := HK4.out; have := HK5.out; have := HK6.out; omega
        obtain ⟨kl6, ku6⟩ := kb6
        clear hk6
        go_upto_region 18 with fail
        clear hkc6
        have hbz := P7.out.own.lt
        have K7 : Hid (Rep y6 false [.row 139 shRecSlot] F7 [.row n7 e7] [v7]) := by
          refine R7.out.keep P7.out.mks ?_
          rintro b hb (rfl | e)
          · exact HPG.out (by simp [hb])
          · cases e
        obtain ⟨va7, vc7, hva⟩ := K7.out.raw.len0
        subst hva
        have gc := rA_get P7.out.at_ 7 _ rfl
        rw [HO.out] at gc
        obtain ⟨k7, hk7⟩ : ∃ k7 : Nat, k7 = k6 + cntL e7 := ⟨_, rfl⟩
        have HK7 := uh hk7
        have kb7 : 1 ≤ k7 ∧ k7 ≤ 4000000000000000000 := by have := HCN.out; have := HK0.out; have := HK1.out; have := HK2.out; have := HK3.out; have := HK4.out; have := HK5.out; have := HK6.out; have := HK7.out; omega
        obtain ⟨kl7, ku7⟩ := kb7
        clear hk7
        go_wp2_with fail
        refine (markRecSlotS F7 n7 e7 (.slice va7 n7 vc7) k6 y6 K7.out ND7.out (by omega) (by have := HK7.out; omega)).mono ?_
        rintro e x7 ⟨he, hb7, rr7⟩
        rw [← HK7.out] at he
        subst he
        have P8 := uh (P7.out.grow hb7 (fun e => HPG.out (by simp [e])))
        have D7 := uh rr7
        clear gc hbz rr7 hb7 K7
        have HF : Hid (Marks (· ∈ p :: G) w x7 ∧ Row x7 shRecMessage p o n u m G (mkL k (es.take ((q + 1) * 8)) ++ es.drop ((q + 1) * 8)) ∧ k7 = k + cntL (es.take ((q + 1) * 8))) := by
          have hmk : mkL kq [.i a0, .i a1, .i a2, .i a3, .i a4, .i a5, .s a6, .row n7 e7] = [.i (kq : Int), .i (k0 : Int), .i (k1 : Int), .i (k2 : Int), .i (k3 : Int), .i (k4 : Int), .s (mt k5), .row n7 (mkL k6 e7)] := by simp only [mkL, HK0.out, HK1.out, HK2.out, HK3.out, HK4.out, HK5.out, HK6.out]
          have hs : ∀ b, b ∈ (([] : List Nat) ++ F7) → b ∈ (F7 ++ [] : List Nat) := by intro b hb; simpa using hb
          refine ⟨HM.out.trans (P8.out.mks.mono ?_), ?_, ?_⟩
          · rintro b (rfl | e)
            · simp
            · exact List.mem_cons_of_mem _ (HSU.out b (hs b e))
          · have := HC.out x7 _ _ (by have := P8.out.mono hs; rw [HO.out] at this; exact this) (repRecMessage_mk _ _ _ _ _ _ _ D7.out)
            rw [← HH.out, hmk]; exact this
          · have := HNX.out; simp only [cntL] at this; have := HK0.out; have := HK1.out; have := HK2.out; have := HK3.out; have := HK4.out; have := HK5.out; have := HK6.out; have := HK7.out; omega
        clear HC HH HM
        go_wp2
        go_roundw
        case rel => exact ⟨q + 1, by omega, by go_num, by rw [← HF.out.2.2], HF.out.1, HF.out.2.1⟩
        case measure => simp [intOf]; omega
      · obtain rfl : q = n := by omega
        have el_ : es.length = q * 8 := HT.out.rows
        rw [← el_, List.take_length, List.drop_length, List.append_nil] at HW
        rw [← el_, List.take_length]
        go_wp2
        go_ret
        exact ⟨rfl, HM.out, Rep.of_row HW.out HNC.out⟩
set_option maxRecDepth 8000 in
set_option maxHeartbeats 8000000 in
theorem markRecAckS (F : List Nat) (n : Nat) (es : List Dt) (v : Value) (k : Nat) (w : World) (h : Rep w false [.row 141 shRecAck] F [.row n es] [v]) (hnd : F.Nodup) (h1 : 1 ≤ k) (hk : k + cntL es ≤ 4000000000000000000) :
    Calls Tryz.prog 86 #[v, .int .i64 (k : Int)] w fun e w' => e = .returned (.int .i64 ((k + cntL es : Nat) : Int)) ∧ Marks (· ∈ F) w w' ∧ Rep w' false [.row 141 shRecAck] F [.row n (mkL k es)] [v] := by
  rcases h.slice with ⟨_, rfl, rfl, rfl, a, rfl⟩ | ⟨p, o, c, u, m, G, rfl, rfl, hn, ho, hm, _, vs, hr, hR⟩
  · go_enter Tryz.func86, Tryz.ntmps86
    go_wp2
    refine wp_loop_rounds 1 ?_
    rw [rounds_succ]
    go_wp2
    go_ret
    exact ⟨by simp [cntL], Marks.refl _ _, by rw [mkL]; exact Rep.emp _ _ a rfl .nil⟩
  · have HT : Hid (Typ (reps n shRecAck) es) := hR.raw.typ
    have HR : Hid (Row w shRecAck p o n u m G es) := ⟨ho, hm, vs, hr, hR⟩
    have HND : Hid ((p :: G).Nodup) := hnd
    have hn1 : n ≤ 9223372036854775807 := hn.1
    have HNC := uh hn
    have hmm : o + n * 2 ≤ m := hm
    clear hr hR ho hm hnd h hn vs
    go_enter Tryz.func86, Tryz.ntmps86
    go_wp2
    go_loopw [1, 5] (fun kk i wr => ∃ q : Nat, q ≤ n ∧ i = .int .i64 (q : Int) ∧ kk = .int .i64 ((k + cntL (es.take (q * 2)) : Nat) : Int) ∧ Marks (· ∈ p :: G) w wr ∧ Row wr shRecAck p o n u m G (mkL k (es.take (q * 2)) ++ es.drop (q * 2))) (fun _ i _ => n - (intOf i).toNat)
    case atStart => exact ⟨0, Nat.zero_le _, rfl, by simp [cntL], Marks.refl _ _, by simpa [mkL] using HR.out⟩
    case round =>
      obtain ⟨q, hq, rfl, rfl, hM, hRow⟩ := hrel
      have HM := uh hM
      have HW := uh hRow
      clear hM hRow
      by_cases hlt : q < n
      · obtain ⟨Ge, ve, hE, hrng, hpG, hndE, hsub, hclose⟩ := HW.out.open HND.out q hlt
        obtain ⟨d, hd⟩ : ∃ d, d = el 2 q es := ⟨_, rfl⟩
        have hte : Typ shRecAck d := by rw [hd]; exact HT.out.el hlt
        have hE2 : Rep wr false shRecAck Ge d ve := by
          have ee : el 2 q (mkL k (es.take (q * 2)) ++ es.drop (q * 2)) = el 2 q es := half_el (sh := shRecAck) HT.out hlt
          have hh : Rep wr false shRecAck Ge (el 2 q (mkL k (es.take (q * 2)) ++ es.drop (q * 2))) ve := hE
          rw [ee, ← hd] at hh; exact hh
        have hcn : k + cntL (es.take (q * 2)) + cntL d ≤ 4000000000000000000 := by rw [hd]; have := @cnt_el q 2 es; omega
        have hnx : cntL (es.take ((q + 1) * 2)) = cntL (es.take (q * 2)) + cntL d := by rw [hd]; exact cnt_next (sh := shRecAck) HT.out hlt
        have hhn : (mkL k (es.take (q * 2)) ++ es.drop (q * 2)).take (q * 2) ++ (mkL (k + cntL (es.take (q * 2))) d ++ (mkL k (es.take (q * 2)) ++ es.drop (q * 2)).drop (q * 2 + 2)) = mkL k (es.take ((q + 1) * 2)) ++ es.drop ((q + 1) * 2) := by rw [hd]; exact half_next (sh := shRecAck) HT.out hlt
        clear hE hd
        obtain ⟨kq, hkq⟩ : ∃ kq : Nat, kq = k + cntL (es.take (q * 2)) := ⟨_, rfl⟩
        rw [← hkq] at hcn hhn ⊢
        have HNX : Hid (k + cntL (es.take ((q + 1) * 2)) = kq + cntL d) := by show _ = _; omega
        obtain ⟨a0, n1, e1, rfl, t1⟩ := typRecAck hte
        obtain ⟨F1, v1, rfl, rfl, r1⟩ := repRecAck hE2
        have hkq1 : 1 ≤ kq := by omega
        have hkq2 : kq ≤ 4000000000000000000 := by omega
        simp only [cntL] at hcn
        have HCN := uh hcn
        clear hcn
        clear hE2 hte hkq hnx
        obtain ⟨off, hoff⟩ : ∃ off, off = o + q * 2 := ⟨_, rfl⟩
        have hom : off + 2 ≤ m := by have : q * 2 + 2 ≤ n * 2 := by omega
                                     omega
        have P0 : Hid (Pg wr wr p off 2 u m [.int .i64 a0, v1] (· ∈ ([] : List Nat))) := Pg.refl _ HW.out.own (by rw [hoff]; exact hrng)
        have HC := uh hclose
        have HH := uh hhn
        have HO : Hid (off = o + q * 2) := hoff
        have HPG := uh hpG; have HNE := uh hndE
        have HSU := uh hsub
        clear hclose hhn hrng hpG hndE hsub HW
        have hm0 : (0 : Int) ≤ (q : Int) := by omega
        have hm3 : (q : Int) < (n : Int) := by omega
        have R1 := uh r1
        clear r1
        have nd := HNE.out
        obtain ⟨nd1, ndr1, dj1⟩ := nd_app nd
        have ND1 := uh nd1
        have DJ1 := uh dj1
        clear nd nd1 ndr1 dj1
        obtain ⟨y0, hz0⟩ : ∃ y, y = wr.setCell ⟨p, o + q * 2, none⟩ (.int .i64 (kq : Int)) := ⟨_, rfl⟩
        have P1 : Hid (Pg wr y0 p off 2 u m [.int .i64 (kq : Int), v1] (· ∈ ([] : List Nat))) := by
          have := P0.out.store 0 (.int .i64 (kq : Int)) (by omega) hom
          rw [hz0, ← HO.out]; exact this
        have hfz := P0.out.own.frozen
        have hbz := P0.out.own.lt
        obtain ⟨ux, eu⟩ := P0.out.own.cell (o + q * 2) (by have := HO.out; omega)
        go_upto_region 5 with fail
        rw [← hz0]
        clear hz0 hfz hbz eu
        obtain ⟨k0, hk0⟩ : ∃ k0 : Nat, k0 = kq + 1 := ⟨_, rfl⟩
        have hkc0 : (kq : Int) + 1 = (k0 : Int) := by omega
        have HK0 := uh hk0
        have kb0 : 1 ≤ k0 ∧ k0 ≤ 4000000000000000000 := by have := HCN.out; have := HK0.out; omega
        obtain ⟨kl0, ku0⟩ := kb0
        clear hk0
        go_upto_region 6 with fail
        clear hkc0
        have hbz := P1.out.own.lt
        have K1 : Hid (Rep y0 false [.row 3 [.i]] F1 [.row n1 e1] [v1]) := by
          refine R1.out.keep P1.out.mks ?_
          rintro b hb (rfl | e)
          · exact HPG.out (by simp [hb])
          · cases e
        obtain ⟨va1, vc1, hva⟩ := K1.out.raw.len0
        subst hva
        have gc := rA_get P1.out.at_ 1 _ rfl
        rw [HO.out] at gc
        obtain ⟨k1, hk1⟩ : ∃ k1 : Nat, k1 = k0 + cntL e1 := ⟨_, rfl⟩
        have HK1 := uh hk1
        have kb1 : 1 ≤ k1 ∧ k1 ≤ 4000000000000000000 := by have := HCN.out; have := HK0.out; have := HK1.out; omega
        obtain ⟨kl1, ku1⟩ := kb1
        clear hk1
        go_wp2_with fail
        refine (markIntS F1 n1 e1 (.slice va1 n1 vc1) k0 y0 K1.out ND1.out (by omega) (by have := HK1.out; omega)).mono ?_
        rintro e x1 ⟨he, hb1, rr1⟩
        rw [← HK1.out] at he
        subst he
        have P2 := uh (P1.out.grow hb1 (fun e => HPG.out (by simp [e])))
        have D1 := uh rr1
        clear gc hbz rr1 hb1 K1
        have HF : Hid (Marks (· ∈ p :: G) w x1 ∧ Row x1 shRecAck p o n u m G (mkL k (es.take ((q + 1) * 2)) ++ es.drop ((q + 1) * 2)) ∧ k1 = k + cntL (es.take ((q + 1) * 2))) := by
          have hmk : mkL kq [.i a0, .row n1 e1] = [.i (kq : Int), .row n1 (mkL k0 e1)] := by simp only [mkL, HK0.out]
          have hs : ∀ b, b ∈ (([] : List Nat) ++ F1) → b ∈ (F1 ++ [] : List Nat) := by intro b hb; simpa using hb
          refine ⟨HM.out.trans (P2.out.mks.mono ?_), ?_, ?_⟩
          · rintro b (rfl | e)
            · simp
            · exact List.mem_cons_of_mem _ (HSU.out b (hs b e))
          · have := HC.out x1 _ _ (by have := P2.out.mono hs; rw [HO.out] at this; exact this) (repRecAck_mk _ D1.out)
            rw [← HH.out, hmk]; exact this
          · have := HNX.out; simp only [cntL] at this; have := HK0.out; have := HK1.out; omega
        clear HC HH HM
        go_wp2
        go_roundw
        case rel => exact ⟨q + 1, by omega, by go_num, by rw [← HF.out.2.2], HF.out.1, HF.out.2.1⟩
        case measure => simp [intOf]; omega
      · obtain rfl : q = n := by omega
        have el_ : es.length = q * 2 := HT.out.rows
        rw [← el_, List.take_length, List.drop_length, List.append_nil] at HW
        rw [← el_, List.take_length]
        go_wp2
        go_ret
        exact ⟨rfl, HM.out, Rep.of_row HW.out HNC.out⟩
end Go.Proofs.YtfkkohfjkofgnaaGreat
