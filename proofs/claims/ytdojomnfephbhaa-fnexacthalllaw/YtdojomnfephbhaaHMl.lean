/-
  Marks of laws.
-/
import Derived.Test.YtdojomnfephbhaaHMk
import Derived.Test.YtdojomnfephbhaaUBm
namespace Go.Proofs.Ytdojomnfephbhaa
open Go.RowKit Go.Deep

set_option maxRecDepth 8000 in
set_option maxHeartbeats 8000000 in
theorem markStringS (F : List Nat) (n : Nat) (es : List Dt) (v : Value) (k : Nat) (w : World) (h : Rep w false [.row 9 [.s]] F [.row n es] [v]) (hnd : F.Nodup) (h1 : 1 ≤ k) (hk : k + cntL es ≤ 4000000000000000000) :
    Calls Try.prog 69 #[v, .int .i64 (k : Int)] w fun e w' => e = .returned (.int .i64 ((k + cntL es : Nat) : Int)) ∧ Marks (· ∈ F) w w' ∧ Rep w' false [.row 9 [.s]] F [.row n (mkL k es)] [v] := by
  rcases h.slice with ⟨_, rfl, rfl, rfl, a, rfl⟩ | ⟨p, o, c, u, m, G, rfl, rfl, hn, ho, hm, _, vs, hr, hR⟩
  · go_enter Try.func69, Try.ntmps69
    go_wp2
    refine wp_loop_rounds 1 ?_
    rw [rounds_succ]
    go_wp2
    go_ret
    exact ⟨by simp [cntL], Marks.refl _ _, by rw [mkL]; exact Rep.emp _ _ a rfl .nil⟩
  · have HT : Hid (Typ (reps n [.s]) es) := hR.raw.typ
    have HR : Hid (Row w [.s] p o n u m G es) := ⟨ho, hm, vs, hr, hR⟩
    have HND : Hid ((p :: G).Nodup) := hnd
    have hn1 : n ≤ 9223372036854775807 := hn.1
    have HNC := uh hn
    have hmm : o + n * 1 ≤ m := hm
    clear hr hR ho hm hnd h hn vs
    go_enter Try.func69, Try.ntmps69
    go_wp2
    go_loopw [1, 5] (fun kk i wr => ∃ q : Nat, q ≤ n ∧ i = .int .i64 (q : Int) ∧ kk = .int .i64 ((k + cntL (es.take (q * 1)) : Nat) : Int) ∧ Marks (· ∈ p :: G) w wr ∧ Row wr [.s] p o n u m G (mkL k (es.take (q * 1)) ++ es.drop (q * 1))) (fun _ i _ => n - (intOf i).toNat)
    case atStart => exact ⟨0, Nat.zero_le _, rfl, by simp [cntL], Marks.refl _ _, by simpa [mkL] using HR.out⟩
    case round =>
      obtain ⟨q, hq, rfl, rfl, hM, hRow⟩ := hrel
      have HM := uh hM
      have HW := uh hRow
      clear hM hRow
      by_cases hlt : q < n
      · obtain ⟨Ge, ve, hE, hrng, hpG, hndE, hsub, hclose⟩ := HW.out.open HND.out q hlt
        obtain ⟨d, hd⟩ : ∃ d, d = el 1 q es := ⟨_, rfl⟩
        have hte : Typ [.s] d := by rw [hd]; exact HT.out.el hlt
        have hE2 : Rep wr false [.s] Ge d ve := by
          have ee : el 1 q (mkL k (es.take (q * 1)) ++ es.drop (q * 1)) = el 1 q es := half_el (sh := [.s]) HT.out hlt
          have hh : Rep wr false [.s] Ge (el 1 q (mkL k (es.take (q * 1)) ++ es.drop (q * 1))) ve := hE
          rw [ee, ← hd] at hh; exact hh
        have hcn : k + cntL (es.take (q * 1)) + cntL d ≤ 4000000000000000000 := by rw [hd]; have := @cnt_el q 1 es; omega
        have hnx : cntL (es.take ((q + 1) * 1)) = cntL (es.take (q * 1)) + cntL d := by rw [hd]; exact cnt_next (sh := [.s]) HT.out hlt
        have hhn : (mkL k (es.take (q * 1)) ++ es.drop (q * 1)).take (q * 1) ++ (mkL (k + cntL (es.take (q * 1))) d ++ (mkL k (es.take (q * 1)) ++ es.drop (q * 1)).drop (q * 1 + 1)) = mkL k (es.take ((q + 1) * 1)) ++ es.drop ((q + 1) * 1) := by rw [hd]; exact half_next (sh := [.s]) HT.out hlt
        clear hE hd
        obtain ⟨kq, hkq⟩ : ∃ kq : Nat, kq = k + cntL (es.take (q * 1)) := ⟨_, rfl⟩
        rw [← hkq] at hcn hhn ⊢
        have HNX : Hid (k + cntL (es.take ((q + 1) * 1)) = kq + cntL d) := by show _ = _; omega
        obtain ⟨a0, rfl⟩ := typT1 hte
        obtain ⟨rfl, rfl⟩ := repT1 hE2
        have hkq1 : 1 ≤ kq := by omega
        have hkq2 : kq ≤ 4000000000000000000 := by omega
        simp only [cntL] at hcn
        have HCN := uh hcn
        clear hcn
        clear hE2 hte hkq hnx
        obtain ⟨off, hoff⟩ : ∃ off, off = o + q := ⟨_, rfl⟩
        have hom : off + 1 ≤ m := by have : q * 1 + 1 ≤ n * 1 := (by omega); omega
        have P0 : Hid (Pg wr wr p off 1 u m [.string a0] (· ∈ ([] : List Nat))) := Pg.refl _ HW.out.own (by rw [hoff]; simpa using hrng)
        have HC := uh hclose
        have HH := uh hhn
        have HO : Hid (off = o + q) := hoff
        have HPG := uh hpG; have HNE := uh hndE
        have HSU := uh hsub
        clear hclose hhn hrng hpG hndE hsub HW
        have hm0 : (0 : Int) ≤ (q : Int) := by omega
        have hm3 : (q : Int) < (n : Int) := by omega
        go_wp2_with fail
        refine (markText kq wr (by omega) (by omega)).mono ?_
        rintro e x0 ⟨rfl, hb0⟩
        have Q1 := uh (P0.out.later hb0)
        clear hb0
        obtain ⟨y0, hz0⟩ : ∃ y, y = x0.setCell ⟨p, o + q, none⟩ (.string (mt kq)) := ⟨_, rfl⟩
        have P1 : Hid (Pg wr y0 p off 1 u m [.string (mt kq)] (· ∈ ([] : List Nat))) := by
          have := Q1.out.store 0 (.string (mt kq)) (by omega) hom
          rw [hz0, ← HO.out]; exact this
        have hfz := Q1.out.own.frozen
        have hbz := Q1.out.own.lt
        obtain ⟨ux, eu⟩ := Q1.out.own.cell (o + q) (by have := HO.out; omega)
        go_upto_region 5 with fail
        rw [← hz0]
        clear hz0 hfz hbz eu
        obtain ⟨k0, hk0⟩ : ∃ k0 : Nat, k0 = kq + 1 := ⟨_, rfl⟩
        have hkc0 : (kq : Int) + 1 = (k0 : Int) := by omega
        have HK0 := uh hk0
        have kb0 : 1 ≤ k0 ∧ k0 ≤ 4000000000000000000 := by have := HCN.out; have := HK0.out; omega
        obtain ⟨kl0, ku0⟩ := kb0
        clear hk0
        have HF : Hid (Marks (· ∈ p :: G) w y0 ∧ Row y0 [.s] p o n u m G (mkL k (es.take ((q + 1) * 1)) ++ es.drop ((q + 1) * 1)) ∧ k0 = k + cntL (es.take ((q + 1) * 1))) := by
          have hmk : mkL kq [.s a0] = [.s (mt kq)] := by simp only [mkL]
          have hs : ∀ b, b ∈ ([] : List Nat) → b ∈ ([] : List Nat) := by intro b hb; cases hb
          refine ⟨HM.out.trans (P1.out.mks.mono ?_), ?_, ?_⟩
          · rintro b (rfl | e)
            · simp
            · exact List.mem_cons_of_mem _ (HSU.out b (hs b e))
          · have := HC.out y0 _ _ (by have := P1.out.mono hs; rw [HO.out, show o + q = o + q * 1 by omega] at this; exact this) (repT1_mk _)
            rw [← HH.out, hmk]; exact this
          · have := HNX.out; simp only [cntL] at this; have := HK0.out; omega
        clear HC HH HM
        go_wp2
        go_roundw
        case rel => exact ⟨q + 1, by omega, by go_num, by rw [← HF.out.2.2], HF.out.1, HF.out.2.1⟩
        case measure => simp [intOf]; omega
      · obtain rfl : q = n := by omega
        have el_ : es.length = q * 1 := HT.out.rows
        rw [← el_, List.take_length, List.drop_length, List.append_nil] at HW
        rw [← el_, List.take_length]
        go_wp2
        go_ret
        exact ⟨rfl, HM.out, Rep.of_row HW.out HNC.out⟩
set_option maxRecDepth 8000 in
set_option maxHeartbeats 8000000 in
theorem markGateFieldS (F : List Nat) (n : Nat) (es : List Dt) (v : Value) (k : Nat) (w : World) (h : Rep w false [.row 47 shGateField] F [.row n es] [v]) (hnd : F.Nodup) (h1 : 1 ≤ k) (hk : k + cntL es ≤ 4000000000000000000) :
    Calls Try.prog 55 #[v, .int .i64 (k : Int)] w fun e w' => e = .returned (.int .i64 ((k + cntL es : Nat) : Int)) ∧ Marks (· ∈ F) w w' ∧ Rep w' false [.row 47 shGateField] F [.row n (mkL k es)] [v] := by
  rcases h.slice with ⟨_, rfl, rfl, rfl, a, rfl⟩ | ⟨p, o, c, u, m, G, rfl, rfl, hn, ho, hm, _, vs, hr, hR⟩
  · go_enter Try.func55, Try.ntmps55
    go_wp2
    refine wp_loop_rounds 1 ?_
    rw [rounds_succ]
    go_wp2
    go_ret
    exact ⟨by simp [cntL], Marks.refl _ _, by rw [mkL]; exact Rep.emp _ _ a rfl .nil⟩
  · have HT : Hid (Typ (reps n shGateField) es) := hR.raw.typ
    have HR : Hid (Row w shGateField p o n u m G es) := ⟨ho, hm, vs, hr, hR⟩
    have HND : Hid ((p :: G).Nodup) := hnd
    have hn1 : n ≤ 9223372036854775807 := hn.1
    have HNC := uh hn
    have hmm : o + n * 11 ≤ m := hm
    clear hr hR ho hm hnd h hn vs
    go_enter Try.func55, Try.ntmps55
    go_wp2
    go_loopw [1, 5] (fun kk i wr => ∃ q : Nat, q ≤ n ∧ i = .int .i64 (q : Int) ∧ kk = .int .i64 ((k + cntL (es.take (q * 11)) : Nat) : Int) ∧ Marks (· ∈ p :: G) w wr ∧ Row wr shGateField p o n u m G (mkL k (es.take (q * 11)) ++ es.drop (q * 11))) (fun _ i _ => n - (intOf i).toNat)
    case atStart => exact ⟨0, Nat.zero_le _, rfl, by simp [cntL], Marks.refl _ _, by simpa [mkL] using HR.out⟩
    case round =>
      obtain ⟨q, hq, rfl, rfl, hM, hRow⟩ := hrel
      have HM := uh hM
      have HW := uh hRow
      clear hM hRow
      by_cases hlt : q < n
      · obtain ⟨Ge, ve, hE, hrng, hpG, hndE, hsub, hclose⟩ := HW.out.open HND.out q hlt
        obtain ⟨d, hd⟩ : ∃ d, d = el 11 q es := ⟨_, rfl⟩
        have hte : Typ shGateField d := by rw [hd]; exact HT.out.el hlt
        have hE2 : Rep wr false shGateField Ge d ve := by
          have ee : el 11 q (mkL k (es.take (q * 11)) ++ es.drop (q * 11)) = el 11 q es := half_el (sh := shGateField) HT.out hlt
          have hh : Rep wr false shGateField Ge (el 11 q (mkL k (es.take (q * 11)) ++ es.drop (q * 11))) ve := hE
          rw [ee, ← hd] at hh; exact hh
        have hcn : k + cntL (es.take (q * 11)) + cntL d ≤ 4000000000000000000 := by rw [hd]; have := @cnt_el q 11 es; omega
        have hnx : cntL (es.take ((q + 1) * 11)) = cntL (es.take (q * 11)) + cntL d := by rw [hd]; exact cnt_next (sh := shGateField) HT.out hlt
        have hhn : (mkL k (es.take (q * 11)) ++ es.drop (q * 11)).take (q * 11) ++ (mkL (k + cntL (es.take (q * 11))) d ++ (mkL k (es.take (q * 11)) ++ es.drop (q * 11)).drop (q * 11 + 11)) = mkL k (es.take ((q + 1) * 11)) ++ es.drop ((q + 1) * 11) := by rw [hd]; exact half_next (sh := shGateField) HT.out hlt
        clear hE hd
        obtain ⟨kq, hkq⟩ : ∃ kq : Nat, kq = k + cntL (es.take (q * 11)) := ⟨_, rfl⟩
        rw [← hkq] at hcn hhn ⊢
        have HNX : Hid (k + cntL (es.take ((q + 1) * 11)) = kq + cntL d) := by show _ = _; omega
        obtain ⟨a0, a1, a2, a3, n4, e4, a5, a6, a7, a8, a9, a10, rfl, t4⟩ := typGateField hte
        obtain ⟨F4, v4, rfl, rfl, r4⟩ := repGateField hE2
        have hkq1 : 1 ≤ kq := by omega
        have hkq2 : kq ≤ 4000000000000000000 := by omega
        simp only [cntL] at hcn
        have HCN := uh hcn
        clear hcn
        clear hE2 hte hkq hnx
        obtain ⟨off, hoff⟩ : ∃ off, off = o + q * 11 := ⟨_, rfl⟩
        have hom : off + 11 ≤ m := by have : q * 11 + 11 ≤ n * 11 := (by omega); omega
        have P0 : Hid (Pg wr wr p off 11 u m [.string a0, .int .i64 a1, .int .i64 a2, .int .i64 a3, v4, .string a5, .int .i64 a6, .bool a7, .bool a8, .string a9, .string a10] (· ∈ ([] : List Nat))) := Pg.refl _ HW.out.own (by rw [hoff]; exact hrng)
        have HC := uh hclose
        have HH := uh hhn
        have HO : Hid (off = o + q * 11) := hoff
        have HPG := uh hpG; have HNE := uh hndE
        have HSU := uh hsub
        clear hclose hhn hrng hpG hndE hsub HW
        have hm0 : (0 : Int) ≤ (q : Int) := by omega
        have hm3 : (q : Int) < (n : Int) := by omega
        have R4 := uh r4
        clear r4
        have nd := HNE.out
        obtain ⟨nd4, ndr4, dj4⟩ := nd_app nd
        have ND4 := uh nd4
        have DJ4 := uh dj4
        clear nd nd4 ndr4 dj4
        go_wp2_with fail
        refine (markText kq wr (by omega) (by omega)).mono ?_
        rintro e x0 ⟨rfl, hb0⟩
        have Q1 := uh (P0.out.later hb0)
        clear hb0
        obtain ⟨y0, hz0⟩ : ∃ y, y = x0.setCell ⟨p, o + q * 11, none⟩ (.string (mt kq)) := ⟨_, rfl⟩
        have P1 : Hid (Pg wr y0 p off 11 u m [.string (mt kq), .int .i64 a1, .int .i64 a2, .int .i64 a3, v4, .string a5, .int .i64 a6, .bool a7, .bool a8, .string a9, .string a10] (· ∈ ([] : List Nat))) := by
          have := Q1.out.store 0 (.string (mt kq)) (by omega) hom
          rw [hz0, ← HO.out]; exact this
        have hfz := Q1.out.own.frozen
        have hbz := Q1.out.own.lt
        obtain ⟨ux, eu⟩ := Q1.out.own.cell (o + q * 11) (by have := HO.out; omega)
        go_upto_region 5 with fail
        rw [← hz0]
        clear hz0 hfz hbz eu
        obtain ⟨k0, hk0⟩ : ∃ k0 : Nat, k0 = kq + 1 := ⟨_, rfl⟩
        have hkc0 : (kq : Int) + 1 = (k0 : Int) := by omega
        have HK0 := uh hk0
        have kb0 : 1 ≤ k0 ∧ k0 ≤ 4000000000000000000 := by have := HCN.out; have := HK0.out; omega
        obtain ⟨kl0, ku0⟩ := kb0
        clear hk0
        go_upto_region 6 with fail
        clear hkc0
        obtain ⟨y1, hz1⟩ : ∃ y, y = y0.setCell ⟨p, o + q * 11 + 1, none⟩ (.int .i64 (k0 : Int)) := ⟨_, rfl⟩
        have P2 : Hid (Pg wr y1 p off 11 u m [.string (mt kq), .int .i64 (k0 : Int), .int .i64 a2, .int .i64 a3, v4, .string a5, .int .i64 a6, .bool a7, .bool a8, .string a9, .string a10] (· ∈ ([] : List Nat))) := by
          have := P1.out.store 1 (.int .i64 (k0 : Int)) (by omega) hom
          rw [hz1, ← HO.out]; exact this
        have hfz := P1.out.own.frozen
        have hbz := P1.out.own.lt
        obtain ⟨ux, eu⟩ := P1.out.own.cell (o + q * 11 + 1) (by have := HO.out; omega)
        go_upto_region 7 with fail
        rw [← hz1]
        clear hz1 hfz hbz eu
        obtain ⟨k1, hk1⟩ : ∃ k1 : Nat, k1 = k0 + 1 := ⟨_, rfl⟩
        have hkc1 : (k0 : Int) + 1 = (k1 : Int) := by omega
        have HK1 := uh hk1
        have kb1 : 1 ≤ k1 ∧ k1 ≤ 4000000000000000000 := by have := HCN.out; have := HK0.out; have := HK1.out; omega
        obtain ⟨kl1, ku1⟩ := kb1
        clear hk1
        go_upto_region 8 with fail
        clear hkc1
        obtain ⟨y2, hz2⟩ : ∃ y, y = y1.setCell ⟨p, o + q * 11 + 2, none⟩ (.int .i64 (k1 : Int)) := ⟨_, rfl⟩
        have P3 : Hid (Pg wr y2 p off 11 u m [.string (mt kq), .int .i64 (k0 : Int), .int .i64 (k1 : Int), .int .i64 a3, v4, .string a5, .int .i64 a6, .bool a7, .bool a8, .string a9, .string a10] (· ∈ ([] : List Nat))) := by
          have := P2.out.store 2 (.int .i64 (k1 : Int)) (by omega) hom
          rw [hz2, ← HO.out]; exact this
        have hfz := P2.out.own.frozen
        have hbz := P2.out.own.lt
        obtain ⟨ux, eu⟩ := P2.out.own.cell (o + q * 11 + 2) (by have := HO.out; omega)
        go_upto_region 9 with fail
        rw [← hz2]
        clear hz2 hfz hbz eu
        obtain ⟨k2, hk2⟩ : ∃ k2 : Nat, k2 = k1 + 1 := ⟨_, rfl⟩
        have hkc2 : (k1 : Int) + 1 = (k2 : Int) := by omega
        have HK2 := uh hk2
        have kb2 : 1 ≤ k2 ∧ k2 ≤ 4000000000000000000 := by have := HCN.out; have := HK0.out; have := HK1.out; have := HK2.out; omega
        obtain ⟨kl2, ku2⟩ := kb2
        clear hk2
        go_upto_region 10 with fail
        clear hkc2
        obtain ⟨y3, hz3⟩ : ∃ y, y = y2.setCell ⟨p, o + q * 11 + 3, none⟩ (.int .i64 (k2 : Int)) := ⟨_, rfl⟩
        have P4 : Hid (Pg wr y3 p off 11 u m [.string (mt kq), .int .i64 (k0 : Int), .int .i64 (k1 : Int), .int .i64 (k2 : Int), v4, .string a5, .int .i64 a6, .bool a7, .bool a8, .string a9, .string a10] (· ∈ ([] : List Nat))) := by
          have := P3.out.store 3 (.int .i64 (k2 : Int)) (by omega) hom
          rw [hz3, ← HO.out]; exact this
        have hfz := P3.out.own.frozen
        have hbz := P3.out.own.lt
        obtain ⟨ux, eu⟩ := P3.out.own.cell (o + q * 11 + 3) (by have := HO.out; omega)
        go_upto_region 11 with fail
        rw [← hz3]
        clear hz3 hfz hbz eu
        obtain ⟨k3, hk3⟩ : ∃ k3 : Nat, k3 = k2 + 1 := ⟨_, rfl⟩
        have hkc3 : (k2 : Int) + 1 = (k3 : Int) := by omega
        have HK3 := uh hk3
        have kb3 : 1 ≤ k3 ∧ k3 ≤ 4000000000000000000 := by have := HCN.out; have := HK0.out; have := HK1.out; have := HK2.out; have := HK3.out; omega
        obtain ⟨kl3, ku3⟩ := kb3
        clear hk3
        go_upto_region 12 with fail
        clear hkc3
        have hbz := P4.out.own.lt
        have K4 : Hid (Rep y3 false [.row 9 [.s]] F4 [.row n4 e4] [v4]) := by
          refine R4.out.keep P4.out.mks ?_
          rintro b hb (rfl | e)
          · exact HPG.out (by simp [hb])
          · cases e
        obtain ⟨va4, vc4, hva⟩ := K4.out.raw.len0
        subst hva
        have gc := rA_get P4.out.at_ 4 _ rfl
        rw [HO.out] at gc
        obtain ⟨k4, hk4⟩ : ∃ k4 : Nat, k4 = k3 + cntL e4 := ⟨_, rfl⟩
        have HK4 := uh hk4
        have kb4 : 1 ≤ k4 ∧ k4 ≤ 4000000000000000000 := by have := HCN.out; have := HK0.out; have := HK1.out; have := HK2.out; have := HK3.out; have := HK4.out; omega
        obtain ⟨kl4, ku4⟩ := kb4
        clear hk4
        go_wp2_with fail
        refine (markStringS F4 n4 e4 (.slice va4 n4 vc4) k3 y3 K4.out ND4.out (by omega) (by have := HK4.out; omega)).mono ?_
        rintro e x4 ⟨he, hb4, rr4⟩
        rw [← HK4.out] at he
        subst he
        have P5 := uh (P4.out.grow hb4 (fun e => HPG.out (by simp [e])))
        have D4 := uh rr4
        clear gc hbz rr4 hb4 K4
        go_wp2_with fail
        refine (markText k4 x4 (by omega) (by omega)).mono ?_
        rintro e x5 ⟨rfl, hb5⟩
        have Q6 := uh (P5.out.later hb5)
        replace D4 := uh (D4.out.later hb5)
        clear hb5
        obtain ⟨y5, hz5⟩ : ∃ y, y = x5.setCell ⟨p, o + q * 11 + 5, none⟩ (.string (mt k4)) := ⟨_, rfl⟩
        have P6 : Hid (Pg wr y5 p off 11 u m [.string (mt kq), .int .i64 (k0 : Int), .int .i64 (k1 : Int), .int .i64 (k2 : Int), .slice va4 n4 vc4, .string (mt k4), .int .i64 a6, .bool a7, .bool a8, .string a9, .string a10] (· ∈ (([] : List Nat) ++ F4))) := by
          have := Q6.out.store 5 (.string (mt k4)) (by omega) hom
          rw [hz5, ← HO.out]; exact this
        replace D4 := uh (D4.out.keep (w' := y5) (S := fun b => b = p) (by rw [hz5]; exact Marks.sc (S := fun b => b = p) _ rfl _ _) (by rintro b hb rfl; exact HPG.out (by simp [hb])))
        have hfz := Q6.out.own.frozen
        have hbz := Q6.out.own.lt
        obtain ⟨ux, eu⟩ := Q6.out.own.cell (o + q * 11 + 5) (by have := HO.out; omega)
        go_upto_region 14 with fail
        rw [← hz5]
        clear hz5 hfz hbz eu
        obtain ⟨k5, hk5⟩ : ∃ k5 : Nat, k5 = k4 + 1 := ⟨_, rfl⟩
        have hkc5 : (k4 : Int) + 1 = (k5 : Int) := by omega
        have HK5 := uh hk5
        have kb5 : 1 ≤ k5 ∧ k5 ≤ 4000000000000000000 := by have := HCN.out; have := HK0.out; have := HK1.out; have := HK2.out; have := HK3.out; have := HK4.out; have := HK5.out; omega
        obtain ⟨kl5, ku5⟩ := kb5
        clear hk5
        go_upto_region 15 with fail
        clear hkc5
        obtain ⟨y6, hz6⟩ : ∃ y, y = y5.setCell ⟨p, o + q * 11 + 6, none⟩ (.int .i64 (k5 : Int)) := ⟨_, rfl⟩
        have P7 : Hid (Pg wr y6 p off 11 u m [.string (mt kq), .int .i64 (k0 : Int), .int .i64 (k1 : Int), .int .i64 (k2 : Int), .slice va4 n4 vc4, .string (mt k4), .int .i64 (k5 : Int), .bool a7, .bool a8, .string a9, .string a10] (· ∈ (([] : List Nat) ++ F4))) := by
          have := P6.out.store 6 (.int .i64 (k5 : Int)) (by omega) hom
          rw [hz6, ← HO.out]; exact this
        replace D4 := uh (D4.out.keep (w' := y6) (S := fun b => b = p) (by rw [hz6]; exact Marks.sc (S := fun b => b = p) _ rfl _ _) (by rintro b hb rfl; exact HPG.out (by simp [hb])))
        have hfz := P6.out.own.frozen
        have hbz := P6.out.own.lt
        obtain ⟨ux, eu⟩ := P6.out.own.cell (o + q * 11 + 6) (by have := HO.out; omega)
        go_upto_region 16 with fail
        rw [← hz6]
        clear hz6 hfz hbz eu
        obtain ⟨k6, hk6⟩ : ∃ k6 : Nat, k6 = k5 + 1 := ⟨_, rfl⟩
        have hkc6 : (k5 : Int) + 1 = (k6 : Int) := by omega
        have HK6 := uh hk6
        have kb6 : 1 ≤ k6 ∧ k6 ≤ 4000000000000000000 := by have := HCN.out; have := HK0.out; have := HK1.out; have := HK2.out; have := HK3.out; have := HK4.out; have := HK5.out; have := HK6.out; omega
        obtain ⟨kl6, ku6⟩ := kb6
        clear hk6
        go_upto_region 17 with fail
        clear hkc6
        have hrm := bmod k6
        obtain ⟨y7, hz7⟩ : ∃ y, y = y6.setCell ⟨p, o + q * 11 + 7, none⟩ (.bool (k6 % 3 == 0)) := ⟨_, rfl⟩
        have P8 : Hid (Pg wr y7 p off 11 u m [.string (mt kq), .int .i64 (k0 : Int), .int .i64 (k1 : Int), .int .i64 (k2 : Int), .slice va4 n4 vc4, .string (mt k4), .int .i64 (k5 : Int), .bool (k6 % 3 == 0), .bool a8, .string a9, .string a10] (· ∈ (([] : List Nat) ++ F4))) := by
          have := P7.out.store 7 (.bool (k6 % 3 == 0)) (by omega) hom
          rw [hz7, ← HO.out]; exact this
        replace D4 := uh (D4.out.keep (w' := y7) (S := fun b => b = p) (by rw [hz7]; exact Marks.sc (S := fun b => b = p) _ rfl _ _) (by rintro b hb rfl; exact HPG.out (by simp [hb])))
        have hfz := P7.out.own.frozen
        have hbz := P7.out.own.lt
        obtain ⟨ux, eu⟩ := P7.out.own.cell (o + q * 11 + 7) (by have := HO.out; omega)
        go_upto_region 18 with fail
        rw [← hz7]
        clear hz7 hfz hbz eu hrm
        obtain ⟨k7, hk7⟩ : ∃ k7 : Nat, k7 = k6 + 1 := ⟨_, rfl⟩
        have hkc7 : (k6 : Int) + 1 = (k7 : Int) := by omega
        have HK7 := uh hk7
        have kb7 : 1 ≤ k7 ∧ k7 ≤ 4000000000000000000 := by have := HCN.out; have := HK0.out; have := HK1.out; have := HK2.out; have := HK3.out; have := HK4.out; have := HK5.out; have := HK6.out; have := HK7.out; omega
        obtain ⟨kl7, ku7⟩ := kb7
        clear hk7
        go_upto_region 19 with fail
        clear hkc7
        have hrm := bmod k7
        obtain ⟨y8, hz8⟩ : ∃ y, y = y7.setCell ⟨p, o + q * 11 + 8, none⟩ (.bool (k7 % 3 == 0)) := ⟨_, rfl⟩
        have P9 : Hid (Pg wr y8 p off 11 u m [.string (mt kq), .int .i64 (k0 : Int), .int .i64 (k1 : Int), .int .i64 (k2 : Int), .slice va4 n4 vc4, .string (mt k4), .int .i64 (k5 : Int), .bool (k6 % 3 == 0), .bool (k7 % 3 == 0), .string a9, .string a10] (· ∈ (([] : List Nat) ++ F4))) := by
          have := P8.out.store 8 (.bool (k7 % 3 == 0)) (by omega) hom
          rw [hz8, ← HO.out]; exact this
        replace D4 := uh (D4.out.keep (w' := y8) (S := fun b => b = p) (by rw [hz8]; exact Marks.sc (S := fun b => b = p) _ rfl _ _) (by rintro b hb rfl; exact HPG.out (by simp [hb])))
        have hfz := P8.out.own.frozen
        have hbz := P8.out.own.lt
        obtain ⟨ux, eu⟩ := P8.out.own.cell (o + q * 11 + 8) (by have := HO.out; omega)
        go_upto_region 20 with fail
        rw [← hz8]
        clear hz8 hfz hbz eu hrm
        obtain ⟨k8, hk8⟩ : ∃ k8 : Nat, k8 = k7 + 1 := ⟨_, rfl⟩
        have hkc8 : (k7 : Int) + 1 = (k8 : Int) := by omega
        have HK8 := uh hk8
        have kb8 : 1 ≤ k8 ∧ k8 ≤ 4000000000000000000 := by have := HCN.out; have := HK0.out; have := HK1.out; have := HK2.out; have := HK3.out; have := HK4.out; have := HK5.out; have := HK6.out; have := HK7.out; have := HK8.out; omega
        obtain ⟨kl8, ku8⟩ := kb8
        clear hk8
        go_upto_region 21 with fail
        clear hkc8
        go_wp2_with fail
        refine (markText k8 y8 (by omega) (by omega)).mono ?_
        rintro e x9 ⟨rfl, hb9⟩
        have Q10 := uh (P9.out.later hb9)
        replace D4 := uh (D4.out.later hb9)
        clear hb9
        obtain ⟨y9, hz9⟩ : ∃ y, y = x9.setCell ⟨p, o + q * 11 + 9, none⟩ (.string (mt k8)) := ⟨_, rfl⟩
        have P10 : Hid (Pg wr y9 p off 11 u m [.string (mt kq), .int .i64 (k0 : Int), .int .i64 (k1 : Int), .int .i64 (k2 : Int), .slice va4 n4 vc4, .string (mt k4), .int .i64 (k5 : Int), .bool (k6 % 3 == 0), .bool (k7 % 3 == 0), .string (mt k8), .string a10] (· ∈ (([] : List Nat) ++ F4))) := by
          have := Q10.out.store 9 (.string (mt k8)) (by omega) hom
          rw [hz9, ← HO.out]; exact this
        replace D4 := uh (D4.out.keep (w' := y9) (S := fun b => b = p) (by rw [hz9]; exact Marks.sc (S := fun b => b = p) _ rfl _ _) (by rintro b hb rfl; exact HPG.out (by simp [hb])))
        have hfz := Q10.out.own.frozen
        have hbz := Q10.out.own.lt
        obtain ⟨ux, eu⟩ := Q10.out.own.cell (o + q * 11 + 9) (by have := HO.out; omega)
        go_upto_region 22 with fail
        rw [← hz9]
        clear hz9 hfz hbz eu
        obtain ⟨k9, hk9⟩ : ∃ k9 : Nat, k9 = k8 + 1 := ⟨_, rfl⟩
        have hkc9 : (k8 : Int) + 1 = (k9 : Int) := by omega
        have HK9 := uh hk9
        have kb9 : 1 ≤ k9 ∧ k9 ≤ 4000000000000000000 := by have := HCN.out; have := HK0.out; have := HK1.out; have := HK2.out; have := HK3.out; have := HK4.out; have := HK5.out; have := HK6.out; have := HK7.out; have := HK8.out; have := HK9.out; omega
        obtain ⟨kl9, ku9⟩ := kb9
        clear hk9
        go_upto_region 23 with fail
        clear hkc9
        go_wp2_with fail
        refine (markText k9 y9 (by omega) (by omega)).mono ?_
        rintro e x10 ⟨rfl, hb10⟩
        have Q11 := uh (P10.out.later hb10)
        replace D4 := uh (D4.out.later hb10)
        clear hb10
        obtain ⟨y10, hz10⟩ : ∃ y, y = x10.setCell ⟨p, o + q * 11 + 10, none⟩ (.string (mt k9)) := ⟨_, rfl⟩
        have P11 : Hid (Pg wr y10 p off 11 u m [.string (mt kq), .int .i64 (k0 : Int), .int .i64 (k1 : Int), .int .i64 (k2 : Int), .slice va4 n4 vc4, .string (mt k4), .int .i64 (k5 : Int), .bool (k6 % 3 == 0), .bool (k7 % 3 == 0), .string (mt k8), .string (mt k9)] (· ∈ (([] : List Nat) ++ F4))) := by
          have := Q11.out.store 10 (.string (mt k9)) (by omega) hom
          rw [hz10, ← HO.out]; exact this
        replace D4 := uh (D4.out.keep (w' := y10) (S := fun b => b = p) (by rw [hz10]; exact Marks.sc (S := fun b => b = p) _ rfl _ _) (by rintro b hb rfl; exact HPG.out (by simp [hb])))
        have hfz := Q11.out.own.frozen
        have hbz := Q11.out.own.lt
        obtain ⟨ux, eu⟩ := Q11.out.own.cell (o + q * 11 + 10) (by have := HO.out; omega)
        go_upto_region 24 with fail
        rw [← hz10]
        clear hz10 hfz hbz eu
        obtain ⟨k10, hk10⟩ : ∃ k10 : Nat, k10 = k9 + 1 := ⟨_, rfl⟩
        have hkc10 : (k9 : Int) + 1 = (k10 : Int) := by omega
        have HK10 := uh hk10
        have kb10 : 1 ≤ k10 ∧ k10 ≤ 4000000000000000000 := by have := HCN.out; have := HK0.out; have := HK1.out; have := HK2.out; have := HK3.out; have := HK4.out; have := HK5.out; have := HK6.out; have := HK7.out; have := HK8.out; have := HK9.out; have := HK10.out; omega
        obtain ⟨kl10, ku10⟩ := kb10
        clear hk10
        have HF : Hid (Marks (· ∈ p :: G) w y10 ∧ Row y10 shGateField p o n u m G (mkL k (es.take ((q + 1) * 11)) ++ es.drop ((q + 1) * 11)) ∧ k10 = k + cntL (es.take ((q + 1) * 11))) := by
          have hmk : mkL kq [.s a0, .i a1, .i a2, .i a3, .row n4 e4, .s a5, .i a6, .b a7, .b a8, .s a9, .s a10] = [.s (mt kq), .i (k0 : Int), .i (k1 : Int), .i (k2 : Int), .row n4 (mkL k3 e4), .s (mt k4), .i (k5 : Int), .b (k6 % 3 == 0), .b (k7 % 3 == 0), .s (mt k8), .s (mt k9)] := by simp only [mkL, HK0.out, HK1.out, HK2.out, HK3.out, HK4.out, HK5.out, HK6.out, HK7.out, HK8.out, HK9.out]
          have hs : ∀ b, b ∈ (([] : List Nat) ++ F4) → b ∈ (F4 ++ [] : List Nat) := by intro b hb; simpa using hb
          refine ⟨HM.out.trans (P11.out.mks.mono ?_), ?_, ?_⟩
          · rintro b (rfl | e)
            · simp
            · exact List.mem_cons_of_mem _ (HSU.out b (hs b e))
          · have := HC.out y10 _ _ (by have := P11.out.mono hs; rw [HO.out] at this; exact this) (repGateField_mk _ _ _ _ D4.out _ _ _ _ _ _)
            rw [← HH.out, hmk]; exact this
          · have := HNX.out; simp only [cntL] at this; have := HK0.out; have := HK1.out; have := HK2.out; have := HK3.out; have := HK4.out; have := HK5.out; have := HK6.out; have := HK7.out; have := HK8.out; have := HK9.out; have := HK10.out; omega
        clear HC HH HM
        go_wp2
        go_roundw
        case rel => exact ⟨q + 1, by omega, by go_num, by rw [← HF.out.2.2], HF.out.1, HF.out.2.1⟩
        case measure => simp [intOf]; omega
      · obtain rfl : q = n := by omega
        have el_ : es.length = q * 11 := HT.out.rows
        rw [← el_, List.take_length, List.drop_length, List.append_nil] at HW
        rw [← el_, List.take_length]
        go_wp2
        go_ret
        exact ⟨rfl, HM.out, Rep.of_row HW.out HNC.out⟩
set_option maxRecDepth 8000 in
set_option maxHeartbeats 8000000 in
theorem markGateShapeS (F : List Nat) (n : Nat) (es : List Dt) (v : Value) (k : Nat) (w : World) (h : Rep w false [.row 53 shGateShape] F [.row n es] [v]) (hnd : F.Nodup) (h1 : 1 ≤ k) (hk : k + cntL es ≤ 4000000000000000000) :
    Calls Try.prog 31 #[v, .int .i64 (k : Int)] w fun e w' => e = .returned (.int .i64 ((k + cntL es : Nat) : Int)) ∧ Marks (· ∈ F) w w' ∧ Rep w' false [.row 53 shGateShape] F [.row n (mkL k es)] [v] := by
  rcases h.slice with ⟨_, rfl, rfl, rfl, a, rfl⟩ | ⟨p, o, c, u, m, G, rfl, rfl, hn, ho, hm, _, vs, hr, hR⟩
  · go_enter Try.func31, Try.ntmps31
    go_wp2
    refine wp_loop_rounds 1 ?_
    rw [rounds_succ]
    go_wp2
    go_ret
    exact ⟨by simp [cntL], Marks.refl _ _, by rw [mkL]; exact Rep.emp _ _ a rfl .nil⟩
  · have HT : Hid (Typ (reps n shGateShape) es) := hR.raw.typ
    have HR : Hid (Row w shGateShape p o n u m G es) := ⟨ho, hm, vs, hr, hR⟩
    have HND : Hid ((p :: G).Nodup) := hnd
    have hn1 : n ≤ 9223372036854775807 := hn.1
    have HNC := uh hn
    have hmm : o + n * 2 ≤ m := hm
    clear hr hR ho hm hnd h hn vs
    go_enter Try.func31, Try.ntmps31
    go_wp2
    go_loopw [1, 5] (fun kk i wr => ∃ q : Nat, q ≤ n ∧ i = .int .i64 (q : Int) ∧ kk = .int .i64 ((k + cntL (es.take (q * 2)) : Nat) : Int) ∧ Marks (· ∈ p :: G) w wr ∧ Row wr shGateShape p o n u m G (mkL k (es.take (q * 2)) ++ es.drop (q * 2))) (fun _ i _ => n - (intOf i).toNat)
    case atStart => exact ⟨0, Nat.zero_le _, rfl, by simp [cntL], Marks.refl _ _, by simpa [mkL] using HR.out⟩
    case round =>
      obtain ⟨q, hq, rfl, rfl, hM, hRow⟩ := hrel
      have HM := uh hM
      have HW := uh hRow
      clear hM hRow
      by_cases hlt : q < n
      · obtain ⟨Ge, ve, hE, hrng, hpG, hndE, hsub, hclose⟩ := HW.out.open HND.out q hlt
        obtain ⟨d, hd⟩ : ∃ d, d = el 2 q es := ⟨_, rfl⟩
        have hte : Typ shGateShape d := by rw [hd]; exact HT.out.el hlt
        have hE2 : Rep wr false shGateShape Ge d ve := by
          have ee : el 2 q (mkL k (es.take (q * 2)) ++ es.drop (q * 2)) = el 2 q es := half_el (sh := shGateShape) HT.out hlt
          have hh : Rep wr false shGateShape Ge (el 2 q (mkL k (es.take (q * 2)) ++ es.drop (q * 2))) ve := hE
          rw [ee, ← hd] at hh; exact hh
        have hcn : k + cntL (es.take (q * 2)) + cntL d ≤ 4000000000000000000 := by rw [hd]; have := @cnt_el q 2 es; omega
        have hnx : cntL (es.take ((q + 1) * 2)) = cntL (es.take (q * 2)) + cntL d := by rw [hd]; exact cnt_next (sh := shGateShape) HT.out hlt
        have hhn : (mkL k (es.take (q * 2)) ++ es.drop (q * 2)).take (q * 2) ++ (mkL (k + cntL (es.take (q * 2))) d ++ (mkL k (es.take (q * 2)) ++ es.drop (q * 2)).drop (q * 2 + 2)) = mkL k (es.take ((q + 1) * 2)) ++ es.drop ((q + 1) * 2) := by rw [hd]; exact half_next (sh := shGateShape) HT.out hlt
        clear hE hd
        obtain ⟨kq, hkq⟩ : ∃ kq : Nat, kq = k + cntL (es.take (q * 2)) := ⟨_, rfl⟩
        rw [← hkq] at hcn hhn ⊢
        have HNX : Hid (k + cntL (es.take ((q + 1) * 2)) = kq + cntL d) := by show _ = _; omega
        obtain ⟨a0, n1, e1, rfl, t1⟩ := typGateShape hte
        obtain ⟨F1, v1, rfl, rfl, r1⟩ := repGateShape hE2
        have hkq1 : 1 ≤ kq := by omega
        have hkq2 : kq ≤ 4000000000000000000 := by omega
        simp only [cntL] at hcn
        have HCN := uh hcn
        clear hcn
        clear hE2 hte hkq hnx
        obtain ⟨off, hoff⟩ : ∃ off, off = o + q * 2 := ⟨_, rfl⟩
        have hom : off + 2 ≤ m := by have : q * 2 + 2 ≤ n * 2 := (by omega); omega
        have P0 : Hid (Pg wr wr p off 2 u m [.string a0, v1] (· ∈ ([] : List Nat))) := Pg.refl _ HW.out.own (by rw [hoff]; exact hrng)
        have HC := uh hclose
        have HH := uh hhn
        have HO : Hid (off = o + q * 2) := hoff
        have HPG := uh hpG; have HNE := uh hndE
        have HSU := uh hsub
        clear hclose hhn hrng hpG hndE hsub HW
        have hm0 : (0 : Int) ≤ (q : Int) := by omega
        have hm3 : (q : Int) < (n : Int) := by omega
        have R1 := uh r1
        clear r1
        have nd := HNE.out
        obtain ⟨nd1, ndr1, dj1⟩ := nd_app nd
        have ND1 := uh nd1
        have DJ1 := uh dj1
        clear nd nd1 ndr1 dj1
        go_wp2_with fail
        refine (markText kq wr (by omega) (by omega)).mono ?_
        rintro e x0 ⟨rfl, hb0⟩
        have Q1 := uh (P0.out.later hb0)
        clear hb0
        obtain ⟨y0, hz0⟩ : ∃ y, y = x0.setCell ⟨p, o + q * 2, none⟩ (.string (mt kq)) := ⟨_, rfl⟩
        have P1 : Hid (Pg wr y0 p off 2 u m [.string (mt kq), v1] (· ∈ ([] : List Nat))) := by
          have := Q1.out.store 0 (.string (mt kq)) (by omega) hom
          rw [hz0, ← HO.out]; exact this
        have hfz := Q1.out.own.frozen
        have hbz := Q1.out.own.lt
        obtain ⟨ux, eu⟩ := Q1.out.own.cell (o + q * 2) (by have := HO.out; omega)
        go_upto_region 5 with fail
        rw [← hz0]
        clear hz0 hfz hbz eu
        obtain ⟨k0, hk0⟩ : ∃ k0 : Nat, k0 = kq + 1 := ⟨_, rfl⟩
        have hkc0 : (kq : Int) + 1 = (k0 : Int) := by omega
        have HK0 := uh hk0
        have kb0 : 1 ≤ k0 ∧ k0 ≤ 4000000000000000000 := by have := HCN.out; have := HK0.out; omega
        obtain ⟨kl0, ku0⟩ := kb0
        clear hk0
        go_upto_region 6 with fail
        clear hkc0
        have hbz := P1.out.own.lt
        have K1 : Hid (Rep y0 false [.row 47 shGateField] F1 [.row n1 e1] [v1]) := by
          refine R1.out.keep P1.out.mks ?_
          rintro b hb (rfl | e)
          · exact HPG.out (by simp [hb])
          · cases e
        obtain ⟨va1, vc1, hva⟩ := K1.out.raw.len0
        subst hva
        have gc := rA_get P1.out.at_ 1 _ rfl
        rw [HO.out] at gc
        obtain ⟨k1, hk1⟩ : ∃ k1 : Nat, k1 = k0 + cntL e1 := ⟨_, rfl⟩
        have HK1 := uh hk1
        have kb1 : 1 ≤ k1 ∧ k1 ≤ 4000000000000000000 := by have := HCN.out; have := HK0.out; have := HK1.out; omega
        obtain ⟨kl1, ku1⟩ := kb1
        clear hk1
        go_wp2_with fail
        refine (markGateFieldS F1 n1 e1 (.slice va1 n1 vc1) k0 y0 K1.out ND1.out (by omega) (by have := HK1.out; omega)).mono ?_
        rintro e x1 ⟨he, hb1, rr1⟩
        rw [← HK1.out] at he
        subst he
        have P2 := uh (P1.out.grow hb1 (fun e => HPG.out (by simp [e])))
        have D1 := uh rr1
        clear gc hbz rr1 hb1 K1
        have HF : Hid (Marks (· ∈ p :: G) w x1 ∧ Row x1 shGateShape p o n u m G (mkL k (es.take ((q + 1) * 2)) ++ es.drop ((q + 1) * 2)) ∧ k1 = k + cntL (es.take ((q + 1) * 2))) := by
          have hmk : mkL kq [.s a0, .row n1 e1] = [.s (mt kq), .row n1 (mkL k0 e1)] := by simp only [mkL, HK0.out]
          have hs : ∀ b, b ∈ (([] : List Nat) ++ F1) → b ∈ (F1 ++ [] : List Nat) := by intro b hb; simpa using hb
          refine ⟨HM.out.trans (P2.out.mks.mono ?_), ?_, ?_⟩
          · rintro b (rfl | e)
            · simp
            · exact List.mem_cons_of_mem _ (HSU.out b (hs b e))
          · have := HC.out x1 _ _ (by have := P2.out.mono hs; rw [HO.out] at this; exact this) (repGateShape_mk _ D1.out)
            rw [← HH.out, hmk]; exact this
          · have := HNX.out; simp only [cntL] at this; have := HK0.out; have := HK1.out; omega
        clear HC HH HM
        go_wp2
        go_roundw
        case rel => exact ⟨q + 1, by omega, by go_num, by rw [← HF.out.2.2], HF.out.1, HF.out.2.1⟩
        case measure => simp [intOf]; omega
      · obtain rfl : q = n := by omega
        have el_ : es.length = q * 2 := HT.out.rows
        rw [← el_, List.take_length, List.drop_length, List.append_nil] at HW
        rw [← el_, List.take_length]
        go_wp2
        go_ret
        exact ⟨rfl, HM.out, Rep.of_row HW.out HNC.out⟩
set_option maxRecDepth 8000 in
set_option maxHeartbeats 8000000 in
theorem markGateMendS (F : List Nat) (n : Nat) (es : List Dt) (v : Value) (k : Nat) (w : World) (h : Rep w false [.row 51 shGateMend] F [.row n es] [v]) (hnd : F.Nodup) (h1 : 1 ≤ k) (hk : k + cntL es ≤ 4000000000000000000) :
    Calls Try.prog 32 #[v, .int .i64 (k : Int)] w fun e w' => e = .returned (.int .i64 ((k + cntL es : Nat) : Int)) ∧ Marks (· ∈ F) w w' ∧ Rep w' false [.row 51 shGateMend] F [.row n (mkL k es)] [v] := by
  rcases h.slice with ⟨_, rfl, rfl, rfl, a, rfl⟩ | ⟨p, o, c, u, m, G, rfl, rfl, hn, ho, hm, _, vs, hr, hR⟩
  · go_enter Try.func32, Try.ntmps32
    go_wp2
    refine wp_loop_rounds 1 ?_
    rw [rounds_succ]
    go_wp2
    go_ret
    exact ⟨by simp [cntL], Marks.refl _ _, by rw [mkL]; exact Rep.emp _ _ a rfl .nil⟩
  · have HT : Hid (Typ (reps n shGateMend) es) := hR.raw.typ
    have HR : Hid (Row w shGateMend p o n u m G es) := ⟨ho, hm, vs, hr, hR⟩
    have HND : Hid ((p :: G).Nodup) := hnd
    have hn1 : n ≤ 9223372036854775807 := hn.1
    have HNC := uh hn
    have hmm : o + n * 6 ≤ m := hm
    clear hr hR ho hm hnd h hn vs
    go_enter Try.func32, Try.ntmps32
    go_wp2
    go_loopw [1, 5] (fun kk i wr => ∃ q : Nat, q ≤ n ∧ i = .int .i64 (q : Int) ∧ kk = .int .i64 ((k + cntL (es.take (q * 6)) : Nat) : Int) ∧ Marks (· ∈ p :: G) w wr ∧ Row wr shGateMend p o n u m G (mkL k (es.take (q * 6)) ++ es.drop (q * 6))) (fun _ i _ => n - (intOf i).toNat)
    case atStart => exact ⟨0, Nat.zero_le _, rfl, by simp [cntL], Marks.refl _ _, by simpa [mkL] using HR.out⟩
    case round =>
      obtain ⟨q, hq, rfl, rfl, hM, hRow⟩ := hrel
      have HM := uh hM
      have HW := uh hRow
      clear hM hRow
      by_cases hlt : q < n
      · obtain ⟨Ge, ve, hE, hrng, hpG, hndE, hsub, hclose⟩ := HW.out.open HND.out q hlt
        obtain ⟨d, hd⟩ : ∃ d, d = el 6 q es := ⟨_, rfl⟩
        have hte : Typ shGateMend d := by rw [hd]; exact HT.out.el hlt
        have hE2 : Rep wr false shGateMend Ge d ve := by
          have ee : el 6 q (mkL k (es.take (q * 6)) ++ es.drop (q * 6)) = el 6 q es := half_el (sh := shGateMend) HT.out hlt
          have hh : Rep wr false shGateMend Ge (el 6 q (mkL k (es.take (q * 6)) ++ es.drop (q * 6))) ve := hE
          rw [ee, ← hd] at hh; exact hh
        have hcn : k + cntL (es.take (q * 6)) + cntL d ≤ 4000000000000000000 := by rw [hd]; have := @cnt_el q 6 es; omega
        have hnx : cntL (es.take ((q + 1) * 6)) = cntL (es.take (q * 6)) + cntL d := by rw [hd]; exact cnt_next (sh := shGateMend) HT.out hlt
        have hhn : (mkL k (es.take (q * 6)) ++ es.drop (q * 6)).take (q * 6) ++ (mkL (k + cntL (es.take (q * 6))) d ++ (mkL k (es.take (q * 6)) ++ es.drop (q * 6)).drop (q * 6 + 6)) = mkL k (es.take ((q + 1) * 6)) ++ es.drop ((q + 1) * 6) := by rw [hd]; exact half_next (sh := shGateMend) HT.out hlt
        clear hE hd
        obtain ⟨kq, hkq⟩ : ∃ kq : Nat, kq = k + cntL (es.take (q * 6)) := ⟨_, rfl⟩
        rw [← hkq] at hcn hhn ⊢
        have HNX : Hid (k + cntL (es.take ((q + 1) * 6)) = kq + cntL d) := by show _ = _; omega
        obtain ⟨a0, a1, a2, a3, a4, a5, rfl⟩ := typGateMend hte
        obtain ⟨rfl, rfl⟩ := repGateMend hE2
        have hkq1 : 1 ≤ kq := by omega
        have hkq2 : kq ≤ 4000000000000000000 := by omega
        simp only [cntL] at hcn
        have HCN := uh hcn
        clear hcn
        clear hE2 hte hkq hnx
        obtain ⟨off, hoff⟩ : ∃ off, off = o + q * 6 := ⟨_, rfl⟩
        have hom : off + 6 ≤ m := by have : q * 6 + 6 ≤ n * 6 := (by omega); omega
        have P0 : Hid (Pg wr wr p off 6 u m [.string a0, .string a1, .string a2, .string a3, .string a4, .string a5] (· ∈ ([] : List Nat))) := Pg.refl _ HW.out.own (by rw [hoff]; exact hrng)
        have HC := uh hclose
        have HH := uh hhn
        have HO : Hid (off = o + q * 6) := hoff
        have HPG := uh hpG; have HNE := uh hndE
        have HSU := uh hsub
        clear hclose hhn hrng hpG hndE hsub HW
        have hm0 : (0 : Int) ≤ (q : Int) := by omega
        have hm3 : (q : Int) < (n : Int) := by omega
        go_wp2_with fail
        refine (markText kq wr (by omega) (by omega)).mono ?_
        rintro e x0 ⟨rfl, hb0⟩
        have Q1 := uh (P0.out.later hb0)
        clear hb0
        obtain ⟨y0, hz0⟩ : ∃ y, y = x0.setCell ⟨p, o + q * 6, none⟩ (.string (mt kq)) := ⟨_, rfl⟩
        have P1 : Hid (Pg wr y0 p off 6 u m [.string (mt kq), .string a1, .string a2, .string a3, .string a4, .string a5] (· ∈ ([] : List Nat))) := by
          have := Q1.out.store 0 (.string (mt kq)) (by omega) hom
          rw [hz0, ← HO.out]; exact this
        have hfz := Q1.out.own.frozen
        have hbz := Q1.out.own.lt
        obtain ⟨ux, eu⟩ := Q1.out.own.cell (o + q * 6) (by have := HO.out; omega)
        go_upto_region 5 with fail
        rw [← hz0]
        clear hz0 hfz hbz eu
        obtain ⟨k0, hk0⟩ : ∃ k0 : Nat, k0 = kq + 1 := ⟨_, rfl⟩
        have hkc0 : (kq : Int) + 1 = (k0 : Int) := by omega
        have HK0 := uh hk0
        have kb0 : 1 ≤ k0 ∧ k0 ≤ 4000000000000000000 := by have := HCN.out; have := HK0.out; omega
        obtain ⟨kl0, ku0⟩ := kb0
        clear hk0
        go_upto_region 6 with fail
        clear hkc0
        go_wp2_with fail
        refine (markText k0 y0 (by omega) (by omega)).mono ?_
        rintro e x1 ⟨rfl, hb1⟩
        have Q2 := uh (P1.out.later hb1)
        clear hb1
        obtain ⟨y1, hz1⟩ : ∃ y, y = x1.setCell ⟨p, o + q * 6 + 1, none⟩ (.string (mt k0)) := ⟨_, rfl⟩
        have P2 : Hid (Pg wr y1 p off 6 u m [.string (mt kq), .string (mt k0), .string a2, .string a3, .string a4, .string a5] (· ∈ ([] : List Nat))) := by
          have := Q2.out.store 1 (.string (mt k0)) (by omega) hom
          rw [hz1, ← HO.out]; exact this
        have hfz := Q2.out.own.frozen
        have hbz := Q2.out.own.lt
        obtain ⟨ux, eu⟩ := Q2.out.own.cell (o + q * 6 + 1) (by have := HO.out; omega)
        go_upto_region 7 with fail
        rw [← hz1]
        clear hz1 hfz hbz eu
        obtain ⟨k1, hk1⟩ : ∃ k1 : Nat, k1 = k0 + 1 := ⟨_, rfl⟩
        have hkc1 : (k0 : Int) + 1 = (k1 : Int) := by omega
        have HK1 := uh hk1
        have kb1 : 1 ≤ k1 ∧ k1 ≤ 4000000000000000000 := by have := HCN.out; have := HK0.out; have := HK1.out; omega
        obtain ⟨kl1, ku1⟩ := kb1
        clear hk1
        go_upto_region 8 with fail
        clear hkc1
        go_wp2_with fail
        refine (markText k1 y1 (by omega) (by omega)).mono ?_
        rintro e x2 ⟨rfl, hb2⟩
        have Q3 := uh (P2.out.later hb2)
        clear hb2
        obtain ⟨y2, hz2⟩ : ∃ y, y = x2.setCell ⟨p, o + q * 6 + 2, none⟩ (.string (mt k1)) := ⟨_, rfl⟩
        have P3 : Hid (Pg wr y2 p off 6 u m [.string (mt kq), .string (mt k0), .string (mt k1), .string a3, .string a4, .string a5] (· ∈ ([] : List Nat))) := by
          have := Q3.out.store 2 (.string (mt k1)) (by omega) hom
          rw [hz2, ← HO.out]; exact this
        have hfz := Q3.out.own.frozen
        have hbz := Q3.out.own.lt
        obtain ⟨ux, eu⟩ := Q3.out.own.cell (o + q * 6 + 2) (by have := HO.out; omega)
        go_upto_region 9 with fail
        rw [← hz2]
        clear hz2 hfz hbz eu
        obtain ⟨k2, hk2⟩ : ∃ k2 : Nat, k2 = k1 + 1 := ⟨_, rfl⟩
        have hkc2 : (k1 : Int) + 1 = (k2 : Int) := by omega
        have HK2 := uh hk2
        have kb2 : 1 ≤ k2 ∧ k2 ≤ 4000000000000000000 := by have := HCN.out; have := HK0.out; have := HK1.out; have := HK2.out; omega
        obtain ⟨kl2, ku2⟩ := kb2
        clear hk2
        go_upto_region 10 with fail
        clear hkc2
        go_wp2_with fail
        refine (markText k2 y2 (by omega) (by omega)).mono ?_
        rintro e x3 ⟨rfl, hb3⟩
        have Q4 := uh (P3.out.later hb3)
        clear hb3
        obtain ⟨y3, hz3⟩ : ∃ y, y = x3.setCell ⟨p, o + q * 6 + 3, none⟩ (.string (mt k2)) := ⟨_, rfl⟩
        have P4 : Hid (Pg wr y3 p off 6 u m [.string (mt kq), .string (mt k0), .string (mt k1), .string (mt k2), .string a4, .string a5] (· ∈ ([] : List Nat))) := by
          have := Q4.out.store 3 (.string (mt k2)) (by omega) hom
          rw [hz3, ← HO.out]; exact this
        have hfz := Q4.out.own.frozen
        have hbz := Q4.out.own.lt
        obtain ⟨ux, eu⟩ := Q4.out.own.cell (o + q * 6 + 3) (by have := HO.out; omega)
        go_upto_region 11 with fail
        rw [← hz3]
        clear hz3 hfz hbz eu
        obtain ⟨k3, hk3⟩ : ∃ k3 : Nat, k3 = k2 + 1 := ⟨_, rfl⟩
        have hkc3 : (k2 : Int) + 1 = (k3 : Int) := by omega
        have HK3 := uh hk3
        have kb3 : 1 ≤ k3 ∧ k3 ≤ 4000000000000000000 := by have := HCN.out; have := HK0.out; have := HK1.out; have := HK2.out; have := HK3.out; omega
        obtain ⟨kl3, ku3⟩ := kb3
        clear hk3
        go_upto_region 12 with fail
        clear hkc3
        go_wp2_with fail
        refine (markText k3 y3 (by omega) (by omega)).mono ?_
        rintro e x4 ⟨rfl, hb4⟩
        have Q5 := uh (P4.out.later hb4)
        clear hb4
        obtain ⟨y4, hz4⟩ : ∃ y, y = x4.setCell ⟨p, o + q * 6 + 4, none⟩ (.string (mt k3)) := ⟨_, rfl⟩
        have P5 : Hid (Pg wr y4 p off 6 u m [.string (mt kq), .string (mt k0), .string (mt k1), .string (mt k2), .string (mt k3), .string a5] (· ∈ ([] : List Nat))) := by
          have := Q5.out.store 4 (.string (mt k3)) (by omega) hom
          rw [hz4, ← HO.out]; exact this
        have hfz := Q5.out.own.frozen
        have hbz := Q5.out.own.lt
        obtain ⟨ux, eu⟩ := Q5.out.own.cell (o + q * 6 + 4) (by have := HO.out; omega)
        go_upto_region 13 with fail
        rw [← hz4]
        clear hz4 hfz hbz eu
        obtain ⟨k4, hk4⟩ : ∃ k4 : Nat, k4 = k3 + 1 := ⟨_, rfl⟩
        have hkc4 : (k3 : Int) + 1 = (k4 : Int) := by omega
        have HK4 := uh hk4
        have kb4 : 1 ≤ k4 ∧ k4 ≤ 4000000000000000000 := by have := HCN.out; have := HK0.out; have := HK1.out; have := HK2.out; have := HK3.out; have := HK4.out; omega
        obtain ⟨kl4, ku4⟩ := kb4
        clear hk4
        go_upto_region 14 with fail
        clear hkc4
        go_wp2_with fail
        refine (markText k4 y4 (by omega) (by omega)).mono ?_
        rintro e x5 ⟨rfl, hb5⟩
        have Q6 := uh (P5.out.later hb5)
        clear hb5
        obtain ⟨y5, hz5⟩ : ∃ y, y = x5.setCell ⟨p, o + q * 6 + 5, none⟩ (.string (mt k4)) := ⟨_, rfl⟩
        have P6 : Hid (Pg wr y5 p off 6 u m [.string (mt kq), .string (mt k0), .string (mt k1), .string (mt k2), .string (mt k3), .string (mt k4)] (· ∈ ([] : List Nat))) := by
          have := Q6.out.store 5 (.string (mt k4)) (by omega) hom
          rw [hz5, ← HO.out]; exact this
        have hfz := Q6.out.own.frozen
        have hbz := Q6.out.own.lt
        obtain ⟨ux, eu⟩ := Q6.out.own.cell (o + q * 6 + 5) (by have := HO.out; omega)
        go_upto_region 15 with fail
        rw [← hz5]
        clear hz5 hfz hbz eu
        obtain ⟨k5, hk5⟩ : ∃ k5 : Nat, k5 = k4 + 1 := ⟨_, rfl⟩
        have hkc5 : (k4 : Int) + 1 = (k5 : Int) := by omega
        have HK5 := uh hk5
        have kb5 : 1 ≤ k5 ∧ k5 ≤ 4000000000000000000 := by have := HCN.out; have := HK0.out; have := HK1.out; have := HK2.out; have := HK3.out; have := HK4.out; have := HK5.out; omega
        obtain ⟨kl5, ku5⟩ := kb5
        clear hk5
        have HF : Hid (Marks (· ∈ p :: G) w y5 ∧ Row y5 shGateMend p o n u m G (mkL k (es.take ((q + 1) * 6)) ++ es.drop ((q + 1) * 6)) ∧ k5 = k + cntL (es.take ((q + 1) * 6))) := by
          have hmk : mkL kq [.s a0, .s a1, .s a2, .s a3, .s a4, .s a5] = [.s (mt kq), .s (mt k0), .s (mt k1), .s (mt k2), .s (mt k3), .s (mt k4)] := by simp only [mkL, HK0.out, HK1.out, HK2.out, HK3.out, HK4.out]
          have hs : ∀ b, b ∈ ([] : List Nat) → b ∈ ([] : List Nat) := by intro b hb; cases hb
          refine ⟨HM.out.trans (P6.out.mks.mono ?_), ?_, ?_⟩
          · rintro b (rfl | e)
            · simp
            · exact List.mem_cons_of_mem _ (HSU.out b (hs b e))
          · have := HC.out y5 _ _ (by have := P6.out.mono hs; rw [HO.out] at this; exact this) (repGateMend_mk _ _ _ _ _ _)
            rw [← HH.out, hmk]; exact this
          · have := HNX.out; simp only [cntL] at this; have := HK0.out; have := HK1.out; have := HK2.out; have := HK3.out; have := HK4.out; have := HK5.out; omega
        clear HC HH HM
        go_wp2
        go_roundw
        case rel => exact ⟨q + 1, by omega, by go_num, by rw [← HF.out.2.2], HF.out.1, HF.out.2.1⟩
        case measure => simp [intOf]; omega
      · obtain rfl : q = n := by omega
        have el_ : es.length = q * 6 := HT.out.rows
        rw [← el_, List.take_length, List.drop_length, List.append_nil] at HW
        rw [← el_, List.take_length]
        go_wp2
        go_ret
        exact ⟨rfl, HM.out, Rep.of_row HW.out HNC.out⟩
set_option maxRecDepth 8000 in
set_option maxHeartbeats 8000000 in
theorem markGateLaw (F : List Nat) (ds : List Dt) (cs : List Value) (k : Nat) (w : World) (h : Rep w false shGateLaw F ds cs) (hnd : F.Nodup) (h1 : 1 ≤ k) (hk : k + cntT ds ≤ 4000000000000000000) :
    Calls Try.prog 12 #[.agg cs.toArray, .int .i64 (k : Int)] w fun e w' => e = .returned (.int .i64 ((k + cntT ds : Nat) : Int)) ∧ Marks (· ∈ F) w w' ∧ Rep w' false shGateLaw F (mkT k ds) cs := by
  obtain ⟨F0, n0, e0, v0, F1, n1, e1, v1, F2, n2, e2, v2, rfl, rfl, hcs, r0, r1, r2⟩ := segRepGateLaw h
  have HCS := uh hcs
  simp only [cntT] at hk ⊢
  obtain ⟨nd0, ndr0, dj0⟩ := nd_app hnd
  have ND0 := uh nd0
  have DJ0 := uh dj0
  have LT0 := uh r0.lt
  obtain ⟨nd1, ndr1, dj1⟩ := nd_app ndr0
  have ND1 := uh nd1
  have DJ1 := uh dj1
  have LT1 := uh r1.lt
  obtain ⟨nd2, ndr2, dj2⟩ := nd_app ndr1
  have ND2 := uh nd2
  have DJ2 := uh dj2
  have LT2 := uh r2.lt
  clear hnd nd0 ndr0 dj0 nd1 ndr1 dj1 nd2 ndr2 dj2
  obtain ⟨wa, hwa⟩ : ∃ wa, wa = w.alloc (.cells cs.toArray 31) := ⟨_, rfl⟩
  have HB : Hid (Below w.heap.size w wa) := by show Below _ _ _; rw [hwa]; exact blw_alloc (Below.refl _ _) _
  have HX : Hid (LBox wa w.heap.size cs) := by show LBox _ _ _; rw [hwa]; exact LBox.new w cs.toArray _ _ rfl
  have R0 := uh (r0.later HB.out)
  have R1 := uh (r1.later HB.out)
  have R2 := uh (r2.later HB.out)
  have HM := uh (Marks.of_below (· ∈ ([] : List Nat)) HB.out)
  have HKK := uh hk
  clear hcs hk h r0 r1 r2
  go_enter Try.func12, Try.ntmps12
  go_upto_region 1 with fail
  rw [← hwa]
  clear hwa
  have hbz := HX.out.lt
  have hbx := boxGateLaw  (by have := HX.out.at_; rw [HCS.out] at this; exact this)
  have gc := hbx.1
  clear hbx
  obtain ⟨k0, hk0⟩ : ∃ k0 : Nat, k0 = k + cntL e0 := ⟨_, rfl⟩
  have HK0 := uh hk0
  have kb0 : 1 ≤ k0 ∧ k0 ≤ 4000000000000000000 := by have := HKK.out; have := HK0.out; omega
  obtain ⟨kl0, ku0⟩ := kb0
  clear hk0
  obtain ⟨va0, vc0, hva⟩ := R0.out.raw.len0
  subst hva
  go_wp2_with fail
  refine (markGateShapeS F0 n0 e0 (.slice va0 n0 vc0) k wa R0.out ND0.out (by omega) (by have := HK0.out; omega)).mono ?_
  rintro e x0 ⟨he, hb0, rr0⟩
  rw [← HK0.out] at he
  subst he
  replace HX := uh (HX.out.mks hb0 (fun e => Nat.lt_irrefl _ (LT0.out _ e)))
  replace HM := uh ((HM.out.mono (fun b (e : b ∈ ([] : List Nat)) => List.mem_append_left F0 e)).trans (hb0.mono (fun b (e : b ∈ F0) => List.mem_append_right ([] : List Nat) e)))
  replace R1 := uh (R1.out.keep hb0 (fun b hb e => DJ0.out b e (by simp [hb])))
  replace R2 := uh (R2.out.keep hb0 (fun b hb e => DJ0.out b e (by simp [hb])))
  replace R0 := uh rr0
  clear gc hbz hb0 rr0
  have hbz := HX.out.lt
  have hbx := boxGateLaw  (by have := HX.out.at_; rw [HCS.out] at this; exact this)
  have gc := hbx.2.1
  clear hbx
  obtain ⟨k1, hk1⟩ : ∃ k1 : Nat, k1 = k0 + cntL e1 := ⟨_, rfl⟩
  have HK1 := uh hk1
  have kb1 : 1 ≤ k1 ∧ k1 ≤ 4000000000000000000 := by have := HKK.out; have := HK0.out; have := HK1.out; omega
  obtain ⟨kl1, ku1⟩ := kb1
  clear hk1
  obtain ⟨va1, vc1, hva⟩ := R1.out.raw.len0
  subst hva
  go_wp2_with fail
  refine (markGateMendS F1 n1 e1 (.slice va1 n1 vc1) k0 x0 R1.out ND1.out (by omega) (by have := HK1.out; omega)).mono ?_
  rintro e x1 ⟨he, hb1, rr1⟩
  rw [← HK1.out] at he
  subst he
  replace HX := uh (HX.out.mks hb1 (fun e => Nat.lt_irrefl _ (LT1.out _ e)))
  replace HM := uh ((HM.out.mono (fun b (e : b ∈ (([] : List Nat) ++ F0)) => List.mem_append_left F1 e)).trans (hb1.mono (fun b (e : b ∈ F1) => List.mem_append_right (([] : List Nat) ++ F0) e)))
  replace R0 := uh (R0.out.keep hb1 (fun b hb e => DJ0.out b hb (by simp [e])))
  replace R2 := uh (R2.out.keep hb1 (fun b hb e => DJ1.out b e (by simp [hb])))
  replace R1 := uh rr1
  clear gc hbz hb1 rr1
  have hbz := HX.out.lt
  have hbx := boxGateLaw  (by have := HX.out.at_; rw [HCS.out] at this; exact this)
  have gc := hbx.2.2
  clear hbx
  obtain ⟨k2, hk2⟩ : ∃ k2 : Nat, k2 = k1 + cntL e2 := ⟨_, rfl⟩
  have HK2 := uh hk2
  have kb2 : 1 ≤ k2 ∧ k2 ≤ 4000000000000000000 := by have := HKK.out; have := HK0.out; have := HK1.out; have := HK2.out; omega
  obtain ⟨kl2, ku2⟩ := kb2
  clear hk2
  obtain ⟨va2, vc2, hva⟩ := R2.out.raw.len0
  subst hva
  go_wp2_with fail
  refine (markGateTeamS F2 n2 e2 (.slice va2 n2 vc2) k1 x1 R2.out ND2.out (by omega) (by have := HK2.out; omega)).mono ?_
  rintro e x2 ⟨he, hb2, rr2⟩
  rw [← HK2.out] at he
  subst he
  replace HX := uh (HX.out.mks hb2 (fun e => Nat.lt_irrefl _ (LT2.out _ e)))
  replace HM := uh ((HM.out.mono (fun b (e : b ∈ ((([] : List Nat) ++ F0) ++ F1)) => List.mem_append_left F2 e)).trans (hb2.mono (fun b (e : b ∈ F2) => List.mem_append_right ((([] : List Nat) ++ F0) ++ F1) e)))
  replace R0 := uh (R0.out.keep hb2 (fun b hb e => DJ0.out b hb (by simp [e])))
  replace R1 := uh (R1.out.keep hb2 (fun b hb e => DJ1.out b hb (by simp [e])))
  replace R2 := uh rr2
  clear gc hbz hb2 rr2
  go_wp2
  go_ret
  refine ⟨Pl.ret_int (by have := HKK.out; have := HK0.out; have := HK1.out; have := HK2.out; omega), HM.out.mono (fun b (e : b ∈ (((([] : List Nat) ++ F0) ++ F1) ++ F2)) => by simpa [or_assoc] using e), ?_⟩
  have := segRepGateLaw_mk R0.out R1.out R2.out
  rw [← HCS.out] at this
  simp only [mkT]
  simpa only [HK0.out, HK1.out, HK2.out, Nat.add_zero] using this
end Go.Proofs.Ytdojomnfephbhaa
