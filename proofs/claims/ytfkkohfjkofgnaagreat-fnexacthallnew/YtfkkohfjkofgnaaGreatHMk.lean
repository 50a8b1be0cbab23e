/-
  Marks of houses.
-/
import Derived.Test.YtfkkohfjkofgnaaGreatHSh
namespace Go.Proofs.YtfkkohfjkofgnaaGreat
open Go.RowKit Go.Deep

set_option maxRecDepth 8000 in
set_option maxHeartbeats 8000000 in
theorem markIntS (F : List Nat) (n : Nat) (es : List Dt) (v : Value) (k : Nat) (w : World) (h : Rep w false [.row 3 [.i]] F [.row n es] [v]) (hnd : F.Nodup) (h1 : 1 ≤ k) (hk : k + cntL es ≤ 4000000000000000000) :
    Calls Tryz.prog 59 #[v, .int .i64 (k : Int)] w fun e w' => e = .returned (.int .i64 ((k + cntL es : Nat) : Int)) ∧ Marks (· ∈ F) w w' ∧ Rep w' false [.row 3 [.i]] F [.row n (mkL k es)] [v] := by
  rcases h.slice with ⟨_, rfl, rfl, rfl, a, rfl⟩ | ⟨p, o, c, u, m, G, rfl, rfl, hn, ho, hm, _, vs, hr, hR⟩
  · go_enter Tryz.func59, Tryz.ntmps59
    go_wp2
    refine wp_loop_rounds 1 ?_
    rw [rounds_succ]
    go_wp2
    go_ret
    exact ⟨by simp [cntL], Marks.refl _ _, by rw [mkL]; exact Rep.emp _ _ a rfl .nil⟩
  · have HT : Hid (Typ (reps n [.i]) es) := hR.raw.typ
    have HR : Hid (Row w [.i] p o n u m G es) := ⟨ho, hm, vs, hr, hR⟩
    have HND : Hid ((p :: G).Nodup) := hnd
    have hn1 : n ≤ 9223372036854775807 := hn.1
    have HNC := uh hn
    have hmm : o + n * 1 ≤ m := hm
    clear hr hR ho hm hnd h hn vs
    go_enter Tryz.func59, Tryz.ntmps59
    go_wp2
    go_loopw [1, 5] (fun kk i wr => ∃ q : Nat, q ≤ n ∧ i = .int .i64 (q : Int) ∧ kk = .int .i64 ((k + cntL (es.take (q * 1)) : Nat) : Int) ∧ Marks (· ∈ p :: G) w wr ∧ Row wr [.i] p o n u m G (mkL k (es.take (q * 1)) ++ es.drop (q * 1))) (fun _ i _ => n - (intOf i).toNat)
    case atStart => exact ⟨0, Nat.zero_le _, rfl, by simp [cntL], Marks.refl _ _, by simpa [mkL] using HR.out⟩
    case round =>
      obtain ⟨q, hq, rfl, rfl, hM, hRow⟩ := hrel
      have HM := uh hM
      have HW := uh hRow
      clear hM hRow
      by_cases hlt : q < n
      · obtain ⟨Ge, ve, hE, hrng, hpG, hndE, hsub, hclose⟩ := HW.out.open HND.out q hlt
        obtain ⟨d, hd⟩ : ∃ d, d = el 1 q es := ⟨_, rfl⟩
        have hte : Typ [.i] d := by rw [hd]; exact HT.out.el hlt
        have hE2 : Rep wr false [.i] Ge d ve := by
          have ee : el 1 q (mkL k (es.take (q * 1)) ++ es.drop (q * 1)) = el 1 q es := half_el (sh := [.i]) HT.out hlt
          have hh : Rep wr false [.i] Ge (el 1 q (mkL k (es.take (q * 1)) ++ es.drop (q * 1))) ve := hE
          rw [ee, ← hd] at hh; exact hh
        have hcn : k + cntL (es.take (q * 1)) + cntL d ≤ 4000000000000000000 := by rw [hd]; have := @cnt_el q 1 es; omega
        have hnx : cntL (es.take ((q + 1) * 1)) = cntL (es.take (q * 1)) + cntL d := by rw [hd]; exact cnt_next (sh := [.i]) HT.out hlt
        have hhn : (mkL k (es.take (q * 1)) ++ es.drop (q * 1)).take (q * 1) ++ (mkL (k + cntL (es.take (q * 1))) d ++ (mkL k (es.take (q * 1)) ++ es.drop (q * 1)).drop (q * 1 + 1)) = mkL k (es.take ((q + 1) * 1)) ++ es.drop ((q + 1) * 1) := by rw [hd]; exact half_next (sh := [.i]) HT.out hlt
        clear hE hd
        obtain ⟨kq, hkq⟩ : ∃ kq : Nat, kq = k + cntL (es.take (q * 1)) := ⟨_, rfl⟩
        rw [← hkq] at hcn hhn ⊢
        have HNX : Hid (k + cntL (es.take ((q + 1) * 1)) = kq + cntL d) := by show _ = _; omega
        obtain ⟨a0, rfl⟩ := typN1 hte
        obtain ⟨rfl, rfl⟩ := repN1 hE2
        have hkq1 : 1 ≤ kq := by omega
        have hkq2 : kq ≤ 4000000000000000000 := by omega
        simp only [cntL] at hcn
        have HCN := uh hcn
        clear hcn
        clear hE2 hte hkq hnx
        obtain ⟨off, hoff⟩ : ∃ off, off = o + q := ⟨_, rfl⟩
        have hom : off + 1 ≤ m := by have : q * 1 + 1 ≤ n * 1 := (by omega); omega
        have P0 : Hid (Pg wr wr p off 1 u m [.int .i64 a0] (· ∈ ([] : List Nat))) := Pg.refl _ HW.out.own (by rw [hoff]; simpa using hrng)
        have HC := uh hclose
        have HH := uh hhn
        have HO : Hid (off = o + q) := hoff
        have HPG := uh hpG; have HNE := uh hndE
        have HSU := uh hsub
        clear hclose hhn hrng hpG hndE hsub HW
        have hm0 : (0 : Int) ≤ (q : Int) := by omega
        have hm3 : (q : Int) < (n : Int) := by omega
        obtain ⟨y0, hz0⟩ : ∃ y, y = wr.setCell ⟨p, o + q, none⟩ (.int .i64 (kq : Int)) := ⟨_, rfl⟩
        have P1 : Hid (Pg wr y0 p off 1 u m [.int .i64 (kq : Int)] (· ∈ ([] : List Nat))) := by
          have := P0.out.store 0 (.int .i64 (kq : Int)) (by omega) hom
          rw [hz0, ← HO.out]; exact this
        have hfz := P0.out.own.frozen
        have hbz := P0.out.own.lt
        obtain ⟨ux, eu⟩ := P0.out.own.cell (o + q) (by have := HO.out; omega)
        go_upto_region 5 with fail
        rw [← hz0]
        clear hz0 hfz hbz eu
        obtain ⟨k0, hk0⟩ : ∃ k0 : Nat, k0 = kq + 1 := ⟨_, rfl⟩
        have hkc0 : (kq : Int) + 1 = (k0 : Int) := by omega
        have HK0 := uh hk0
        have kb0 : 1 ≤ k0 ∧ k0 ≤ 4000000000000000000 := by have := HCN.out; have := HK0.out; omega
        obtain ⟨kl0, ku0⟩ := kb0
        clear hk0
        have HF : Hid (Marks (· ∈ p :: G) w y0 ∧ Row y0 [.i] p o n u m G (mkL k (es.take ((q + 1) * 1)) ++ es.drop ((q + 1) * 1)) ∧ k0 = k + cntL (es.take ((q + 1) * 1))) := by
          have hmk : mkL kq [.i a0] = [.i (kq : Int)] := by simp only [mkL]
          have hs : ∀ b, b ∈ ([] : List Nat) → b ∈ ([] : List Nat) := by intro b hb; cases hb
          refine ⟨HM.out.trans (P1.out.mks.mono ?_), ?_, ?_⟩
          · rintro b (rfl | e)
            · simp
            · exact List.mem_cons_of_mem _ (HSU.out b (hs b e))
          · have := HC.out y0 _ _ (by have := P1.out.mono hs; rw [HO.out, show o + q = o + q * 1 by omega] at this; exact this) (repN1_mk _)
            rw [← HH.out, hmk]; exact this
          · have := HNX.out; simp only [cntL] at this; have := HK0.out; omega
        clear HC HH HM
        go_wp2
        go_roundw
        case rel => exact ⟨q + 1, by omega, by go_num, by rw [← HF.out.2.2], HF.out.1, HF.out.2.1⟩
        case measure => simp [intOf]; omega
      · obtain rfl : q = n := by omega
        have el_ : es.length = q * 1 := HT.out.rows
        rw [← el_, List.take_length, List.drop_length, List.append_nil] at HW
        rw [← el_, List.take_length]
        go_wp2
        go_ret
        exact ⟨rfl, HM.out, Rep.of_row HW.out HNC.out⟩
set_option maxRecDepth 8000 in
set_option maxHeartbeats 8000000 in
theorem markGateTeamS (F : List Nat) (n : Nat) (es : List Dt) (v : Value) (k : Nat) (w : World) (h : Rep w false [.row 86 shGateTeam] F [.row n es] [v]) (hnd : F.Nodup) (h1 : 1 ≤ k) (hk : k + cntL es ≤ 4000000000000000000) :
    Calls Tryz.prog 28 #[v, .int .i64 (k : Int)] w fun e w' => e = .returned (.int .i64 ((k + cntL es : Nat) : Int)) ∧ Marks (· ∈ F) w w' ∧ Rep w' false [.row 86 shGateTeam] F [.row n (mkL k es)] [v] := by
  rcases h.slice with ⟨_, rfl, rfl, rfl, a, rfl⟩ | ⟨p, o, c, u, m, G, rfl, rfl, hn, ho, hm, _, vs, hr, hR⟩
  · go_enter Tryz.func28, Tryz.ntmps28
    go_wp2
    refine wp_loop_rounds 1 ?_
    rw [rounds_succ]
    go_wp2
    go_ret
    exact ⟨by simp [cntL], Marks.refl _ _, by rw [mkL]; exact Rep.emp _ _ a rfl .nil⟩
  · have HT : Hid (Typ (reps n shGateTeam) es) := hR.raw.typ
    have HR : Hid (Row w shGateTeam p o n u m G es) := ⟨ho, hm, vs, hr, hR⟩
    have HND : Hid ((p :: G).Nodup) := hnd
    have hn1 : n ≤ 9223372036854775807 := hn.1
    have HNC := uh hn
    have hmm : o + n * 2 ≤ m := hm
    clear hr hR ho hm hnd h hn vs
    go_enter Tryz.func28, Tryz.ntmps28
    go_wp2
    go_loopw [1, 5] (fun kk i wr => ∃ q : Nat, q ≤ n ∧ i = .int .i64 (q : Int) ∧ kk = .int .i64 ((k + cntL (es.take (q * 2)) : Nat) : Int) ∧ Marks (· ∈ p :: G) w wr ∧ Row wr shGateTeam p o n u m G (mkL k (es.take (q * 2)) ++ es.drop (q * 2))) (fun _ i _ => n - (intOf i).toNat)
    case atStart => exact ⟨0, Nat.zero_le _, rfl, by simp [cntL], Marks.refl _ _, by simpa [mkL] using HR.out⟩
    case round =>
      obtain ⟨q, hq, rfl, rfl, hM, hRow⟩ := hrel
      have HM := uh hM
      have HW := uh hRow
      clear hM hRow
      by_cases hlt : q < n
      · obtain ⟨Ge, ve, hE, hrng, hpG, hndE, hsub, hclose⟩ := HW.out.open HND.out q hlt
        obtain ⟨d, hd⟩ : ∃ d, d = el 2 q es := ⟨_, rfl⟩
        have hte : Typ shGateTeam d := by rw [hd]; exact HT.out.el hlt
        have hE2 : Rep wr false shGateTeam Ge d ve := by
          have ee : el 2 q (mkL k (es.take (q * 2)) ++ es.drop (q * 2)) = el 2 q es := half_el (sh := shGateTeam) HT.out hlt
          have hh : Rep wr false shGateTeam Ge (el 2 q (mkL k (es.take (q * 2)) ++ es.drop (q * 2))) ve := hE
          rw [ee, ← hd] at hh; exact hh
        have hcn : k + cntL (es.take (q * 2)) + cntL d ≤ 4000000000000000000 := by rw [hd]; have := @cnt_el q 2 es; omega
        have hnx : cntL (es.take ((q + 1) * 2)) = cntL (es.take (q * 2)) + cntL d := by rw [hd]; exact cnt_next (sh := shGateTeam) HT.out hlt
        have hhn : (mkL k (es.take (q * 2)) ++ es.drop (q * 2)).take (q * 2) ++ (mkL (k + cntL (es.take (q * 2))) d ++ (mkL k (es.take (q * 2)) ++ es.drop (q * 2)).drop (q * 2 + 2)) = mkL k (es.take ((q + 1) * 2)) ++ es.drop ((q + 1) * 2) := by rw [hd]; exact half_next (sh := shGateTeam) HT.out hlt
        clear hE hd
        obtain ⟨kq, hkq⟩ : ∃ kq : Nat, kq = k + cntL (es.take (q * 2)) := ⟨_, rfl⟩
        rw [← hkq] at hcn hhn ⊢
        have HNX : Hid (k + cntL (es.take ((q + 1) * 2)) = kq + cntL d) := by show _ = _; omega
        obtain ⟨a0, a1, rfl⟩ := typGateTeam hte
        obtain ⟨rfl, rfl⟩ := repGateTeam hE2
        have hkq1 : 1 ≤ kq := by omega
        have hkq2 : kq ≤ 4000000000000000000 := by omega
        simp only [cntL] at hcn
        have HCN := uh hcn
        clear hcn
        clear hE2 hte hkq hnx
        obtain ⟨off, hoff⟩ : ∃ off, off = o + q * 2 := ⟨_, rfl⟩
        have hom : off + 2 ≤ m := by have : q * 2 + 2 ≤ n * 2 := (by omega); omega
        have P0 : Hid (Pg wr wr p off 2 u m [.string a0, .string a1] (· ∈ ([] : List Nat))) := Pg.refl _ HW.out.own (by rw [hoff]; exact hrng)
        have HC := uh hclose
        have HH := uh hhn
        have HO : Hid (off = o + q * 2) := hoff
        have HPG := uh hpG; have HNE := uh hndE
        have HSU := uh hsub
        clear hclose hhn hrng hpG hndE hsub HW
        have hm0 : (0 : Int) ≤ (q : Int) := by omega
        have hm3 : (q : Int) < (n : Int) := by omega
        go_wp2_with fail
        refine (markText kq wr (by omega) (by omega)).mono ?_
        rintro e x0 ⟨rfl, hb0⟩
        have Q1 := uh (P0.out.later hb0)
        clear hb0
        obtain ⟨y0, hz0⟩ : ∃ y, y = x0.setCell ⟨p, o + q * 2, none⟩ (.string (mt kq)) := ⟨_, rfl⟩
        have P1 : Hid (Pg wr y0 p off 2 u m [.string (mt kq), .string a1] (· ∈ ([] : List Nat))) := by
          have := Q1.out.store 0 (.string (mt kq)) (by omega) hom
          rw [hz0, ← HO.out]; exact this
        have hfz := Q1.out.own.frozen
        have hbz := Q1.out.own.lt
        obtain ⟨ux, eu⟩ := Q1.out.own.cell (o + q * 2) (by have := HO.out; omega)
        go_upto_region 5 with fail
        rw [← hz0]
        clear hz0 hfz hbz eu
        obtain ⟨k0, hk0⟩ : ∃ k0 : Nat, k0 = kq + 1 := ⟨_, rfl⟩
        have hkc0 : (kq : Int) + 1 = (k0 : Int) := by omega
        have HK0 := uh hk0
        have kb0 : 1 ≤ k0 ∧ k0 ≤ 4000000000000000000 := by have := HCN.out; have := HK0.out; omega
        obtain ⟨kl0, ku0⟩ := kb0
        clear hk0
        go_upto_region 6 with fail
        clear hkc0
        go_wp2_with fail
        refine (markText k0 y0 (by omega) (by omega)).mono ?_
        rintro e x1 ⟨rfl, hb1⟩
        have Q2 := uh (P1.out.later hb1)
        clear hb1
        obtain ⟨y1, hz1⟩ : ∃ y, y = x1.setCell ⟨p, o + q * 2 + 1, none⟩ (.string (mt k0)) := ⟨_, rfl⟩
        have P2 : Hid (Pg wr y1 p off 2 u m [.string (mt kq), .string (mt k0)] (· ∈ ([] : List Nat))) := by
          have := Q2.out.store 1 (.string (mt k0)) (by omega) hom
          rw [hz1, ← HO.out]; exact this
        have hfz := Q2.out.own.frozen
        have hbz := Q2.out.own.lt
        obtain ⟨ux, eu⟩ := Q2.out.own.cell (o + q * 2 + 1) (by have := HO.out; omega)
        go_upto_region 7 with fail
        rw [← hz1]
        clear hz1 hfz hbz eu
        obtain ⟨k1, hk1⟩ : ∃ k1 : Nat, k1 = k0 + 1 := ⟨_, rfl⟩
        have hkc1 : (k0 : Int) + 1 = (k1 : Int) := by omega
        have HK1 := uh hk1
        have kb1 : 1 ≤ k1 ∧ k1 ≤ 4000000000000000000 := by have := HCN.out; have := HK0.out; have := HK1.out; omega
        obtain ⟨kl1, ku1⟩ := kb1
        clear hk1
        have HF : Hid (Marks (· ∈ p :: G) w y1 ∧ Row y1 shGateTeam p o n u m G (mkL k (es.take ((q + 1) * 2)) ++ es.drop ((q + 1) * 2)) ∧ k1 = k + cntL (es.take ((q + 1) * 2))) := by
          have hmk : mkL kq [.s a0, .s a1] = [.s (mt kq), .s (mt k0)] := by simp only [mkL, HK0.out]
          have hs : ∀ b, b ∈ ([] : List Nat) → b ∈ ([] : List Nat) := by intro b hb; cases hb
          refine ⟨HM.out.trans (P2.out.mks.mono ?_), ?_, ?_⟩
          · rintro b (rfl | e)
            · simp
            · exact List.mem_cons_of_mem _ (HSU.out b (hs b e))
          · have := HC.out y1 _ _ (by have := P2.out.mono hs; rw [HO.out] at this; exact this) (repGateTeam_mk _ _)
            rw [← HH.out, hmk]; exact this
          · have := HNX.out; simp only [cntL] at this; have := HK0.out; have := HK1.out; omega
        clear HC HH HM
        go_wp2
        go_roundw
        case rel => exact ⟨q + 1, by omega, by go_num, by rw [← HF.out.2.2], HF.out.1, HF.out.2.1⟩
        case measure => simp [intOf]; omega
      · obtain rfl : q = n := by omega
        have el_ : es.length = q * 2 := HT.out.rows
        rw [← el_, List.take_length, List.drop_length, List.append_nil] at HW
        rw [← el_, List.take_length]
        go_wp2
        go_ret
        exact ⟨rfl, HM.out, Rep.of_row HW.out HNC.out⟩
set_option maxRecDepth 8000 in
set_option maxHeartbeats 8000000 in
theorem markGateGrantS (F : List Nat) (n : Nat) (es : List Dt) (v : Value) (k : Nat) (w : World) (h : Rep w false [.row 74 shGateGrant] F [.row n es] [v]) (hnd : F.Nodup) (h1 : 1 ≤ k) (hk : k + cntL es ≤ 4000000000000000000) :
    Calls Tryz.prog 29 #[v, .int .i64 (k : Int)] w fun e w' => e = .returned (.int .i64 ((k + cntL es : Nat) : Int)) ∧ Marks (· ∈ F) w w' ∧ Rep w' false [.row 74 shGateGrant] F [.row n (mkL k es)] [v] := by
  rcases h.slice with ⟨_, rfl, rfl, rfl, a, rfl⟩ | ⟨p, o, c, u, m, G, rfl, rfl, hn, ho, hm, _, vs, hr, hR⟩
  · go_enter Tryz.func29, Tryz.ntmps29
    go_wp2
    refine wp_loop_rounds 1 ?_
    rw [rounds_succ]
    go_wp2
    go_ret
    exact ⟨by simp [cntL], Marks.refl _ _, by rw [mkL]; exact Rep.emp _ _ a rfl .nil⟩
  · have HT : Hid (Typ (reps n shGateGrant) es) := hR.raw.typ
    have HR : Hid (Row w shGateGrant p o n u m G es) := ⟨ho, hm, vs, hr, hR⟩
    have HND : Hid ((p :: G).Nodup) := hnd
    have hn1 : n ≤ 9223372036854775807 := hn.1
    have HNC := uh hn
    have hmm : o + n * 7 ≤ m := hm
    clear hr hR ho hm hnd h hn vs
    go_enter Tryz.func29, Tryz.ntmps29
    go_wp2
    go_loopw [1, 5] (fun kk i wr => ∃ q : Nat, q ≤ n ∧ i = .int .i64 (q : Int) ∧ kk = .int .i64 ((k + cntL (es.take (q * 7)) : Nat) : Int) ∧ Marks (· ∈ p :: G) w wr ∧ Row wr shGateGrant p o n u m G (mkL k (es.take (q * 7)) ++ es.drop (q * 7))) (fun _ i _ => n - (intOf i).toNat)
    case atStart => exact ⟨0, Nat.zero_le _, rfl, by simp [cntL], Marks.refl _ _, by simpa [mkL] using HR.out⟩
    case round =>
      obtain ⟨q, hq, rfl, rfl, hM, hRow⟩ := hrel
      have HM := uh hM
      have HW := uh hRow
      clear hM hRow
      by_cases hlt : q < n
      · obtain ⟨Ge, ve, hE, hrng, hpG, hndE, hsub, hclose⟩ := HW.out.open HND.out q hlt
        obtain ⟨d, hd⟩ : ∃ d, d = el 7 q es := ⟨_, rfl⟩
        have hte : Typ shGateGrant d := by rw [hd]; exact HT.out.el hlt
        have hE2 : Rep wr false shGateGrant Ge d ve := by
          have ee : el 7 q (mkL k (es.take (q * 7)) ++ es.drop (q * 7)) = el 7 q es := half_el (sh := shGateGrant) HT.out hlt
          have hh : Rep wr false shGateGrant Ge (el 7 q (mkL k (es.take (q * 7)) ++ es.drop (q * 7))) ve := hE
          rw [ee, ← hd] at hh; exact hh
        have hcn : k + cntL (es.take (q * 7)) + cntL d ≤ 4000000000000000000 := by rw [hd]; have := @cnt_el q 7 es; omega
        have hnx : cntL (es.take ((q + 1) * 7)) = cntL (es.take (q * 7)) + cntL d := by rw [hd]; exact cnt_next (sh := shGateGrant) HT.out hlt
        have hhn : (mkL k (es.take (q * 7)) ++ es.drop (q * 7)).take (q * 7) ++ (mkL (k + cntL (es.take (q * 7))) d ++ (mkL k (es.take (q * 7)) ++ es.drop (q * 7)).drop (q * 7 + 7)) = mkL k (es.take ((q + 1) * 7)) ++ es.drop ((q + 1) * 7) := by rw [hd]; exact half_next (sh := shGateGrant) HT.out hlt
        clear hE hd
        obtain ⟨kq, hkq⟩ : ∃ kq : Nat, kq = k + cntL (es.take (q * 7)) := ⟨_, rfl⟩
        rw [← hkq] at hcn hhn ⊢
        have HNX : Hid (k + cntL (es.take ((q + 1) * 7)) = kq + cntL d) := by show _ = _; omega
        obtain ⟨a0, a1, a2, n3, e3, a4, a5, a6, rfl, t3⟩ := typGateGrant hte
        obtain ⟨F3, v3, rfl, rfl, r3⟩ := repGateGrant hE2
        have hkq1 : 1 ≤ kq := by omega
        have hkq2 : kq ≤ 4000000000000000000 := by omega
        simp only [cntL] at hcn
        have HCN := uh hcn
        clear hcn
        clear hE2 hte hkq hnx
        obtain ⟨off, hoff⟩ : ∃ off, off = o + q * 7 := ⟨_, rfl⟩
        have hom : off + 7 ≤ m := by have : q * 7 + 7 ≤ n * 7 := (by omega); omega
        have P0 : Hid (Pg wr wr p off 7 u m [.int .i64 a0, .string a1, .string a2, v3, .string a4, .string a5, .string a6] (· ∈ ([] : List Nat))) := Pg.refl _ HW.out.own (by rw [hoff]; exact hrng)
        have HC := uh hclose
        have HH := uh hhn
        have HO : Hid (off = o + q * 7) := hoff
        have HPG := uh hpG; have HNE := uh hndE
        have HSU := uh hsub
        clear hclose hhn hrng hpG hndE hsub HW
        have hm0 : (0 : Int) ≤ (q : Int) := by omega
        have hm3 : (q : Int) < (n : Int) := by omega
        have R3 := uh r3
        clear r3
        have nd := HNE.out
        obtain ⟨nd3, ndr3, dj3⟩ := nd_app nd
        have ND3 := uh nd3
        have DJ3 := uh dj3
        clear nd nd3 ndr3 dj3
        obtain ⟨y0, hz0⟩ : ∃ y, y = wr.setCell ⟨p, o + q * 7, none⟩ (.int .i64 (kq : Int)) := ⟨_, rfl⟩
        have P1 : Hid (Pg wr y0 p off 7 u m [.int .i64 (kq : Int), .string a1, .string a2, v3, .string a4, .string a5, .string a6] (· ∈ ([] : List Nat))) := by
          have := P0.out.store 0 (.int .i64 (kq : Int)) (by omega) hom
          rw [hz0, ← HO.out]; exact this
        have hfz := P0.out.own.frozen
        have hbz := P0.out.own.lt
        obtain ⟨ux, eu⟩ := P0.out.own.cell (o + q * 7) (by have := HO.out; omega)
        go_upto_region 5 with fail
        rw [← hz0]
        clear hz0 hfz hbz eu
        obtain ⟨k0, hk0⟩ : ∃ k0 : Nat, k0 = kq + 1 := ⟨_, rfl⟩
        have hkc0 : (kq : Int) + 1 = (k0 : Int) := by omega
        have HK0 := uh hk0
        have kb0 : 1 ≤ k0 ∧ k0 ≤ 4000000000000000000 := by have := HCN.out; have := HK0.out; omega
        obtain ⟨kl0, ku0⟩ := kb0
        clear hk0
        go_upto_region 6 with fail
        clear hkc0
        go_wp2_with fail
        refine (markText k0 y0 (by omega) (by omega)).mono ?_
        rintro e x1 ⟨rfl, hb1⟩
        have Q2 := uh (P1.out.later hb1)
        clear hb1
        obtain ⟨y1, hz1⟩ : ∃ y, y = x1.setCell ⟨p, o + q * 7 + 1, none⟩ (.string (mt k0)) := ⟨_, rfl⟩
        have P2 : Hid (Pg wr y1 p off 7 u m [.int .i64 (kq : Int), .string (mt k0), .string a2, v3, .string a4, .string a5, .string a6] (· ∈ ([] : List Nat))) := by
          have := Q2.out.store 1 (.string (mt k0)) (by omega) hom
          rw [hz1, ← HO.out]; exact this
        have hfz := Q2.out.own.frozen
        have hbz := Q2.out.own.lt
        obtain ⟨ux, eu⟩ := Q2.out.own.cell (o + q * 7 + 1) (by have := HO.out; omega)
        go_upto_region 7 with fail
        rw [← hz1]
        clear hz1 hfz hbz eu
        obtain ⟨k1, hk1⟩ : ∃ k1 : Nat, k1 = k0 + 1 := ⟨_, rfl⟩
        have hkc1 : (k0 : Int) + 1 = (k1 : Int) := by omega
        have HK1 := uh hk1
        have kb1 : 1 ≤ k1 ∧ k1 ≤ 4000000000000000000 := by have := HCN.out; have := HK0.out; have := HK1.out; omega
        obtain ⟨kl1, ku1⟩ := kb1
        clear hk1
        go_upto_region 8 with fail
        clear hkc1
        go_wp2_with fail
        refine (markText k1 y1 (by omega) (by omega)).mono ?_
        rintro e x2 ⟨rfl, hb2⟩
        have Q3 := uh (P2.out.later hb2)
        clear hb2
        obtain ⟨y2, hz2⟩ : ∃ y, y = x2.setCell ⟨p, o + q * 7 + 2, none⟩ (.string (mt k1)) := ⟨_, rfl⟩
        have P3 : Hid (Pg wr y2 p off 7 u m [.int .i64 (kq : Int), .string (mt k0), .string (mt k1), v3, .string a4, .string a5, .string a6] (· ∈ ([] : List Nat))) := by
          have := Q3.out.store 2 (.string (mt k1)) (by omega) hom
          rw [hz2, ← HO.out]; exact this
        have hfz := Q3.out.own.frozen
        have hbz := Q3.out.own.lt
        obtain ⟨ux, eu⟩ := Q3.out.own.cell (o + q * 7 + 2) (by have := HO.out; omega)
        go_upto_region 9 with fail
        rw [← hz2]
        clear hz2 hfz hbz eu
        obtain ⟨k2, hk2⟩ : ∃ k2 : Nat, k2 = k1 + 1 := ⟨_, rfl⟩
        have hkc2 : (k1 : Int) + 1 = (k2 : Int) := by omega
        have HK2 := uh hk2
        have kb2 : 1 ≤ k2 ∧ k2 ≤ 4000000000000000000 := by have := HCN.out; have := HK0.out; have := HK1.out; have := HK2.out; omega
        obtain ⟨kl2, ku2⟩ := kb2
        clear hk2
        go_upto_region 10 with fail
        clear hkc2
        have hbz := P3.out.own.lt
        have K3 : Hid (Rep y2 false [.row 3 [.i]] F3 [.row n3 e3] [v3]) := by
          refine R3.out.keep P3.out.mks ?_
          rintro b hb (rfl | e)
          · exact HPG.out (by simp [hb])
          · cases e
        obtain ⟨va3, vc3, hva⟩ := K3.out.raw.len0
        subst hva
        have gc := rA_get P3.out.at_ 3 _ rfl
        rw [HO.out] at gc
        obtain ⟨k3, hk3⟩ : ∃ k3 : Nat, k3 = k2 + cntL e3 := ⟨_, rfl⟩
        have HK3 := uh hk3
        have kb3 : 1 ≤ k3 ∧ k3 ≤ 4000000000000000000 := by have := HCN.out; have := HK0.out; have := HK1.out; have := HK2.out; have := HK3.out; omega
        obtain ⟨kl3, ku3⟩ := kb3
        clear hk3
        go_wp2_with fail
        refine (markIntS F3 n3 e3 (.slice va3 n3 vc3) k2 y2 K3.out ND3.out (by omega) (by have := HK3.out; omega)).mono ?_
        rintro e x3 ⟨he, hb3, rr3⟩
        rw [← HK3.out] at he
        subst he
        have P4 := uh (P3.out.grow hb3 (fun e => HPG.out (by simp [e])))
        have D3 := uh rr3
        clear gc hbz rr3 hb3 K3
        go_wp2_with fail
        refine (markText k3 x3 (by omega) (by omega)).mono ?_
        rintro e x4 ⟨rfl, hb4⟩
        have Q5 := uh (P4.out.later hb4)
        replace D3 := uh (D3.out.later hb4)
        clear hb4
        obtain ⟨y4, hz4⟩ : ∃ y, y = x4.setCell ⟨p, o + q * 7 + 4, none⟩ (.string (mt k3)) := ⟨_, rfl⟩
        have P5 : Hid (Pg wr y4 p off 7 u m [.int .i64 (kq : Int), .string (mt k0), .string (mt k1), .slice va3 n3 vc3, .string (mt k3), .string a5, .string a6] (· ∈ (([] : List Nat) ++ F3))) := by
          have := Q5.out.store 4 (.string (mt k3)) (by omega) hom
          rw [hz4, ← HO.out]; exact this
        replace D3 := uh (D3.out.keep (w' := y4) (S := fun b => b = p) (by rw [hz4]; exact Marks.sc (S := fun b => b = p) _ rfl _ _) (by rintro b hb rfl; exact HPG.out (by simp [hb])))
        have hfz := Q5.out.own.frozen
        have hbz := Q5.out.own.lt
        obtain ⟨ux, eu⟩ := Q5.out.own.cell (o + q * 7 + 4) (by have := HO.out; omega)
        go_upto_region 12 with fail
        rw [← hz4]
        clear hz4 hfz hbz eu
        obtain ⟨k4, hk4⟩ : ∃ k4 : Nat, k4 = k3 + 1 := ⟨_, rfl⟩
        have hkc4 : (k3 : Int) + 1 = (k4 : Int) := by omega
        have HK4 := uh hk4
        have kb4 : 1 ≤ k4 ∧ k4 ≤ 4000000000000000000 := by have := HCN.out; have := HK0.out; have := HK1.out; have := HK2.out; have := HK3.out; have := HK4.out; omega
        obtain ⟨kl4, ku4⟩ := kb4
        clear hk4
        go_upto_region 13 with fail
        clear hkc4
        go_wp2_with fail
        refine (markText k4 y4 (by omega) (by omega)).mono ?_
        rintro e x5 ⟨rfl, hb5⟩
        have Q6 := uh (P5.out.later hb5)
        replace D3 := uh (D3.out.later hb5)
        clear hb5
        obtain ⟨y5, hz5⟩ : ∃ y, y = x5.setCell ⟨p, o + q * 7 + 5, none⟩ (.string (mt k4)) := ⟨_, rfl⟩
        have P6 : Hid (Pg wr y5 p off 7 u m [.int .i64 (kq : Int), .string (mt k0), .string (mt k1), .slice va3 n3 vc3, .string (mt k3), .string (mt k4), .string a6] (· ∈ (([] : List Nat) ++ F3))) := by
          have := Q6.out.store 5 (.string (mt k4)) (by omega) hom
          rw [hz5, ← HO.out]; exact this
        replace D3 := uh (D3.out.keep (w' := y5) (S := fun b => b = p) (by rw [hz5]; exact Marks.sc (S := fun b => b = p) _ rfl _ _) (by rintro b hb rfl; exact HPG.out (by simp [hb])))
        have hfz := Q6.out.own.frozen
        have hbz := Q6.out.own.lt
        obtain ⟨ux, eu⟩ := Q6.out.own.cell (o + q * 7 + 5) (by have := HO.out; omega)
        go_upto_region 14 with fail
        rw [← hz5]
        clear hz5 hfz hbz eu
        obtain ⟨k5, hk5⟩ : ∃ k5 : Nat, k5 = k4 + 1 := ⟨_, rfl⟩
        have hkc5 : (k4 : Int) + 1 = (k5 : Int) := by omega
        have HK5 := uh hk5
        have kb5 : 1 ≤ k5 ∧ k5 ≤ 4000000000000000000 := by have := HCN.out; have := HK0.out; have := HK1.out; have := HK2.out; have := HK3.out; have := HK4.out; have := HK5.out; omega
        obtain ⟨kl5, ku5⟩ := kb5
        clear hk5
        go_upto_region 15 with fail
        clear hkc5
        go_wp2_with fail
        refine (markText k5 y5 (by omega) (by omega)).mono ?_
        rintro e x6 ⟨rfl, hb6⟩
        have Q7 := uh (P6.out.later hb6)
        replace D3 := uh (D3.out.later hb6)
        clear hb6
        obtain ⟨y6, hz6⟩ : ∃ y, y = x6.setCell ⟨p, o + q * 7 + 6, none⟩ (.string (mt k5)) := ⟨_, rfl⟩
        have P7 : Hid (Pg wr y6 p off 7 u m [.int .i64 (kq : Int), .string (mt k0), .string (mt k1), .slice va3 n3 vc3, .string (mt k3), .string (mt k4), .string (mt k5)] (· ∈ (([] : List Nat) ++ F3))) := by
          have := Q7.out.store 6 (.string (mt k5)) (by omega) hom
          rw [hz6, ← HO.out]; exact this
        replace D3 := uh (D3.out.keep (w' := y6) (S := fun b => b = p) (by rw [hz6]; exact Marks.sc (S := fun b => b = p) _ rfl _ _) (by rintro b hb rfl; exact HPG.out (by simp [hb])))
        have hfz := Q7.out.own.frozen
        have hbz := Q7.out.own.lt
        obtain ⟨ux, eu⟩ := Q7.out.own.cell (o + q * 7 + 6) (by have := HO.out; omega)
        go_upto_region 16 with fail
        rw [← hz6]
        clear hz6 hfz hbz eu
        obtain ⟨k6, hk6⟩ : ∃ k6 : Nat, k6 = k5 + 1 := ⟨_, rfl⟩
        have hkc6 : (k5 : Int) + 1 = (k6 : Int) := by omega
        have HK6 := uh hk6
        have kb6 : 1 ≤ k6 ∧ k6 ≤ 4000000000000000000 := by have := HCN.out; have := HK0.out; have := HK1.out; have := HK2.out; have := HK3.out; have := HK4.out; have := HK5.out; have := HK6.out; omega
        obtain ⟨kl6, ku6⟩ := kb6
        clear hk6
        have HF : Hid (Marks (· ∈ p :: G) w y6 ∧ Row y6 shGateGrant p o n u m G (mkL k (es.take ((q + 1) * 7)) ++ es.drop ((q + 1) * 7)) ∧ k6 = k + cntL (es.take ((q + 1) * 7))) := by
          have hmk : mkL kq [.i a0, .s a1, .s a2, .row n3 e3, .s a4, .s a5, .s a6] = [.i (kq : Int), .s (mt k0), .s (mt k1), .row n3 (mkL k2 e3), .s (mt k3), .s (mt k4), .s (mt k5)] := by simp only [mkL, HK0.out, HK1.out, HK2.out, HK3.out, HK4.out, HK5.out]
          have hs : ∀ b, b ∈ (([] : List Nat) ++ F3) → b ∈ (F3 ++ [] : List Nat) := by intro b hb; simpa using hb
          refine ⟨HM.out.trans (P7.out.mks.mono ?_), ?_, ?_⟩
          · rintro b (rfl | e)
            · simp
            · exact List.mem_cons_of_mem _ (HSU.out b (hs b e))
          · have := HC.out y6 _ _ (by have := P7.out.mono hs; rw [HO.out] at this; exact this) (repGateGrant_mk _ _ _ D3.out _ _ _)
            rw [← HH.out, hmk]; exact this
          · have := HNX.out; simp only [cntL] at this; have := HK0.out; have := HK1.out; have := HK2.out; have := HK3.out; have := HK4.out; have := HK5.out; have := HK6.out; omega
        clear HC HH HM
        go_wp2
        go_roundw
        case rel => exact ⟨q + 1, by omega, by go_num, by rw [← HF.out.2.2], HF.out.1, HF.out.2.1⟩
        case measure => simp [intOf]; omega
      · obtain rfl : q = n := by omega
        have el_ : es.length = q * 7 := HT.out.rows
        rw [← el_, List.take_length, List.drop_length, List.append_nil] at HW
        rw [← el_, List.take_length]
        go_wp2
        go_ret
        exact ⟨rfl, HM.out, Rep.of_row HW.out HNC.out⟩
set_option maxRecDepth 8000 in
set_option maxHeartbeats 8000000 in
theorem markHallHouse (F : List Nat) (ds : List Dt) (cs : List Value) (k : Nat) (w : World) (h : Rep w false shHallHouse F ds cs) (hnd : F.Nodup) (h1 : 1 ≤ k) (hk : k + cntT ds ≤ 4000000000000000000) :
    Calls Tryz.prog 10 #[.agg cs.toArray, .int .i64 (k : Int)] w fun e w' => e = .returned (.int .i64 ((k + cntT ds : Nat) : Int)) ∧ Marks (· ∈ F) w w' ∧ Rep w' false shHallHouse F (mkT k ds) cs := by
  obtain ⟨F0, n0, e0, v0, F1, n1, e1, v1, rfl, rfl, hcs, r0, r1⟩ := segRepHallHouse h
  have HCS := uh hcs
  simp only [cntT] at hk ⊢
  obtain ⟨nd0, ndr0, dj0⟩ := nd_app hnd
  have ND0 := uh nd0
  have DJ0 := uh dj0
  have LT0 := uh r0.lt
  obtain ⟨nd1, ndr1, dj1⟩ := nd_app ndr0
  have ND1 := uh nd1
  have DJ1 := uh dj1
  have LT1 := uh r1.lt
  clear hnd nd0 ndr0 dj0 nd1 ndr1 dj1
  obtain ⟨wa, hwa⟩ : ∃ wa, wa = w.alloc (.cells cs.toArray 30) := ⟨_, rfl⟩
  have HB : Hid (Below w.heap.size w wa) := by show Below _ _ _; rw [hwa]; exact blw_alloc (Below.refl _ _) _
  have HX : Hid (LBox wa w.heap.size cs) := by show LBox _ _ _; rw [hwa]; exact LBox.new w cs.toArray _ _ rfl
  have R0 := uh (r0.later HB.out)
  have R1 := uh (r1.later HB.out)
  have HM := uh (Marks.of_below (· ∈ ([] : List Nat)) HB.out)
  have HKK := uh hk
  clear hcs hk h r0 r1
  go_enter Tryz.func10, Tryz.ntmps10
  go_upto_region 1 with fail
  rw [← hwa]
  clear hwa
  have hbz := HX.out.lt
  have hbx := boxHallHouse  (by have := HX.out.at_; rw [HCS.out] at this; exact this)
  have gc := hbx.1
  clear hbx
  obtain ⟨k0, hk0⟩ : ∃ k0 : Nat, k0 = k + cntL e0 := ⟨_, rfl⟩
  have HK0 := uh hk0
  have kb0 : 1 ≤ k0 ∧ k0 ≤ 4000000000000000000 := by have := HKK.out; have := HK0.out; omega
  obtain ⟨kl0, ku0⟩ := kb0
  clear hk0
  obtain ⟨va0, vc0, hva⟩ := R0.out.raw.len0
  subst hva
  go_wp2_with fail
  refine (markGateTeamS F0 n0 e0 (.slice va0 n0 vc0) k wa R0.out ND0.out (by omega) (by have := HK0.out; omega)).mono ?_
  rintro e x0 ⟨he, hb0, rr0⟩
  rw [← HK0.out] at he
  subst he
  replace HX := uh (HX.out.mks hb0 (fun e => Nat.lt_irrefl _ (LT0.out _ e)))
  replace HM := uh ((HM.out.mono (fun b (e : b ∈ ([] : List Nat)) => List.mem_append_left F0 e)).trans (hb0.mono (fun b (e : b ∈ F0) => List.mem_append_right ([] : List Nat) e)))
  replace R1 := uh (R1.out.keep hb0 (fun b hb e => DJ0.out b e (by simp [hb])))
  replace R0 := uh rr0
  clear gc hbz hb0 rr0
  have hbz := HX.out.lt
  have hbx := boxHallHouse  (by have := HX.out.at_; rw [HCS.out] at this; exact this)
  have gc := hbx.2
  clear hbx
  obtain ⟨k1, hk1⟩ : ∃ k1 : Nat, k1 = k0 + cntL e1 := ⟨_, rfl⟩
  have HK1 := uh hk1
  have kb1 : 1 ≤ k1 ∧ k1 ≤ 4000000000000000000 := by have := HKK.out; have := HK0.out; have := HK1.out; omega
  obtain ⟨kl1, ku1⟩ := kb1
  clear hk1
  obtain ⟨va1, vc1, hva⟩ := R1.out.raw.len0
  subst hva
  go_wp2_with fail
  refine (markGateGrantS F1 n1 e1 (.slice va1 n1 vc1) k0 x0 R1.out ND1.out (by omega) (by have := HK1.out; omega)).mono ?_
  rintro e x1 ⟨he, hb1, rr1⟩
  rw [← HK1.out] at he
  subst he
  replace HX := uh (HX.out.mks hb1 (fun e => Nat.lt_irrefl _ (LT1.out _ e)))
  replace HM := uh ((HM.out.mono (fun b (e : b ∈ (([] : List Nat) ++ F0)) => List.mem_append_left F1 e)).trans (hb1.mono (fun b (e : b ∈ F1) => List.mem_append_right (([] : List Nat) ++ F0) e)))
  replace R0 := uh (R0.out.keep hb1 (fun b hb e => DJ0.out b hb (by simp [e])))
  replace R1 := uh rr1
  clear gc hbz hb1 rr1
  go_wp2
  go_ret
  refine ⟨Pl.ret_int (by have := HKK.out; have := HK0.out; have := HK1.out; omega), HM.out.mono (fun b (e : b ∈ ((([] : List Nat) ++ F0) ++ F1)) => by simpa [or_assoc] using e), ?_⟩
  have := segRepHallHouse_mk R0.out R1.out
  rw [← HCS.out] at this
  simp only [mkT]
  simpa only [HK0.out, HK1.out, Nat.add_zero] using this
end Go.Proofs.YtfkkohfjkofgnaaGreat
