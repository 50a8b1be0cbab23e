/-
  Rules: marks.
-/
import Derived.Test.YtgoadeoabmkecaaERs
import Derived.Test.YtgoadeoabmkecaaUM
import Derived.Test.YtgoadeoabmkecaaUBm
namespace Go.Proofs.Ytgoadeoabmkecaa
open Go.RowKit Go.Deep

set_option maxRecDepth 8000 in
set_option maxHeartbeats 8000000 in
theorem markIntS (F : List Nat) (n : Nat) (es : List Dt) (v : Value) (k : Nat) (w : World) (h : Rep w false [.row 3 [.i]] F [.row n es] [v]) (hnd : F.Nodup) (h1 : 1 ≤ k) (hk : k + cntL es ≤ 4000000000000000000) :
    Calls Try.prog 20 #[v, .int .i64 (k : Int)] w fun e w' => e = .returned (.int .i64 ((k + cntL es : Nat) : Int)) ∧ Marks (· ∈ F) w w' ∧ Rep w' false [.row 3 [.i]] F [.row n (mkL k es)] [v] := by
  rcases h.slice with ⟨_, rfl, rfl, rfl, a, rfl⟩ | ⟨p, o, c, u, m, G, rfl, rfl, hn, ho, hm, _, vs, hr, hR⟩
  · go_enter Try.func20, Try.ntmps20
    go_wp2
    refine wp_loop_rounds 1 ?_
    rw [rounds_succ]
    go_wp2
    go_ret
    exact ⟨by simp [cntL], Marks.refl _ _, by rw [mkL]; exact Rep.emp _ _ a rfl .nil⟩
  · have HT : Hid (Typ (reps n [.i]) es) := hR.raw.typ
    have HR : Hid (Row w [.i] p o n u m G es) := ⟨ho, hm, vs, hr, hR⟩
    have HND : Hid ((p :: G).Nodup) := hnd
    have hn1 : n ≤ 9223372036854775807 := hn.1
    have HNC := uh hn
    have hmm : o + n * 1 ≤ m := hm
    clear hr hR ho hm hnd h hn vs
    go_enter Try.func20, Try.ntmps20
    go_wp2
    go_loopw [1, 5] (fun kk i wr => ∃ q : Nat, q ≤ n ∧ i = .int .i64 (q : Int) ∧ kk = .int .i64 ((k + cntL (es.take (q * 1)) : Nat) : Int) ∧ Marks (· ∈ p :: G) w wr ∧ Row wr [.i] p o n u m G (mkL k (es.take (q * 1)) ++ es.drop (q * 1))) (fun _ i _ => n - (intOf i).toNat)
    case atStart => exact ⟨0, Nat.zero_le _, rfl, by simp [cntL], Marks.refl _ _, by simpa [mkL] using HR.out⟩
    case round =>
      obtain ⟨q, hq, rfl, rfl, hM, hRow⟩ := hrel
      have HM := uh hM
      have HW := uh hRow
      clear hM hRow
      by_cases hlt : q < n
      · obtain ⟨Ge, ve, hE, hrng, hpG, hndE, hsub, hclose⟩ := HW.out.open HND.out q hlt
        obtain ⟨d, hd⟩ : ∃ d, d = el 1 q es := ⟨_, rfl⟩
        have hte : Typ [.i] d := by rw [hd]; exact HT.out.el hlt
        have hE2 : Rep wr false [.i] Ge d ve := by
          have ee : el 1 q (mkL k (es.take (q * 1)) ++ es.drop (q * 1)) = el 1 q es := half_el (sh := [.i]) HT.out hlt
          have hh : Rep wr false [.i] Ge (el 1 q (mkL k (es.take (q * 1)) ++ es.drop (q * 1))) ve := hE
          rw [ee, ← hd] at hh; exact hh
        have hcn : k + cntL (es.take (q * 1)) + cntL d ≤ 4000000000000000000 := by rw [hd]; have := @cnt_el q 1 es; omega
        have hnx : cntL (es.take ((q + 1) * 1)) = cntL (es.take (q * 1)) + cntL d := by rw [hd]; exact cnt_next (sh := [.i]) HT.out hlt
        have hhn : (mkL k (es.take (q * 1)) ++ es.drop (q * 1)).take (q * 1) ++ (mkL (k + cntL (es.take (q * 1))) d ++ (mkL k (es.take (q * 1)) ++ es.drop (q * 1)).drop (q * 1 + 1)) = mkL k (es.take ((q + 1) * 1)) ++ es.drop ((q + 1) * 1) := by rw [hd]; exact half_next (sh := [.i]) HT.out hlt
        clear hE hd
        obtain ⟨kq, hkq⟩ : ∃ kq : Nat, kq = k + cntL (es.take (q * 1)) := ⟨_, rfl⟩
        rw [← hkq] at hcn hhn ⊢
        have HNX : Hid (k + cntL (es.take ((q + 1) * 1)) = kq + cntL d) := by show _ = _; omega
        obtain ⟨a0, rfl⟩ := typN1 hte
        obtain ⟨rfl, rfl⟩ := repN1 hE2
        have hkq1 : 1 ≤ kq := by omega
        have hkq2 : kq ≤ 4000000000000000000 := by omega
        simp only [cntL] at hcn
        have HCN := uh hcn
        clear hcn
        clear hE2 hte hkq hnx
        obtain ⟨off, hoff⟩ : ∃ off, off = o + q := ⟨_, rfl⟩
        have hom : off + 1 ≤ m := by have : q * 1 + 1 ≤ n * 1 := (by omega); omega
        have P0 : Hid (Pg wr wr p off 1 u m [.int .i64 a0] (· ∈ ([] : List Nat))) := Pg.refl _ HW.out.own (by rw [hoff]; simpa using hrng)
        have HC := uh hclose
        have HH := uh hhn
        have HO : Hid (off = o + q) := hoff
        have HPG := uh hpG; have HNE := uh hndE
        have HSU := uh hsub
        clear hclose hhn hrng hpG hndE hsub HW
        have hm0 : (0 : Int) ≤ (q : Int) := by omega
        have hm3 : (q : Int) < (n : Int) := by omega
        obtain ⟨y0, hz0⟩ : ∃ y, y = wr.setCell ⟨p, o + q, none⟩ (.int .i64 (kq : Int)) := ⟨_, rfl⟩
        have P1 : Hid (Pg wr y0 p off 1 u m [.int .i64 (kq : Int)] (· ∈ ([] : List Nat))) := by
          have := P0.out.store 0 (.int .i64 (kq : Int)) (by omega) hom
          rw [hz0, ← HO.out]; exact this
        have hfz := P0.out.own.frozen
        have hbz := P0.out.own.lt
        obtain ⟨ux, eu⟩ := P0.out.own.cell (o + q) (by have := HO.out; omega)
        go_upto_region 5 with fail
        rw [← hz0]
        clear hz0 hfz hbz eu
        obtain ⟨k0, hk0⟩ : ∃ k0 : Nat, k0 = kq + 1 := ⟨_, rfl⟩
        have hkc0 : (kq : Int) + 1 = (k0 : Int) := by omega
        have HK0 := uh hk0
        have kb0 : 1 ≤ k0 ∧ k0 ≤ 4000000000000000000 := by have := HCN.out; have := HK0.out; omega
        obtain ⟨kl0, ku0⟩ := kb0
        clear hk0
        have HF : Hid (Marks (· ∈ p :: G) w y0 ∧ Row y0 [.i] p o n u m G (mkL k (es.take ((q + 1) * 1)) ++ es.drop ((q + 1) * 1)) ∧ k0 = k + cntL (es.take ((q + 1) * 1))) := by
          have hmk : mkL kq [.i a0] = [.i (kq : Int)] := by simp only [mkL]
          have hs : ∀ b, b ∈ ([] : List Nat) → b ∈ ([] : List Nat) := by intro b hb; cases hb
          refine ⟨HM.out.trans (P1.out.mks.mono ?_), ?_, ?_⟩
          · rintro b (rfl | e)
            · simp
            · exact List.mem_cons_of_mem _ (HSU.out b (hs b e))
          · have := HC.out y0 _ _ (by have := P1.out.mono hs; rw [HO.out, show o + q = o + q * 1 by omega] at this; exact this) (repN1_mk _)
            rw [← HH.out, hmk]; exact this
          · have := HNX.out; simp only [cntL] at this; have := HK0.out; omega
        clear HC HH HM
        go_wp2
        go_roundw
        case rel => exact ⟨q + 1, by omega, by go_num, by rw [← HF.out.2.2], HF.out.1, HF.out.2.1⟩
        case measure => simp [intOf]; omega
      · obtain rfl : q = n := by omega
        have el_ : es.length = q * 1 := HT.out.rows
        rw [← el_, List.take_length, List.drop_length, List.append_nil] at HW
        rw [← el_, List.take_length]
        go_wp2
        go_ret
        exact ⟨rfl, HM.out, Rep.of_row HW.out HNC.out⟩
set_option maxRecDepth 8000 in
set_option maxHeartbeats 8000000 in
theorem markStringS (F : List Nat) (n : Nat) (es : List Dt) (v : Value) (k : Nat) (w : World) (h : Rep w false [.row 9 [.s]] F [.row n es] [v]) (hnd : F.Nodup) (h1 : 1 ≤ k) (hk : k + cntL es ≤ 4000000000000000000) :
    Calls Try.prog 21 #[v, .int .i64 (k : Int)] w fun e w' => e = .returned (.int .i64 ((k + cntL es : Nat) : Int)) ∧ Marks (· ∈ F) w w' ∧ Rep w' false [.row 9 [.s]] F [.row n (mkL k es)] [v] := by
  rcases h.slice with ⟨_, rfl, rfl, rfl, a, rfl⟩ | ⟨p, o, c, u, m, G, rfl, rfl, hn, ho, hm, _, vs, hr, hR⟩
  · go_enter Try.func21, Try.ntmps21
    go_wp2
    refine wp_loop_rounds 1 ?_
    rw [rounds_succ]
    go_wp2
    go_ret
    exact ⟨by simp [cntL], Marks.refl _ _, by rw [mkL]; exact Rep.emp _ _ a rfl .nil⟩
  · have HT : Hid (Typ (reps n [.s]) es) := hR.raw.typ
    have HR : Hid (Row w [.s] p o n u m G es) := ⟨ho, hm, vs, hr, hR⟩
    have HND : Hid ((p :: G).Nodup) := hnd
    have hn1 : n ≤ 9223372036854775807 := hn.1
    have HNC := uh hn
    have hmm : o + n * 1 ≤ m := hm
    clear hr hR ho hm hnd h hn vs
    go_enter Try.func21, Try.ntmps21
    go_wp2
    go_loopw [1, 5] (fun kk i wr => ∃ q : Nat, q ≤ n ∧ i = .int .i64 (q : Int) ∧ kk = .int .i64 ((k + cntL (es.take (q * 1)) : Nat) : Int) ∧ Marks (· ∈ p :: G) w wr ∧ Row wr [.s] p o n u m G (mkL k (es.take (q * 1)) ++ es.drop (q * 1))) (fun _ i _ => n - (intOf i).toNat)
    case atStart => exact ⟨0, Nat.zero_le _, rfl, by simp [cntL], Marks.refl _ _, by simpa [mkL] using HR.out⟩
    case round =>
      obtain ⟨q, hq, rfl, rfl, hM, hRow⟩ := hrel
      have HM := uh hM
      have HW := uh hRow
      clear hM hRow
      by_cases hlt : q < n
      · obtain ⟨Ge, ve, hE, hrng, hpG, hndE, hsub, hclose⟩ := HW.out.open HND.out q hlt
        obtain ⟨d, hd⟩ : ∃ d, d = el 1 q es := ⟨_, rfl⟩
        have hte : Typ [.s] d := by rw [hd]; exact HT.out.el hlt
        have hE2 : Rep wr false [.s] Ge d ve := by
          have ee : el 1 q (mkL k (es.take (q * 1)) ++ es.drop (q * 1)) = el 1 q es := half_el (sh := [.s]) HT.out hlt
          have hh : Rep wr false [.s] Ge (el 1 q (mkL k (es.take (q * 1)) ++ es.drop (q * 1))) ve := hE
          rw [ee, ← hd] at hh; exact hh
        have hcn : k + cntL (es.take (q * 1)) + cntL d ≤ 4000000000000000000 := by rw [hd]; have := @cnt_el q 1 es; omega
        have hnx : cntL (es.take ((q + 1) * 1)) = cntL (es.take (q * 1)) + cntL d := by rw [hd]; exact cnt_next (sh := [.s]) HT.out hlt
        have hhn : (mkL k (es.take (q * 1)) ++ es.drop (q * 1)).take (q * 1) ++ (mkL (k + cntL (es.take (q * 1))) d ++ (mkL k (es.take (q * 1)) ++ es.drop (q * 1)).drop (q * 1 + 1)) = mkL k (es.take ((q + 1) * 1)) ++ es.drop ((q + 1) * 1) := by rw [hd]; exact half_next (sh := [.s]) HT.out hlt
        clear hE hd
        obtain ⟨kq, hkq⟩ : ∃ kq : Nat, kq = k + cntL (es.take (q * 1)) := ⟨_, rfl⟩
        rw [← hkq] at hcn hhn ⊢
        have HNX : Hid (k + cntL (es.take ((q + 1) * 1)) = kq + cntL d) := by show _ = _; omega
        obtain ⟨a0, rfl⟩ := typT1 hte
        obtain ⟨rfl, rfl⟩ := repT1 hE2
        have hkq1 : 1 ≤ kq := by omega
        have hkq2 : kq ≤ 4000000000000000000 := by omega
        simp only [cntL] at hcn
        have HCN := uh hcn
        clear hcn
        clear hE2 hte hkq hnx
        obtain ⟨off, hoff⟩ : ∃ off, off = o + q := ⟨_, rfl⟩
        have hom : off + 1 ≤ m := by have : q * 1 + 1 ≤ n * 1 := (by omega); omega
        have P0 : Hid (Pg wr wr p off 1 u m [.string a0] (· ∈ ([] : List Nat))) := Pg.refl _ HW.out.own (by rw [hoff]; simpa using hrng)
        have HC := uh hclose
        have HH := uh hhn
        have HO : Hid (off = o + q) := hoff
        have HPG := uh hpG; have HNE := uh hndE
        have HSU := uh hsub
        clear hclose hhn hrng hpG hndE hsub HW
        have hm0 : (0 : Int) ≤ (q : Int) := by omega
        have hm3 : (q : Int) < (n : Int) := by omega
        go_wp2_with fail
        refine (markText kq wr (by omega) (by omega)).mono ?_
        rintro e x0 ⟨rfl, hb0⟩
        have Q1 := uh (P0.out.later hb0)
        clear hb0
        obtain ⟨y0, hz0⟩ : ∃ y, y = x0.setCell ⟨p, o + q, none⟩ (.string (mt kq)) := ⟨_, rfl⟩
        have P1 : Hid (Pg wr y0 p off 1 u m [.string (mt kq)] (· ∈ ([] : List Nat))) := by
          have := Q1.out.store 0 (.string (mt kq)) (by omega) hom
          rw [hz0, ← HO.out]; exact this
        have hfz := Q1.out.own.frozen
        have hbz := Q1.out.own.lt
        obtain ⟨ux, eu⟩ := Q1.out.own.cell (o + q) (by have := HO.out; omega)
        go_upto_region 5 with fail
        rw [← hz0]
        clear hz0 hfz hbz eu
        obtain ⟨k0, hk0⟩ : ∃ k0 : Nat, k0 = kq + 1 := ⟨_, rfl⟩
        have hkc0 : (kq : Int) + 1 = (k0 : Int) := by omega
        have HK0 := uh hk0
        have kb0 : 1 ≤ k0 ∧ k0 ≤ 4000000000000000000 := by have := HCN.out; have := HK0.out; omega
        obtain ⟨kl0, ku0⟩ := kb0
        clear hk0
        have HF : Hid (Marks (· ∈ p :: G) w y0 ∧ Row y0 [.s] p o n u m G (mkL k (es.take ((q + 1) * 1)) ++ es.drop ((q + 1) * 1)) ∧ k0 = k + cntL (es.take ((q + 1) * 1))) := by
          have hmk : mkL kq [.s a0] = [.s (mt kq)] := by simp only [mkL]
          have hs : ∀ b, b ∈ ([] : List Nat) → b ∈ ([] : List Nat) := by intro b hb; cases hb
          refine ⟨HM.out.trans (P1.out.mks.mono ?_), ?_, ?_⟩
          · rintro b (rfl | e)
            · simp
            · exact List.mem_cons_of_mem _ (HSU.out b (hs b e))
          · have := HC.out y0 _ _ (by have := P1.out.mono hs; rw [HO.out, show o + q = o + q * 1 by omega] at this; exact this) (repT1_mk _)
            rw [← HH.out, hmk]; exact this
          · have := HNX.out; simp only [cntL] at this; have := HK0.out; omega
        clear HC HH HM
        go_wp2
        go_roundw
        case rel => exact ⟨q + 1, by omega, by go_num, by rw [← HF.out.2.2], HF.out.1, HF.out.2.1⟩
        case measure => simp [intOf]; omega
      · obtain rfl : q = n := by omega
        have el_ : es.length = q * 1 := HT.out.rows
        rw [← el_, List.take_length, List.drop_length, List.append_nil] at HW
        rw [← el_, List.take_length]
        go_wp2
        go_ret
        exact ⟨rfl, HM.out, Rep.of_row HW.out HNC.out⟩
set_option maxRecDepth 8000 in
set_option maxHeartbeats 8000000 in
theorem markSheetRuleS (F : List Nat) (n : Nat) (es : List Dt) (v : Value) (k : Nat) (w : World) (h : Rep w false [.row 34 shSheetRule] F [.row n es] [v]) (hnd : F.Nodup) (h1 : 1 ≤ k) (hk : k + cntL es ≤ 4000000000000000000) :
    Calls Try.prog 8 #[v, .int .i64 (k : Int)] w fun e w' => e = .returned (.int .i64 ((k + cntL es : Nat) : Int)) ∧ Marks (· ∈ F) w w' ∧ Rep w' false [.row 34 shSheetRule] F [.row n (mkL k es)] [v] := by
  rcases h.slice with ⟨_, rfl, rfl, rfl, a, rfl⟩ | ⟨p, o, c, u, m, G, rfl, rfl, hn, ho, hm, _, vs, hr, hR⟩
  · go_enter Try.func8, Try.ntmps8
    go_wp2
    refine wp_loop_rounds 1 ?_
    rw [rounds_succ]
    go_wp2
    go_ret
    exact ⟨by simp [cntL], Marks.refl _ _, by rw [mkL]; exact Rep.emp _ _ a rfl .nil⟩
  · have HT : Hid (Typ (reps n shSheetRule) es) := hR.raw.typ
    have HR : Hid (Row w shSheetRule p o n u m G es) := ⟨ho, hm, vs, hr, hR⟩
    have HND : Hid ((p :: G).Nodup) := hnd
    have hn1 : n ≤ 9223372036854775807 := hn.1
    have HNC := uh hn
    have hmm : o + n * 4 ≤ m := hm
    clear hr hR ho hm hnd h hn vs
    go_enter Try.func8, Try.ntmps8
    go_wp2
    go_loopw [1, 5] (fun kk i wr => ∃ q : Nat, q ≤ n ∧ i = .int .i64 (q : Int) ∧ kk = .int .i64 ((k + cntL (es.take (q * 4)) : Nat) : Int) ∧ Marks (· ∈ p :: G) w wr ∧ Row wr shSheetRule p o n u m G (mkL k (es.take (q * 4)) ++ es.drop (q * 4))) (fun _ i _ => n - (intOf i).toNat)
    case atStart => exact ⟨0, Nat.zero_le _, rfl, by simp [cntL], Marks.refl _ _, by simpa [mkL] using HR.out⟩
    case round =>
      obtain ⟨q, hq, rfl, rfl, hM, hRow⟩ := hrel
      have HM := uh hM
      have HW := uh hRow
      clear hM hRow
      by_cases hlt : q < n
      · obtain ⟨Ge, ve, hE, hrng, hpG, hndE, hsub, hclose⟩ := HW.out.open HND.out q hlt
        obtain ⟨d, hd⟩ : ∃ d, d = el 4 q es := ⟨_, rfl⟩
        have hte : Typ shSheetRule d := by rw [hd]; exact HT.out.el hlt
        have hE2 : Rep wr false shSheetRule Ge d ve := by
          have ee : el 4 q (mkL k (es.take (q * 4)) ++ es.drop (q * 4)) = el 4 q es := half_el (sh := shSheetRule) HT.out hlt
          have hh : Rep wr false shSheetRule Ge (el 4 q (mkL k (es.take (q * 4)) ++ es.drop (q * 4))) ve := hE
          rw [ee, ← hd] at hh; exact hh
        have hcn : k + cntL (es.take (q * 4)) + cntL d ≤ 4000000000000000000 := by rw [hd]; have := @cnt_el q 4 es; omega
        have hnx : cntL (es.take ((q + 1) * 4)) = cntL (es.take (q * 4)) + cntL d := by rw [hd]; exact cnt_next (sh := shSheetRule) HT.out hlt
        have hhn : (mkL k (es.take (q * 4)) ++ es.drop (q * 4)).take (q * 4) ++ (mkL (k + cntL (es.take (q * 4))) d ++ (mkL k (es.take (q * 4)) ++ es.drop (q * 4)).drop (q * 4 + 4)) = mkL k (es.take ((q + 1) * 4)) ++ es.drop ((q + 1) * 4) := by rw [hd]; exact half_next (sh := shSheetRule) HT.out hlt
        clear hE hd
        obtain ⟨kq, hkq⟩ : ∃ kq : Nat, kq = k + cntL (es.take (q * 4)) := ⟨_, rfl⟩
        rw [← hkq] at hcn hhn ⊢
        have HNX : Hid (k + cntL (es.take ((q + 1) * 4)) = kq + cntL d) := by show _ = _; omega
        obtain ⟨a0, n1, e1, a2, n3, e3, rfl, t1, t3⟩ := typSheetRule hte
        obtain ⟨F1, v1, F3, v3, rfl, rfl, r1, r3⟩ := repSheetRule hE2
        have hkq1 : 1 ≤ kq := by omega
        have hkq2 : kq ≤ 4000000000000000000 := by omega
        simp only [cntL] at hcn
        have HCN := uh hcn
        clear hcn
        clear hE2 hte hkq hnx
        obtain ⟨off, hoff⟩ : ∃ off, off = o + q * 4 := ⟨_, rfl⟩
        have hom : off + 4 ≤ m := by have : q * 4 + 4 ≤ n * 4 := (by omega); omega
        have P0 : Hid (Pg wr wr p off 4 u m [.string a0, v1, .bool a2, v3] (· ∈ ([] : List Nat))) := Pg.refl _ HW.out.own (by rw [hoff]; exact hrng)
        have HC := uh hclose
        have HH := uh hhn
        have HO : Hid (off = o + q * 4) := hoff
        have HPG := uh hpG; have HNE := uh hndE
        have HSU := uh hsub
        clear hclose hhn hrng hpG hndE hsub HW
        have hm0 : (0 : Int) ≤ (q : Int) := by omega
        have hm3 : (q : Int) < (n : Int) := by omega
        have R1 := uh r1
        have R3 := uh r3
        clear r1 r3
        have nd := HNE.out
        obtain ⟨nd1, ndr1, dj1⟩ := nd_app nd
        have ND1 := uh nd1
        have DJ1 := uh dj1
        obtain ⟨nd3, ndr3, dj3⟩ := nd_app ndr1
        have ND3 := uh nd3
        have DJ3 := uh dj3
        clear nd nd1 ndr1 dj1 nd3 ndr3 dj3
        go_wp2_with fail
        refine (markText kq wr (by omega) (by omega)).mono ?_
        rintro e x0 ⟨rfl, hb0⟩
        have Q1 := uh (P0.out.later hb0)
        clear hb0
        obtain ⟨y0, hz0⟩ : ∃ y, y = x0.setCell ⟨p, o + q * 4, none⟩ (.string (mt kq)) := ⟨_, rfl⟩
        have P1 : Hid (Pg wr y0 p off 4 u m [.string (mt kq), v1, .bool a2, v3] (· ∈ ([] : List Nat))) := by
          have := Q1.out.store 0 (.string (mt kq)) (by omega) hom
          rw [hz0, ← HO.out]; exact this
        have hfz := Q1.out.own.frozen
        have hbz := Q1.out.own.lt
        obtain ⟨ux, eu⟩ := Q1.out.own.cell (o + q * 4) (by have := HO.out; omega)
        go_upto_region 5 with fail
        rw [← hz0]
        clear hz0 hfz hbz eu
        obtain ⟨k0, hk0⟩ : ∃ k0 : Nat, k0 = kq + 1 := ⟨_, rfl⟩
        have hkc0 : (kq : Int) + 1 = (k0 : Int) := by omega
        have HK0 := uh hk0
        have kb0 : 1 ≤ k0 ∧ k0 ≤ 4000000000000000000 := by have := HCN.out; have := HK0.out; omega
        obtain ⟨kl0, ku0⟩ := kb0
        clear hk0
        go_upto_region 6 with fail
        clear hkc0
        have hbz := P1.out.own.lt
        have K1 : Hid (Rep y0 false [.row 3 [.i]] F1 [.row n1 e1] [v1]) := by
          refine R1.out.keep P1.out.mks ?_
          rintro b hb (rfl | e)
          · exact HPG.out (by simp [hb])
          · cases e
        obtain ⟨va1, vc1, hva⟩ := K1.out.raw.len0
        subst hva
        have gc := rA_get P1.out.at_ 1 _ rfl
        rw [HO.out] at gc
        obtain ⟨k1, hk1⟩ : ∃ k1 : Nat, k1 = k0 + cntL e1 := ⟨_, rfl⟩
        have HK1 := uh hk1
        have kb1 : 1 ≤ k1 ∧ k1 ≤ 4000000000000000000 := by have := HCN.out; have := HK0.out; have := HK1.out; omega
        obtain ⟨kl1, ku1⟩ := kb1
        clear hk1
        go_wp2_with fail
        refine (markIntS F1 n1 e1 (.slice va1 n1 vc1) k0 y0 K1.out ND1.out (by omega) (by have := HK1.out; omega)).mono ?_
        rintro e x1 ⟨he, hb1, rr1⟩
        rw [← HK1.out] at he
        subst he
        have P2 := uh (P1.out.grow hb1 (fun e => HPG.out (by simp [e])))
        have D1 := uh rr1
        clear gc hbz rr1 hb1 K1
        have hrm := bmod k1
        obtain ⟨y2, hz2⟩ : ∃ y, y = x1.setCell ⟨p, o + q * 4 + 2, none⟩ (.bool (k1 % 3 == 0)) := ⟨_, rfl⟩
        have P3 : Hid (Pg wr y2 p off 4 u m [.string (mt kq), .slice va1 n1 vc1, .bool (k1 % 3 == 0), v3] (· ∈ (([] : List Nat) ++ F1))) := by
          have := P2.out.store 2 (.bool (k1 % 3 == 0)) (by omega) hom
          rw [hz2, ← HO.out]; exact this
        replace D1 := uh (D1.out.keep (w' := y2) (S := fun b => b = p) (by rw [hz2]; exact Marks.sc (S := fun b => b = p) _ rfl _ _) (by rintro b hb rfl; exact HPG.out (by simp [hb])))
        have hfz := P2.out.own.frozen
        have hbz := P2.out.own.lt
        obtain ⟨ux, eu⟩ := P2.out.own.cell (o + q * 4 + 2) (by have := HO.out; omega)
        go_upto_region 8 with fail
        rw [← hz2]
        clear hz2 hfz hbz eu hrm
        obtain ⟨k2, hk2⟩ : ∃ k2 : Nat, k2 = k1 + 1 := ⟨_, rfl⟩
        have hkc2 : (k1 : Int) + 1 = (k2 : Int) := by omega
        have HK2 := uh hk2
        have kb2 : 1 ≤ k2 ∧ k2 ≤ 4000000000000000000 := by have := HCN.out; have := HK0.out; have := HK1.out; have := HK2.out; omega
        obtain ⟨kl2, ku2⟩ := kb2
        clear hk2
        go_upto_region 9 with fail
        clear hkc2
        have hbz := P3.out.own.lt
        have K3 : Hid (Rep y2 false [.row 9 [.s]] F3 [.row n3 e3] [v3]) := by
          refine R3.out.keep P3.out.mks ?_
          rintro b hb (rfl | e)
          · exact HPG.out (by simp [hb])
          · simp only [List.mem_append, List.not_mem_nil, false_or] at e
            skip
            exact DJ1.out b e (by simp [hb])
        obtain ⟨va3, vc3, hva⟩ := K3.out.raw.len0
        subst hva
        have gc := rA_get P3.out.at_ 3 _ rfl
        rw [HO.out] at gc
        obtain ⟨k3, hk3⟩ : ∃ k3 : Nat, k3 = k2 + cntL e3 := ⟨_, rfl⟩
        have HK3 := uh hk3
        have kb3 : 1 ≤ k3 ∧ k3 ≤ 4000000000000000000 := by have := HCN.out; have := HK0.out; have := HK1.out; have := HK2.out; have := HK3.out; omega
        obtain ⟨kl3, ku3⟩ := kb3
        clear hk3
        go_wp2_with fail
        refine (markStringS F3 n3 e3 (.slice va3 n3 vc3) k2 y2 K3.out ND3.out (by omega) (by have := HK3.out; omega)).mono ?_
        rintro e x3 ⟨he, hb3, rr3⟩
        rw [← HK3.out] at he
        subst he
        have P4 := uh (P3.out.grow hb3 (fun e => HPG.out (by simp [e])))
        replace D1 := uh (D1.out.keep hb3 (fun b hb e => DJ1.out b hb (by simp [e])))
        have D3 := uh rr3
        clear gc hbz rr3 hb3 K3
        have HF : Hid (Marks (· ∈ p :: G) w x3 ∧ Row x3 shSheetRule p o n u m G (mkL k (es.take ((q + 1) * 4)) ++ es.drop ((q + 1) * 4)) ∧ k3 = k + cntL (es.take ((q + 1) * 4))) := by
          have hmk : mkL kq [.s a0, .row n1 e1, .b a2, .row n3 e3] = [.s (mt kq), .row n1 (mkL k0 e1), .b (k1 % 3 == 0), .row n3 (mkL k2 e3)] := by simp only [mkL, HK0.out, HK1.out, HK2.out]
          have hs : ∀ b, b ∈ ((([] : List Nat) ++ F1) ++ F3) → b ∈ (F1 ++ (F3 ++ []) : List Nat) := by intro b hb; simpa [or_assoc] using hb
          refine ⟨HM.out.trans (P4.out.mks.mono ?_), ?_, ?_⟩
          · rintro b (rfl | e)
            · simp
            · exact List.mem_cons_of_mem _ (HSU.out b (hs b e))
          · have := HC.out x3 _ _ (by have := P4.out.mono hs; rw [HO.out] at this; exact this) (repSheetRule_mk _ D1.out _ D3.out)
            rw [← HH.out, hmk]; exact this
          · have := HNX.out; simp only [cntL] at this; have := HK0.out; have := HK1.out; have := HK2.out; have := HK3.out; omega
        clear HC HH HM
        go_wp2
        go_roundw
        case rel => exact ⟨q + 1, by omega, by go_num, by rw [← HF.out.2.2], HF.out.1, HF.out.2.1⟩
        case measure => simp [intOf]; omega
      · obtain rfl : q = n := by omega
        have el_ : es.length = q * 4 := HT.out.rows
        rw [← el_, List.take_length, List.drop_length, List.append_nil] at HW
        rw [← el_, List.take_length]
        go_wp2
        go_ret
        exact ⟨rfl, HM.out, Rep.of_row HW.out HNC.out⟩
end Go.Proofs.Ytgoadeoabmkecaa
