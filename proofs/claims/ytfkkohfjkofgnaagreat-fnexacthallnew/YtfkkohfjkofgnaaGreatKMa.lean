/-
  Marks of lists.
-/
import Derived.Test.YtfkkohfjkofgnaaGreatKSh
namespace Go.Proofs.YtfkkohfjkofgnaaGreat
open Go.RowKit Go.Deep

set_option maxRecDepth 8000 in
set_option maxHeartbeats 8000000 in
theorem markIntS (F : List Nat) (n : Nat) (es : List Dt) (v : Value) (k : Nat) (w : World) (h : Rep w false [.row 3 [.i]] F [.row n es] [v]) (hnd : F.Nodup) (h1 : 1 ≤ k) (hk : k + cntL es ≤ 4000000000000000000) :
    Calls Tryz.prog 59 #[v, .int .i64 (k : Int)] w fun e w' => e = .returned (.int .i64 ((k + cntL es : Nat) : Int)) ∧ Marks (· ∈ F) w w' ∧ Rep w' false [.row 3 [.i]] F [.row n (mkL k es)] [v] := by
  rcases h.slice with ⟨_, rfl, rfl, rfl, a, rfl⟩ | ⟨p, o, c, u, m, G, rfl, rfl, hn, ho, hm, _, vs, hr, hR⟩
  · go_enter Tryz.func59, Tryz.ntmps59
    go_wp2
    refine wp_loop_rounds 1 ?_
    rw [rounds_succ]
    go_wp2
    go_ret
    exact ⟨by simp [cntL], Marks.refl _ _, by rw [mkL]; exact Rep.emp _ _ a rfl .nil⟩
  · have HT : Hid (Typ (reps n [.i]) es) := hR.raw.typ
    have HR : Hid (Row w [.i] p o n u m G es) := ⟨ho, hm, vs, hr, hR⟩
    have HND : Hid ((p :: G).Nodup) := hnd
    have hn1 : n ≤ 9223372036854775807 := hn.1
    have HNC := uh hn
    have hmm : o + n * 1 ≤ m := hm
    clear hr hR ho hm hnd h hn vs
    go_enter Tryz.func59, Tryz.ntmps59
    go_wp2
    go_loopw [1, 5] (fun kk i wr => ∃ q : Nat, q ≤ n ∧ i = .int .i64 (q : Int) ∧ kk = .int .i64 ((k + cntL (es.take (q * 1)) : Nat) : Int) ∧ Marks (· ∈ p :: G) w wr ∧ Row wr [.i] p o n u m G (mkL k (es.take (q * 1)) ++ es.drop (q * 1))) (fun _ i _ => n - (intOf i).toNat)
    case atStart => exact ⟨0, Nat.zero_le _, rfl, by simp [cntL], Marks.refl _ _, by simpa [mkL] using HR.out⟩
    case round =>
      obtain ⟨q, hq, rfl, rfl, hM, hRow⟩ := hrel
      have HM := uh hM
      have HW := uh hRow
      clear hM hRow
      by_cases hlt : q < n
      · obtain ⟨Ge, ve, hE, hrng, hpG, hndE, hsub, hclose⟩ := HW.out.open HND.out q hlt
        obtain ⟨d, hd⟩ : ∃ d, d = el 1 q es := ⟨_, rfl⟩
        have hte : Typ [.i] d := by rw [hd]; exact HT.out.el hlt
        have hE2 : Rep wr false [.i] Ge d ve := by
          have ee : el 1 q (mkL k (es.take (q * 1)) ++ es.drop (q * 1)) = el 1 q es := half_el (sh := [.i]) HT.out hlt
          have hh : Rep wr false [.i] Ge (el 1 q (mkL k (es.take (q * 1)) ++ es.drop (q * 1))) ve := hE
          rw [ee, ← hd] at hh; exact hh
        have hcn : k + cntL (es.take (q * 1)) + cntL d ≤ 4000000000000000000 := by rw [hd]; have := @cnt_el q 1 es; omega
        have hnx : cntL (es.take ((q + 1) * 1)) = cntL (es.take (q * 1)) + cntL d := by rw [hd]; exact cnt_next (sh := [.i]) HT.out hlt
        have hhn : (mkL k (es.take (q * 1)) ++ es.drop (q * 1)).take (q * 1) ++ (mkL (k + cntL (es.take (q * 1))) d ++ (mkL k (es.take (q * 1)) ++ es.drop (q * 1)).drop (q * 1 + 1)) = mkL k (es.take ((q + 1) * 1)) ++ es.drop ((q + 1) * 1) := by rw [hd]; exact half_next (sh := [.i]) HT.out hlt
        clear hE hd
        obtain ⟨kq, hkq⟩ : ∃ kq : Nat, kq = k + cntL (es.take (q * 1)) := ⟨_, rfl⟩
        rw [← hkq] at hcn hhn ⊢
        have HNX : Hid (k + cntL (es.take ((q + 1) * 1)) = kq + cntL d) := by show _ = _; omega
        obtain ⟨a0, rfl⟩ := typN1 hte
        obtain ⟨rfl, rfl⟩ := repN1 hE2
        have hkq1 : 1 ≤ kq := by omega
        have hkq2 : kq ≤ 4000000000000000000 := by omega
        simp only [cntL] at hcn
        have HCN := uh hcn
        clear hcn
        clear hE2 hte hkq hnx
        obtain ⟨off, hoff⟩ : ∃ off, off = o + q := ⟨_, rfl⟩
        have hom : off + 1 ≤ m := by have : q * 1 + 1 ≤ n * 1 := by omega
                                     omega
        have P0 : Hid (Pg wr wr p off 1 u m [.int .i64 a0] (· ∈ ([] : List Nat))) := Pg.refl _ HW.out.own (by rw [hoff]; simpa using hrng)
        have HC := uh hclose
        have HH := uh hhn
        have HO : Hid (off = o + q) := hoff
        have HPG := uh hpG; have HNE := uh hndE
        have HSU := uh hsub
        clear hclose hhn hrng hpG hndE hsub HW
        have hm0 : (0 : Int) ≤ (q : Int) := by omega
        have hm3 : (q : Int) < (n : Int) := by omega
        obtain ⟨y0, hz0⟩ : ∃ y, y = wr.setCell ⟨p, o + q, none⟩ (.int .i64 (kq : Int)) := ⟨_, rfl⟩
        have P1 : Hid (Pg wr y0 p off 1 u m [.int .i64 (kq : Int)] (· ∈ ([] : List Nat))) := by
          have := P0.out.store 0 (.int .i64 (kq : Int)) (by omega) hom
          rw [hz0, ← HO.out]; exact this
        have hfz := P0.out.own.frozen
        have hbz := P0.out.own.lt
        obtain ⟨ux, eu⟩ := P0.out.own.cell (o + q) (by have := HO.out; omega)
        go_upto_region 5 with fail
        rw [← hz0]
        clear hz0 hfz hbz eu
        obtain ⟨k0, hk0⟩ : ∃ k0 : Nat, k0 = kq + 1 := ⟨_, rfl⟩
        have hkc0 : (kq : Int) + 1 = (k0 : Int) := by omega
        have HK0 := uh hk0
        have kb0 : 1 ≤ k0 ∧ k0 ≤ 4000000000000000000 := by have := HCN.out; have := HK0.out; omega
        obtain ⟨kl0, ku0⟩ := kb0
        clear hk0
        have HF : Hid (Marks (· ∈ p :: G) w y0 ∧ Row y0 [.i] p o n u m G (mkL k (es.take ((q + 1) * 1)) ++ es.drop ((q + 1) * 1)) ∧ k0 = k + cntL (es.take ((q + 1) * 1))) := by
          have hmk : mkL kq [.i a0] = [.i (kq : Int)] := by simp only [mkL]
          have hs : ∀ b, b ∈ ([] : List Nat) → b ∈ ([] : List Nat) := by intro b hb; cases hb
          refine ⟨HM.out.trans (P1.out.mks.mono ?_), ?_, ?_⟩
          · rintro b (rfl | e)
            · simp
            · exact List.mem_cons_of_mem _ (HSU.out b (hs b e))
          · have := HC.out y0 _ _ (by have := P1.out.mono hs; rw [HO.out, show o + q = o + q * 1 by omega] at this; exact this) (repN1_mk _)
            rw [← HH.out, hmk]; exact this
          · have := HNX.out; simp only [cntL] at this; have := HK0.out; omega
        clear HC HH HM
        go_wp2
        go_roundw
        case rel => exact ⟨q + 1, by omega, by go_num, by rw [← HF.out.2.2], HF.out.1, HF.out.2.1⟩
        case measure => simp [intOf]; omega
      · obtain rfl : q = n := by omega
        have el_ : es.length = q * 1 := HT.out.rows
        rw [← el_, List.take_length, List.drop_length, List.append_nil] at HW
        rw [← el_, List.take_length]
        go_wp2
        go_ret
        exact ⟨rfl, HM.out, Rep.of_row HW.out HNC.out⟩
set_option maxRecDepth 8000 in
set_option maxHeartbeats 8000000 in
theorem markStringS (F : List Nat) (n : Nat) (es : List Dt) (v : Value) (k : Nat) (w : World) (h : Rep w false [.row 9 [.s]] F [.row n es] [v]) (hnd : F.Nodup) (h1 : 1 ≤ k) (hk : k + cntL es ≤ 4000000000000000000) :
    Calls Tryz.prog 85 #[v, .int .i64 (k : Int)] w fun e w' => e = .returned (.int .i64 ((k + cntL es : Nat) : Int)) ∧ Marks (· ∈ F) w w' ∧ Rep w' false [.row 9 [.s]] F [.row n (mkL k es)] [v] := by
  rcases h.slice with ⟨_, rfl, rfl, rfl, a, rfl⟩ | ⟨p, o, c, u, m, G, rfl, rfl, hn, ho, hm, _, vs, hr, hR⟩
  · go_enter Tryz.func85, Tryz.ntmps85
    go_wp2
    refine wp_loop_rounds 1 ?_
    rw [rounds_succ]
    go_wp2
    go_ret
    exact ⟨by simp [cntL], Marks.refl _ _, by rw [mkL]; exact Rep.emp _ _ a rfl .nil⟩
  · have HT : Hid (Typ (reps n [.s]) es) := hR.raw.typ
    have HR : Hid (Row w [.s] p o n u m G es) := ⟨ho, hm, vs, hr, hR⟩
    have HND : Hid ((p :: G).Nodup) := hnd
    have hn1 : n ≤ 9223372036854775807 := hn.1
    have HNC := uh hn
    have hmm : o + n * 1 ≤ m := hm
    clear hr hR ho hm hnd h hn vs
    go_enter Tryz.func85, Tryz.ntmps85
    go_wp2
    go_loopw [1, 5] (fun kk i wr => ∃ q : Nat, q ≤ n ∧ i = .int .i64 (q : Int) ∧ kk = .int .i64 ((k + cntL (es.take (q * 1)) : Nat) : Int) ∧ Marks (· ∈ p :: G) w wr ∧ Row wr [.s] p o n u m G (mkL k (es.take (q * 1)) ++ es.drop (q * 1))) (fun _ i _ => n - (intOf i).toNat)
    case atStart => exact ⟨0, Nat.zero_le _, rfl, by simp [cntL], Marks.refl _ _, by simpa [mkL] using HR.out⟩
    case round =>
      obtain ⟨q, hq, rfl, rfl, hM, hRow⟩ := hrel
      have HM := uh hM
      have HW := uh hRow
      clear hM hRow
      by_cases hlt : q < n
      · obtain ⟨Ge, ve, hE, hrng, hpG, hndE, hsub, hclose⟩ := HW.out.open HND.out q hlt
        obtain ⟨d, hd⟩ : ∃ d, d = el 1 q es := ⟨_, rfl⟩
        have hte : Typ [.s] d := by rw [hd]; exact HT.out.el hlt
        have hE2 : Rep wr false [.s] Ge d ve := by
          have ee : el 1 q (mkL k (es.take (q * 1)) ++ es.drop (q * 1)) = el 1 q es := half_el (sh := [.s]) HT.out hlt
          have hh : Rep wr false [.s] Ge (el 1 q (mkL k (es.take (q * 1)) ++ es.drop (q * 1))) ve := hE
          rw [ee, ← hd] at hh; exact hh
        have hcn : k + cntL (es.take (q * 1)) + cntL d ≤ 4000000000000000000 := by rw [hd]; have := @cnt_el q 1 es; omega
        have hnx : cntL (es.take ((q + 1) * 1)) = cntL (es.take (q * 1)) + cntL d := by rw [hd]; exact cnt_next (sh := [.s]) HT.out hlt
        have hhn : (mkL k (es.take (q * 1)) ++ es.drop (q * 1)).take (q * 1) ++ (mkL (k + cntL (es.take (q * 1))) d ++ (mkL k (es.take (q * 1)) ++ es.drop (q * 1)).drop (q * 1 + 1)) = mkL k (es.take ((q + 1) * 1)) ++ es.drop ((q + 1) * 1) := by rw [hd]; exact half_next (sh := [.s]) HT.out hlt
        clear hE hd
        obtain ⟨kq, hkq⟩ : ∃ kq : Nat, kq = k + cntL (es.take (q * 1)) := ⟨_, rfl⟩
        rw [← hkq] at hcn hhn ⊢
        have HNX : Hid (k + cntL (es.take ((q + 1) * 1)) = kq + cntL d) := by show _ = _; omega
        obtain ⟨a0, rfl⟩ := typT1 hte
        obtain ⟨rfl, rfl⟩ := repT1 hE2
        have hkq1 : 1 ≤ kq := by omega
        have hkq2 : kq ≤ 4000000000000000000 := by omega
        simp only [cntL] at hcn
        have HCN := uh hcn
        clear hcn
        clear hE2 hte hkq hnx
        obtain ⟨off, hoff⟩ : ∃ off, off = o + q := ⟨_, rfl⟩
        have hom : off + 1 ≤ m := by have : q * 1 + 1 ≤ n * 1 := by omega
                                     omega
        have P0 : Hid (Pg wr wr p off 1 u m [.string a0] (· ∈ ([] : List Nat))) := Pg.refl _ HW.out.own (by rw [hoff]; simpa using hrng)
        have HC := uh hclose
        have HH := uh hhn
        have HO : Hid (off = o + q) := hoff
        have HPG := uh hpG; have HNE := uh hndE
        have HSU := uh hsub
        clear hclose hhn hrng hpG hndE hsub HW
        have hm0 : (0 : Int) ≤ (q : Int) := by omega
        have hm3 : (q : Int) < (n : Int) := by omega
        go_wp2_with fail
        refine (markText kq wr (by omega) (by omega)).mono ?_
        rintro e x0 ⟨rfl, hb0⟩
        have Q1 := uh (P0.out.later hb0)
        clear hb0
        obtain ⟨y0, hz0⟩ : ∃ y, y = x0.setCell ⟨p, o + q, none⟩ (.string (mt kq)) := ⟨_, rfl⟩
        have P1 : Hid (Pg wr y0 p off 1 u m [.string (mt kq)] (· ∈ ([] : List Nat))) := by
          have := Q1.out.store 0 (.string (mt kq)) (by omega) hom
          rw [hz0, ← HO.out]; exact this
        have hfz := Q1.out.own.frozen
        have hbz := Q1.out.own.lt
        obtain ⟨ux, eu⟩ := Q1.out.own.cell (o + q) (by have := HO.out; omega)
        go_upto_region 5 with fail
        rw [← hz0]
        clear hz0 hfz hbz eu
        obtain ⟨k0, hk0⟩ : ∃ k0 : Nat, k0 = kq + 1 := ⟨_, rfl⟩
        have hkc0 : (kq : Int) + 1 = (k0 : Int) := by omega
        have HK0 := uh hk0
        have kb0 : 1 ≤ k0 ∧ k0 ≤ 4000000000000000000 := by have := HCN.out; have := HK0.out; omega
        obtain ⟨kl0, ku0⟩ := kb0
        clear hk0
        have HF : Hid (Marks (· ∈ p :: G) w y0 ∧ Row y0 [.s] p o n u m G (mkL k (es.take ((q + 1) * 1)) ++ es.drop ((q + 1) * 1)) ∧ k0 = k + cntL (es.take ((q + 1) * 1))) := by
          have hmk : mkL kq [.s a0] = [.s (mt kq)] := by simp only [mkL]
          have hs : ∀ b, b ∈ ([] : List Nat) → b ∈ ([] : List Nat) := by intro b hb; cases hb
          refine ⟨HM.out.trans (P1.out.mks.mono ?_), ?_, ?_⟩
          · rintro b (rfl | e)
            · simp
            · exact List.mem_cons_of_mem _ (HSU.out b (hs b e))
          · have := HC.out y0 _ _ (by have := P1.out.mono hs; rw [HO.out, show o + q = o + q * 1 by omega] at this; exact this) (repT1_mk _)
            rw [← HH.out, hmk]; exact this
          · have := HNX.out; simp only [cntL] at this; have := HK0.out; omega
        clear HC HH HM
        go_wp2
        go_roundw
        case rel => exact ⟨q + 1, by omega, by go_num, by rw [← HF.out.2.2], HF.out.1, HF.out.2.1⟩
        case measure => simp [intOf]; omega
      · obtain rfl : q = n := by omega
        have el_ : es.length = q * 1 := HT.out.rows
        rw [← el_, List.take_length, List.drop_length, List.append_nil] at HW
        rw [← el_, List.take_length]
        go_wp2
        go_ret
        exact ⟨rfl, HM.out, Rep.of_row HW.out HNC.out⟩
set_option maxRecDepth 8000 in
set_option maxHeartbeats 8000000 in
theorem markRecSlotS (F : List Nat) (n : Nat) (es : List Dt) (v : Value) (k : Nat) (w : World) (h : Rep w false [.row 139 shRecSlot] F [.row n es] [v]) (hnd : F.Nodup) (h1 : 1 ≤ k) (hk : k + cntL es ≤ 4000000000000000000) :
    Calls Tryz.prog 84 #[v, .int .i64 (k : Int)] w fun e w' => e = .returned (.int .i64 ((k + cntL es : Nat) : Int)) ∧ Marks (· ∈ F) w w' ∧ Rep w' false [.row 139 shRecSlot] F [.row n (mkL k es)] [v] := by
  rcases h.slice with ⟨_, rfl, rfl, rfl, a, rfl⟩ | ⟨p, o, c, u, m, G, rfl, rfl, hn, ho, hm, _, vs, hr, hR⟩
  · go_enter Tryz.func84, Tryz.ntmps84
    go_wp2
    refine wp_loop_rounds 1 ?_
    rw [rounds_succ]
    go_wp2
    go_ret
    exact ⟨by simp [cntL], Marks.refl _ _, by rw [mkL]; exact Rep.emp _ _ a rfl .nil⟩
  · have HT : Hid (Typ (reps n shRecSlot) es) := hR.raw.typ
    have HR : Hid (Row w shRecSlot p o n u m G es) := ⟨ho, hm, vs, hr, hR⟩
    have HND : Hid ((p :: G).Nodup) := hnd
    have hn1 : n ≤ 9223372036854775807 := hn.1
    have HNC := uh hn
    have hmm : o + n * 2 ≤ m := hm
    clear hr hR ho hm hnd h hn vs
    go_enter Tryz.func84, Tryz.ntmps84
    go_wp2
    go_loopw [1, 5] (fun kk i wr => ∃ q : Nat, q ≤ n ∧ i = .int .i64 (q : Int) ∧ kk = .int .i64 ((k + cntL (es.take (q * 2)) : Nat) : Int) ∧ Marks (· ∈ p :: G) w wr ∧ Row wr shRecSlot p o n u m G (mkL k (es.take (q * 2)) ++ es.drop (q * 2))) (fun _ i _ => n - (intOf i).toNat)
    case atStart => exact ⟨0, Nat.zero_le _, rfl, by simp [cntL], Marks.refl _ _, by simpa [mkL] using HR.out⟩
    case round =>
      obtain ⟨q, hq, rfl, rfl, hM, hRow⟩ := hrel
      have HM := uh hM
      have HW := uh hRow
      clear hM hRow
      by_cases hlt : q < n
      · obtain ⟨Ge, ve, hE, hrng, hpG, hndE, hsub, hclose⟩ := HW.out.open HND.out q hlt
        obtain ⟨d, hd⟩ : ∃ d, d = el 2 q es := ⟨_, rfl⟩
        have hte : Typ shRecSlot d := by rw [hd]; exact HT.out.el hlt
        have hE2 : Rep wr false shRecSlot Ge d ve := by
          have ee : el 2 q (mkL k (es.take (q * 2)) ++ es.drop (q * 2)) = el 2 q es := half_el (sh := shRecSlot) HT.out hlt
          have hh : Rep wr false shRecSlot Ge (el 2 q (mkL k (es.take (q * 2)) ++ es.drop (q * 2))) ve := hE
          rw [ee, ← hd] at hh; exact hh
        have hcn : k + cntL (es.take (q * 2)) + cntL d ≤ 4000000000000000000 := by rw [hd]; have := @cnt_el q 2 es; omega
        have hnx : cntL (es.take ((q + 1) * 2)) = cntL (es.take (q * 2)) + cntL d := by rw [hd]; exact cnt_next (sh := shRecSlot) HT.out hlt
        have hhn : (mkL k (es.take (q * 2)) ++ es.drop (q * 2)).take (q * 2) ++ (mkL (k + cntL (es.take (q * 2))) d ++ (mkL k (es.take (q * 2)) ++ es.drop (q * 2)).drop (q * 2 + 2)) = mkL k (es.take ((q + 1) * 2)) ++ es.drop ((q + 1) * 2) := by rw [hd]; exact half_next (sh := shRecSlot) HT.out hlt
        clear hE hd
        obtain ⟨kq, hkq⟩ : ∃ kq : Nat, kq = k + cntL (es.take (q * 2)) := ⟨_, rfl⟩
        rw [← hkq] at hcn hhn ⊢
        have HNX : Hid (k + cntL (es.take ((q + 1) * 2)) = kq + cntL d) := by show _ = _; omega
        obtain ⟨a0, a1, rfl⟩ := typRecSlot hte
        obtain ⟨rfl, rfl⟩ := repRecSlot hE2
        have hkq1 : 1 ≤ kq := by omega
        have hkq2 : kq ≤ 4000000000000000000 := by omega
        simp only [cntL] at hcn
        have HCN := uh hcn
        clear hcn
        clear hE2 hte hkq hnx
        obtain ⟨off, hoff⟩ : ∃ off, off = o + q * 2 := ⟨_, rfl⟩
        have hom : off + 2 ≤ m := by have : q * 2 + 2 ≤ n * 2 := by omega
                                     omega
        have P0 : Hid (Pg wr wr p off 2 u m [.int .i64 a0, .string a1] (· ∈ ([] : List Nat))) := Pg.refl _ HW.out.own (by rw [hoff]; exact hrng)
        have HC := uh hclose
        have HH := uh hhn
        have HO : Hid (off = o + q * 2) := hoff
        have HPG := uh hpG; have HNE := uh hndE
        have HSU := uh hsub
        clear hclose hhn hrng hpG hndE hsub HW
        have hm0 : (0 : Int) ≤ (q : Int) := by omega
        have hm3 : (q : Int) < (n : Int) := by omega
        obtain ⟨y0, hz0⟩ : ∃ y, y = wr.setCell ⟨p, o + q * 2, none⟩ (.int .i64 (kq : Int)) := ⟨_, rfl⟩
        have P1 : Hid (Pg wr y0 p off 2 u m [.int .i64 (kq : Int), .string a1] (· ∈ ([] : List Nat))) := by
          have := P0.out.store 0 (.int .i64 (kq : Int)) (by omega) hom
          rw [hz0, ← HO.out]; exact this
        have hfz := P0.out.own.frozen
        have hbz := P0.out.own.lt
        obtain ⟨ux, eu⟩ := P0.out.own.cell (o + q * 2) (by have := HO.out; omega)
        go_upto_region 5 with fail
        rw [← hz0]
        clear hz0 hfz hbz eu
        obtain ⟨k0, hk0⟩ : ∃ k0 : Nat, k0 = kq + 1 := ⟨_, rfl⟩
        have hkc0 : (kq : Int) + 1 = (k0 : Int) := by omega
        have HK0 := uh hk0
        have kb0 : 1 ≤ k0 ∧ k0 ≤ 4000000000000000000 := by have := HCN.out; have := HK0.out; omega
        obtain ⟨kl0, ku0⟩ := kb0
        clear hk0
        go_upto_region 6 with fail
        clear hkc0
        go_wp2_with fail
        refine (markText k0 y0 (by omega) (by omega)).mono ?_
        rintro e x1 ⟨rfl, hb1⟩
        have Q2 := uh (P1.out.later hb1)
        clear hb1
        obtain ⟨y1, hz1⟩ : ∃ y, y = x1.setCell ⟨p, o + q * 2 + 1, none⟩ (.string (mt k0)) := ⟨_, rfl⟩
        have P2 : Hid (Pg wr y1 p off 2 u m [.int .i64 (kq : Int), .string (mt k0)] (· ∈ ([] : List Nat))) := by
          have := Q2.out.store 1 (.string (mt k0)) (by omega) hom
          rw [hz1, ← HO.out]; exact this
        have hfz := Q2.out.own.frozen
        have hbz := Q2.out.own.lt
        obtain ⟨ux, eu⟩ := Q2.out.own.cell (o + q * 2 + 1) (by have := HO.out; omega)
        go_upto_region 7 with fail
        rw [← hz1]
        clear hz1 hfz hbz eu
        obtain ⟨k1, hk1⟩ : ∃ k1 : Nat, k1 = k0 + 1 := ⟨_, rfl⟩
        have hkc1 : (k0 : Int) + 1 = (k1 : Int) := by omega
        have HK1 := uh hk1
        have kb1 : 1 ≤ k1 ∧ k1 ≤ 4000000000000000000 := by have := HCN.out; have := HK0.out; have := HK1.out; omega
        obtain ⟨kl1, ku1⟩ := kb1
        clear hk1
        have HF : Hid (Marks (· ∈ p :: G) w y1 ∧ Row y1 shRecSlot p o n u m G (mkL k (es.take ((q + 1) * 2)) ++ es.drop ((q + 1) * 2)) ∧ k1 = k + cntL (es.take ((q + 1) * 2))) := by
          have hmk : mkL kq [.i a0, .s a1] = [.i (kq : Int), .s (mt k0)] := by simp only [mkL, HK0.out]
          have hs : ∀ b, b ∈ ([] : List Nat) → b ∈ ([] : List Nat) := by intro b hb; cases hb
          refine ⟨HM.out.trans (P2.out.mks.mono ?_), ?_, ?_⟩
          · rintro b (rfl | e)
            · simp
            · exact List.mem_cons_of_mem _ (HSU.out b (hs b e))
          · have := HC.out y1 _ _ (by have := P2.out.mono hs; rw [HO.out] at this; exact this) (repRecSlot_mk _ _)
            rw [← HH.out, hmk]; exact this
          · have := HNX.out; simp only [cntL] at this; have := HK0.out; have := HK1.out; omega
        clear HC HH HM
        go_wp2
        go_roundw
        case rel => exact ⟨q + 1, by omega, by go_num, by rw [← HF.out.2.2], HF.out.1, HF.out.2.1⟩
        case measure => simp [intOf]; omega
      · obtain rfl : q = n := by omega
        have el_ : es.length = q * 2 := HT.out.rows
        rw [← el_, List.take_length, List.drop_length, List.append_nil] at HW
        rw [← el_, List.take_length]
        go_wp2
        go_ret
        exact ⟨rfl, HM.out, Rep.of_row HW.out HNC.out⟩
end Go.Proofs.YtfkkohfjkofgnaaGreat
