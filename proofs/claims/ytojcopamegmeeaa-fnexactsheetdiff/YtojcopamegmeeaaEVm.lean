/-
  Marks of changes.
-/
import Derived.Test.YtojcopamegmeeaaESs
import Derived.Test.YtojcopamegmeeaaEVs
import Derived.Test.YtojcopamegmeeaaUB
namespace Go.Proofs.Ytojcopamegmeeaa
open Go.RowKit Go.Deep

theorem bmod (k : Nat) : ((k : Int) % 3 == 0) = (k % 3 == 0) := by
  have : (k : Int) % 3 = ((k % 3 : Nat) : Int) := by omega
  rw [this]
  by_cases h : k % 3 = 0
  · rw [h]; rfl
  · rw [beq_eq_false_iff_ne.2 h, beq_eq_false_iff_ne.2 (by omega)]
end Go.Proofs.Ytojcopamegmeeaa

namespace Go.Proofs.Ytojcopamegmeeaa
open Go.RowKit Go.Deep

set_option maxRecDepth 8000 in
set_option maxHeartbeats 8000000 in
theorem markStringS (F : List Nat) (n : Nat) (es : List Dt) (v : Value) (k : Nat) (w : World) (h : Rep w false [.row 9 [.s]] F [.row n es] [v]) (hnd : F.Nodup) (h1 : 1 ≤ k) (hk : k + cntL es ≤ 4000000000000000000) :
    Calls Try.prog 45 #[v, .int .i64 (k : Int)] w fun e w' => e = .returned (.int .i64 ((k + cntL es : Nat) : Int)) ∧ Marks (· ∈ F) w w' ∧ Rep w' false [.row 9 [.s]] F [.row n (mkL k es)] [v] := by
  rcases h.slice with ⟨_, rfl, rfl, rfl, a, rfl⟩ | ⟨p, o, c, u, m, G, rfl, rfl, hn, ho, hm, _, vs, hr, hR⟩
  · go_enter Try.func45, Try.ntmps45
    go_wp2
    refine wp_loop_rounds 1 ?_
    rw [rounds_succ]
    go_wp2
    go_ret
    exact ⟨by simp [cntL], Marks.refl _ _, by rw [mkL]; exact Rep.emp _ _ a rfl .nil⟩
  · have HT : Hid (Typ (reps n [.s]) es) := hR.raw.typ
    have HR : Hid (Row w [.s] p o n u m G es) := ⟨ho, hm, vs, hr, hR⟩
    have HND : Hid ((p :: G).Nodup) := hnd
    have hn1 : n ≤ 9223372036854775807 := hn.1
    have HNC := uh hn
    have hmm : o + n * 1 ≤ m := hm
    clear hr hR ho hm hnd h hn vs
    go_enter Try.func45, Try.ntmps45
    go_wp2
    go_loopw [1, 5] (fun kk i wr => ∃ q : Nat, q ≤ n ∧ i = .int .i64 (q : Int) ∧ kk = .int .i64 ((k + cntL (es.take (q * 1)) : Nat) : Int) ∧ Marks (· ∈ p :: G) w wr ∧ Row wr [.s] p o n u m G (mkL k (es.take (q * 1)) ++ es.drop (q * 1))) (fun _ i _ => n - (intOf i).toNat)
    case atStart => exact ⟨0, Nat.zero_le _, rfl, by simp [cntL], Marks.refl _ _, by simpa [mkL] using HR.out⟩
    case round =>
      obtain ⟨q, hq, rfl, rfl, hM, hRow⟩ := hrel
      have HM := uh hM
      have HW := uh hRow
      clear hM hRow
      by_cases hlt : q < n
      · obtain ⟨Ge, ve, hE, hrng, hpG, hndE, hsub, hclose⟩ := HW.out.open HND.out q hlt
        obtain ⟨d, hd⟩ : ∃ d, d = el 1 q es := ⟨_, rfl⟩
        have hte : Typ [.s] d := by rw [hd]; exact HT.out.el hlt
        have hE2 : Rep wr false [.s] Ge d ve := by
          have ee : el 1 q (mkL k (es.take (q * 1)) ++ es.drop (q * 1)) = el 1 q es := half_el (sh := [.s]) HT.out hlt
          have hh : Rep wr false [.s] Ge (el 1 q (mkL k (es.take (q * 1)) ++ es.drop (q * 1))) ve := hE
          rw [ee, ← hd] at hh; exact hh
        have hcn : k + cntL (es.take (q * 1)) + cntL d ≤ 4000000000000000000 := by rw [hd]; have := @cnt_el q 1 es; omega
        have hnx : cntL (es.take ((q + 1) * 1)) = cntL (es.take (q * 1)) + cntL d := by rw [hd]; exact cnt_next (sh := [.s]) HT.out hlt
        have hhn : (mkL k (es.take (q * 1)) ++ es.drop (q * 1)).take (q * 1) ++ (mkL (k + cntL (es.take (q * 1))) d ++ (mkL k (es.take (q * 1)) ++ es.drop (q * 1)).drop (q * 1 + 1)) = mkL k (es.take ((q + 1) * 1)) ++ es.drop ((q + 1) * 1) := by rw [hd]; exact half_next (sh := [.s]) HT.out hlt
        clear hE hd
        obtain ⟨kq, hkq⟩ : ∃ kq : Nat, kq = k + cntL (es.take (q * 1)) := ⟨_, rfl⟩
        rw [← hkq] at hcn hhn ⊢
        have HNX : Hid (k + cntL (es.take ((q + 1) * 1)) = kq + cntL d) := by show _ = _; omega
        obtain ⟨a0, rfl⟩ := typT1 hte
        obtain ⟨rfl, rfl⟩ := repT1 hE2
        have hkq1 : 1 ≤ kq := by omega
        have hkq2 : kq ≤ 4000000000000000000 := by omega
        simp only [cntL] at hcn
        have HCN := uh hcn
        clear hcn
        clear hE2 hte hkq hnx
        obtain ⟨off, hoff⟩ : ∃ off, off = o + q := ⟨_, rfl⟩
        have hom : off + 1 ≤ m := by have : q * 1 + 1 ≤ n * 1 := (by omega); omega
        have P0 : Hid (Pg wr wr p off 1 u m [.string a0] (· ∈ ([] : List Nat))) := Pg.refl _ HW.out.own (by rw [hoff]; simpa using hrng)
        have HC := uh hclose
        have HH := uh hhn
        have HO : Hid (off = o + q) := hoff
        have HPG := uh hpG; have HNE := uh hndE
        have HSU := uh hsub
        clear hclose hhn hrng hpG hndE hsub HW
        have hm0 : (0 : Int) ≤ (q : Int) := by omega
        have hm3 : (q : Int) < (n : Int) := by omega
        go_wp2_with fail
        refine (markText kq wr (by omega) (by omega)).mono ?_
        rintro e x0 ⟨rfl, hb0⟩
        have Q1 := uh (P0.out.later hb0)
        clear hb0
        obtain ⟨y0, hz0⟩ : ∃ y, y = x0.setCell ⟨p, o + q, none⟩ (.string (mt kq)) := ⟨_, rfl⟩
        have P1 : Hid (Pg wr y0 p off 1 u m [.string (mt kq)] (· ∈ ([] : List Nat))) := by
          have := Q1.out.store 0 (.string (mt kq)) (by omega) hom
          rw [hz0, ← HO.out]; exact this
        have hfz := Q1.out.own.frozen
        have hbz := Q1.out.own.lt
        obtain ⟨ux, eu⟩ := Q1.out.own.cell (o + q) (by have := HO.out; omega)
        go_upto_region 5 with fail
        rw [← hz0]
        clear hz0 hfz hbz eu
        obtain ⟨k0, hk0⟩ : ∃ k0 : Nat, k0 = kq + 1 := ⟨_, rfl⟩
        have hkc0 : (kq : Int) + 1 = (k0 : Int) := by omega
        have HK0 := uh hk0
        have kb0 : 1 ≤ k0 ∧ k0 ≤ 4000000000000000000 := by have := HCN.out; have := HK0.out; omega
        obtain ⟨kl0, ku0⟩ := kb0
        clear hk0
        have HF : Hid (Marks (· ∈ p :: G) w y0 ∧ Row y0 [.s] p o n u m G (mkL k (es.take ((q + 1) * 1)) ++ es.drop ((q + 1) * 1)) ∧ k0 = k + cntL (es.take ((q + 1) * 1))) := by
          have hmk : mkL kq [.s a0] = [.s (mt kq)] := by simp only [mkL]
          have hs : ∀ b, b ∈ ([] : List Nat) → b ∈ ([] : List Nat) := by intro b hb; cases hb
          refine ⟨HM.out.trans (P1.out.mks.mono ?_), ?_, ?_⟩
          · rintro b (rfl | e)
            · simp
            · exact List.mem_cons_of_mem _ (HSU.out b (hs b e))
          · have := HC.out y0 _ _ (by have := P1.out.mono hs; rw [HO.out, show o + q = o + q * 1 by omega] at this; exact this) (repT1_mk _)
            rw [← HH.out, hmk]; exact this
          · have := HNX.out; simp only [cntL] at this; have := HK0.out; omega
        clear HC HH HM
        go_wp2
        go_roundw
        case rel => exact ⟨q + 1, by omega, by go_num, by rw [← HF.out.2.2], HF.out.1, HF.out.2.1⟩
        case measure => simp [intOf]; omega
      · obtain rfl : q = n := by omega
        have el_ : es.length = q * 1 := HT.out.rows
        rw [← el_, List.take_length, List.drop_length, List.append_nil] at HW
        rw [← el_, List.take_length]
        go_wp2
        go_ret
        exact ⟨rfl, HM.out, Rep.of_row HW.out HNC.out⟩
set_option maxRecDepth 8000 in
set_option maxHeartbeats 8000000 in
theorem markSheetLineS (F : List Nat) (n : Nat) (es : List Dt) (v : Value) (k : Nat) (w : World) (h : Rep w false [.row 69 shSheetLine] F [.row n es] [v]) (hnd : F.Nodup) (h1 : 1 ≤ k) (hk : k + cntL es ≤ 4000000000000000000) :
    Calls Try.prog 25 #[v, .int .i64 (k : Int)] w fun e w' => e = .returned (.int .i64 ((k + cntL es : Nat) : Int)) ∧ Marks (· ∈ F) w w' ∧ Rep w' false [.row 69 shSheetLine] F [.row n (mkL k es)] [v] := by
  rcases h.slice with ⟨_, rfl, rfl, rfl, a, rfl⟩ | ⟨p, o, c, u, m, G, rfl, rfl, hn, ho, hm, _, vs, hr, hR⟩
  · go_enter Try.func25, Try.ntmps25
    go_wp2
    refine wp_loop_rounds 1 ?_
    rw [rounds_succ]
    go_wp2
    go_ret
    exact ⟨by simp [cntL], Marks.refl _ _, by rw [mkL]; exact Rep.emp _ _ a rfl .nil⟩
  · have HT : Hid (Typ (reps n shSheetLine) es) := hR.raw.typ
    have HR : Hid (Row w shSheetLine p o n u m G es) := ⟨ho, hm, vs, hr, hR⟩
    have HND : Hid ((p :: G).Nodup) := hnd
    have hn1 : n ≤ 9223372036854775807 := hn.1
    have HNC := uh hn
    have hmm : o + n * 2 ≤ m := hm
    clear hr hR ho hm hnd h hn vs
    go_enter Try.func25, Try.ntmps25
    go_wp2
    go_loopw [1, 5] (fun kk i wr => ∃ q : Nat, q ≤ n ∧ i = .int .i64 (q : Int) ∧ kk = .int .i64 ((k + cntL (es.take (q * 2)) : Nat) : Int) ∧ Marks (· ∈ p :: G) w wr ∧ Row wr shSheetLine p o n u m G (mkL k (es.take (q * 2)) ++ es.drop (q * 2))) (fun _ i _ => n - (intOf i).toNat)
    case atStart => exact ⟨0, Nat.zero_le _, rfl, by simp [cntL], Marks.refl _ _, by simpa [mkL] using HR.out⟩
    case round =>
      obtain ⟨q, hq, rfl, rfl, hM, hRow⟩ := hrel
      have HM := uh hM
      have HW := uh hRow
      clear hM hRow
      by_cases hlt : q < n
      · obtain ⟨Ge, ve, hE, hrng, hpG, hndE, hsub, hclose⟩ := HW.out.open HND.out q hlt
        obtain ⟨d, hd⟩ : ∃ d, d = el 2 q es := ⟨_, rfl⟩
        have hte : Typ shSheetLine d := by rw [hd]; exact HT.out.el hlt
        have hE2 : Rep wr false shSheetLine Ge d ve := by
          have ee : el 2 q (mkL k (es.take (q * 2)) ++ es.drop (q * 2)) = el 2 q es := half_el (sh := shSheetLine) HT.out hlt
          have hh : Rep wr false shSheetLine Ge (el 2 q (mkL k (es.take (q * 2)) ++ es.drop (q * 2))) ve := hE
          rw [ee, ← hd] at hh; exact hh
        have hcn : k + cntL (es.take (q * 2)) + cntL d ≤ 4000000000000000000 := by rw [hd]; have := @cnt_el q 2 es; omega
        have hnx : cntL (es.take ((q + 1) * 2)) = cntL (es.take (q * 2)) + cntL d := by rw [hd]; exact cnt_next (sh := shSheetLine) HT.out hlt
        have hhn : (mkL k (es.take (q * 2)) ++ es.drop (q * 2)).take (q * 2) ++ (mkL (k + cntL (es.take (q * 2))) d ++ (mkL k (es.take (q * 2)) ++ es.drop (q * 2)).drop (q * 2 + 2)) = mkL k (es.take ((q + 1) * 2)) ++ es.drop ((q + 1) * 2) := by rw [hd]; exact half_next (sh := shSheetLine) HT.out hlt
        clear hE hd
        obtain ⟨kq, hkq⟩ : ∃ kq : Nat, kq = k + cntL (es.take (q * 2)) := ⟨_, rfl⟩
        rw [← hkq] at hcn hhn ⊢
        have HNX : Hid (k + cntL (es.take ((q + 1) * 2)) = kq + cntL d) := by show _ = _; omega
        obtain ⟨a0, n1, e1, rfl, t1⟩ := typSheetLine hte
        obtain ⟨F1, v1, rfl, rfl, r1⟩ := repSheetLine hE2
        have hkq1 : 1 ≤ kq := by omega
        have hkq2 : kq ≤ 4000000000000000000 := by omega
        simp only [cntL] at hcn
        have HCN := uh hcn
        clear hcn
        clear hE2 hte hkq hnx
        obtain ⟨off, hoff⟩ : ∃ off, off = o + q * 2 := ⟨_, rfl⟩
        have hom : off + 2 ≤ m := by have : q * 2 + 2 ≤ n * 2 := (by omega); omega
        have P0 : Hid (Pg wr wr p off 2 u m [.string a0, v1] (· ∈ ([] : List Nat))) := Pg.refl _ HW.out.own (by rw [hoff]; exact hrng)
        have HC := uh hclose
        have HH := uh hhn
        have HO : Hid (off = o + q * 2) := hoff
        have HPG := uh hpG; have HNE := uh hndE
        have HSU := uh hsub
        clear hclose hhn hrng hpG hndE hsub HW
        have hm0 : (0 : Int) ≤ (q : Int) := by omega
        have hm3 : (q : Int) < (n : Int) := by omega
        have R1 := uh r1
        clear r1
        have nd := HNE.out
        obtain ⟨nd1, ndr1, dj1⟩ := nd_app nd
        have ND1 := uh nd1
        have DJ1 := uh dj1
        clear nd nd1 ndr1 dj1
        go_wp2_with fail
        refine (markText kq wr (by omega) (by omega)).mono ?_
        rintro e x0 ⟨rfl, hb0⟩
        have Q1 := uh (P0.out.later hb0)
        clear hb0
        obtain ⟨y0, hz0⟩ : ∃ y, y = x0.setCell ⟨p, o + q * 2, none⟩ (.string (mt kq)) := ⟨_, rfl⟩
        have P1 : Hid (Pg wr y0 p off 2 u m [.string (mt kq), v1] (· ∈ ([] : List Nat))) := by
          have := Q1.out.store 0 (.string (mt kq)) (by omega) hom
          rw [hz0, ← HO.out]; exact this
        have hfz := Q1.out.own.frozen
        have hbz := Q1.out.own.lt
        obtain ⟨ux, eu⟩ := Q1.out.own.cell (o + q * 2) (by have := HO.out; omega)
        go_upto_region 5 with fail
        rw [← hz0]
        clear hz0 hfz hbz eu
        obtain ⟨k0, hk0⟩ : ∃ k0 : Nat, k0 = kq + 1 := ⟨_, rfl⟩
        have hkc0 : (kq : Int) + 1 = (k0 : Int) := by omega
        have HK0 := uh hk0
        have kb0 : 1 ≤ k0 ∧ k0 ≤ 4000000000000000000 := by have := HCN.out; have := HK0.out; omega
        obtain ⟨kl0, ku0⟩ := kb0
        clear hk0
        go_upto_region 6 with fail
        clear hkc0
        have hbz := P1.out.own.lt
        have K1 : Hid (Rep y0 false [.row 9 [.s]] F1 [.row n1 e1] [v1]) := by
          refine R1.out.keep P1.out.mks ?_
          rintro b hb (rfl | e)
          · exact HPG.out (by simp [hb])
          · cases e
        obtain ⟨va1, vc1, hva⟩ := K1.out.raw.len0
        subst hva
        have gc := rA_get P1.out.at_ 1 _ rfl
        rw [HO.out] at gc
        obtain ⟨k1, hk1⟩ : ∃ k1 : Nat, k1 = k0 + cntL e1 := ⟨_, rfl⟩
        have HK1 := uh hk1
        have kb1 : 1 ≤ k1 ∧ k1 ≤ 4000000000000000000 := by have := HCN.out; have := HK0.out; have := HK1.out; omega
        obtain ⟨kl1, ku1⟩ := kb1
        clear hk1
        go_wp2_with fail
        refine (markStringS F1 n1 e1 (.slice va1 n1 vc1) k0 y0 K1.out ND1.out (by omega) (by have := HK1.out; omega)).mono ?_
        rintro e x1 ⟨he, hb1, rr1⟩
        rw [← HK1.out] at he
        subst he
        have P2 := uh (P1.out.grow hb1 (fun e => HPG.out (by simp [e])))
        have D1 := uh rr1
        clear gc hbz rr1 hb1 K1
        have HF : Hid (Marks (· ∈ p :: G) w x1 ∧ Row x1 shSheetLine p o n u m G (mkL k (es.take ((q + 1) * 2)) ++ es.drop ((q + 1) * 2)) ∧ k1 = k + cntL (es.take ((q + 1) * 2))) := by
          have hmk : mkL kq [.s a0, .row n1 e1] = [.s (mt kq), .row n1 (mkL k0 e1)] := by simp only [mkL, HK0.out]
          have hs : ∀ b, b ∈ (([] : List Nat) ++ F1) → b ∈ (F1 ++ [] : List Nat) := by intro b hb; simpa using hb
          refine ⟨HM.out.trans (P2.out.mks.mono ?_), ?_, ?_⟩
          · rintro b (rfl | e)
            · simp
            · exact List.mem_cons_of_mem _ (HSU.out b (hs b e))
          · have := HC.out x1 _ _ (by have := P2.out.mono hs; rw [HO.out] at this; exact this) (repSheetLine_mk _ D1.out)
            rw [← HH.out, hmk]; exact this
          · have := HNX.out; simp only [cntL] at this; have := HK0.out; have := HK1.out; omega
        clear HC HH HM
        go_wp2
        go_roundw
        case rel => exact ⟨q + 1, by omega, by go_num, by rw [← HF.out.2.2], HF.out.1, HF.out.2.1⟩
        case measure => simp [intOf]; omega
      · obtain rfl : q = n := by omega
        have el_ : es.length = q * 2 := HT.out.rows
        rw [← el_, List.take_length, List.drop_length, List.append_nil] at HW
        rw [← el_, List.take_length]
        go_wp2
        go_ret
        exact ⟨rfl, HM.out, Rep.of_row HW.out HNC.out⟩
set_option maxRecDepth 8000 in
set_option maxHeartbeats 8000000 in
theorem markSheetBlockS (F : List Nat) (n : Nat) (es : List Dt) (v : Value) (k : Nat) (w : World) (h : Rep w false [.row 42 shSheetBlock] F [.row n es] [v]) (hnd : F.Nodup) (h1 : 1 ≤ k) (hk : k + cntL es ≤ 4000000000000000000) :
    Calls Try.prog 23 #[v, .int .i64 (k : Int)] w fun e w' => e = .returned (.int .i64 ((k + cntL es : Nat) : Int)) ∧ Marks (· ∈ F) w w' ∧ Rep w' false [.row 42 shSheetBlock] F [.row n (mkL k es)] [v] := by
  rcases h.slice with ⟨_, rfl, rfl, rfl, a, rfl⟩ | ⟨p, o, c, u, m, G, rfl, rfl, hn, ho, hm, _, vs, hr, hR⟩
  · go_enter Try.func23, Try.ntmps23
    go_wp2
    refine wp_loop_rounds 1 ?_
    rw [rounds_succ]
    go_wp2
    go_ret
    exact ⟨by simp [cntL], Marks.refl _ _, by rw [mkL]; exact Rep.emp _ _ a rfl .nil⟩
  · have HT : Hid (Typ (reps n shSheetBlock) es) := hR.raw.typ
    have HR : Hid (Row w shSheetBlock p o n u m G es) := ⟨ho, hm, vs, hr, hR⟩
    have HND : Hid ((p :: G).Nodup) := hnd
    have hn1 : n ≤ 9223372036854775807 := hn.1
    have HNC := uh hn
    have hmm : o + n * 3 ≤ m := hm
    clear hr hR ho hm hnd h hn vs
    go_enter Try.func23, Try.ntmps23
    go_wp2
    go_loopw [1, 5] (fun kk i wr => ∃ q : Nat, q ≤ n ∧ i = .int .i64 (q : Int) ∧ kk = .int .i64 ((k + cntL (es.take (q * 3)) : Nat) : Int) ∧ Marks (· ∈ p :: G) w wr ∧ Row wr shSheetBlock p o n u m G (mkL k (es.take (q * 3)) ++ es.drop (q * 3))) (fun _ i _ => n - (intOf i).toNat)
    case atStart => exact ⟨0, Nat.zero_le _, rfl, by simp [cntL], Marks.refl _ _, by simpa [mkL] using HR.out⟩
    case round =>
      obtain ⟨q, hq, rfl, rfl, hM, hRow⟩ := hrel
      have HM := uh hM
      have HW := uh hRow
      clear hM hRow
      by_cases hlt : q < n
      · obtain ⟨Ge, ve, hE, hrng, hpG, hndE, hsub, hclose⟩ := HW.out.open HND.out q hlt
        obtain ⟨d, hd⟩ : ∃ d, d = el 3 q es := ⟨_, rfl⟩
        have hte : Typ shSheetBlock d := by rw [hd]; exact HT.out.el hlt
        have hE2 : Rep wr false shSheetBlock Ge d ve := by
          have ee : el 3 q (mkL k (es.take (q * 3)) ++ es.drop (q * 3)) = el 3 q es := half_el (sh := shSheetBlock) HT.out hlt
          have hh : Rep wr false shSheetBlock Ge (el 3 q (mkL k (es.take (q * 3)) ++ es.drop (q * 3))) ve := hE
          rw [ee, ← hd] at hh; exact hh
        have hcn : k + cntL (es.take (q * 3)) + cntL d ≤ 4000000000000000000 := by rw [hd]; have := @cnt_el q 3 es; omega
        have hnx : cntL (es.take ((q + 1) * 3)) = cntL (es.take (q * 3)) + cntL d := by rw [hd]; exact cnt_next (sh := shSheetBlock) HT.out hlt
        have hhn : (mkL k (es.take (q * 3)) ++ es.drop (q * 3)).take (q * 3) ++ (mkL (k + cntL (es.take (q * 3))) d ++ (mkL k (es.take (q * 3)) ++ es.drop (q * 3)).drop (q * 3 + 3)) = mkL k (es.take ((q + 1) * 3)) ++ es.drop ((q + 1) * 3) := by rw [hd]; exact half_next (sh := shSheetBlock) HT.out hlt
        clear hE hd
        obtain ⟨kq, hkq⟩ : ∃ kq : Nat, kq = k + cntL (es.take (q * 3)) := ⟨_, rfl⟩
        rw [← hkq] at hcn hhn ⊢
        have HNX : Hid (k + cntL (es.take ((q + 1) * 3)) = kq + cntL d) := by show _ = _; omega
        obtain ⟨a0, a1, n2, e2, rfl, t2⟩ := typSheetBlock hte
        obtain ⟨F2, v2, rfl, rfl, r2⟩ := repSheetBlock hE2
        have hkq1 : 1 ≤ kq := by omega
        have hkq2 : kq ≤ 4000000000000000000 := by omega
        simp only [cntL] at hcn
        have HCN := uh hcn
        clear hcn
        clear hE2 hte hkq hnx
        obtain ⟨off, hoff⟩ : ∃ off, off = o + q * 3 := ⟨_, rfl⟩
        have hom : off + 3 ≤ m := by have : q * 3 + 3 ≤ n * 3 := (by omega); omega
        have P0 : Hid (Pg wr wr p off 3 u m [.string a0, .string a1, v2] (· ∈ ([] : List Nat))) := Pg.refl _ HW.out.own (by rw [hoff]; exact hrng)
        have HC := uh hclose
        have HH := uh hhn
        have HO : Hid (off = o + q * 3) := hoff
        have HPG := uh hpG; have HNE := uh hndE
        have HSU := uh hsub
        clear hclose hhn hrng hpG hndE hsub HW
        have hm0 : (0 : Int) ≤ (q : Int) := by omega
        have hm3 : (q : Int) < (n : Int) := by omega
        have R2 := uh r2
        clear r2
        have nd := HNE.out
        obtain ⟨nd2, ndr2, dj2⟩ := nd_app nd
        have ND2 := uh nd2
        have DJ2 := uh dj2
        clear nd nd2 ndr2 dj2
        go_wp2_with fail
        refine (markText kq wr (by omega) (by omega)).mono ?_
        rintro e x0 ⟨rfl, hb0⟩
        have Q1 := uh (P0.out.later hb0)
        clear hb0
        obtain ⟨y0, hz0⟩ : ∃ y, y = x0.setCell ⟨p, o + q * 3, none⟩ (.string (mt kq)) := ⟨_, rfl⟩
        have P1 : Hid (Pg wr y0 p off 3 u m [.string (mt kq), .string a1, v2] (· ∈ ([] : List Nat))) := by
          have := Q1.out.store 0 (.string (mt kq)) (by omega) hom
          rw [hz0, ← HO.out]; exact this
        have hfz := Q1.out.own.frozen
        have hbz := Q1.out.own.lt
        obtain ⟨ux, eu⟩ := Q1.out.own.cell (o + q * 3) (by have := HO.out; omega)
        go_upto_region 5 with fail
        rw [← hz0]
        clear hz0 hfz hbz eu
        obtain ⟨k0, hk0⟩ : ∃ k0 : Nat, k0 = kq + 1 := ⟨_, rfl⟩
        have hkc0 : (kq : Int) + 1 = (k0 : Int) := by omega
        have HK0 := uh hk0
        have kb0 : 1 ≤ k0 ∧ k0 ≤ 4000000000000000000 := by have := HCN.out; have := HK0.out; omega
        obtain ⟨kl0, ku0⟩ := kb0
        clear hk0
        go_upto_region 6 with fail
        clear hkc0
        go_wp2_with fail
        refine (markText k0 y0 (by omega) (by omega)).mono ?_
        rintro e x1 ⟨rfl, hb1⟩
        have Q2 := uh (P1.out.later hb1)
        clear hb1
        obtain ⟨y1, hz1⟩ : ∃ y, y = x1.setCell ⟨p, o + q * 3 + 1, none⟩ (.string (mt k0)) := ⟨_, rfl⟩
        have P2 : Hid (Pg wr y1 p off 3 u m [.string (mt kq), .string (mt k0), v2] (· ∈ ([] : List Nat))) := by
          have := Q2.out.store 1 (.string (mt k0)) (by omega) hom
          rw [hz1, ← HO.out]; exact this
        have hfz := Q2.out.own.frozen
        have hbz := Q2.out.own.lt
        obtain ⟨ux, eu⟩ := Q2.out.own.cell (o + q * 3 + 1) (by have := HO.out; omega)
        go_upto_region 7 with fail
        rw [← hz1]
        clear hz1 hfz hbz eu
        obtain ⟨k1, hk1⟩ : ∃ k1 : Nat, k1 = k0 + 1 := ⟨_, rfl⟩
        have hkc1 : (k0 : Int) + 1 = (k1 : Int) := by omega
        have HK1 := uh hk1
        have kb1 : 1 ≤ k1 ∧ k1 ≤ 4000000000000000000 := by have := HCN.out; have := HK0.out; have := HK1.out; omega
        obtain ⟨kl1, ku1⟩ := kb1
        clear hk1
        go_upto_region 8 with fail
        clear hkc1
        have hbz := P2.out.own.lt
        have K2 : Hid (Rep y1 false [.row 69 shSheetLine] F2 [.row n2 e2] [v2]) := by
          refine R2.out.keep P2.out.mks ?_
          rintro b hb (rfl | e)
          · exact HPG.out (by simp [hb])
          · cases e
        obtain ⟨va2, vc2, hva⟩ := K2.out.raw.len0
        subst hva
        have gc := rA_get P2.out.at_ 2 _ rfl
        rw [HO.out] at gc
        obtain ⟨k2, hk2⟩ : ∃ k2 : Nat, k2 = k1 + cntL e2 := ⟨_, rfl⟩
        have HK2 := uh hk2
        have kb2 : 1 ≤ k2 ∧ k2 ≤ 4000000000000000000 := by have := HCN.out; have := HK0.out; have := HK1.out; have := HK2.out; omega
        obtain ⟨kl2, ku2⟩ := kb2
        clear hk2
        go_wp2_with fail
        refine (markSheetLineS F2 n2 e2 (.slice va2 n2 vc2) k1 y1 K2.out ND2.out (by omega) (by have := HK2.out; omega)).mono ?_
        rintro e x2 ⟨he, hb2, rr2⟩
        rw [← HK2.out] at he
        subst he
        have P3 := uh (P2.out.grow hb2 (fun e => HPG.out (by simp [e])))
        have D2 := uh rr2
        clear gc hbz rr2 hb2 K2
        have HF : Hid (Marks (· ∈ p :: G) w x2 ∧ Row x2 shSheetBlock p o n u m G (mkL k (es.take ((q + 1) * 3)) ++ es.drop ((q + 1) * 3)) ∧ k2 = k + cntL (es.take ((q + 1) * 3))) := by
          have hmk : mkL kq [.s a0, .s a1, .row n2 e2] = [.s (mt kq), .s (mt k0), .row n2 (mkL k1 e2)] := by simp only [mkL, HK0.out, HK1.out]
          have hs : ∀ b, b ∈ (([] : List Nat) ++ F2) → b ∈ (F2 ++ [] : List Nat) := by intro b hb; simpa using hb
          refine ⟨HM.out.trans (P3.out.mks.mono ?_), ?_, ?_⟩
          · rintro b (rfl | e)
            · simp
            · exact List.mem_cons_of_mem _ (HSU.out b (hs b e))
          · have := HC.out x2 _ _ (by have := P3.out.mono hs; rw [HO.out] at this; exact this) (repSheetBlock_mk _ _ D2.out)
            rw [← HH.out, hmk]; exact this
          · have := HNX.out; simp only [cntL] at this; have := HK0.out; have := HK1.out; have := HK2.out; omega
        clear HC HH HM
        go_wp2
        go_roundw
        case rel => exact ⟨q + 1, by omega, by go_num, by rw [← HF.out.2.2], HF.out.1, HF.out.2.1⟩
        case measure => simp [intOf]; omega
      · obtain rfl : q = n := by omega
        have el_ : es.length = q * 3 := HT.out.rows
        rw [← el_, List.take_length, List.drop_length, List.append_nil] at HW
        rw [← el_, List.take_length]
        go_wp2
        go_ret
        exact ⟨rfl, HM.out, Rep.of_row HW.out HNC.out⟩
set_option maxRecDepth 8000 in
set_option maxHeartbeats 8000000 in
theorem markSheet (F : List Nat) (ds : List Dt) (cs : List Value) (k : Nat) (w : World) (h : Rep w false shSheet F ds cs) (hnd : F.Nodup) (h1 : 1 ≤ k) (hk : k + cntT ds ≤ 4000000000000000000) :
    Calls Try.prog 10 #[.agg cs.toArray, .int .i64 (k : Int)] w fun e w' => e = .returned (.int .i64 ((k + cntT ds : Nat) : Int)) ∧ Marks (· ∈ F) w w' ∧ Rep w' false shSheet F (mkT k ds) cs := by
  obtain ⟨F0, n0, e0, v0, rfl, rfl, hcs, r0⟩ := segRepSheet h
  have HCS := uh hcs
  simp only [cntT] at hk ⊢
  obtain ⟨nd0, ndr0, dj0⟩ := nd_app hnd
  have ND0 := uh nd0
  have DJ0 := uh dj0
  have LT0 := uh r0.lt
  clear hnd nd0 ndr0 dj0
  obtain ⟨wa, hwa⟩ : ∃ wa, wa = w.alloc (.cells cs.toArray 30) := ⟨_, rfl⟩
  have HB : Hid (Below w.heap.size w wa) := by show Below _ _ _; rw [hwa]; exact blw_alloc (Below.refl _ _) _
  have HX : Hid (LBox wa w.heap.size cs) := by show LBox _ _ _; rw [hwa]; exact LBox.new w cs.toArray _ _ rfl
  have R0 := uh (r0.later HB.out)
  have HM := uh (Marks.of_below (· ∈ ([] : List Nat)) HB.out)
  have HKK := uh hk
  clear hcs hk h r0
  go_enter Try.func10, Try.ntmps10
  go_upto_region 1 with fail
  rw [← hwa]
  clear hwa
  have hbz := HX.out.lt
  have hbx := boxSheet  (by have := HX.out.at_; rw [HCS.out] at this; exact this)
  have gc := hbx
  clear hbx
  obtain ⟨k0, hk0⟩ : ∃ k0 : Nat, k0 = k + cntL e0 := ⟨_, rfl⟩
  have HK0 := uh hk0
  have kb0 : 1 ≤ k0 ∧ k0 ≤ 4000000000000000000 := by have := HKK.out; have := HK0.out; omega
  obtain ⟨kl0, ku0⟩ := kb0
  clear hk0
  obtain ⟨va0, vc0, hva⟩ := R0.out.raw.len0
  subst hva
  go_wp2_with fail
  refine (markSheetBlockS F0 n0 e0 (.slice va0 n0 vc0) k wa R0.out ND0.out (by omega) (by have := HK0.out; omega)).mono ?_
  rintro e x0 ⟨he, hb0, rr0⟩
  rw [← HK0.out] at he
  subst he
  replace HX := uh (HX.out.mks hb0 (fun e => Nat.lt_irrefl _ (LT0.out _ e)))
  replace HM := uh ((HM.out.mono (fun b (e : b ∈ ([] : List Nat)) => List.mem_append_left F0 e)).trans (hb0.mono (fun b (e : b ∈ F0) => List.mem_append_right ([] : List Nat) e)))
  replace R0 := uh rr0
  clear gc hbz hb0 rr0
  go_wp2
  go_ret
  refine ⟨Pl.ret_int (by have := HKK.out; have := HK0.out; omega), HM.out.mono (fun b (e : b ∈ (([] : List Nat) ++ F0)) => by simpa [or_assoc] using e), ?_⟩
  have := segRepSheet_mk R0.out
  rw [← HCS.out] at this
  simp only [mkT]
  simpa only [HK0.out, Nat.add_zero] using this
end Go.Proofs.Ytojcopamegmeeaa

namespace Go.Proofs.Ytojcopamegmeeaa
open Go.RowKit Go.Deep

set_option maxRecDepth 8000 in
set_option maxHeartbeats 8000000 in
theorem markSheetChangeS (F : List Nat) (n : Nat) (es : List Dt) (v : Value) (k : Nat) (w : World) (h : Rep w false [.row 44 shSheetChange] F [.row n es] [v]) (hnd : F.Nodup) (h1 : 1 ≤ k) (hk : k + cntL es ≤ 4000000000000000000) :
    Calls Try.prog 11 #[v, .int .i64 (k : Int)] w fun e w' => e = .returned (.int .i64 ((k + cntL es : Nat) : Int)) ∧ Marks (· ∈ F) w w' ∧ Rep w' false [.row 44 shSheetChange] F [.row n (mkL k es)] [v] := by
  rcases h.slice with ⟨_, rfl, rfl, rfl, a, rfl⟩ | ⟨p, o, c, u, m, G, rfl, rfl, hn, ho, hm, _, vs, hr, hR⟩
  · go_enter Try.func11, Try.ntmps11
    go_wp2
    refine wp_loop_rounds 1 ?_
    rw [rounds_succ]
    go_wp2
    go_ret
    exact ⟨by simp [cntL], Marks.refl _ _, by rw [mkL]; exact Rep.emp _ _ a rfl .nil⟩
  · have HT : Hid (Typ (reps n shSheetChange) es) := hR.raw.typ
    have HR : Hid (Row w shSheetChange p o n u m G es) := ⟨ho, hm, vs, hr, hR⟩
    have HND : Hid ((p :: G).Nodup) := hnd
    have hn1 : n ≤ 9223372036854775807 := hn.1
    have HNC := uh hn
    have hmm : o + n * 5 ≤ m := hm
    clear hr hR ho hm hnd h hn vs
    go_enter Try.func11, Try.ntmps11
    go_wp2
    go_loopw [1, 5] (fun kk i wr => ∃ q : Nat, q ≤ n ∧ i = .int .i64 (q : Int) ∧ kk = .int .i64 ((k + cntL (es.take (q * 5)) : Nat) : Int) ∧ Marks (· ∈ p :: G) w wr ∧ Row wr shSheetChange p o n u m G (mkL k (es.take (q * 5)) ++ es.drop (q * 5))) (fun _ i _ => n - (intOf i).toNat)
    case atStart => exact ⟨0, Nat.zero_le _, rfl, by simp [cntL], Marks.refl _ _, by simpa [mkL] using HR.out⟩
    case round =>
      obtain ⟨q, hq, rfl, rfl, hM, hRow⟩ := hrel
      have HM := uh hM
      have HW := uh hRow
      clear hM hRow
      by_cases hlt : q < n
      · obtain ⟨Ge, ve, hE, hrng, hpG, hndE, hsub, hclose⟩ := HW.out.open HND.out q hlt
        obtain ⟨d, hd⟩ : ∃ d, d = el 5 q es := ⟨_, rfl⟩
        have hte : Typ shSheetChange d := by rw [hd]; exact HT.out.el hlt
        have hE2 : Rep wr false shSheetChange Ge d ve := by
          have ee : el 5 q (mkL k (es.take (q * 5)) ++ es.drop (q * 5)) = el 5 q es := half_el (sh := shSheetChange) HT.out hlt
          have hh : Rep wr false shSheetChange Ge (el 5 q (mkL k (es.take (q * 5)) ++ es.drop (q * 5))) ve := hE
          rw [ee, ← hd] at hh; exact hh
        have hcn : k + cntL (es.take (q * 5)) + cntL d ≤ 4000000000000000000 := by rw [hd]; have := @cnt_el q 5 es; omega
        have hnx : cntL (es.take ((q + 1) * 5)) = cntL (es.take (q * 5)) + cntL d := by rw [hd]; exact cnt_next (sh := shSheetChange) HT.out hlt
        have hhn : (mkL k (es.take (q * 5)) ++ es.drop (q * 5)).take (q * 5) ++ (mkL (k + cntL (es.take (q * 5))) d ++ (mkL k (es.take (q * 5)) ++ es.drop (q * 5)).drop (q * 5 + 5)) = mkL k (es.take ((q + 1) * 5)) ++ es.drop ((q + 1) * 5) := by rw [hd]; exact half_next (sh := shSheetChange) HT.out hlt
        clear hE hd
        obtain ⟨kq, hkq⟩ : ∃ kq : Nat, kq = k + cntL (es.take (q * 5)) := ⟨_, rfl⟩
        rw [← hkq] at hcn hhn ⊢
        have HNX : Hid (k + cntL (es.take ((q + 1) * 5)) = kq + cntL d) := by show _ = _; omega
        obtain ⟨a0, a1, a2, a3, n4, e4, rfl, t4⟩ := typSheetChange hte
        obtain ⟨F4, v4, rfl, rfl, r4⟩ := repSheetChange hE2
        have hkq1 : 1 ≤ kq := by omega
        have hkq2 : kq ≤ 4000000000000000000 := by omega
        simp only [cntL] at hcn
        have HCN := uh hcn
        clear hcn
        clear hE2 hte hkq hnx
        obtain ⟨off, hoff⟩ : ∃ off, off = o + q * 5 := ⟨_, rfl⟩
        have hom : off + 5 ≤ m := by have : q * 5 + 5 ≤ n * 5 := (by omega); omega
        have P0 : Hid (Pg wr wr p off 5 u m [.int .i64 a0, .string a1, .string a2, .string a3, v4] (· ∈ ([] : List Nat))) := Pg.refl _ HW.out.own (by rw [hoff]; exact hrng)
        have HC := uh hclose
        have HH := uh hhn
        have HO : Hid (off = o + q * 5) := hoff
        have HPG := uh hpG; have HNE := uh hndE
        have HSU := uh hsub
        clear hclose hhn hrng hpG hndE hsub HW
        have hm0 : (0 : Int) ≤ (q : Int) := by omega
        have hm3 : (q : Int) < (n : Int) := by omega
        have R4 := uh r4
        clear r4
        have nd := HNE.out
        obtain ⟨nd4, ndr4, dj4⟩ := nd_app nd
        have ND4 := uh nd4
        have DJ4 := uh dj4
        clear nd nd4 ndr4 dj4
        obtain ⟨y0, hz0⟩ : ∃ y, y = wr.setCell ⟨p, o + q * 5, none⟩ (.int .i64 (kq : Int)) := ⟨_, rfl⟩
        have P1 : Hid (Pg wr y0 p off 5 u m [.int .i64 (kq : Int), .string a1, .string a2, .string a3, v4] (· ∈ ([] : List Nat))) := by
          have := P0.out.store 0 (.int .i64 (kq : Int)) (by omega) hom
          rw [hz0, ← HO.out]; exact this
        have hfz := P0.out.own.frozen
        have hbz := P0.out.own.lt
        obtain ⟨ux, eu⟩ := P0.out.own.cell (o + q * 5) (by have := HO.out; omega)
        go_upto_region 5 with fail
        rw [← hz0]
        clear hz0 hfz hbz eu
        obtain ⟨k0, hk0⟩ : ∃ k0 : Nat, k0 = kq + 1 := ⟨_, rfl⟩
        have hkc0 : (kq : Int) + 1 = (k0 : Int) := by omega
        have HK0 := uh hk0
        have kb0 : 1 ≤ k0 ∧ k0 ≤ 4000000000000000000 := by have := HCN.out; have := HK0.out; omega
        obtain ⟨kl0, ku0⟩ := kb0
        clear hk0
        go_upto_region 6 with fail
        clear hkc0
        go_wp2_with fail
        refine (markText k0 y0 (by omega) (by omega)).mono ?_
        rintro e x1 ⟨rfl, hb1⟩
        have Q2 := uh (P1.out.later hb1)
        clear hb1
        obtain ⟨y1, hz1⟩ : ∃ y, y = x1.setCell ⟨p, o + q * 5 + 1, none⟩ (.string (mt k0)) := ⟨_, rfl⟩
        have P2 : Hid (Pg wr y1 p off 5 u m [.int .i64 (kq : Int), .string (mt k0), .string a2, .string a3, v4] (· ∈ ([] : List Nat))) := by
          have := Q2.out.store 1 (.string (mt k0)) (by omega) hom
          rw [hz1, ← HO.out]; exact this
        have hfz := Q2.out.own.frozen
        have hbz := Q2.out.own.lt
        obtain ⟨ux, eu⟩ := Q2.out.own.cell (o + q * 5 + 1) (by have := HO.out; omega)
        go_upto_region 7 with fail
        rw [← hz1]
        clear hz1 hfz hbz eu
        obtain ⟨k1, hk1⟩ : ∃ k1 : Nat, k1 = k0 + 1 := ⟨_, rfl⟩
        have hkc1 : (k0 : Int) + 1 = (k1 : Int) := by omega
        have HK1 := uh hk1
        have kb1 : 1 ≤ k1 ∧ k1 ≤ 4000000000000000000 := by have := HCN.out; have := HK0.out; have := HK1.out; omega
        obtain ⟨kl1, ku1⟩ := kb1
        clear hk1
        go_upto_region 8 with fail
        clear hkc1
        go_wp2_with fail
        refine (markText k1 y1 (by omega) (by omega)).mono ?_
        rintro e x2 ⟨rfl, hb2⟩
        have Q3 := uh (P2.out.later hb2)
        clear hb2
        obtain ⟨y2, hz2⟩ : ∃ y, y = x2.setCell ⟨p, o + q * 5 + 2, none⟩ (.string (mt k1)) := ⟨_, rfl⟩
        have P3 : Hid (Pg wr y2 p off 5 u m [.int .i64 (kq : Int), .string (mt k0), .string (mt k1), .string a3, v4] (· ∈ ([] : List Nat))) := by
          have := Q3.out.store 2 (.string (mt k1)) (by omega) hom
          rw [hz2, ← HO.out]; exact this
        have hfz := Q3.out.own.frozen
        have hbz := Q3.out.own.lt
        obtain ⟨ux, eu⟩ := Q3.out.own.cell (o + q * 5 + 2) (by have := HO.out; omega)
        go_upto_region 9 with fail
        rw [← hz2]
        clear hz2 hfz hbz eu
        obtain ⟨k2, hk2⟩ : ∃ k2 : Nat, k2 = k1 + 1 := ⟨_, rfl⟩
        have hkc2 : (k1 : Int) + 1 = (k2 : Int) := by omega
        have HK2 := uh hk2
        have kb2 : 1 ≤ k2 ∧ k2 ≤ 4000000000000000000 := by have := HCN.out; have := HK0.out; have := HK1.out; have := HK2.out; omega
        obtain ⟨kl2, ku2⟩ := kb2
        clear hk2
        go_upto_region 10 with fail
        clear hkc2
        go_wp2_with fail
        refine (markText k2 y2 (by omega) (by omega)).mono ?_
        rintro e x3 ⟨rfl, hb3⟩
        have Q4 := uh (P3.out.later hb3)
        clear hb3
        obtain ⟨y3, hz3⟩ : ∃ y, y = x3.setCell ⟨p, o + q * 5 + 3, none⟩ (.string (mt k2)) := ⟨_, rfl⟩
        have P4 : Hid (Pg wr y3 p off 5 u m [.int .i64 (kq : Int), .string (mt k0), .string (mt k1), .string (mt k2), v4] (· ∈ ([] : List Nat))) := by
          have := Q4.out.store 3 (.string (mt k2)) (by omega) hom
          rw [hz3, ← HO.out]; exact this
        have hfz := Q4.out.own.frozen
        have hbz := Q4.out.own.lt
        obtain ⟨ux, eu⟩ := Q4.out.own.cell (o + q * 5 + 3) (by have := HO.out; omega)
        go_upto_region 11 with fail
        rw [← hz3]
        clear hz3 hfz hbz eu
        obtain ⟨k3, hk3⟩ : ∃ k3 : Nat, k3 = k2 + 1 := ⟨_, rfl⟩
        have hkc3 : (k2 : Int) + 1 = (k3 : Int) := by omega
        have HK3 := uh hk3
        have kb3 : 1 ≤ k3 ∧ k3 ≤ 4000000000000000000 := by have := HCN.out; have := HK0.out; have := HK1.out; have := HK2.out; have := HK3.out; omega
        obtain ⟨kl3, ku3⟩ := kb3
        clear hk3
        go_upto_region 12 with fail
        clear hkc3
        have hbz := P4.out.own.lt
        have K4 : Hid (Rep y3 false [.row 69 shSheetLine] F4 [.row n4 e4] [v4]) := by
          refine R4.out.keep P4.out.mks ?_
          rintro b hb (rfl | e)
          · exact HPG.out (by simp [hb])
          · cases e
        obtain ⟨va4, vc4, hva⟩ := K4.out.raw.len0
        subst hva
        have gc := rA_get P4.out.at_ 4 _ rfl
        rw [HO.out] at gc
        obtain ⟨k4, hk4⟩ : ∃ k4 : Nat, k4 = k3 + cntL e4 := ⟨_, rfl⟩
        have HK4 := uh hk4
        have kb4 : 1 ≤ k4 ∧ k4 ≤ 4000000000000000000 := by have := HCN.out; have := HK0.out; have := HK1.out; have := HK2.out; have := HK3.out; have := HK4.out; omega
        obtain ⟨kl4, ku4⟩ := kb4
        clear hk4
        go_wp2_with fail
        refine (markSheetLineS F4 n4 e4 (.slice va4 n4 vc4) k3 y3 K4.out ND4.out (by omega) (by have := HK4.out; omega)).mono ?_
        rintro e x4 ⟨he, hb4, rr4⟩
        rw [← HK4.out] at he
        subst he
        have P5 := uh (P4.out.grow hb4 (fun e => HPG.out (by simp [e])))
        have D4 := uh rr4
        clear gc hbz rr4 hb4 K4
        have HF : Hid (Marks (· ∈ p :: G) w x4 ∧ Row x4 shSheetChange p o n u m G (mkL k (es.take ((q + 1) * 5)) ++ es.drop ((q + 1) * 5)) ∧ k4 = k + cntL (es.take ((q + 1) * 5))) := by
          have hmk : mkL kq [.i a0, .s a1, .s a2, .s a3, .row n4 e4] = [.i (kq : Int), .s (mt k0), .s (mt k1), .s (mt k2), .row n4 (mkL k3 e4)] := by simp only [mkL, HK0.out, HK1.out, HK2.out, HK3.out]
          have hs : ∀ b, b ∈ (([] : List Nat) ++ F4) → b ∈ (F4 ++ [] : List Nat) := by intro b hb; simpa using hb
          refine ⟨HM.out.trans (P5.out.mks.mono ?_), ?_, ?_⟩
          · rintro b (rfl | e)
            · simp
            · exact List.mem_cons_of_mem _ (HSU.out b (hs b e))
          · have := HC.out x4 _ _ (by have := P5.out.mono hs; rw [HO.out] at this; exact this) (repSheetChange_mk _ _ _ _ D4.out)
            rw [← HH.out, hmk]; exact this
          · have := HNX.out; simp only [cntL] at this; have := HK0.out; have := HK1.out; have := HK2.out; have := HK3.out; have := HK4.out; omega
        clear HC HH HM
        go_wp2
        go_roundw
        case rel => exact ⟨q + 1, by omega, by go_num, by rw [← HF.out.2.2], HF.out.1, HF.out.2.1⟩
        case measure => simp [intOf]; omega
      · obtain rfl : q = n := by omega
        have el_ : es.length = q * 5 := HT.out.rows
        rw [← el_, List.take_length, List.drop_length, List.append_nil] at HW
        rw [← el_, List.take_length]
        go_wp2
        go_ret
        exact ⟨rfl, HM.out, Rep.of_row HW.out HNC.out⟩
end Go.Proofs.Ytojcopamegmeeaa
