/-
  Marks of worlds.
-/
import Derived.Test.YtfkkohfjkofgnaaGreatKShw
import Derived.Test.YtfkkohfjkofgnaaGreatKMb
import Derived.Test.YtfkkohfjkofgnaaGreatUBm
namespace Go.Proofs.YtfkkohfjkofgnaaGreat
open Go.RowKit Go.Deep

set_option maxRecDepth 8000 in
set_option maxHeartbeats 8000000 in
theorem markRecFixS (F : List Nat) (n : Nat) (es : List Dt) (v : Value) (k : Nat) (w : World) (h : Rep w false [.row 123 shRecFix] F [.row n es] [v]) (hnd : F.Nodup) (h1 : 1 ≤ k) (hk : k + cntL es ≤ 4000000000000000000) :
    Calls Tryz.prog 62 #[v, .int .i64 (k : Int)] w fun e w' => e = .returned (.int .i64 ((k + cntL es : Nat) : Int)) ∧ Marks (· ∈ F) w w' ∧ Rep w' false [.row 123 shRecFix] F [.row n (mkL k es)] [v] := by
  rcases h.slice with ⟨_, rfl, rfl, rfl, a, rfl⟩ | ⟨p, o, c, u, m, G, rfl, rfl, hn, ho, hm, _, vs, hr, hR⟩
  · go_enter Tryz.func62, Tryz.ntmps62
    go_wp2
    refine wp_loop_rounds 1 ?_
    rw [rounds_succ]
    go_wp2
    go_ret
    exact ⟨by simp [cntL], Marks.refl _ _, by rw [mkL]; exact Rep.emp _ _ a rfl .nil⟩
  · have HT : Hid (Typ (reps n shRecFix) es) := hR.raw.typ
    have HR : Hid (Row w shRecFix p o n u m G es) := ⟨ho, hm, vs, hr, hR⟩
    have HND : Hid ((p :: G).Nodup) := hnd
    have hn1 : n ≤ 9223372036854775807 := hn.1
    have HNC := uh hn
    have hmm : o + n * 2 ≤ m := hm
    clear hr hR ho hm hnd h hn vs
    go_enter Tryz.func62, Tryz.ntmps62
    go_wp2
    go_loopw [1, 5] (fun kk i wr => ∃ q : Nat, q ≤ n ∧ i = .int .i64 (q : Int) ∧ kk = .int .i64 ((k + cntL (es.take (q * 2)) : Nat) : Int) ∧ Marks (· ∈ p :: G) w wr ∧ Row wr shRecFix p o n u m G (mkL k (es.take (q * 2)) ++ es.drop (q * 2))) (fun _ i _ => n - (intOf i).toNat)
    case atStart => exact ⟨0, Nat.zero_le _, rfl, by simp [cntL], Marks.refl _ _, by simpa [mkL] using HR.out⟩
    case round =>
      obtain ⟨q, hq, rfl, rfl, hM, hRow⟩ := hrel
      have HM := uh hM
      have HW := uh hRow
      clear hM hRow
      by_cases hlt : q < n
      · obtain ⟨Ge, ve, hE, hrng, hpG, hndE, hsub, hclose⟩ := HW.out.open HND.out q hlt
        obtain ⟨d, hd⟩ : ∃ d, d = el 2 q es := ⟨_, rfl⟩
        have hte : Typ shRecFix d := by rw [hd]; exact HT.out.el hlt
        have hE2 : Rep wr false shRecFix Ge d ve := by
          have ee : el 2 q (mkL k (es.take (q * 2)) ++ es.drop (q * 2)) = el 2 q es := half_el (sh := shRecFix) HT.out hlt
          have hh : Rep wr false shRecFix Ge (el 2 q (mkL k (es.take (q * 2)) ++ es.drop (q * 2))) ve := hE
          rw [ee, ← hd] at hh; exact hh
        have hcn : k + cntL (es.take (q * 2)) + cntL d ≤ 4000000000000000000 := by rw [hd]; have := @cnt_el q 2 es; omega
        have hnx : cntL (es.take ((q + 1) * 2)) = cntL (es.take (q * 2)) + cntL d := by rw [hd]; exact cnt_next (sh := shRecFix) HT.out hlt
        have hhn : (mkL k (es.take (q * 2)) ++ es.drop (q * 2)).take (q * 2) ++ (mkL (k + cntL (es.take (q * 2))) d ++ (mkL k (es.take (q * 2)) ++ es.drop (q * 2)).drop (q * 2 + 2)) = mkL k (es.take ((q + 1) * 2)) ++ es.drop ((q + 1) * 2) := by rw [hd]; exact half_next (sh := shRecFix) HT.out hlt
        clear hE hd
        obtain ⟨kq, hkq⟩ : ∃ kq : Nat, kq = k + cntL (es.take (q * 2)) := ⟨_, rfl⟩
        rw [← hkq] at hcn hhn ⊢
        have HNX : Hid (k + cntL (es.take ((q + 1) * 2)) = kq + cntL d) := by show _ = _; omega
        obtain ⟨a0, a1, rfl⟩ := typRecFix hte
        obtain ⟨rfl, rfl⟩ := repRecFix hE2
        have hkq1 : 1 ≤ kq := by omega
        have hkq2 : kq ≤ 4000000000000000000 := by omega
        simp only [cntL] at hcn
        have HCN := uh hcn
        clear hcn
        clear hE2 hte hkq hnx
        obtain ⟨off, hoff⟩ : ∃ off, off = o + q * 2 := ⟨_, rfl⟩
        have hom : off + 2 ≤ m := by have : q * 2 + 2 ≤ n * 2 := (by omega); omega
        have P0 : Hid (Pg wr wr p off 2 u m [.int .i64 a0, .string a1] (· ∈ ([] : List Nat))) := Pg.refl _ HW.out.own (by rw [hoff]; exact hrng)
        have HC := uh hclose
        have HH := uh hhn
        have HO : Hid (off = o + q * 2) := hoff
        have HPG := uh hpG; have HNE := uh hndE
        have HSU := uh hsub
        clear hclose hhn hrng hpG hndE hsub HW
        have hm0 : (0 : Int) ≤ (q : Int) := by omega
        have hm3 : (q : Int) < (n : Int) := by omega
        obtain ⟨y0, hz0⟩ : ∃ y, y = wr.setCell ⟨p, o + q * 2, none⟩ (.int .i64 (kq : Int)) := ⟨_, rfl⟩
        have P1 : Hid (Pg wr y0 p off 2 u m [.int .i64 (kq : Int), .string a1] (· ∈ ([] : List Nat))) := by
          have := P0.out.store 0 (.int .i64 (kq : Int)) (by omega) hom
          rw [hz0, ← HO.out]; exact this
        have hfz := P0.out.own.frozen
        have hbz := P0.out.own.lt
        obtain ⟨ux, eu⟩ := P0.out.own.cell (o + q * 2) (by have := HO.out; omega)
        go_upto_region 5 with fail
        rw [← hz0]
        clear hz0 hfz hbz eu
        obtain ⟨k0, hk0⟩ : ∃ k0 : Nat, k0 = kq + 1 := ⟨_, rfl⟩
        have hkc0 : (kq : Int) + 1 = (k0 : Int) := by omega
        have HK0 := uh hk0
        have kb0 : 1 ≤ k0 ∧ k0 ≤ 4000000000000000000 := by have := HCN.out; have := HK0.out; omega
        obtain ⟨kl0, ku0⟩ := kb0
        clear hk0
        go_upto_region 6 with fail
        clear hkc0
        go_wp2_with fail
        refine (markText k0 y0 (by omega) (by omega)).mono ?_
        rintro e x1 ⟨rfl, hb1⟩
        have Q2 := uh (P1.out.later hb1)
        clear hb1
        obtain ⟨y1, hz1⟩ : ∃ y, y = x1.setCell ⟨p, o + q * 2 + 1, none⟩ (.string (mt k0)) := ⟨_, rfl⟩
        have P2 : Hid (Pg wr y1 p off 2 u m [.int .i64 (kq : Int), .string (mt k0)] (· ∈ ([] : List Nat))) := by
          have := Q2.out.store 1 (.string (mt k0)) (by omega) hom
          rw [hz1, ← HO.out]; exact this
        have hfz := Q2.out.own.frozen
        have hbz := Q2.out.own.lt
        obtain ⟨ux, eu⟩ := Q2.out.own.cell (o + q * 2 + 1) (by have := HO.out; omega)
        go_upto_region 7 with fail
        rw [← hz1]
        clear hz1 hfz hbz eu
        obtain ⟨k1, hk1⟩ : ∃ k1 : Nat, k1 = k0 + 1 := ⟨_, rfl⟩
        have hkc1 : (k0 : Int) + 1 = (k1 : Int) := by omega
        have HK1 := uh hk1
        have kb1 : 1 ≤ k1 ∧ k1 ≤ 4000000000000000000 := by have := HCN.out; have := HK0.out; have := HK1.out; omega
        obtain ⟨kl1, ku1⟩ := kb1
        clear hk1
        have HF : Hid (Marks (· ∈ p :: G) w y1 ∧ Row y1 shRecFix p o n u m G (mkL k (es.take ((q + 1) * 2)) ++ es.drop ((q + 1) * 2)) ∧ k1 = k + cntL (es.take ((q + 1) * 2))) := by
          have hmk : mkL kq [.i a0, .s a1] = [.i (kq : Int), .s (mt k0)] := by simp only [mkL, HK0.out]
          have hs : ∀ b, b ∈ ([] : List Nat) → b ∈ ([] : List Nat) := by intro b hb; cases hb
          refine ⟨HM.out.trans (P2.out.mks.mono ?_), ?_, ?_⟩
          · rintro b (rfl | e)
            · simp
            · exact List.mem_cons_of_mem _ (HSU.out b (hs b e))
          · have := HC.out y1 _ _ (by have := P2.out.mono hs; rw [HO.out] at this; exact this) (repRecFix_mk _ _)
            rw [← HH.out, hmk]; exact this
          · have := HNX.out; simp only [cntL] at this; have := HK0.out; have := HK1.out; omega
        clear HC HH HM
        go_wp2
        go_roundw
        case rel => exact ⟨q + 1, by omega, by go_num, by rw [← HF.out.2.2], HF.out.1, HF.out.2.1⟩
        case measure => simp [intOf]; omega
      · obtain rfl : q = n := by omega
        have el_ : es.length = q * 2 := HT.out.rows
        rw [← el_, List.take_length, List.drop_length, List.append_nil] at HW
        rw [← el_, List.take_length]
        go_wp2
        go_ret
        exact ⟨rfl, HM.out, Rep.of_row HW.out HNC.out⟩
set_option maxRecDepth 8000 in
set_option maxHeartbeats 8000000 in
theorem markRecorderS (F : List Nat) (n : Nat) (es : List Dt) (v : Value) (k : Nat) (w : World) (h : Rep w false [.row 84 shRecorder] F [.row n es] [v]) (hnd : F.Nodup) (h1 : 1 ≤ k) (hk : k + cntL es ≤ 4000000000000000000) :
    Calls Tryz.prog 60 #[v, .int .i64 (k : Int)] w fun e w' => e = .returned (.int .i64 ((k + cntL es : Nat) : Int)) ∧ Marks (· ∈ F) w w' ∧ Rep w' false [.row 84 shRecorder] F [.row n (mkL k es)] [v] := by
  rcases h.slice with ⟨_, rfl, rfl, rfl, a, rfl⟩ | ⟨p, o, c, u, m, G, rfl, rfl, hn, ho, hm, _, vs, hr, hR⟩
  · go_enter Tryz.func60, Tryz.ntmps60
    go_wp2
    refine wp_loop_rounds 1 ?_
    rw [rounds_succ]
    go_wp2
    go_ret
    exact ⟨by simp [cntL], Marks.refl _ _, by rw [mkL]; exact Rep.emp _ _ a rfl .nil⟩
  · have HT : Hid (Typ (reps n shRecorder) es) := hR.raw.typ
    have HR : Hid (Row w shRecorder p o n u m G es) := ⟨ho, hm, vs, hr, hR⟩
    have HND : Hid ((p :: G).Nodup) := hnd
    have hn1 : n ≤ 9223372036854775807 := hn.1
    have HNC := uh hn
    have hmm : o + n * 18 ≤ m := hm
    clear hr hR ho hm hnd h hn vs
    go_enter Tryz.func60, Tryz.ntmps60
    go_wp2
    go_loopw [1, 5] (fun kk i wr => ∃ q : Nat, q ≤ n ∧ i = .int .i64 (q : Int) ∧ kk = .int .i64 ((k + cntL (es.take (q * 18)) : Nat) : Int) ∧ Marks (· ∈ p :: G) w wr ∧ Row wr shRecorder p o n u m G (mkL k (es.take (q * 18)) ++ es.drop (q * 18))) (fun _ i _ => n - (intOf i).toNat)
    case atStart => exact ⟨0, Nat.zero_le _, rfl, by simp [cntL], Marks.refl _ _, by simpa [mkL] using HR.out⟩
    case round =>
      obtain ⟨q, hq, rfl, rfl, hM, hRow⟩ := hrel
      have HM := uh hM
      have HW := uh hRow
      clear hM hRow
      by_cases hlt : q < n
      · obtain ⟨Ge, ve, hE, hrng, hpG, hndE, hsub, hclose⟩ := HW.out.open HND.out q hlt
        obtain ⟨d, hd⟩ : ∃ d, d = el 18 q es := ⟨_, rfl⟩
        have hte : Typ shRecorder d := by rw [hd]; exact HT.out.el hlt
        have hE2 : Rep wr false shRecorder Ge d ve := by
          have ee : el 18 q (mkL k (es.take (q * 18)) ++ es.drop (q * 18)) = el 18 q es := half_el (sh := shRecorder) HT.out hlt
          have hh : Rep wr false shRecorder Ge (el 18 q (mkL k (es.take (q * 18)) ++ es.drop (q * 18))) ve := hE
          rw [ee, ← hd] at hh; exact hh
        have hcn : k + cntL (es.take (q * 18)) + cntL d ≤ 4000000000000000000 := by rw [hd]; have := @cnt_el q 18 es; omega
        have hnx : cntL (es.take ((q + 1) * 18)) = cntL (es.take (q * 18)) + cntL d := by rw [hd]; exact cnt_next (sh := shRecorder) HT.out hlt
        have hhn : (mkL k (es.take (q * 18)) ++ es.drop (q * 18)).take (q * 18) ++ (mkL (k + cntL (es.take (q * 18))) d ++ (mkL k (es.take (q * 18)) ++ es.drop (q * 18)).drop (q * 18 + 18)) = mkL k (es.take ((q + 1) * 18)) ++ es.drop ((q + 1) * 18) := by rw [hd]; exact half_next (sh := shRecorder) HT.out hlt
        clear hE hd
        obtain ⟨kq, hkq⟩ : ∃ kq : Nat, kq = k + cntL (es.take (q * 18)) := ⟨_, rfl⟩
        rw [← hkq] at hcn hhn ⊢
        have HNX : Hid (k + cntL (es.take ((q + 1) * 18)) = kq + cntL d) := by show _ = _; omega
        obtain ⟨a0, a1, a2, a3, a4, n5, e5, a6, a7, n8, e8, n9, e9, n10, e10, a11, a12, a13, n14, e14, n15, e15, n16, e16, a17, rfl, t5, t8, t9, t10, t14, t15, t16⟩ := typRecorder hte
        obtain ⟨F5, v5, F8, v8, F9, v9, F10, v10, F14, v14, F15, v15, F16, v16, rfl, rfl, r5, r8, r9, r10, r14, r15, r16⟩ := repRecorder hE2
        have hkq1 : 1 ≤ kq := by omega
        have hkq2 : kq ≤ 4000000000000000000 := by omega
        simp only [cntL] at hcn
        have HCN := uh hcn
        clear hcn
        clear hE2 hte hkq hnx
        obtain ⟨off, hoff⟩ : ∃ off, off = o + q * 18 := ⟨_, rfl⟩
        have hom : off + 18 ≤ m := by have : q * 18 + 18 ≤ n * 18 := (by omega); omega
        have P0 : Hid (Pg wr wr p off 18 u m [.int .i64 a0, .int .i64 a1, .bool a2, .int .i64 a3, .int .i64 a4, v5, .int .i64 a6, .int .i64 a7, v8, v9, v10, .bool a11, .bool a12, .int .i64 a13, v14, v15, v16, .int .i64 a17] (· ∈ ([] : List Nat))) := Pg.refl _ HW.out.own (by rw [hoff]; exact hrng)
        have HC := uh hclose
        have HH := uh hhn
        have HO : Hid (off = o + q * 18) := hoff
        have HPG := uh hpG; have HNE := uh hndE
        have HSU := uh hsub
        clear hclose hhn hrng hpG hndE hsub HW
        have hm0 : (0 : Int) ≤ (q : Int) := by omega
        have hm3 : (q : Int) < (n : Int) := by omega
        have R5 := uh r5
        have R8 := uh r8
        have R9 := uh r9
        have R10 := uh r10
        have R14 := uh r14
        have R15 := uh r15
        have R16 := uh r16
        clear r5 r8 r9 r10 r14 r15 r16
        have nd := HNE.out
        obtain ⟨nd5, ndr5, dj5⟩ := nd_app nd
        have ND5 := uh nd5
        have DJ5 := uh dj5
        obtain ⟨nd8, ndr8, dj8⟩ := nd_app ndr5
        have ND8 := uh nd8
        have DJ8 := uh dj8
        obtain ⟨nd9, ndr9, dj9⟩ := nd_app ndr8
        have ND9 := uh nd9
        have DJ9 := uh dj9
        obtain ⟨nd10, ndr10, dj10⟩ := nd_app ndr9
        have ND10 := uh nd10
        have DJ10 := uh dj10
        obtain ⟨nd14, ndr14, dj14⟩ := nd_app ndr10
        have ND14 := uh nd14
        have DJ14 := uh dj14
        obtain ⟨nd15, ndr15, dj15⟩ := nd_app ndr14
        have ND15 := uh nd15
        have DJ15 := uh dj15
        obtain ⟨nd16, ndr16, dj16⟩ := nd_app ndr15
        have ND16 := uh nd16
        have DJ16 := uh dj16
        clear nd nd5 ndr5 dj5 nd8 ndr8 dj8 nd9 ndr9 dj9 nd10 ndr10 dj10 nd14 ndr14 dj14 nd15 ndr15 dj15 nd16 ndr16 dj16
        obtain ⟨y0, hz0⟩ : ∃ y, y = wr.setCell ⟨p, o + q * 18, none⟩ (.int .i64 (kq : Int)) := ⟨_, rfl⟩
        have P1 : Hid (Pg wr y0 p off 18 u m [.int .i64 (kq : Int), .int .i64 a1, .bool a2, .int .i64 a3, .int .i64 a4, v5, .int .i64 a6, .int .i64 a7, v8, v9, v10, .bool a11, .bool a12, .int .i64 a13, v14, v15, v16, .int .i64 a17] (· ∈ ([] : List Nat))) := by
          have := P0.out.store 0 (.int .i64 (kq : Int)) (by omega) hom
          rw [hz0, ← HO.out]; exact this
        have hfz := P0.out.own.frozen
        have hbz := P0.out.own.lt
        obtain ⟨ux, eu⟩ := P0.out.own.cell (o + q * 18) (by have := HO.out; omega)
        go_upto_region 5 with fail
        rw [← hz0]
        clear hz0 hfz hbz eu
        obtain ⟨k0, hk0⟩ : ∃ k0 : Nat, k0 = kq + 1 := ⟨_, rfl⟩
        have hkc0 : (kq : Int) + 1 = (k0 : Int) := by omega
        have HK0 := uh hk0
        have kb0 : 1 ≤ k0 ∧ k0 ≤ 4000000000000000000 := by have := HCN.out; have := HK0.out; omega
        obtain ⟨kl0, ku0⟩ := kb0
        clear hk0
        go_upto_region 6 with fail
        clear hkc0
        obtain ⟨y1, hz1⟩ : ∃ y, y = y0.setCell ⟨p, o + q * 18 + 1, none⟩ (.int .i64 (k0 : Int)) := ⟨_, rfl⟩
        have P2 : Hid (Pg wr y1 p off 18 u m [.int .i64 (kq : Int), .int .i64 (k0 : Int), .bool a2, .int .i64 a3, .int .i64 a4, v5, .int .i64 a6, .int .i64 a7, v8, v9, v10, .bool a11, .bool a12, .int .i64 a13, v14, v15, v16, .int .i64 a17] (· ∈ ([] : List Nat))) := by
          have := P1.out.store 1 (.int .i64 (k0 : Int)) (by omega) hom
          rw [hz1, ← HO.out]; exact this
        have hfz := P1.out.own.frozen
        have hbz := P1.out.own.lt
        obtain ⟨ux, eu⟩ := P1.out.own.cell (o + q * 18 + 1) (by have := HO.out; omega)
        go_upto_region 7 with fail
        rw [← hz1]
        clear hz1 hfz hbz eu
        obtain ⟨k1, hk1⟩ : ∃ k1 : Nat, k1 = k0 + 1 := ⟨_, rfl⟩
        have hkc1 : (k0 : Int) + 1 = (k1 : Int) := by omega
        have HK1 := uh hk1
        have kb1 : 1 ≤ k1 ∧ k1 ≤ 4000000000000000000 := by have := HCN.out; have := HK0.out; have := HK1.out; omega
        obtain ⟨kl1, ku1⟩ := kb1
        clear hk1
        go_upto_region 8 with fail
        clear hkc1
        have hrm := bmod k1
        obtain ⟨y2, hz2⟩ : ∃ y, y = y1.setCell ⟨p, o + q * 18 + 2, none⟩ (.bool (k1 % 3 == 0)) := ⟨_, rfl⟩
        have P3 : Hid (Pg wr y2 p off 18 u m [.int .i64 (kq : Int), .int .i64 (k0 : Int), .bool (k1 % 3 == 0), .int .i64 a3, .int .i64 a4, v5, .int .i64 a6, .int .i64 a7, v8, v9, v10, .bool a11, .bool a12, .int .i64 a13, v14, v15, v16, .int .i64 a17] (· ∈ ([] : List Nat))) := by
          have := P2.out.store 2 (.bool (k1 % 3 == 0)) (by omega) hom
          rw [hz2, ← HO.out]; exact this
        have hfz := P2.out.own.frozen
        have hbz := P2.out.own.lt
        obtain ⟨ux, eu⟩ := P2.out.own.cell (o + q * 18 + 2) (by have := HO.out; omega)
        go_upto_region 9 with fail
        rw [← hz2]
        clear hz2 hfz hbz eu hrm
        obtain ⟨k2, hk2⟩ : ∃ k2 : Nat, k2 = k1 + 1 := ⟨_, rfl⟩
        have hkc2 : (k1 : Int) + 1 = (k2 : Int) := by omega
        have HK2 := uh hk2
        have kb2 : 1 ≤ k2 ∧ k2 ≤ 4000000000000000000 := by have := HCN.out; have := HK0.out; have := HK1.out; have := HK2.out; omega
        obtain ⟨kl2, ku2⟩ := kb2
        clear hk2
        go_upto_region 10 with fail
        clear hkc2
        obtain ⟨y3, hz3⟩ : ∃ y, y = y2.setCell ⟨p, o + q * 18 + 3, none⟩ (.int .i64 (k2 : Int)) := ⟨_, rfl⟩
        have P4 : Hid (Pg wr y3 p off 18 u m [.int .i64 (kq : Int), .int .i64 (k0 : Int), .bool (k1 % 3 == 0), .int .i64 (k2 : Int), .int .i64 a4, v5, .int .i64 a6, .int .i64 a7, v8, v9, v10, .bool a11, .bool a12, .int .i64 a13, v14, v15, v16, .int .i64 a17] (· ∈ ([] : List Nat))) := by
          have := P3.out.store 3 (.int .i64 (k2 : Int)) (by omega) hom
          rw [hz3, ← HO.out]; exact this
        have hfz := P3.out.own.frozen
        have hbz := P3.out.own.lt
        obtain ⟨ux, eu⟩ := P3.out.own.cell (o + q * 18 + 3) (by have := HO.out; omega)
        go_upto_region 11 with fail
        rw [← hz3]
        clear hz3 hfz hbz eu
        obtain ⟨k3, hk3⟩ : ∃ k3 : Nat, k3 = k2 + 1 := ⟨_, rfl⟩
        have hkc3 : (k2 : Int) + 1 = (k3 : Int) := by omega
        have HK3 := uh hk3
        have kb3 : 1 ≤ k3 ∧ k3 ≤ 4000000000000000000 := by have := HCN.out; have := HK0.out; have := HK1.out; have := HK2.out; have := HK3.out; omega
        obtain ⟨kl3, ku3⟩ := kb3
        clear hk3
        go_upto_region 12 with fail
        clear hkc3
        obtain ⟨y4, hz4⟩ : ∃ y, y = y3.setCell ⟨p, o + q * 18 + 4, none⟩ (.int .i64 (k3 : Int)) := ⟨_, rfl⟩
        have P5 : Hid (Pg wr y4 p off 18 u m [.int .i64 (kq : Int), .int .i64 (k0 : Int), .bool (k1 % 3 == 0), .int .i64 (k2 : Int), .int .i64 (k3 : Int), v5, .int .i64 a6, .int .i64 a7, v8, v9, v10, .bool a11, .bool a12, .int .i64 a13, v14, v15, v16, .int .i64 a17] (· ∈ ([] : List Nat))) := by
          have := P4.out.store 4 (.int .i64 (k3 : Int)) (by omega) hom
          rw [hz4, ← HO.out]; exact this
        have hfz := P4.out.own.frozen
        have hbz := P4.out.own.lt
        obtain ⟨ux, eu⟩ := P4.out.own.cell (o + q * 18 + 4) (by have := HO.out; omega)
        go_upto_region 13 with fail
        rw [← hz4]
        clear hz4 hfz hbz eu
        obtain ⟨k4, hk4⟩ : ∃ k4 : Nat, k4 = k3 + 1 := ⟨_, rfl⟩
        have hkc4 : (k3 : Int) + 1 = (k4 : Int) := by omega
        have HK4 := uh hk4
        have kb4 : 1 ≤ k4 ∧ k4 ≤ 4000000000000000000 := by have := HCN.out; have := HK0.out; have := HK1.out; have := HK2.out; have := HK3.out; have := HK4.out; omega
        obtain ⟨kl4, ku4⟩ := kb4
        clear hk4
        go_upto_region 14 with fail
        clear hkc4
        have hbz := P5.out.own.lt
        have K5 : Hid (Rep y4 false [.row 139 shRecSlot] F5 [.row n5 e5] [v5]) := by
          refine R5.out.keep P5.out.mks ?_
          rintro b hb (rfl | e)
          · exact HPG.out (by simp [hb])
          · cases e
        obtain ⟨va5, vc5, hva⟩ := K5.out.raw.len0
        subst hva
        have gc := rA_get P5.out.at_ 5 _ rfl
        rw [HO.out] at gc
        obtain ⟨k5, hk5⟩ : ∃ k5 : Nat, k5 = k4 + cntL e5 := ⟨_, rfl⟩
        have HK5 := uh hk5
        have kb5 : 1 ≤ k5 ∧ k5 ≤ 4000000000000000000 := by have := HCN.out; have := HK0.out; have := HK1.out; have := HK2.out; have := HK3.out; have := HK4.out; have := HK5.out; omega
        obtain ⟨kl5, ku5⟩ := kb5
        clear hk5
        go_wp2_with fail
        refine (markRecSlotS F5 n5 e5 (.slice va5 n5 vc5) k4 y4 K5.out ND5.out (by omega) (by have := HK5.out; omega)).mono ?_
        rintro e x5 ⟨he, hb5, rr5⟩
        rw [← HK5.out] at he
        subst he
        have P6 := uh (P5.out.grow hb5 (fun e => HPG.out (by simp [e])))
        have D5 := uh rr5
        clear gc hbz rr5 hb5 K5
        obtain ⟨y6, hz6⟩ : ∃ y, y = x5.setCell ⟨p, o + q * 18 + 6, none⟩ (.int .i64 (k5 : Int)) := ⟨_, rfl⟩
        have P7 : Hid (Pg wr y6 p off 18 u m [.int .i64 (kq : Int), .int .i64 (k0 : Int), .bool (k1 % 3 == 0), .int .i64 (k2 : Int), .int .i64 (k3 : Int), .slice va5 n5 vc5, .int .i64 (k5 : Int), .int .i64 a7, v8, v9, v10, .bool a11, .bool a12, .int .i64 a13, v14, v15, v16, .int .i64 a17] (· ∈ (([] : List Nat) ++ F5))) := by
          have := P6.out.store 6 (.int .i64 (k5 : Int)) (by omega) hom
          rw [hz6, ← HO.out]; exact this
        replace D5 := uh (D5.out.keep (w' := y6) (S := fun b => b = p) (by rw [hz6]; exact Marks.sc (S := fun b => b = p) _ rfl _ _) (by rintro b hb rfl; exact HPG.out (by simp [hb])))
        have hfz := P6.out.own.frozen
        have hbz := P6.out.own.lt
        obtain ⟨ux, eu⟩ := P6.out.own.cell (o + q * 18 + 6) (by have := HO.out; omega)
        go_upto_region 16 with fail
        rw [← hz6]
        clear hz6 hfz hbz eu
        obtain ⟨k6, hk6⟩ : ∃ k6 : Nat, k6 = k5 + 1 := ⟨_, rfl⟩
        have hkc6 : (k5 : Int) + 1 = (k6 : Int) := by omega
        have HK6 := uh hk6
        have kb6 : 1 ≤ k6 ∧ k6 ≤ 4000000000000000000 := by have := HCN.out; have := HK0.out; have := HK1.out; have := HK2.out; have := HK3.out; have := HK4.out; have := HK5.out; have := HK6.out; omega
        obtain ⟨kl6, ku6⟩ := kb6
        clear hk6
        go_upto_region 17 with fail
        clear hkc6
        obtain ⟨y7, hz7⟩ : ∃ y, y = y6.setCell ⟨p, o + q * 18 + 7, none⟩ (.int .i64 (k6 : Int)) := ⟨_, rfl⟩
        have P8 : Hid (Pg wr y7 p off 18 u m [.int .i64 (kq : Int), .int .i64 (k0 : Int), .bool (k1 % 3 == 0), .int .i64 (k2 : Int), .int .i64 (k3 : Int), .slice va5 n5 vc5, .int .i64 (k5 : Int), .int .i64 (k6 : Int), v8, v9, v10, .bool a11, .bool a12, .int .i64 a13, v14, v15, v16, .int .i64 a17] (· ∈ (([] : List Nat) ++ F5))) := by
          have := P7.out.store 7 (.int .i64 (k6 : Int)) (by omega) hom
          rw [hz7, ← HO.out]; exact this
        replace D5 := uh (D5.out.keep (w' := y7) (S := fun b => b = p) (by rw [hz7]; exact Marks.sc (S := fun b => b = p) _ rfl _ _) (by rintro b hb rfl; exact HPG.out (by simp [hb])))
        have hfz := P7.out.own.frozen
        have hbz := P7.out.own.lt
        obtain ⟨ux, eu⟩ := P7.out.own.cell (o + q * 18 + 7) (by have := HO.out; omega)
        go_upto_region 18 with fail
        rw [← hz7]
        clear hz7 hfz hbz eu
        obtain ⟨k7, hk7⟩ : ∃ k7 : Nat, k7 = k6 + 1 := ⟨_, rfl⟩
        have hkc7 : (k6 : Int) + 1 = (k7 : Int) := by omega
        have HK7 := uh hk7
        have kb7 : 1 ≤ k7 ∧ k7 ≤ 4000000000000000000 := by have := HCN.out; have := HK0.out; have := HK1.out; have := HK2.out; have := HK3.out; have := HK4.out; have := HK5.out; have := HK6.out; have := HK7.out; omega
        obtain ⟨kl7, ku7⟩ := kb7
        clear hk7
        go_upto_region 19 with fail
        clear hkc7
        have hbz := P8.out.own.lt
        have K8 : Hid (Rep y7 false [.row 139 shRecSlot] F8 [.row n8 e8] [v8]) := by
          refine R8.out.keep P8.out.mks ?_
          rintro b hb (rfl | e)
          · exact HPG.out (by simp [hb])
          · simp only [List.mem_append, List.not_mem_nil, false_or] at e
            skip
            exact DJ5.out b e (by simp [hb])
        obtain ⟨va8, vc8, hva⟩ := K8.out.raw.len0
        subst hva
        have gc := rA_get P8.out.at_ 8 _ rfl
        rw [HO.out] at gc
        obtain ⟨k8, hk8⟩ : ∃ k8 : Nat, k8 = k7 + cntL e8 := ⟨_, rfl⟩
        have HK8 := uh hk8
        have kb8 : 1 ≤ k8 ∧ k8 ≤ 4000000000000000000 := by have := HCN.out; have := HK0.out; have := HK1.out; have := HK2.out; have := HK3.out; have := HK4.out; have := HK5.out; have := HK6.out; have := HK7.out; have := HK8.out; omega
        obtain ⟨kl8, ku8⟩ := kb8
        clear hk8
        go_wp2_with fail
        refine (markRecSlotS F8 n8 e8 (.slice va8 n8 vc8) k7 y7 K8.out ND8.out (by omega) (by have := HK8.out; omega)).mono ?_
        rintro e x8 ⟨he, hb8, rr8⟩
        rw [← HK8.out] at he
        subst he
        have P9 := uh (P8.out.grow hb8 (fun e => HPG.out (by simp [e])))
        replace D5 := uh (D5.out.keep hb8 (fun b hb e => DJ5.out b hb (by simp [e])))
        have D8 := uh rr8
        clear gc hbz rr8 hb8 K8
        have hbz := P9.out.own.lt
        have K9 : Hid (Rep x8 false [.row 120 shRecMessage] F9 [.row n9 e9] [v9]) := by
          refine R9.out.keep P9.out.mks ?_
          rintro b hb (rfl | e)
          · exact HPG.out (by simp [hb])
          · simp only [List.mem_append, List.not_mem_nil, false_or] at e
            rcases e with e | e
            · exact DJ5.out b e (by simp [hb])
            · exact DJ8.out b e (by simp [hb])
        obtain ⟨va9, vc9, hva⟩ := K9.out.raw.len0
        subst hva
        have gc := rA_get P9.out.at_ 9 _ rfl
        rw [HO.out] at gc
        obtain ⟨k9, hk9⟩ : ∃ k9 : Nat, k9 = k8 + cntL e9 := ⟨_, rfl⟩
        have HK9 := uh hk9
        have kb9 : 1 ≤ k9 ∧ k9 ≤ 4000000000000000000 := by have := HCN.out; have := HK0.out; have := HK1.out; have := HK2.out; have := HK3.out; have := HK4.out; have := HK5.out; have := HK6.out; have := HK7.out; have := HK8.out; have := HK9.out; omega
        obtain ⟨kl9, ku9⟩ := kb9
        clear hk9
        go_wp2_with fail
        refine (markRecMessageS F9 n9 e9 (.slice va9 n9 vc9) k8 x8 K9.out ND9.out (by omega) (by have := HK9.out; omega)).mono ?_
        rintro e x9 ⟨he, hb9, rr9⟩
        rw [← HK9.out] at he
        subst he
        have P10 := uh (P9.out.grow hb9 (fun e => HPG.out (by simp [e])))
        replace D5 := uh (D5.out.keep hb9 (fun b hb e => DJ5.out b hb (by simp [e])))
        replace D8 := uh (D8.out.keep hb9 (fun b hb e => DJ8.out b hb (by simp [e])))
        have D9 := uh rr9
        clear gc hbz rr9 hb9 K9
        have hbz := P10.out.own.lt
        have K10 : Hid (Rep x9 false [.row 9 [.s]] F10 [.row n10 e10] [v10]) := by
          refine R10.out.keep P10.out.mks ?_
          rintro b hb (rfl | e)
          · exact HPG.out (by simp [hb])
          · simp only [List.mem_append, List.not_mem_nil, false_or, or_assoc] at e
            rcases e with e | e | e
            · exact DJ5.out b e (by simp [hb])
            · exact DJ8.out b e (by simp [hb])
            · exact DJ9.out b e (by simp [hb])
        obtain ⟨va10, vc10, hva⟩ := K10.out.raw.len0
        subst hva
        have gc := rA_get P10.out.at_ 10 _ rfl
        rw [HO.out] at gc
        obtain ⟨k10, hk10⟩ : ∃ k10 : Nat, k10 = k9 + cntL e10 := ⟨_, rfl⟩
        have HK10 := uh hk10
        have kb10 : 1 ≤ k10 ∧ k10 ≤ 4000000000000000000 := by have := HCN.out; have := HK0.out; have := HK1.out; have := HK2.out; have := HK3.out; have := HK4.out; have := HK5.out; have := HK6.out; have := HK7.out; have := HK8.out; have := HK9.out; have := HK10.out; omega
        obtain ⟨kl10, ku10⟩ := kb10
        clear hk10
        go_wp2_with fail
        refine (markStringS F10 n10 e10 (.slice va10 n10 vc10) k9 x9 K10.out ND10.out (by omega) (by have := HK10.out; omega)).mono ?_
        rintro e x10 ⟨he, hb10, rr10⟩
        rw [← HK10.out] at he
        subst he
        have P11 := uh (P10.out.grow hb10 (fun e => HPG.out (by simp [e])))
        replace D5 := uh (D5.out.keep hb10 (fun b hb e => DJ5.out b hb (by simp [e])))
        replace D8 := uh (D8.out.keep hb10 (fun b hb e => DJ8.out b hb (by simp [e])))
        replace D9 := uh (D9.out.keep hb10 (fun b hb e => DJ9.out b hb (by simp [e])))
        have D10 := uh rr10
        clear gc hbz rr10 hb10 K10
        have hrm := bmod k10
        obtain ⟨y11, hz11⟩ : ∃ y, y = x10.setCell ⟨p, o + q * 18 + 11, none⟩ (.bool (k10 % 3 == 0)) := ⟨_, rfl⟩
        have P12 : Hid (Pg wr y11 p off 18 u m [.int .i64 (kq : Int), .int .i64 (k0 : Int), .bool (k1 % 3 == 0), .int .i64 (k2 : Int), .int .i64 (k3 : Int), .slice va5 n5 vc5, .int .i64 (k5 : Int), .int .i64 (k6 : Int), .slice va8 n8 vc8, .slice va9 n9 vc9, .slice va10 n10 vc10, .bool (k10 % 3 == 0), .bool a12, .int .i64 a13, v14, v15, v16, .int .i64 a17] (· ∈ ((((([] : List Nat) ++ F5) ++ F8) ++ F9) ++ F10))) := by
          have := P11.out.store 11 (.bool (k10 % 3 == 0)) (by omega) hom
          rw [hz11, ← HO.out]; exact this
        replace D5 := uh (D5.out.keep (w' := y11) (S := fun b => b = p) (by rw [hz11]; exact Marks.sc (S := fun b => b = p) _ rfl _ _) (by rintro b hb rfl; exact HPG.out (by simp [hb])))
        replace D8 := uh (D8.out.keep (w' := y11) (S := fun b => b = p) (by rw [hz11]; exact Marks.sc (S := fun b => b = p) _ rfl _ _) (by rintro b hb rfl; exact HPG.out (by simp [hb])))
        replace D9 := uh (D9.out.keep (w' := y11) (S := fun b => b = p) (by rw [hz11]; exact Marks.sc (S := fun b => b = p) _ rfl _ _) (by rintro b hb rfl; exact HPG.out (by simp [hb])))
        replace D10 := uh (D10.out.keep (w' := y11) (S := fun b => b = p) (by rw [hz11]; exact Marks.sc (S := fun b => b = p) _ rfl _ _) (by rintro b hb rfl; exact HPG.out (by simp [hb])))
        have hfz := P11.out.own.frozen
        have hbz := P11.out.own.lt
        obtain ⟨ux, eu⟩ := P11.out.own.cell (o + q * 18 + 11) (by have := HO.out; omega)
        go_upto_region 23 with fail
        rw [← hz11]
        clear hz11 hfz hbz eu hrm
        obtain ⟨k11, hk11⟩ : ∃ k11 : Nat, k11 = k10 + 1 := ⟨_, rfl⟩
        have hkc11 : (k10 : Int) + 1 = (k11 : Int) := by omega
        have HK11 := uh hk11
        have kb11 : 1 ≤ k11 ∧ k11 ≤ 4000000000000000000 := by have := HCN.out; have := HK0.out; have := HK1.out; have := HK2.out; have := HK3.out; have := HK4.out; have := HK5.out; have := HK6.out; have := HK7.out; have := HK8.out; have := HK9.out; have := HK10.out; have := HK11.out; omega
        obtain ⟨kl11, ku11⟩ := kb11
        clear hk11
        go_upto_region 24 with fail
        clear hkc11
        have hrm := bmod k11
        obtain ⟨y12, hz12⟩ : ∃ y, y = y11.setCell ⟨p, o + q * 18 + 12, none⟩ (.bool (k11 % 3 == 0)) := ⟨_, rfl⟩
        have P13 : Hid (Pg wr y12 p off 18 u m [.int .i64 (kq : Int), .int .i64 (k0 : Int), .bool (k1 % 3 == 0), .int .i64 (k2 : Int), .int .i64 (k3 : Int), .slice va5 n5 vc5, .int .i64 (k5 : Int), .int .i64 (k6 : Int), .slice va8 n8 vc8, .slice va9 n9 vc9, .slice va10 n10 vc10, .bool (k10 % 3 == 0), .bool (k11 % 3 == 0), .int .i64 a13, v14, v15, v16, .int .i64 a17] (· ∈ ((((([] : List Nat) ++ F5) ++ F8) ++ F9) ++ F10))) := by
          have := P12.out.store 12 (.bool (k11 % 3 == 0)) (by omega) hom
          rw [hz12, ← HO.out]; exact this
        replace D5 := uh (D5.out.keep (w' := y12) (S := fun b => b = p) (by rw [hz12]; exact Marks.sc (S := fun b => b = p) _ rfl _ _) (by rintro b hb rfl; exact HPG.out (by simp [hb])))
        replace D8 := uh (D8.out.keep (w' := y12) (S := fun b => b = p) (by rw [hz12]; exact Marks.sc (S := fun b => b = p) _ rfl _ _) (by rintro b hb rfl; exact HPG.out (by simp [hb])))
        replace D9 := uh (D9.out.keep (w' := y12) (S := fun b => b = p) (by rw [hz12]; exact Marks.sc (S := fun b => b = p) _ rfl _ _) (by rintro b hb rfl; exact HPG.out (by simp [hb])))
        replace D10 := uh (D10.out.keep (w' := y12) (S := fun b => b = p) (by rw [hz12]; exact Marks.sc (S := fun b => b = p) _ rfl _ _) (by rintro b hb rfl; exact HPG.out (by simp [hb])))
        have hfz := P12.out.own.frozen
        have hbz := P12.out.own.lt
        obtain ⟨ux, eu⟩ := P12.out.own.cell (o + q * 18 + 12) (by have := HO.out; omega)
        go_upto_region 25 with fail
        rw [← hz12]
        clear hz12 hfz hbz eu hrm
        obtain ⟨k12, hk12⟩ : ∃ k12 : Nat, k12 = k11 + 1 := ⟨_, rfl⟩
        have hkc12 : (k11 : Int) + 1 = (k12 : Int) := by omega
        have HK12 := uh hk12
        have kb12 : 1 ≤ k12 ∧ k12 ≤ 4000000000000000000 := by have := HCN.out; have := HK0.out; have := HK1.out; have := HK2.out; have := HK3.out; have := HK4.out; have := HK5.out; have := HK6.out; have := HK7.out; have := HK8.out; have := HK9.out; have := HK10.out; have := HK11.out; have := HK12.out; omega
        obtain ⟨kl12, ku12⟩ := kb12
        clear hk12
        go_upto_region 26 with fail
        clear hkc12
        obtain ⟨y13, hz13⟩ : ∃ y, y = y12.setCell ⟨p, o + q * 18 + 13, none⟩ (.int .i64 (k12 : Int)) := ⟨_, rfl⟩
        have P14 : Hid (Pg wr y13 p off 18 u m [.int .i64 (kq : Int), .int .i64 (k0 : Int), .bool (k1 % 3 == 0), .int .i64 (k2 : Int), .int .i64 (k3 : Int), .slice va5 n5 vc5, .int .i64 (k5 : Int), .int .i64 (k6 : Int), .slice va8 n8 vc8, .slice va9 n9 vc9, .slice va10 n10 vc10, .bool (k10 % 3 == 0), .bool (k11 % 3 == 0), .int .i64 (k12 : Int), v14, v15, v16, .int .i64 a17] (· ∈ ((((([] : List Nat) ++ F5) ++ F8) ++ F9) ++ F10))) := by
          have := P13.out.store 13 (.int .i64 (k12 : Int)) (by omega) hom
          rw [hz13, ← HO.out]; exact this
        replace D5 := uh (D5.out.keep (w' := y13) (S := fun b => b = p) (by rw [hz13]; exact Marks.sc (S := fun b => b = p) _ rfl _ _) (by rintro b hb rfl; exact HPG.out (by simp [hb])))
        replace D8 := uh (D8.out.keep (w' := y13) (S := fun b => b = p) (by rw [hz13]; exact Marks.sc (S := fun b => b = p) _ rfl _ _) (by rintro b hb rfl; exact HPG.out (by simp [hb])))
        replace D9 := uh (D9.out.keep (w' := y13) (S := fun b => b = p) (by rw [hz13]; exact Marks.sc (S := fun b => b = p) _ rfl _ _) (by rintro b hb rfl; exact HPG.out (by simp [hb])))
        replace D10 := uh (D10.out.keep (w' := y13) (S := fun b => b = p) (by rw [hz13]; exact Marks.sc (S := fun b => b = p) _ rfl _ _) (by rintro b hb rfl; exact HPG.out (by simp [hb])))
        have hfz := P13.out.own.frozen
        have hbz := P13.out.own.lt
        obtain ⟨ux, eu⟩ := P13.out.own.cell (o + q * 18 + 13) (by have := HO.out; omega)
        go_upto_region 27 with fail
        rw [← hz13]
        clear hz13 hfz hbz eu
        obtain ⟨k13, hk13⟩ : ∃ k13 : Nat, k13 = k12 + 1 := ⟨_, rfl⟩
        have hkc13 : (k12 : Int) + 1 = (k13 : Int) := by omega
        have HK13 := uh hk13
        have kb13 : 1 ≤ k13 ∧ k13 ≤ 4000000000000000000 := by have := HCN.out; have := HK0.out; have := HK1.out; have := HK2.out; have := HK3.out; have := HK4.out; have := HK5.out; have := HK6.out; have := HK7.out; have := HK8.out; have := HK9.out; have := HK10.out; have := HK11.out; have := HK12.out; have := HK13.out; omega
        obtain ⟨kl13, ku13⟩ := kb13
        clear hk13
        go_upto_region 28 with fail
        clear hkc13
        have hbz := P14.out.own.lt
        have K14 : Hid (Rep y13 false [.row 3 [.i]] F14 [.row n14 e14] [v14]) := by
          refine R14.out.keep P14.out.mks ?_
          rintro b hb (rfl | e)
          · exact HPG.out (by simp [hb])
          · simp only [List.mem_append, List.not_mem_nil, false_or, or_assoc] at e
            rcases e with e | e | e | e
            · exact DJ5.out b e (by simp [hb])
            · exact DJ8.out b e (by simp [hb])
            · exact DJ9.out b e (by simp [hb])
            · exact DJ10.out b e (by simp [hb])
        obtain ⟨va14, vc14, hva⟩ := K14.out.raw.len0
        subst hva
        have gc := rA_get P14.out.at_ 14 _ rfl
        rw [HO.out] at gc
        obtain ⟨k14, hk14⟩ : ∃ k14 : Nat, k14 = k13 + cntL e14 := ⟨_, rfl⟩
        have HK14 := uh hk14
        have kb14 : 1 ≤ k14 ∧ k14 ≤ 4000000000000000000 := by have := HCN.out; have := HK0.out; have := HK1.out; have := HK2.out; have := HK3.out; have := HK4.out; have := HK5.out; have := HK6.out; have := HK7.out; have := HK8.out; have := HK9.out; have := HK10.out; have := HK11.out; have := HK12.out; have := HK13.out; have := HK14.out; omega
        obtain ⟨kl14, ku14⟩ := kb14
        clear hk14
        go_wp2_with fail
        refine (markIntS F14 n14 e14 (.slice va14 n14 vc14) k13 y13 K14.out ND14.out (by omega) (by have := HK14.out; omega)).mono ?_
        rintro e x14 ⟨he, hb14, rr14⟩
        rw [← HK14.out] at he
        subst he
        have P15 := uh (P14.out.grow hb14 (fun e => HPG.out (by simp [e])))
        replace D5 := uh (D5.out.keep hb14 (fun b hb e => DJ5.out b hb (by simp [e])))
        replace D8 := uh (D8.out.keep hb14 (fun b hb e => DJ8.out b hb (by simp [e])))
        replace D9 := uh (D9.out.keep hb14 (fun b hb e => DJ9.out b hb (by simp [e])))
        replace D10 := uh (D10.out.keep hb14 (fun b hb e => DJ10.out b hb (by simp [e])))
        have D14 := uh rr14
        clear gc hbz rr14 hb14 K14
        have hbz := P15.out.own.lt
        have K15 : Hid (Rep x14 false [.row 139 shRecSlot] F15 [.row n15 e15] [v15]) := by
          refine R15.out.keep P15.out.mks ?_
          rintro b hb (rfl | e)
          · exact HPG.out (by simp [hb])
          · simp only [List.mem_append, List.not_mem_nil, false_or, or_assoc] at e
            rcases e with e | e | e | e | e
            · exact DJ5.out b e (by simp [hb])
            · exact DJ8.out b e (by simp [hb])
            · exact DJ9.out b e (by simp [hb])
            · exact DJ10.out b e (by simp [hb])
            · exact DJ14.out b e (by simp [hb])
        obtain ⟨va15, vc15, hva⟩ := K15.out.raw.len0
        subst hva
        have gc := rA_get P15.out.at_ 15 _ rfl
        rw [HO.out] at gc
        obtain ⟨k15, hk15⟩ : ∃ k15 : Nat, k15 = k14 + cntL e15 := ⟨_, rfl⟩
        have HK15 := uh hk15
        have kb15 : 1 ≤ k15 ∧ k15 ≤ 4000000000000000000 := by have := HCN.out; have := HK0.out; have := HK1.out; have := HK2.out; have := HK3.out; have := HK4.out; have := HK5.out; have := HK6.out; have := HK7.out; have := HK8.out; have := HK9.out; have := HK10.out; have := HK11.out; have := HK12.out; have := HK13.out; have := HK14.out; have := HK15.out; omega
        obtain ⟨kl15, ku15⟩ := kb15
        clear hk15
        go_wp2_with fail
        refine (markRecSlotS F15 n15 e15 (.slice va15 n15 vc15) k14 x14 K15.out ND15.out (by omega) (by have := HK15.out; omega)).mono ?_
        rintro e x15 ⟨he, hb15, rr15⟩
        rw [← HK15.out] at he
        subst he
        have P16 := uh (P15.out.grow hb15 (fun e => HPG.out (by simp [e])))
        replace D5 := uh (D5.out.keep hb15 (fun b hb e => DJ5.out b hb (by simp [e])))
        replace D8 := uh (D8.out.keep hb15 (fun b hb e => DJ8.out b hb (by simp [e])))
        replace D9 := uh (D9.out.keep hb15 (fun b hb e => DJ9.out b hb (by simp [e])))
        replace D10 := uh (D10.out.keep hb15 (fun b hb e => DJ10.out b hb (by simp [e])))
        replace D14 := uh (D14.out.keep hb15 (fun b hb e => DJ14.out b hb (by simp [e])))
        have D15 := uh rr15
        clear gc hbz rr15 hb15 K15
        have hbz := P16.out.own.lt
        have K16 : Hid (Rep x15 false [.row 141 shRecAck] F16 [.row n16 e16] [v16]) := by
          refine R16.out.keep P16.out.mks ?_
          rintro b hb (rfl | e)
          · exact HPG.out (by simp [hb])
          · simp only [List.mem_append, List.not_mem_nil, false_or, or_assoc] at e
            rcases e with e | e | e | e | e | e
            · exact DJ5.out b e (by simp [hb])
            · exact DJ8.out b e (by simp [hb])
            · exact DJ9.out b e (by simp [hb])
            · exact DJ10.out b e (by simp [hb])
            · exact DJ14.out b e (by simp [hb])
            · exact DJ15.out b e (by simp [hb])
        obtain ⟨va16, vc16, hva⟩ := K16.out.raw.len0
        subst hva
        have gc := rA_get P16.out.at_ 16 _ rfl
        rw [HO.out] at gc
        obtain ⟨k16, hk16⟩ : ∃ k16 : Nat, k16 = k15 + cntL e16 := ⟨_, rfl⟩
        have HK16 := uh hk16
        have kb16 : 1 ≤ k16 ∧ k16 ≤ 4000000000000000000 := by have := HCN.out; have := HK0.out; have := HK1.out; have := HK2.out; have := HK3.out; have := HK4.out; have := HK5.out; have := HK6.out; have := HK7.out; have := HK8.out; have := HK9.out; have := HK10.out; have := HK11.out; have := HK12.out; have := HK13.out; have := HK14.out; have := HK15.out; have := HK16.out; omega
        obtain ⟨kl16, ku16⟩ := kb16
        clear hk16
        go_wp2_with fail
        refine (markRecAckS F16 n16 e16 (.slice va16 n16 vc16) k15 x15 K16.out ND16.out (by omega) (by have := HK16.out; omega)).mono ?_
        rintro e x16 ⟨he, hb16, rr16⟩
        rw [← HK16.out] at he
        subst he
        have P17 := uh (P16.out.grow hb16 (fun e => HPG.out (by simp [e])))
        replace D5 := uh (D5.out.keep hb16 (fun b hb e => DJ5.out b hb (by simp [e])))
        replace D8 := uh (D8.out.keep hb16 (fun b hb e => DJ8.out b hb (by simp [e])))
        replace D9 := uh (D9.out.keep hb16 (fun b hb e => DJ9.out b hb (by simp [e])))
        replace D10 := uh (D10.out.keep hb16 (fun b hb e => DJ10.out b hb (by simp [e])))
        replace D14 := uh (D14.out.keep hb16 (fun b hb e => DJ14.out b hb (by simp [e])))
        replace D15 := uh (D15.out.keep hb16 (fun b hb e => DJ15.out b hb (by simp [e])))
        have D16 := uh rr16
        clear gc hbz rr16 hb16 K16
        obtain ⟨y17, hz17⟩ : ∃ y, y = x16.setCell ⟨p, o + q * 18 + 17, none⟩ (.int .i64 (k16 : Int)) := ⟨_, rfl⟩
        have P18 : Hid (Pg wr y17 p off 18 u m [.int .i64 (kq : Int), .int .i64 (k0 : Int), .bool (k1 % 3 == 0), .int .i64 (k2 : Int), .int .i64 (k3 : Int), .slice va5 n5 vc5, .int .i64 (k5 : Int), .int .i64 (k6 : Int), .slice va8 n8 vc8, .slice va9 n9 vc9, .slice va10 n10 vc10, .bool (k10 % 3 == 0), .bool (k11 % 3 == 0), .int .i64 (k12 : Int), .slice va14 n14 vc14, .slice va15 n15 vc15, .slice va16 n16 vc16, .int .i64 (k16 : Int)] (· ∈ (((((((([] : List Nat) ++ F5) ++ F8) ++ F9) ++ F10) ++ F14) ++ F15) ++ F16))) := by
          have := P17.out.store 17 (.int .i64 (k16 : Int)) (by omega) hom
          rw [hz17, ← HO.out]; exact this
        replace D5 := uh (D5.out.keep (w' := y17) (S := fun b => b = p) (by rw [hz17]; exact Marks.sc (S := fun b => b = p) _ rfl _ _) (by rintro b hb rfl; exact HPG.out (by simp [hb])))
        replace D8 := uh (D8.out.keep (w' := y17) (S := fun b => b = p) (by rw [hz17]; exact Marks.sc (S := fun b => b = p) _ rfl _ _) (by rintro b hb rfl; exact HPG.out (by simp [hb])))
        replace D9 := uh (D9.out.keep (w' := y17) (S := fun b => b = p) (by rw [hz17]; exact Marks.sc (S := fun b => b = p) _ rfl _ _) (by rintro b hb rfl; exact HPG.out (by simp [hb])))
        replace D10 := uh (D10.out.keep (w' := y17) (S := fun b => b = p) (by rw [hz17]; exact Marks.sc (S := fun b => b = p) _ rfl _ _) (by rintro b hb rfl; exact HPG.out (by simp [hb])))
        replace D14 := uh (D14.out.keep (w' := y17) (S := fun b => b = p) (by rw [hz17]; exact Marks.sc (S := fun b => b = p) _ rfl _ _) (by rintro b hb rfl; exact HPG.out (by simp [hb])))
        replace D15 := uh (D15.out.keep (w' := y17) (S := fun b => b = p) (by rw [hz17]; exact Marks.sc (S := fun b => b = p) _ rfl _ _) (by rintro b hb rfl; exact HPG.out (by simp [hb])))
        replace D16 := uh (D16.out.keep (w' := y17) (S := fun b => b = p) (by rw [hz17]; exact Marks.sc (S := fun b => b = p) _ rfl _ _) (by rintro b hb rfl; exact HPG.out (by simp [hb])))
        have hfz := P17.out.own.frozen
        have hbz := P17.out.own.lt
        obtain ⟨ux, eu⟩ := P17.out.own.cell (o + q * 18 + 17) (by have := HO.out; omega)
        go_upto_region 32 with fail
        rw [← hz17]
        clear hz17 hfz hbz eu
        obtain ⟨k17, hk17⟩ : ∃ k17 : Nat, k17 = k16 + 1 := ⟨_, rfl⟩
        have hkc17 : (k16 : Int) + 1 = (k17 : Int) := by omega
        have HK17 := uh hk17
        have kb17 : 1 ≤ k17 ∧ k17 ≤ 4000000000000000000 := by have := HCN.out; have := HK0.out; have := HK1.out; have := HK2.out; have := HK3.out; have := HK4.out; have := HK5.out; have := HK6.out; have := HK7.out; have := HK8.out; have := HK9.out; have := HK10.out; have := HK11.out; have := HK12.out; have := HK13.out; have := HK14.out; have := HK15.out; have := HK16.out; have := HK17.out; omega
        obtain ⟨kl17, ku17⟩ := kb17
        clear hk17
        have HF : Hid (Marks (· ∈ p :: G) w y17 ∧ Row y17 shRecorder p o n u m G (mkL k (es.take ((q + 1) * 18)) ++ es.drop ((q + 1) * 18)) ∧ k17 = k + cntL (es.take ((q + 1) * 18))) := by
          have hmk : mkL kq [.i a0, .i a1, .b a2, .i a3, .i a4, .row n5 e5, .i a6, .i a7, .row n8 e8, .row n9 e9, .row n10 e10, .b a11, .b a12, .i a13, .row n14 e14, .row n15 e15, .row n16 e16, .i a17] = [.i (kq : Int), .i (k0 : Int), .b (k1 % 3 == 0), .i (k2 : Int), .i (k3 : Int), .row n5 (mkL k4 e5), .i (k5 : Int), .i (k6 : Int), .row n8 (mkL k7 e8), .row n9 (mkL k8 e9), .row n10 (mkL k9 e10), .b (k10 % 3 == 0), .b (k11 % 3 == 0), .i (k12 : Int), .row n14 (mkL k13 e14), .row n15 (mkL k14 e15), .row n16 (mkL k15 e16), .i (k16 : Int)] := by simp only [mkL, HK0.out, HK1.out, HK2.out, HK3.out, HK4.out, HK5.out, HK6.out, HK7.out, HK8.out, HK9.out, HK10.out, HK11.out, HK12.out, HK13.out, HK14.out, HK15.out, HK16.out]
          have hs : ∀ b, b ∈ (((((((([] : List Nat) ++ F5) ++ F8) ++ F9) ++ F10) ++ F14) ++ F15) ++ F16) → b ∈ (F5 ++ (F8 ++ (F9 ++ (F10 ++ (F14 ++ (F15 ++ (F16 ++ [])))))) : List Nat) := by intro b hb; simpa [or_assoc] using hb
          refine ⟨HM.out.trans (P18.out.mks.mono ?_), ?_, ?_⟩
          · rintro b (rfl | e)
            · simp
            · exact List.mem_cons_of_mem _ (HSU.out b (hs b e))
          · have := HC.out y17 _ _ (by have := P18.out.mono hs; rw [HO.out] at this; exact this) (repRecorder_mk _ _ _ _ _ D5.out _ _ D8.out D9.out D10.out _ _ _ D14.out D15.out D16.out _)
            rw [← HH.out, hmk]; exact this
          · have := HNX.out; simp only [cntL] at this; have := HK0.out; have := HK1.out; have := HK2.out; have := HK3.out; have := HK4.out; have := HK5.out; have := HK6.out; have := HK7.out; have := HK8.out; have := HK9.out; have := HK10.out; have := HK11.out; have := HK12.out; have := HK13.out; have := HK14.out; have := HK15.out; have := HK16.out; have := HK17.out; omega
        clear HC HH HM
        go_wp2
        go_roundw
        case rel => exact ⟨q + 1, by omega, by go_num, by rw [← HF.out.2.2], HF.out.1, HF.out.2.1⟩
        case measure => simp [intOf]; omega
      · obtain rfl : q = n := by omega
        have el_ : es.length = q * 18 := HT.out.rows
        rw [← el_, List.take_length, List.drop_length, List.append_nil] at HW
        rw [← el_, List.take_length]
        go_wp2
        go_ret
        exact ⟨rfl, HM.out, Rep.of_row HW.out HNC.out⟩
set_option maxRecDepth 8000 in
set_option maxHeartbeats 8000000 in
theorem markRecWorld (F : List Nat) (ds : List Dt) (cs : List Value) (k : Nat) (w : World) (h : Rep w false shRecWorld F ds cs) (hnd : F.Nodup) (h1 : 1 ≤ k) (hk : k + cntT ds ≤ 4000000000000000000) :
    Calls Tryz.prog 30 #[.agg cs.toArray, .int .i64 (k : Int)] w fun e w' => e = .returned (.int .i64 ((k + cntT ds : Nat) : Int)) ∧ Marks (· ∈ F) w w' ∧ Rep w' false shRecWorld F (mkT k ds) cs := by
  obtain ⟨F0, n0, e0, v0, F1, n1, e1, v1, F2, n2, e2, v2, rfl, rfl, hcs, r0, r1, r2⟩ := segRepRecWorld h
  have HCS := uh hcs
  simp only [cntT] at hk ⊢
  obtain ⟨nd0, ndr0, dj0⟩ := nd_app hnd
  have ND0 := uh nd0
  have DJ0 := uh dj0
  have LT0 := uh r0.lt
  obtain ⟨nd1, ndr1, dj1⟩ := nd_app ndr0
  have ND1 := uh nd1
  have DJ1 := uh dj1
  have LT1 := uh r1.lt
  obtain ⟨nd2, ndr2, dj2⟩ := nd_app ndr1
  have ND2 := uh nd2
  have DJ2 := uh dj2
  have LT2 := uh r2.lt
  clear hnd nd0 ndr0 dj0 nd1 ndr1 dj1 nd2 ndr2 dj2
  obtain ⟨wa, hwa⟩ : ∃ wa, wa = w.alloc (.cells cs.toArray 35) := ⟨_, rfl⟩
  have HB : Hid (Below w.heap.size w wa) := by show Below _ _ _; rw [hwa]; exact blw_alloc (Below.refl _ _) _
  have HX : Hid (LBox wa w.heap.size cs) := by show LBox _ _ _; rw [hwa]; exact LBox.new w cs.toArray _ _ rfl
  have R0 := uh (r0.later HB.out)
  have R1 := uh (r1.later HB.out)
  have R2 := uh (r2.later HB.out)
  have HM := uh (Marks.of_below (· ∈ ([] : List Nat)) HB.out)
  have HKK := uh hk
  clear hcs hk h r0 r1 r2
  go_enter Tryz.func30, Tryz.ntmps30
  go_upto_region 1 with fail
  rw [← hwa]
  clear hwa
  have hbz := HX.out.lt
  have hbx := boxRecWorld  (by have := HX.out.at_; rw [HCS.out] at this; exact this)
  have gc := hbx.1
  clear hbx
  obtain ⟨k0, hk0⟩ : ∃ k0 : Nat, k0 = k + cntL e0 := ⟨_, rfl⟩
  have HK0 := uh hk0
  have kb0 : 1 ≤ k0 ∧ k0 ≤ 4000000000000000000 := by have := HKK.out; have := HK0.out; omega
  obtain ⟨kl0, ku0⟩ := kb0
  clear hk0
  obtain ⟨va0, vc0, hva⟩ := R0.out.raw.len0
  subst hva
  go_wp2_with fail
  refine (markRecorderS F0 n0 e0 (.slice va0 n0 vc0) k wa R0.out ND0.out (by omega) (by have := HK0.out; omega)).mono ?_
  rintro e x0 ⟨he, hb0, rr0⟩
  rw [← HK0.out] at he
  subst he
  replace HX := uh (HX.out.mks hb0 (fun e => Nat.lt_irrefl _ (LT0.out _ e)))
  replace HM := uh ((HM.out.mono (fun b (e : b ∈ ([] : List Nat)) => List.mem_append_left F0 e)).trans (hb0.mono (fun b (e : b ∈ F0) => List.mem_append_right ([] : List Nat) e)))
  replace R1 := uh (R1.out.keep hb0 (fun b hb e => DJ0.out b e (by simp [hb])))
  replace R2 := uh (R2.out.keep hb0 (fun b hb e => DJ0.out b e (by simp [hb])))
  replace R0 := uh rr0
  clear gc hbz hb0 rr0
  have hbz := HX.out.lt
  have hbx := boxRecWorld  (by have := HX.out.at_; rw [HCS.out] at this; exact this)
  have gc := hbx.2.1
  clear hbx
  obtain ⟨k1, hk1⟩ : ∃ k1 : Nat, k1 = k0 + cntL e1 := ⟨_, rfl⟩
  have HK1 := uh hk1
  have kb1 : 1 ≤ k1 ∧ k1 ≤ 4000000000000000000 := by have := HKK.out; have := HK0.out; have := HK1.out; omega
  obtain ⟨kl1, ku1⟩ := kb1
  clear hk1
  obtain ⟨va1, vc1, hva⟩ := R1.out.raw.len0
  subst hva
  go_wp2_with fail
  refine (markRecMessageS F1 n1 e1 (.slice va1 n1 vc1) k0 x0 R1.out ND1.out (by omega) (by have := HK1.out; omega)).mono ?_
  rintro e x1 ⟨he, hb1, rr1⟩
  rw [← HK1.out] at he
  subst he
  replace HX := uh (HX.out.mks hb1 (fun e => Nat.lt_irrefl _ (LT1.out _ e)))
  replace HM := uh ((HM.out.mono (fun b (e : b ∈ (([] : List Nat) ++ F0)) => List.mem_append_left F1 e)).trans (hb1.mono (fun b (e : b ∈ F1) => List.mem_append_right (([] : List Nat) ++ F0) e)))
  replace R0 := uh (R0.out.keep hb1 (fun b hb e => DJ0.out b hb (by simp [e])))
  replace R2 := uh (R2.out.keep hb1 (fun b hb e => DJ1.out b e (by simp [hb])))
  replace R1 := uh rr1
  clear gc hbz hb1 rr1
  have hbz := HX.out.lt
  have hbx := boxRecWorld  (by have := HX.out.at_; rw [HCS.out] at this; exact this)
  have gc := hbx.2.2
  clear hbx
  obtain ⟨k2, hk2⟩ : ∃ k2 : Nat, k2 = k1 + cntL e2 := ⟨_, rfl⟩
  have HK2 := uh hk2
  have kb2 : 1 ≤ k2 ∧ k2 ≤ 4000000000000000000 := by have := HKK.out; have := HK0.out; have := HK1.out; have := HK2.out; omega
  obtain ⟨kl2, ku2⟩ := kb2
  clear hk2
  obtain ⟨va2, vc2, hva⟩ := R2.out.raw.len0
  subst hva
  go_wp2_with fail
  refine (markRecFixS F2 n2 e2 (.slice va2 n2 vc2) k1 x1 R2.out ND2.out (by omega) (by have := HK2.out; omega)).mono ?_
  rintro e x2 ⟨he, hb2, rr2⟩
  rw [← HK2.out] at he
  subst he
  replace HX := uh (HX.out.mks hb2 (fun e => Nat.lt_irrefl _ (LT2.out _ e)))
  replace HM := uh ((HM.out.mono (fun b (e : b ∈ ((([] : List Nat) ++ F0) ++ F1)) => List.mem_append_left F2 e)).trans (hb2.mono (fun b (e : b ∈ F2) => List.mem_append_right ((([] : List Nat) ++ F0) ++ F1) e)))
  replace R0 := uh (R0.out.keep hb2 (fun b hb e => DJ0.out b hb (by simp [e])))
  replace R1 := uh (R1.out.keep hb2 (fun b hb e => DJ1.out b hb (by simp [e])))
  replace R2 := uh rr2
  clear gc hbz hb2 rr2
  go_wp2
  go_ret
  refine ⟨Pl.ret_int (by have := HKK.out; have := HK0.out; have := HK1.out; have := HK2.out; omega), HM.out.mono (fun b (e : b ∈ (((([] : List Nat) ++ F0) ++ F1) ++ F2)) => by simpa [or_assoc] using e), ?_⟩
  have := segRepRecWorld_mk R0.out R1.out R2.out
  rw [← HCS.out] at this
  simp only [mkT]
  simpa only [HK0.out, HK1.out, HK2.out, Nat.add_zero] using this
end Go.Proofs.YtfkkohfjkofgnaaGreat
