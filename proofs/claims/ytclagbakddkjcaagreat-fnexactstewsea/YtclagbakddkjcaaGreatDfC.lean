/-
  slices.IndexFunc, slices.DeleteFunc of copies, by the library's own text.
-/
import Derived.Test.YtclagbakddkjcaaGreatDfA
namespace Go.Proofs.YtclagbakddkjcaaGreat
open Go.RowKit Go.Deep

set_option maxRecDepth 8000 in
set_option maxHeartbeats 8000000 in
theorem idxFnC (N : FuncId) (fr : Array Value) (hN : ∀ args W, (callFunc N args).run Tryz.prog W = .ok (.enter N args) W) (d : Cp → Bool) (l : List Cp) (a : Option Addr) (c : Nat) (w : World) (hC : CpsV w a l) (hl : l.length ≤ 1048576)
    (hF : ∀ x W, Below w.heap.size w W → Calls Tryz.prog N (#[.agg #[.string x.svc, .int .i64 x.num, .int .i64 x.ver, .int .i64 x.image, .int .i64 x.state, .bool x.ending, .string x.berth]] ++ fr) W fun e w' => e = .returned (.bool (d x)) ∧ Below W.heap.size W w') :
    Calls Tryz.prog 97 #[.slice a l.length c, .func (.func N) #[] fr] w fun e w' => e = .returned (.int .i64 (firstTo (fun i => d (l.getD i Cp.none)) l.length)) ∧ Below w.heap.size w w' := by
  have HL := hid hC
  have HF := hid hF
  clear hC hF
  go_enter Tryz.func97, Tryz.ntmps97
  go_wp2
  go_loopw [8] (fun i wr => ∃ k : Nat, k ≤ l.length ∧ i = .int .i64 k ∧ (∀ j, j < k → d (l.getD j Cp.none) = false) ∧ Below w.heap.size w wr) (fun i _ => l.length - (intOf i).toNat)
  case atStart => exact ⟨0, Nat.zero_le _, rfl, fun j hj => absurd hj (Nat.not_lt_zero j), Below.refl _ _⟩
  case round =>
    obtain ⟨k, hk, rfl, hall, hW⟩ := hrel
    have HA := hid hall
    have HW := hid hW
    clear hall hW
    by_cases hlt : k < l.length
    · obtain ⟨b1, off1, ha1, hbl1, hf1⟩ := (HL.out.later HW.out).at_ k hlt
      subst ha1
      obtain ⟨x, hx⟩ : ∃ x, x = l.getD k Cp.none := ⟨_, rfl⟩
      rw [← hx] at hf1
      have HXE := hid hx
      clear hx
      obtain ⟨e0, e1, e2, e3, e4, e5, e6, _⟩ := hf1
      have hm0 : (0 : Int) ≤ (k : Int) := by omega
      have hm3 : (k : Int) < (l.length : Int) := by omega
      go_wp2_with fail
      refine (HF.out x wr HW.out).mono ?_
      rintro e w1 ⟨rfl, hb⟩
      have HW1 := hid (blw_trans HW.out hb)
      clear e0 e1 e2 e3 e4 e5 e6 hb HW hbl1
      cases hd : d x
      · have HN : Hid (∀ j, j < k + 1 → d (l.getD j Cp.none) = false) := fun j hj => by
          by_cases e : j = k
          · subst e; rw [← HXE.out]; exact hd
          · exact HA.out j (by omega)
        go_wp2
        go_roundw
        case rel => exact ⟨k + 1, by omega, by go_num, HN.out, HW1.out⟩
        case measure => simp [intOf]; omega
      · have HN : Hid (firstTo (fun i => d (l.getD i Cp.none)) l.length = k) := firstTo_hit hlt (by rw [← HXE.out]; exact hd) HA.out
        go_wp2
        go_ret
        exact ⟨by rw [HN.out]; rfl, HW1.out⟩
    · obtain rfl : k = l.length := by omega
      have HN : Hid (firstTo (fun i => d (l.getD i Cp.none)) l.length = -1) := firstTo_none HA.out
      go_wp2
      go_ret
      exact ⟨by rw [HN.out]; rfl, HW.out⟩

set_option maxRecDepth 8000 in
set_option maxHeartbeats 16000000 in
theorem delFnC (N : FuncId) (fr : Array Value) (hN : ∀ args W, (callFunc N args).run Tryz.prog W = .ok (.enter N args) W) (d : Cp → Bool) (l : List Cp) (lo : Nat) (p : Option Addr) (q : Nat) (w : World) (h : w.ownsRow lo 81 7 (.slice p l.length q) l.length (l.flatMap CpC)) (hz : ∀ i, i < l.length → (l.getD i Cp.none).sized) (hl : l.length ≤ 1048576)
    (hF : ∀ x W, BelO p w W → Calls Tryz.prog N (#[.agg #[.string x.svc, .int .i64 x.num, .int .i64 x.ver, .int .i64 x.image, .int .i64 x.state, .bool x.ending, .string x.berth]] ++ fr) W fun e w' => e = .returned (.bool (d x)) ∧ Below W.heap.size W w') :
    Calls Tryz.prog 79 #[.slice p l.length q, .func (.func N) #[] fr] w fun e w' => (e = .returned (.slice p (l.filter fun x => !d x).length q) ∧ w'.ownsRow lo 81 7 (.slice p (l.filter fun x => !d x).length q) (l.filter fun x => !d x).length ((l.filter fun x => !d x).flatMap CpC)) ∧ BelO p w w' := by
  have HF := hid hF
  have HO := hid h
  have hv : CpsV w p l := by
    obtain ⟨a', c', e, hv⟩ := owns_Cps h hz (by unfold maxLen; omega)
    injection e with e _ _
    subst e
    exact hv
  have HVV := hid hv
  clear hF h hz hv
  go_enter Tryz.func79, Tryz.ntmps79
  go_wp2_with fail
  refine (idxFnC N fr hN d l p q w HVV.out hl (fun x W hb => HF.out x W (BelO.of hb))).mono ?_
  rintro e w1 ⟨rfl, hb1⟩
  have HB1 := hid hb1
  clear hb1 HVV
  rcases firstTo_cases (fun i => d (l.getD i Cp.none)) l.length with ⟨hf, hall⟩ | ⟨k, hk, hf, hdk, hall⟩
  · rw [hf]
    have HFL : Hid ((l.filter fun x => !d x) = l) := df_none Cp.none d hall
    go_wp2
    go_ret
    exact ⟨⟨by rw [HFL.out]; rfl, by rw [HFL.out]; exact owns_on HO.out HB1.out⟩, BelO.of HB1.out⟩
  rw [hf]
  have HST := hid (df_start Cp.none d hk hdk hall)
  clear hf hdk hall
  obtain ⟨g, cur0, rfl, hgl, hgh, _, _⟩ := owns_blk HO.out (by omega)
  have HG := hid hgl
  clear hgl hgh
  obtain ⟨n, hn⟩ : ∃ n, n = l.length := ⟨_, rfl⟩
  have hnk : k < n := by omega
  have hn1 : n ≤ 1048576 := by omega
  have HNL := hid hn
  rw [← hn] at HO ⊢
  clear hn hk hl
  have hw1 : IntKind.i64.wrap ((k : Int) + 1) = ((k + 1 : Nat) : Int) := by simp [IntKind.wrap, IntKind.bits, IntKind.signed]; omega
  go_wp2
  clear hw1
  go_loopw [5, 6] (fun i j wr => ∃ (a b : Nat) (L : List Cp), i = .int .i64 a ∧ j = .int .i64 b ∧ a < b ∧ b ≤ n ∧ L.length = n ∧ (L.take a = (l.take b).filter fun x => !d x) ∧ L.drop b = l.drop b ∧ wr.ownsRow lo 81 7 (.slice (some ⟨g, 0, none⟩) n q) n (L.flatMap CpC) ∧ BelX g w wr) (fun _ j _ => n - (intOf j).toNat)
  case atStart => exact ⟨k, k + 1, l, rfl, by go_num, by omega, by omega, HNL.out.symm, HST.out, rfl, owns_on HO.out HB1.out, BelX.on (BelX.refl _ _) HB1.out⟩
  case round =>
    obtain ⟨a, b, L, rfl, rfl, hab, hbn, hL, hT, hD, hR, hX⟩ := hrel
    have HL := hid hL
    have HT := hid hT
    have HD := hid hD
    have HR := hid hR
    have HX := hid hX
    clear hL hT hD hR hX
    by_cases hlt : b < n
    · obtain ⟨x, hx⟩ : ∃ x, x = l.getD b Cp.none := ⟨_, rfl⟩
      have hcell : ∀ j, j < 7 → ∀ u, (CpC x)[j]? = some u → wr.cell? ⟨g, b * 7 + j, none⟩ = some u := fun j hj u hu => by
        obtain ⟨g', cur, e, _, _, _, hc⟩ := owns_blk HR.out (by omega)
        cases e
        refine hc (b * 7 + j) u ((flat_at Cp.none CpC 7 CpC_len L b j (by rw [HL.out]; exact hlt) hj).trans ?_)
        rw [df_at Cp.none HD.out, ← hx]; exact hu
      have gz : g < wr.heap.size := owns_lt HR.out
      have HXE := hid hx
      have e0 : wr.cell? ⟨g, b * 7, none⟩ = some (.string x.svc) := hcell 0 (by omega) _ rfl
      have e1 := hcell 1 (by omega) _ rfl
      have e2 := hcell 2 (by omega) _ rfl
      have e3 := hcell 3 (by omega) _ rfl
      have e4 := hcell 4 (by omega) _ rfl
      have e5 := hcell 5 (by omega) _ rfl
      have e6 := hcell 6 (by omega) _ rfl
      clear hcell hx
      have hm0 : (0 : Int) ≤ (b : Int) := by omega
      have hm3 : (b : Int) < (n : Int) := by omega
      obtain ⟨w2, hw2⟩ : ∃ w2, w2 = wr.alloc (.cells #[.string x.svc, .int .i64 x.num, .int .i64 x.ver, .int .i64 x.image, .int .i64 x.state, .bool x.ending, .string x.berth] 81) := ⟨_, rfl⟩
      have hb2 : Below wr.heap.size wr w2 := by rw [hw2]; exact blw_alloc (Below.refl _ _) _
      obtain ⟨q1, hq1⟩ : ∃ q1, q1 = wr.heap.size := ⟨_, rfl⟩
      have HC1 : Hid (LBox w2 q1 [.string x.svc, .int .i64 x.num, .int .i64 x.ver, .int .i64 x.image, .int .i64 x.state, .bool x.ending, .string x.berth]) := by show LBox _ _ _; rw [hw2]; exact LBox.new _ _ _ _ hq1
      have HR2 := hid (owns_on HR.out hb2)
      have HX2 := hid (HX.out.on hb2)
      go_upto_region 8 with fail
      rw [← hw2, ← hq1]
      clear hw2 hq1 hb2 e0 e1 e2 e3 e4 e5 e6 HR HX
      have cz := HC1.out.lt
      have d0 := HC1.out.get 0 _ rfl
      have d1 := HC1.out.get 1 _ rfl
      have d2 := HC1.out.get 2 _ rfl
      have d3 := HC1.out.get 3 _ rfl
      have d4 := HC1.out.get 4 _ rfl
      have d5 := HC1.out.get 5 _ rfl
      have d6 := HC1.out.get 6 _ rfl
      go_wp2_with fail
      refine (HF.out x w2 (BelO.ofX HX2.out)).mono ?_
      rintro e w3 ⟨rfl, hb3⟩
      have HR3 := hid (owns_on HR2.out hb3)
      have HX3 := hid (HX2.out.on hb3)
      have HC2 := hid (HC1.out.later hb3)
      clear cz d0 d1 d2 d3 d4 d5 d6 hb3 HR2 HX2 HC1
      cases hd : d x
      · have HK := hid (df_keep Cp.none d (HL.out.trans HNL.out) hab (by rw [← HNL.out]; exact hlt) HT.out HD.out (by rw [← HXE.out]; exact hd))
        rw [← HXE.out] at HK
        have hth : w3.there g (a * 7) 7 := owns_there HR3.out (a * 7) 7 (by have : (a + 1) * 7 ≤ n * 7 := Nat.mul_le_mul_right 7 (by omega); omega)
        have HP : Hid ((w3.setCells g (a * 7) [.string x.svc, .int .i64 x.num, .int .i64 x.ver, .int .i64 x.image, .int .i64 x.state, .bool x.ending, .string x.berth]).ownsRow lo 81 7 (.slice (some ⟨g, 0, none⟩) n q) n ((L.set a x).flatMap CpC)) := by
          have := owns_scs (CpC x) (a * 7) w3 _ HR3.out
          rw [flat_lset CpC 7 CpC_len L a x (by rw [HL.out]; omega)] at this
          exact this
        have HXP := hid (HX3.out.scs [.string x.svc, .int .i64 x.num, .int .i64 x.ver, .int .i64 x.image, .int .i64 x.state, .bool x.ending, .string x.berth] (a * 7))
        have ha0 : (0 : Int) ≤ (a : Int) := by omega
        have ha3 : (a : Int) < (n : Int) := by omega
        have gz3 : g < w3.heap.size := owns_lt HR3.out
        have d0 := HC2.out.get 0 _ rfl
        have d1 := HC2.out.get 1 _ rfl
        have d2 := HC2.out.get 2 _ rfl
        have d3 := HC2.out.get 3 _ rfl
        have d4 := HC2.out.get 4 _ rfl
        have d5 := HC2.out.get 5 _ rfl
        have d6 := HC2.out.get 6 _ rfl
        have cz := HC2.out.lt
        obtain ⟨s0, z0⟩ : ∃ s, w3.cell? ⟨g, a * 7, none⟩ = some s := Option.isSome_iff_exists.1 (hth 0 (by omega)).1
        obtain ⟨s1, z1⟩ : ∃ s, w3.cell? ⟨g, a * 7 + 1, none⟩ = some s := Option.isSome_iff_exists.1 (hth 1 (by omega)).1
        obtain ⟨s2, z2⟩ : ∃ s, w3.cell? ⟨g, a * 7 + 2, none⟩ = some s := Option.isSome_iff_exists.1 (hth 2 (by omega)).1
        obtain ⟨s3, z3⟩ : ∃ s, w3.cell? ⟨g, a * 7 + 3, none⟩ = some s := Option.isSome_iff_exists.1 (hth 3 (by omega)).1
        obtain ⟨s4, z4⟩ : ∃ s, w3.cell? ⟨g, a * 7 + 4, none⟩ = some s := Option.isSome_iff_exists.1 (hth 4 (by omega)).1
        obtain ⟨s5, z5⟩ : ∃ s, w3.cell? ⟨g, a * 7 + 5, none⟩ = some s := Option.isSome_iff_exists.1 (hth 5 (by omega)).1
        obtain ⟨s6, z6⟩ : ∃ s, w3.cell? ⟨g, a * 7 + 6, none⟩ = some s := Option.isSome_iff_exists.1 (hth 6 (by omega)).1
        have gfz : ∀ j, w3.frozen? ⟨g, j, none⟩ = false := fun j => by
          obtain ⟨g', cur, e, _, hgh, _, _⟩ := owns_blk HR3.out (by omega)
          cases e
          simp [World.frozen?, hgh]
        obtain ⟨w9, hw9⟩ : ∃ w9, w9 = (((((((w3).setCell ⟨g, a * 7, none⟩ (.string x.svc)).setCell ⟨g, a * 7 + 1, none⟩ (.int .i64 x.num)).setCell ⟨g, a * 7 + 2, none⟩ (.int .i64 x.ver)).setCell ⟨g, a * 7 + 3, none⟩ (.int .i64 x.image)).setCell ⟨g, a * 7 + 4, none⟩ (.int .i64 x.state)).setCell ⟨g, a * 7 + 5, none⟩ (.bool x.ending)).setCell ⟨g, a * 7 + 6, none⟩ (.string x.berth) := ⟨_, rfl⟩
        have he9 : w3.setCells g (a * 7) [.string x.svc, .int .i64 x.num, .int .i64 x.ver, .int .i64 x.image, .int .i64 x.state, .bool x.ending, .string x.berth] = w9 := hw9.symm
        rw [he9] at HP HXP
        clear he9 hth
        go_wp2
        rw [← hw9]
        clear hw9
        go_roundw
        case rel => (repeat apply Exists.intro); exact ⟨⟨a + 1, b + 1, L.set a x, by go_num, by go_num, by omega, by omega, by rw [List.length_set]; exact HL.out, HK.out.1, HK.out.2, HP.out, HXP.out⟩, rfl⟩
        case measure => simp [intOf]; omega
      · have HK := hid (df_skip Cp.none d (L := L) (by rw [← HNL.out]; exact hlt) HT.out (by rw [← HXE.out]; exact hd))
        go_wp2
        go_roundw
        case rel => (repeat apply Exists.intro); exact ⟨⟨a, b + 1, L, rfl, by go_num, by omega, by omega, HL.out, HK.out, df_drop HD.out, HR3.out, HX3.out⟩, rfl⟩
        case measure => simp [intOf]; omega
    · obtain rfl : b = n := by omega
      have hTM : L.take a = l.filter fun x => !d x := by rw [HT.out, HNL.out, List.take_length]
      have HML : Hid ((l.filter fun x => !d x).length = a) := by show _ = _; rw [← hTM, List.length_take, HL.out]; omega
      have HTM := hid hTM
      clear hTM HT HD
      obtain ⟨i1, hi1, ei1⟩ := Option.map_eq_some_iff.1 Tryz.infCp
      simp only [Prod.mk.injEq] at ei1
      obtain ⟨hz1, hs1, hy1⟩ := ei1
      obtain ⟨Z, hZ⟩ : ∃ Z : Value, Z = (.agg #[.string ByteArray.empty, .int .i64 0, .int .i64 0, .int .i64 0, .int .i64 0, .bool false, .string ByteArray.empty]) := ⟨_, rfl⟩
      rw [← hZ] at hz1
      have hZs : Z.cells.size = 7 := by rw [hZ]; rfl
      have hZ1 : ∀ v ∈ Z.cells.toList, v.oneCell' = true := by
        have : (Z.cells.toList.all Value.oneCell') = true := by rw [hZ]; kernel_rfl
        exact List.all_eq_true.1 this
      clear hZ
      have hO := HR.out
      obtain ⟨hxl, hrow⟩ := hO
      rcases hrow with ⟨e, _⟩ | ⟨g', cap, cur, e, hlo, hg, hcap, hcm, hcs, htk⟩
      · cases e
      cases e
      obtain ⟨zs, hzs⟩ : ∃ zs, zs = (Builtin.zeroCells Z.cells (b - a)).toList := ⟨_, rfl⟩
      have hzl : zs.length = (b - a) * 7 := by rw [hzs, zc_len, hZs]
      have hb1 : b * 7 ≤ q * 7 := Nat.mul_le_mul_right 7 hcap
      have hsp : a * 7 + (b - a) * 7 = b * 7 := by rw [← Nat.add_mul]; congr 1; omega
      have hfit : a * 7 + zs.length ≤ cur.size := by rw [hzl, hcs]; omega
      have hcl : ∀ ty c, (Builtin.clear_ #[34] ty #[.slice (some ⟨g, a * 7, none⟩) (b - a) c]).run Tryz.prog wr = .ok (.tuple #[]) (wr.setRow g (seg cur (a * 7) zs)) := fun ty c => by
        have := run_clear_rowK (n := b - a) wr 34 81 ty Z Tryz.undCp (fun w => by simp [zeroValue, typeInfo, hi1, hz1]) (zc_one hZ1 (by rw [hZs]; omega) _) g (a * 7) c cur 81 (by omega) hg (by rw [← hzs]; exact hfit)
        rw [← hzs] at this
        exact this
      have HEND : Hid ((wr.setRow g (seg cur (a * 7) zs)).ownsRow lo 81 7 (.slice (some ⟨g, 0, none⟩) a q) a ((l.filter fun x => !d x).flatMap CpC)) := by
        refine ⟨by rw [flat_len CpC 7 CpC_len, HML.out], .inr ⟨g, q, _, rfl, hlo, setRow_heap _ g cur _ 81 (0, 0) hg, by omega, hcm, by rw [seg_size hfit, hcs], ?_⟩⟩
        rw [seg_past (Nat.le_refl _) (by omega)]
        have e1 : cur.toList.take (a * 7) = (cur.toList.take (b * 7)).take (a * 7) := by rw [List.take_take]; congr 1; omega
        rw [e1, htk, flat_take CpC 7 CpC_len, HTM.out]
      have HBEL : Hid (BelO (some ⟨g, 0, none⟩) w (wr.setRow g (seg cur (a * 7) zs))) := BelO.ofX ⟨HX.out.os, HX.out.tape, HX.out.output, by rw [size_setRow]; exact HX.out.size, fun b' hb' hn' => by rw [setRow_other _ g b' _ hn']; exact HX.out.block b' hb' hn'⟩
      have ha0 : (0 : Int) ≤ (a : Int) := by omega
      have ha3 : (a : Int) ≤ (b : Int) := by omega
      have haq : (a : Int) ≤ (q : Int) := by omega
      have hqa : ¬ q = a := by omega
      have hsl1 : ∀ W, (Instr.slice 34 (.slice (some ⟨g, 0, none⟩) b q) (some (.int .i64 (a : Nat))) none none).run Tryz.prog W = .ok (.slice (some ⟨g, a * 7, none⟩) (b - a) (q - a)) W := fun W => by simp [Instr.slice, go_sem, ha0, ha3, hqa]
      have hsl2 : ∀ W, (Instr.slice 34 (.slice (some ⟨g, 0, none⟩) b q) none (some (.int .i64 (a : Nat))) none).run Tryz.prog W = .ok (.slice (some ⟨g, 0, none⟩) a q) W := fun W => by simp [Instr.slice, go_sem, ha0, haq]
      clear hxl hg hcm hcs htk hfit hzs hzl hZ1 hZs hz1 hs1 hy1 hsp hb1 hlo
      go_wp2_with (at_builtin; refine wpList_clear_runJ _ rfl _ 34 rfl _ rfl (hcl _ _) ?_)
      go_ret
      exact ⟨⟨by rw [HML.out]; rfl, by rw [HML.out]; exact HEND.out⟩, HBEL.out⟩

end Go.Proofs.YtclagbakddkjcaaGreat
