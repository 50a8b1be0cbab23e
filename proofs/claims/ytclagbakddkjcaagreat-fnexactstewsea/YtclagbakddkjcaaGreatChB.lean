/-
  A change in the making: whether it is valid; whether a copy is up; closures.
-/
import Derived.Test.YtclagbakddkjcaaGreatDfA
import Derived.Test.YtclagbakddkjcaaGreatStVI
import Derived.Test.YtclagbakddkjcaaGreatChA
import Derived.Test.YtclagbakddkjcaaGreatDfC
import Derived.Test.YtclagbakddkjcaaGreatPgD
namespace Go.Proofs.YtclagbakddkjcaaGreat
open Go.RowKit Go.Deep

set_option maxRecDepth 8000 in
set_option maxHeartbeats 8000000 in
theorem idxFnB (N : FuncId) (fr : Array Value) (hN : ∀ args W, (callFunc N args).run Tryz.prog W = .ok (.enter N args) W) (d : Bt → Bool) (l : List Bt) (a : Option Addr) (c : Nat) (w : World) (hC : BtsV w a l) (hl : l.length ≤ 1048576)
    (hF : ∀ x W, Below w.heap.size w W → Calls Tryz.prog N (#[.agg #[.string x.nm, .bool x.drain]] ++ fr) W fun e w' => e = .returned (.bool (d x)) ∧ Below W.heap.size W w') :
    Calls Tryz.prog 111 #[.slice a l.length c, .func (.func N) #[] fr] w fun e w' => e = .returned (.int .i64 (firstTo (fun i => d (l.getD i Bt.none)) l.length)) ∧ Below w.heap.size w w' := by
  have HL := hid hC
  have HF := hid hF
  clear hC hF
  go_enter Tryz.func111, Tryz.ntmps111
  go_wp2
  go_loopw [8] (fun i wr => ∃ k : Nat, k ≤ l.length ∧ i = .int .i64 k ∧ (∀ j, j < k → d (l.getD j Bt.none) = false) ∧ Below w.heap.size w wr) (fun i _ => l.length - (intOf i).toNat)
  case atStart => exact ⟨0, Nat.zero_le _, rfl, fun j hj => absurd hj (Nat.not_lt_zero j), Below.refl _ _⟩
  case round =>
    obtain ⟨k, hk, rfl, hall, hW⟩ := hrel
    have HA := hid hall
    have HW := hid hW
    clear hall hW
    by_cases hlt : k < l.length
    · obtain ⟨b1, off1, ha1, hbl1, hf1⟩ := (HL.out.later HW.out).at_ k hlt
      subst ha1
      obtain ⟨x, hx⟩ : ∃ x, x = l.getD k Bt.none := ⟨_, rfl⟩
      rw [← hx] at hf1
      have HXE := hid hx
      clear hx
      obtain ⟨e0, e1, _⟩ := hf1
      have hm0 : (0 : Int) ≤ (k : Int) := by omega
      have hm3 : (k : Int) < (l.length : Int) := by omega
      go_wp2_with fail
      refine (HF.out x wr HW.out).mono ?_
      rintro e w1 ⟨rfl, hb⟩
      have HW1 := hid (blw_trans HW.out hb)
      clear e0 e1 hb HW hbl1
      cases hd : d x
      · have HN : Hid (∀ j, j < k + 1 → d (l.getD j Bt.none) = false) := fun j hj => by
          by_cases e : j = k
          · subst e; rw [← HXE.out]; exact hd
          · exact HA.out j (by omega)
        go_wp2
        go_roundw
        case rel => exact ⟨k + 1, by omega, by go_num, HN.out, HW1.out⟩
        case measure => simp [intOf]; omega
      · have HN : Hid (firstTo (fun i => d (l.getD i Bt.none)) l.length = k) := firstTo_hit hlt (by rw [← HXE.out]; exact hd) HA.out
        go_wp2
        go_ret
        exact ⟨by rw [HN.out]; rfl, HW1.out⟩
    · obtain rfl : k = l.length := by omega
      have HN : Hid (firstTo (fun i => d (l.getD i Bt.none)) l.length = -1) := firstTo_none HA.out
      go_wp2
      go_ret
      exact ⟨by rw [HN.out]; rfl, HW.out⟩

set_option maxRecDepth 8000 in
set_option maxHeartbeats 16000000 in
theorem delFnB (N : FuncId) (fr : Array Value) (hN : ∀ args W, (callFunc N args).run Tryz.prog W = .ok (.enter N args) W) (d : Bt → Bool) (l : List Bt) (lo : Nat) (p : Option Addr) (q : Nat) (w : World) (h : w.ownsRow lo 79 2 (.slice p l.length q) l.length (l.flatMap BtC)) (hz : ∀ i, i < l.length → (l.getD i Bt.none).sized) (hl : l.length ≤ 1048576)
    (hF : ∀ x W, BelO p w W → Calls Tryz.prog N (#[.agg #[.string x.nm, .bool x.drain]] ++ fr) W fun e w' => e = .returned (.bool (d x)) ∧ Below W.heap.size W w') :
    Calls Tryz.prog 98 #[.slice p l.length q, .func (.func N) #[] fr] w fun e w' => (e = .returned (.slice p (l.filter fun x => !d x).length q) ∧ w'.ownsRow lo 79 2 (.slice p (l.filter fun x => !d x).length q) (l.filter fun x => !d x).length ((l.filter fun x => !d x).flatMap BtC)) ∧ BelO p w w' := by
  have HF := hid hF
  have HO := hid h
  have hv : BtsV w p l := by
    obtain ⟨a', c', e, hv⟩ := owns_Bts h hz (by unfold maxLen; omega)
    injection e with e _ _
    subst e
    exact hv
  have HVV := hid hv
  clear hF h hz hv
  go_enter Tryz.func98, Tryz.ntmps98
  go_wp2_with fail
  refine (idxFnB N fr hN d l p q w HVV.out hl (fun x W hb => HF.out x W (BelO.of hb))).mono ?_
  rintro e w1 ⟨rfl, hb1⟩
  have HB1 := hid hb1
  clear hb1 HVV
  rcases firstTo_cases (fun i => d (l.getD i Bt.none)) l.length with ⟨hf, hall⟩ | ⟨k, hk, hf, hdk, hall⟩
  · rw [hf]
    have HFL : Hid ((l.filter fun x => !d x) = l) := df_none Bt.none d hall
    go_wp2
    go_ret
    exact ⟨⟨by rw [HFL.out]; rfl, by rw [HFL.out]; exact owns_on HO.out HB1.out⟩, BelO.of HB1.out⟩
  rw [hf]
  have HST := hid (df_start Bt.none d hk hdk hall)
  clear hf hdk hall
  obtain ⟨g, cur0, rfl, hgl, hgh, _, _⟩ := owns_blk HO.out (by omega)
  have HG := hid hgl
  clear hgl hgh
  obtain ⟨n, hn⟩ : ∃ n, n = l.length := ⟨_, rfl⟩
  have hnk : k < n := by omega
  have hn1 : n ≤ 1048576 := by omega
  have HNL := hid hn
  rw [← hn] at HO ⊢
  clear hn hk hl
  have hw1 : IntKind.i64.wrap ((k : Int) + 1) = ((k + 1 : Nat) : Int) := by simp [IntKind.wrap, IntKind.bits, IntKind.signed]; omega
  go_wp2
  clear hw1
  go_loopw [5, 6] (fun i j wr => ∃ (a b : Nat) (L : List Bt), i = .int .i64 a ∧ j = .int .i64 b ∧ a < b ∧ b ≤ n ∧ L.length = n ∧ (L.take a = (l.take b).filter fun x => !d x) ∧ L.drop b = l.drop b ∧ wr.ownsRow lo 79 2 (.slice (some ⟨g, 0, none⟩) n q) n (L.flatMap BtC) ∧ BelX g w wr) (fun _ j _ => n - (intOf j).toNat)
  case atStart => exact ⟨k, k + 1, l, rfl, by go_num, by omega, by omega, HNL.out.symm, HST.out, rfl, owns_on HO.out HB1.out, BelX.on (BelX.refl _ _) HB1.out⟩
  case round =>
    obtain ⟨a, b, L, rfl, rfl, hab, hbn, hL, hT, hD, hR, hX⟩ := hrel
    have HL := hid hL
    have HT := hid hT
    have HD := hid hD
    have HR := hid hR
    have HX := hid hX
    clear hL hT hD hR hX
    by_cases hlt : b < n
    · obtain ⟨x, hx⟩ : ∃ x, x = l.getD b Bt.none := ⟨_, rfl⟩
      have hcell : ∀ j, j < 2 → ∀ u, (BtC x)[j]? = some u → wr.cell? ⟨g, b * 2 + j, none⟩ = some u := fun j hj u hu => by
        obtain ⟨g', cur, e, _, _, _, hc⟩ := owns_blk HR.out (by omega)
        cases e
        refine hc (b * 2 + j) u ((flat_at Bt.none BtC 2 BtC_len L b j (by rw [HL.out]; exact hlt) hj).trans ?_)
        rw [df_at Bt.none HD.out, ← hx]; exact hu
      have gz : g < wr.heap.size := owns_lt HR.out
      have HXE := hid hx
      have e0 : wr.cell? ⟨g, b * 2, none⟩ = some (.string x.nm) := hcell 0 (by omega) _ rfl
      have e1 := hcell 1 (by omega) _ rfl
      clear hcell hx
      have hm0 : (0 : Int) ≤ (b : Int) := by omega
      have hm3 : (b : Int) < (n : Int) := by omega
      obtain ⟨w2, hw2⟩ : ∃ w2, w2 = wr.alloc (.cells #[.string x.nm, .bool x.drain] 79) := ⟨_, rfl⟩
      have hb2 : Below wr.heap.size wr w2 := by rw [hw2]; exact blw_alloc (Below.refl _ _) _
      obtain ⟨q1, hq1⟩ : ∃ q1, q1 = wr.heap.size := ⟨_, rfl⟩
      have HC1 : Hid (LBox w2 q1 [.string x.nm, .bool x.drain]) := by show LBox _ _ _; rw [hw2]; exact LBox.new _ _ _ _ hq1
      have HR2 := hid (owns_on HR.out hb2)
      have HX2 := hid (HX.out.on hb2)
      go_upto_region 8 with fail
      rw [← hw2, ← hq1]
      clear hw2 hq1 hb2 e0 e1 HR HX
      have cz := HC1.out.lt
      have d0 := HC1.out.get 0 _ rfl
      have d1 := HC1.out.get 1 _ rfl
      go_wp2_with fail
      refine (HF.out x w2 (BelO.ofX HX2.out)).mono ?_
      rintro e w3 ⟨rfl, hb3⟩
      have HR3 := hid (owns_on HR2.out hb3)
      have HX3 := hid (HX2.out.on hb3)
      have HC2 := hid (HC1.out.later hb3)
      clear cz d0 d1 hb3 HR2 HX2 HC1
      cases hd : d x
      · have HK := hid (df_keep Bt.none d (HL.out.trans HNL.out) hab (by rw [← HNL.out]; exact hlt) HT.out HD.out (by rw [← HXE.out]; exact hd))
        rw [← HXE.out] at HK
        have hth : w3.there g (a * 2) 2 := owns_there HR3.out (a * 2) 2 (by have : (a + 1) * 2 ≤ n * 2 := Nat.mul_le_mul_right 2 (by omega); omega)
        have HP : Hid ((w3.setCells g (a * 2) [.string x.nm, .bool x.drain]).ownsRow lo 79 2 (.slice (some ⟨g, 0, none⟩) n q) n ((L.set a x).flatMap BtC)) := by
          have := owns_scs (BtC x) (a * 2) w3 _ HR3.out
          rw [flat_lset BtC 2 BtC_len L a x (by rw [HL.out]; omega)] at this
          exact this
        have HXP := hid (HX3.out.scs [.string x.nm, .bool x.drain] (a * 2))
        have ha0 : (0 : Int) ≤ (a : Int) := by omega
        have ha3 : (a : Int) < (n : Int) := by omega
        have gz3 : g < w3.heap.size := owns_lt HR3.out
        have d0 := HC2.out.get 0 _ rfl
        have d1 := HC2.out.get 1 _ rfl
        have cz := HC2.out.lt
        obtain ⟨s0, z0⟩ : ∃ s, w3.cell? ⟨g, a * 2, none⟩ = some s := Option.isSome_iff_exists.1 (hth 0 (by omega)).1
        obtain ⟨s1, z1⟩ : ∃ s, w3.cell? ⟨g, a * 2 + 1, none⟩ = some s := Option.isSome_iff_exists.1 (hth 1 (by omega)).1
        have gfz : ∀ j, w3.frozen? ⟨g, j, none⟩ = false := fun j => by
          obtain ⟨g', cur, e, _, hgh, _, _⟩ := owns_blk HR3.out (by omega)
          cases e
          simp [World.frozen?, hgh]
        obtain ⟨w9, hw9⟩ : ∃ w9, w9 = ((w3).setCell ⟨g, a * 2, none⟩ (.string x.nm)).setCell ⟨g, a * 2 + 1, none⟩ (.bool x.drain) := ⟨_, rfl⟩
        have he9 : w3.setCells g (a * 2) [.string x.nm, .bool x.drain] = w9 := hw9.symm
        rw [he9] at HP HXP
        clear he9 hth
        go_wp2
        rw [← hw9]
        clear hw9
        go_roundw
        case rel => (repeat apply Exists.intro); exact ⟨⟨a + 1, b + 1, L.set a x, by go_num, by go_num, by omega, by omega, by rw [List.length_set]; exact HL.out, HK.out.1, HK.out.2, HP.out, HXP.out⟩, rfl⟩
        case measure => simp [intOf]; omega
      · have HK := hid (df_skip Bt.none d (L := L) (by rw [← HNL.out]; exact hlt) HT.out (by rw [← HXE.out]; exact hd))
        go_wp2
        go_roundw
        case rel => (repeat apply Exists.intro); exact ⟨⟨a, b + 1, L, rfl, by go_num, by omega, by omega, HL.out, HK.out, df_drop HD.out, HR3.out, HX3.out⟩, rfl⟩
        case measure => simp [intOf]; omega
    · obtain rfl : b = n := by omega
      have hTM : L.take a = l.filter fun x => !d x := by rw [HT.out, HNL.out, List.take_length]
      have HML : Hid ((l.filter fun x => !d x).length = a) := by show _ = _; rw [← hTM, List.length_take, HL.out]; omega
      have HTM := hid hTM
      clear hTM HT HD
      obtain ⟨i1, hi1, ei1⟩ := Option.map_eq_some_iff.1 Tryz.infBt
      simp only [Prod.mk.injEq] at ei1
      obtain ⟨hz1, hs1, hy1⟩ := ei1
      obtain ⟨Z, hZ⟩ : ∃ Z : Value, Z = (.agg #[.string ByteArray.empty, .bool false]) := ⟨_, rfl⟩
      rw [← hZ] at hz1
      have hZs : Z.cells.size = 2 := by rw [hZ]; rfl
      have hZ1 : ∀ v ∈ Z.cells.toList, v.oneCell' = true := by
        have : (Z.cells.toList.all Value.oneCell') = true := by rw [hZ]; kernel_rfl
        exact List.all_eq_true.1 this
      clear hZ
      have hO := HR.out
      obtain ⟨hxl, hrow⟩ := hO
      rcases hrow with ⟨e, _⟩ | ⟨g', cap, cur, e, hlo, hg, hcap, hcm, hcs, htk⟩
      · cases e
      cases e
      obtain ⟨zs, hzs⟩ : ∃ zs, zs = (Builtin.zeroCells Z.cells (b - a)).toList := ⟨_, rfl⟩
      have hzl : zs.length = (b - a) * 2 := by rw [hzs, zc_len, hZs]
      have hb1 : b * 2 ≤ q * 2 := Nat.mul_le_mul_right 2 hcap
      have hsp : a * 2 + (b - a) * 2 = b * 2 := by rw [← Nat.add_mul]; congr 1; omega
      have hfit : a * 2 + zs.length ≤ cur.size := by rw [hzl, hcs]; omega
      have hcl : ∀ ty c, (Builtin.clear_ #[35] ty #[.slice (some ⟨g, a * 2, none⟩) (b - a) c]).run Tryz.prog wr = .ok (.tuple #[]) (wr.setRow g (seg cur (a * 2) zs)) := fun ty c => by
        have := run_clear_rowK (n := b - a) wr 35 79 ty Z Tryz.undBt (fun w => by simp [zeroValue, typeInfo, hi1, hz1]) (zc_one hZ1 (by rw [hZs]; omega) _) g (a * 2) c cur 79 (by omega) hg (by rw [← hzs]; exact hfit)
        rw [← hzs] at this
        exact this
      have HEND : Hid ((wr.setRow g (seg cur (a * 2) zs)).ownsRow lo 79 2 (.slice (some ⟨g, 0, none⟩) a q) a ((l.filter fun x => !d x).flatMap BtC)) := by
        refine ⟨by rw [flat_len BtC 2 BtC_len, HML.out], .inr ⟨g, q, _, rfl, hlo, setRow_heap _ g cur _ 79 (0, 0) hg, by omega, hcm, by rw [seg_size hfit, hcs], ?_⟩⟩
        rw [seg_past (Nat.le_refl _) (by omega)]
        have e1 : cur.toList.take (a * 2) = (cur.toList.take (b * 2)).take (a * 2) := by rw [List.take_take]; congr 1; omega
        rw [e1, htk, flat_take BtC 2 BtC_len, HTM.out]
      have HBEL : Hid (BelO (some ⟨g, 0, none⟩) w (wr.setRow g (seg cur (a * 2) zs))) := BelO.ofX ⟨HX.out.os, HX.out.tape, HX.out.output, by rw [size_setRow]; exact HX.out.size, fun b' hb' hn' => by rw [setRow_other _ g b' _ hn']; exact HX.out.block b' hb' hn'⟩
      have ha0 : (0 : Int) ≤ (a : Int) := by omega
      have ha3 : (a : Int) ≤ (b : Int) := by omega
      have haq : (a : Int) ≤ (q : Int) := by omega
      have hqa : ¬ q = a := by omega
      have hsl1 : ∀ W, (Instr.slice 35 (.slice (some ⟨g, 0, none⟩) b q) (some (.int .i64 (a : Nat))) none none).run Tryz.prog W = .ok (.slice (some ⟨g, a * 2, none⟩) (b - a) (q - a)) W := fun W => by simp [Instr.slice, go_sem, ha0, ha3, hqa]
      have hsl2 : ∀ W, (Instr.slice 35 (.slice (some ⟨g, 0, none⟩) b q) none (some (.int .i64 (a : Nat))) none).run Tryz.prog W = .ok (.slice (some ⟨g, 0, none⟩) a q) W := fun W => by simp [Instr.slice, go_sem, ha0, haq]
      clear hxl hg hcm hcs htk hfit hzs hzl hZ1 hZs hz1 hs1 hy1 hsp hb1 hlo
      go_wp2_with (at_builtin; refine wpList_clear_runJ _ rfl _ 35 rfl _ rfl (hcl _ _) ?_)
      go_ret
      exact ⟨⟨by rw [HML.out]; rfl, by rw [HML.out]; exact HEND.out⟩, HBEL.out⟩

end Go.Proofs.YtclagbakddkjcaaGreat

namespace Go.Proofs.YtclagbakddkjcaaGreat
open Go.RowKit Go.Deep

set_option maxRecDepth 4000 in
set_option maxHeartbeats 8000000 in
theorem binCp (ad : Option Addr) (cc : Nat) (l : List Cp) (t0 : ByteArray) (t1 : Int) (p2 p3 p4 p5 p6 : Value) (p : Nat) (w : World) (h : CpsV w ad l) (hlen : l.length ≤ 1048576) (hp : p ≤ l.length) (h1 : ∀ i, i < p → cpCmp (l.getD i Cp.none).svc (l.getD i Cp.none).num t0 t1 < 0) (h2 : ∀ i, p ≤ i → i < l.length → 0 ≤ cpCmp (l.getD i Cp.none).svc (l.getD i Cp.none).num t0 t1) :
    Calls Tryz.prog 106 #[.slice ad l.length cc, .agg #[.string t0, .int .i64 t1, p2, p3, p4, p5, p6], .func (.func 76) #[] #[]] w fun e w' => e = .returned (.tuple #[.int .i64 (p : Nat), .bool (decide (p < l.length) && decide (cpCmp (l.getD p Cp.none).svc (l.getD p Cp.none).num t0 t1 = 0))]) ∧ Below w.heap.size w w' := by
  have hl := hlen
  clear hlen
  have HH : Hid (CpsV w ad l ∧ (∀ i, i < p → cpCmp (l.getD i Cp.none).svc (l.getD i Cp.none).num t0 t1 < 0) ∧ (∀ i, p ≤ i → i < l.length → 0 ≤ cpCmp (l.getD i Cp.none).svc (l.getD i Cp.none).num t0 t1)) := ⟨h, h1, h2⟩
  obtain ⟨R, hR⟩ : ∃ R, R = (decide (p < l.length) && decide (cpCmp (l.getD p Cp.none).svc (l.getD p Cp.none).num t0 t1 = 0)) := ⟨_, rfl⟩
  have HR : Hid (R = (decide (p < l.length) && decide (cpCmp (l.getD p Cp.none).svc (l.getD p Cp.none).num t0 t1 = 0))) := hR
  rw [← hR]
  clear h h1 h2 hR
  have HY : Hid (∀ W, Below (w.alloc (.cells #[.string t0, .int .i64 t1, p2, p3, p4, p5, p6] 81)).heap.size (w.alloc (.cells #[.string t0, .int .i64 t1, p2, p3, p4, p5, p6] 81)) W → w.heap.size < W.heap.size ∧ ∀ j, W.cell? ⟨w.heap.size, j, none⟩ = (#[.string t0, .int .i64 t1, p2, p3, p4, p5, p6] : Array Value)[j]?) := by
    intro W hW
    have q : w.heap.size < (w.alloc (.cells #[.string t0, .int .i64 t1, p2, p3, p4, p5, p6] 81)).heap.size := by simp
    exact ⟨Nat.lt_of_lt_of_le q hW.size, fun j => (hW.cell (p := ⟨w.heap.size, j, none⟩) q).trans (World.cell?_alloc_at _ _ _ _ rfl)⟩
  have HC : Hid (∀ (W : World) (x : Cp) (b1 b2 : Nat), Calls Tryz.prog 76 #[.agg #[.string x.svc, .int .i64 x.num, .int .i64 x.ver, .int .i64 x.image, .int .i64 x.state, .bool x.ending, .string x.berth], .agg #[.string t0, .int .i64 t1, p2, p3, p4, p5, p6]] W fun e w' => e = .returned (.int .i64 (cpCmp (x).svc (x).num t0 t1)) ∧ Below W.heap.size W w') := fun W x b1 b2 => cmpCpI _ _ _ _ _ _ _ _ _ _ _ _ _ _ W
  go_enter Tryz.func106, Tryz.ntmps106
  go_wp2
  go_loopw [9, 10] (fun i j wr => ∃ a b : Nat, i = .int .i64 (a : Nat) ∧ j = .int .i64 (b : Nat) ∧ a ≤ p ∧ p ≤ b ∧ b ≤ l.length ∧ Below (w.alloc (.cells #[.string t0, .int .i64 t1, p2, p3, p4, p5, p6] 81)).heap.size (w.alloc (.cells #[.string t0, .int .i64 t1, p2, p3, p4, p5, p6] 81)) wr) (fun i j _ => (intOf j).toNat - (intOf i).toNat)
  case atStart => exact ⟨0, l.length, rfl, rfl, Nat.zero_le _, hp, Nat.le_refl _, Below.refl _ _⟩
  case round =>
    obtain ⟨a, b, rfl, rfl, ha, hb, hbl, hW⟩ := hrel
    have HW0 : Hid (Below w.heap.size w wr) := blw_trans (blw_alloc (Below.refl _ _) _) hW
    have HWn : Hid (Below (w.alloc (.cells #[.string t0, .int .i64 t1, p2, p3, p4, p5, p6] 81)).heap.size (w.alloc (.cells #[.string t0, .int .i64 t1, p2, p3, p4, p5, p6] 81)) wr) := hW
    clear hW
    by_cases hlt : a < b
    · obtain ⟨m, hm⟩ : ∃ m, m = (a + b) / 2 := ⟨_, rfl⟩
      have hm1 : a ≤ m := by omega
      have hm2 : m < b := by omega
      obtain ⟨x, hx⟩ : ∃ x, x = l.getD m Cp.none := ⟨_, rfl⟩
      obtain ⟨yz, ys⟩ := HY.out _ HWn.out.drew
      have y0 : wr.drew.cell? ⟨w.heap.size, 0, none⟩ = some (.string t0) := ys 0
      have y1 : wr.drew.cell? ⟨w.heap.size, 1, none⟩ = some (.int .i64 t1) := ys 1
      have y2 : wr.drew.cell? ⟨w.heap.size, 2, none⟩ = some (p2) := ys 2
      have y3 : wr.drew.cell? ⟨w.heap.size, 3, none⟩ = some (p3) := ys 3
      have y4 : wr.drew.cell? ⟨w.heap.size, 4, none⟩ = some (p4) := ys 4
      have y5 : wr.drew.cell? ⟨w.heap.size, 5, none⟩ = some (p5) := ys 5
      have y6 : wr.drew.cell? ⟨w.heap.size, 6, none⟩ = some (p6) := ys 6
      clear ys
      have hin := HH.out.1.later HW0.out.drew
      obtain ⟨B, off, hA, hB, hat⟩ := hin.at_ m (by omega)
      clear hin
      subst hA
      rw [← hx] at hat
      obtain ⟨c0, c1, c2, c3, c4, c5, c6, _⟩ := hat
      obtain ⟨r, hr⟩ : ∃ r, r = cpCmp (x).svc (x).num t0 t1 := ⟨_, rfl⟩
      have HX : Hid (∀ W, Calls Tryz.prog 76 #[.agg #[.string x.svc, .int .i64 x.num, .int .i64 x.ver, .int .i64 x.image, .int .i64 x.state, .bool x.ending, .string x.berth], .agg #[.string t0, .int .i64 t1, p2, p3, p4, p5, p6]] W fun e w' => e = .returned (.int .i64 r) ∧ Below W.heap.size W w') := fun W => by rw [hr]; exact HC.out W x 0 0
      have HP : Hid ((r < 0 → m < p) ∧ (¬ r < 0 → p ≤ m)) := by
        refine ⟨fun hz => ?_, fun hz => ?_⟩
        · refine Nat.lt_of_not_le fun hh => ?_
          have := HH.out.2.2 m hh (by omega)
          rw [← hx, ← hr] at this; omega
        · refine Nat.le_of_not_lt fun hh => ?_
          have := HH.out.2.1 m hh
          rw [← hx, ← hr] at this; exact hz this
      have HMZ : Hid (((a : Int) + (b : Int)) / 2 = (m : Int)) := by show _ = _; omega
      clear hr hx hm
      have HWD : Hid (Below (w.alloc (.cells #[.string t0, .int .i64 t1, p2, p3, p4, p5, p6] 81)).heap.size (w.alloc (.cells #[.string t0, .int .i64 t1, p2, p3, p4, p5, p6] 81)) wr.drew) := HWn.out.drew
      have hm0 : (0 : Int) ≤ (m : Int) := by omega
      have hm3 : (m : Int) < (l.length : Int) := by omega
      by_cases hz : r < 0
      · have HE : Hid (m < p) := HP.out.1 hz
        go_wp2_with fail
        rw [HMZ.out]
        refine region_tail 6 (by kernel_rfl) (by kernel_rfl) ?_
        intro W hWd
        rw [← hWd] at hB HWD yz y0 y1 y2 y3 y4 y5 y6 c0 c1 c2 c3 c4 c5 c6
        simp only [List.take_succ_cons, List.take_zero, List.drop_succ_cons, List.drop_zero]
        clear hWd
        repeat still_step
        refine wpStill_nil ?_
        go_wp2_with (go_at_call 76; refine (HX.out _).mono ?_; rintro e w2 ⟨rfl, hb2⟩)
        go_roundw
        case rel => exact ⟨m + 1, b, by go_num, rfl, HE.out, hb, hbl, blw_trans HWD.out hb2⟩
        case measure => simp [intOf]; omega
      · have HE : Hid (p ≤ m) := HP.out.2 hz
        have hz' : 0 ≤ r := by omega
        go_wp2_with fail
        rw [HMZ.out]
        refine region_tail 6 (by kernel_rfl) (by kernel_rfl) ?_
        intro W hWd
        rw [← hWd] at hB HWD yz y0 y1 y2 y3 y4 y5 y6 c0 c1 c2 c3 c4 c5 c6
        simp only [List.take_succ_cons, List.take_zero, List.drop_succ_cons, List.drop_zero]
        clear hWd
        repeat still_step
        refine wpStill_nil ?_
        go_wp2_with (go_at_call 76; refine (HX.out _).mono ?_; rintro e w2 ⟨rfl, hb2⟩)
        go_roundw
        case rel => exact ⟨a, m, rfl, rfl, ha, HE.out, by omega, blw_trans HWD.out hb2⟩
        case measure => simp [intOf]; omega
    · obtain rfl : a = p := by omega
      obtain rfl : b = a := by omega
      by_cases hpl : b < l.length
      · obtain ⟨x, hx⟩ : ∃ x, x = l.getD b Cp.none := ⟨_, rfl⟩
        obtain ⟨yz, ys⟩ := HY.out _ HWn.out
        have y0 : wr.cell? ⟨w.heap.size, 0, none⟩ = some (.string t0) := ys 0
        have y1 : wr.cell? ⟨w.heap.size, 1, none⟩ = some (.int .i64 t1) := ys 1
        have y2 : wr.cell? ⟨w.heap.size, 2, none⟩ = some (p2) := ys 2
        have y3 : wr.cell? ⟨w.heap.size, 3, none⟩ = some (p3) := ys 3
        have y4 : wr.cell? ⟨w.heap.size, 4, none⟩ = some (p4) := ys 4
        have y5 : wr.cell? ⟨w.heap.size, 5, none⟩ = some (p5) := ys 5
        have y6 : wr.cell? ⟨w.heap.size, 6, none⟩ = some (p6) := ys 6
        clear ys
        have hin := HH.out.1.later HW0.out
        obtain ⟨B, off, hA, hB, hat⟩ := hin.at_ b hpl
        clear hin
        subst hA
        rw [← hx] at hat
        obtain ⟨c0, c1, c2, c3, c4, c5, c6, _⟩ := hat
        obtain ⟨r, hr⟩ : ∃ r, r = cpCmp (x).svc (x).num t0 t1 := ⟨_, rfl⟩
        have HX : Hid (∀ W, Calls Tryz.prog 76 #[.agg #[.string x.svc, .int .i64 x.num, .int .i64 x.ver, .int .i64 x.image, .int .i64 x.state, .bool x.ending, .string x.berth], .agg #[.string t0, .int .i64 t1, p2, p3, p4, p5, p6]] W fun e w' => e = .returned (.int .i64 r) ∧ Below W.heap.size W w') := fun W => by rw [hr]; exact HC.out W x 0 0
        have HRR : Hid (R = decide (r = 0)) := by show R = _; rw [HR.out, hr, hx]; simp [hpl]
        clear hr hx
        have hNE := pst_some wr
        have hBx : ∀ px : Pst wr, B < px.W.heap.size := fun px => px.size hB
        have hyz : ∀ px : Pst wr, w.heap.size < px.W.heap.size := fun px => px.size yz
        have Y0 : ∀ px : Pst wr, px.W.cell? ⟨w.heap.size, 0, none⟩ = some (.string t0) := fun px => px.cell y0 yz
        have Y1 : ∀ px : Pst wr, px.W.cell? ⟨w.heap.size, 1, none⟩ = some (.int .i64 t1) := fun px => px.cell y1 yz
        have Y2 : ∀ px : Pst wr, px.W.cell? ⟨w.heap.size, 2, none⟩ = some (p2) := fun px => px.cell y2 yz
        have Y3 : ∀ px : Pst wr, px.W.cell? ⟨w.heap.size, 3, none⟩ = some (p3) := fun px => px.cell y3 yz
        have Y4 : ∀ px : Pst wr, px.W.cell? ⟨w.heap.size, 4, none⟩ = some (p4) := fun px => px.cell y4 yz
        have Y5 : ∀ px : Pst wr, px.W.cell? ⟨w.heap.size, 5, none⟩ = some (p5) := fun px => px.cell y5 yz
        have Y6 : ∀ px : Pst wr, px.W.cell? ⟨w.heap.size, 6, none⟩ = some (p6) := fun px => px.cell y6 yz
        have C0 : ∀ px : Pst wr, px.W.cell? ⟨B, off + b * 7, none⟩ = some (.string x.svc) := fun px => px.cell c0 hB
        have C1 : ∀ px : Pst wr, px.W.cell? ⟨B, off + b * 7 + 1, none⟩ = some (.int .i64 x.num) := fun px => px.cell c1 hB
        have C2 : ∀ px : Pst wr, px.W.cell? ⟨B, off + b * 7 + 2, none⟩ = some (.int .i64 x.ver) := fun px => px.cell c2 hB
        have C3 : ∀ px : Pst wr, px.W.cell? ⟨B, off + b * 7 + 3, none⟩ = some (.int .i64 x.image) := fun px => px.cell c3 hB
        have C4 : ∀ px : Pst wr, px.W.cell? ⟨B, off + b * 7 + 4, none⟩ = some (.int .i64 x.state) := fun px => px.cell c4 hB
        have C5 : ∀ px : Pst wr, px.W.cell? ⟨B, off + b * 7 + 5, none⟩ = some (.bool x.ending) := fun px => px.cell c5 hB
        have C6 : ∀ px : Pst wr, px.W.cell? ⟨B, off + b * 7 + 6, none⟩ = some (.string x.berth) := fun px => px.cell c6 hB
        have hm0 : (0 : Int) ≤ (b : Int) := by omega
        have hm3 : (b : Int) < (l.length : Int) := by omega
        clear y0 y1 y2 y3 y4 y5 y6 c0 c1 c2 c3 c4 c5 c6 hB yz
        by_cases hz : r = 0
        all_goals
          have HE : Hid (R = decide (r = 0)) := HRR.out
          go_wp2_with fail
          refine region_class wr (Below.refl _ _) (by kernel_rfl) (by kernel_rfl) ?_
          repeat (first
            | go_big_quiet_skip
            | (go_big_quiet_want; go_big_quiet_op; first | go_big_quiet_on | (apply Exists.intro; refine ⟨fun px => ?_, ?_⟩; (focus (go_at_call 76; refine (HX.out _).mono ?_; rintro e w' ⟨he, hb⟩; exact ⟨he, ⟨w', blw_trans px.ok hb⟩, rfl⟩)); go_big_quiet_on)))
          refine wpQuiet_nil ?_
          intro _ hw'
          obtain ⟨x6, hw''⟩ := hw'
          subst hw''
          go_wp2
          go_ret2
          exact ⟨by rw [HE.out]; simp [hz], blw_trans HW0.out x6.ok⟩
      · have HE : Hid (R = false) := by show R = false; rw [HR.out]; simp [hpl]
        have hNE := pst_some wr
        go_wp2_with fail
        refine region_class wr (Below.refl _ _) (by kernel_rfl) (by kernel_rfl) ?_
        repeat (first
          | go_big_quiet_skip
          | (go_big_quiet_want; go_big_quiet_op; go_big_quiet_on))
        refine wpQuiet_nil ?_
        intro _ hw'
        obtain ⟨x6, hw''⟩ := hw'
        subst hw''
        go_wp2
        go_ret2
        refine ⟨?_, blw_trans HW0.out x6.ok⟩
        rw [HE.out]
        have : b = l.length := by omega
        simp [this]

end Go.Proofs.YtclagbakddkjcaaGreat

namespace Go.Proofs.YtclagbakddkjcaaGreat
open Go.RowKit Go.Deep

def placeAt (l : List Cp) (svc : ByteArray) (num : Int) : Nat := l.findIdx fun x => !decide (cpCmp x.svc x.num svc num < 0)
theorem placeAt_le (l : List Cp) (svc : ByteArray) (num : Int) : placeAt l svc num ≤ l.length := List.findIdx_le_length
theorem placeAt_lt (l : List Cp) (svc : ByteArray) (num : Int) : ∀ i, i < placeAt l svc num → cpCmp (l.getD i Cp.none).svc (l.getD i Cp.none).num svc num < 0 := by
  intro i hi
  have hl : i < l.length := Nat.lt_of_lt_of_le hi (placeAt_le l svc num)
  have := List.not_of_lt_findIdx hi
  have e : l.getD i Cp.none = l[i] := by simp [hl]
  rw [e]
  simpa using this
theorem placeAt_ge {l : List Cp} (h : ascCp l = true) (svc : ByteArray) (num : Int) : ∀ i, placeAt l svc num ≤ i → i < l.length → 0 ≤ cpCmp (l.getD i Cp.none).svc (l.getD i Cp.none).num svc num := by
  intro i hi hl
  have hp : placeAt l svc num < l.length := by omega
  have h0 : 0 ≤ cpCmp (l.getD (placeAt l svc num) Cp.none).svc (l.getD (placeAt l svc num) Cp.none).num svc num := by
    have := List.findIdx_getElem (w := hp)
    have e : l.getD (placeAt l svc num) Cp.none = l[placeAt l svc num] := by simp [hp]
    rw [e]
    have q : (!decide (cpCmp l[placeAt l svc num].svc l[placeAt l svc num].num svc num < 0)) = true := this
    simp at q
    omega
  exact row_ge (lex_lin kc_lin num_lin) ((ascCp_iff l).1 h) (t := (svc.toList, num)) h0 i hi hl
theorem cmp_zero (x : Cp) (svc : ByteArray) (num : Int) : cpCmp x.svc x.num svc num = 0 ↔ (same x.svc svc && (x.num == num)) = true := by
  have := (lex_lin kc_lin num_lin).z (x.svc.toList, x.num) (svc.toList, num)
  refine Iff.trans this ?_
  simp [same]
theorem cpIx_place {l : List Cp} (h : ascCp l = true) (svc : ByteArray) (num : Int) :
    (decide (placeAt l svc num < l.length) && decide (cpCmp (l.getD (placeAt l svc num) Cp.none).svc (l.getD (placeAt l svc num) Cp.none).num svc num = 0)) = decide (0 ≤ cpIx l svc num) ∧ (0 ≤ cpIx l svc num → cpIx l svc num = (placeAt l svc num : Int) ∧ placeAt l svc num < l.length) := by
  have hno : ∀ i, cpCmp (l.getD i Cp.none).svc (l.getD i Cp.none).num svc num ≠ 0 → (same (l.getD i Cp.none).svc svc && ((l.getD i Cp.none).num == num)) = false := fun i hi => by
    rw [Bool.eq_false_iff]
    exact fun q => hi ((cmp_zero _ _ _).2 q)
  obtain ⟨p, hp⟩ : ∃ p, p = placeAt l svc num := ⟨_, rfl⟩
  have hlt := placeAt_lt l svc num
  have hge := placeAt_ge h svc num
  rw [← hp] at hlt hge ⊢
  by_cases h1 : p < l.length
  · by_cases h2 : cpCmp (l.getD p Cp.none).svc (l.getD p Cp.none).num svc num = 0
    · have e : cpIx l svc num = p := firstTo_hit h1 ((cmp_zero _ _ _).1 h2) fun i hi => hno i (by have := hlt i hi; omega)
      rw [e]
      exact ⟨by rw [decide_eq_true h1, decide_eq_true h2, decide_eq_true (show (0 : Int) ≤ (p : Int) by omega)]; rfl, fun _ => ⟨rfl, h1⟩⟩
    · have e : cpIx l svc num = -1 := firstTo_none fun i hi => by
        refine hno i fun q => ?_
        rcases Nat.lt_trichotomy i p with r | r | r
        · have := hlt i r; omega
        · subst r; exact h2 q
        · have k := row_lt (lex_lin kc_lin num_lin) ((ascCp_iff l).1 h) p i r hi
          have q' := ((lex_lin kc_lin num_lin).z ((l.getD i Cp.none).svc.toList, (l.getD i Cp.none).num) (svc.toList, num)).1 q
          have g : 0 ≤ lex kc numCmp ((l.getD p Cp.none).svc.toList, (l.getD p Cp.none).num) (svc.toList, num) := hge p (Nat.le_refl _) h1
          have k' : lex kc numCmp ((l.getD p Cp.none).svc.toList, (l.getD p Cp.none).num) ((l.getD i Cp.none).svc.toList, (l.getD i Cp.none).num) < 0 := k
          rw [q'] at k'
          omega
      rw [e]
      exact ⟨by rw [decide_eq_false h2, Bool.and_false]; rfl, fun q => absurd q (by decide)⟩
  · have e : cpIx l svc num = -1 := firstTo_none fun i hi => hno i (by have := hlt i (by omega); omega)
    rw [e]
    exact ⟨by rw [decide_eq_false h1, Bool.false_and]; rfl, fun q => absurd q (by decide)⟩

set_option maxRecDepth 8000 in
set_option maxHeartbeats 8000000 in
theorem copyPlaceI (K : SBk) (a0 a1 a2 : Option Addr) (c0 c1 c2 : Nat) (svc : ByteArray) (num : Int) (w : World) (h : CpsV w a1 K.cps) (hasc : ascCp K.cps = true) (hlen : K.cps.length ≤ 1048576) :
    Calls Tryz.prog 86 #[.agg #[.int .i64 K.now, .slice a0 K.svcs.length c0, .slice a1 K.cps.length c1, .slice a2 K.bts.length c2], .string svc, .int .i64 num] w fun e w' => e = .returned (.tuple #[.int .i64 (placeAt K.cps svc num : Nat), .bool (decide (0 ≤ cpIx K.cps svc num))]) ∧ Below w.heap.size w w' := by
  have HH := hid h
  have HA := hid hasc
  have HL := hid hlen
  clear h hasc hlen
  obtain ⟨wa, hwa⟩ : ∃ wa, wa = w.alloc (.cells #[.int .i64 K.now, .slice a0 K.svcs.length c0, .slice a1 K.cps.length c1, .slice a2 K.bts.length c2] 37) := ⟨_, rfl⟩
  have HB : Hid (Below w.heap.size w wa) := by show Below _ _ _; rw [hwa]; exact blw_alloc (Below.refl _ _) _
  have HX : Hid (Box4 wa w.heap.size (.int .i64 K.now) (.slice a0 K.svcs.length c0) (.slice a1 K.cps.length c1) (.slice a2 K.bts.length c2)) := by show Box4 _ _ _ _ _ _; rw [hwa]; exact Box4.new' w _ _ _ _ _ _ rfl
  go_enter Tryz.func86, Tryz.ntmps86
  go_upto_region 1 with fail
  rw [← hwa]
  clear hwa
  obtain ⟨yz, y0, y1, y2, y3⟩ := HX.out
  go_wp2_with fail
  refine (binCp a1 c1 K.cps svc num _ _ _ _ _ (placeAt K.cps svc num) wa (HH.out.later HB.out) HL.out (placeAt_le _ _ _) (placeAt_lt _ _ _) (placeAt_ge HA.out _ _)).mono ?_
  rintro e w1 ⟨rfl, hb1⟩
  rw [(cpIx_place HA.out svc num).1]
  go_wp2
  go_ret2
  exact ⟨rfl, blw_trans HB.out hb1⟩

/-- The place of a service, 0 where there is none. -/
def svAt (l : List Sv) (nm : ByteArray) : Int := if 0 ≤ svIx l nm then svIx l nm else 0

set_option maxRecDepth 8000 in
set_option maxHeartbeats 8000000 in
theorem servicePlaceI (K : SBk) (a0 a1 a2 : Option Addr) (c0 c1 c2 : Nat) (svc : ByteArray) (w : World) (h : SBkV w a0 a1 a2 K) (hap : Apart K) (hsz : svc.size ≤ maxLen) :
    Calls Tryz.prog 92 #[.agg #[.int .i64 K.now, .slice a0 K.svcs.length c0, .slice a1 K.cps.length c1, .slice a2 K.bts.length c2], .string svc] w fun e w' => e = .returned (.tuple #[.int .i64 (svAt K.svcs svc), .bool (decide (0 ≤ svIx K.svcs svc))]) ∧ Below w.heap.size w w' := by
  have HH := hid h
  have HA := hid hap
  have HL := hid hsz
  clear h hap hsz
  obtain ⟨wa, hwa⟩ : ∃ wa, wa = w.alloc (.cells #[.int .i64 K.now, .slice a0 K.svcs.length c0, .slice a1 K.cps.length c1, .slice a2 K.bts.length c2] 37) := ⟨_, rfl⟩
  have HB : Hid (Below w.heap.size w wa) := by show Below _ _ _; rw [hwa]; exact blw_alloc (Below.refl _ _) _
  have HX : Hid (Box4 wa w.heap.size (.int .i64 K.now) (.slice a0 K.svcs.length c0) (.slice a1 K.cps.length c1) (.slice a2 K.bts.length c2)) := by show Box4 _ _ _ _ _ _; rw [hwa]; exact Box4.new' w _ _ _ _ _ _ rfl
  go_enter Tryz.func92, Tryz.ntmps92
  go_upto_region 1 with fail
  rw [← hwa]
  clear hwa
  obtain ⟨yz, y0, y1, y2, y3⟩ := HX.out
  go_wp2_with fail
  refine (placesI K a0 a1 a2 c0 c1 c2 wa (HH.out.later HB.out) HA.out).mono ?_
  rintro e w1 ⟨mb, rfl, hpl, hb1⟩
  have HLK := hid (look_sv hpl HH.out.nmd HA.out svc HL.out)
  have HB1 := hid (blw_trans HB.out hb1)
  clear yz y0 y1 y2 y3 hb1 hpl
  rcases HLK.out with ⟨hix, hlk⟩ | ⟨k, hk, hix, hnm, hlk⟩
  · have HE : Hid (svAt K.svcs svc = 0 ∧ decide (0 ≤ svIx K.svcs svc) = false) := by show _ ∧ _; unfold svAt; rw [hix]; exact ⟨rfl, rfl⟩
    clear hix HLK
    go_wp2
    go_ret2
    exact ⟨by rw [HE.out.1, HE.out.2]; rfl, HB1.out⟩
  · have HE : Hid (svAt K.svcs svc = (k : Int) ∧ decide (0 ≤ svIx K.svcs svc) = true) := by show _ ∧ _; unfold svAt; rw [hix, if_pos (by omega)]; exact ⟨rfl, by simp⟩
    clear hix HLK hnm hk
    go_wp2
    go_ret2
    exact ⟨by rw [HE.out.1, HE.out.2]; rfl, HB1.out⟩


end Go.Proofs.YtclagbakddkjcaaGreat

namespace Go.Proofs.YtclagbakddkjcaaGreat
open Go.RowKit Go.Deep

theorem BelX.lo {g lo : Nat} {W W' : World} (h : BelX g W W') (hg : lo ≤ g) (hl : lo ≤ W.heap.size) : Below lo W W' := ⟨h.os, h.tape, h.output, h.size, fun q hq => h.block q (by omega) (by omega)⟩
theorem BelO.lo {p : Option Addr} {lo : Nat} {W W' : World} (h : BelO p W W') (hg : ∀ g, p = some ⟨g, 0, none⟩ → lo ≤ g) (hl : lo ≤ W.heap.size) : Below lo W W' := ⟨h.os, h.tape, h.output, h.size, fun q hq => h.block q (by omega) (fun g e => by have := hg g e; omega)⟩
set_option maxRecDepth 8000 in
set_option maxHeartbeats 8000000 in
theorem codeI {lo px : Nat} {t : TypeId} {ex : List Value} {W : World} {now : Int} {sv : List Sv} {cp : List Cp} {bt : List Bt} {p0 p1 p2 : Option Addr} {n0 n1 n2 q0 q1 q2 : Nat} (h : XG lo px t ex W now sv cp bt p0 p1 p2 n0 n1 n2 q0 q1 q2) :
    Calls Tryz.prog 85 #[.pointer (some ⟨px, 0, none⟩)] W fun e W' => e = .returned (.int .i64 (if sbOk ⟨now, sv, cp, bt⟩ then 0 else 2)) ∧ Below W.heap.size W W' := by
  obtain ⟨r, hr⟩ : ∃ r : Int, r = (if sbOk ⟨now, sv, cp, bt⟩ then 0 else 2) := ⟨_, rfl⟩
  rw [← hr]
  have HRE := hid hr
  clear hr
  have HV := hid h.v
  have l0 := h.l0
  have l1 := h.l1
  have l2 := h.l2
  have x0 := h.cell 0 _ rfl
  have x1 := h.cell 1 _ rfl
  have x2 := h.cell 2 _ rfl
  have x3 := h.cell 3 _ rfl
  have xz := lt_heap h.bx
  subst l0 l1 l2
  clear h
  go_enter Tryz.func85, Tryz.ntmps85
  go_wp2_with fail
  refine (stewValidV ⟨now, sv, cp, bt⟩ p0 p1 p2 q0 q1 q2 W HV.out).mono ?_
  rintro e W1 ⟨rfl, hb⟩
  clear x0 x1 x2 x3 xz
  cases hok : sbOk ⟨now, sv, cp, bt⟩
  · have HR : Hid (r = 2) := by show _ = _; rw [HRE.out, hok]; rfl
    go_wp2
    go_ret
    exact ⟨by rw [HR.out]; rfl, hb⟩
  · have HR : Hid (r = 0) := by show _ = _; rw [HRE.out, hok]; rfl
    go_wp2
    go_ret
    exact ⟨by rw [HR.out]; rfl, hb⟩

set_option maxRecDepth 8000 in
theorem isUpI (x : Cp) (w : World) : Calls Tryz.prog 87 #[.agg #[.string x.svc, .int .i64 x.num, .int .i64 x.ver, .int .i64 x.image, .int .i64 x.state, .bool x.ending, .string x.berth]] w fun e w' => e = .returned (.bool (x.state == 2 || x.state == 3)) ∧ Below w.heap.size w w' := by
  obtain ⟨r, hr⟩ : ∃ r : Bool, r = (x.state == 2 || x.state == 3) := ⟨_, rfl⟩
  rw [← hr]
  have HRE := hid hr
  clear hr
  obtain ⟨wa, hwa⟩ : ∃ wa, wa = w.alloc (.cells #[.string x.svc, .int .i64 x.num, .int .i64 x.ver, .int .i64 x.image, .int .i64 x.state, .bool x.ending, .string x.berth] 81) := ⟨_, rfl⟩
  have HB : Hid (Below w.heap.size w wa) := by show Below _ _ _; rw [hwa]; exact blw_alloc (Below.refl _ _) _
  have hL : LBox wa w.heap.size [.string x.svc, .int .i64 x.num, .int .i64 x.ver, .int .i64 x.image, .int .i64 x.state, .bool x.ending, .string x.berth] := by rw [hwa]; exact LBox.new _ _ _ _ rfl
  have c4 := hL.get 4 _ rfl
  have cz := hL.lt
  clear hL
  go_enter Tryz.func87, Tryz.ntmps87
  go_upto_region 1 with fail
  rw [← hwa]
  clear hwa
  cases h2 : (x.state == 2)
  · have HR : Hid (r = (x.state == 3)) := by show _ = _; rw [HRE.out, h2]; rfl
    go_wp2
    go_ret
    exact ⟨by rw [HR.out]; rfl, HB.out⟩
  · have HR : Hid (r = true) := by show _ = _; rw [HRE.out, h2]; rfl
    go_wp2
    go_ret
    exact ⟨by rw [HR.out]; rfl, HB.out⟩

set_option maxRecDepth 8000 in
theorem del80 (x : Cp) (w : World) : Calls Tryz.prog 80 (#[.agg #[.string x.svc, .int .i64 x.num, .int .i64 x.ver, .int .i64 x.image, .int .i64 x.state, .bool x.ending, .string x.berth]] ++ #[]) w fun e w' => e = .returned (.bool x.ending) ∧ Below w.heap.size w w' := by
  obtain ⟨wa, hwa⟩ : ∃ wa, wa = w.alloc (.cells #[.string x.svc, .int .i64 x.num, .int .i64 x.ver, .int .i64 x.image, .int .i64 x.state, .bool x.ending, .string x.berth] 81) := ⟨_, rfl⟩
  have HB : Hid (Below w.heap.size w wa) := by show Below _ _ _; rw [hwa]; exact blw_alloc (Below.refl _ _) _
  have hL : LBox wa w.heap.size [.string x.svc, .int .i64 x.num, .int .i64 x.ver, .int .i64 x.image, .int .i64 x.state, .bool x.ending, .string x.berth] := by rw [hwa]; exact LBox.new _ _ _ _ rfl
  have c5 := hL.get 5 _ rfl
  have cz := hL.lt
  clear hL
  go_enter Tryz.func80, Tryz.ntmps80
  go_upto_region 1 with fail
  rw [← hwa]
  clear hwa
  go_wp2
  go_ret
  exact ⟨rfl, HB.out⟩
set_option maxRecDepth 8000 in
theorem del100 (x : Bt) (w : World) : Calls Tryz.prog 100 (#[.agg #[.string x.nm, .bool x.drain]] ++ #[]) w fun e w' => e = .returned (.bool x.drain) ∧ Below w.heap.size w w' := by
  obtain ⟨wa, hwa⟩ : ∃ wa, wa = w.alloc (.cells #[.string x.nm, .bool x.drain] 79) := ⟨_, rfl⟩
  have HB : Hid (Below w.heap.size w wa) := by show Below _ _ _; rw [hwa]; exact blw_alloc (Below.refl _ _) _
  have hL : LBox wa w.heap.size [.string x.nm, .bool x.drain] := by rw [hwa]; exact LBox.new _ _ _ _ rfl
  have c5 := hL.get 1 _ rfl
  have cz := hL.lt
  clear hL
  go_enter Tryz.func100, Tryz.ntmps100
  go_upto_region 1 with fail
  rw [← hwa]
  clear hwa
  go_wp2
  go_ret
  exact ⟨rfl, HB.out⟩

def V89 (w : World) (px : Nat) (x : Cp) (nm : ByteArray) (i : Nat) (u : Value) (_ : World) : Prop := match i with
  | 0 => u = .pointer (some ⟨w.heap.size, 6, none⟩)
  | 1 => u = .string x.berth
  | 2 => u = .pointer (some ⟨px, 0, none⟩)
  | 3 => u = .pointer (some ⟨px, 0, none⟩)
  | 4 => u = .pointer (some ⟨px, 4, none⟩)
  | 5 => u = .string nm
  | 6 => u = .bool (x.berth.toList == nm.toList)
  | 7 => u = .bool (x.berth.toList == nm.toList)
  | _ => True
set_option maxRecDepth 8000 in
set_option maxHeartbeats 8000000 in
theorem del89 (x : Cp) (pe px : Nat) (nm : ByteArray) (w : World) (h1 : w.cell? ⟨pe, 0, none⟩ = some (.pointer (some ⟨px, 0, none⟩))) (hpe : pe < w.heap.size) (h2 : w.cell? ⟨px, 4, none⟩ = some (.string nm)) (hpx : px < w.heap.size) :
    Calls Tryz.prog 89 (#[.agg #[.string x.svc, .int .i64 x.num, .int .i64 x.ver, .int .i64 x.image, .int .i64 x.state, .bool x.ending, .string x.berth]] ++ #[.pointer (some ⟨pe, 0, none⟩)]) w fun e w' => e = .returned (.bool (same x.berth nm)) ∧ Below w.heap.size w w' := by
  obtain ⟨wa, hwa⟩ : ∃ wa, wa = w.alloc (.cells #[.string x.svc, .int .i64 x.num, .int .i64 x.ver, .int .i64 x.image, .int .i64 x.state, .bool x.ending, .string x.berth] 81) := ⟨_, rfl⟩
  have hb : Below w.heap.size w wa := by rw [hwa]; exact blw_alloc (Below.refl _ _) _
  have hL : LBox wa w.heap.size [.string x.svc, .int .i64 x.num, .int .i64 x.ver, .int .i64 x.image, .int .i64 x.state, .bool x.ending, .string x.berth] := by rw [hwa]; exact LBox.new _ _ _ _ rfl
  have C6 := hL.get 6 _ rfl
  have CZ := hL.lt
  have H1 := (hb.cell (p := ⟨pe, 0, none⟩) hpe).trans h1
  have H2 := (hb.cell (p := ⟨px, 4, none⟩) hpx).trans h2
  have hpe' := Nat.lt_of_lt_of_le hpe hb.size
  have hpx' := Nat.lt_of_lt_of_le hpx hb.size
  have HB := hid hb
  clear hL hb h1 h2 hpe hpx
  go_enter Tryz.func89, Tryz.ntmps89
  go_upto_region 1 with fail
  rw [← hwa]
  clear hwa
  refine RY.region_past wa (Below.refl _ _) (V89 w px x nm) (fun j u W W' _ h => h) (by kernel_rfl) (by kernel_rfl) (by kernel_rfl) (by kernel_rfl) ?_ ?_
  · intro i o ho a W hW hk hd
    have c6 : W.cell? ⟨w.heap.size, 6, none⟩ = some (.string x.berth) := (hW.cell (p := ⟨w.heap.size, 6, none⟩) CZ).trans C6
    have c1 : W.cell? ⟨pe, 0, none⟩ = some (.pointer (some ⟨px, 0, none⟩)) := (hW.cell (p := ⟨pe, 0, none⟩) hpe').trans H1
    have c2 : W.cell? ⟨px, 4, none⟩ = some (.string nm) := (hW.cell (p := ⟨px, 4, none⟩) hpx').trans H2
    match i, ho with
    | 0, ho =>
      injection ho with ho; subst ho
      have e0 : a.tmps[2]?.getD undef = .pointer (some ⟨w.heap.size, 0, none⟩) := (RY.ev_tmp a 2).trans ((hk 2 (by kernel_rfl)).trans rfl)
      exact Or.inl ⟨.pointer (some ⟨w.heap.size, 6, none⟩), W, by simp [execOp, go_sem, e0], Below.refl _ _, rfl⟩
    | 1, ho =>
      injection ho with ho; subst ho
      have d0 := hd 0 _ 4 rfl rfl ⟨⟨0, .data⟩, by simp, rfl, rfl⟩
      have e0 : a.tmps[4]?.getD undef = .pointer (some ⟨w.heap.size, 6, none⟩) := (RY.ev_tmp a 4).trans d0
      exact Or.inl ⟨.string x.berth, W, by simp [execOp, go_sem, e0, c6], Below.refl _ _, rfl⟩
    | 2, ho =>
      injection ho with ho; subst ho
      have e0 : a.tmps[1]?.getD undef = .pointer (some ⟨pe, 0, none⟩) := (RY.ev_tmp a 1).trans ((hk 1 (by kernel_rfl)).trans rfl)
      exact Or.inl ⟨.pointer (some ⟨px, 0, none⟩), W, by simp [execOp, go_sem, e0, c1], Below.refl _ _, rfl⟩
    | 3, ho =>
      injection ho with ho; subst ho
      have d0 := hd 2 _ 6 rfl rfl ⟨⟨2, .data⟩, by simp, rfl, rfl⟩
      have e0 : a.tmps[6]?.getD undef = .pointer (some ⟨px, 0, none⟩) := (RY.ev_tmp a 6).trans d0
      exact Or.inl ⟨.pointer (some ⟨px, 0, none⟩), W, by simp [execOp, go_sem, e0], Below.refl _ _, rfl⟩
    | 4, ho =>
      injection ho with ho; subst ho
      have d0 := hd 3 _ 7 rfl rfl ⟨⟨3, .data⟩, by simp, rfl, rfl⟩
      have e0 : a.tmps[7]?.getD undef = .pointer (some ⟨px, 0, none⟩) := (RY.ev_tmp a 7).trans d0
      exact Or.inl ⟨.pointer (some ⟨px, 4, none⟩), W, by simp [execOp, go_sem, e0], Below.refl _ _, rfl⟩
    | 5, ho =>
      injection ho with ho; subst ho
      have d0 := hd 4 _ 8 rfl rfl ⟨⟨4, .data⟩, by simp, rfl, rfl⟩
      have e0 : a.tmps[8]?.getD undef = .pointer (some ⟨px, 4, none⟩) := (RY.ev_tmp a 8).trans d0
      exact Or.inl ⟨.string nm, W, by simp [execOp, go_sem, e0, c2], Below.refl _ _, rfl⟩
    | 6, ho =>
      injection ho with ho; subst ho
      have d0 := hd 1 _ 5 rfl rfl ⟨⟨1, .data⟩, by simp, rfl, rfl⟩
      have e0 : a.tmps[5]?.getD undef = .string x.berth := (RY.ev_tmp a 5).trans d0
      have d1 := hd 5 _ 9 rfl rfl ⟨⟨5, .data⟩, by simp, rfl, rfl⟩
      have e1 : a.tmps[9]?.getD undef = .string nm := (RY.ev_tmp a 9).trans d1
      exact Or.inl ⟨.bool (x.berth.toList == nm.toList), W, by simp [execOp, go_sem, e0, e1], Below.refl _ _, rfl⟩
    | 7, ho =>
      injection ho with ho; subst ho
      have d0 := hd 6 _ 10 rfl rfl ⟨⟨6, .data⟩, by simp, rfl, rfl⟩
      have e0 : a.tmps[10]?.getD undef = .bool (x.berth.toList == nm.toList) := (RY.ev_tmp a 10).trans d0
      exact Or.inl ⟨.bool (x.berth.toList == nm.toList), W, by simp [execOp, go_sem, e0], Below.refl _ _, rfl⟩
    | n + 8, ho => simp at ho
  intro W vs hb hvs
  have el : vs 3 = .bool (x.berth.toList == nm.toList) := hvs 7 _ 3 rfl rfl
  simp only [RY.putAll, Act.put, List.setIfInBounds_toArray, List.set_cons_zero, List.set_cons_succ]
  rw [el]
  generalize vs 4 = s4
  generalize vs 5 = s5
  generalize vs 6 = s6
  generalize vs 7 = s7
  generalize vs 8 = s8
  generalize vs 9 = s9
  generalize vs 10 = s10
  clear hvs el
  have HB2 := hid (blw_trans HB.out hb)
  clear hb
  go_wp2
  go_ret
  exact ⟨rfl, HB2.out⟩

end Go.Proofs.YtclagbakddkjcaaGreat
