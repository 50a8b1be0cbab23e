/-
  What most disks have: the program.
-/
import Derived.Test.YtcefgacmagobnaaKMp
import Derived.Test.YtcefgacmagobnaaKMs
import Derived.Test.YtcefgacmagobnaaKXi
import Derived.Test.YtcefgacmagobnaaKBw
import Derived.Test.YtcefgacmagobnaaKV
import Derived.Test.YtcefgacmagobnaaRvI
namespace Go.Proofs.Ytcefgacmagobnaa
open Go.RowKit Go.Deep


/-- A valid recorder's slots fit. -/
theorem slot_fit {K : Rr} (h : recOk K = true) (m : Nat) (hm : m < K.safe.slots.length) : fitS (K.safe.slots.getD m Rs.none) := by
  have h1 := (rec_disk h).1
  simp only [diskOk, slotsOk, Bool.and_eq_true, decide_eq_true_eq, allTo_iff] at h1
  have h2 := h1.1.1.2.2 m hm
  simp only [slotOk, inB, Bool.and_eq_true, decide_eq_true_eq] at h2
  exact ⟨h2.1.1.1, h2.1.1.2, by have := h2.1.2; unfold maxLen; omega⟩

structure Tc (v : World) (mb : Nat) (o0 o1 o2 : Obj) (up : Nat → Bool) (vals : Nat → Value) (W : World) : Prop where
  mw : MW v mb W
  at_ : W.heap[mb]? = some (if up 6 then o2 else if up 4 then o1 else o0)
theorem Tc.pure {v : World} {mb : Nat} {o0 o1 o2 : Obj} {up : Nat → Bool} {vals vals' : Nat → Value} {W : World} (h : Tc v mb o0 o1 o2 up vals W) (i : Nat) (h4 : i ≠ 4) (h6 : i ≠ 6) : Tc v mb o0 o1 o2 (fun j => (j == i) || up j) vals' W := by
  refine ⟨h.mw, ?_⟩
  have e6 : ((6 == i) || up 6) = up 6 := by rw [show (6 == i) = false by simpa using fun e => h6 e.symm]; rfl
  have e4 : ((4 == i) || up 4) = up 4 := by rw [show (4 == i) = false by simpa using fun e => h4 e.symm]; rfl
  show W.heap[mb]? = some (if ((6 == i) || up 6) then o2 else if ((4 == i) || up 4) then o1 else o0)
  rw [e6, e4]; exact h.at_
def Vc (mb : Nat) (s : Rs) (n : Int) (st : Nat) : Nat → Value → Prop
  | 0, u => u = .map (some mb)
  | 1, u => u = sk s
  | 2, u => u = .int .i64 n
  | 3, u => u = .int .i64 (n + 1)
  | 4, u => ∃ v0, u = .tuple #[v0, .int .i64 (st : Nat)]
  | 5, u => u = .int .i64 (st : Nat)
  | _, _ => True

noncomputable def mjR : Code → List Oper
  | .region _ ops _ => ops.toList
  | _ => []
theorem mjR_eq (i : Nat) (ops : Array Oper) (b : Bool) : mjR (.region i ops b) = ops.toList := rfl

set_option maxRecDepth 8000 in
set_option maxHeartbeats 16000000 in
theorem majorOfI (l : List Rr) (m : Nat) (a : Option Addr) (c : Nat) (w : World) (h : RrsV w a l) (hok : ∀ i, i < l.length → recOk (l.getD i Rr.nil) = true) (hm : m < 1000000) :
    Calls Try.prog 34 #[.slice a l.length c, .int .i64 ((m : Int) + 1)] w fun e w' => e = .returned (.tuple #[.string (major l ((m : Int) + 1)).1, .bool (major l ((m : Int) + 1)).2]) ∧ Below w.heap.size w w' := by
  have HH := hid h
  have HOK := hid hok
  have hl0 := h.len
  clear h hok
  rw [← major_eq]
  obtain ⟨R, hR⟩ : ∃ R, R = majorP l ((m : Int) + 1) := ⟨_, rfl⟩
  have HR : Hid (R = majOf l ((m : Int) + 1) (firstTo (majAtP l ((m : Int) + 1)) l.length)) := hR
  rw [← hR]
  clear hR
  obtain ⟨wa, hwa⟩ : ∃ wa, wa = w.alloc (.map #[] 0) := ⟨_, rfl⟩
  obtain ⟨mb, hmb⟩ : ∃ mb, mb = w.heap.size := ⟨_, rfl⟩
  have HB : Hid (Below w.heap.size w wa) := by show Below _ _ _; rw [hwa]; exact blw_alloc (Below.refl _ _) _
  have HM0 : Hid (CtAt wa mb (fun s => ((cntI l ((m : Int) + 1) s 0 : Nat) : Int))) := ⟨#[], 0, by rw [hwa, hmb]; exact heap_alloc_new w _, goodC_none⟩
  have HMB : Hid (w.heap.size ≤ mb) := by show _ ≤ _; omega
  have hmk : ∀ W : World, (Instr.makeMap 111 none).run Try.prog W = .ok (.map (some W.heap.size)) (W.alloc (.map #[] 0)) := fun W => by kernel_rfl
  go_enter Try.func34, Try.ntmps34
  go_upto_region 2 with fail
  rw [← hwa, ← hmb]
  clear hwa hmb hmk
  go_wp2
  go_loopw [8, 9, 13] (fun _ _ i wr => ∃ q : Nat, q ≤ l.length ∧ i = .int .i64 q ∧ (∀ j, j < q → majAtP l ((m : Int) + 1) j = false) ∧ CtAt wr mb (fun s => ((cntI l ((m : Int) + 1) s q : Nat) : Int)) ∧ Below w.heap.size w wr) (fun _ _ i _ => l.length - (intOf i).toNat)
  case atStart => exact ⟨0, Nat.zero_le _, rfl, fun j hj => absurd hj (Nat.not_lt_zero _), HM0.out, HB.out⟩
  case round =>
    obtain ⟨q, hq, rfl, ha, hC, hW⟩ := hrel
    have HQ := hid ha
    have HB2 := hid hW
    have HC2 := hid hC
    clear ha hW hC HB HM0
    by_cases hlt : q < l.length
    · obtain ⟨b, off, ve, hab, hbl, hlen, hrg, hE, hwt⟩ := (HH.out.later HB2.out).spec q hlt
      subst hab
      obtain ⟨x, hx⟩ : ∃ x : Rr, x = l.getD q Rr.nil := ⟨_, rfl⟩
      rw [← hx] at hE hwt
      have HL := hid hlen
      have HRW := hid hE
      have HWT := hid hwt
      have HOX : Hid (recOk x = true) := by show _ = _; rw [hx]; exact HOK.out q hlt
      have HIx : Hid (inI l ((m : Int) + 1) q = decide ((m : Int) + 1 ≤ (x.safe.slots.length : Int))) := by show _ = _; rw [inI, ← hx]
      have HSx : Hid (slotI l ((m : Int) + 1) q = x.safe.slots.getD m Rs.none) := by show _ = _; rw [slotI, ← hx]; congr 1
      have hm0 : (0 : Int) ≤ (q : Int) := by omega
      have hm3 : (q : Int) < (l.length : Int) := by omega
      obtain ⟨wb, hwb⟩ : ∃ wb, wb = (wr.alloc (.cells #[.int .i64 0, .int .i64 0, .bool false, .int .i64 0, .int .i64 0, .slice none 0 0, .int .i64 0, .int .i64 0, .slice none 0 0, .slice none 0 0, .slice none 0 0, .bool false, .bool false, .int .i64 0, .slice none 0 0, .slice none 0 0, .slice none 0 0, .int .i64 0] 52)).setCells wr.heap.size 0 ve := ⟨_, rfl⟩
      have hth := nv_there wr #[.int .i64 0, .int .i64 0, .bool false, .int .i64 0, .int .i64 0, .slice none 0 0, .int .i64 0, .int .i64 0, .slice none 0 0, .slice none 0 0, .slice none 0 0, .bool false, .bool false, .int .i64 0, .slice none 0 0, .slice none 0 0, .slice none 0 0, .int .i64 0] 52 ve (by rw [HL.out]; rfl)
      have hone := all_oneCell_toArray hE.one
      have hsz : (Try.prog.info? 52).map (·.size) = some ve.toArray.size := by rw [List.size_toArray, HL.out]; kernel_rfl
      have hby : Below wr.heap.size wr wb := by rw [hwb]; exact nv_below wr #[.int .i64 0, .int .i64 0, .bool false, .int .i64 0, .int .i64 0, .slice none 0 0, .int .i64 0, .int .i64 0, .slice none 0 0, .slice none 0 0, .slice none 0 0, .bool false, .bool false, .int .i64 0, .slice none 0 0, .slice none 0 0, .slice none 0 0, .int .i64 0] 52 ve
      have HY : Hid (LBox wb wr.heap.size ve) := by show LBox _ _ _; rw [hwb]; exact nv_box wr #[.int .i64 0, .int .i64 0, .bool false, .int .i64 0, .int .i64 0, .slice none 0 0, .int .i64 0, .int .i64 0, .slice none 0 0, .slice none 0 0, .slice none 0 0, .bool false, .bool false, .int .i64 0, .slice none 0 0, .slice none 0 0, .slice none 0 0, .int .i64 0] 52 ve (by rw [HL.out]; rfl)
      have HB3 := hid (blw_trans HB2.out hby)
      have HC3 := hid (HC2.out.later hby)
      have HRW3 := hid (HRW.out.later hby)
      clear hx hE hwt hlen HB2 HC2 hby HRW
      go_upto_region 5 with (first | refine wpList_load_mid rfl 52 _ rfl b (off + q * 18) rfl ve _ hrg Try.underlying52 rfl (by rw [HL.out]; kernel_rfl) ?_ | refine wpList_store_mid rfl 52 _ _ rfl wr.heap.size 0 ve.toArray rfl rfl hth hsz hone ?_)
      first | rw [← hwb] | (simp only [List.toList_toArray]; rw [← hwb])
      clear hwb hth hone hsz hrg hbl
      obtain ⟨b0, b1, b2, b3, b4, b5, b6, d0, d1, d2, d3, d4, d5, d6, hve, hv, z0, z1, z3⟩ := vRr HRW3.out HWT.out
      have HV0 := hid hv.l0
      have yz := HY.out.lt
      have y5 := HY.out.get 5 (.slice b0 x.safe.slots.length d0) (by rw [hve]; rfl)
      have HY5 : Hid (∀ W, LBox W wr.heap.size ve → W.cell? ⟨wr.heap.size, 5, none⟩ = some (.slice b0 x.safe.slots.length d0)) := fun W hW => hW.get 5 _ (by rw [hve]; rfl)
      clear hve hv z0 z1 z3
      by_cases h2 : (x.safe.slots.length : Int) < (m : Int) + 1
      · have HN : Hid (∀ j, j < q + 1 → majAtP l ((m : Int) + 1) j = false) := fun j hj => by
          by_cases e : j = q
          · subst e; unfold majAtP hasI; rw [HIx.out, decide_eq_false (p := (m : Int) + 1 ≤ (x.safe.slots.length : Int)) (by omega), Bool.and_false]; rfl
          · exact HQ.out j (by omega)
        have HC4 : Hid (CtAt wb mb (fun s => ((cntI l ((m : Int) + 1) s (q + 1) : Nat) : Int))) := by
          refine HC3.out.ext fun s => ?_
          unfold cntI
          rw [cntP, hasI, HIx.out, decide_eq_false (p := (m : Int) + 1 ≤ (x.safe.slots.length : Int)) (by omega), Bool.and_false]; simp
        go_wp2
        go_roundw
        case rel => exact ⟨q + 1, by omega, by go_num, HN.out, HC4.out, HB3.out⟩
        case measure => simp [intOf]; omega
      have hmx : m < x.safe.slots.length := by omega
      obtain ⟨bs, os, hes, hbs, e0, e1, e2⟩ := HV0.out.at_ m hmx
      subst hes
      have HFT := hid (slot_fit HOX.out m hmx)
      obtain ⟨z, hz⟩ : ∃ z : Rs, z = x.safe.slots.getD m Rs.none := ⟨_, rfl⟩
      rw [← hz] at e0 e1 e2 HFT
      have HSZ : Hid (slotI l ((m : Int) + 1) q = z) := by show _ = _; rw [HSx.out, hz]
      have hm6 : (0 : Int) ≤ (m : Int) := by omega
      have hm7 : (m : Int) < (x.safe.slots.length : Int) := by omega
      have hm8 : ((m : Int) + 1 - 1) = (m : Int) := by omega
      have HCE := hid (isEmptyI z)
      have HBS := hid hbs
      clear hz
      have y5' := y5
      go_wp2_with fail
      refine (HCE.out wb).mono ?_
      rintro e w1 ⟨rfl, hb⟩
      have HB4 := hid (blw_trans HB3.out hb)
      have HC4 := hid (HC3.out.later hb)
      have HY4 := hid (HY.out.later hb)
      have HBS4 : Hid (bs < w1.heap.size) := Nat.lt_of_lt_of_le HBS.out hb.size
      have HE0 : Hid (w1.cell? ⟨bs, os + m * 2, none⟩ = some (.int .i64 z.bal)) := (hb.cell (p := ⟨bs, os + m * 2, none⟩) HBS.out).trans e0
      have HE1 : Hid (w1.cell? ⟨bs, os + m * 2 + 1, none⟩ = some (.string z.txt)) := (hb.cell (p := ⟨bs, os + m * 2 + 1, none⟩) HBS.out).trans e1
      clear hb e0 e1 e2 yz y5 y5' hbs HCE HB3 HC3 HY HRW3 HBS
      cases hb0 : (z.bal == 0)
      rotate_left
      · have HN : Hid (∀ j, j < q + 1 → majAtP l ((m : Int) + 1) j = false) := fun j hj => by
          by_cases e : j = q
          · subst e; unfold majAtP hasI; rw [HSZ.out, hb0]; simp
          · exact HQ.out j (by omega)
        have HC5 : Hid (CtAt w1 mb (fun s => ((cntI l ((m : Int) + 1) s (q + 1) : Nat) : Int))) := by
          refine HC4.out.ext fun s => ?_
          unfold cntI
          rw [cntP, hasI, HSZ.out, hb0]; simp
        go_wp2
        go_roundw
        case rel => exact ⟨q + 1, by omega, by go_num, HN.out, HC5.out, HB4.out⟩
        case measure => simp [intOf]; omega
      have HHA : Hid (hasI l ((m : Int) + 1) q = true) := by
        show _ = _
        unfold hasI; rw [HSZ.out, hb0, HIx.out, decide_eq_true (p := (m : Int) + 1 ≤ (x.safe.slots.length : Int)) (by omega), decide_eq_true (p := (1 : Int) ≤ (m : Int) + 1) (by omega)]; rfl
      have yz := HY4.out.lt
      have y5 := HY5.out _ HY4.out
      have hbs := HBS4.out
      have e0 := HE0.out
      have e1 := HE1.out
      obtain ⟨w2, hw2⟩ : ∃ w2, w2 = w1.alloc (.cells #[.int .i64 z.bal, .string z.txt] 110) := ⟨_, rfl⟩
      have hb2 : Below w1.heap.size w1 w2 := by rw [hw2]; exact blw_alloc (Below.refl _ _) _
      have HSB : Hid (LBox w2 w1.heap.size [.int .i64 z.bal, .string z.txt]) := by show LBox _ _ _; rw [hw2]; exact LBox.new w1 #[.int .i64 z.bal, .string z.txt] _ _ rfl
      have HB5 := hid (blw_trans HB4.out hb2)
      have HC5 := hid (HC4.out.later hb2)
      have HNE : Hid (w1.heap.size ≠ mb) := by have := HC4.out.lt; show _ ≠ _; omega
      go_upto_region 7 with fail
      rw [← hw2]
      clear hw2 hb2 yz y5 hbs e0 e1 HE0 HE1 HBS4 HY4 HB4 HC4
      obtain ⟨p9, hp9⟩ : ∃ p9, p9 = w1.heap.size := ⟨_, rfl⟩
      rw [← hp9] at HSB HNE ⊢
      clear hp9
      obtain ⟨n, hn⟩ : ∃ n : Nat, n = cntI l ((m : Int) + 1) z q := ⟨_, rfl⟩
      have hnq : n ≤ q := by rw [hn]; exact cntP_le _ _
      obtain ⟨es, ck, hes, hG⟩ := HC5.out
      have hfz : (fun s => ((cntI l ((m : Int) + 1) s q : Nat) : Int)) z = (n : Int) := by rw [hn]
      obtain ⟨v0, st, es1, ck1, hme, hG1, hst⟩ := entry_goodC hG mb z HFT.out
      obtain ⟨es2, ck2, hG2, hms⟩ := hst ((n : Int) + 1)
      have hmlt : mb < w2.heap.size := HC5.out.lt
      have HG2 := hid hG2
      have HNN := hid hn
      have hwn : IntKind.i64.wrap ((n : Int) + 1) = (n : Int) + 1 := by simp [IntKind.wrap, IntKind.bits, IntKind.signed]; omega
      refine RY.region_T (Vc mb z (n : Int) st) (Tc w2 mb (.map es ck) (.map es1 ck1) (.map es2 ck2)) (by kernel_rfl) (by kernel_rfl) (by kernel_rfl) (by kernel_rfl) ?_ ?_ ?_
      · intro vals
        exact ⟨⟨rfl, rfl, rfl, Nat.le_refl _, hmlt, fun _ _ _ => rfl⟩, hes⟩
      · intro up vals i o ho hi hcl a W hk hd hT
        have c6_3 : up 6 = true → up 3 = true := hcl 6 _ ⟨3, .data⟩ rfl (by simp) rfl
        have c3_2 : up 3 = true → up 2 = true := hcl 3 _ ⟨2, .data⟩ rfl (by simp) rfl
        have c6_5 : up 6 = true → up 5 = true := hcl 6 _ ⟨5, .data⟩ rfl (by simp) rfl
        have c5_4 : up 5 = true → up 4 = true := hcl 5 _ ⟨4, .data⟩ rfl (by simp) rfl
        have et6 : a.tmps[6]?.getD undef = .map (some mb) := (RY.ev_tmp a 6).trans ((hk 6 rfl).trans rfl)
        match i, ho with
        | 0, ho =>
          injection ho with ho; subst ho
          exact Or.inl ⟨.map (some mb), W, by simp [execOp, go_sem, et6], rfl, rfl, hT.pure 0 (by decide) (by decide)⟩
        | 1, ho =>
          injection ho with ho; subst ho
          exact Or.inl ⟨sk z, W, exec_load_mid 110 _ rfl p9 0 ((hk 9 rfl).trans rfl) [.int .i64 z.bal, .string z.txt] _ (hT.mw.lbox HSB.out HNE.out).at_ Try.underlying110 rfl (by kernel_rfl), rfl, rfl, hT.pure 1 (by decide) (by decide)⟩
        | 2, ho =>
          injection ho with ho; subst ho
          have d0 := hd 0 _ 40 rfl rfl ⟨⟨0, .data⟩, by simp, rfl, rfl⟩
          have e0 : a.tmps[40]?.getD undef = .map (some mb) := (RY.ev_tmp a 40).trans (d0.2.1.trans d0.2.2)
          have d1 := hd 1 _ 41 rfl rfl ⟨⟨1, .data⟩, by simp, rfl, rfl⟩
          have e1 : a.tmps[41]?.getD undef = sk z := (RY.ev_tmp a 41).trans (d1.2.1.trans d1.2.2)
          have n6 : up 6 = false := by
            cases e : up 6
            · rfl
            · have := c3_2 (c6_3 e); rw [hi] at this; cases this
          have hlk : (Instr.lookup 111 (.map (some mb)) (sk z) false).run Try.prog W = .ok (.int .i64 (n : Int)) W := by
            have hat := hT.at_
            rw [n6] at hat
            cases e4 : up 4
            · rw [e4] at hat
              rw [← hfz]; exact look_goodC hG hat z HFT.out
            · rw [e4] at hat
              rw [← hfz]; exact look_goodC hG1 hat z HFT.out
          exact Or.inl ⟨.int .i64 (n : Int), W, by simp [execOp, go_sem, e0, e1, hlk], rfl, rfl, hT.pure 2 (by decide) (by decide)⟩
        | 3, ho =>
          injection ho with ho; subst ho
          have d0 := hd 2 _ 42 rfl rfl ⟨⟨2, .data⟩, by simp, rfl, rfl⟩
          have e0 : a.tmps[42]?.getD undef = .int .i64 (n : Int) := (RY.ev_tmp a 42).trans (d0.2.1.trans d0.2.2)
          exact Or.inl ⟨.int .i64 ((n : Int) + 1), W, by simp [execOp, go_sem, e0, hwn], rfl, rfl, hT.pure 3 (by decide) (by decide)⟩
        | 4, ho =>
          injection ho with ho; subst ho
          have d0 := hd 0 _ 40 rfl rfl ⟨⟨0, .data⟩, by simp, rfl, rfl⟩
          have e0 : a.tmps[40]?.getD undef = .map (some mb) := (RY.ev_tmp a 40).trans (d0.2.1.trans d0.2.2)
          have d1 := hd 1 _ 41 rfl rfl ⟨⟨1, .data⟩, by simp, rfl, rfl⟩
          have e1 : a.tmps[41]?.getD undef = sk z := (RY.ev_tmp a 41).trans (d1.2.1.trans d1.2.2)
          have n6 : up 6 = false := by
            cases e : up 6
            · rfl
            · have := c5_4 (c6_5 e); rw [hi] at this; cases this
          have hat := hT.at_
          rw [n6, hi] at hat
          refine Or.inl ⟨.tuple #[v0, .int .i64 (st : Nat)], putM W mb (.map es1 ck1), by simp [execOp, go_sem, e0, e1, hme W hat], rfl, ⟨v0, rfl⟩, hT.mw.put _, ?_⟩
          show (putM W mb (.map es1 ck1)).heap[mb]? = some (if ((6 == 4) || up 6) then _ else if ((4 == 4) || up 4) then _ else _)
          rw [n6]
          exact putM_at _ (Nat.lt_of_lt_of_le hmlt hT.mw.size)
        | 5, ho =>
          injection ho with ho; subst ho
          have d0 := hd 4 _ 44 rfl rfl ⟨⟨4, .data⟩, by simp, rfl, rfl⟩
          obtain ⟨v0', hv0'⟩ := d0.2.2
          have e0 : a.tmps[44]?.getD undef = .tuple #[v0', .int .i64 (st : Nat)] := (RY.ev_tmp a 44).trans (d0.2.1.trans hv0')
          exact Or.inl ⟨.int .i64 (st : Nat), W, by simp [execOp, go_sem, e0], rfl, rfl, hT.pure 5 (by decide) (by decide)⟩
        | 6, ho =>
          injection ho with ho; subst ho
          have d0 := hd 0 _ 40 rfl rfl ⟨⟨0, .data⟩, by simp, rfl, rfl⟩
          have e0 : a.tmps[40]?.getD undef = .map (some mb) := (RY.ev_tmp a 40).trans (d0.2.1.trans d0.2.2)
          have d1 := hd 5 _ 45 rfl rfl ⟨⟨5, .data⟩, by simp, rfl, rfl⟩
          have e1 : a.tmps[45]?.getD undef = .int .i64 (st : Nat) := (RY.ev_tmp a 45).trans (d1.2.1.trans d1.2.2)
          have d2 := hd 3 _ 43 rfl rfl ⟨⟨3, .data⟩, by simp, rfl, rfl⟩
          have e2 : a.tmps[43]?.getD undef = .int .i64 ((n : Int) + 1) := (RY.ev_tmp a 43).trans (d2.2.1.trans d2.2.2)
          have hat := hT.at_
          rw [hi, c5_4 d1.1] at hat
          refine Or.inr ⟨putM W mb (.map es2 ck2), by simp [execOp, go_sem, e0, e1, e2, hms W hat], rfl, hT.mw.put _, ?_⟩
          show (putM W mb (.map es2 ck2)).heap[mb]? = some (if ((6 == 6) || up 6) then _ else _)
          exact putM_at _ (Nat.lt_of_lt_of_le hmlt hT.mw.size)
        | n + 7, ho => simp at ho
      intro up vals vs W hall hvs hT
      have hat := hT.at_
      rw [hall 6 (by decide)] at hat
      have HC6 : Hid (CtAt W mb (fun s => ((cntI l ((m : Int) + 1) s (q + 1) : Nat) : Int))) := by
        refine CtAt.ext ⟨es2, ck2, hat, HG2.out⟩ fun s => ?_
        unfold updC cntI
        rw [cntP, HHA.out, HSZ.out, Bool.true_and]
        by_cases hs : sameS s z = true
        · have e := (sameS_iff _ _).1 hs
          subst e
          rw [if_pos hs, if_pos hs, HNN.out]; rfl
        · have hs2 : sameS z s = false := by
            cases q : sameS z s
            · rfl
            · exact absurd ((sameS_iff _ _).2 ((sameS_iff _ _).1 q).symm) hs
          rw [if_neg hs, hs2]; simp
      have HB6 : Hid (Below w.heap.size w W) := hT.mw.below HB5.out HMB.out
      have HS6 := hid (hT.mw.lbox HSB.out HNE.out)
      simp only [RY.putAll, Act.put, List.setIfInBounds_toArray, List.set_cons_zero, List.set_cons_succ]
      generalize vs 40 = g0
      generalize vs 41 = g1
      generalize vs 42 = g2
      generalize vs 43 = g3
      generalize vs 44 = g4
      generalize vs 45 = g5
      clear hvs hall hat hT hms hme hst hG hG1 hG2 hes HC5 HB5 HSB hfz
      have hn1 : cntI l ((m : Int) + 1) z (q + 1) = n + 1 := by
        unfold cntI
        rw [cntP, HHA.out, HSZ.out, (sameS_iff z z).2 rfl, HNN.out]; rfl
      have hlk := HC6.out.look z HFT.out
      rw [hn1] at hlk
      have yz := HS6.out.lt
      have y0 := HS6.out.get 0 _ rfl
      have y1 := HS6.out.get 1 _ rfl
      have HMA : Hid (majAtP l ((m : Int) + 1) q = decide (l.length < 2 * (n + 1))) := by show _ = _; unfold majAtP; rw [HHA.out, HSZ.out, hn1]; rfl
      have hcast : (((n + 1 : Nat) : Int)) = (n : Int) + 1 := by omega
      rw [hcast] at hlk
      clear hn hn1 hcast
      by_cases h4 : (l.length : Int) < 2 * ((n : Int) + 1)
      · have HF : Hid (R = (z.txt, true)) := by
          show R = _
          rw [HR.out, firstTo_hit hlt (HMA.out.trans (decide_eq_true (by omega))) HQ.out]
          unfold majOf
          rw [if_pos (by omega), Int.toNat_natCast, HSZ.out]
        go_wp2
        go_ret2
        exact ⟨by rw [HF.out]; rfl, HB6.out⟩
      · have HN : Hid (∀ j, j < q + 1 → majAtP l ((m : Int) + 1) j = false) := fun j hj => by
          by_cases e : j = q
          · subst e; exact HMA.out.trans (decide_eq_false (by omega))
          · exact HQ.out j (by omega)
        go_wp2
        go_roundw
        case rel => exact ⟨q + 1, by omega, by go_num, HN.out, HC6.out, HB6.out⟩
        case measure => simp [intOf]; omega
    obtain rfl : q = l.length := by omega
    have HF : Hid (R = (ByteArray.empty, false)) := by show R = _; rw [HR.out, firstTo_none HQ.out]; rfl
    go_wp2
    go_ret2
    exact ⟨by rw [HF.out]; rfl, HB2.out⟩
end Go.Proofs.Ytcefgacmagobnaa
