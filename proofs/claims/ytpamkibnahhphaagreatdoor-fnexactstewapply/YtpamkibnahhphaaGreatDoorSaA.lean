/-
  Stewards: what an act does, by the specification.
-/
import Derived.Test.YtpamkibnahhphaaGreatDoorSaS
namespace Go.Proofs.YtpamkibnahhphaaGreatDoor
open Go.RowKit Go.Deep

set_option maxRecDepth 8000 in
set_option maxHeartbeats 40000000 in
theorem l15ApplyS (K : SBk) (X : Ac) (a0 a1 a2 ae : Option Addr) (c0 c1 c2 ce : Nat) (w : World) (h : SBkV w a0 a1 a2 K) (he : EnsV w ae X.ends) (hok : sbOk K = true) (hsz : X.svc.size ≤ maxLen) :
    Calls Tryz.prog 20 #[.agg #[.int .i64 K.now, .slice a0 K.svcs.length c0, .slice a1 K.cps.length c1, .slice a2 K.bts.length c2], .agg #[.string X.svc, .int .i64 X.seen, .int .i64 X.create, .int .i64 X.want, .int .i64 X.cool, .bool X.scale, .slice ae X.ends.length ce, .bool X.drop]] w fun e w' =>
      (∃ s0 s1 s2 d0 d1 d2, e = .returned (.tuple #[.agg #[.int .i64 (applyK K X).now, .slice s0 (applyK K X).svcs.length d0, .slice s1 (applyK K X).cps.length d1, .slice s2 (applyK K X).bts.length d2], .int .i64 (acCode K X)]) ∧ SBkV w' s0 s1 s2 (applyK K X)) ∧ Below w.heap.size w w' := by
  have HH := hid h
  have HE := hid he
  have HK := hid hok
  have HSZ := hid hsz
  have hel := he.len
  have hsl := h.s.len
  have hcl := h.c.len
  unfold maxLen at hel hsl hcl
  clear h he hok hsz
  obtain ⟨Rk, hRk⟩ : ∃ Rk, Rk = applyK K X := ⟨_, rfl⟩
  obtain ⟨Rc, hRc⟩ : ∃ Rc, Rc = acCode K X := ⟨_, rfl⟩
  have HRK := hid hRk
  have HRC := hid hRc
  rw [← hRk, ← hRc]
  clear hRk hRc
  have HRET : Hid (∀ c : Int, acCode K X = c → c ≠ 0 → Rk = K ∧ Rc = c) := fun c hc hn => by
    refine ⟨?_, by rw [HRC.out, hc]⟩
    rw [HRK.out]; unfold applyK; rw [hc, if_neg hn]
  obtain ⟨wa, hwa⟩ : ∃ wa, wa = ((w.alloc (.cells #[.int .i64 K.now, .slice a0 K.svcs.length c0, .slice a1 K.cps.length c1, .slice a2 K.bts.length c2] 36)).alloc (.cells #[.string X.svc, .int .i64 X.seen, .int .i64 X.create, .int .i64 X.want, .int .i64 X.cool, .bool X.scale, .slice ae X.ends.length ce, .bool X.drop] 42)).alloc (.cells #[.int .i64 0, .slice none 0 0, .slice none 0 0, .slice none 0 0] 36) := ⟨_, rfl⟩
  have HA : Hid (AI0 w wa (.int .i64 K.now) (.slice a0 K.svcs.length c0) (.slice a1 K.cps.length c1) (.slice a2 K.bts.length c2) (.string X.svc) (.int .i64 X.seen) (.int .i64 X.create) (.int .i64 X.want) (.int .i64 X.cool) (.bool X.scale) (.slice ae X.ends.length ce) (.bool X.drop)) := by
    show AI0 _ _ _ _ _ _ _ _ _ _ _ _ _ _
    rw [hwa]
    refine ⟨blw_alloc (blw_alloc (blw_alloc (Below.refl _ _) _) _) _, ((Box4.new' w _ _ _ _ _ _ rfl).past _).past _, (BoxA.new' _ _ _ _ _ _ _ _ _ _ _ (by simp)).past _, OwnBlk.alloc_at2 _ _ _ _ _ rfl (by simp)⟩
  go_enter Tryz.func20, Tryz.ntmps20
  show Code.wp Tryz.prog ap0 _ _ _
  rw [ap0_10]
  simp only [ap9, ap8, ap7, ap6, ap5, ap4, ap3, ap2, ap1, ap0, Tryz.f20, Option.getD_some, sfst_seq, ssnd_seq]
  go_upto_region 1 with fail
  rw [← hwa]
  clear hwa
  obtain ⟨az, b0, b1, b2, b3, b4, b5, b6, b7⟩ := HA.out.ax
  go_wp2_with fail
  refine (l15ActOkS X ae ce wa (HE.out.later HA.out.below)).mono ?_
  rintro e w1 ⟨rfl, hb1⟩
  have HA1 := hid (HA.out.later hb1)
  clear hb1 az b0 b1 b2 b3 b4 b5 b6 b7 HA
  cases g0 : acOk X
  · have HR := hid (HRET.out 2 (by unfold acCode; rw [g0]; rfl) (by omega))
    obtain ⟨yz, y0, y1, y2, y3⟩ := HA1.out.bx
    have hfz := HA1.out.own.frozen
    have hz := HA1.out.own.lt
    obtain ⟨u0, k0⟩ := HA1.out.own.cell 0 (by omega)
    obtain ⟨u1, k1⟩ := HA1.out.own.cell 1 (by omega)
    obtain ⟨u2, k2⟩ := HA1.out.own.cell 2 (by omega)
    obtain ⟨u3, k3⟩ := HA1.out.own.cell 3 (by omega)
    go_wp2
    have p := fun i hi => puts_at 0 [.int .i64 K.now, .slice a0 K.svcs.length c0, .slice a1 K.cps.length c1, .slice a2 K.bts.length c2] w1 0 HA1.out.own (by simp) i hi
    have t0 := p 0 (by simp)
    have t1 := p 1 (by simp)
    have t2 := p 2 (by simp)
    have t3 := p 3 (by simp)
    simp only [puts, Nat.add_zero, Nat.zero_add, Nat.reduceAdd, List.getElem?_cons_zero, List.getElem?_cons_succ] at t0 t1 t2 t3
    have hbl := puts_below (a := w) 0 (B := w.heap.size + 2) (by omega) [.int .i64 K.now, .slice a0 K.svcs.length c0, .slice a1 K.cps.length c1, .slice a2 K.bts.length c2] w1 0 HA1.out.below
    refine bodyPost_ret (v := .tuple #[.agg #[.int .i64 K.now, .slice a0 K.svcs.length c0, .slice a1 K.cps.length c1, .slice a2 K.bts.length c2], .int .i64 2]) (by simp [results, go_sem, t0, t1, t2, t3]) rfl ⟨?_, hbl⟩
    rw [HR.out.1, HR.out.2]
    refine ⟨a0, a1, a2, ?_⟩
    first | exact ⟨c0, c1, c2, rfl, HH.out.later hbl⟩ | exact ⟨⟨c0, c1, c2, rfl⟩, HH.out.later hbl⟩

  have HCC : Hid (acCode K X = if svIx K.svcs X.svc < 0 then 3 else if allTo (fndAt K X) X.ends.length = false then 3 else if (acS K X).ver ≠ X.seen then 4 else if allTo (verAt K X) X.ends.length = false then 4 else if allTo (mayAt K X) X.ends.length = false then 5 else if dropBad K X then 6 else if makeBad K X then 6 else if scaleBad K X then 6 else if roomBad K X then 7 else 0) := by show _ = _; unfold acCode; rw [g0]; rfl
  have HOK := hid g0
  clear g0
  obtain ⟨yz, y0, y1, y2, y3⟩ := HA1.out.bx
  obtain ⟨az, b0, b1, b2, b3, b4, b5, b6, b7⟩ := HA1.out.ax
  go_wp2_with fail
  refine (l12ServiceIx K a0 a1 a2 c0 c1 c2 X.svc w1 (HH.out.later HA1.out.below)).mono ?_
  rintro e w2 ⟨rfl, hb2⟩
  have HA2 := hid (HA1.out.later hb2)
  clear yz y0 y1 y2 y3 az b0 b1 b2 b3 b4 b5 b6 b7
  clear hb2 HA1
  rcases firstTo_cases (fun i => same (K.svcs.getD i Sv.none).nm X.svc) K.svcs.length with ⟨hix, _⟩ | ⟨k, hk, hix, hnm, _⟩
  · have hix' : svIx K.svcs X.svc = -1 := hix
    have HR := hid (HRET.out 3 (by rw [HCC.out, hix']; rfl) (by omega))
    rw [hix']
    clear hix hix'
    obtain ⟨yz, y0, y1, y2, y3⟩ := HA2.out.bx
    have hfz := HA2.out.own.frozen
    have hz := HA2.out.own.lt
    obtain ⟨u0, k0⟩ := HA2.out.own.cell 0 (by omega)
    obtain ⟨u1, k1⟩ := HA2.out.own.cell 1 (by omega)
    obtain ⟨u2, k2⟩ := HA2.out.own.cell 2 (by omega)
    obtain ⟨u3, k3⟩ := HA2.out.own.cell 3 (by omega)
    go_wp2
    have p := fun i hi => puts_at 0 [.int .i64 K.now, .slice a0 K.svcs.length c0, .slice a1 K.cps.length c1, .slice a2 K.bts.length c2] w2 0 HA2.out.own (by simp) i hi
    have t0 := p 0 (by simp)
    have t1 := p 1 (by simp)
    have t2 := p 2 (by simp)
    have t3 := p 3 (by simp)
    simp only [puts, Nat.add_zero, Nat.zero_add, Nat.reduceAdd, List.getElem?_cons_zero, List.getElem?_cons_succ] at t0 t1 t2 t3
    have hbl := puts_below (a := w) 0 (B := w.heap.size + 2) (by omega) [.int .i64 K.now, .slice a0 K.svcs.length c0, .slice a1 K.cps.length c1, .slice a2 K.bts.length c2] w2 0 HA2.out.below
    refine bodyPost_ret (v := .tuple #[.agg #[.int .i64 K.now, .slice a0 K.svcs.length c0, .slice a1 K.cps.length c1, .slice a2 K.bts.length c2], .int .i64 3]) (by simp [results, go_sem, t0, t1, t2, t3]) rfl ⟨?_, hbl⟩
    rw [HR.out.1, HR.out.2]
    refine ⟨a0, a1, a2, ?_⟩
    first | exact ⟨c0, c1, c2, rfl, HH.out.later hbl⟩ | exact ⟨⟨c0, c1, c2, rfl⟩, HH.out.later hbl⟩

  have hix' : svIx K.svcs X.svc = k := hix
  have HIX := hid hix'
  have HKL := hid hk
  rw [hix']
  have HC2 : Hid (acCode K X = if allTo (fndAt K X) X.ends.length = false then 3 else if (acS K X).ver ≠ X.seen then 4 else if allTo (verAt K X) X.ends.length = false then 4 else if allTo (mayAt K X) X.ends.length = false then 5 else if dropBad K X then 6 else if makeBad K X then 6 else if scaleBad K X then 6 else if roomBad K X then 7 else 0) := by show _ = _; rw [HCC.out, hix', if_neg (by omega)]
  clear hix hix' hnm HCC
  obtain ⟨bs, offs, has, _, _⟩ := HH.out.s.at_ k HKL.out
  subst has
  go_upto_region 6 with fail
  go_wp2
  go_loopw [7] (fun i wr => ∃ q : Nat, q ≤ X.ends.length ∧ i = .int .i64 q ∧ allTo (fndAt K X) q = true ∧ Below w2.heap.size w2 wr) (fun i _ => X.ends.length - (intOf i).toNat)
  case atStart => exact ⟨0, Nat.zero_le _, rfl, rfl, Below.refl _ _⟩
  case round =>
    obtain ⟨q, hq, rfl, ha, hW⟩ := hrel
    have HQ := hid ha
    have HA3 := hid (HA2.out.later hW)
    have HWW := hid hW
    clear ha hW
    obtain ⟨az, b0, b1, b2, b3, b4, b5, b6, b7⟩ := HA3.out.ax
    by_cases hlt : q < X.ends.length
    · go_upto_region 9 with fail
      clear az b0 b1 b2 b3 b4 b5 b6 b7
      obtain ⟨b, off, hae, hbl, hf⟩ := (HE.out.later HA3.out.below).at_ q hlt
      have e0 := hf.c0
      obtain ⟨nq, hnq⟩ : ∃ nq, nq = endN X q := ⟨_, rfl⟩
      rw [show (X.ends.getD q En.none).num = nq from hnq.symm] at e0
      obtain ⟨ix, hix⟩ : ∃ ix, ix = cpIx K.cps X.svc nq := ⟨_, rfl⟩
      have HP : Hid (fndAt K X q = decide (0 ≤ ix)) := by show _ = _; rw [hix, hnq]; rfl
      have HCx : Hid (∀ W, SBkV W (some ⟨bs, offs, none⟩) a1 a2 K → Calls Tryz.prog 51 #[.agg #[.int .i64 K.now, .slice (some ⟨bs, offs, none⟩) K.svcs.length c0, .slice a1 K.cps.length c1, .slice a2 K.bts.length c2], .string X.svc, .int .i64 nq] W fun e w' => e = .returned (.int .i64 ix) ∧ Below W.heap.size W w') := fun W hW => by rw [hix]; exact l12CopyIx K (some ⟨bs, offs, none⟩) a1 a2 c0 c1 c2 X.svc nq W hW
      have hq0 : (0 : Int) ≤ (q : Int) := by omega
      have hq3 : (q : Int) < (X.ends.length : Int) := by omega
      have hNE := pst_some wr
      obtain ⟨yz, y0, y1, y2, y3⟩ := HA3.out.bx
      obtain ⟨az, b0, b1, b2, b3, b4, b5, b6, b7⟩ := HA3.out.ax
      have YZ : ∀ px : Pst wr, w.heap.size < px.W.heap.size := fun px => px.size yz
      have AZ : ∀ px : Pst wr, w.heap.size + 1 < px.W.heap.size := fun px => px.size az
      have Y0 : ∀ px : Pst wr, px.W.cell? ⟨w.heap.size, 0, none⟩ = some (.int .i64 K.now) := fun px => px.cell y0 yz
      have Y1 : ∀ px : Pst wr, px.W.cell? ⟨w.heap.size, 1, none⟩ = some (.slice (some ⟨bs, offs, none⟩) K.svcs.length c0) := fun px => px.cell y1 yz
      have Y2 : ∀ px : Pst wr, px.W.cell? ⟨w.heap.size, 2, none⟩ = some (.slice a1 K.cps.length c1) := fun px => px.cell y2 yz
      have Y3 : ∀ px : Pst wr, px.W.cell? ⟨w.heap.size, 3, none⟩ = some (.slice a2 K.bts.length c2) := fun px => px.cell y3 yz
      have A0 : ∀ px : Pst wr, px.W.cell? ⟨w.heap.size + 1, 0, none⟩ = some (.string X.svc) := fun px => px.cell b0 az
      have A1 : ∀ px : Pst wr, px.W.cell? ⟨w.heap.size + 1, 1, none⟩ = some (.int .i64 X.seen) := fun px => px.cell b1 az
      have A2 : ∀ px : Pst wr, px.W.cell? ⟨w.heap.size + 1, 2, none⟩ = some (.int .i64 X.create) := fun px => px.cell b2 az
      have A3 : ∀ px : Pst wr, px.W.cell? ⟨w.heap.size + 1, 3, none⟩ = some (.int .i64 X.want) := fun px => px.cell b3 az
      have A4 : ∀ px : Pst wr, px.W.cell? ⟨w.heap.size + 1, 4, none⟩ = some (.int .i64 X.cool) := fun px => px.cell b4 az
      have A5 : ∀ px : Pst wr, px.W.cell? ⟨w.heap.size + 1, 5, none⟩ = some (.bool X.scale) := fun px => px.cell b5 az
      have A6 : ∀ px : Pst wr, px.W.cell? ⟨w.heap.size + 1, 6, none⟩ = some (.slice ae X.ends.length ce) := fun px => px.cell b6 az
      have A7 : ∀ px : Pst wr, px.W.cell? ⟨w.heap.size + 1, 7, none⟩ = some (.bool X.drop) := fun px => px.cell b7 az
      have BZ : ∀ px : Pst wr, b < px.W.heap.size := fun px => px.size hbl
      have E0 : ∀ px : Pst wr, px.W.cell? ⟨b, off + q * 2, none⟩ = some (.int .i64 nq) := fun px => px.cell e0 hbl
      have HSB : Hid (∀ px : Pst wr, SBkV px.W (some ⟨bs, offs, none⟩) a1 a2 K) := fun px => HH.out.later (blw_trans HA3.out.below px.ok)
      subst hae
      clear hnq hix hf e0 hbl
      clear yz y0 y1 y2 y3 az b0 b1 b2 b3 b4 b5 b6 b7
      by_cases hz : ix < 0
      · have HR := hid (HRET.out 3 (by rw [HC2.out, if_pos (allTo_false (k := q) (by rw [HP.out]; simp; omega) _ hlt)]) (by omega))
        clear HP
        refine region_class wr (Below.refl _ _) (by kernel_rfl) (by kernel_rfl) ?_
        repeat (first
          | go_big_quiet_skip
          | (go_big_quiet_want; go_big_quiet_op; first | go_big_quiet_on | (apply Exists.intro; refine ⟨fun px => ?_, ?_⟩; (focus (go_at_call 51; refine (HCx.out _ (HSB.out px)).mono ?_; rintro e w' ⟨he, hb⟩; exact ⟨he, ⟨w', blw_trans px.ok hb⟩, rfl⟩)); go_big_quiet_on)))
        refine wpQuiet_nil ?_
        intro _ hw'
        obtain ⟨x6, hw''⟩ := hw'
        subst hw''
        obtain ⟨w3, hw3⟩ : ∃ w3, w3 = x6.W := ⟨_, rfl⟩
        have hok6 := x6.ok
        rw [← hw3] at hok6 ⊢
        clear hw3
        have HA4 := hid (HA3.out.later hok6)
        clear hok6 BZ E0 HSB HCx hNE
        clear YZ AZ Y0 Y1 Y2 Y3 A0 A1 A2 A3 A4 A5 A6 A7
        obtain ⟨yz, y0, y1, y2, y3⟩ := HA4.out.bx
        have hfz := HA4.out.own.frozen
        have hz := HA4.out.own.lt
        obtain ⟨u0, k0⟩ := HA4.out.own.cell 0 (by omega)
        obtain ⟨u1, k1⟩ := HA4.out.own.cell 1 (by omega)
        obtain ⟨u2, k2⟩ := HA4.out.own.cell 2 (by omega)
        obtain ⟨u3, k3⟩ := HA4.out.own.cell 3 (by omega)
        go_wp2
        have p := fun i hi => puts_at 0 [.int .i64 K.now, .slice (some ⟨bs, offs, none⟩) K.svcs.length c0, .slice a1 K.cps.length c1, .slice a2 K.bts.length c2] w3 0 HA4.out.own (by simp) i hi
        have t0 := p 0 (by simp)
        have t1 := p 1 (by simp)
        have t2 := p 2 (by simp)
        have t3 := p 3 (by simp)
        simp only [puts, Nat.add_zero, Nat.zero_add, Nat.reduceAdd, List.getElem?_cons_zero, List.getElem?_cons_succ] at t0 t1 t2 t3
        have hbl := puts_below (a := w) 0 (B := w.heap.size + 2) (by omega) [.int .i64 K.now, .slice (some ⟨bs, offs, none⟩) K.svcs.length c0, .slice a1 K.cps.length c1, .slice a2 K.bts.length c2] w3 0 HA4.out.below
        refine bodyPost_ret (v := .tuple #[.agg #[.int .i64 K.now, .slice (some ⟨bs, offs, none⟩) K.svcs.length c0, .slice a1 K.cps.length c1, .slice a2 K.bts.length c2], .int .i64 3]) (by simp [results, go_sem, t0, t1, t2, t3]) rfl ⟨?_, hbl⟩
        rw [HR.out.1, HR.out.2]
        refine ⟨(some ⟨bs, offs, none⟩), a1, a2, ?_⟩
        first | exact ⟨c0, c1, c2, rfl, HH.out.later hbl⟩ | exact ⟨⟨c0, c1, c2, rfl⟩, HH.out.later hbl⟩

      · have HN : Hid (allTo (fndAt K X) (q + 1) = true) := by show _ = _; rw [allTo, HQ.out, HP.out]; simp; omega
        clear HP
        refine region_class wr (Below.refl _ _) (by kernel_rfl) (by kernel_rfl) ?_
        repeat (first
          | go_big_quiet_skip
          | (go_big_quiet_want; go_big_quiet_op; first | go_big_quiet_on | (apply Exists.intro; refine ⟨fun px => ?_, ?_⟩; (focus (go_at_call 51; refine (HCx.out _ (HSB.out px)).mono ?_; rintro e w' ⟨he, hb⟩; exact ⟨he, ⟨w', blw_trans px.ok hb⟩, rfl⟩)); go_big_quiet_on)))
        refine wpQuiet_nil ?_
        intro _ hw'
        obtain ⟨x6, hw''⟩ := hw'
        subst hw''
        have HWN := hid (blw_trans HWW.out x6.ok)
        clear BZ E0 HSB HCx hNE
        clear YZ AZ Y0 Y1 Y2 Y3 A0 A1 A2 A3 A4 A5 A6 A7
        go_wp2
        go_roundw
        case rel => exact ⟨q + 1, by omega, by go_num, HN.out, HWN.out⟩
        case measure => simp [intOf]; omega
    · obtain rfl : q = X.ends.length := by omega
      have HFN := hid HQ.out
      have HC3 : Hid (acCode K X = if (acS K X).ver ≠ X.seen then 4 else if allTo (verAt K X) X.ends.length = false then 4 else if allTo (mayAt K X) X.ends.length = false then 5 else if dropBad K X then 6 else if makeBad K X then 6 else if scaleBad K X then 6 else if roomBad K X then 7 else 0) := by show _ = _; rw [HC2.out, HQ.out]; rfl
      go_upto_region 11 with fail
      clear az b0 b1 b2 b3 b4 b5 b6 b7 HC2 HQ
      obtain ⟨w3, hw3⟩ : ∃ w3, w3 = wr := ⟨_, rfl⟩
      rw [← hw3] at HA3 ⊢
      clear hw3 HWW HA2
      obtain ⟨bs', offs', has, hbs, hfs⟩ := (HH.out.later HA3.out.below).s.at_ k HKL.out
      injection has with has
      injection has with has1 has2 _
      subst has1 has2
      obtain ⟨vs, hvs⟩ : ∃ vs, vs = (K.svcs.getD k Sv.none).ver := ⟨_, rfl⟩
      have f1 := hfs.c1
      rw [← hvs] at f1
      have HP : Hid ((acS K X).ver = vs) := by show _ = _; unfold acS svGet; rw [HIX.out, Int.toNat_natCast, hvs]
      have hk0 : (0 : Int) ≤ (k : Int) := by omega
      have hk3 : (k : Int) < (K.svcs.length : Int) := by omega
      have hNE := pst_some w3
      obtain ⟨yz, y0, y1, y2, y3⟩ := HA3.out.bx
      obtain ⟨az, b0, b1, b2, b3, b4, b5, b6, b7⟩ := HA3.out.ax
      have YZ : ∀ px : Pst w3, w.heap.size < px.W.heap.size := fun px => px.size yz
      have AZ : ∀ px : Pst w3, w.heap.size + 1 < px.W.heap.size := fun px => px.size az
      have Y0 : ∀ px : Pst w3, px.W.cell? ⟨w.heap.size, 0, none⟩ = some (.int .i64 K.now) := fun px => px.cell y0 yz
      have Y1 : ∀ px : Pst w3, px.W.cell? ⟨w.heap.size, 1, none⟩ = some (.slice (some ⟨bs, offs, none⟩) K.svcs.length c0) := fun px => px.cell y1 yz
      have Y2 : ∀ px : Pst w3, px.W.cell? ⟨w.heap.size, 2, none⟩ = some (.slice a1 K.cps.length c1) := fun px => px.cell y2 yz
      have Y3 : ∀ px : Pst w3, px.W.cell? ⟨w.heap.size, 3, none⟩ = some (.slice a2 K.bts.length c2) := fun px => px.cell y3 yz
      have A0 : ∀ px : Pst w3, px.W.cell? ⟨w.heap.size + 1, 0, none⟩ = some (.string X.svc) := fun px => px.cell b0 az
      have A1 : ∀ px : Pst w3, px.W.cell? ⟨w.heap.size + 1, 1, none⟩ = some (.int .i64 X.seen) := fun px => px.cell b1 az
      have A2 : ∀ px : Pst w3, px.W.cell? ⟨w.heap.size + 1, 2, none⟩ = some (.int .i64 X.create) := fun px => px.cell b2 az
      have A3 : ∀ px : Pst w3, px.W.cell? ⟨w.heap.size + 1, 3, none⟩ = some (.int .i64 X.want) := fun px => px.cell b3 az
      have A4 : ∀ px : Pst w3, px.W.cell? ⟨w.heap.size + 1, 4, none⟩ = some (.int .i64 X.cool) := fun px => px.cell b4 az
      have A5 : ∀ px : Pst w3, px.W.cell? ⟨w.heap.size + 1, 5, none⟩ = some (.bool X.scale) := fun px => px.cell b5 az
      have A6 : ∀ px : Pst w3, px.W.cell? ⟨w.heap.size + 1, 6, none⟩ = some (.slice ae X.ends.length ce) := fun px => px.cell b6 az
      have A7 : ∀ px : Pst w3, px.W.cell? ⟨w.heap.size + 1, 7, none⟩ = some (.bool X.drop) := fun px => px.cell b7 az
      have BZ : ∀ px : Pst w3, bs < px.W.heap.size := fun px => px.size hbs
      have F1 : ∀ px : Pst w3, px.W.cell? ⟨bs, offs + k * 13 + 1, none⟩ = some (.int .i64 vs) := fun px => px.cell f1 hbs
      clear hvs hfs f1 hbs
      clear yz y0 y1 y2 y3 az b0 b1 b2 b3 b4 b5 b6 b7
      cases hz : (vs == X.seen)
      · have HR := hid (HRET.out 4 (by rw [HC3.out, HP.out, if_pos (by simpa using hz)]) (by omega))
        have hz2 : (vs != X.seen) = true := by rw [bne, hz]; rfl
        clear HP
        refine region_class w3 (Below.refl _ _) (by kernel_rfl) (by kernel_rfl) ?_
        repeat (first
          | go_big_quiet_skip
          | (go_big_quiet_want; go_big_quiet_op; go_big_quiet_on))
        refine wpQuiet_nil ?_
        intro _ hw'
        obtain ⟨x6, hw''⟩ := hw'
        subst hw''
        obtain ⟨w4, hw4⟩ : ∃ w4, w4 = x6.W := ⟨_, rfl⟩
        have hok6 := x6.ok
        rw [← hw4] at hok6 ⊢
        clear hw4
        have HA4 := hid (HA3.out.later hok6)
        clear hok6 BZ F1 hNE
        clear YZ AZ Y0 Y1 Y2 Y3 A0 A1 A2 A3 A4 A5 A6 A7
        obtain ⟨yz, y0, y1, y2, y3⟩ := HA4.out.bx
        have hfz := HA4.out.own.frozen
        have hz := HA4.out.own.lt
        obtain ⟨u0, k0⟩ := HA4.out.own.cell 0 (by omega)
        obtain ⟨u1, k1⟩ := HA4.out.own.cell 1 (by omega)
        obtain ⟨u2, k2⟩ := HA4.out.own.cell 2 (by omega)
        obtain ⟨u3, k3⟩ := HA4.out.own.cell 3 (by omega)
        go_wp2
        have p := fun i hi => puts_at 0 [.int .i64 K.now, .slice (some ⟨bs, offs, none⟩) K.svcs.length c0, .slice a1 K.cps.length c1, .slice a2 K.bts.length c2] w4 0 HA4.out.own (by simp) i hi
        have t0 := p 0 (by simp)
        have t1 := p 1 (by simp)
        have t2 := p 2 (by simp)
        have t3 := p 3 (by simp)
        simp only [puts, Nat.add_zero, Nat.zero_add, Nat.reduceAdd, List.getElem?_cons_zero, List.getElem?_cons_succ] at t0 t1 t2 t3
        have hbl := puts_below (a := w) 0 (B := w.heap.size + 2) (by omega) [.int .i64 K.now, .slice (some ⟨bs, offs, none⟩) K.svcs.length c0, .slice a1 K.cps.length c1, .slice a2 K.bts.length c2] w4 0 HA4.out.below
        refine bodyPost_ret (v := .tuple #[.agg #[.int .i64 K.now, .slice (some ⟨bs, offs, none⟩) K.svcs.length c0, .slice a1 K.cps.length c1, .slice a2 K.bts.length c2], .int .i64 4]) (by simp [results, go_sem, t0, t1, t2, t3]) rfl ⟨?_, hbl⟩
        rw [HR.out.1, HR.out.2]
        refine ⟨(some ⟨bs, offs, none⟩), a1, a2, ?_⟩
        first | exact ⟨c0, c1, c2, rfl, HH.out.later hbl⟩ | exact ⟨⟨c0, c1, c2, rfl⟩, HH.out.later hbl⟩

      have HC4 : Hid (acCode K X = if allTo (verAt K X) X.ends.length = false then 4 else if allTo (mayAt K X) X.ends.length = false then 5 else if dropBad K X then 6 else if makeBad K X then 6 else if scaleBad K X then 6 else if roomBad K X then 7 else 0) := by show _ = _; rw [HC3.out, HP.out, if_neg (by simpa using hz)]
      have hz2 : (vs != X.seen) = false := by rw [bne, hz]; rfl
      clear HP HC3
      refine region_class w3 (Below.refl _ _) (by kernel_rfl) (by kernel_rfl) ?_
      repeat (first
        | go_big_quiet_skip
        | (go_big_quiet_want; go_big_quiet_op; go_big_quiet_on))
      refine wpQuiet_nil ?_
      intro _ hw'
      obtain ⟨x6, hw''⟩ := hw'
      subst hw''
      obtain ⟨w4, hw4⟩ : ∃ w4, w4 = x6.W := ⟨_, rfl⟩
      have hok6 := x6.ok
      rw [← hw4] at hok6 ⊢
      clear hw4
      have HA4 := hid (HA3.out.later hok6)
      clear hok6 BZ F1 hNE HA3 hz hz2
      clear YZ AZ Y0 Y1 Y2 Y3 A0 A1 A2 A3 A4 A5 A6 A7
      go_upto_region 13 with fail
      go_wp2
      go_loopw [8] (fun i wr => ∃ q : Nat, q ≤ X.ends.length ∧ i = .int .i64 q ∧ allTo (verAt K X) q = true ∧ Below w4.heap.size w4 wr) (fun i _ => X.ends.length - (intOf i).toNat)
      case atStart => exact ⟨0, Nat.zero_le _, rfl, rfl, Below.refl _ _⟩
      case round =>
        obtain ⟨q, hq, rfl, ha, hW⟩ := hrel
        have HQ := hid ha
        have HA5 := hid (HA4.out.later hW)
        have HWW := hid hW
        clear ha hW
        obtain ⟨az, b0, b1, b2, b3, b4, b5, b6, b7⟩ := HA5.out.ax
        by_cases hlt : q < X.ends.length
        · go_upto_region 16 with fail
          clear az b0 b1 b2 b3 b4 b5 b6 b7
          obtain ⟨b, off, hae, hbl, hf⟩ := (HE.out.later HA5.out.below).at_ q hlt
          have HAE := hid hae
          have e0 := hf.c0
          have e1 := hf.c1
          obtain ⟨nq, hnq⟩ : ∃ nq, nq = endN X q := ⟨_, rfl⟩
          obtain ⟨sq, hsq⟩ : ∃ sq, sq = endS X q := ⟨_, rfl⟩
          rw [show (X.ends.getD q En.none).num = nq from hnq.symm] at e0
          rw [show (X.ends.getD q En.none).seen = sq from hsq.symm] at e1
          have hfq := (allTo_iff _ _).1 HFN.out q hlt
          obtain ⟨ci, hci, hcx⟩ : ∃ ci : Nat, ci < K.cps.length ∧ cpIx K.cps X.svc nq = ci := by
            have h0 : (0 : Int) ≤ cpIx K.cps X.svc nq := by rw [hnq]; exact of_decide_eq_true hfq
            rcases firstTo_cases (fun i => same (K.cps.getD i Cp.none).svc X.svc && ((K.cps.getD i Cp.none).num == nq)) K.cps.length with ⟨h1, _⟩ | ⟨ci, h1, h2, _⟩
            · have h1' : cpIx K.cps X.svc nq = -1 := h1
              omega
            · exact ⟨ci, h1, h2⟩
          obtain ⟨bc, offc, hac, hbc, hfc⟩ := (HH.out.later HA5.out.below).c.at_ ci hci
          have HAC := hid hac
          obtain ⟨vq, hvq⟩ : ∃ vq, vq = (K.cps.getD ci Cp.none).ver := ⟨_, rfl⟩
          have f2 := hfc.c2
          rw [← hvq] at f2
          have HP : Hid (verAt K X q = (vq == sq)) := by
            show _ = _
            unfold verAt
            rw [← hnq, hcx, ← hsq, hvq]
            unfold cpGet
            rw [Int.toNat_natCast]
          have HCx : Hid (∀ W, SBkV W (some ⟨bs, offs, none⟩) a1 a2 K → Calls Tryz.prog 51 #[.agg #[.int .i64 K.now, .slice (some ⟨bs, offs, none⟩) K.svcs.length c0, .slice a1 K.cps.length c1, .slice a2 K.bts.length c2], .string X.svc, .int .i64 nq] W fun e w' => e = .returned (.int .i64 (ci : Nat)) ∧ Below W.heap.size W w') := fun W hW => by rw [← hcx]; exact l12CopyIx K (some ⟨bs, offs, none⟩) a1 a2 c0 c1 c2 X.svc nq W hW
          have hq0 : (0 : Int) ≤ (q : Int) := by omega
          have hq3 : (q : Int) < (X.ends.length : Int) := by omega
          have hc0 : (0 : Int) ≤ (ci : Int) := by omega
          have hc3 : (ci : Int) < (K.cps.length : Int) := by omega
          have hNE := pst_some wr
          obtain ⟨yz, y0, y1, y2, y3⟩ := HA5.out.bx
          obtain ⟨az, b0, b1, b2, b3, b4, b5, b6, b7⟩ := HA5.out.ax
          have YZ : ∀ px : Pst wr, w.heap.size < px.W.heap.size := fun px => px.size yz
          have AZ : ∀ px : Pst wr, w.heap.size + 1 < px.W.heap.size := fun px => px.size az
          have Y0 : ∀ px : Pst wr, px.W.cell? ⟨w.heap.size, 0, none⟩ = some (.int .i64 K.now) := fun px => px.cell y0 yz
          have Y1 : ∀ px : Pst wr, px.W.cell? ⟨w.heap.size, 1, none⟩ = some (.slice (some ⟨bs, offs, none⟩) K.svcs.length c0) := fun px => px.cell y1 yz
          have Y2 : ∀ px : Pst wr, px.W.cell? ⟨w.heap.size, 2, none⟩ = some (.slice a1 K.cps.length c1) := fun px => px.cell y2 yz
          have Y3 : ∀ px : Pst wr, px.W.cell? ⟨w.heap.size, 3, none⟩ = some (.slice a2 K.bts.length c2) := fun px => px.cell y3 yz
          have A0 : ∀ px : Pst wr, px.W.cell? ⟨w.heap.size + 1, 0, none⟩ = some (.string X.svc) := fun px => px.cell b0 az
          have A1 : ∀ px : Pst wr, px.W.cell? ⟨w.heap.size + 1, 1, none⟩ = some (.int .i64 X.seen) := fun px => px.cell b1 az
          have A2 : ∀ px : Pst wr, px.W.cell? ⟨w.heap.size + 1, 2, none⟩ = some (.int .i64 X.create) := fun px => px.cell b2 az
          have A3 : ∀ px : Pst wr, px.W.cell? ⟨w.heap.size + 1, 3, none⟩ = some (.int .i64 X.want) := fun px => px.cell b3 az
          have A4 : ∀ px : Pst wr, px.W.cell? ⟨w.heap.size + 1, 4, none⟩ = some (.int .i64 X.cool) := fun px => px.cell b4 az
          have A5 : ∀ px : Pst wr, px.W.cell? ⟨w.heap.size + 1, 5, none⟩ = some (.bool X.scale) := fun px => px.cell b5 az
          have A6 : ∀ px : Pst wr, px.W.cell? ⟨w.heap.size + 1, 6, none⟩ = some (.slice ae X.ends.length ce) := fun px => px.cell b6 az
          have A7 : ∀ px : Pst wr, px.W.cell? ⟨w.heap.size + 1, 7, none⟩ = some (.bool X.drop) := fun px => px.cell b7 az
          have BZ : ∀ px : Pst wr, b < px.W.heap.size := fun px => px.size hbl
          have CZ : ∀ px : Pst wr, bc < px.W.heap.size := fun px => px.size hbc
          have E0 : ∀ px : Pst wr, px.W.cell? ⟨b, off + q * 2, none⟩ = some (.int .i64 nq) := fun px => px.cell e0 hbl
          have E1 : ∀ px : Pst wr, px.W.cell? ⟨b, off + q * 2 + 1, none⟩ = some (.int .i64 sq) := fun px => px.cell e1 hbl
          have F2 : ∀ px : Pst wr, px.W.cell? ⟨bc, offc + ci * 7 + 2, none⟩ = some (.int .i64 vq) := fun px => px.cell f2 hbc
          have HSB : Hid (∀ px : Pst wr, SBkV px.W (some ⟨bs, offs, none⟩) a1 a2 K) := fun px => HH.out.later (blw_trans HA5.out.below px.ok)
          subst hae hac
          clear hnq hsq hvq hcx hfq hf hfc e0 e1 f2 hbl hbc
          clear yz y0 y1 y2 y3 az b0 b1 b2 b3 b4 b5 b6 b7
          cases hz : (vq == sq)
          · have HR := hid (HRET.out 4 (by rw [HC4.out, if_pos (allTo_false (k := q) (by rw [HP.out, hz]) _ hlt)]) (by omega))
            have hz2 : (vq != sq) = true := by rw [bne, hz]; rfl
            clear HP
            refine region_class wr (Below.refl _ _) (by kernel_rfl) (by kernel_rfl) ?_
            repeat (first
              | go_big_quiet_skip
              | (go_big_quiet_want; go_big_quiet_op; first | go_big_quiet_on | (apply Exists.intro; refine ⟨fun px => ?_, ?_⟩; (focus (go_at_call 51; refine (HCx.out _ (HSB.out px)).mono ?_; rintro e w' ⟨he, hb⟩; exact ⟨he, ⟨w', blw_trans px.ok hb⟩, rfl⟩)); go_big_quiet_on)))
            refine wpQuiet_nil ?_
            intro _ hw'
            obtain ⟨x6, hw''⟩ := hw'
            subst hw''
            obtain ⟨w5, hw5⟩ : ∃ w5, w5 = x6.W := ⟨_, rfl⟩
            have hok6 := x6.ok
            rw [← hw5] at hok6 ⊢
            clear hw5
            have HA6 := hid (HA5.out.later hok6)
            clear hok6 BZ CZ E0 E1 F2 HSB HCx hNE
            clear YZ AZ Y0 Y1 Y2 Y3 A0 A1 A2 A3 A4 A5 A6 A7
            obtain ⟨yz, y0, y1, y2, y3⟩ := HA6.out.bx
            have hfz := HA6.out.own.frozen
            have hz := HA6.out.own.lt
            obtain ⟨u0, k0⟩ := HA6.out.own.cell 0 (by omega)
            obtain ⟨u1, k1⟩ := HA6.out.own.cell 1 (by omega)
            obtain ⟨u2, k2⟩ := HA6.out.own.cell 2 (by omega)
            obtain ⟨u3, k3⟩ := HA6.out.own.cell 3 (by omega)
            go_wp2
            have p := fun i hi => puts_at 0 [.int .i64 K.now, .slice (some ⟨bs, offs, none⟩) K.svcs.length c0, .slice (some ⟨bc, offc, none⟩) K.cps.length c1, .slice a2 K.bts.length c2] w5 0 HA6.out.own (by simp) i hi
            have t0 := p 0 (by simp)
            have t1 := p 1 (by simp)
            have t2 := p 2 (by simp)
            have t3 := p 3 (by simp)
            simp only [puts, Nat.add_zero, Nat.zero_add, Nat.reduceAdd, List.getElem?_cons_zero, List.getElem?_cons_succ] at t0 t1 t2 t3
            have hbl := puts_below (a := w) 0 (B := w.heap.size + 2) (by omega) [.int .i64 K.now, .slice (some ⟨bs, offs, none⟩) K.svcs.length c0, .slice (some ⟨bc, offc, none⟩) K.cps.length c1, .slice a2 K.bts.length c2] w5 0 HA6.out.below
            refine bodyPost_ret (v := .tuple #[.agg #[.int .i64 K.now, .slice (some ⟨bs, offs, none⟩) K.svcs.length c0, .slice (some ⟨bc, offc, none⟩) K.cps.length c1, .slice a2 K.bts.length c2], .int .i64 4]) (by simp [results, go_sem, t0, t1, t2, t3]) rfl ⟨?_, hbl⟩
            rw [HR.out.1, HR.out.2]
            refine ⟨(some ⟨bs, offs, none⟩), (some ⟨bc, offc, none⟩), a2, ?_⟩
            first | exact ⟨c0, c1, c2, rfl, HH.out.later hbl⟩ | exact ⟨⟨c0, c1, c2, rfl⟩, HH.out.later hbl⟩

          · have HN : Hid (allTo (verAt K X) (q + 1) = true) := by show _ = _; rw [allTo, HQ.out, HP.out, hz]; rfl
            have hz2 : (vq != sq) = false := by rw [bne, hz]; rfl
            clear HP
            refine region_class wr (Below.refl _ _) (by kernel_rfl) (by kernel_rfl) ?_
            repeat (first
              | go_big_quiet_skip
              | (go_big_quiet_want; go_big_quiet_op; first | go_big_quiet_on | (apply Exists.intro; refine ⟨fun px => ?_, ?_⟩; (focus (go_at_call 51; refine (HCx.out _ (HSB.out px)).mono ?_; rintro e w' ⟨he, hb⟩; exact ⟨he, ⟨w', blw_trans px.ok hb⟩, rfl⟩)); go_big_quiet_on)))
            refine wpQuiet_nil ?_
            intro _ hw'
            obtain ⟨x6, hw''⟩ := hw'
            subst hw''
            have HWN := hid (blw_trans HWW.out x6.ok)
            clear BZ CZ E0 E1 F2 HSB HCx hNE
            clear YZ AZ Y0 Y1 Y2 Y3 A0 A1 A2 A3 A4 A5 A6 A7
            go_wp2
            go_roundw
            case rel => exact ⟨q + 1, by omega, by go_num, HN.out, HWN.out⟩
            case measure => simp [intOf]; omega
        · obtain rfl : q = X.ends.length := by omega
          have HC5 : Hid (acCode K X = if allTo (mayAt K X) X.ends.length = false then 5 else if dropBad K X then 6 else if makeBad K X then 6 else if scaleBad K X then 6 else if roomBad K X then 7 else 0) := by show _ = _; rw [HC4.out, HQ.out]; rfl
          go_upto_region 18 with fail
          clear az b0 b1 b2 b3 b4 b5 b6 b7
          obtain ⟨w5, hw5⟩ : ∃ w5, w5 = wr := ⟨_, rfl⟩
          rw [← hw5] at HA5 ⊢
          have HAO := hid HA5.out.own
          clear hw5 HWW HA4 HQ HC4 HFN
          have HSN := hid (sane_ok HK.out)
          have HSM : Hid (K.svcs.length ≤ 1048576 ∧ K.cps.length ≤ 1048576 ∧ K.bts.length ≤ 1048576) := by
            have q := HK.out
            simp only [sbOk, Bool.and_eq_true, decide_eq_true_eq] at q
            exact ⟨by omega, by omega, by omega⟩
          obtain ⟨yz, y0, y1, y2, y3⟩ := HA5.out.bx
          go_wp2_with fail
          refine (l12BookS K (some ⟨bs, offs, none⟩) a1 a2 c0 c1 c2 w5 (HH.out.later HA5.out.below) HSM.out).mono ?_
          rintro e w6 ⟨⟨s0, s1, s2, rfl, o0, o1, o2⟩, hb6⟩
          have HA6 := hid (HA5.out.later hb6)
          clear yz y0 y1 y2 y3 HA5
          obtain ⟨p0, q0, rfl⟩ := owns_is o0
          obtain ⟨p1, q1, rfl⟩ := owns_is o1
          obtain ⟨p2, q2, rfl⟩ := owns_is o2
          obtain ⟨w7, hw7⟩ : ∃ w7, w7 = w6.alloc (.cells #[.int .i64 K.now, .slice p0 K.svcs.length q0, .slice p1 K.cps.length q1, .slice p2 K.bts.length q2] 36) := ⟨_, rfl⟩
          have hb7 : Below w6.heap.size w6 w7 := by rw [hw7]; exact blw_alloc (Below.refl _ _) _
          have HA7 := hid (HA6.out.later hb7)
          obtain ⟨px, hpx⟩ : ∃ px, px = w6.heap.size := ⟨_, rfl⟩
          obtain ⟨lo, hlo⟩ : ∃ lo, lo = w5.heap.size + 2 := ⟨_, rfl⟩
          have HLO : Hid (w.heap.size + 3 ≤ lo ∧ w.heap.size + 3 ≤ px) := by
            show _ ∧ _
            have h1 := HA6.out.own.lt
            have h2 := hb6.size
            have h3 : w.heap.size + 2 < w5.heap.size := by
              obtain ⟨cs, hcs, _⟩ := HAO.out
              exact lt_heap hcs
            omega
          have HX7 : Hid (XI lo px w7 K.now K.svcs K.cps K.bts p0 p1 p2 K.svcs.length K.cps.length K.bts.length q0 q1 q2) := by
            have hv := HH.out
            refine ⟨?_, ?_, ?_, ?_, rfl, rfl, rfl, fun i hi => ?_, fun i hi => ?_, fun i hi => ?_, HSM.out.1, HSM.out.2.1, HSM.out.2.2⟩
            · rw [hw7, hpx]; exact heap_alloc_new w6 _
            · rw [hlo]; exact owns_on o0 hb7
            · rw [hlo]; exact owns_on o1 hb7
            · rw [hlo]; exact owns_on o2 hb7
            · obtain ⟨_, _, _, _, hf⟩ := hv.s.at_ i hi; exact hf.sized
            · obtain ⟨_, _, _, _, hf⟩ := hv.c.at_ i hi; exact hf.sized
            · obtain ⟨_, _, _, _, hf⟩ := hv.b.at_ i hi; exact hf.sized
          go_upto_region 19 with fail
          rw [← hw7, ← hpx]
          clear hw7 hb7 hpx hlo hb6 HA6 o0 o1 o2
          have hnow : 0 ≤ K.now ∧ K.now ≤ 1000000 := by
            have q := HK.out
            simp only [sbOk, inB, Bool.and_eq_true, decide_eq_true_eq] at q
            omega
          obtain ⟨hn0, hn1⟩ := hnow
          obtain ⟨yz, y0, y1, y2, y3⟩ := HA7.out.bx
          go_upto_region 20 with fail
          clear yz y0 y1 y2 y3
          obtain ⟨v, hv⟩ : ∃ v, v = K.now + 1 := ⟨_, rfl⟩
          have HV := hid hv
          try rw [← hv]
          clear hv
          go_wp2
          go_loopw [11] (fun i wr => ∃ q : Nat, q ≤ X.ends.length ∧ i = .int .i64 q ∧ allTo (mayAt K X) q = true ∧ AI0 w wr (.int .i64 K.now) (.slice (some ⟨bs, offs, none⟩) K.svcs.length c0) (.slice a1 K.cps.length c1) (.slice a2 K.bts.length c2) (.string X.svc) (.int .i64 X.seen) (.int .i64 X.create) (.int .i64 X.want) (.int .i64 X.cool) (.bool X.scale) (.slice ae X.ends.length ce) (.bool X.drop) ∧ XI lo px wr K.now K.svcs (endTo K.cps X v q) K.bts p0 p1 p2 K.svcs.length K.cps.length K.bts.length q0 q1 q2) (fun i _ => X.ends.length - (intOf i).toNat)
          case atStart => exact ⟨0, Nat.zero_le _, rfl, rfl, HA7.out, HX7.out⟩
          case round =>
            obtain ⟨q, hq, rfl, ha, hAI, hXI⟩ := hrel
            have HQ := hid ha
            have HA8 := hid hAI
            have HX8 := hid hXI
            clear ha hAI hXI HA7 HX7
            obtain ⟨az, b0, b1, b2, b3, b4, b5, b6, b7⟩ := HA8.out.ax
            by_cases hlt : q < X.ends.length
            · go_upto_region 23 with fail
              clear az b0 b1 b2 b3 b4 b5 b6 b7
              obtain ⟨b, off, hae, hbl, hf⟩ := (HE.out.later HA8.out.below).at_ q hlt
              have e0 := hf.c0
              obtain ⟨nq, hnq⟩ : ∃ nq, nq = endN X q := ⟨_, rfl⟩
              rw [show (X.ends.getD q En.none).num = nq from hnq.symm] at e0
              have HNQ := hid hnq
              obtain ⟨my, hmy⟩ : ∃ my, my = mayEnd (withC K (endTo K.cps X v q)) X.svc nq := ⟨_, rfl⟩
              have HMY := hid hmy
              have HP : Hid (mayAt K X q = my) := by show _ = _; rw [hmy, hnq, HV.out]; rfl
              have HLE : Hid ((withC K (endTo K.cps X v q)).cps.length = K.cps.length) := endTo_len _ _ _ _
              have HCx : Hid (∀ W, XI lo px W K.now K.svcs (endTo K.cps X v q) K.bts p0 p1 p2 K.svcs.length K.cps.length K.bts.length q0 q1 q2 → Calls Tryz.prog 52 #[.agg #[.int .i64 K.now, .slice p0 K.svcs.length q0, .slice p1 K.cps.length q1, .slice p2 K.bts.length q2], .string X.svc, .int .i64 nq] W fun e w' => e = .returned (.bool my) ∧ Below W.heap.size W w') := fun W hW => by
                have t := l14MayEndS (withC K (endTo K.cps X v q)) p0 p1 p2 q0 q1 q2 X.svc nq W hW.v (sane_end HSN.out X v q)
                rw [HLE.out] at t
                rw [hmy]
                exact t
              have HCy : Hid (∀ W, XI lo px W K.now K.svcs (endTo K.cps X v q) K.bts p0 p1 p2 K.svcs.length K.cps.length K.bts.length q0 q1 q2 → Calls Tryz.prog 51 #[.agg #[.int .i64 K.now, .slice p0 K.svcs.length q0, .slice p1 K.cps.length q1, .slice p2 K.bts.length q2], .string X.svc, .int .i64 nq] W fun e w' => e = .returned (.int .i64 (cpIx (endTo K.cps X v q) X.svc nq)) ∧ Below W.heap.size W w') := fun W hW => by
                have t := l12CopyIx (withC K (endTo K.cps X v q)) p0 p1 p2 q0 q1 q2 X.svc nq W hW.v
                rw [HLE.out] at t
                exact t
              clear hnq hmy
              have hq0 : (0 : Int) ≤ (q : Int) := by omega
              have hq3 : (q : Int) < (X.ends.length : Int) := by omega
              have hNE := pst_some wr
              obtain ⟨yz, y0, y1, y2, y3⟩ := HA8.out.bx
              obtain ⟨az, b0, b1, b2, b3, b4, b5, b6, b7⟩ := HA8.out.ax
              have YZ : ∀ px : Pst wr, w.heap.size < px.W.heap.size := fun px => px.size yz
              have AZ : ∀ px : Pst wr, w.heap.size + 1 < px.W.heap.size := fun px => px.size az
              have Y0 : ∀ px : Pst wr, px.W.cell? ⟨w.heap.size, 0, none⟩ = some (.int .i64 K.now) := fun px => px.cell y0 yz
              have Y1 : ∀ px : Pst wr, px.W.cell? ⟨w.heap.size, 1, none⟩ = some (.slice (some ⟨bs, offs, none⟩) K.svcs.length c0) := fun px => px.cell y1 yz
              have Y2 : ∀ px : Pst wr, px.W.cell? ⟨w.heap.size, 2, none⟩ = some (.slice a1 K.cps.length c1) := fun px => px.cell y2 yz
              have Y3 : ∀ px : Pst wr, px.W.cell? ⟨w.heap.size, 3, none⟩ = some (.slice a2 K.bts.length c2) := fun px => px.cell y3 yz
              have A0 : ∀ px : Pst wr, px.W.cell? ⟨w.heap.size + 1, 0, none⟩ = some (.string X.svc) := fun px => px.cell b0 az
              have A1 : ∀ px : Pst wr, px.W.cell? ⟨w.heap.size + 1, 1, none⟩ = some (.int .i64 X.seen) := fun px => px.cell b1 az
              have A2 : ∀ px : Pst wr, px.W.cell? ⟨w.heap.size + 1, 2, none⟩ = some (.int .i64 X.create) := fun px => px.cell b2 az
              have A3 : ∀ px : Pst wr, px.W.cell? ⟨w.heap.size + 1, 3, none⟩ = some (.int .i64 X.want) := fun px => px.cell b3 az
              have A4 : ∀ px : Pst wr, px.W.cell? ⟨w.heap.size + 1, 4, none⟩ = some (.int .i64 X.cool) := fun px => px.cell b4 az
              have A5 : ∀ px : Pst wr, px.W.cell? ⟨w.heap.size + 1, 5, none⟩ = some (.bool X.scale) := fun px => px.cell b5 az
              have A6 : ∀ px : Pst wr, px.W.cell? ⟨w.heap.size + 1, 6, none⟩ = some (.slice ae X.ends.length ce) := fun px => px.cell b6 az
              have A7 : ∀ px : Pst wr, px.W.cell? ⟨w.heap.size + 1, 7, none⟩ = some (.bool X.drop) := fun px => px.cell b7 az
              obtain ⟨xz, x0, x1, x2, x3⟩ := HX8.out.at_
              have PZ : ∀ py : Pst wr, px < py.W.heap.size := fun py => py.size xz
              have P0 : ∀ py : Pst wr, py.W.cell? ⟨px, 0, none⟩ = some (.int .i64 K.now) := fun py => py.cell x0 xz
              have P1 : ∀ py : Pst wr, py.W.cell? ⟨px, 1, none⟩ = some (.slice p0 K.svcs.length q0) := fun py => py.cell x1 xz
              have P2 : ∀ py : Pst wr, py.W.cell? ⟨px, 2, none⟩ = some (.slice p1 K.cps.length q1) := fun py => py.cell x2 xz
              have P3 : ∀ py : Pst wr, py.W.cell? ⟨px, 3, none⟩ = some (.slice p2 K.bts.length q2) := fun py => py.cell x3 xz
              have BZ : ∀ px : Pst wr, b < px.W.heap.size := fun px => px.size hbl
              have E0 : ∀ px : Pst wr, px.W.cell? ⟨b, off + q * 2, none⟩ = some (.int .i64 nq) := fun px => px.cell e0 hbl
              have HSB : Hid (∀ py : Pst wr, XI lo px py.W K.now K.svcs (endTo K.cps X v q) K.bts p0 p1 p2 K.svcs.length K.cps.length K.bts.length q0 q1 q2) := fun py => HX8.out.later py.ok
              have HEB := hid hbl
              have HE0 := hid e0
              subst hae
              clear hf e0 hbl xz x0 x1 x2 x3
              clear yz y0 y1 y2 y3 az b0 b1 b2 b3 b4 b5 b6 b7
              cases my
              · have HR := hid (HRET.out 5 (by rw [HC5.out, if_pos (allTo_false (k := q) HP.out _ hlt)]) (by omega))
                clear HP HCy
                refine region_class wr (Below.refl _ _) (by kernel_rfl) (by kernel_rfl) ?_
                repeat (first
                  | go_big_quiet_skip
                  | (go_big_quiet_want; go_big_quiet_op; first | go_big_quiet_on | (apply Exists.intro; refine ⟨fun px => ?_, ?_⟩; (focus (go_at_call 52; refine (HCx.out _ (HSB.out px)).mono ?_; rintro e w' ⟨he, hb⟩; exact ⟨he, ⟨w', blw_trans px.ok hb⟩, rfl⟩)); go_big_quiet_on)))
                refine wpQuiet_nil ?_
                intro _ hw'
                obtain ⟨x6, hw''⟩ := hw'
                subst hw''
                obtain ⟨w8, hw8⟩ : ∃ w8, w8 = x6.W := ⟨_, rfl⟩
                have hok6 := x6.ok
                rw [← hw8] at hok6 ⊢
                clear hw8
                have HA9 := hid (HA8.out.later hok6)
                clear hok6 BZ E0 HSB HCx hNE PZ P0 P1 P2 P3
                clear YZ AZ Y0 Y1 Y2 Y3 A0 A1 A2 A3 A4 A5 A6 A7
                obtain ⟨yz, y0, y1, y2, y3⟩ := HA9.out.bx
                have hfz := HA9.out.own.frozen
                have hz := HA9.out.own.lt
                obtain ⟨u0, k0⟩ := HA9.out.own.cell 0 (by omega)
                obtain ⟨u1, k1⟩ := HA9.out.own.cell 1 (by omega)
                obtain ⟨u2, k2⟩ := HA9.out.own.cell 2 (by omega)
                obtain ⟨u3, k3⟩ := HA9.out.own.cell 3 (by omega)
                go_wp2
                have p := fun i hi => puts_at 0 [.int .i64 K.now, .slice (some ⟨bs, offs, none⟩) K.svcs.length c0, .slice a1 K.cps.length c1, .slice a2 K.bts.length c2] w8 0 HA9.out.own (by simp) i hi
                have t0 := p 0 (by simp)
                have t1 := p 1 (by simp)
                have t2 := p 2 (by simp)
                have t3 := p 3 (by simp)
                simp only [puts, Nat.add_zero, Nat.zero_add, Nat.reduceAdd, List.getElem?_cons_zero, List.getElem?_cons_succ] at t0 t1 t2 t3
                have hbl := puts_below (a := w) 0 (B := w.heap.size + 2) (by omega) [.int .i64 K.now, .slice (some ⟨bs, offs, none⟩) K.svcs.length c0, .slice a1 K.cps.length c1, .slice a2 K.bts.length c2] w8 0 HA9.out.below
                refine bodyPost_ret (v := .tuple #[.agg #[.int .i64 K.now, .slice (some ⟨bs, offs, none⟩) K.svcs.length c0, .slice a1 K.cps.length c1, .slice a2 K.bts.length c2], .int .i64 5]) (by simp [results, go_sem, t0, t1, t2, t3]) rfl ⟨?_, hbl⟩
                rw [HR.out.1, HR.out.2]
                refine ⟨(some ⟨bs, offs, none⟩), a1, a2, ?_⟩
                first | exact ⟨c0, c1, c2, rfl, HH.out.later hbl⟩ | exact ⟨⟨c0, c1, c2, rfl⟩, HH.out.later hbl⟩

              have HN : Hid (allTo (mayAt K X) (q + 1) = true) := by show _ = _; rw [allTo, HQ.out, HP.out]; rfl
              clear HP
              refine region_class wr (Below.refl _ _) (by kernel_rfl) (by kernel_rfl) ?_
              repeat (first
                | go_big_quiet_skip
                | (go_big_quiet_want; go_big_quiet_op; first | go_big_quiet_on | (apply Exists.intro; refine ⟨fun px => ?_, ?_⟩; (focus (go_at_call 52; refine (HCx.out _ (HSB.out px)).mono ?_; rintro e w' ⟨he, hb⟩; exact ⟨he, ⟨w', blw_trans px.ok hb⟩, rfl⟩)); go_big_quiet_on)))
              refine wpQuiet_nil ?_
              intro _ hw'
              obtain ⟨x6, hw''⟩ := hw'
              subst hw''
              obtain ⟨w8, hw8⟩ : ∃ w8, w8 = x6.W := ⟨_, rfl⟩
              have hok6 := x6.ok
              rw [← hw8] at hok6 ⊢
              clear hw8
              have HA9 := hid (HA8.out.later hok6)
              have HX9 := hid (HX8.out.later hok6)
              have HEB9 : Hid (b < w8.heap.size) := Nat.lt_of_lt_of_le HEB.out hok6.size
              have HE9 : Hid (w8.cell? ⟨b, off + q * 2, none⟩ = some (.int .i64 nq)) := (hok6.cell (p := ⟨b, off + q * 2, none⟩) HEB.out).trans HE0.out
              clear hok6 BZ E0 HSB HCx hNE PZ P0 P1 P2 P3 HA8 HX8 HE0 HEB
              clear YZ AZ Y0 Y1 Y2 Y3 A0 A1 A2 A3 A4 A5 A6 A7
              go_upto_region 25 with fail
              obtain ⟨ci, hci, hcx⟩ : ∃ ci : Nat, ci < K.cps.length ∧ cpIx (endTo K.cps X v q) X.svc nq = ci := by
                have h0 : (0 : Int) ≤ cpIx (endTo K.cps X v q) X.svc nq := mayEnd_ix HMY.out.symm
                rcases firstTo_cases (fun i => same ((endTo K.cps X v q).getD i Cp.none).svc X.svc && (((endTo K.cps X v q).getD i Cp.none).num == nq)) (endTo K.cps X v q).length with ⟨h1, _⟩ | ⟨ci, h1, h2, _⟩
                · have h1' : cpIx (endTo K.cps X v q) X.svc nq = -1 := h1
                  omega
                · rw [endTo_len] at h1
                  exact ⟨ci, h1, h2⟩
              rw [hcx] at HCy
              have HCX := hid hcx
              have hc0 : (0 : Int) ≤ (ci : Int) := by omega
              have hc3 : (ci : Int) < (K.cps.length : Int) := by omega
              have hNE := pst_some w8
              obtain ⟨az, b0, b1, b2, b3, b4, b5, b6, b7⟩ := HA9.out.ax
              obtain ⟨xz, x0, x1, x2, x3⟩ := HX9.out.at_
              have AZ : ∀ px : Pst w8, w.heap.size + 1 < px.W.heap.size := fun px => px.size az
              have A0 : ∀ px : Pst w8, px.W.cell? ⟨w.heap.size + 1, 0, none⟩ = some (.string X.svc) := fun px => px.cell b0 az
              have A6 : ∀ px : Pst w8, px.W.cell? ⟨w.heap.size + 1, 6, none⟩ = some (.slice (some ⟨b, off, none⟩) X.ends.length ce) := fun px => px.cell b6 az
              have PZ : ∀ py : Pst w8, px < py.W.heap.size := fun py => py.size xz
              have P0 : ∀ py : Pst w8, py.W.cell? ⟨px, 0, none⟩ = some (.int .i64 K.now) := fun py => py.cell x0 xz
              have P1 : ∀ py : Pst w8, py.W.cell? ⟨px, 1, none⟩ = some (.slice p0 K.svcs.length q0) := fun py => py.cell x1 xz
              have P2 : ∀ py : Pst w8, py.W.cell? ⟨px, 2, none⟩ = some (.slice p1 K.cps.length q1) := fun py => py.cell x2 xz
              have P3 : ∀ py : Pst w8, py.W.cell? ⟨px, 3, none⟩ = some (.slice p2 K.bts.length q2) := fun py => py.cell x3 xz
              have BZ : ∀ px : Pst w8, b < px.W.heap.size := fun px => px.size HEB9.out
              have E0 : ∀ px : Pst w8, px.W.cell? ⟨b, off + q * 2, none⟩ = some (.int .i64 nq) := fun px => px.cell HE9.out HEB9.out
              have HSB : Hid (∀ py : Pst w8, XI lo px py.W K.now K.svcs (endTo K.cps X v q) K.bts p0 p1 p2 K.svcs.length K.cps.length K.bts.length q0 q1 q2) := fun py => HX9.out.later py.ok
              clear hcx az b0 b1 b2 b3 b4 b5 b6 b7 xz x0 x1 x2 x3
              refine region_class w8 (Below.refl _ _) (by kernel_rfl) (by kernel_rfl) ?_
              repeat (first
                | go_big_quiet_skip
                | (go_big_quiet_want; go_big_quiet_op; first | go_big_quiet_on | (apply Exists.intro; refine ⟨fun px => ?_, ?_⟩; (focus (go_at_call 51; refine (HCy.out _ (HSB.out px)).mono ?_; rintro e w' ⟨he, hb⟩; exact ⟨he, ⟨w', blw_trans px.ok hb⟩, rfl⟩)); go_big_quiet_on)))
              refine wpQuiet_nil ?_
              intro _ hw'
              obtain ⟨x6, hw''⟩ := hw'
              subst hw''
              obtain ⟨w9, hw9⟩ : ∃ w9, w9 = x6.W := ⟨_, rfl⟩
              have hok6 := x6.ok
              rw [← hw9] at hok6 ⊢
              clear hw9
              have HA10 := hid (HA9.out.later hok6)
              have HX10 := hid (HX9.out.later hok6)
              clear hok6 BZ E0 HSB HCy hNE PZ P0 P1 P2 P3 AZ A0 A6 HA9 HX9 HE9 HEB9
              obtain ⟨g, cur, hp1, hglo, hg, hgs, hcell⟩ := owns_blk HX10.out.o1 (by omega)
              subst hp1
              obtain ⟨l, hl⟩ : ∃ l, l = endTo K.cps X v q := ⟨_, rfl⟩
              have HL := hid hl
              rw [← hl] at HX10 hcell
              have hll : l.length = K.cps.length := HX10.out.l1
              obtain ⟨c, hc⟩ : ∃ c, c = l.getD ci Cp.none := ⟨_, rfl⟩
              have hcz := HX10.out.z1 ci (by omega)
              rw [← hc] at hcz
              have d5 : w9.cell? ⟨g, ci * 7 + 5, none⟩ = some (.bool c.ending) := hcell _ _ (by rw [flat_at Cp.none CpC 7 CpC_len l ci 5 (by omega) (by omega), ← hc]; rfl)
              have d2 : w9.cell? ⟨g, ci * 7 + 2, none⟩ = some (.int .i64 c.ver) := hcell _ _ (by rw [flat_at Cp.none CpC 7 CpC_len l ci 2 (by omega) (by omega), ← hc]; rfl)
              have hgz : g < w9.heap.size := lt_heap hg
              have hgf : ∀ j, w9.frozen? ⟨g, j, none⟩ = false := fun j => by simp [World.frozen?, hg]
              obtain ⟨xz, x0, x1, x2, x3⟩ := HX10.out.at_
              obtain ⟨w10, hw10⟩ : ∃ w10, w10 = w9.setCell ⟨g, ci * 7 + 5, none⟩ (.bool true) := ⟨_, rfl⟩
              have HX11 : Hid (XI lo px w10 K.now K.svcs (l.set ci { c with ending := true }) K.bts p0 (some ⟨g, 0, none⟩) p2 K.svcs.length K.cps.length K.bts.length q0 q1 q2) := by
                rw [hw10]; exact HX10.out.setCp hg ci 5 (by omega) (by omega) _ _ (by rw [← hc]; rfl) hcz
              have HA11 : Hid (AI0 w w10 (.int .i64 K.now) (.slice (some ⟨bs, offs, none⟩) K.svcs.length c0) (.slice a1 K.cps.length c1) (.slice a2 K.bts.length c2) (.string X.svc) (.int .i64 X.seen) (.int .i64 X.create) (.int .i64 X.want) (.int .i64 X.cool) (.bool X.scale) (.slice (some ⟨b, off, none⟩) X.ends.length ce) (.bool X.drop)) := by rw [hw10]; exact HA10.out.sc (by have := HLO.out.1; omega) _ _
              have hg10 : w10.heap[g]? = some (.cells (cur.setIfInBounds (ci * 7 + 5) (.bool true)) 90 (0, 0)) := by rw [hw10]; exact heap_setCell_same w9 g _ cur _ _ hg
              have d2' : w10.cell? ⟨g, ci * 7 + 2, none⟩ = some (.int .i64 c.ver) := by rw [hw10]; exact (sc_ne _ _ _ _ _ _ (Or.inr (by omega))).trans d2
              have hgz' : g < w10.heap.size := lt_heap hg10
              have hgf' : ∀ j, w10.frozen? ⟨g, j, none⟩ = false := fun j => by simp [World.frozen?, hg10]
              go_upto_region 26 with fail
              go_upto_region 27 with fail
              rw [← hw10]
              clear hw10 xz x0 x1 x2 x3 d5 d2 hgz hgf
              obtain ⟨xz, x0, x1, x2, x3⟩ := HX11.out.at_
              have HX12 : Hid (XI lo px (w10.setCell ⟨g, ci * 7 + 2, none⟩ (.int .i64 v)) K.now K.svcs (endTo K.cps X v (q + 1)) K.bts p0 (some ⟨g, 0, none⟩) p2 K.svcs.length K.cps.length K.bts.length q0 q1 q2) := by
                have hcl : (l.set ci { c with ending := true }).getD ci Cp.none = { c with ending := true } := by simp [hll, hci]
                have t := HX11.out.setCp hg10 ci 2 (by rw [List.length_set]; omega) (by omega) (.int .i64 v) { c with ending := true, ver := v } (by rw [hcl]; rfl) hcz
                rw [List.set_set] at t
                have e : endTo K.cps X v (q + 1) = l.set ci { c with ending := true, ver := v } := by
                  rw [endTo, ← HNQ.out, HCX.out, Int.toNat_natCast, ← HL.out]
                  unfold setEnd
                  rw [← hc]
                rw [e]; exact t
              have HA12 := hid (HA11.out.sc (g := g) (by have := HLO.out.1; omega) (ci * 7 + 2) (.int .i64 v))
              clear hl hc hcell
              go_wp2
              go_roundw
              case rel => exact ⟨q + 1, by omega, by go_num, HN.out, HA12.out, HX12.out⟩
              case measure => simp [intOf]; omega
            · obtain rfl : q = X.ends.length := by omega
              have HC6 : Hid (acCode K X = if dropBad K X then 6 else if makeBad K X then 6 else if scaleBad K X then 6 else if roomBad K X then 7 else 0) := by show _ = _; rw [HC5.out, HQ.out]; rfl
              have HLC : Hid (endCps K X = endTo K.cps X v X.ends.length) := by show _ = _; rw [HV.out]; rfl
              have HLL : Hid ((endTo K.cps X v X.ends.length).length = K.cps.length) := endTo_len _ _ _ _
              clear HC5 HQ
              go_wp2
              have e1 := HRK.out
              have e2 := HRC.out
              subst e1 e2
              exact seg10 K X _ a1 a2 ae c0 c1 c2 ce w HH HK HOK k HIX HKL v HV lo px HLO _ HLC HLL HSZ p0 p1 p2 q0 q1 q2 _ HA8 HX8 HC6 _ _ _ _ _ _ _ _ _ _ _ _ _ _ _ _ _ _ _ _ _ _ _ _ _ _ _ _ _ _ _ _ _ _ _ _ _ _ _ _ _ _ _ _ _ _ _ _ _ _ _ _ _ _ _ _ _ _ _ _ _ _ _ _ _ _ _ _ _ _ _ _ _ _ _ _ _ _ _ _ _ _ _ _ _ _ _ _ _ _ _ _ _ _ _ _ _ _ _ _ _ _ _ _ _ _ _ _ _ _ _ _ _ _ _ _ _ _ _ _ _ _ _ _ _ _ _ _ _ _ _ _ _ _ _ _ _ _ _ _ _ _ _ _ _ _ _ _ _ _ _ _ _ _ _ _ _ _ _ _ _ _ _ _ _ _ _ _ _ _ _ _ _ _ _ _ _ _ _ _ _ _ _ _ _ _ _ _ _ _ _ _ _ _ _ _ _ _ _ _ _ _ _ _ _ _ _ _ _ _ _ _ _ _ _ _ _ _ _ _ _ _ _ _ _ _ _ _ _ _ _ _ _ _ _ _ _ _ _ _ _ _ _ _ _ _ _ _ _ _ _ _ _ _ _ _ _ _ _ _ _ _ _ _ _ _ _ _ _ _ _ _ _ _ _ _ _ _ _ _ _ _ _ _ _ _ _ _ _ _ _ _ _ _ _ _ _

end Go.Proofs.YtpamkibnahhphaaGreatDoor
