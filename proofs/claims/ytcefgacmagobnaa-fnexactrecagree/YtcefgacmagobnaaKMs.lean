/-
  What most disks have: the specification.
-/
import Derived.Test.YtcefgacmagobnaaKMj
import Derived.Test.YtcefgacmagobnaaKXs
import Derived.Test.YtcefgacmagobnaaUL
namespace Go.Proofs.Ytcefgacmagobnaa
open Go.RowKit Go.Deep


theorem Try.slUd : Try.prog.underlying 110 = some (.struct (Try.prog.fieldsOf 110)) := by kernel_rfl
theorem Try.slHeld : Try.prog.stoodInHeld 110 = false := by kernel_rfl
theorem Try.slGuard : Try.prog.eqGuardType Try.prog.depth 110 = false := by kernel_rfl
theorem eqlRs (x y : Int) (a b : ByteArray) (W : World) : (binOp .eql 110 (.agg #[.int .i64 x, .string a]) (.agg #[.int .i64 y, .string b])).run Try.prog W = .ok (.bool ((x == y) && (a.toList == b.toList))) W := by
  rw [run_eql_struct, run_equalIn_agg W 9999 110 _ _ Try.slUd Try.slHeld]
  simp [Program.fieldsOf, Try.underlying110, go_sem]
  by_cases h : x = y
  · by_cases k : a.toList = b.toList <;> simp [h, k]
  · simp [h]
theorem guardRs (p q : Operand) (xs ys : Array Value) (W : World) : (eqGuard .eql 110 p q (.agg xs) (.agg ys)).run Try.prog W = .ok () W := run_eqGuard_agg W _ _ _ _ _ _ Try.slGuard

/-- A recorder of a row: its safe disk. -/
theorem RrsV.disk {w : World} {a : Option Addr} {l : List Rr} (h : RrsV w a l) (i : Nat) (hi : i < l.length) : ∃ b off s c, a = some ⟨b, off, none⟩ ∧ b < w.heap.size ∧ w.rangeAt b (off + i * 18 + 3) [.int .i64 (l.getD i Rr.nil).safe.prom, .int .i64 (l.getD i Rr.nil).safe.known, .slice s (l.getD i Rr.nil).safe.slots.length c] ∧ RssV w s (l.getD i Rr.nil).safe.slots ∧ (l.getD i Rr.nil).safe.slots.length ≤ 1048576 := by
  obtain ⟨b, off, ve, e, hl, _, hr, hE, hw⟩ := h.spec i hi
  obtain ⟨b0, b1, b2, b3, b4, b5, b6, d0, d1, d2, d3, d4, d5, d6, rfl, hv, _⟩ := vRr hE hw
  refine ⟨b, off, b0, d0, e, hl, fun j v hj => ?_, hv.l0, ?_⟩
  · rw [Nat.add_assoc]
    match j, hj with
    | 0, hj => injection hj with hj; subst hj; exact hr 3 _ rfl
    | 1, hj => injection hj with hj; subst hj; exact hr 4 _ rfl
    | 2, hj => injection hj with hj; subst hj; exact hr 5 _ rfl
    | n + 3, hj => simp at hj
  · simp only [eRr, eRd, wtL, wtL_app] at hw; omega

set_option maxRecDepth 8000 in
set_option maxHeartbeats 16000000 in
theorem l27MajorS (K : Rw) (ix : Int) (a0 a1 a2 : Option Addr) (c0 c1 c2 : Nat) (w : World) (h : RwV w a0 a1 a2 K) :
    Calls Try.prog 33 #[.agg #[.slice a0 K.recs.length c0, .slice a1 K.fl.length c1, .slice a2 K.fx.length c2], .int .i64 ix] w fun e w' => e = .returned (.tuple #[.string (major K.recs ix).1, .bool (major K.recs ix).2]) ∧ Below w.heap.size w w' := by
  have HH := hid h
  have hl0 := h.l0.len
  clear h
  obtain ⟨R, hR⟩ : ∃ R, R = major K.recs ix := ⟨_, rfl⟩
  have HR : Hid (R = majOf K.recs ix (firstTo (majAt K.recs ix) K.recs.length)) := hR
  rw [← hR]
  clear hR
  obtain ⟨wa, hwa⟩ : ∃ wa, wa = w.alloc (.cells #[.slice a0 K.recs.length c0, .slice a1 K.fl.length c1, .slice a2 K.fx.length c2] 33) := ⟨_, rfl⟩
  have HB : Hid (Below w.heap.size w wa) := by show Below _ _ _; rw [hwa]; exact blw_alloc (Below.refl _ _) _
  have HX : Hid (LBox wa w.heap.size [.slice a0 K.recs.length c0, .slice a1 K.fl.length c1, .slice a2 K.fx.length c2]) := by show LBox _ _ _; rw [hwa]; exact LBox.new w #[.slice a0 K.recs.length c0, .slice a1 K.fl.length c1, .slice a2 K.fx.length c2] _ _ rfl
  go_enter Try.func33, Try.ntmps33
  go_upto_region 1 with fail
  rw [← hwa]
  clear hwa
  go_wp2
  go_loopw [6, 7, 8, 9, 10] (fun i _ _ _ _ wr => ∃ q : Nat, q ≤ K.recs.length ∧ i = .int .i64 q ∧ (∀ j, j < q → majAt K.recs ix j = false) ∧ LBox wr w.heap.size [.slice a0 K.recs.length c0, .slice a1 K.fl.length c1, .slice a2 K.fx.length c2] ∧ Below w.heap.size w wr) (fun i _ _ _ _ _ => K.recs.length - (intOf i).toNat)
  case atStart => exact ⟨0, Nat.zero_le _, rfl, fun j hj => absurd hj (Nat.not_lt_zero _), HX.out, HB.out⟩
  case round =>
    obtain ⟨wo, rfl⟩ : ∃ wo, wo = wr := ⟨_, rfl⟩
    obtain ⟨q, hq, rfl, ha, hX, hW⟩ := hrel
    have HQ := hid ha
    have HB2 := hid hW
    have HX2 := hid hX
    clear ha hW hX HX HB
    have yz := HX2.out.lt
    have y0 := HX2.out.get 0 _ rfl
    by_cases hlt : q < K.recs.length
    · obtain ⟨b, off, s, c, hab, hbl, hrg, hs, hsl⟩ := (HH.out.l0.later HB2.out).disk q hlt
      subst hab
      obtain ⟨x, hx⟩ : ∃ x : Rd, x = (K.recs.getD q Rr.nil).safe := ⟨_, rfl⟩
      rw [← hx] at hrg hs hsl
      have HI : Hid (inI K.recs ix q = decide (ix ≤ (x.slots.length : Int))) := by show _ = _; rw [inI, ← hx]
      have HSI : Hid (slotI K.recs ix q = x.slots.getD (ix.toNat - 1) Rs.none) := by show _ = _; rw [slotI, ← hx]
      have hm0 : (0 : Int) ≤ (q : Int) := by omega
      have hm3 : (q : Int) < (K.recs.length : Int) := by omega
      obtain ⟨cs3, hcs3⟩ : ∃ cs3 : List Value, cs3 = [.int .i64 x.prom, .int .i64 x.known, .slice s x.slots.length c] := ⟨_, rfl⟩
      have HCS := hid hcs3
      have HS := hid hs
      obtain ⟨wb, hwb⟩ : ∃ wb, wb = (wo.alloc (.cells #[.int .i64 0, .int .i64 0, .slice none 0 0] 47)).setCells wo.heap.size 0 cs3 := ⟨_, rfl⟩
      have hth := nv_there wo #[.int .i64 0, .int .i64 0, .slice none 0 0] 47 cs3 (by rw [HCS.out]; rfl)
      have hone := all_oneCell_toArray (cs := cs3) (by rw [HCS.out]; simp [Value.oneCell'])
      have hszz : (Try.prog.info? 47).map (·.size) = some cs3.toArray.size := by rw [HCS.out]; kernel_rfl
      have hby : Below wo.heap.size wo wb := by rw [hwb]; exact nv_below wo #[.int .i64 0, .int .i64 0, .slice none 0 0] 47 _
      have HY : Hid (LBox wb wo.heap.size cs3) := by show LBox _ _ _; rw [hwb]; exact nv_box wo #[.int .i64 0, .int .i64 0, .slice none 0 0] 47 _ (by rw [HCS.out]; rfl)
      have HB3 := hid (blw_trans HB2.out hby)
      have HX3 := hid (HX2.out.later hby)
      replace HS := hid (HS.out.later hby)
      rw [← hcs3] at hrg
      clear hx hby hs hcs3
      go_upto_region 5 with (first | refine wpList_load_mid rfl 47 _ rfl b (off + q * 18 + 3) rfl cs3 _ hrg Try.underlying47 rfl (by rw [HCS.out]; kernel_rfl) ?_ | refine wpList_store_mid rfl 47 _ _ rfl wo.heap.size 0 cs3.toArray rfl rfl hth hszz hone ?_)
      first | rw [← hwb] | (simp only [List.toList_toArray]; rw [← hwb])
      clear hwb hth hone hszz hrg hbl yz y0 HX2 HB2
      have yz := HY.out.lt
      have y2 := HY.out.get 2 (.slice s x.slots.length c) (by rw [HCS.out]; rfl)
      by_cases h1 : ix < 1
      · have HN : Hid (∀ j, j < q + 1 → majAt K.recs ix j = false) := fun j hj => by
          by_cases e : j = q
          · subst e; unfold majAt hasI; rw [decide_eq_false (p := 1 ≤ ix) (by omega)]; rfl
          · exact HQ.out j (by omega)
        go_wp2
        go_roundw
        case rel => exact ⟨q + 1, by omega, by go_num, HN.out, HX3.out, HB3.out⟩
        case measure => simp [intOf]; omega
      by_cases h2 : (x.slots.length : Int) < ix
      · have HN : Hid (∀ j, j < q + 1 → majAt K.recs ix j = false) := fun j hj => by
          by_cases e : j = q
          · subst e; unfold majAt hasI; rw [HI.out, decide_eq_false (p := ix ≤ (x.slots.length : Int)) (by omega), Bool.and_false]; rfl
          · exact HQ.out j (by omega)
        go_wp2
        go_roundw
        case rel => exact ⟨q + 1, by omega, by go_num, HN.out, HX3.out, HB3.out⟩
        case measure => simp [intOf]; omega
      obtain ⟨m, rfl⟩ : ∃ m : Nat, ix = (m : Int) + 1 := ⟨(ix - 1).toNat, by omega⟩
      have hm : m < x.slots.length := by omega
      obtain ⟨bs, os, hes, hbs, e0, e1, e2⟩ := HS.out.at_ m hm
      subst hes
      obtain ⟨z, hz⟩ : ∃ z : Rs, z = x.slots.getD m Rs.none := ⟨_, rfl⟩
      rw [← hz] at e0 e1 e2
      have HSZ : Hid (slotI K.recs ((m : Int) + 1) q = z) := by show _ = _; rw [HSI.out, hz]; congr 1
      have hm6 : (0 : Int) ≤ (m : Int) := by omega
      have hm7 : (m : Int) < (x.slots.length : Int) := by omega
      have hm8 : ((m : Int) + 1 - 1) = (m : Int) := by omega
      clear hz
      cases hb0 : (z.bal == 0)
      rotate_left
      · have HN : Hid (∀ j, j < q + 1 → majAt K.recs ((m : Int) + 1) j = false) := fun j hj => by
          by_cases e : j = q
          · subst e; unfold majAt hasI; rw [HSZ.out, hb0]; simp
          · exact HQ.out j (by omega)
        go_wp2
        go_roundw
        case rel => exact ⟨q + 1, by omega, by go_num, HN.out, HX3.out, HB3.out⟩
        case measure => simp [intOf]; omega
      have HHA : Hid (hasI K.recs ((m : Int) + 1) q = true) := by
        show _ = _
        unfold hasI; rw [HSZ.out, hb0, HI.out, decide_eq_true (p := (m : Int) + 1 ≤ (x.slots.length : Int)) (by omega), decide_eq_true (p := (1 : Int) ≤ (m : Int) + 1) (by omega)]; rfl
      have HE := hid (And.intro hbs (And.intro e0 (And.intro e1 e2)))
      go_wp2
      clear e0 e1 e2 yz y2 hbs
      go_loopw [8, 9, 10] (fun n k _ wr => ∃ p : Nat, p ≤ K.recs.length ∧ k = .int .i64 p ∧ n = .int .i64 ((cntP (fun j => inI K.recs ((m : Int) + 1) j && sameS (slotI K.recs ((m : Int) + 1) j) z) p : Nat) : Int) ∧ Below wb.heap.size wb wr) (fun _ k _ _ => K.recs.length - (intOf k).toNat)
      case atStart => exact ⟨0, Nat.zero_le _, rfl, rfl, Below.refl _ _⟩
      case round =>
        obtain ⟨p, hp, rfl, rfl, hW⟩ := hrel
        have HBX := hid hW
        have HX4 := hid (HX3.out.later hW)
        have HY4 := hid (HY.out.later hW)
        have HB4 := hid (blw_trans HB3.out hW)
        clear hW
        have yz := HX4.out.lt
        have y0 := HX4.out.get 0 _ rfl
        obtain ⟨n, hn⟩ : ∃ n : Nat, n = cntP (fun j => inI K.recs ((m : Int) + 1) j && sameS (slotI K.recs ((m : Int) + 1) j) z) p := ⟨_, rfl⟩
        have hnp : n ≤ p := by rw [hn]; exact cntP_le _ _
        rw [← hn]
        have HNN := hid hn
        clear hn
        by_cases hlp : p < K.recs.length
        · obtain ⟨b2, off2, s2, d2, hab2, hbl2, hrg2, hs2, hsl2⟩ := (HH.out.l0.later HB4.out).disk p hlp
          injection hab2 with hab2
          injection hab2 with hq1 hq2 _
          subst hq1 hq2
          obtain ⟨x2, hx2⟩ : ∃ x2 : Rd, x2 = (K.recs.getD p Rr.nil).safe := ⟨_, rfl⟩
          rw [← hx2] at hrg2 hs2 hsl2
          have HI2 : Hid (inI K.recs ((m : Int) + 1) p = decide ((m : Int) + 1 ≤ (x2.slots.length : Int))) := by show _ = _; rw [inI, ← hx2]
          have HSI2 : Hid (slotI K.recs ((m : Int) + 1) p = x2.slots.getD m Rs.none) := by show _ = _; rw [slotI, ← hx2]; congr 1
          have hp0 : (0 : Int) ≤ (p : Int) := by omega
          have hp3 : (p : Int) < (K.recs.length : Int) := by omega
          obtain ⟨cs4, hcs4⟩ : ∃ cs4 : List Value, cs4 = [.int .i64 x2.prom, .int .i64 x2.known, .slice s2 x2.slots.length d2] := ⟨_, rfl⟩
          have HCS4 := hid hcs4
          obtain ⟨wc, hwc⟩ : ∃ wc, wc = (wr.alloc (.cells #[.int .i64 0, .int .i64 0, .slice none 0 0] 47)).setCells wr.heap.size 0 cs4 := ⟨_, rfl⟩
          have hth := nv_there wr #[.int .i64 0, .int .i64 0, .slice none 0 0] 47 cs4 (by rw [HCS4.out]; rfl)
          have hone := all_oneCell_toArray (cs := cs4) (by rw [HCS4.out]; simp [Value.oneCell'])
          have hszz : (Try.prog.info? 47).map (·.size) = some cs4.toArray.size := by rw [HCS4.out]; kernel_rfl
          have hby : Below wr.heap.size wr wc := by rw [hwc]; exact nv_below wr #[.int .i64 0, .int .i64 0, .slice none 0 0] 47 _
          have HZ : Hid (LBox wc wr.heap.size cs4) := by show LBox _ _ _; rw [hwc]; exact nv_box wr #[.int .i64 0, .int .i64 0, .slice none 0 0] 47 _ (by rw [HCS4.out]; rfl)
          have HBX5 := hid (blw_trans HBX.out hby)
          have HY5 := hid (HY4.out.later hby)
          have HS5 := hid (hs2.later hby)
          rw [← hcs4] at hrg2
          clear hx2 hby hs2 hcs4
          go_upto_region 11 with (first | refine wpList_load_mid rfl 47 _ rfl b (off + p * 18 + 3) rfl cs4 _ hrg2 Try.underlying47 rfl (by rw [HCS4.out]; kernel_rfl) ?_ | refine wpList_store_mid rfl 47 _ _ rfl wr.heap.size 0 cs4.toArray rfl rfl hth hszz hone ?_)
          first | rw [← hwc] | (simp only [List.toList_toArray]; rw [← hwc])
          clear hwc hth hone hszz hrg2 hbl2 yz y0 HX4 HB4 HY4 HBX
          have hNE := pst_some wc
          have kz := HZ.out.lt
          have Z0 : ∀ px : Pst wc, wr.heap.size < px.W.heap.size := fun px => px.size kz
          have Z2 : ∀ px : Pst wc, px.W.cell? ⟨wr.heap.size, 2, none⟩ = some (.slice s2 x2.slots.length d2) := fun px => px.cell (HZ.out.get 2 _ (by rw [HCS4.out]; rfl)) kz
          have kz' := HY5.out.lt
          have Y0 : ∀ px : Pst wc, wo.heap.size < px.W.heap.size := fun px => px.size kz'
          have Y2 : ∀ px : Pst wc, px.W.cell? ⟨wo.heap.size, 2, none⟩ = some (.slice (some ⟨bs, os, none⟩) x.slots.length c) := fun px => px.cell (HY5.out.get 2 _ (by rw [HCS.out]; rfl)) kz'
          have hbs5 : bs < wc.heap.size := Nat.lt_of_lt_of_le HE.out.1 HBX5.out.size
          have S0 : ∀ px : Pst wc, bs < px.W.heap.size := fun px => px.size hbs5
          have E0 : ∀ px : Pst wc, px.W.cell? ⟨bs, os + m * 2, none⟩ = some (.int .i64 z.bal) := fun px => px.cell ((HBX5.out.cell (p := ⟨bs, os + m * 2, none⟩) HE.out.1).trans HE.out.2.1) hbs5
          have E1 : ∀ px : Pst wc, px.W.cell? ⟨bs, os + m * 2 + 1, none⟩ = some (.string z.txt) := fun px => px.cell ((HBX5.out.cell (p := ⟨bs, os + m * 2 + 1, none⟩) HE.out.1).trans HE.out.2.2.1) hbs5
          clear kz kz'
          by_cases h3 : (m : Int) + 1 ≤ (x2.slots.length : Int)
          rotate_left
          · have h3d : decide ((m : Int) + 1 ≤ (x2.slots.length : Int)) = false := decide_eq_false h3
            have HN : Hid (n = cntP (fun j => inI K.recs ((m : Int) + 1) j && sameS (slotI K.recs ((m : Int) + 1) j) z) (p + 1)) := by
              show _ = _
              rw [cntP, ← HNN.out, HI2.out, h3d]; rfl
            go_wp2_with fail
            refine region_class wc (Below.refl _ _) (by kernel_rfl) (by kernel_rfl) ?_
            repeat (first
              | go_big_quiet_skip
              | (go_big_quiet_want; go_big_quiet_op; first | go_big_quiet_on | (apply Exists.intro; refine ⟨fun px => ?_, ?_⟩; (focus (fail)); go_big_quiet_on)))
            refine wpQuiet_nil ?_
            intro _ hw'
            obtain ⟨x6, hw''⟩ := hw'
            subst hw''
            go_wp2
            go_roundw
            case rel => exact ⟨p + 1, by omega, by go_num, by rw [← HN.out], blw_trans HBX5.out x6.ok⟩
            case measure => simp [intOf]; omega
          have h3d : decide ((m : Int) + 1 ≤ (x2.slots.length : Int)) = true := decide_eq_true h3
          obtain ⟨bt, ot, het, hbt, t0, t1, t2⟩ := HS5.out.at_ m (by omega)
          subst het
          obtain ⟨y, hy⟩ : ∃ y : Rs, y = x2.slots.getD m Rs.none := ⟨_, rfl⟩
          rw [← hy] at t0 t1 t2
          have HSY : Hid (slotI K.recs ((m : Int) + 1) p = y) := by show _ = _; rw [HSI2.out, hy]
          have R0 : ∀ px : Pst wc, bt < px.W.heap.size := fun px => px.size hbt
          have F0 : ∀ px : Pst wc, px.W.cell? ⟨bt, ot + m * 2, none⟩ = some (.int .i64 y.bal) := fun px => px.cell t0 hbt
          have F1 : ∀ px : Pst wc, px.W.cell? ⟨bt, ot + m * 2 + 1, none⟩ = some (.string y.txt) := fun px => px.cell t1 hbt
          have hm9 : (m : Int) < (x2.slots.length : Int) := by omega
          obtain ⟨e, he⟩ : ∃ e : Bool, e = ((y.bal == z.bal) && (y.txt.toList == z.txt.toList)) := ⟨_, rfl⟩
          have hbe : ∀ W, (binOp .eql 110 (.agg #[.int .i64 y.bal, .string y.txt]) (.agg #[.int .i64 z.bal, .string z.txt])).run Try.prog W = .ok (.bool e) W := fun W => by rw [eqlRs, he]
          have hge := guardRs
          have HEE : Hid (sameS y z = e) := he.symm
          clear he hy t0 t1 t2 hbt
          cases e
          · have HN : Hid (n = cntP (fun j => inI K.recs ((m : Int) + 1) j && sameS (slotI K.recs ((m : Int) + 1) j) z) (p + 1)) := by
              show _ = _
              rw [cntP, ← HNN.out, HSY.out, HEE.out, Bool.and_false]; rfl
            go_wp2_with fail
            refine region_class wc (Below.refl _ _) (by kernel_rfl) (by kernel_rfl) ?_
            repeat (first
              | go_big_quiet_skip
              | (go_big_quiet_want; go_big_quiet_op; first | go_big_quiet_on | (apply Exists.intro; refine ⟨fun px => ?_, ?_⟩; (focus (fail)); go_big_quiet_on)))
            refine wpQuiet_nil ?_
            intro _ hw'
            obtain ⟨x6, hw''⟩ := hw'
            subst hw''
            go_wp2
            go_roundw
            case rel => exact ⟨p + 1, by omega, by go_num, by rw [← HN.out], blw_trans HBX5.out x6.ok⟩
            case measure => simp [intOf]; omega
          · have HN : Hid (n + 1 = cntP (fun j => inI K.recs ((m : Int) + 1) j && sameS (slotI K.recs ((m : Int) + 1) j) z) (p + 1)) := by
              show _ = _
              rw [cntP, ← HNN.out, HSY.out, HEE.out, HI2.out, h3d]; rfl
            go_wp2_with fail
            refine region_class wc (Below.refl _ _) (by kernel_rfl) (by kernel_rfl) ?_
            repeat (first
              | go_big_quiet_skip
              | (go_big_quiet_want; go_big_quiet_op; first | go_big_quiet_on | (apply Exists.intro; refine ⟨fun px => ?_, ?_⟩; (focus (fail)); go_big_quiet_on)))
            refine wpQuiet_nil ?_
            intro _ hw'
            obtain ⟨x6, hw''⟩ := hw'
            subst hw''
            go_wp2
            go_roundw
            case rel => exact ⟨p + 1, by omega, by go_num, by rw [← HN.out]; go_num, blw_trans HBX5.out x6.ok⟩
            case measure => simp [intOf]; omega
        obtain rfl : p = K.recs.length := by omega
        have HMA : Hid (majAt K.recs ((m : Int) + 1) q = decide (K.recs.length < 2 * n)) := by show _ = _; unfold majAt; rw [HHA.out, HSZ.out, ← HNN.out]; rfl
        have kz := HY4.out.lt
        have k2 := HY4.out.get 2 (.slice (some ⟨bs, os, none⟩) x.slots.length c) (by rw [HCS.out]; rfl)
        have hbs5 : bs < wr.heap.size := Nat.lt_of_lt_of_le HE.out.1 HBX.out.size
        have t1 := (HBX.out.cell (p := ⟨bs, os + m * 2 + 1, none⟩) HE.out.1).trans HE.out.2.2.1
        by_cases h4 : (K.recs.length : Int) < 2 * (n : Int)
        · have HF : Hid (R = (z.txt, true)) := by
            show R = _
            rw [HR.out, firstTo_hit hlt (HMA.out.trans (decide_eq_true (by omega))) HQ.out]
            unfold majOf
            rw [if_pos (by omega), Int.toNat_natCast, HSZ.out]
          go_wp2
          go_ret2
          exact ⟨by rw [HF.out]; rfl, HB4.out⟩
        · have HN : Hid (∀ j, j < q + 1 → majAt K.recs ((m : Int) + 1) j = false) := fun j hj => by
            by_cases e : j = q
            · subst e; exact HMA.out.trans (decide_eq_false (by omega))
            · exact HQ.out j (by omega)
          go_wp2
          go_roundw
          case rel => exact ⟨q + 1, by omega, by go_num, HN.out, HX4.out, HB4.out⟩
          case measure => simp [intOf]; omega
    obtain rfl : q = K.recs.length := by omega
    have HF : Hid (R = (ByteArray.empty, false)) := by show R = _; rw [HR.out, firstTo_none HQ.out]; rfl
    go_wp2
    go_ret2
    exact ⟨by rw [HF.out]; rfl, HB2.out⟩

/-- What RecMajor answers. -/
def majW (K : Rw) (ix : Int) : ByteArray × Bool := if worldOk K then major K.recs ix else (ByteArray.empty, false)

set_option maxRecDepth 8000 in
set_option maxHeartbeats 8000000 in
theorem recMajorS (K : Rw) (ix : Int) (a0 a1 a2 : Option Addr) (c0 c1 c2 : Nat) (w : World) (h : RwV w a0 a1 a2 K) :
    Calls Try.prog 11 #[.agg #[.slice a0 K.recs.length c0, .slice a1 K.fl.length c1, .slice a2 K.fx.length c2], .int .i64 ix] w fun e w' => e = .returned (.tuple #[.string (majW K ix).1, .bool (majW K ix).2]) ∧ Below w.heap.size w w' := by
  have HH := hid h
  clear h
  obtain ⟨wa, hwa⟩ : ∃ wa, wa = w.alloc (.cells #[.slice a0 K.recs.length c0, .slice a1 K.fl.length c1, .slice a2 K.fx.length c2] 33) := ⟨_, rfl⟩
  have HB : Hid (Below w.heap.size w wa) := by show Below _ _ _; rw [hwa]; exact blw_alloc (Below.refl _ _) _
  have HX : Hid (LBox wa w.heap.size [.slice a0 K.recs.length c0, .slice a1 K.fl.length c1, .slice a2 K.fx.length c2]) := by show LBox _ _ _; rw [hwa]; exact LBox.new w #[.slice a0 K.recs.length c0, .slice a1 K.fl.length c1, .slice a2 K.fx.length c2] _ _ rfl
  go_enter Try.func11, Try.ntmps11
  go_upto_region 1 with fail
  rw [← hwa]
  clear hwa
  have yz := HX.out.lt
  have y := HX.out.at_
  have HC := hid (recWorldOkS K a0 a1 a2 c0 c1 c2 wa (HH.out.later HB.out))
  go_wp2_with (refine wpList_load_mid rfl 33 _ rfl w.heap.size 0 rfl [.slice a0 K.recs.length c0, .slice a1 K.fl.length c1, .slice a2 K.fx.length c2] _ y Try.underlying33 rfl (by kernel_rfl) ?_)
  refine HC.out.mono ?_
  rintro e w1 ⟨rfl, hb⟩
  have HB2 := hid (blw_trans HB.out hb)
  have HX2 := hid (HX.out.later hb)
  clear hb HC yz y
  cases hok : worldOk K
  · have HE : Hid (majW K ix = (ByteArray.empty, false)) := by show _ = _; unfold majW; rw [hok]; rfl
    go_wp2
    go_ret2
    exact ⟨by rw [HE.out]; rfl, HB2.out⟩
  have HE : Hid (majW K ix = major K.recs ix) := by show _ = _; unfold majW; rw [hok]; rfl
  have yz := HX2.out.lt
  have y := HX2.out.at_
  have HC := hid (l27MajorS K ix a0 a1 a2 c0 c1 c2 w1 (HH.out.later HB2.out))
  go_wp2_with (refine wpList_load_mid rfl 33 _ rfl w.heap.size 0 rfl [.slice a0 K.recs.length c0, .slice a1 K.fl.length c1, .slice a2 K.fx.length c2] _ y Try.underlying33 rfl (by kernel_rfl) ?_)
  refine HC.out.mono ?_
  rintro e w2 ⟨rfl, hb⟩
  have HB3 := hid (blw_trans HB2.out hb)
  clear hb HC yz y
  go_wp2
  go_ret2
  exact ⟨by rw [HE.out]; rfl, HB3.out⟩
end Go.Proofs.Ytcefgacmagobnaa
