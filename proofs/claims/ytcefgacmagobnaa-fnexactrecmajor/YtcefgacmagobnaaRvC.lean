/-
  Recorders: RecValid by the specification.
-/
import Derived.Test.YtcefgacmagobnaaRvU
namespace Go.Proofs.Ytcefgacmagobnaa
open Go.RowKit Go.Deep

set_option maxRecDepth 8000 in
set_option maxHeartbeats 40000000 in
theorem recValidS (K : Rr) (a0 a1 a2 a3 a4 a5 a6 : Option Addr) (c0 c1 c2 c3 c4 c5 c6 : Nat) (w : World) (h : RrV w a0 a1 a2 a3 a4 a5 a6 K) :
    Calls Try.prog 19 #[.agg #[.int .i64 K.num, .int .i64 K.of_, .bool K.up, .int .i64 K.safe.prom, .int .i64 K.safe.known, .slice a0 K.safe.slots.length c0, .int .i64 K.disk.prom, .int .i64 K.disk.known, .slice a1 K.disk.slots.length c1, .slice a2 K.held.length c2, .slice a3 K.wish.length c3, .bool K.lead, .bool K.try_, .int .i64 K.bal, .slice a4 K.yes.length c4, .slice a5 K.best.length c5, .slice a6 K.acks.length c6, .int .i64 K.heard]] w fun e w' => e = .returned (.bool (recOk K)) ∧ Below w.heap.size w w' := by
  have z2 := h.l2.len
  have z3 := h.l3.len
  have z4 := h.l4.len
  have z5 := h.s5
  have z6 := h.l6.len
  obtain ⟨R, hR⟩ : ∃ R, R = recOk K := ⟨_, rfl⟩
  have HR : Hid (R = (inB K.of_ 1 5 && inB K.num 1 K.of_ && diskOk K.safe && diskOk K.disk && decide (K.held.length ≤ 400) && wishesOk K.wish && inB K.heard 0 1000000 && allTo (heldAt K) K.held.length && numsOk K.yes K.of_ && slotsOk K.best && acksOk K.acks K.of_ && !(K.lead && K.try_) && roleOk K && (K.up || (quietB K && decide ((K.held.length : Int) + K.wish.length + K.heard = 0))))) := hR
  rw [← hR]
  clear hR
  obtain ⟨w0, hw0⟩ : ∃ w0, w0 = w.alloc (.cells #[.int .i64 K.num, .int .i64 K.of_, .bool K.up, .int .i64 K.safe.prom, .int .i64 K.safe.known, .slice a0 K.safe.slots.length c0, .int .i64 K.disk.prom, .int .i64 K.disk.known, .slice a1 K.disk.slots.length c1, .slice a2 K.held.length c2, .slice a3 K.wish.length c3, .bool K.lead, .bool K.try_, .int .i64 K.bal, .slice a4 K.yes.length c4, .slice a5 K.best.length c5, .slice a6 K.acks.length c6, .int .i64 K.heard] 52) := ⟨_, rfl⟩
  have HB0 : Hid (Below w.heap.size w w0) := by show Below _ _ _; rw [hw0]; exact blw_alloc (Below.refl _ _) _
  have HX0 : Hid (LBox w0 w.heap.size [.int .i64 K.num, .int .i64 K.of_, .bool K.up, .int .i64 K.safe.prom, .int .i64 K.safe.known, .slice a0 K.safe.slots.length c0, .int .i64 K.disk.prom, .int .i64 K.disk.known, .slice a1 K.disk.slots.length c1, .slice a2 K.held.length c2, .slice a3 K.wish.length c3, .bool K.lead, .bool K.try_, .int .i64 K.bal, .slice a4 K.yes.length c4, .slice a5 K.best.length c5, .slice a6 K.acks.length c6, .int .i64 K.heard]) := by show LBox _ _ _; rw [hw0]; exact LBox.new w _ _ _ rfl
  have HV0 := hid (h.later HB0.out)
  clear h
  go_enter Try.func19, Try.ntmps19
  show Code.wp Try.prog rv0 _ _ _
  rw [rv0_3]
  simp only [rv2, rv1, rv0, Try.f19, Option.getD_some, sfst_seq, ssnd_seq]
  go_upto_region 1 with fail
  rw [← hw0]
  clear hw0
  have y0 := HX0.out.get 0 (.int .i64 K.num) rfl
  have y1 := HX0.out.get 1 (.int .i64 K.of_) rfl
  have y2 := HX0.out.get 2 (.bool K.up) rfl
  have y3 := HX0.out.get 3 (.int .i64 K.safe.prom) rfl
  have y4 := HX0.out.get 4 (.int .i64 K.safe.known) rfl
  have y5 := HX0.out.get 5 (.slice a0 K.safe.slots.length c0) rfl
  have y6 := HX0.out.get 6 (.int .i64 K.disk.prom) rfl
  have y7 := HX0.out.get 7 (.int .i64 K.disk.known) rfl
  have y8 := HX0.out.get 8 (.slice a1 K.disk.slots.length c1) rfl
  have y9 := HX0.out.get 9 (.slice a2 K.held.length c2) rfl
  have y10 := HX0.out.get 10 (.slice a3 K.wish.length c3) rfl
  have y11 := HX0.out.get 11 (.bool K.lead) rfl
  have y12 := HX0.out.get 12 (.bool K.try_) rfl
  have y13 := HX0.out.get 13 (.int .i64 K.bal) rfl
  have y14 := HX0.out.get 14 (.slice a4 K.yes.length c4) rfl
  have y15 := HX0.out.get 15 (.slice a5 K.best.length c5) rfl
  have y16 := HX0.out.get 16 (.slice a6 K.acks.length c6) rfl
  have y17 := HX0.out.get 17 (.int .i64 K.heard) rfl
  have yz := HX0.out.lt
  cases h1 : inB K.of_ 1 5
  · have HE : Hid (R = false) := by show R = _; rw [HR.out, h1]; simp
    clear HR
    go_wp2_with (go_at_call 18; refine (l21InS _ _ _ _).mono ?_; rintro e w' ⟨rfl, rfl⟩)
    go_ret
    exact ⟨Pl.ret_bool HE.out.symm, HB0.out⟩
  cases h2 : inB K.num 1 K.of_
  · have HE : Hid (R = false) := by show R = _; rw [HR.out, h1, h2]; simp
    clear HR
    go_wp2_with (go_at_call 18; refine (l21InS _ _ _ _).mono ?_; rintro e w' ⟨rfl, rfl⟩)
    go_ret
    exact ⟨Pl.ret_bool HE.out.symm, HB0.out⟩
  go_wp2_with (go_at_call 18; refine (l21InS _ _ _ _).mono ?_; rintro e w' ⟨rfl, rfl⟩)
  refine (recDiskOkS K.safe a0 c0 w0 HV0.out.l0).mono ?_
  rintro e w1 ⟨rfl, hb⟩
  have HB1 := hid (blw_trans HB0.out hb)
  have HX1 := hid (HX0.out.later hb)
  have HV1 := hid (HV0.out.later hb)
  clear hb yz y0 y1 y2 y3 y4 y5 y6 y7 y8 y9 y10 y11 y12 y13 y14 y15 y16 y17 HB0 HX0 HV0
  have y0 := HX1.out.get 0 (.int .i64 K.num) rfl
  have y1 := HX1.out.get 1 (.int .i64 K.of_) rfl
  have y2 := HX1.out.get 2 (.bool K.up) rfl
  have y3 := HX1.out.get 3 (.int .i64 K.safe.prom) rfl
  have y4 := HX1.out.get 4 (.int .i64 K.safe.known) rfl
  have y5 := HX1.out.get 5 (.slice a0 K.safe.slots.length c0) rfl
  have y6 := HX1.out.get 6 (.int .i64 K.disk.prom) rfl
  have y7 := HX1.out.get 7 (.int .i64 K.disk.known) rfl
  have y8 := HX1.out.get 8 (.slice a1 K.disk.slots.length c1) rfl
  have y9 := HX1.out.get 9 (.slice a2 K.held.length c2) rfl
  have y10 := HX1.out.get 10 (.slice a3 K.wish.length c3) rfl
  have y11 := HX1.out.get 11 (.bool K.lead) rfl
  have y12 := HX1.out.get 12 (.bool K.try_) rfl
  have y13 := HX1.out.get 13 (.int .i64 K.bal) rfl
  have y14 := HX1.out.get 14 (.slice a4 K.yes.length c4) rfl
  have y15 := HX1.out.get 15 (.slice a5 K.best.length c5) rfl
  have y16 := HX1.out.get 16 (.slice a6 K.acks.length c6) rfl
  have y17 := HX1.out.get 17 (.int .i64 K.heard) rfl
  have yz := HX1.out.lt
  cases h3 : diskOk K.safe
  · have HE : Hid (R = false) := by show R = _; rw [HR.out, h1, h2, h3]; simp
    clear HR
    go_wp2
    go_ret
    exact ⟨Pl.ret_bool HE.out.symm, HB1.out⟩
  go_wp2_with fail
  refine (recDiskOkS K.disk a1 c1 w1 HV1.out.l1).mono ?_
  rintro e w2 ⟨rfl, hb⟩
  have HB2 := hid (blw_trans HB1.out hb)
  have HX2 := hid (HX1.out.later hb)
  have HV2 := hid (HV1.out.later hb)
  clear hb yz y0 y1 y2 y3 y4 y5 y6 y7 y8 y9 y10 y11 y12 y13 y14 y15 y16 y17 HB1 HX1 HV1
  have y0 := HX2.out.get 0 (.int .i64 K.num) rfl
  have y1 := HX2.out.get 1 (.int .i64 K.of_) rfl
  have y2 := HX2.out.get 2 (.bool K.up) rfl
  have y3 := HX2.out.get 3 (.int .i64 K.safe.prom) rfl
  have y4 := HX2.out.get 4 (.int .i64 K.safe.known) rfl
  have y5 := HX2.out.get 5 (.slice a0 K.safe.slots.length c0) rfl
  have y6 := HX2.out.get 6 (.int .i64 K.disk.prom) rfl
  have y7 := HX2.out.get 7 (.int .i64 K.disk.known) rfl
  have y8 := HX2.out.get 8 (.slice a1 K.disk.slots.length c1) rfl
  have y9 := HX2.out.get 9 (.slice a2 K.held.length c2) rfl
  have y10 := HX2.out.get 10 (.slice a3 K.wish.length c3) rfl
  have y11 := HX2.out.get 11 (.bool K.lead) rfl
  have y12 := HX2.out.get 12 (.bool K.try_) rfl
  have y13 := HX2.out.get 13 (.int .i64 K.bal) rfl
  have y14 := HX2.out.get 14 (.slice a4 K.yes.length c4) rfl
  have y15 := HX2.out.get 15 (.slice a5 K.best.length c5) rfl
  have y16 := HX2.out.get 16 (.slice a6 K.acks.length c6) rfl
  have y17 := HX2.out.get 17 (.int .i64 K.heard) rfl
  have yz := HX2.out.lt
  cases h4 : diskOk K.disk
  · have HE : Hid (R = false) := by show R = _; rw [HR.out, h1, h2, h3, h4]; simp
    clear HR
    go_wp2
    go_ret
    exact ⟨Pl.ret_bool HE.out.symm, HB2.out⟩
  rcases (Decidable.em (K.held.length ≤ 400)).symm with g5 | g5
  · have g5i : (400 : Int) < (K.held.length : Int) := by omega
    have h5 : decide (K.held.length ≤ 400) = false := decide_eq_false g5
    have HE : Hid (R = false) := by show R = _; rw [HR.out, h1, h2, h3, h4, h5]; simp
    clear HR
    go_wp2
    go_ret
    exact ⟨Pl.ret_bool HE.out.symm, HB2.out⟩
  have g5i : ¬ ((400 : Int) < (K.held.length : Int)) := by omega
  have h5 : decide (K.held.length ≤ 400) = true := decide_eq_true g5
  go_wp2_with fail
  refine (l22WishesS K.wish a3 c3 w2 HV2.out.l3).mono ?_
  rintro e w3 ⟨rfl, hb⟩
  have HB3 := hid (blw_trans HB2.out hb)
  have HX3 := hid (HX2.out.later hb)
  have HV3 := hid (HV2.out.later hb)
  clear hb yz y0 y1 y2 y3 y4 y5 y6 y7 y8 y9 y10 y11 y12 y13 y14 y15 y16 y17 HB2 HX2 HV2
  have y0 := HX3.out.get 0 (.int .i64 K.num) rfl
  have y1 := HX3.out.get 1 (.int .i64 K.of_) rfl
  have y2 := HX3.out.get 2 (.bool K.up) rfl
  have y3 := HX3.out.get 3 (.int .i64 K.safe.prom) rfl
  have y4 := HX3.out.get 4 (.int .i64 K.safe.known) rfl
  have y5 := HX3.out.get 5 (.slice a0 K.safe.slots.length c0) rfl
  have y6 := HX3.out.get 6 (.int .i64 K.disk.prom) rfl
  have y7 := HX3.out.get 7 (.int .i64 K.disk.known) rfl
  have y8 := HX3.out.get 8 (.slice a1 K.disk.slots.length c1) rfl
  have y9 := HX3.out.get 9 (.slice a2 K.held.length c2) rfl
  have y10 := HX3.out.get 10 (.slice a3 K.wish.length c3) rfl
  have y11 := HX3.out.get 11 (.bool K.lead) rfl
  have y12 := HX3.out.get 12 (.bool K.try_) rfl
  have y13 := HX3.out.get 13 (.int .i64 K.bal) rfl
  have y14 := HX3.out.get 14 (.slice a4 K.yes.length c4) rfl
  have y15 := HX3.out.get 15 (.slice a5 K.best.length c5) rfl
  have y16 := HX3.out.get 16 (.slice a6 K.acks.length c6) rfl
  have y17 := HX3.out.get 17 (.int .i64 K.heard) rfl
  have yz := HX3.out.lt
  cases h6 : wishesOk K.wish
  · have HE : Hid (R = false) := by show R = _; rw [HR.out, h1, h2, h3, h4, h5, h6]; simp
    clear HR
    go_wp2
    go_ret
    exact ⟨Pl.ret_bool HE.out.symm, HB3.out⟩
  cases h7 : inB K.heard 0 1000000
  · have HE : Hid (R = false) := by show R = _; rw [HR.out, h1, h2, h3, h4, h5, h6, h7]; simp
    clear HR
    go_wp2_with (go_at_call 18; refine (l21InS _ _ _ _).mono ?_; rintro e w' ⟨rfl, rfl⟩)
    go_ret
    exact ⟨Pl.ret_bool HE.out.symm, HB3.out⟩
  have HS : Hid (R = (allTo (heldAt K) K.held.length && numsOk K.yes K.of_ && slotsOk K.best && acksOk K.acks K.of_ && !(K.lead && K.try_) && roleOk K && (K.up || (quietB K && decide ((K.held.length : Int) + K.wish.length + K.heard = 0))))) := by show R = _; rw [HR.out, h1, h2, h3, h4, h5, h6, h7]; simp
  have HHD : Hid (0 ≤ K.heard ∧ K.heard ≤ 1000000) := by
    have q := h7
    unfold inB at q
    simp only [Bool.and_eq_true, decide_eq_true_eq] at q
    exact q
  go_wp2_with (go_at_call 18; refine (l21InS _ _ _ _).mono ?_; rintro e w' ⟨rfl, rfl⟩)
  clear HR h1 h2 h3 h4 h5 h6 h7 yz y0 y1 y2 y3 y4 y5 y6 y7 y8 y9 y10 y11 y12 y13 y14 y15 y16 y17
  go_loopw [3] (fun i wr => ∃ q : Nat, q ≤ K.held.length ∧ i = .int .i64 q ∧ allTo (heldAt K) q = true ∧ Below w3.heap.size w3 wr) (fun i _ => K.held.length - (intOf i).toNat)
  case atStart => exact ⟨0, Nat.zero_le _, rfl, rfl, Below.refl _ _⟩
  case round =>
    obtain ⟨q, hq, rfl, ha, hW⟩ := hrel
    have HQ := hid ha
    have HW := hid hW
    have HB4 := hid (blw_trans HB3.out hW)
    have HX4 := hid (HX3.out.later hW)
    have HV4 := hid (HV3.out.later hW)
    clear ha hW
    have y0 := HX4.out.get 0 (.int .i64 K.num) rfl
    have y1 := HX4.out.get 1 (.int .i64 K.of_) rfl
    have y2 := HX4.out.get 2 (.bool K.up) rfl
    have y3 := HX4.out.get 3 (.int .i64 K.safe.prom) rfl
    have y4 := HX4.out.get 4 (.int .i64 K.safe.known) rfl
    have y5 := HX4.out.get 5 (.slice a0 K.safe.slots.length c0) rfl
    have y6 := HX4.out.get 6 (.int .i64 K.disk.prom) rfl
    have y7 := HX4.out.get 7 (.int .i64 K.disk.known) rfl
    have y8 := HX4.out.get 8 (.slice a1 K.disk.slots.length c1) rfl
    have y9 := HX4.out.get 9 (.slice a2 K.held.length c2) rfl
    have y10 := HX4.out.get 10 (.slice a3 K.wish.length c3) rfl
    have y11 := HX4.out.get 11 (.bool K.lead) rfl
    have y12 := HX4.out.get 12 (.bool K.try_) rfl
    have y13 := HX4.out.get 13 (.int .i64 K.bal) rfl
    have y14 := HX4.out.get 14 (.slice a4 K.yes.length c4) rfl
    have y15 := HX4.out.get 15 (.slice a5 K.best.length c5) rfl
    have y16 := HX4.out.get 16 (.slice a6 K.acks.length c6) rfl
    have y17 := HX4.out.get 17 (.int .i64 K.heard) rfl
    have yz := HX4.out.lt
    by_cases hlt : q < K.held.length
    · obtain ⟨b, off, ma, mc, ha, hbl, ⟨e0, e1, e2, e3, e4, e5, e6, e7⟩, hn⟩ := HV4.out.l2.at_ q hlt
      subst ha
      obtain ⟨x, hx⟩ : ∃ x : Rm, x = K.held.getD q Rm.none := ⟨_, rfl⟩
      rw [← hx] at e0 e1 e2 e3 e4 e5 e6 e7 hn
      have hNE := pst_some wr
      have hbz : ∀ px : Pst wr, b < px.W.heap.size := fun px => px.size hbl
      have hyz : ∀ px : Pst wr, w.heap.size < px.W.heap.size := fun px => px.size yz
      have Y0 : ∀ px : Pst wr, px.W.cell? ⟨w.heap.size, 0, none⟩ = some (.int .i64 K.num) := fun px => px.cell y0 yz
      have Y1 : ∀ px : Pst wr, px.W.cell? ⟨w.heap.size, 1, none⟩ = some (.int .i64 K.of_) := fun px => px.cell y1 yz
      have Y9 : ∀ px : Pst wr, px.W.cell? ⟨w.heap.size, 9, none⟩ = some (.slice (some ⟨b, off, none⟩) K.held.length c2) := fun px => px.cell y9 yz

      have E0 : ∀ px : Pst wr, px.W.cell? ⟨b, off + q * 8, none⟩ = some (.int .i64 x.kind) := fun px => px.cell e0 hbl
      have E1 : ∀ px : Pst wr, px.W.cell? ⟨b, off + q * 8 + 1, none⟩ = some (.int .i64 x.frm) := fun px => px.cell e1 hbl
      have E2 : ∀ px : Pst wr, px.W.cell? ⟨b, off + q * 8 + 2, none⟩ = some (.int .i64 x.to_) := fun px => px.cell e2 hbl
      have E3 : ∀ px : Pst wr, px.W.cell? ⟨b, off + q * 8 + 3, none⟩ = some (.int .i64 x.bal) := fun px => px.cell e3 hbl
      have E4 : ∀ px : Pst wr, px.W.cell? ⟨b, off + q * 8 + 4, none⟩ = some (.int .i64 x.ix) := fun px => px.cell e4 hbl
      have E5 : ∀ px : Pst wr, px.W.cell? ⟨b, off + q * 8 + 5, none⟩ = some (.int .i64 x.known) := fun px => px.cell e5 hbl
      have E6 : ∀ px : Pst wr, px.W.cell? ⟨b, off + q * 8 + 6, none⟩ = some (.string x.txt) := fun px => px.cell e6 hbl
      have E7 : ∀ px : Pst wr, px.W.cell? ⟨b, off + q * 8 + 7, none⟩ = some (.slice ma x.slots.length mc) := fun px => px.cell e7 hbl
      obtain ⟨sx, hsx⟩ : ∃ sx, sx = msgOk x K.of_ := ⟨_, rfl⟩
      have HC : Hid (∀ px : Pst wr, Calls Try.prog 20 #[.agg #[.int .i64 x.kind, .int .i64 x.frm, .int .i64 x.to_, .int .i64 x.bal, .int .i64 x.ix, .int .i64 x.known, .string x.txt, .slice ma x.slots.length mc], .int .i64 K.of_] px.W fun e w' => e = .returned (.bool sx) ∧ Below px.W.heap.size px.W w') := fun px => by rw [hsx]; exact recMessageOkS x ma mc K.of_ px.W (hn.later px.ok)
      have hm0 : (0 : Int) ≤ (q : Int) := by omega
      have hm3 : (q : Int) < (K.held.length : Int) := by omega
      have HPQ : Hid (heldAt K q = (sx && decide (x.frm = K.num))) := by show _ = _; rw [heldAt, ← hx, hsx]
      clear e0 e1 e2 e3 e4 e5 e6 e7 hn hx hsx y0 y1 y2 y3 y4 y5 y6 y7 y8 y10 y11 y12 y13 y14 y15 y16 y17
      cases sx
      · have HF : Hid (R = false) := by show R = false; rw [HS.out, allTo_false (k := q) (by rw [HPQ.out]; rfl) _ hlt]; rfl
        go_wp2_with fail
        clear yz y9 hbl
        refine region_class wr (Below.refl _ _) (by kernel_rfl) (by kernel_rfl) ?_
        repeat (first
          | go_big_quiet_skip
          | (go_big_quiet_want; go_big_quiet_op; first | go_big_quiet_on | (apply Exists.intro; refine ⟨fun px => ?_, ?_⟩; (focus ((go_at_call 20; refine (HC.out px).mono ?_; rintro e w' ⟨he, hb⟩; exact ⟨he, ⟨w', blw_trans px.ok hb⟩, rfl⟩))); go_big_quiet_on)))
        refine wpQuiet_nil ?_
        intro _ hw'
        obtain ⟨x6, hw''⟩ := hw'
        subst hw''
        go_wp2
        go_ret
        exact ⟨Pl.ret_bool HF.out.symm, blw_trans HB4.out x6.ok⟩
      by_cases k1 : x.frm = K.num
      · have k1b : (x.frm == K.num) = true := by simpa using k1
        have k1n : (x.frm != K.num) = false := by rw [bne, k1b]; rfl
        have HN : Hid (allTo (heldAt K) (q + 1) = true) := by show (allTo _ q && heldAt K q) = true; rw [HQ.out, HPQ.out, decide_eq_true k1]; rfl
        clear k1
        go_wp2_with fail
        clear yz y9 hbl
        refine region_class wr (Below.refl _ _) (by kernel_rfl) (by kernel_rfl) ?_
        repeat (first
          | go_big_quiet_skip
          | (go_big_quiet_want; go_big_quiet_op; first | go_big_quiet_on | (apply Exists.intro; refine ⟨fun px => ?_, ?_⟩; (focus ((go_at_call 20; refine (HC.out px).mono ?_; rintro e w' ⟨he, hb⟩; exact ⟨he, ⟨w', blw_trans px.ok hb⟩, rfl⟩))); go_big_quiet_on)))
        refine wpQuiet_nil ?_
        intro _ hw'
        obtain ⟨x6, hw''⟩ := hw'
        subst hw''
        go_wp2
        go_roundw
        case rel => exact ⟨q + 1, by omega, by go_num, HN.out, blw_trans HW.out x6.ok⟩
        case measure => simp [intOf]; omega
      · have k1b : (x.frm == K.num) = false := by simpa using k1
        have k1n : (x.frm != K.num) = true := by rw [bne, k1b]; rfl
        have HF : Hid (R = false) := by show R = false; rw [HS.out, allTo_false (k := q) (by rw [HPQ.out, decide_eq_false k1]; rfl) _ hlt]; rfl
        clear k1
        go_wp2_with fail
        clear yz y9 hbl
        refine region_class wr (Below.refl _ _) (by kernel_rfl) (by kernel_rfl) ?_
        repeat (first
          | go_big_quiet_skip
          | (go_big_quiet_want; go_big_quiet_op; first | go_big_quiet_on | (apply Exists.intro; refine ⟨fun px => ?_, ?_⟩; (focus ((go_at_call 20; refine (HC.out px).mono ?_; rintro e w' ⟨he, hb⟩; exact ⟨he, ⟨w', blw_trans px.ok hb⟩, rfl⟩))); go_big_quiet_on)))
        refine wpQuiet_nil ?_
        intro _ hw'
        obtain ⟨x6, hw''⟩ := hw'
        subst hw''
        go_wp2
        go_ret
        exact ⟨Pl.ret_bool HF.out.symm, blw_trans HB4.out x6.ok⟩
    · obtain rfl : q = K.held.length := by omega
      have HR : Hid (R = (numsOk K.yes K.of_ && slotsOk K.best && acksOk K.acks K.of_ && !(K.lead && K.try_) && roleOk K && (K.up || (quietB K && decide ((K.held.length : Int) + K.wish.length + K.heard = 0))))) := by show R = _; rw [HS.out, HQ.out]; simp
      have HR6 : Hid (R = (numsOk K.yes K.of_ && slotsOk K.best && acksOk K.acks K.of_ && !(K.lead && K.try_) && roleOk K && (K.up || (quietB K && decide ((K.held.length : Int) + K.wish.length + K.heard = 0))))) := HR
      clear HS HQ HW HB3 HX3 HV3 HR
      go_wp2
      exact rvSeg3 K a0 a1 a2 a3 a4 a5 a6 c0 c1 c2 c3 c4 c5 c6 w wr R HB4 HX4 HV4 HHD HR6 _ _ _ _ _ _ _ _ _ _ _ _ _ _ _ _ _ _ _ _ _ _ _ _ _ _ _ _ _ _ _ _ _ _ _ _ _ _ _ _ _ _ _ _ _ _ _ _ _ _ _ _ _ _ _ _ _ _ _ _ _ _ _ _ _ _ _ _ _ _ _ _ _ _ _ _ _ _ _ _ _ _ _ _ _ _ _ _ _ _ _ _ _ _ _ _ _ _ _ _ _ _ _ _ _ _ _ _ _ _ _ _ _ _ _ _ _ _ _ _ _ _ _ _ _ _ _ _ _ _ _ _ _ _ _ _ _ _ _ _ _ _ _ _ _ _ _ _ _ _ _ _ _ _ _ _ _ _ _

end Go.Proofs.Ytcefgacmagobnaa
