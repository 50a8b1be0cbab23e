/-
  A world that is ok: by the specification.
-/
import Derived.Test.YtcefgacmagobnaaRvU
import Derived.Test.YtcefgacmagobnaaKXa
import Derived.Test.YtcefgacmagobnaaRcB
namespace Go.Proofs.Ytcefgacmagobnaa
open Go.RowKit Go.Deep

set_option maxRecDepth 8000 in
set_option maxHeartbeats 40000000 in
theorem recValidS (K : Rr) (a0 a1 a2 a3 a4 a5 a6 : Option Addr) (c0 c1 c2 c3 c4 c5 c6 : Nat) (w : World) (h : RrV w a0 a1 a2 a3 a4 a5 a6 K) :
    Calls Try.prog 19 #[.agg #[.int .i64 K.num, .int .i64 K.of_, .bool K.up, .int .i64 K.safe.prom, .int .i64 K.safe.known, .slice a0 K.safe.slots.length c0, .int .i64 K.disk.prom, .int .i64 K.disk.known, .slice a1 K.disk.slots.length c1, .slice a2 K.held.length c2, .slice a3 K.wish.length c3, .bool K.lead, .bool K.try_, .int .i64 K.bal, .slice a4 K.yes.length c4, .slice a5 K.best.length c5, .slice a6 K.acks.length c6, .int .i64 K.heard]] w fun e w' => e = .returned (.bool (recOk K)) ∧ Below w.heap.size w w' := by
  have z2 := h.l2.len
  have z3 := h.l3.len
  have z4 := h.l4.len
  have z5 := h.s5
  have z6 := h.l6.len
  obtain ⟨R, hR⟩ : ∃ R, R = recOk K := ⟨_, rfl⟩
  have HR : Hid (R = (inB K.of_ 1 5 && inB K.num 1 K.of_ && diskOk K.safe && diskOk K.disk && decide (K.held.length ≤ 400) && wishesOk K.wish && inB K.heard 0 1000000 && allTo (heldAt K) K.held.length && numsOk K.yes K.of_ && slotsOk K.best && acksOk K.acks K.of_ && !(K.lead && K.try_) && roleOk K && (K.up || (quietB K && decide ((K.held.length : Int) + K.wish.length + K.heard = 0))))) := hR
  rw [← hR]
  clear hR
  obtain ⟨w0, hw0⟩ : ∃ w0, w0 = w.alloc (.cells #[.int .i64 K.num, .int .i64 K.of_, .bool K.up, .int .i64 K.safe.prom, .int .i64 K.safe.known, .slice a0 K.safe.slots.length c0, .int .i64 K.disk.prom, .int .i64 K.disk.known, .slice a1 K.disk.slots.length c1, .slice a2 K.held.length c2, .slice a3 K.wish.length c3, .bool K.lead, .bool K.try_, .int .i64 K.bal, .slice a4 K.yes.length c4, .slice a5 K.best.length c5, .slice a6 K.acks.length c6, .int .i64 K.heard] 52) := ⟨_, rfl⟩
  have HB0 : Hid (Below w.heap.size w w0) := by show Below _ _ _; rw [hw0]; exact blw_alloc (Below.refl _ _) _
  have HX0 : Hid (LBox w0 w.heap.size [.int .i64 K.num, .int .i64 K.of_, .bool K.up, .int .i64 K.safe.prom, .int .i64 K.safe.known, .slice a0 K.safe.slots.length c0, .int .i64 K.disk.prom, .int .i64 K.disk.known, .slice a1 K.disk.slots.length c1, .slice a2 K.held.length c2, .slice a3 K.wish.length c3, .bool K.lead, .bool K.try_, .int .i64 K.bal, .slice a4 K.yes.length c4, .slice a5 K.best.length c5, .slice a6 K.acks.length c6, .int .i64 K.heard]) := by show LBox _ _ _; rw [hw0]; exact LBox.new w _ _ _ rfl
  have HV0 := hid (h.later HB0.out)
  clear h
  go_enter Try.func19, Try.ntmps19
  show Code.wp Try.prog rv0 _ _ _
  rw [rv0_3]
  simp only [rv2, rv1, rv0, Try.f19, Option.getD_some, sfst_seq, ssnd_seq]
  go_upto_region 1 with fail
  rw [← hw0]
  clear hw0
  have y0 := HX0.out.get 0 (.int .i64 K.num) rfl
  have y1 := HX0.out.get 1 (.int .i64 K.of_) rfl
  have y2 := HX0.out.get 2 (.bool K.up) rfl
  have y3 := HX0.out.get 3 (.int .i64 K.safe.prom) rfl
  have y4 := HX0.out.get 4 (.int .i64 K.safe.known) rfl
  have y5 := HX0.out.get 5 (.slice a0 K.safe.slots.length c0) rfl
  have y6 := HX0.out.get 6 (.int .i64 K.disk.prom) rfl
  have y7 := HX0.out.get 7 (.int .i64 K.disk.known) rfl
  have y8 := HX0.out.get 8 (.slice a1 K.disk.slots.length c1) rfl
  have y9 := HX0.out.get 9 (.slice a2 K.held.length c2) rfl
  have y10 := HX0.out.get 10 (.slice a3 K.wish.length c3) rfl
  have y11 := HX0.out.get 11 (.bool K.lead) rfl
  have y12 := HX0.out.get 12 (.bool K.try_) rfl
  have y13 := HX0.out.get 13 (.int .i64 K.bal) rfl
  have y14 := HX0.out.get 14 (.slice a4 K.yes.length c4) rfl
  have y15 := HX0.out.get 15 (.slice a5 K.best.length c5) rfl
  have y16 := HX0.out.get 16 (.slice a6 K.acks.length c6) rfl
  have y17 := HX0.out.get 17 (.int .i64 K.heard) rfl
  have yz := HX0.out.lt
  cases h1 : inB K.of_ 1 5
  · have HE : Hid (R = false) := by show R = _; rw [HR.out, h1]; simp
    clear HR
    go_wp2_with (go_at_call 18; refine (l21InS _ _ _ _).mono ?_; rintro e w' ⟨rfl, rfl⟩)
    go_ret
    exact ⟨Pl.ret_bool HE.out.symm, HB0.out⟩
  cases h2 : inB K.num 1 K.of_
  · have HE : Hid (R = false) := by show R = _; rw [HR.out, h1, h2]; simp
    clear HR
    go_wp2_with (go_at_call 18; refine (l21InS _ _ _ _).mono ?_; rintro e w' ⟨rfl, rfl⟩)
    go_ret
    exact ⟨Pl.ret_bool HE.out.symm, HB0.out⟩
  go_wp2_with (go_at_call 18; refine (l21InS _ _ _ _).mono ?_; rintro e w' ⟨rfl, rfl⟩)
  refine (recDiskOkS K.safe a0 c0 w0 HV0.out.l0).mono ?_
  rintro e w1 ⟨rfl, hb⟩
  have HB1 := hid (blw_trans HB0.out hb)
  have HX1 := hid (HX0.out.later hb)
  have HV1 := hid (HV0.out.later hb)
  clear hb yz y0 y1 y2 y3 y4 y5 y6 y7 y8 y9 y10 y11 y12 y13 y14 y15 y16 y17 HB0 HX0 HV0
  have y0 := HX1.out.get 0 (.int .i64 K.num) rfl
  have y1 := HX1.out.get 1 (.int .i64 K.of_) rfl
  have y2 := HX1.out.get 2 (.bool K.up) rfl
  have y3 := HX1.out.get 3 (.int .i64 K.safe.prom) rfl
  have y4 := HX1.out.get 4 (.int .i64 K.safe.known) rfl
  have y5 := HX1.out.get 5 (.slice a0 K.safe.slots.length c0) rfl
  have y6 := HX1.out.get 6 (.int .i64 K.disk.prom) rfl
  have y7 := HX1.out.get 7 (.int .i64 K.disk.known) rfl
  have y8 := HX1.out.get 8 (.slice a1 K.disk.slots.length c1) rfl
  have y9 := HX1.out.get 9 (.slice a2 K.held.length c2) rfl
  have y10 := HX1.out.get 10 (.slice a3 K.wish.length c3) rfl
  have y11 := HX1.out.get 11 (.bool K.lead) rfl
  have y12 := HX1.out.get 12 (.bool K.try_) rfl
  have y13 := HX1.out.get 13 (.int .i64 K.bal) rfl
  have y14 := HX1.out.get 14 (.slice a4 K.yes.length c4) rfl
  have y15 := HX1.out.get 15 (.slice a5 K.best.length c5) rfl
  have y16 := HX1.out.get 16 (.slice a6 K.acks.length c6) rfl
  have y17 := HX1.out.get 17 (.int .i64 K.heard) rfl
  have yz := HX1.out.lt
  cases h3 : diskOk K.safe
  · have HE : Hid (R = false) := by show R = _; rw [HR.out, h1, h2, h3]; simp
    clear HR
    go_wp2
    go_ret
    exact ⟨Pl.ret_bool HE.out.symm, HB1.out⟩
  go_wp2_with fail
  refine (recDiskOkS K.disk a1 c1 w1 HV1.out.l1).mono ?_
  rintro e w2 ⟨rfl, hb⟩
  have HB2 := hid (blw_trans HB1.out hb)
  have HX2 := hid (HX1.out.later hb)
  have HV2 := hid (HV1.out.later hb)
  clear hb yz y0 y1 y2 y3 y4 y5 y6 y7 y8 y9 y10 y11 y12 y13 y14 y15 y16 y17 HB1 HX1 HV1
  have y0 := HX2.out.get 0 (.int .i64 K.num) rfl
  have y1 := HX2.out.get 1 (.int .i64 K.of_) rfl
  have y2 := HX2.out.get 2 (.bool K.up) rfl
  have y3 := HX2.out.get 3 (.int .i64 K.safe.prom) rfl
  have y4 := HX2.out.get 4 (.int .i64 K.safe.known) rfl
  have y5 := HX2.out.get 5 (.slice a0 K.safe.slots.length c0) rfl
  have y6 := HX2.out.get 6 (.int .i64 K.disk.prom) rfl
  have y7 := HX2.out.get 7 (.int .i64 K.disk.known) rfl
  have y8 := HX2.out.get 8 (.slice a1 K.disk.slots.length c1) rfl
  have y9 := HX2.out.get 9 (.slice a2 K.held.length c2) rfl
  have y10 := HX2.out.get 10 (.slice a3 K.wish.length c3) rfl
  have y11 := HX2.out.get 11 (.bool K.lead) rfl
  have y12 := HX2.out.get 12 (.bool K.try_) rfl
  have y13 := HX2.out.get 13 (.int .i64 K.bal) rfl
  have y14 := HX2.out.get 14 (.slice a4 K.yes.length c4) rfl
  have y15 := HX2.out.get 15 (.slice a5 K.best.length c5) rfl
  have y16 := HX2.out.get 16 (.slice a6 K.acks.length c6) rfl
  have y17 := HX2.out.get 17 (.int .i64 K.heard) rfl
  have yz := HX2.out.lt
  cases h4 : diskOk K.disk
  · have HE : Hid (R = false) := by show R = _; rw [HR.out, h1, h2, h3, h4]; simp
    clear HR
    go_wp2
    go_ret
    exact ⟨Pl.ret_bool HE.out.symm, HB2.out⟩
  rcases (Decidable.em (K.held.length ≤ 400)).symm with g5 | g5
  · have g5i : (400 : Int) < (K.held.length : Int) := by omega
    have h5 : decide (K.held.length ≤ 400) = false := decide_eq_false g5
    have HE : Hid (R = false) := by show R = _; rw [HR.out, h1, h2, h3, h4, h5]; simp
    clear HR
    go_wp2
    go_ret
    exact ⟨Pl.ret_bool HE.out.symm, HB2.out⟩
  have g5i : ¬ ((400 : Int) < (K.held.length : Int)) := by omega
  have h5 : decide (K.held.length ≤ 400) = true := decide_eq_true g5
  go_wp2_with fail
  refine (l22WishesS K.wish a3 c3 w2 HV2.out.l3).mono ?_
  rintro e w3 ⟨rfl, hb⟩
  have HB3 := hid (blw_trans HB2.out hb)
  have HX3 := hid (HX2.out.later hb)
  have HV3 := hid (HV2.out.later hb)
  clear hb yz y0 y1 y2 y3 y4 y5 y6 y7 y8 y9 y10 y11 y12 y13 y14 y15 y16 y17 HB2 HX2 HV2
  have y0 := HX3.out.get 0 (.int .i64 K.num) rfl
  have y1 := HX3.out.get 1 (.int .i64 K.of_) rfl
  have y2 := HX3.out.get 2 (.bool K.up) rfl
  have y3 := HX3.out.get 3 (.int .i64 K.safe.prom) rfl
  have y4 := HX3.out.get 4 (.int .i64 K.safe.known) rfl
  have y5 := HX3.out.get 5 (.slice a0 K.safe.slots.length c0) rfl
  have y6 := HX3.out.get 6 (.int .i64 K.disk.prom) rfl
  have y7 := HX3.out.get 7 (.int .i64 K.disk.known) rfl
  have y8 := HX3.out.get 8 (.slice a1 K.disk.slots.length c1) rfl
  have y9 := HX3.out.get 9 (.slice a2 K.held.length c2) rfl
  have y10 := HX3.out.get 10 (.slice a3 K.wish.length c3) rfl
  have y11 := HX3.out.get 11 (.bool K.lead) rfl
  have y12 := HX3.out.get 12 (.bool K.try_) rfl
  have y13 := HX3.out.get 13 (.int .i64 K.bal) rfl
  have y14 := HX3.out.get 14 (.slice a4 K.yes.length c4) rfl
  have y15 := HX3.out.get 15 (.slice a5 K.best.length c5) rfl
  have y16 := HX3.out.get 16 (.slice a6 K.acks.length c6) rfl
  have y17 := HX3.out.get 17 (.int .i64 K.heard) rfl
  have yz := HX3.out.lt
  cases h6 : wishesOk K.wish
  · have HE : Hid (R = false) := by show R = _; rw [HR.out, h1, h2, h3, h4, h5, h6]; simp
    clear HR
    go_wp2
    go_ret
    exact ⟨Pl.ret_bool HE.out.symm, HB3.out⟩
  cases h7 : inB K.heard 0 1000000
  · have HE : Hid (R = false) := by show R = _; rw [HR.out, h1, h2, h3, h4, h5, h6, h7]; simp
    clear HR
    go_wp2_with (go_at_call 18; refine (l21InS _ _ _ _).mono ?_; rintro e w' ⟨rfl, rfl⟩)
    go_ret
    exact ⟨Pl.ret_bool HE.out.symm, HB3.out⟩
  have HS : Hid (R = (allTo (heldAt K) K.held.length && numsOk K.yes K.of_ && slotsOk K.best && acksOk K.acks K.of_ && !(K.lead && K.try_) && roleOk K && (K.up || (quietB K && decide ((K.held.length : Int) + K.wish.length + K.heard = 0))))) := by show R = _; rw [HR.out, h1, h2, h3, h4, h5, h6, h7]; simp
  have HHD : Hid (0 ≤ K.heard ∧ K.heard ≤ 1000000) := by
    have q := h7
    unfold inB at q
    simp only [Bool.and_eq_true, decide_eq_true_eq] at q
    exact q
  go_wp2_with (go_at_call 18; refine (l21InS _ _ _ _).mono ?_; rintro e w' ⟨rfl, rfl⟩)
  clear HR h1 h2 h3 h4 h5 h6 h7 yz y0 y1 y2 y3 y4 y5 y6 y7 y8 y9 y10 y11 y12 y13 y14 y15 y16 y17
  go_loopw [3] (fun i wr => ∃ q : Nat, q ≤ K.held.length ∧ i = .int .i64 q ∧ allTo (heldAt K) q = true ∧ Below w3.heap.size w3 wr) (fun i _ => K.held.length - (intOf i).toNat)
  case atStart => exact ⟨0, Nat.zero_le _, rfl, rfl, Below.refl _ _⟩
  case round =>
    obtain ⟨q, hq, rfl, ha, hW⟩ := hrel
    have HQ := hid ha
    have HW := hid hW
    have HB4 := hid (blw_trans HB3.out hW)
    have HX4 := hid (HX3.out.later hW)
    have HV4 := hid (HV3.out.later hW)
    clear ha hW
    have y0 := HX4.out.get 0 (.int .i64 K.num) rfl
    have y1 := HX4.out.get 1 (.int .i64 K.of_) rfl
    have y2 := HX4.out.get 2 (.bool K.up) rfl
    have y3 := HX4.out.get 3 (.int .i64 K.safe.prom) rfl
    have y4 := HX4.out.get 4 (.int .i64 K.safe.known) rfl
    have y5 := HX4.out.get 5 (.slice a0 K.safe.slots.length c0) rfl
    have y6 := HX4.out.get 6 (.int .i64 K.disk.prom) rfl
    have y7 := HX4.out.get 7 (.int .i64 K.disk.known) rfl
    have y8 := HX4.out.get 8 (.slice a1 K.disk.slots.length c1) rfl
    have y9 := HX4.out.get 9 (.slice a2 K.held.length c2) rfl
    have y10 := HX4.out.get 10 (.slice a3 K.wish.length c3) rfl
    have y11 := HX4.out.get 11 (.bool K.lead) rfl
    have y12 := HX4.out.get 12 (.bool K.try_) rfl
    have y13 := HX4.out.get 13 (.int .i64 K.bal) rfl
    have y14 := HX4.out.get 14 (.slice a4 K.yes.length c4) rfl
    have y15 := HX4.out.get 15 (.slice a5 K.best.length c5) rfl
    have y16 := HX4.out.get 16 (.slice a6 K.acks.length c6) rfl
    have y17 := HX4.out.get 17 (.int .i64 K.heard) rfl
    have yz := HX4.out.lt
    by_cases hlt : q < K.held.length
    · obtain ⟨b, off, ma, mc, ha, hbl, ⟨e0, e1, e2, e3, e4, e5, e6, e7⟩, hn⟩ := HV4.out.l2.at_ q hlt
      subst ha
      obtain ⟨x, hx⟩ : ∃ x : Rm, x = K.held.getD q Rm.none := ⟨_, rfl⟩
      rw [← hx] at e0 e1 e2 e3 e4 e5 e6 e7 hn
      have hNE := pst_some wr
      have hbz : ∀ px : Pst wr, b < px.W.heap.size := fun px => px.size hbl
      have hyz : ∀ px : Pst wr, w.heap.size < px.W.heap.size := fun px => px.size yz
      have Y0 : ∀ px : Pst wr, px.W.cell? ⟨w.heap.size, 0, none⟩ = some (.int .i64 K.num) := fun px => px.cell y0 yz
      have Y1 : ∀ px : Pst wr, px.W.cell? ⟨w.heap.size, 1, none⟩ = some (.int .i64 K.of_) := fun px => px.cell y1 yz
      have Y9 : ∀ px : Pst wr, px.W.cell? ⟨w.heap.size, 9, none⟩ = some (.slice (some ⟨b, off, none⟩) K.held.length c2) := fun px => px.cell y9 yz

      have E0 : ∀ px : Pst wr, px.W.cell? ⟨b, off + q * 8, none⟩ = some (.int .i64 x.kind) := fun px => px.cell e0 hbl
      have E1 : ∀ px : Pst wr, px.W.cell? ⟨b, off + q * 8 + 1, none⟩ = some (.int .i64 x.frm) := fun px => px.cell e1 hbl
      have E2 : ∀ px : Pst wr, px.W.cell? ⟨b, off + q * 8 + 2, none⟩ = some (.int .i64 x.to_) := fun px => px.cell e2 hbl
      have E3 : ∀ px : Pst wr, px.W.cell? ⟨b, off + q * 8 + 3, none⟩ = some (.int .i64 x.bal) := fun px => px.cell e3 hbl
      have E4 : ∀ px : Pst wr, px.W.cell? ⟨b, off + q * 8 + 4, none⟩ = some (.int .i64 x.ix) := fun px => px.cell e4 hbl
      have E5 : ∀ px : Pst wr, px.W.cell? ⟨b, off + q * 8 + 5, none⟩ = some (.int .i64 x.known) := fun px => px.cell e5 hbl
      have E6 : ∀ px : Pst wr, px.W.cell? ⟨b, off + q * 8 + 6, none⟩ = some (.string x.txt) := fun px => px.cell e6 hbl
      have E7 : ∀ px : Pst wr, px.W.cell? ⟨b, off + q * 8 + 7, none⟩ = some (.slice ma x.slots.length mc) := fun px => px.cell e7 hbl
      obtain ⟨sx, hsx⟩ : ∃ sx, sx = msgOk x K.of_ := ⟨_, rfl⟩
      have HC : Hid (∀ px : Pst wr, Calls Try.prog 20 #[.agg #[.int .i64 x.kind, .int .i64 x.frm, .int .i64 x.to_, .int .i64 x.bal, .int .i64 x.ix, .int .i64 x.known, .string x.txt, .slice ma x.slots.length mc], .int .i64 K.of_] px.W fun e w' => e = .returned (.bool sx) ∧ Below px.W.heap.size px.W w') := fun px => by rw [hsx]; exact recMessageOkS x ma mc K.of_ px.W (hn.later px.ok)
      have hm0 : (0 : Int) ≤ (q : Int) := by omega
      have hm3 : (q : Int) < (K.held.length : Int) := by omega
      have HPQ : Hid (heldAt K q = (sx && decide (x.frm = K.num))) := by show _ = _; rw [heldAt, ← hx, hsx]
      clear e0 e1 e2 e3 e4 e5 e6 e7 hn hx hsx y0 y1 y2 y3 y4 y5 y6 y7 y8 y10 y11 y12 y13 y14 y15 y16 y17
      cases sx
      · have HF : Hid (R = false) := by show R = false; rw [HS.out, allTo_false (k := q) (by rw [HPQ.out]; rfl) _ hlt]; rfl
        go_wp2_with fail
        clear yz y9 hbl
        refine region_class wr (Below.refl _ _) (by kernel_rfl) (by kernel_rfl) ?_
        repeat (first
          | go_big_quiet_skip
          | (go_big_quiet_want; go_big_quiet_op; first | go_big_quiet_on | (apply Exists.intro; refine ⟨fun px => ?_, ?_⟩; (focus ((go_at_call 20; refine (HC.out px).mono ?_; rintro e w' ⟨he, hb⟩; exact ⟨he, ⟨w', blw_trans px.ok hb⟩, rfl⟩))); go_big_quiet_on)))
        refine wpQuiet_nil ?_
        intro _ hw'
        obtain ⟨x6, hw''⟩ := hw'
        subst hw''
        go_wp2
        go_ret
        exact ⟨Pl.ret_bool HF.out.symm, blw_trans HB4.out x6.ok⟩
      by_cases k1 : x.frm = K.num
      · have k1b : (x.frm == K.num) = true := by simpa using k1
        have k1n : (x.frm != K.num) = false := by rw [bne, k1b]; rfl
        have HN : Hid (allTo (heldAt K) (q + 1) = true) := by show (allTo _ q && heldAt K q) = true; rw [HQ.out, HPQ.out, decide_eq_true k1]; rfl
        clear k1
        go_wp2_with fail
        clear yz y9 hbl
        refine region_class wr (Below.refl _ _) (by kernel_rfl) (by kernel_rfl) ?_
        repeat (first
          | go_big_quiet_skip
          | (go_big_quiet_want; go_big_quiet_op; first | go_big_quiet_on | (apply Exists.intro; refine ⟨fun px => ?_, ?_⟩; (focus ((go_at_call 20; refine (HC.out px).mono ?_; rintro e w' ⟨he, hb⟩; exact ⟨he, ⟨w', blw_trans px.ok hb⟩, rfl⟩))); go_big_quiet_on)))
        refine wpQuiet_nil ?_
        intro _ hw'
        obtain ⟨x6, hw''⟩ := hw'
        subst hw''
        go_wp2
        go_roundw
        case rel => exact ⟨q + 1, by omega, by go_num, HN.out, blw_trans HW.out x6.ok⟩
        case measure => simp [intOf]; omega
      · have k1b : (x.frm == K.num) = false := by simpa using k1
        have k1n : (x.frm != K.num) = true := by rw [bne, k1b]; rfl
        have HF : Hid (R = false) := by show R = false; rw [HS.out, allTo_false (k := q) (by rw [HPQ.out, decide_eq_false k1]; rfl) _ hlt]; rfl
        clear k1
        go_wp2_with fail
        clear yz y9 hbl
        refine region_class wr (Below.refl _ _) (by kernel_rfl) (by kernel_rfl) ?_
        repeat (first
          | go_big_quiet_skip
          | (go_big_quiet_want; go_big_quiet_op; first | go_big_quiet_on | (apply Exists.intro; refine ⟨fun px => ?_, ?_⟩; (focus ((go_at_call 20; refine (HC.out px).mono ?_; rintro e w' ⟨he, hb⟩; exact ⟨he, ⟨w', blw_trans px.ok hb⟩, rfl⟩))); go_big_quiet_on)))
        refine wpQuiet_nil ?_
        intro _ hw'
        obtain ⟨x6, hw''⟩ := hw'
        subst hw''
        go_wp2
        go_ret
        exact ⟨Pl.ret_bool HF.out.symm, blw_trans HB4.out x6.ok⟩
    · obtain rfl : q = K.held.length := by omega
      have HR : Hid (R = (numsOk K.yes K.of_ && slotsOk K.best && acksOk K.acks K.of_ && !(K.lead && K.try_) && roleOk K && (K.up || (quietB K && decide ((K.held.length : Int) + K.wish.length + K.heard = 0))))) := by show R = _; rw [HS.out, HQ.out]; simp
      have HR6 : Hid (R = (numsOk K.yes K.of_ && slotsOk K.best && acksOk K.acks K.of_ && !(K.lead && K.try_) && roleOk K && (K.up || (quietB K && decide ((K.held.length : Int) + K.wish.length + K.heard = 0))))) := HR
      clear HS HQ HW HB3 HX3 HV3 HR
      go_wp2
      exact rvSeg3 K a0 a1 a2 a3 a4 a5 a6 c0 c1 c2 c3 c4 c5 c6 w wr R HB4 HX4 HV4 HHD HR6 _ _ _ _ _ _ _ _ _ _ _ _ _ _ _ _ _ _ _ _ _ _ _ _ _ _ _ _ _ _ _ _ _ _ _ _ _ _ _ _ _ _ _ _ _ _ _ _ _ _ _ _ _ _ _ _ _ _ _ _ _ _ _ _ _ _ _ _ _ _ _ _ _ _ _ _ _ _ _ _ _ _ _ _ _ _ _ _ _ _ _ _ _ _ _ _ _ _ _ _ _ _ _ _ _ _ _ _ _ _ _ _ _ _ _ _ _ _ _ _ _ _ _ _ _ _ _ _ _ _ _ _ _ _ _ _ _ _ _ _ _ _ _ _ _ _ _ _ _ _ _ _ _ _ _ _ _ _ _

end Go.Proofs.Ytcefgacmagobnaa

namespace Go.Proofs.Ytcefgacmagobnaa
open Go.RowKit Go.Deep


theorem allTo_stepS {p : Nat → Bool} {k : Nat} (h : allTo p k = true) (hp : p k = true) : allTo p (k + 1) = true := by rw [allTo, h, hp]; rfl

set_option maxRecDepth 8000 in
set_option maxHeartbeats 16000000 in
theorem recWorldOkS (K : Rw) (a0 a1 a2 : Option Addr) (c0 c1 c2 : Nat) (w : World) (h : RwV w a0 a1 a2 K) :
    Calls Try.prog 7 #[.agg #[.slice a0 K.recs.length c0, .slice a1 K.fl.length c1, .slice a2 K.fx.length c2]] w fun e w' => e = .returned (.bool (worldOk K)) ∧ Below w.heap.size w w' := by
  have HH := hid h
  have hl0 := h.l0.len
  have hl1 := h.l1.len
  have hl2 := h.l2.len
  clear h
  obtain ⟨R, hR⟩ : ∃ R, R = worldOk K := ⟨_, rfl⟩
  have HR : Hid (R = (inB (K.recs.length : Int) 1 5 && decide (K.fl.length ≤ 600) && allTo (recAt K) K.recs.length && flOk K && fixesOk K.fx)) := hR
  rw [← hR]
  clear hR
  obtain ⟨wa, hwa⟩ : ∃ wa, wa = w.alloc (.cells #[.slice a0 K.recs.length c0, .slice a1 K.fl.length c1, .slice a2 K.fx.length c2] 33) := ⟨_, rfl⟩
  have HB : Hid (Below w.heap.size w wa) := by show Below _ _ _; rw [hwa]; exact blw_alloc (Below.refl _ _) _
  have HX : Hid (LBox wa w.heap.size [.slice a0 K.recs.length c0, .slice a1 K.fl.length c1, .slice a2 K.fx.length c2]) := by show LBox _ _ _; rw [hwa]; exact LBox.new w #[.slice a0 K.recs.length c0, .slice a1 K.fl.length c1, .slice a2 K.fx.length c2] _ _ rfl
  go_enter Try.func7, Try.ntmps7
  go_upto_region 1 with fail
  rw [← hwa]
  clear hwa
  have yz := HX.out.lt
  have y0 := HX.out.get 0 _ rfl
  have y1 := HX.out.get 1 _ rfl
  cases h0 : inB (K.recs.length : Int) 1 5
  · have HE : Hid (R = false) := by show R = _; rw [HR.out, h0]; rfl
    clear HR
    go_wp2_with (go_at_call 18; refine (l21InS _ _ _ _).mono ?_; rintro e w' ⟨rfl, rfl⟩)
    go_ret
    exact ⟨Pl.ret_bool HE.out.symm, HB.out⟩
  by_cases h1 : (600 : Int) < (K.fl.length : Int)
  · have HE : Hid (R = false) := by show R = _; rw [HR.out, decide_eq_false (p := K.fl.length ≤ 600) (by omega), Bool.and_false]; rfl
    clear HR
    go_wp2_with (go_at_call 18; refine (l21InS _ _ _ _).mono ?_; rintro e w' ⟨rfl, rfl⟩)
    go_ret
    exact ⟨Pl.ret_bool HE.out.symm, HB.out⟩
  have HR1 : Hid (R = (allTo (recAt K) K.recs.length && flOk K && fixesOk K.fx)) := by show R = _; rw [HR.out, h0, decide_eq_true (p := K.fl.length ≤ 600) (by omega)]; simp
  clear HR
  go_wp2_with (go_at_call 18; refine (l21InS _ _ _ _).mono ?_; rintro e w' ⟨rfl, rfl⟩)
  clear y0 y1 yz h0
  go_loopw [4] (fun i wr => ∃ q : Nat, q ≤ K.recs.length ∧ i = .int .i64 q ∧ allTo (recAt K) q = true ∧ LBox wr w.heap.size [.slice a0 K.recs.length c0, .slice a1 K.fl.length c1, .slice a2 K.fx.length c2] ∧ Below w.heap.size w wr) (fun i _ => K.recs.length - (intOf i).toNat)
  case atStart => exact ⟨0, Nat.zero_le _, rfl, rfl, HX.out, HB.out⟩
  case round =>
    obtain ⟨q, hq, rfl, ha, hX, hW⟩ := hrel
    have HQ := hid ha
    have HB2 := hid hW
    have HX2 := hid hX
    clear ha hW hX HX HB
    have yz := HX2.out.lt
    have y0 := HX2.out.get 0 _ rfl
    by_cases hlt : q < K.recs.length
    · obtain ⟨b, off, ve, hab, hbl, hlen, hrg, hE, hwt⟩ := (HH.out.l0.later HB2.out).spec q hlt
      subst hab
      obtain ⟨x, hx⟩ : ∃ x : Rr, x = K.recs.getD q Rr.nil := ⟨_, rfl⟩
      rw [← hx] at hE hwt
      obtain ⟨b0, b1, b2, b3, b4, b5, b6, d0, d1, d2, d3, d4, d5, d6, hve, hv, z0, z1, z3⟩ := vRr hE hwt
      have HC : Hid (Calls Try.prog 19 #[.agg ve.toArray] wr fun e w' => e = .returned (.bool (recOk x)) ∧ Below wr.heap.size wr w') := by rw [hve]; exact recValidS x b0 b1 b2 b3 b4 b5 b6 d0 d1 d2 d3 d4 d5 d6 wr hv
      have e0 := hrg 0 (.int .i64 x.num) (by rw [hve]; rfl)
      have e1 := hrg 1 (.int .i64 x.of_) (by rw [hve]; rfl)
      have HL := hid hlen
      have HG := hid hrg
      have HP : Hid (recAt K q = (recOk x && (x.num == (q : Int) + 1) && (x.of_ == (K.recs.length : Int)))) := by show _ = _; rw [recAt, ← hx]
      clear hx hE hwt hve hv z0 z1 z3 hlen hrg
      have hm0 : (0 : Int) ≤ (q : Int) := by omega
      have hm3 : (q : Int) < (K.recs.length : Int) := by omega
      have hrg := HG.out
      go_wp2_with (refine wpList_load_mid rfl 52 _ rfl b (off + q * 18) rfl ve _ hrg Try.underlying52 rfl (by rw [HL.out]; kernel_rfl) ?_)
      refine HC.out.mono ?_
      rintro e w1 ⟨rfl, hb⟩
      have HB3 := hid (blw_trans HB2.out hb)
      have HX3 := hid (HX2.out.later hb)
      replace yz := HX3.out.lt
      replace y0 := HX3.out.get 0 _ rfl
      replace e0 := (hb.cell (p := ⟨b, off + q * 18 + 0, none⟩) hbl).trans e0
      replace e1 := (hb.cell (p := ⟨b, off + q * 18 + 1, none⟩) hbl).trans e1
      rw [Nat.add_zero] at e0
      replace hbl := Nat.lt_of_lt_of_le hbl hb.size
      clear hb HC HG hrg HL HX2 HB2
      cases hv : recOk x
      · have HE : Hid (R = false) := by show R = _; rw [HR1.out, allTo_false (k := q) (by rw [HP.out, hv]; rfl) _ hlt]; rfl
        go_wp2
        go_ret
        exact ⟨Pl.ret_bool HE.out.symm, HB3.out⟩
      cases hn : (x.num == (q : Int) + 1)
      · have hn2 : (x.num != (q : Int) + 1) = true := by rw [bne, hn]; rfl
        have HE : Hid (R = false) := by show R = _; rw [HR1.out, allTo_false (k := q) (by rw [HP.out, hn]; simp) _ hlt]; rfl
        go_wp2
        go_ret
        exact ⟨Pl.ret_bool HE.out.symm, HB3.out⟩
      have hn2 : (x.num != (q : Int) + 1) = false := by rw [bne, hn]; rfl
      cases ho : (x.of_ == (K.recs.length : Int))
      · have ho2 : (x.of_ != (K.recs.length : Int)) = true := by rw [bne, ho]; rfl
        have HE : Hid (R = false) := by show R = _; rw [HR1.out, allTo_false (k := q) (by rw [HP.out, ho]; simp) _ hlt]; rfl
        go_wp2
        go_ret
        exact ⟨Pl.ret_bool HE.out.symm, HB3.out⟩
      have ho2 : (x.of_ != (K.recs.length : Int)) = false := by rw [bne, ho]; rfl
      have HN : Hid (allTo (recAt K) (q + 1) = true) := by show (allTo _ q && recAt K q) = true; rw [HQ.out, HP.out, hv, hn, ho]; rfl
      go_wp2
      go_roundw
      case rel => exact ⟨q + 1, by omega, by go_num, HN.out, HX3.out, HB3.out⟩
      case measure => simp [intOf]; omega
    obtain rfl : q = K.recs.length := by omega
    have HR2 : Hid (R = (flOk K && fixesOk K.fx)) := by show R = _; rw [HR1.out, HQ.out]; simp
    clear HR1 HQ hlt hq
    go_wp2
    clear yz y0
    go_loopw [5] (fun i wr => ∃ q : Nat, q ≤ K.fl.length ∧ i = .int .i64 q ∧ allTo (fun i => msgOk (K.fl.getD i Rm.none) (K.recs.length : Int)) q = true ∧ LBox wr w.heap.size [.slice a0 K.recs.length c0, .slice a1 K.fl.length c1, .slice a2 K.fx.length c2] ∧ Below w.heap.size w wr) (fun i _ => K.fl.length - (intOf i).toNat)
    case atStart => exact ⟨0, Nat.zero_le _, rfl, rfl, HX2.out, HB2.out⟩
    case round =>
      obtain ⟨q, hq, rfl, ha, hX, hW⟩ := hrel
      have HQ := hid ha
      have HB3 := hid hW
      have HX3 := hid hX
      clear ha hW hX HX2 HB2
      have yz := HX3.out.lt
      have y1 := HX3.out.get 1 _ rfl
      by_cases hlt : q < K.fl.length
      · obtain ⟨b, off, a3, c3, hab, hbl, ⟨e0, e1, e2, e3, e4, e5, e6, e7⟩, hs⟩ := (HH.out.l1.later HB3.out).at_ q hlt
        subst hab
        obtain ⟨x, hx⟩ : ∃ x : Rm, x = K.fl.getD q Rm.none := ⟨_, rfl⟩
        rw [← hx] at e0 e1 e2 e3 e4 e5 e6 e7 hs
        have HP : Hid ((fun i => msgOk (K.fl.getD i Rm.none) (K.recs.length : Int)) q = msgOk x (K.recs.length : Int)) := by show msgOk _ _ = _; rw [← hx]
        have HC := hid (recMessageOkS x a3 c3 (K.recs.length : Int) _ hs)
        have hm0 : (0 : Int) ≤ (q : Int) := by omega
        have hm3 : (q : Int) < (K.fl.length : Int) := by omega
        clear hx hs
        go_wp2_with fail
        refine HC.out.mono ?_
        rintro e w1 ⟨rfl, hb⟩
        have HB4 := hid (blw_trans HB3.out hb)
        have HX4 := hid (HX3.out.later hb)
        clear hb HC HX3 HB3 e0 e1 e2 e3 e4 e5 e6 e7 hbl yz y1
        cases hv : msgOk x (K.recs.length : Int)
        · have HE : Hid (R = false) := by show R = _; rw [HR2.out, flOk, allTo_false (k := q) (by rw [HP.out, hv]) _ hlt]; rfl
          go_wp2
          go_ret
          exact ⟨Pl.ret_bool HE.out.symm, HB4.out⟩
        have HN : Hid (allTo (fun i => msgOk (K.fl.getD i Rm.none) (K.recs.length : Int)) (q + 1) = true) := allTo_stepS HQ.out (HP.out.trans hv)
        go_wp2
        go_roundw
        case rel => exact ⟨q + 1, by omega, by go_num, HN.out, HX4.out, HB4.out⟩
        case measure => simp [intOf]; omega
      obtain rfl : q = K.fl.length := by omega
      have HR3 : Hid (R = fixesOk K.fx) := by show R = _; rw [HR2.out, flOk, HQ.out]; simp
      clear HR2 HQ hlt hq
      go_wp2
      clear yz y1
      go_loopw [6] (fun i wr => ∃ q : Nat, q ≤ K.fx.length ∧ i = .int .i64 q ∧ allTo (fixAt K.fx) q = true ∧ LBox wr w.heap.size [.slice a0 K.recs.length c0, .slice a1 K.fl.length c1, .slice a2 K.fx.length c2] ∧ Below w.heap.size w wr) (fun i _ => K.fx.length - (intOf i).toNat)
      case atStart => exact ⟨0, Nat.zero_le _, rfl, rfl, HX3.out, HB3.out⟩
      case round =>
        obtain ⟨q, hq, rfl, ha, hX, hW⟩ := hrel
        have HQ := hid ha
        have HB4 := hid hW
        have HX4 := hid hX
        clear ha hW hX HX3 HB3
        have yz := HX4.out.lt
        have y2 := HX4.out.get 2 _ rfl
        by_cases hlt : q < K.fx.length
        · have HL := hid (HH.out.l2.later HB4.out)
          obtain ⟨b, off, hab, hbl, e0, e1, hsz⟩ := HL.out.at_ q hlt
          subst hab
          obtain ⟨x, hx⟩ : ∃ x : Rf, x = K.fx.getD q Rf.none := ⟨_, rfl⟩
          rw [← hx] at e0 e1 hsz
          have HPQ : Hid (fixAt K.fx q = (inB x.ix 1 120 && decide (x.txt.size ≤ 160) && (decide (q = 0) || decide ((K.fx.getD (q - 1) Rf.none).ix < x.ix)))) := by show _ = _; rw [fixAt, ← hx]
          have hNE := pst_some wr
          have hbz : ∀ px : Pst wr, b < px.W.heap.size := fun px => px.size hbl
          have hyz : ∀ px : Pst wr, w.heap.size < px.W.heap.size := fun px => px.size yz
          have Y2 : ∀ px : Pst wr, px.W.cell? ⟨w.heap.size, 2, none⟩ = some (.slice (some ⟨b, off, none⟩) K.fx.length c2) := fun px => px.cell y2 yz
          have E0 : ∀ px : Pst wr, px.W.cell? ⟨b, off + q * 2, none⟩ = some (.int .i64 x.ix) := fun px => px.cell e0 hbl
          have E1 : ∀ px : Pst wr, px.W.cell? ⟨b, off + q * 2 + 1, none⟩ = some (.string x.txt) := fun px => px.cell e1 hbl
          have hm0 : (0 : Int) ≤ (q : Int) := by omega
          have hm3 : (q : Int) < (K.fx.length : Int) := by omega
          clear e0 e1 hx
          cases hin : inB x.ix 1 120
          · have HF : Hid (R = false) := by show R = false; rw [HR3.out]; exact allTo_false (k := q) (by rw [HPQ.out, hin]; rfl) _ hlt
            go_wp2_with fail
            clear hbl yz y2
            refine region_class wr (Below.refl _ _) (by kernel_rfl) (by kernel_rfl) ?_
            repeat (first
              | go_big_quiet_skip
              | (go_big_quiet_want; go_big_quiet_op; first | go_big_quiet_on | (apply Exists.intro; refine ⟨fun px => ?_, ?_⟩; (focus (go_at_call 18; refine (l21InS _ _ _ _).mono ?_; rintro e w' ⟨he, hb⟩; exact ⟨he, px, hb.symm⟩)); go_big_quiet_on)))
            refine wpQuiet_nil ?_
            intro _ hw'
            obtain ⟨x6, hw''⟩ := hw'
            subst hw''
            go_wp2
            go_ret
            exact ⟨Pl.ret_bool HF.out.symm, blw_trans HB4.out x6.ok⟩
          by_cases ht : (160 : Int) < (x.txt.size : Int)
          · have HF : Hid (R = false) := by show R = false; rw [HR3.out]; exact allTo_false (k := q) (by rw [HPQ.out, decide_eq_false (p := x.txt.size ≤ 160) (by omega)]; simp) _ hlt
            have htd : decide ((160 : Int) < (x.txt.size : Int)) = true := decide_eq_true ht
            go_wp2_with fail
            clear hbl yz y2
            refine region_class wr (Below.refl _ _) (by kernel_rfl) (by kernel_rfl) ?_
            repeat (first
              | go_big_quiet_skip
              | (go_big_quiet_want; go_big_quiet_op; first | go_big_quiet_on | (apply Exists.intro; refine ⟨fun px => ?_, ?_⟩; (focus (go_at_call 18; refine (l21InS _ _ _ _).mono ?_; rintro e w' ⟨he, hb⟩; exact ⟨he, px, hb.symm⟩)); go_big_quiet_on)))
            refine wpQuiet_nil ?_
            intro _ hw'
            obtain ⟨x6, hw''⟩ := hw'
            subst hw''
            go_wp2
            go_ret
            exact ⟨Pl.ret_bool HF.out.symm, blw_trans HB4.out x6.ok⟩
          have htd : decide ((160 : Int) < (x.txt.size : Int)) = false := decide_eq_false ht
          have HPT : Hid (decide (x.txt.size ≤ 160) = true) := decide_eq_true (by omega)
          by_cases hz : q = 0
          · subst hz
            simp only [Nat.zero_mul, Nat.add_zero] at E0 E1
            have HN : Hid (allTo (fixAt K.fx) (0 + 1) = true) := by show (allTo _ 0 && fixAt K.fx 0) = true; rw [HPQ.out, hin, HPT.out]; rfl
            have HXl := HX4
            go_wp2_with fail
            clear hbl yz y2
            refine region_class wr (Below.refl _ _) (by kernel_rfl) (by kernel_rfl) ?_
            repeat (first
              | go_big_quiet_skip
              | (go_big_quiet_want; go_big_quiet_op; first | go_big_quiet_on | (apply Exists.intro; refine ⟨fun px => ?_, ?_⟩; (focus (go_at_call 18; refine (l21InS _ _ _ _).mono ?_; rintro e w' ⟨he, hb⟩; exact ⟨he, px, hb.symm⟩)); go_big_quiet_on)))
            refine wpQuiet_nil ?_
            intro _ hw'
            obtain ⟨x6, hw''⟩ := hw'
            subst hw''
            go_wp2
            go_roundw
            case rel => exact ⟨0 + 1, by omega, by go_num, HN.out, HXl.out.later x6.ok, blw_trans HB4.out x6.ok⟩
            case measure => simp [intOf]; omega
          · obtain ⟨m, rfl⟩ : ∃ m, q = m + 1 := ⟨q - 1, by omega⟩
            obtain ⟨b2, off2, ha2, hbl2, d0, _, _⟩ := HL.out.at_ m (by omega)
            injection ha2 with ha2
            injection ha2 with hb2 ho2 _
            subst hb2 ho2
            obtain ⟨x2, hx2⟩ : ∃ x2 : Rf, x2 = K.fx.getD m Rf.none := ⟨_, rfl⟩
            rw [← hx2] at d0
            have D0 : ∀ px : Pst wr, px.W.cell? ⟨b, off + m * 2, none⟩ = some (.int .i64 x2.ix) := fun px => px.cell d0 hbl
            have HPM : Hid (fixAt K.fx (m + 1) = decide (x2.ix < x.ix)) := by show _ = _; rw [HPQ.out, hin, HPT.out, Nat.add_sub_cancel, ← hx2]; simp
            have hm6 : (0 : Int) ≤ (m : Int) := by omega
            have hm7 : (m : Int) < (K.fx.length : Int) := by omega
            have hm8 : ((m : Int) + 1 - 1) = (m : Int) := by omega
            have hm9 : (0 : Int) < (m : Int) + 1 := by omega
            clear d0 hx2 HPQ
            by_cases k2 : x2.ix < x.ix
            · have k2d : decide (x.ix ≤ x2.ix) = false := decide_eq_false (by omega)
              have HN : Hid (allTo (fixAt K.fx) (m + 1 + 1) = true) := by show (allTo _ (m + 1) && fixAt K.fx (m + 1)) = true; rw [HQ.out, HPM.out]; simp [k2]
              go_wp2_with fail
              clear hbl yz y2
              refine region_class wr (Below.refl _ _) (by kernel_rfl) (by kernel_rfl) ?_
              repeat (first
                | go_big_quiet_skip
                | (go_big_quiet_want; go_big_quiet_op; first | go_big_quiet_on | (apply Exists.intro; refine ⟨fun px => ?_, ?_⟩; (focus (go_at_call 18; refine (l21InS _ _ _ _).mono ?_; rintro e w' ⟨he, hb⟩; exact ⟨he, px, hb.symm⟩)); go_big_quiet_on)))
              refine wpQuiet_nil ?_
              intro _ hw'
              obtain ⟨x6, hw''⟩ := hw'
              subst hw''
              go_wp2
              go_roundw
              case rel => exact ⟨m + 1 + 1, by omega, by go_num, HN.out, HX4.out.later x6.ok, blw_trans HB4.out x6.ok⟩
              case measure => simp [intOf]; omega
            · have k2d : decide (x.ix ≤ x2.ix) = true := decide_eq_true (by omega)
              have HF : Hid (R = false) := by show R = false; rw [HR3.out]; exact allTo_false (k := m + 1) (by rw [HPM.out]; simp [k2]) _ hlt
              go_wp2_with fail
              clear hbl yz y2
              refine region_class wr (Below.refl _ _) (by kernel_rfl) (by kernel_rfl) ?_
              repeat (first
                | go_big_quiet_skip
                | (go_big_quiet_want; go_big_quiet_op; first | go_big_quiet_on | (apply Exists.intro; refine ⟨fun px => ?_, ?_⟩; (focus (go_at_call 18; refine (l21InS _ _ _ _).mono ?_; rintro e w' ⟨he, hb⟩; exact ⟨he, px, hb.symm⟩)); go_big_quiet_on)))
              refine wpQuiet_nil ?_
              intro _ hw'
              obtain ⟨x6, hw''⟩ := hw'
              subst hw''
              go_wp2
              go_ret
              exact ⟨Pl.ret_bool HF.out.symm, blw_trans HB4.out x6.ok⟩
        · obtain rfl : q = K.fx.length := by omega
          go_wp2
          go_ret
          exact ⟨Pl.ret_bool (by rw [HR3.out, fixesOk, HQ.out]), HB4.out⟩
end Go.Proofs.Ytcefgacmagobnaa
