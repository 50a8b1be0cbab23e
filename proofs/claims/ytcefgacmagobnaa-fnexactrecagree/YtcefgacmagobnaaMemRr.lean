/-
  A recorder in memory: sizes, copies, equality.
-/
import Derived.Test.YtcefgacmagobnaaMemRms
import Derived.Test.YtcefgacmagobnaaMemRas
import Derived.Test.YtcefgacmagobnaaMemTx
import Derived.Test.YtcefgacmagobnaaLBx
import Derived.Test.YtcefgacmagobnaaLet
namespace Go.Proofs.Ytcefgacmagobnaa
open Go.RowKit Go.Deep

theorem LBox.other {W : World} {p q : Nat} {cs : List Value} (h : LBox W p cs) (hn : p ≠ q) (j : Nat) (x : Value) : LBox (W.setCell ⟨q, j, none⟩ x) p cs :=
  ⟨by rw [sc_size]; exact h.lt, fun i v hv => (sc_ne _ _ _ _ _ _ (Or.inl hn)).trans (h.at_ i v hv)⟩
theorem LBox.set {W : World} {p n : Nat} {t : TypeId} {cs : List Value} (h : LBox W p cs) (hO : OwnBlk W p t n) (j : Nat) (hj : j < n) (x : Value) : LBox (W.setCell ⟨p, j, none⟩ x) p (cs.set j x) := by
  refine ⟨by rw [sc_size]; exact h.lt, fun i v hv => ?_⟩
  rw [Nat.zero_add]
  by_cases e : i = j
  · subst e
    have hl : i < cs.length := by
      have := (List.getElem?_eq_some_iff.1 hv).1
      rwa [List.length_set] at this
    rw [List.getElem?_set_self hl] at hv
    rw [← hv]
    exact sc_eq hO i hj x
  · rw [List.getElem?_set_ne (fun e2 => e e2.symm)] at hv
    have := h.at_ i v hv
    rw [Nat.zero_add] at this
    exact (sc_ne _ _ _ _ _ _ (Or.inr e)).trans this

structure Rr where
  num : Int
  of_ : Int
  up : Bool
  safe : Rd
  disk : Rd
  held : List Rm
  wish : List Tx
  lead : Bool
  try_ : Bool
  bal : Int
  yes : List Nu
  best : List Rs
  acks : List Ra
  heard : Int

structure RrAt (w : World) (v0 v1 v2 v3 v4 v5 v6 : Value) (K : Rr) : Prop where
  l0 : RssAt w v0 K.safe.slots
  l1 : RssAt w v1 K.disk.slots
  l2 : RmsAt w v2 K.held
  l3 : TxsAt w v3 K.wish
  l4 : NusAt w v4 K.yes
  l5 : RssAt w v5 K.best
  l6 : RasAt w v6 K.acks

structure RrIn (w : World) (b0 b1 b2 b3 b4 b5 b6 : Nat) (K : Rr) : Prop where
  l0 : RssIn w b0 K.safe.slots
  l1 : RssIn w b1 K.disk.slots
  l2 : RmsIn w b2 K.held
  l3 : TxsIn w b3 K.wish
  l4 : NusIn w b4 K.yes
  l5 : RssIn w b5 K.best
  l6 : RasIn w b6 K.acks

structure Rr.small (K : Rr) : Prop where
  s0 : K.safe.slots.length ≤ 1048576
  s1 : K.disk.slots.length ≤ 1048576
  s2 : K.held.length ≤ 1048576
  s3 : K.wish.length ≤ 1048576
  s4 : K.yes.length ≤ 1048576
  s5 : K.best.length ≤ 1048576
  s6 : K.acks.length ≤ 1048576
  m2 : ∀ r ∈ K.held, r.small
  m6 : ∀ r ∈ K.acks, r.small
theorem RrAt.later {w w' : World} {v0 v1 v2 v3 v4 v5 v6 : Value} {K : Rr} (h : RrAt w v0 v1 v2 v3 v4 v5 v6 K) (hb : Below w.heap.size w w') : RrAt w' v0 v1 v2 v3 v4 v5 v6 K := ⟨h.l0.later hb, h.l1.later hb, h.l2.later hb, h.l3.later hb, h.l4.later hb, h.l5.later hb, h.l6.later hb⟩
theorem RrIn.later {w w' : World} {b0 b1 b2 b3 b4 b5 b6 : Nat} {K : Rr} (h : RrIn w b0 b1 b2 b3 b4 b5 b6 K) (hb : Below w.heap.size w w') : RrIn w' b0 b1 b2 b3 b4 b5 b6 K := ⟨h.l0.later hb, h.l1.later hb, h.l2.later hb, h.l3.later hb, h.l4.later hb, h.l5.later hb, h.l6.later hb⟩

set_option maxHeartbeats 8000000 in
theorem szRR (K : Rr) (v0 v1 v2 v3 v4 v5 v6 : Value) (left : Int) (w : World) (h0 : 0 ≤ left) (h1 : left ≤ 1048576) (h : RrAt w v0 v1 v2 v3 v4 v5 v6 K) :
    Calls Try.prog 40 #[.agg #[.int .i64 K.num, .int .i64 K.of_, .bool K.up, .int .i64 K.safe.prom, .int .i64 K.safe.known, v0, .int .i64 K.disk.prom, .int .i64 K.disk.known, v1, v2, v3, .bool K.lead, .bool K.try_, .int .i64 K.bal, v4, v5, v6, .int .i64 K.heard], .int .i64 left] w fun e w' => (∃ r : Int, e = .returned (.int .i64 r) ∧ szP K.small left r) ∧ Below w.heap.size w w' := by
  have HH := hidR h
  clear h
  obtain ⟨wa, hwa⟩ : ∃ wa, wa = w.alloc (.cells #[.int .i64 K.num, .int .i64 K.of_, .bool K.up, .int .i64 K.safe.prom, .int .i64 K.safe.known, v0, .int .i64 K.disk.prom, .int .i64 K.disk.known, v1, v2, v3, .bool K.lead, .bool K.try_, .int .i64 K.bal, v4, v5, v6, .int .i64 K.heard] 83) := ⟨_, rfl⟩
  have HBa : Hid (Below w.heap.size w wa) := by show Below _ _ _; rw [hwa]; exact blw_alloc (Below.refl _ _) _
  have HXa : Hid (LBox wa w.heap.size [.int .i64 K.num, .int .i64 K.of_, .bool K.up, .int .i64 K.safe.prom, .int .i64 K.safe.known, v0, .int .i64 K.disk.prom, .int .i64 K.disk.known, v1, v2, v3, .bool K.lead, .bool K.try_, .int .i64 K.bal, v4, v5, v6, .int .i64 K.heard]) := by show LBox _ _ _; rw [hwa]; exact LBox.new w _ _ _ rfl
  go_enter Try.func40, Try.ntmps40
  go_upto_region 1 with fail
  rw [← hwa]
  clear hwa
  have y0 := HXa.out.get 0 (.int .i64 K.num) rfl
  have y1 := HXa.out.get 1 (.int .i64 K.of_) rfl
  have y2 := HXa.out.get 2 (.bool K.up) rfl
  have y3 := HXa.out.get 3 (.int .i64 K.safe.prom) rfl
  have y4 := HXa.out.get 4 (.int .i64 K.safe.known) rfl
  have y5 := HXa.out.get 5 (v0) rfl
  have y6 := HXa.out.get 6 (.int .i64 K.disk.prom) rfl
  have y7 := HXa.out.get 7 (.int .i64 K.disk.known) rfl
  have y8 := HXa.out.get 8 (v1) rfl
  have y9 := HXa.out.get 9 (v2) rfl
  have y10 := HXa.out.get 10 (v3) rfl
  have y11 := HXa.out.get 11 (.bool K.lead) rfl
  have y12 := HXa.out.get 12 (.bool K.try_) rfl
  have y13 := HXa.out.get 13 (.int .i64 K.bal) rfl
  have y14 := HXa.out.get 14 (v4) rfl
  have y15 := HXa.out.get 15 (v5) rfl
  have y16 := HXa.out.get 16 (v6) rfl
  have y17 := HXa.out.get 17 (.int .i64 K.heard) rfl
  have yz := HXa.out.lt
  go_wp2_with fail
  refine (szRD K.safe v0 left wa (by omega) (by omega) ⟨(HH.out.later HBa.out).l0⟩).mono ?_
  rintro e wb ⟨⟨r0, rfl, hr⟩, hb⟩
  have HR0 := hidR hr
  have q0 : -1 ≤ r0 := hr.1
  have q0' : r0 ≤ left := hr.2.1
  have HBb := hidR (blw_trans HBa.out hb)
  have HXb := hidR (HXa.out.later hb)
  clear hr hb yz y0 y1 y2 y3 y4 y5 y6 y7 y8 y9 y10 y11 y12 y13 y14 y15 y16 y17 HXa HBa
  by_cases c0 : r0 < 0
  · go_wp2
    go_ret
    exact ⟨⟨_, rfl, by unfold szP; exact ⟨by omega, by omega, by omega⟩⟩, HBb.out⟩
  have y0 := HXb.out.get 0 (.int .i64 K.num) rfl
  have y1 := HXb.out.get 1 (.int .i64 K.of_) rfl
  have y2 := HXb.out.get 2 (.bool K.up) rfl
  have y3 := HXb.out.get 3 (.int .i64 K.safe.prom) rfl
  have y4 := HXb.out.get 4 (.int .i64 K.safe.known) rfl
  have y5 := HXb.out.get 5 (v0) rfl
  have y6 := HXb.out.get 6 (.int .i64 K.disk.prom) rfl
  have y7 := HXb.out.get 7 (.int .i64 K.disk.known) rfl
  have y8 := HXb.out.get 8 (v1) rfl
  have y9 := HXb.out.get 9 (v2) rfl
  have y10 := HXb.out.get 10 (v3) rfl
  have y11 := HXb.out.get 11 (.bool K.lead) rfl
  have y12 := HXb.out.get 12 (.bool K.try_) rfl
  have y13 := HXb.out.get 13 (.int .i64 K.bal) rfl
  have y14 := HXb.out.get 14 (v4) rfl
  have y15 := HXb.out.get 15 (v5) rfl
  have y16 := HXb.out.get 16 (v6) rfl
  have y17 := HXb.out.get 17 (.int .i64 K.heard) rfl
  have yz := HXb.out.lt
  go_wp2_with fail
  refine (szRD K.disk v1 r0 wb (by omega) (by omega) ⟨(HH.out.later HBb.out).l1⟩).mono ?_
  rintro e wc ⟨⟨r1, rfl, hr⟩, hb⟩
  have HR1 := hidR hr
  have q1 : -1 ≤ r1 := hr.1
  have q1' : r1 ≤ r0 := hr.2.1
  have HBc := hidR (blw_trans HBb.out hb)
  have HXc := hidR (HXb.out.later hb)
  clear hr hb yz y0 y1 y2 y3 y4 y5 y6 y7 y8 y9 y10 y11 y12 y13 y14 y15 y16 y17 HXb HBb
  by_cases c1 : r1 < 0
  · go_wp2
    go_ret
    exact ⟨⟨_, rfl, by unfold szP; exact ⟨by omega, by omega, by omega⟩⟩, HBc.out⟩
  have y0 := HXc.out.get 0 (.int .i64 K.num) rfl
  have y1 := HXc.out.get 1 (.int .i64 K.of_) rfl
  have y2 := HXc.out.get 2 (.bool K.up) rfl
  have y3 := HXc.out.get 3 (.int .i64 K.safe.prom) rfl
  have y4 := HXc.out.get 4 (.int .i64 K.safe.known) rfl
  have y5 := HXc.out.get 5 (v0) rfl
  have y6 := HXc.out.get 6 (.int .i64 K.disk.prom) rfl
  have y7 := HXc.out.get 7 (.int .i64 K.disk.known) rfl
  have y8 := HXc.out.get 8 (v1) rfl
  have y9 := HXc.out.get 9 (v2) rfl
  have y10 := HXc.out.get 10 (v3) rfl
  have y11 := HXc.out.get 11 (.bool K.lead) rfl
  have y12 := HXc.out.get 12 (.bool K.try_) rfl
  have y13 := HXc.out.get 13 (.int .i64 K.bal) rfl
  have y14 := HXc.out.get 14 (v4) rfl
  have y15 := HXc.out.get 15 (v5) rfl
  have y16 := HXc.out.get 16 (v6) rfl
  have y17 := HXc.out.get 17 (.int .i64 K.heard) rfl
  have yz := HXc.out.lt
  go_wp2_with fail
  refine (szRms v2 K.held r1 wc (by omega) (by omega) (HH.out.later HBc.out).l2).mono ?_
  rintro e wd ⟨⟨r2, rfl, hr⟩, hb⟩
  have HR2 := hidR hr
  have q2 : -1 ≤ r2 := hr.1
  have q2' : r2 ≤ r1 := hr.2.1
  have HBd := hidR (blw_trans HBc.out hb)
  have HXd := hidR (HXc.out.later hb)
  clear hr hb yz y0 y1 y2 y3 y4 y5 y6 y7 y8 y9 y10 y11 y12 y13 y14 y15 y16 y17 HXc HBc
  by_cases c2 : r2 < 0
  · go_wp2
    go_ret
    exact ⟨⟨_, rfl, by unfold szP; exact ⟨by omega, by omega, by omega⟩⟩, HBd.out⟩
  have y0 := HXd.out.get 0 (.int .i64 K.num) rfl
  have y1 := HXd.out.get 1 (.int .i64 K.of_) rfl
  have y2 := HXd.out.get 2 (.bool K.up) rfl
  have y3 := HXd.out.get 3 (.int .i64 K.safe.prom) rfl
  have y4 := HXd.out.get 4 (.int .i64 K.safe.known) rfl
  have y5 := HXd.out.get 5 (v0) rfl
  have y6 := HXd.out.get 6 (.int .i64 K.disk.prom) rfl
  have y7 := HXd.out.get 7 (.int .i64 K.disk.known) rfl
  have y8 := HXd.out.get 8 (v1) rfl
  have y9 := HXd.out.get 9 (v2) rfl
  have y10 := HXd.out.get 10 (v3) rfl
  have y11 := HXd.out.get 11 (.bool K.lead) rfl
  have y12 := HXd.out.get 12 (.bool K.try_) rfl
  have y13 := HXd.out.get 13 (.int .i64 K.bal) rfl
  have y14 := HXd.out.get 14 (v4) rfl
  have y15 := HXd.out.get 15 (v5) rfl
  have y16 := HXd.out.get 16 (v6) rfl
  have y17 := HXd.out.get 17 (.int .i64 K.heard) rfl
  have yz := HXd.out.lt
  go_wp2_with fail
  refine (szTxs v3 K.wish r2 wd (by omega) (by omega) (HH.out.later HBd.out).l3).mono ?_
  rintro e we ⟨⟨r3, rfl, hr⟩, hb⟩
  have HR3 := hidR hr
  have q3 : -1 ≤ r3 := hr.1
  have q3' : r3 ≤ r2 := hr.2.1
  have HBe := hidR (blw_trans HBd.out hb)
  have HXe := hidR (HXd.out.later hb)
  clear hr hb yz y0 y1 y2 y3 y4 y5 y6 y7 y8 y9 y10 y11 y12 y13 y14 y15 y16 y17 HXd HBd
  by_cases c3 : r3 < 0
  · go_wp2
    go_ret
    exact ⟨⟨_, rfl, by unfold szP; exact ⟨by omega, by omega, by omega⟩⟩, HBe.out⟩
  have y0 := HXe.out.get 0 (.int .i64 K.num) rfl
  have y1 := HXe.out.get 1 (.int .i64 K.of_) rfl
  have y2 := HXe.out.get 2 (.bool K.up) rfl
  have y3 := HXe.out.get 3 (.int .i64 K.safe.prom) rfl
  have y4 := HXe.out.get 4 (.int .i64 K.safe.known) rfl
  have y5 := HXe.out.get 5 (v0) rfl
  have y6 := HXe.out.get 6 (.int .i64 K.disk.prom) rfl
  have y7 := HXe.out.get 7 (.int .i64 K.disk.known) rfl
  have y8 := HXe.out.get 8 (v1) rfl
  have y9 := HXe.out.get 9 (v2) rfl
  have y10 := HXe.out.get 10 (v3) rfl
  have y11 := HXe.out.get 11 (.bool K.lead) rfl
  have y12 := HXe.out.get 12 (.bool K.try_) rfl
  have y13 := HXe.out.get 13 (.int .i64 K.bal) rfl
  have y14 := HXe.out.get 14 (v4) rfl
  have y15 := HXe.out.get 15 (v5) rfl
  have y16 := HXe.out.get 16 (v6) rfl
  have y17 := HXe.out.get 17 (.int .i64 K.heard) rfl
  have yz := HXe.out.lt
  go_wp2_with fail
  refine (szNus v4 K.yes r3 we (by omega) (by omega) (HH.out.later HBe.out).l4).mono ?_
  rintro e wf ⟨⟨r4, rfl, hr⟩, hb⟩
  have HR4 := hidR hr
  have q4 : -1 ≤ r4 := hr.1
  have q4' : r4 ≤ r3 := hr.2.1
  have HBf := hidR (blw_trans HBe.out hb)
  have HXf := hidR (HXe.out.later hb)
  clear hr hb yz y0 y1 y2 y3 y4 y5 y6 y7 y8 y9 y10 y11 y12 y13 y14 y15 y16 y17 HXe HBe
  by_cases c4 : r4 < 0
  · go_wp2
    go_ret
    exact ⟨⟨_, rfl, by unfold szP; exact ⟨by omega, by omega, by omega⟩⟩, HBf.out⟩
  have y0 := HXf.out.get 0 (.int .i64 K.num) rfl
  have y1 := HXf.out.get 1 (.int .i64 K.of_) rfl
  have y2 := HXf.out.get 2 (.bool K.up) rfl
  have y3 := HXf.out.get 3 (.int .i64 K.safe.prom) rfl
  have y4 := HXf.out.get 4 (.int .i64 K.safe.known) rfl
  have y5 := HXf.out.get 5 (v0) rfl
  have y6 := HXf.out.get 6 (.int .i64 K.disk.prom) rfl
  have y7 := HXf.out.get 7 (.int .i64 K.disk.known) rfl
  have y8 := HXf.out.get 8 (v1) rfl
  have y9 := HXf.out.get 9 (v2) rfl
  have y10 := HXf.out.get 10 (v3) rfl
  have y11 := HXf.out.get 11 (.bool K.lead) rfl
  have y12 := HXf.out.get 12 (.bool K.try_) rfl
  have y13 := HXf.out.get 13 (.int .i64 K.bal) rfl
  have y14 := HXf.out.get 14 (v4) rfl
  have y15 := HXf.out.get 15 (v5) rfl
  have y16 := HXf.out.get 16 (v6) rfl
  have y17 := HXf.out.get 17 (.int .i64 K.heard) rfl
  have yz := HXf.out.lt
  go_wp2_with fail
  refine (szRss v5 K.best r4 wf (by omega) (by omega) (HH.out.later HBf.out).l5).mono ?_
  rintro e wg ⟨⟨r5, rfl, hr⟩, hb⟩
  have HR5 := hidR hr
  have q5 : -1 ≤ r5 := hr.1
  have q5' : r5 ≤ r4 := hr.2.1
  have HBg := hidR (blw_trans HBf.out hb)
  have HXg := hidR (HXf.out.later hb)
  clear hr hb yz y0 y1 y2 y3 y4 y5 y6 y7 y8 y9 y10 y11 y12 y13 y14 y15 y16 y17 HXf HBf
  by_cases c5 : r5 < 0
  · go_wp2
    go_ret
    exact ⟨⟨_, rfl, by unfold szP; exact ⟨by omega, by omega, by omega⟩⟩, HBg.out⟩
  have y0 := HXg.out.get 0 (.int .i64 K.num) rfl
  have y1 := HXg.out.get 1 (.int .i64 K.of_) rfl
  have y2 := HXg.out.get 2 (.bool K.up) rfl
  have y3 := HXg.out.get 3 (.int .i64 K.safe.prom) rfl
  have y4 := HXg.out.get 4 (.int .i64 K.safe.known) rfl
  have y5 := HXg.out.get 5 (v0) rfl
  have y6 := HXg.out.get 6 (.int .i64 K.disk.prom) rfl
  have y7 := HXg.out.get 7 (.int .i64 K.disk.known) rfl
  have y8 := HXg.out.get 8 (v1) rfl
  have y9 := HXg.out.get 9 (v2) rfl
  have y10 := HXg.out.get 10 (v3) rfl
  have y11 := HXg.out.get 11 (.bool K.lead) rfl
  have y12 := HXg.out.get 12 (.bool K.try_) rfl
  have y13 := HXg.out.get 13 (.int .i64 K.bal) rfl
  have y14 := HXg.out.get 14 (v4) rfl
  have y15 := HXg.out.get 15 (v5) rfl
  have y16 := HXg.out.get 16 (v6) rfl
  have y17 := HXg.out.get 17 (.int .i64 K.heard) rfl
  have yz := HXg.out.lt
  go_wp2_with fail
  refine (szRas v6 K.acks r5 wg (by omega) (by omega) (HH.out.later HBg.out).l6).mono ?_
  rintro e wh ⟨⟨r6, rfl, hr⟩, hb⟩
  have HR6 := hidR hr
  have q6 : -1 ≤ r6 := hr.1
  have q6' : r6 ≤ r5 := hr.2.1
  have HBh := hidR (blw_trans HBg.out hb)
  have HXh := hidR (HXg.out.later hb)
  clear hr hb yz y0 y1 y2 y3 y4 y5 y6 y7 y8 y9 y10 y11 y12 y13 y14 y15 y16 y17 HXg HBg
  by_cases c6 : r6 < 0
  · go_wp2
    go_ret
    exact ⟨⟨_, rfl, by unfold szP; exact ⟨by omega, by omega, by omega⟩⟩, HBh.out⟩
  go_wp2
  go_ret
  refine ⟨⟨_, rfl, ?_⟩, HBh.out⟩
  have k0 := HR0.out.2.2 (by omega)
  have k1 := HR1.out.2.2 (by omega)
  have k2 := HR2.out.2.2 (by omega)
  have k3 := HR3.out.2.2 (by omega)
  have k4 := HR4.out.2.2 (by omega)
  have k5 := HR5.out.2.2 (by omega)
  have k6 := HR6.out.2.2 (by omega)
  have k0' : K.safe.slots.length ≤ 1048576 := k0
  have k1' : K.disk.slots.length ≤ 1048576 := k1
  unfold szP
  exact ⟨by omega, by omega, fun _ => ⟨k0', k1', by have := k2.1; omega, by omega, by omega, by omega, by have := k6.1; omega, k2.2, k6.2⟩⟩

set_option maxHeartbeats 8000000 in
theorem eqRR (K : Rr) (b0 b1 b2 b3 b4 b5 b6 q0 q1 q2 q3 q4 q5 q6 : Nat) (w : World) (h : RrIn w b0 b1 b2 b3 b4 b5 b6 K) (h' : RrIn w q0 q1 q2 q3 q4 q5 q6 K) :
    Calls Try.prog 64 #[.agg #[.int .i64 K.num, .int .i64 K.of_, .bool K.up, .int .i64 K.safe.prom, .int .i64 K.safe.known, .slice (some ⟨b0, 0, none⟩) K.safe.slots.length K.safe.slots.length, .int .i64 K.disk.prom, .int .i64 K.disk.known, .slice (some ⟨b1, 0, none⟩) K.disk.slots.length K.disk.slots.length, .slice (some ⟨b2, 0, none⟩) K.held.length K.held.length, .slice (some ⟨b3, 0, none⟩) K.wish.length K.wish.length, .bool K.lead, .bool K.try_, .int .i64 K.bal, .slice (some ⟨b4, 0, none⟩) K.yes.length K.yes.length, .slice (some ⟨b5, 0, none⟩) K.best.length K.best.length, .slice (some ⟨b6, 0, none⟩) K.acks.length K.acks.length, .int .i64 K.heard], .agg #[.int .i64 K.num, .int .i64 K.of_, .bool K.up, .int .i64 K.safe.prom, .int .i64 K.safe.known, .slice (some ⟨q0, 0, none⟩) K.safe.slots.length K.safe.slots.length, .int .i64 K.disk.prom, .int .i64 K.disk.known, .slice (some ⟨q1, 0, none⟩) K.disk.slots.length K.disk.slots.length, .slice (some ⟨q2, 0, none⟩) K.held.length K.held.length, .slice (some ⟨q3, 0, none⟩) K.wish.length K.wish.length, .bool K.lead, .bool K.try_, .int .i64 K.bal, .slice (some ⟨q4, 0, none⟩) K.yes.length K.yes.length, .slice (some ⟨q5, 0, none⟩) K.best.length K.best.length, .slice (some ⟨q6, 0, none⟩) K.acks.length K.acks.length, .int .i64 K.heard]] w fun e w' => e = .returned (.bool true) ∧ Below w.heap.size w w' := by
  have HH := hidR (And.intro h h')
  clear h h'
  obtain ⟨wx, hwx⟩ : ∃ wx, wx = w.alloc (.cells #[.int .i64 K.num, .int .i64 K.of_, .bool K.up, .int .i64 K.safe.prom, .int .i64 K.safe.known, .slice (some ⟨b0, 0, none⟩) K.safe.slots.length K.safe.slots.length, .int .i64 K.disk.prom, .int .i64 K.disk.known, .slice (some ⟨b1, 0, none⟩) K.disk.slots.length K.disk.slots.length, .slice (some ⟨b2, 0, none⟩) K.held.length K.held.length, .slice (some ⟨b3, 0, none⟩) K.wish.length K.wish.length, .bool K.lead, .bool K.try_, .int .i64 K.bal, .slice (some ⟨b4, 0, none⟩) K.yes.length K.yes.length, .slice (some ⟨b5, 0, none⟩) K.best.length K.best.length, .slice (some ⟨b6, 0, none⟩) K.acks.length K.acks.length, .int .i64 K.heard] 52) := ⟨_, rfl⟩
  obtain ⟨wa, hwa⟩ : ∃ wa, wa = wx.alloc (.cells #[.int .i64 K.num, .int .i64 K.of_, .bool K.up, .int .i64 K.safe.prom, .int .i64 K.safe.known, .slice (some ⟨q0, 0, none⟩) K.safe.slots.length K.safe.slots.length, .int .i64 K.disk.prom, .int .i64 K.disk.known, .slice (some ⟨q1, 0, none⟩) K.disk.slots.length K.disk.slots.length, .slice (some ⟨q2, 0, none⟩) K.held.length K.held.length, .slice (some ⟨q3, 0, none⟩) K.wish.length K.wish.length, .bool K.lead, .bool K.try_, .int .i64 K.bal, .slice (some ⟨q4, 0, none⟩) K.yes.length K.yes.length, .slice (some ⟨q5, 0, none⟩) K.best.length K.best.length, .slice (some ⟨q6, 0, none⟩) K.acks.length K.acks.length, .int .i64 K.heard] 52) := ⟨_, rfl⟩
  have hzx : wx.heap.size = w.heap.size + 1 := by rw [hwx]; exact Array.size_push _
  have HXa : Hid (LBox wa w.heap.size [.int .i64 K.num, .int .i64 K.of_, .bool K.up, .int .i64 K.safe.prom, .int .i64 K.safe.known, .slice (some ⟨b0, 0, none⟩) K.safe.slots.length K.safe.slots.length, .int .i64 K.disk.prom, .int .i64 K.disk.known, .slice (some ⟨b1, 0, none⟩) K.disk.slots.length K.disk.slots.length, .slice (some ⟨b2, 0, none⟩) K.held.length K.held.length, .slice (some ⟨b3, 0, none⟩) K.wish.length K.wish.length, .bool K.lead, .bool K.try_, .int .i64 K.bal, .slice (some ⟨b4, 0, none⟩) K.yes.length K.yes.length, .slice (some ⟨b5, 0, none⟩) K.best.length K.best.length, .slice (some ⟨b6, 0, none⟩) K.acks.length K.acks.length, .int .i64 K.heard]) := by
    show LBox _ _ _
    rw [hwa, hwx]; exact (LBox.new w _ _ _ rfl).past _
  have HYa : Hid (LBox wa (w.heap.size + 1) [.int .i64 K.num, .int .i64 K.of_, .bool K.up, .int .i64 K.safe.prom, .int .i64 K.safe.known, .slice (some ⟨q0, 0, none⟩) K.safe.slots.length K.safe.slots.length, .int .i64 K.disk.prom, .int .i64 K.disk.known, .slice (some ⟨q1, 0, none⟩) K.disk.slots.length K.disk.slots.length, .slice (some ⟨q2, 0, none⟩) K.held.length K.held.length, .slice (some ⟨q3, 0, none⟩) K.wish.length K.wish.length, .bool K.lead, .bool K.try_, .int .i64 K.bal, .slice (some ⟨q4, 0, none⟩) K.yes.length K.yes.length, .slice (some ⟨q5, 0, none⟩) K.best.length K.best.length, .slice (some ⟨q6, 0, none⟩) K.acks.length K.acks.length, .int .i64 K.heard]) := by
    show LBox _ _ _
    rw [hwa]; exact LBox.new wx _ _ _ hzx.symm
  have HBa : Hid (Below w.heap.size w wa) := by show Below _ _ _; rw [hwa, hwx]; exact blw_alloc (blw_alloc (Below.refl _ _) _) _
  have hub : (K.up != K.up) = false := by cases K.up <;> rfl
  have hlb : (K.lead != K.lead) = false := by cases K.lead <;> rfl
  have htb : (K.try_ != K.try_) = false := by cases K.try_ <;> rfl
  go_enter Try.func64, Try.ntmps64
  go_upto_region 1 with fail
  rw [← hwx, ← hwa]
  clear hwa hwx hzx
  have y0 := HXa.out.get 0 (.int .i64 K.num) rfl
  have y1 := HXa.out.get 1 (.int .i64 K.of_) rfl
  have y2 := HXa.out.get 2 (.bool K.up) rfl
  have y3 := HXa.out.get 3 (.int .i64 K.safe.prom) rfl
  have y4 := HXa.out.get 4 (.int .i64 K.safe.known) rfl
  have y5 := HXa.out.get 5 (.slice (some ⟨b0, 0, none⟩) K.safe.slots.length K.safe.slots.length) rfl
  have y6 := HXa.out.get 6 (.int .i64 K.disk.prom) rfl
  have y7 := HXa.out.get 7 (.int .i64 K.disk.known) rfl
  have y8 := HXa.out.get 8 (.slice (some ⟨b1, 0, none⟩) K.disk.slots.length K.disk.slots.length) rfl
  have y9 := HXa.out.get 9 (.slice (some ⟨b2, 0, none⟩) K.held.length K.held.length) rfl
  have y10 := HXa.out.get 10 (.slice (some ⟨b3, 0, none⟩) K.wish.length K.wish.length) rfl
  have y11 := HXa.out.get 11 (.bool K.lead) rfl
  have y12 := HXa.out.get 12 (.bool K.try_) rfl
  have y13 := HXa.out.get 13 (.int .i64 K.bal) rfl
  have y14 := HXa.out.get 14 (.slice (some ⟨b4, 0, none⟩) K.yes.length K.yes.length) rfl
  have y15 := HXa.out.get 15 (.slice (some ⟨b5, 0, none⟩) K.best.length K.best.length) rfl
  have y16 := HXa.out.get 16 (.slice (some ⟨b6, 0, none⟩) K.acks.length K.acks.length) rfl
  have y17 := HXa.out.get 17 (.int .i64 K.heard) rfl
  have x0 := HYa.out.get 0 (.int .i64 K.num) rfl
  have x1 := HYa.out.get 1 (.int .i64 K.of_) rfl
  have x2 := HYa.out.get 2 (.bool K.up) rfl
  have x3 := HYa.out.get 3 (.int .i64 K.safe.prom) rfl
  have x4 := HYa.out.get 4 (.int .i64 K.safe.known) rfl
  have x5 := HYa.out.get 5 (.slice (some ⟨q0, 0, none⟩) K.safe.slots.length K.safe.slots.length) rfl
  have x6 := HYa.out.get 6 (.int .i64 K.disk.prom) rfl
  have x7 := HYa.out.get 7 (.int .i64 K.disk.known) rfl
  have x8 := HYa.out.get 8 (.slice (some ⟨q1, 0, none⟩) K.disk.slots.length K.disk.slots.length) rfl
  have x9 := HYa.out.get 9 (.slice (some ⟨q2, 0, none⟩) K.held.length K.held.length) rfl
  have x10 := HYa.out.get 10 (.slice (some ⟨q3, 0, none⟩) K.wish.length K.wish.length) rfl
  have x11 := HYa.out.get 11 (.bool K.lead) rfl
  have x12 := HYa.out.get 12 (.bool K.try_) rfl
  have x13 := HYa.out.get 13 (.int .i64 K.bal) rfl
  have x14 := HYa.out.get 14 (.slice (some ⟨q4, 0, none⟩) K.yes.length K.yes.length) rfl
  have x15 := HYa.out.get 15 (.slice (some ⟨q5, 0, none⟩) K.best.length K.best.length) rfl
  have x16 := HYa.out.get 16 (.slice (some ⟨q6, 0, none⟩) K.acks.length K.acks.length) rfl
  have x17 := HYa.out.get 17 (.int .i64 K.heard) rfl
  have yz := HXa.out.lt
  have xz := HYa.out.lt
  go_wp2_with fail
  refine (eqRD K.safe b0 q0 wa ⟨(HH.out.1.later HBa.out).l0⟩ ⟨(HH.out.2.later HBa.out).l0⟩).mono ?_
  rintro e wb ⟨rfl, hb⟩
  have HXb := hidR (HXa.out.later hb)
  have HYb := hidR (HYa.out.later hb)
  have HBb := hidR (blw_trans HBa.out hb)
  clear hb yz xz y0 y1 y2 y3 y4 y5 y6 y7 y8 y9 y10 y11 y12 y13 y14 y15 y16 y17 x0 x1 x2 x3 x4 x5 x6 x7 x8 x9 x10 x11 x12 x13 x14 x15 x16 x17 HXa HYa HBa
  have y0 := HXb.out.get 0 (.int .i64 K.num) rfl
  have y1 := HXb.out.get 1 (.int .i64 K.of_) rfl
  have y2 := HXb.out.get 2 (.bool K.up) rfl
  have y3 := HXb.out.get 3 (.int .i64 K.safe.prom) rfl
  have y4 := HXb.out.get 4 (.int .i64 K.safe.known) rfl
  have y5 := HXb.out.get 5 (.slice (some ⟨b0, 0, none⟩) K.safe.slots.length K.safe.slots.length) rfl
  have y6 := HXb.out.get 6 (.int .i64 K.disk.prom) rfl
  have y7 := HXb.out.get 7 (.int .i64 K.disk.known) rfl
  have y8 := HXb.out.get 8 (.slice (some ⟨b1, 0, none⟩) K.disk.slots.length K.disk.slots.length) rfl
  have y9 := HXb.out.get 9 (.slice (some ⟨b2, 0, none⟩) K.held.length K.held.length) rfl
  have y10 := HXb.out.get 10 (.slice (some ⟨b3, 0, none⟩) K.wish.length K.wish.length) rfl
  have y11 := HXb.out.get 11 (.bool K.lead) rfl
  have y12 := HXb.out.get 12 (.bool K.try_) rfl
  have y13 := HXb.out.get 13 (.int .i64 K.bal) rfl
  have y14 := HXb.out.get 14 (.slice (some ⟨b4, 0, none⟩) K.yes.length K.yes.length) rfl
  have y15 := HXb.out.get 15 (.slice (some ⟨b5, 0, none⟩) K.best.length K.best.length) rfl
  have y16 := HXb.out.get 16 (.slice (some ⟨b6, 0, none⟩) K.acks.length K.acks.length) rfl
  have y17 := HXb.out.get 17 (.int .i64 K.heard) rfl
  have x0 := HYb.out.get 0 (.int .i64 K.num) rfl
  have x1 := HYb.out.get 1 (.int .i64 K.of_) rfl
  have x2 := HYb.out.get 2 (.bool K.up) rfl
  have x3 := HYb.out.get 3 (.int .i64 K.safe.prom) rfl
  have x4 := HYb.out.get 4 (.int .i64 K.safe.known) rfl
  have x5 := HYb.out.get 5 (.slice (some ⟨q0, 0, none⟩) K.safe.slots.length K.safe.slots.length) rfl
  have x6 := HYb.out.get 6 (.int .i64 K.disk.prom) rfl
  have x7 := HYb.out.get 7 (.int .i64 K.disk.known) rfl
  have x8 := HYb.out.get 8 (.slice (some ⟨q1, 0, none⟩) K.disk.slots.length K.disk.slots.length) rfl
  have x9 := HYb.out.get 9 (.slice (some ⟨q2, 0, none⟩) K.held.length K.held.length) rfl
  have x10 := HYb.out.get 10 (.slice (some ⟨q3, 0, none⟩) K.wish.length K.wish.length) rfl
  have x11 := HYb.out.get 11 (.bool K.lead) rfl
  have x12 := HYb.out.get 12 (.bool K.try_) rfl
  have x13 := HYb.out.get 13 (.int .i64 K.bal) rfl
  have x14 := HYb.out.get 14 (.slice (some ⟨q4, 0, none⟩) K.yes.length K.yes.length) rfl
  have x15 := HYb.out.get 15 (.slice (some ⟨q5, 0, none⟩) K.best.length K.best.length) rfl
  have x16 := HYb.out.get 16 (.slice (some ⟨q6, 0, none⟩) K.acks.length K.acks.length) rfl
  have x17 := HYb.out.get 17 (.int .i64 K.heard) rfl
  have yz := HXb.out.lt
  have xz := HYb.out.lt
  go_wp2_with fail
  refine (eqRD K.disk b1 q1 wb ⟨(HH.out.1.later HBb.out).l1⟩ ⟨(HH.out.2.later HBb.out).l1⟩).mono ?_
  rintro e wc ⟨rfl, hb⟩
  have HXc := hidR (HXb.out.later hb)
  have HYc := hidR (HYb.out.later hb)
  have HBc := hidR (blw_trans HBb.out hb)
  clear hb yz xz y0 y1 y2 y3 y4 y5 y6 y7 y8 y9 y10 y11 y12 y13 y14 y15 y16 y17 x0 x1 x2 x3 x4 x5 x6 x7 x8 x9 x10 x11 x12 x13 x14 x15 x16 x17 HXb HYb HBb
  have y0 := HXc.out.get 0 (.int .i64 K.num) rfl
  have y1 := HXc.out.get 1 (.int .i64 K.of_) rfl
  have y2 := HXc.out.get 2 (.bool K.up) rfl
  have y3 := HXc.out.get 3 (.int .i64 K.safe.prom) rfl
  have y4 := HXc.out.get 4 (.int .i64 K.safe.known) rfl
  have y5 := HXc.out.get 5 (.slice (some ⟨b0, 0, none⟩) K.safe.slots.length K.safe.slots.length) rfl
  have y6 := HXc.out.get 6 (.int .i64 K.disk.prom) rfl
  have y7 := HXc.out.get 7 (.int .i64 K.disk.known) rfl
  have y8 := HXc.out.get 8 (.slice (some ⟨b1, 0, none⟩) K.disk.slots.length K.disk.slots.length) rfl
  have y9 := HXc.out.get 9 (.slice (some ⟨b2, 0, none⟩) K.held.length K.held.length) rfl
  have y10 := HXc.out.get 10 (.slice (some ⟨b3, 0, none⟩) K.wish.length K.wish.length) rfl
  have y11 := HXc.out.get 11 (.bool K.lead) rfl
  have y12 := HXc.out.get 12 (.bool K.try_) rfl
  have y13 := HXc.out.get 13 (.int .i64 K.bal) rfl
  have y14 := HXc.out.get 14 (.slice (some ⟨b4, 0, none⟩) K.yes.length K.yes.length) rfl
  have y15 := HXc.out.get 15 (.slice (some ⟨b5, 0, none⟩) K.best.length K.best.length) rfl
  have y16 := HXc.out.get 16 (.slice (some ⟨b6, 0, none⟩) K.acks.length K.acks.length) rfl
  have y17 := HXc.out.get 17 (.int .i64 K.heard) rfl
  have x0 := HYc.out.get 0 (.int .i64 K.num) rfl
  have x1 := HYc.out.get 1 (.int .i64 K.of_) rfl
  have x2 := HYc.out.get 2 (.bool K.up) rfl
  have x3 := HYc.out.get 3 (.int .i64 K.safe.prom) rfl
  have x4 := HYc.out.get 4 (.int .i64 K.safe.known) rfl
  have x5 := HYc.out.get 5 (.slice (some ⟨q0, 0, none⟩) K.safe.slots.length K.safe.slots.length) rfl
  have x6 := HYc.out.get 6 (.int .i64 K.disk.prom) rfl
  have x7 := HYc.out.get 7 (.int .i64 K.disk.known) rfl
  have x8 := HYc.out.get 8 (.slice (some ⟨q1, 0, none⟩) K.disk.slots.length K.disk.slots.length) rfl
  have x9 := HYc.out.get 9 (.slice (some ⟨q2, 0, none⟩) K.held.length K.held.length) rfl
  have x10 := HYc.out.get 10 (.slice (some ⟨q3, 0, none⟩) K.wish.length K.wish.length) rfl
  have x11 := HYc.out.get 11 (.bool K.lead) rfl
  have x12 := HYc.out.get 12 (.bool K.try_) rfl
  have x13 := HYc.out.get 13 (.int .i64 K.bal) rfl
  have x14 := HYc.out.get 14 (.slice (some ⟨q4, 0, none⟩) K.yes.length K.yes.length) rfl
  have x15 := HYc.out.get 15 (.slice (some ⟨q5, 0, none⟩) K.best.length K.best.length) rfl
  have x16 := HYc.out.get 16 (.slice (some ⟨q6, 0, none⟩) K.acks.length K.acks.length) rfl
  have x17 := HYc.out.get 17 (.int .i64 K.heard) rfl
  have yz := HXc.out.lt
  have xz := HYc.out.lt
  go_wp2_with fail
  refine (eqRms b2 q2 K.held wc (HH.out.1.later HBc.out).l2 (HH.out.2.later HBc.out).l2).mono ?_
  rintro e wd ⟨rfl, hb⟩
  have HXd := hidR (HXc.out.later hb)
  have HYd := hidR (HYc.out.later hb)
  have HBd := hidR (blw_trans HBc.out hb)
  clear hb yz xz y0 y1 y2 y3 y4 y5 y6 y7 y8 y9 y10 y11 y12 y13 y14 y15 y16 y17 x0 x1 x2 x3 x4 x5 x6 x7 x8 x9 x10 x11 x12 x13 x14 x15 x16 x17 HXc HYc HBc
  have y0 := HXd.out.get 0 (.int .i64 K.num) rfl
  have y1 := HXd.out.get 1 (.int .i64 K.of_) rfl
  have y2 := HXd.out.get 2 (.bool K.up) rfl
  have y3 := HXd.out.get 3 (.int .i64 K.safe.prom) rfl
  have y4 := HXd.out.get 4 (.int .i64 K.safe.known) rfl
  have y5 := HXd.out.get 5 (.slice (some ⟨b0, 0, none⟩) K.safe.slots.length K.safe.slots.length) rfl
  have y6 := HXd.out.get 6 (.int .i64 K.disk.prom) rfl
  have y7 := HXd.out.get 7 (.int .i64 K.disk.known) rfl
  have y8 := HXd.out.get 8 (.slice (some ⟨b1, 0, none⟩) K.disk.slots.length K.disk.slots.length) rfl
  have y9 := HXd.out.get 9 (.slice (some ⟨b2, 0, none⟩) K.held.length K.held.length) rfl
  have y10 := HXd.out.get 10 (.slice (some ⟨b3, 0, none⟩) K.wish.length K.wish.length) rfl
  have y11 := HXd.out.get 11 (.bool K.lead) rfl
  have y12 := HXd.out.get 12 (.bool K.try_) rfl
  have y13 := HXd.out.get 13 (.int .i64 K.bal) rfl
  have y14 := HXd.out.get 14 (.slice (some ⟨b4, 0, none⟩) K.yes.length K.yes.length) rfl
  have y15 := HXd.out.get 15 (.slice (some ⟨b5, 0, none⟩) K.best.length K.best.length) rfl
  have y16 := HXd.out.get 16 (.slice (some ⟨b6, 0, none⟩) K.acks.length K.acks.length) rfl
  have y17 := HXd.out.get 17 (.int .i64 K.heard) rfl
  have x0 := HYd.out.get 0 (.int .i64 K.num) rfl
  have x1 := HYd.out.get 1 (.int .i64 K.of_) rfl
  have x2 := HYd.out.get 2 (.bool K.up) rfl
  have x3 := HYd.out.get 3 (.int .i64 K.safe.prom) rfl
  have x4 := HYd.out.get 4 (.int .i64 K.safe.known) rfl
  have x5 := HYd.out.get 5 (.slice (some ⟨q0, 0, none⟩) K.safe.slots.length K.safe.slots.length) rfl
  have x6 := HYd.out.get 6 (.int .i64 K.disk.prom) rfl
  have x7 := HYd.out.get 7 (.int .i64 K.disk.known) rfl
  have x8 := HYd.out.get 8 (.slice (some ⟨q1, 0, none⟩) K.disk.slots.length K.disk.slots.length) rfl
  have x9 := HYd.out.get 9 (.slice (some ⟨q2, 0, none⟩) K.held.length K.held.length) rfl
  have x10 := HYd.out.get 10 (.slice (some ⟨q3, 0, none⟩) K.wish.length K.wish.length) rfl
  have x11 := HYd.out.get 11 (.bool K.lead) rfl
  have x12 := HYd.out.get 12 (.bool K.try_) rfl
  have x13 := HYd.out.get 13 (.int .i64 K.bal) rfl
  have x14 := HYd.out.get 14 (.slice (some ⟨q4, 0, none⟩) K.yes.length K.yes.length) rfl
  have x15 := HYd.out.get 15 (.slice (some ⟨q5, 0, none⟩) K.best.length K.best.length) rfl
  have x16 := HYd.out.get 16 (.slice (some ⟨q6, 0, none⟩) K.acks.length K.acks.length) rfl
  have x17 := HYd.out.get 17 (.int .i64 K.heard) rfl
  have yz := HXd.out.lt
  have xz := HYd.out.lt
  go_wp2_with fail
  refine (eqTxs b3 q3 K.wish wd (HH.out.1.later HBd.out).l3 (HH.out.2.later HBd.out).l3).mono ?_
  rintro e we ⟨rfl, hb⟩
  have HXe := hidR (HXd.out.later hb)
  have HYe := hidR (HYd.out.later hb)
  have HBe := hidR (blw_trans HBd.out hb)
  clear hb yz xz y0 y1 y2 y3 y4 y5 y6 y7 y8 y9 y10 y11 y12 y13 y14 y15 y16 y17 x0 x1 x2 x3 x4 x5 x6 x7 x8 x9 x10 x11 x12 x13 x14 x15 x16 x17 HXd HYd HBd
  have y0 := HXe.out.get 0 (.int .i64 K.num) rfl
  have y1 := HXe.out.get 1 (.int .i64 K.of_) rfl
  have y2 := HXe.out.get 2 (.bool K.up) rfl
  have y3 := HXe.out.get 3 (.int .i64 K.safe.prom) rfl
  have y4 := HXe.out.get 4 (.int .i64 K.safe.known) rfl
  have y5 := HXe.out.get 5 (.slice (some ⟨b0, 0, none⟩) K.safe.slots.length K.safe.slots.length) rfl
  have y6 := HXe.out.get 6 (.int .i64 K.disk.prom) rfl
  have y7 := HXe.out.get 7 (.int .i64 K.disk.known) rfl
  have y8 := HXe.out.get 8 (.slice (some ⟨b1, 0, none⟩) K.disk.slots.length K.disk.slots.length) rfl
  have y9 := HXe.out.get 9 (.slice (some ⟨b2, 0, none⟩) K.held.length K.held.length) rfl
  have y10 := HXe.out.get 10 (.slice (some ⟨b3, 0, none⟩) K.wish.length K.wish.length) rfl
  have y11 := HXe.out.get 11 (.bool K.lead) rfl
  have y12 := HXe.out.get 12 (.bool K.try_) rfl
  have y13 := HXe.out.get 13 (.int .i64 K.bal) rfl
  have y14 := HXe.out.get 14 (.slice (some ⟨b4, 0, none⟩) K.yes.length K.yes.length) rfl
  have y15 := HXe.out.get 15 (.slice (some ⟨b5, 0, none⟩) K.best.length K.best.length) rfl
  have y16 := HXe.out.get 16 (.slice (some ⟨b6, 0, none⟩) K.acks.length K.acks.length) rfl
  have y17 := HXe.out.get 17 (.int .i64 K.heard) rfl
  have x0 := HYe.out.get 0 (.int .i64 K.num) rfl
  have x1 := HYe.out.get 1 (.int .i64 K.of_) rfl
  have x2 := HYe.out.get 2 (.bool K.up) rfl
  have x3 := HYe.out.get 3 (.int .i64 K.safe.prom) rfl
  have x4 := HYe.out.get 4 (.int .i64 K.safe.known) rfl
  have x5 := HYe.out.get 5 (.slice (some ⟨q0, 0, none⟩) K.safe.slots.length K.safe.slots.length) rfl
  have x6 := HYe.out.get 6 (.int .i64 K.disk.prom) rfl
  have x7 := HYe.out.get 7 (.int .i64 K.disk.known) rfl
  have x8 := HYe.out.get 8 (.slice (some ⟨q1, 0, none⟩) K.disk.slots.length K.disk.slots.length) rfl
  have x9 := HYe.out.get 9 (.slice (some ⟨q2, 0, none⟩) K.held.length K.held.length) rfl
  have x10 := HYe.out.get 10 (.slice (some ⟨q3, 0, none⟩) K.wish.length K.wish.length) rfl
  have x11 := HYe.out.get 11 (.bool K.lead) rfl
  have x12 := HYe.out.get 12 (.bool K.try_) rfl
  have x13 := HYe.out.get 13 (.int .i64 K.bal) rfl
  have x14 := HYe.out.get 14 (.slice (some ⟨q4, 0, none⟩) K.yes.length K.yes.length) rfl
  have x15 := HYe.out.get 15 (.slice (some ⟨q5, 0, none⟩) K.best.length K.best.length) rfl
  have x16 := HYe.out.get 16 (.slice (some ⟨q6, 0, none⟩) K.acks.length K.acks.length) rfl
  have x17 := HYe.out.get 17 (.int .i64 K.heard) rfl
  have yz := HXe.out.lt
  have xz := HYe.out.lt
  go_wp2_with fail
  refine (eqNus b4 q4 K.yes we (HH.out.1.later HBe.out).l4 (HH.out.2.later HBe.out).l4).mono ?_
  rintro e wf ⟨rfl, hb⟩
  have HXf := hidR (HXe.out.later hb)
  have HYf := hidR (HYe.out.later hb)
  have HBf := hidR (blw_trans HBe.out hb)
  clear hb yz xz y0 y1 y2 y3 y4 y5 y6 y7 y8 y9 y10 y11 y12 y13 y14 y15 y16 y17 x0 x1 x2 x3 x4 x5 x6 x7 x8 x9 x10 x11 x12 x13 x14 x15 x16 x17 HXe HYe HBe
  have y0 := HXf.out.get 0 (.int .i64 K.num) rfl
  have y1 := HXf.out.get 1 (.int .i64 K.of_) rfl
  have y2 := HXf.out.get 2 (.bool K.up) rfl
  have y3 := HXf.out.get 3 (.int .i64 K.safe.prom) rfl
  have y4 := HXf.out.get 4 (.int .i64 K.safe.known) rfl
  have y5 := HXf.out.get 5 (.slice (some ⟨b0, 0, none⟩) K.safe.slots.length K.safe.slots.length) rfl
  have y6 := HXf.out.get 6 (.int .i64 K.disk.prom) rfl
  have y7 := HXf.out.get 7 (.int .i64 K.disk.known) rfl
  have y8 := HXf.out.get 8 (.slice (some ⟨b1, 0, none⟩) K.disk.slots.length K.disk.slots.length) rfl
  have y9 := HXf.out.get 9 (.slice (some ⟨b2, 0, none⟩) K.held.length K.held.length) rfl
  have y10 := HXf.out.get 10 (.slice (some ⟨b3, 0, none⟩) K.wish.length K.wish.length) rfl
  have y11 := HXf.out.get 11 (.bool K.lead) rfl
  have y12 := HXf.out.get 12 (.bool K.try_) rfl
  have y13 := HXf.out.get 13 (.int .i64 K.bal) rfl
  have y14 := HXf.out.get 14 (.slice (some ⟨b4, 0, none⟩) K.yes.length K.yes.length) rfl
  have y15 := HXf.out.get 15 (.slice (some ⟨b5, 0, none⟩) K.best.length K.best.length) rfl
  have y16 := HXf.out.get 16 (.slice (some ⟨b6, 0, none⟩) K.acks.length K.acks.length) rfl
  have y17 := HXf.out.get 17 (.int .i64 K.heard) rfl
  have x0 := HYf.out.get 0 (.int .i64 K.num) rfl
  have x1 := HYf.out.get 1 (.int .i64 K.of_) rfl
  have x2 := HYf.out.get 2 (.bool K.up) rfl
  have x3 := HYf.out.get 3 (.int .i64 K.safe.prom) rfl
  have x4 := HYf.out.get 4 (.int .i64 K.safe.known) rfl
  have x5 := HYf.out.get 5 (.slice (some ⟨q0, 0, none⟩) K.safe.slots.length K.safe.slots.length) rfl
  have x6 := HYf.out.get 6 (.int .i64 K.disk.prom) rfl
  have x7 := HYf.out.get 7 (.int .i64 K.disk.known) rfl
  have x8 := HYf.out.get 8 (.slice (some ⟨q1, 0, none⟩) K.disk.slots.length K.disk.slots.length) rfl
  have x9 := HYf.out.get 9 (.slice (some ⟨q2, 0, none⟩) K.held.length K.held.length) rfl
  have x10 := HYf.out.get 10 (.slice (some ⟨q3, 0, none⟩) K.wish.length K.wish.length) rfl
  have x11 := HYf.out.get 11 (.bool K.lead) rfl
  have x12 := HYf.out.get 12 (.bool K.try_) rfl
  have x13 := HYf.out.get 13 (.int .i64 K.bal) rfl
  have x14 := HYf.out.get 14 (.slice (some ⟨q4, 0, none⟩) K.yes.length K.yes.length) rfl
  have x15 := HYf.out.get 15 (.slice (some ⟨q5, 0, none⟩) K.best.length K.best.length) rfl
  have x16 := HYf.out.get 16 (.slice (some ⟨q6, 0, none⟩) K.acks.length K.acks.length) rfl
  have x17 := HYf.out.get 17 (.int .i64 K.heard) rfl
  have yz := HXf.out.lt
  have xz := HYf.out.lt
  go_wp2_with fail
  refine (eqRss b5 q5 K.best wf (HH.out.1.later HBf.out).l5 (HH.out.2.later HBf.out).l5).mono ?_
  rintro e wg ⟨rfl, hb⟩
  have HXg := hidR (HXf.out.later hb)
  have HYg := hidR (HYf.out.later hb)
  have HBg := hidR (blw_trans HBf.out hb)
  clear hb yz xz y0 y1 y2 y3 y4 y5 y6 y7 y8 y9 y10 y11 y12 y13 y14 y15 y16 y17 x0 x1 x2 x3 x4 x5 x6 x7 x8 x9 x10 x11 x12 x13 x14 x15 x16 x17 HXf HYf HBf
  have y0 := HXg.out.get 0 (.int .i64 K.num) rfl
  have y1 := HXg.out.get 1 (.int .i64 K.of_) rfl
  have y2 := HXg.out.get 2 (.bool K.up) rfl
  have y3 := HXg.out.get 3 (.int .i64 K.safe.prom) rfl
  have y4 := HXg.out.get 4 (.int .i64 K.safe.known) rfl
  have y5 := HXg.out.get 5 (.slice (some ⟨b0, 0, none⟩) K.safe.slots.length K.safe.slots.length) rfl
  have y6 := HXg.out.get 6 (.int .i64 K.disk.prom) rfl
  have y7 := HXg.out.get 7 (.int .i64 K.disk.known) rfl
  have y8 := HXg.out.get 8 (.slice (some ⟨b1, 0, none⟩) K.disk.slots.length K.disk.slots.length) rfl
  have y9 := HXg.out.get 9 (.slice (some ⟨b2, 0, none⟩) K.held.length K.held.length) rfl
  have y10 := HXg.out.get 10 (.slice (some ⟨b3, 0, none⟩) K.wish.length K.wish.length) rfl
  have y11 := HXg.out.get 11 (.bool K.lead) rfl
  have y12 := HXg.out.get 12 (.bool K.try_) rfl
  have y13 := HXg.out.get 13 (.int .i64 K.bal) rfl
  have y14 := HXg.out.get 14 (.slice (some ⟨b4, 0, none⟩) K.yes.length K.yes.length) rfl
  have y15 := HXg.out.get 15 (.slice (some ⟨b5, 0, none⟩) K.best.length K.best.length) rfl
  have y16 := HXg.out.get 16 (.slice (some ⟨b6, 0, none⟩) K.acks.length K.acks.length) rfl
  have y17 := HXg.out.get 17 (.int .i64 K.heard) rfl
  have x0 := HYg.out.get 0 (.int .i64 K.num) rfl
  have x1 := HYg.out.get 1 (.int .i64 K.of_) rfl
  have x2 := HYg.out.get 2 (.bool K.up) rfl
  have x3 := HYg.out.get 3 (.int .i64 K.safe.prom) rfl
  have x4 := HYg.out.get 4 (.int .i64 K.safe.known) rfl
  have x5 := HYg.out.get 5 (.slice (some ⟨q0, 0, none⟩) K.safe.slots.length K.safe.slots.length) rfl
  have x6 := HYg.out.get 6 (.int .i64 K.disk.prom) rfl
  have x7 := HYg.out.get 7 (.int .i64 K.disk.known) rfl
  have x8 := HYg.out.get 8 (.slice (some ⟨q1, 0, none⟩) K.disk.slots.length K.disk.slots.length) rfl
  have x9 := HYg.out.get 9 (.slice (some ⟨q2, 0, none⟩) K.held.length K.held.length) rfl
  have x10 := HYg.out.get 10 (.slice (some ⟨q3, 0, none⟩) K.wish.length K.wish.length) rfl
  have x11 := HYg.out.get 11 (.bool K.lead) rfl
  have x12 := HYg.out.get 12 (.bool K.try_) rfl
  have x13 := HYg.out.get 13 (.int .i64 K.bal) rfl
  have x14 := HYg.out.get 14 (.slice (some ⟨q4, 0, none⟩) K.yes.length K.yes.length) rfl
  have x15 := HYg.out.get 15 (.slice (some ⟨q5, 0, none⟩) K.best.length K.best.length) rfl
  have x16 := HYg.out.get 16 (.slice (some ⟨q6, 0, none⟩) K.acks.length K.acks.length) rfl
  have x17 := HYg.out.get 17 (.int .i64 K.heard) rfl
  have yz := HXg.out.lt
  have xz := HYg.out.lt
  go_wp2_with fail
  refine (eqRas b6 q6 K.acks wg (HH.out.1.later HBg.out).l6 (HH.out.2.later HBg.out).l6).mono ?_
  rintro e wh ⟨rfl, hb⟩
  have HXh := hidR (HXg.out.later hb)
  have HYh := hidR (HYg.out.later hb)
  have HBh := hidR (blw_trans HBg.out hb)
  clear hb yz xz y0 y1 y2 y3 y4 y5 y6 y7 y8 y9 y10 y11 y12 y13 y14 y15 y16 y17 x0 x1 x2 x3 x4 x5 x6 x7 x8 x9 x10 x11 x12 x13 x14 x15 x16 x17 HXg HYg HBg
  have y0 := HXh.out.get 0 (.int .i64 K.num) rfl
  have y1 := HXh.out.get 1 (.int .i64 K.of_) rfl
  have y2 := HXh.out.get 2 (.bool K.up) rfl
  have y3 := HXh.out.get 3 (.int .i64 K.safe.prom) rfl
  have y4 := HXh.out.get 4 (.int .i64 K.safe.known) rfl
  have y5 := HXh.out.get 5 (.slice (some ⟨b0, 0, none⟩) K.safe.slots.length K.safe.slots.length) rfl
  have y6 := HXh.out.get 6 (.int .i64 K.disk.prom) rfl
  have y7 := HXh.out.get 7 (.int .i64 K.disk.known) rfl
  have y8 := HXh.out.get 8 (.slice (some ⟨b1, 0, none⟩) K.disk.slots.length K.disk.slots.length) rfl
  have y9 := HXh.out.get 9 (.slice (some ⟨b2, 0, none⟩) K.held.length K.held.length) rfl
  have y10 := HXh.out.get 10 (.slice (some ⟨b3, 0, none⟩) K.wish.length K.wish.length) rfl
  have y11 := HXh.out.get 11 (.bool K.lead) rfl
  have y12 := HXh.out.get 12 (.bool K.try_) rfl
  have y13 := HXh.out.get 13 (.int .i64 K.bal) rfl
  have y14 := HXh.out.get 14 (.slice (some ⟨b4, 0, none⟩) K.yes.length K.yes.length) rfl
  have y15 := HXh.out.get 15 (.slice (some ⟨b5, 0, none⟩) K.best.length K.best.length) rfl
  have y16 := HXh.out.get 16 (.slice (some ⟨b6, 0, none⟩) K.acks.length K.acks.length) rfl
  have y17 := HXh.out.get 17 (.int .i64 K.heard) rfl
  have x0 := HYh.out.get 0 (.int .i64 K.num) rfl
  have x1 := HYh.out.get 1 (.int .i64 K.of_) rfl
  have x2 := HYh.out.get 2 (.bool K.up) rfl
  have x3 := HYh.out.get 3 (.int .i64 K.safe.prom) rfl
  have x4 := HYh.out.get 4 (.int .i64 K.safe.known) rfl
  have x5 := HYh.out.get 5 (.slice (some ⟨q0, 0, none⟩) K.safe.slots.length K.safe.slots.length) rfl
  have x6 := HYh.out.get 6 (.int .i64 K.disk.prom) rfl
  have x7 := HYh.out.get 7 (.int .i64 K.disk.known) rfl
  have x8 := HYh.out.get 8 (.slice (some ⟨q1, 0, none⟩) K.disk.slots.length K.disk.slots.length) rfl
  have x9 := HYh.out.get 9 (.slice (some ⟨q2, 0, none⟩) K.held.length K.held.length) rfl
  have x10 := HYh.out.get 10 (.slice (some ⟨q3, 0, none⟩) K.wish.length K.wish.length) rfl
  have x11 := HYh.out.get 11 (.bool K.lead) rfl
  have x12 := HYh.out.get 12 (.bool K.try_) rfl
  have x13 := HYh.out.get 13 (.int .i64 K.bal) rfl
  have x14 := HYh.out.get 14 (.slice (some ⟨q4, 0, none⟩) K.yes.length K.yes.length) rfl
  have x15 := HYh.out.get 15 (.slice (some ⟨q5, 0, none⟩) K.best.length K.best.length) rfl
  have x16 := HYh.out.get 16 (.slice (some ⟨q6, 0, none⟩) K.acks.length K.acks.length) rfl
  have x17 := HYh.out.get 17 (.int .i64 K.heard) rfl
  have yz := HXh.out.lt
  have xz := HYh.out.lt
  go_wp2
  go_ret
  exact ⟨rfl, HBh.out⟩

set_option maxRecDepth 8000 in
set_option maxHeartbeats 16000000 in
theorem toRR (K : Rr) (v0 v1 v2 v3 v4 v5 v6 : Value) (w : World) (hs : K.small) (h : RrAt w v0 v1 v2 v3 v4 v5 v6 K) :
    Calls Try.prog 49 #[.agg #[.int .i64 K.num, .int .i64 K.of_, .bool K.up, .int .i64 K.safe.prom, .int .i64 K.safe.known, v0, .int .i64 K.disk.prom, .int .i64 K.disk.known, v1, v2, v3, .bool K.lead, .bool K.try_, .int .i64 K.bal, v4, v5, v6, .int .i64 K.heard]] w fun e w' => (∃ b0 b1 b2 b3 b4 b5 b6, e = .returned (.agg #[.int .i64 K.num, .int .i64 K.of_, .bool K.up, .int .i64 K.safe.prom, .int .i64 K.safe.known, .slice (some ⟨b0, 0, none⟩) K.safe.slots.length K.safe.slots.length, .int .i64 K.disk.prom, .int .i64 K.disk.known, .slice (some ⟨b1, 0, none⟩) K.disk.slots.length K.disk.slots.length, .slice (some ⟨b2, 0, none⟩) K.held.length K.held.length, .slice (some ⟨b3, 0, none⟩) K.wish.length K.wish.length, .bool K.lead, .bool K.try_, .int .i64 K.bal, .slice (some ⟨b4, 0, none⟩) K.yes.length K.yes.length, .slice (some ⟨b5, 0, none⟩) K.best.length K.best.length, .slice (some ⟨b6, 0, none⟩) K.acks.length K.acks.length, .int .i64 K.heard]) ∧ RrIn w' b0 b1 b2 b3 b4 b5 b6 K ∧ w.heap.size ≤ b0 ∧ w.heap.size ≤ b1 ∧ w.heap.size ≤ b2 ∧ w.heap.size ≤ b3 ∧ w.heap.size ≤ b4 ∧ w.heap.size ≤ b5 ∧ w.heap.size ≤ b6) ∧ Below w.heap.size w w' := by
  have HH := hidR (And.intro h hs)
  clear h hs
  obtain ⟨wx, hwx⟩ : ∃ wx, wx = (w.alloc (.cells #[.int .i64 K.num, .int .i64 K.of_, .bool K.up, .int .i64 K.safe.prom, .int .i64 K.safe.known, v0, .int .i64 K.disk.prom, .int .i64 K.disk.known, v1, v2, v3, .bool K.lead, .bool K.try_, .int .i64 K.bal, v4, v5, v6, .int .i64 K.heard] 83)).alloc (.cells #[.int .i64 0, .int .i64 0, .bool false, .int .i64 0, .int .i64 0, .slice none 0 0, .int .i64 0, .int .i64 0, .slice none 0 0, .slice none 0 0, .slice none 0 0, .bool false, .bool false, .int .i64 0, .slice none 0 0, .slice none 0 0, .slice none 0 0, .int .i64 0] 52) := ⟨_, rfl⟩
  have hzx : wx.heap.size = w.heap.size + 2 := by rw [hwx]; simp
  obtain ⟨wa, hwa⟩ : ∃ wa, wa = wx.alloc (.cells #[.int .i64 K.num, .int .i64 K.of_, .bool K.up, .int .i64 0, .int .i64 0, .slice none 0 0, .int .i64 0, .int .i64 0, .slice none 0 0, .slice none 0 0, .slice none 0 0, .bool false, .bool false, .int .i64 0, .slice none 0 0, .slice none 0 0, .slice none 0 0, .int .i64 0] 52) := ⟨_, rfl⟩
  have HXa : Hid (LBox wa w.heap.size [.int .i64 K.num, .int .i64 K.of_, .bool K.up, .int .i64 K.safe.prom, .int .i64 K.safe.known, v0, .int .i64 K.disk.prom, .int .i64 K.disk.known, v1, v2, v3, .bool K.lead, .bool K.try_, .int .i64 K.bal, v4, v5, v6, .int .i64 K.heard]) := by
    show LBox _ _ _
    rw [hwa, hwx]; exact ((LBox.new w _ _ _ rfl).past _).past _
  have HRa : Hid (OwnBlk wa (w.heap.size + 1) 52 18) := by
    show OwnBlk _ _ _ _
    rw [hwa, hwx]; exact (OwnBlk.alloc_at2 _ _ _ _ _ rfl (by simp)).past _
  have HWa : Hid (OwnBlk wa (w.heap.size + 2) 52 18) := by
    show OwnBlk _ _ _ _
    rw [hwa]; exact OwnBlk.alloc_at2 _ _ _ _ _ rfl hzx.symm
  have HOa : Hid (LBox wa (w.heap.size + 2) [.int .i64 K.num, .int .i64 K.of_, .bool K.up, .int .i64 0, .int .i64 0, .slice none 0 0, .int .i64 0, .int .i64 0, .slice none 0 0, .slice none 0 0, .slice none 0 0, .bool false, .bool false, .int .i64 0, .slice none 0 0, .slice none 0 0, .slice none 0 0, .int .i64 0]) := by
    show LBox _ _ _
    rw [hwa]; exact LBox.new wx _ _ _ hzx.symm
  have HBa : Hid (Below w.heap.size w wa) := by show Below _ _ _; rw [hwa, hwx]; exact blw_alloc (blw_alloc (blw_alloc (Below.refl _ _) _) _) _
  have HZa : Hid (w.heap.size + 3 ≤ wa.heap.size) := by show _ ≤ _; rw [hwa]; simp [hzx]
  go_enter Try.func49, Try.ntmps49
  go_upto_region 5 with fail
  rw [← hwx, ← hwa]
  clear hwx hwa hzx
  have y0 := HXa.out.get 0 (.int .i64 K.num) rfl
  have y1 := HXa.out.get 1 (.int .i64 K.of_) rfl
  have y2 := HXa.out.get 2 (.bool K.up) rfl
  have y3 := HXa.out.get 3 (.int .i64 K.safe.prom) rfl
  have y4 := HXa.out.get 4 (.int .i64 K.safe.known) rfl
  have y5 := HXa.out.get 5 (v0) rfl
  have y6 := HXa.out.get 6 (.int .i64 K.disk.prom) rfl
  have y7 := HXa.out.get 7 (.int .i64 K.disk.known) rfl
  have y8 := HXa.out.get 8 (v1) rfl
  have y9 := HXa.out.get 9 (v2) rfl
  have y10 := HXa.out.get 10 (v3) rfl
  have y11 := HXa.out.get 11 (.bool K.lead) rfl
  have y12 := HXa.out.get 12 (.bool K.try_) rfl
  have y13 := HXa.out.get 13 (.int .i64 K.bal) rfl
  have y14 := HXa.out.get 14 (v4) rfl
  have y15 := HXa.out.get 15 (v5) rfl
  have y16 := HXa.out.get 16 (v6) rfl
  have y17 := HXa.out.get 17 (.int .i64 K.heard) rfl
  have yz := HXa.out.lt
  go_wp2_with fail
  refine (toRD K.safe v0 wa HH.out.2.s0 ⟨(HH.out.1.later HBa.out).l0⟩).mono ?_
  rintro e wb ⟨⟨p0, rfl, hi, hp⟩, hb⟩
  have HP0 : Hid (w.heap.size + 3 ≤ p0) := by show _ ≤ _; exact Nat.le_trans HZa.out hp
  have HI0b := hidR hi.l0
  clear hp
  have HBb := hidR (blw_trans HBa.out hb)
  have HXb := hidR (HXa.out.later hb)
  have HRb := hidR (HRa.out.later hb)
  have HWb := hidR (HWa.out.later hb)
  have HOb := hidR (HOa.out.later hb)
  have HZb : Hid (w.heap.size + 3 ≤ wb.heap.size) := Nat.le_trans HZa.out hb.size
  clear hi hb yz y0 y1 y2 y3 y4 y5 y6 y7 y8 y9 y10 y11 y12 y13 y14 y15 y16 y17 HBa HXa HRa HWa HOa HZa
  obtain ⟨wc, hw⟩ : ∃ wc, wc = (((wb).setCell ⟨w.heap.size + 2, 3, none⟩ (.int .i64 K.safe.prom)).setCell ⟨w.heap.size + 2, 4, none⟩ (.int .i64 K.safe.known)).setCell ⟨w.heap.size + 2, 5, none⟩ (.slice (some ⟨p0, 0, none⟩) K.safe.slots.length K.safe.slots.length) := ⟨_, rfl⟩
  have HBc : Hid (Below w.heap.size w wc) := by
    show Below _ _ _
    rw [hw]
    exact ((((((HBb.out).setCell (p := ⟨w.heap.size + 2, 3, none⟩) (by show w.heap.size ≤ w.heap.size + 2; omega) _)).setCell (p := ⟨w.heap.size + 2, 4, none⟩) (by show w.heap.size ≤ w.heap.size + 2; omega) _)).setCell (p := ⟨w.heap.size + 2, 5, none⟩) (by show w.heap.size ≤ w.heap.size + 2; omega) _)
  have HXc : Hid (LBox wc w.heap.size [.int .i64 K.num, .int .i64 K.of_, .bool K.up, .int .i64 K.safe.prom, .int .i64 K.safe.known, v0, .int .i64 K.disk.prom, .int .i64 K.disk.known, v1, v2, v3, .bool K.lead, .bool K.try_, .int .i64 K.bal, v4, v5, v6, .int .i64 K.heard]) := by
    show LBox _ _ _
    rw [hw]
    exact ((((((HXb.out).other (by omega) _ _)).other (by omega) _ _)).other (by omega) _ _)
  have HRc : Hid (OwnBlk wc (w.heap.size + 1) 52 18) := by
    show OwnBlk _ _ _ _
    rw [hw]
    exact ((((((HRb.out).sc_other (by omega) _ _)).sc_other (by omega) _ _)).sc_other (by omega) _ _)
  have HWc : Hid (OwnBlk wc (w.heap.size + 2) 52 18) := by
    show OwnBlk _ _ _ _
    rw [hw]
    exact ((((((HWb.out).setCell 3 _)).setCell 4 _)).setCell 5 _)
  have HOc : Hid (LBox wc (w.heap.size + 2) [.int .i64 K.num, .int .i64 K.of_, .bool K.up, .int .i64 K.safe.prom, .int .i64 K.safe.known, .slice (some ⟨p0, 0, none⟩) K.safe.slots.length K.safe.slots.length, .int .i64 0, .int .i64 0, .slice none 0 0, .slice none 0 0, .slice none 0 0, .bool false, .bool false, .int .i64 0, .slice none 0 0, .slice none 0 0, .slice none 0 0, .int .i64 0]) := by
    show LBox _ _ _
    rw [hw]
    exact ((((((HOb.out).set HWb.out 3 (by omega) (.int .i64 K.safe.prom))).set ((HWb.out).setCell 3 (.int .i64 K.safe.prom)) 4 (by omega) (.int .i64 K.safe.known))).set ((((HWb.out).setCell 3 (.int .i64 K.safe.prom))).setCell 4 (.int .i64 K.safe.known)) 5 (by omega) (.slice (some ⟨p0, 0, none⟩) K.safe.slots.length K.safe.slots.length))
  have HI0c : Hid (RssIn wc p0 K.safe.slots) := by
    show RssIn _ _ _
    rw [hw]
    exact ((((((HI0b.out).sc (by have := HP0.out; omega) _ _)).sc (by have := HP0.out; omega) _ _)).sc (by have := HP0.out; omega) _ _)
  have HZc : Hid (w.heap.size + 3 ≤ wc.heap.size) := by
    show _ ≤ _
    rw [hw]
    simpa only [sc_size] using HZb.out
  have hfz := HWb.out.frozen
  have hz := HWb.out.lt
  have d3 := HOb.out.get 3 (.int .i64 0) rfl
  have d4 := HOb.out.get 4 (.int .i64 0) rfl
  have d5 := HOb.out.get 5 (.slice none 0 0) rfl
  go_upto_region 6 with fail
  rw [← hw]
  clear hw hfz hz d3 d4 d5 HBb HXb HRb HWb HOb HZb HI0b
  have y0 := HXc.out.get 0 (.int .i64 K.num) rfl
  have y1 := HXc.out.get 1 (.int .i64 K.of_) rfl
  have y2 := HXc.out.get 2 (.bool K.up) rfl
  have y3 := HXc.out.get 3 (.int .i64 K.safe.prom) rfl
  have y4 := HXc.out.get 4 (.int .i64 K.safe.known) rfl
  have y5 := HXc.out.get 5 (v0) rfl
  have y6 := HXc.out.get 6 (.int .i64 K.disk.prom) rfl
  have y7 := HXc.out.get 7 (.int .i64 K.disk.known) rfl
  have y8 := HXc.out.get 8 (v1) rfl
  have y9 := HXc.out.get 9 (v2) rfl
  have y10 := HXc.out.get 10 (v3) rfl
  have y11 := HXc.out.get 11 (.bool K.lead) rfl
  have y12 := HXc.out.get 12 (.bool K.try_) rfl
  have y13 := HXc.out.get 13 (.int .i64 K.bal) rfl
  have y14 := HXc.out.get 14 (v4) rfl
  have y15 := HXc.out.get 15 (v5) rfl
  have y16 := HXc.out.get 16 (v6) rfl
  have y17 := HXc.out.get 17 (.int .i64 K.heard) rfl
  have yz := HXc.out.lt
  go_wp2_with fail
  refine (toRD K.disk v1 wc HH.out.2.s1 ⟨(HH.out.1.later HBc.out).l1⟩).mono ?_
  rintro e wd ⟨⟨p1, rfl, hi, hp⟩, hb⟩
  have HP1 : Hid (w.heap.size + 3 ≤ p1) := by show _ ≤ _; exact Nat.le_trans HZc.out hp
  have HI1d := hidR hi.l0
  clear hp
  have HBd := hidR (blw_trans HBc.out hb)
  have HXd := hidR (HXc.out.later hb)
  have HRd := hidR (HRc.out.later hb)
  have HWd := hidR (HWc.out.later hb)
  have HOd := hidR (HOc.out.later hb)
  have HZd : Hid (w.heap.size + 3 ≤ wd.heap.size) := Nat.le_trans HZc.out hb.size
  have HI0d := hidR (HI0c.out.later hb)
  clear hi hb yz y0 y1 y2 y3 y4 y5 y6 y7 y8 y9 y10 y11 y12 y13 y14 y15 y16 y17 HBc HXc HRc HWc HOc HZc HI0c
  obtain ⟨we, hw⟩ : ∃ we, we = (((wd).setCell ⟨w.heap.size + 2, 6, none⟩ (.int .i64 K.disk.prom)).setCell ⟨w.heap.size + 2, 7, none⟩ (.int .i64 K.disk.known)).setCell ⟨w.heap.size + 2, 8, none⟩ (.slice (some ⟨p1, 0, none⟩) K.disk.slots.length K.disk.slots.length) := ⟨_, rfl⟩
  have HBe : Hid (Below w.heap.size w we) := by
    show Below _ _ _
    rw [hw]
    exact ((((((HBd.out).setCell (p := ⟨w.heap.size + 2, 6, none⟩) (by show w.heap.size ≤ w.heap.size + 2; omega) _)).setCell (p := ⟨w.heap.size + 2, 7, none⟩) (by show w.heap.size ≤ w.heap.size + 2; omega) _)).setCell (p := ⟨w.heap.size + 2, 8, none⟩) (by show w.heap.size ≤ w.heap.size + 2; omega) _)
  have HXe : Hid (LBox we w.heap.size [.int .i64 K.num, .int .i64 K.of_, .bool K.up, .int .i64 K.safe.prom, .int .i64 K.safe.known, v0, .int .i64 K.disk.prom, .int .i64 K.disk.known, v1, v2, v3, .bool K.lead, .bool K.try_, .int .i64 K.bal, v4, v5, v6, .int .i64 K.heard]) := by
    show LBox _ _ _
    rw [hw]
    exact ((((((HXd.out).other (by omega) _ _)).other (by omega) _ _)).other (by omega) _ _)
  have HRe : Hid (OwnBlk we (w.heap.size + 1) 52 18) := by
    show OwnBlk _ _ _ _
    rw [hw]
    exact ((((((HRd.out).sc_other (by omega) _ _)).sc_other (by omega) _ _)).sc_other (by omega) _ _)
  have HWe : Hid (OwnBlk we (w.heap.size + 2) 52 18) := by
    show OwnBlk _ _ _ _
    rw [hw]
    exact ((((((HWd.out).setCell 6 _)).setCell 7 _)).setCell 8 _)
  have HOe : Hid (LBox we (w.heap.size + 2) [.int .i64 K.num, .int .i64 K.of_, .bool K.up, .int .i64 K.safe.prom, .int .i64 K.safe.known, .slice (some ⟨p0, 0, none⟩) K.safe.slots.length K.safe.slots.length, .int .i64 K.disk.prom, .int .i64 K.disk.known, .slice (some ⟨p1, 0, none⟩) K.disk.slots.length K.disk.slots.length, .slice none 0 0, .slice none 0 0, .bool false, .bool false, .int .i64 0, .slice none 0 0, .slice none 0 0, .slice none 0 0, .int .i64 0]) := by
    show LBox _ _ _
    rw [hw]
    exact ((((((HOd.out).set HWd.out 6 (by omega) (.int .i64 K.disk.prom))).set ((HWd.out).setCell 6 (.int .i64 K.disk.prom)) 7 (by omega) (.int .i64 K.disk.known))).set ((((HWd.out).setCell 6 (.int .i64 K.disk.prom))).setCell 7 (.int .i64 K.disk.known)) 8 (by omega) (.slice (some ⟨p1, 0, none⟩) K.disk.slots.length K.disk.slots.length))
  have HI0e : Hid (RssIn we p0 K.safe.slots) := by
    show RssIn _ _ _
    rw [hw]
    exact ((((((HI0d.out).sc (by have := HP0.out; omega) _ _)).sc (by have := HP0.out; omega) _ _)).sc (by have := HP0.out; omega) _ _)
  have HI1e : Hid (RssIn we p1 K.disk.slots) := by
    show RssIn _ _ _
    rw [hw]
    exact ((((((HI1d.out).sc (by have := HP1.out; omega) _ _)).sc (by have := HP1.out; omega) _ _)).sc (by have := HP1.out; omega) _ _)
  have HZe : Hid (w.heap.size + 3 ≤ we.heap.size) := by
    show _ ≤ _
    rw [hw]
    simpa only [sc_size] using HZd.out
  have hfz := HWd.out.frozen
  have hz := HWd.out.lt
  have d6 := HOd.out.get 6 (.int .i64 0) rfl
  have d7 := HOd.out.get 7 (.int .i64 0) rfl
  have d8 := HOd.out.get 8 (.slice none 0 0) rfl
  go_upto_region 7 with fail
  rw [← hw]
  clear hw hfz hz d6 d7 d8 HBd HXd HRd HWd HOd HZd HI0d HI1d
  have y0 := HXe.out.get 0 (.int .i64 K.num) rfl
  have y1 := HXe.out.get 1 (.int .i64 K.of_) rfl
  have y2 := HXe.out.get 2 (.bool K.up) rfl
  have y3 := HXe.out.get 3 (.int .i64 K.safe.prom) rfl
  have y4 := HXe.out.get 4 (.int .i64 K.safe.known) rfl
  have y5 := HXe.out.get 5 (v0) rfl
  have y6 := HXe.out.get 6 (.int .i64 K.disk.prom) rfl
  have y7 := HXe.out.get 7 (.int .i64 K.disk.known) rfl
  have y8 := HXe.out.get 8 (v1) rfl
  have y9 := HXe.out.get 9 (v2) rfl
  have y10 := HXe.out.get 10 (v3) rfl
  have y11 := HXe.out.get 11 (.bool K.lead) rfl
  have y12 := HXe.out.get 12 (.bool K.try_) rfl
  have y13 := HXe.out.get 13 (.int .i64 K.bal) rfl
  have y14 := HXe.out.get 14 (v4) rfl
  have y15 := HXe.out.get 15 (v5) rfl
  have y16 := HXe.out.get 16 (v6) rfl
  have y17 := HXe.out.get 17 (.int .i64 K.heard) rfl
  have yz := HXe.out.lt
  go_wp2_with fail
  refine (toRms v2 K.held we HH.out.2.s2 HH.out.2.m2 (HH.out.1.later HBe.out).l2).mono ?_
  rintro e wf ⟨rfl, hb, hi⟩
  obtain ⟨p2, hp⟩ : ∃ p2, p2 = we.heap.size := ⟨_, rfl⟩
  rw [← hp] at hi ⊢
  have HP2 : Hid (w.heap.size + 3 ≤ p2) := by show _ ≤ _; rw [hp]; exact HZe.out
  have HI2f := hidR hi
  clear hp
  have HBf := hidR (blw_trans HBe.out hb)
  have HXf := hidR (HXe.out.later hb)
  have HRf := hidR (HRe.out.later hb)
  have HWf := hidR (HWe.out.later hb)
  have HOf := hidR (HOe.out.later hb)
  have HZf : Hid (w.heap.size + 3 ≤ wf.heap.size) := Nat.le_trans HZe.out hb.size
  have HI0f := hidR (HI0e.out.later hb)
  have HI1f := hidR (HI1e.out.later hb)
  clear hi hb yz y0 y1 y2 y3 y4 y5 y6 y7 y8 y9 y10 y11 y12 y13 y14 y15 y16 y17 HBe HXe HRe HWe HOe HZe HI0e HI1e
  obtain ⟨wg, hw⟩ : ∃ wg, wg = (wf).setCell ⟨w.heap.size + 2, 9, none⟩ (.slice (some ⟨p2, 0, none⟩) K.held.length K.held.length) := ⟨_, rfl⟩
  have HBg : Hid (Below w.heap.size w wg) := by
    show Below _ _ _
    rw [hw]
    exact ((HBf.out).setCell (p := ⟨w.heap.size + 2, 9, none⟩) (by show w.heap.size ≤ w.heap.size + 2; omega) _)
  have HXg : Hid (LBox wg w.heap.size [.int .i64 K.num, .int .i64 K.of_, .bool K.up, .int .i64 K.safe.prom, .int .i64 K.safe.known, v0, .int .i64 K.disk.prom, .int .i64 K.disk.known, v1, v2, v3, .bool K.lead, .bool K.try_, .int .i64 K.bal, v4, v5, v6, .int .i64 K.heard]) := by
    show LBox _ _ _
    rw [hw]
    exact ((HXf.out).other (by omega) _ _)
  have HRg : Hid (OwnBlk wg (w.heap.size + 1) 52 18) := by
    show OwnBlk _ _ _ _
    rw [hw]
    exact ((HRf.out).sc_other (by omega) _ _)
  have HWg : Hid (OwnBlk wg (w.heap.size + 2) 52 18) := by
    show OwnBlk _ _ _ _
    rw [hw]
    exact ((HWf.out).setCell 9 _)
  have HOg : Hid (LBox wg (w.heap.size + 2) [.int .i64 K.num, .int .i64 K.of_, .bool K.up, .int .i64 K.safe.prom, .int .i64 K.safe.known, .slice (some ⟨p0, 0, none⟩) K.safe.slots.length K.safe.slots.length, .int .i64 K.disk.prom, .int .i64 K.disk.known, .slice (some ⟨p1, 0, none⟩) K.disk.slots.length K.disk.slots.length, .slice (some ⟨p2, 0, none⟩) K.held.length K.held.length, .slice none 0 0, .bool false, .bool false, .int .i64 0, .slice none 0 0, .slice none 0 0, .slice none 0 0, .int .i64 0]) := by
    show LBox _ _ _
    rw [hw]
    exact ((HOf.out).set HWf.out 9 (by omega) (.slice (some ⟨p2, 0, none⟩) K.held.length K.held.length))
  have HI0g : Hid (RssIn wg p0 K.safe.slots) := by
    show RssIn _ _ _
    rw [hw]
    exact ((HI0f.out).sc (by have := HP0.out; omega) _ _)
  have HI1g : Hid (RssIn wg p1 K.disk.slots) := by
    show RssIn _ _ _
    rw [hw]
    exact ((HI1f.out).sc (by have := HP1.out; omega) _ _)
  have HI2g : Hid (RmsIn wg p2 K.held) := by
    show RmsIn _ _ _
    rw [hw]
    exact ((HI2f.out).sc (by have := HP2.out; omega) _ _)
  have HZg : Hid (w.heap.size + 3 ≤ wg.heap.size) := by
    show _ ≤ _
    rw [hw]
    simpa only [sc_size] using HZf.out
  have hfz := HWf.out.frozen
  have hz := HWf.out.lt
  have d9 := HOf.out.get 9 (.slice none 0 0) rfl
  go_upto_region 8 with fail
  rw [← hw]
  clear hw hfz hz d9 HBf HXf HRf HWf HOf HZf HI0f HI1f HI2f
  have y0 := HXg.out.get 0 (.int .i64 K.num) rfl
  have y1 := HXg.out.get 1 (.int .i64 K.of_) rfl
  have y2 := HXg.out.get 2 (.bool K.up) rfl
  have y3 := HXg.out.get 3 (.int .i64 K.safe.prom) rfl
  have y4 := HXg.out.get 4 (.int .i64 K.safe.known) rfl
  have y5 := HXg.out.get 5 (v0) rfl
  have y6 := HXg.out.get 6 (.int .i64 K.disk.prom) rfl
  have y7 := HXg.out.get 7 (.int .i64 K.disk.known) rfl
  have y8 := HXg.out.get 8 (v1) rfl
  have y9 := HXg.out.get 9 (v2) rfl
  have y10 := HXg.out.get 10 (v3) rfl
  have y11 := HXg.out.get 11 (.bool K.lead) rfl
  have y12 := HXg.out.get 12 (.bool K.try_) rfl
  have y13 := HXg.out.get 13 (.int .i64 K.bal) rfl
  have y14 := HXg.out.get 14 (v4) rfl
  have y15 := HXg.out.get 15 (v5) rfl
  have y16 := HXg.out.get 16 (v6) rfl
  have y17 := HXg.out.get 17 (.int .i64 K.heard) rfl
  have yz := HXg.out.lt
  go_wp2_with fail
  refine (toTxs v3 K.wish wg HH.out.2.s3 (HH.out.1.later HBg.out).l3).mono ?_
  rintro e wh ⟨rfl, hb, hi⟩
  obtain ⟨p3, hp⟩ : ∃ p3, p3 = wg.heap.size := ⟨_, rfl⟩
  rw [← hp] at hi ⊢
  have HP3 : Hid (w.heap.size + 3 ≤ p3) := by show _ ≤ _; rw [hp]; exact HZg.out
  have HI3h := hidR hi
  clear hp
  have HBh := hidR (blw_trans HBg.out hb)
  have HXh := hidR (HXg.out.later hb)
  have HRh := hidR (HRg.out.later hb)
  have HWh := hidR (HWg.out.later hb)
  have HOh := hidR (HOg.out.later hb)
  have HZh : Hid (w.heap.size + 3 ≤ wh.heap.size) := Nat.le_trans HZg.out hb.size
  have HI0h := hidR (HI0g.out.later hb)
  have HI1h := hidR (HI1g.out.later hb)
  have HI2h := hidR (HI2g.out.later hb)
  clear hi hb yz y0 y1 y2 y3 y4 y5 y6 y7 y8 y9 y10 y11 y12 y13 y14 y15 y16 y17 HBg HXg HRg HWg HOg HZg HI0g HI1g HI2g
  obtain ⟨wi, hw⟩ : ∃ wi, wi = (wh).setCell ⟨w.heap.size + 2, 10, none⟩ (.slice (some ⟨p3, 0, none⟩) K.wish.length K.wish.length) := ⟨_, rfl⟩
  have HBi : Hid (Below w.heap.size w wi) := by
    show Below _ _ _
    rw [hw]
    exact ((HBh.out).setCell (p := ⟨w.heap.size + 2, 10, none⟩) (by show w.heap.size ≤ w.heap.size + 2; omega) _)
  have HXi : Hid (LBox wi w.heap.size [.int .i64 K.num, .int .i64 K.of_, .bool K.up, .int .i64 K.safe.prom, .int .i64 K.safe.known, v0, .int .i64 K.disk.prom, .int .i64 K.disk.known, v1, v2, v3, .bool K.lead, .bool K.try_, .int .i64 K.bal, v4, v5, v6, .int .i64 K.heard]) := by
    show LBox _ _ _
    rw [hw]
    exact ((HXh.out).other (by omega) _ _)
  have HRi : Hid (OwnBlk wi (w.heap.size + 1) 52 18) := by
    show OwnBlk _ _ _ _
    rw [hw]
    exact ((HRh.out).sc_other (by omega) _ _)
  have HWi : Hid (OwnBlk wi (w.heap.size + 2) 52 18) := by
    show OwnBlk _ _ _ _
    rw [hw]
    exact ((HWh.out).setCell 10 _)
  have HOi : Hid (LBox wi (w.heap.size + 2) [.int .i64 K.num, .int .i64 K.of_, .bool K.up, .int .i64 K.safe.prom, .int .i64 K.safe.known, .slice (some ⟨p0, 0, none⟩) K.safe.slots.length K.safe.slots.length, .int .i64 K.disk.prom, .int .i64 K.disk.known, .slice (some ⟨p1, 0, none⟩) K.disk.slots.length K.disk.slots.length, .slice (some ⟨p2, 0, none⟩) K.held.length K.held.length, .slice (some ⟨p3, 0, none⟩) K.wish.length K.wish.length, .bool false, .bool false, .int .i64 0, .slice none 0 0, .slice none 0 0, .slice none 0 0, .int .i64 0]) := by
    show LBox _ _ _
    rw [hw]
    exact ((HOh.out).set HWh.out 10 (by omega) (.slice (some ⟨p3, 0, none⟩) K.wish.length K.wish.length))
  have HI0i : Hid (RssIn wi p0 K.safe.slots) := by
    show RssIn _ _ _
    rw [hw]
    exact ((HI0h.out).sc (by have := HP0.out; omega) _ _)
  have HI1i : Hid (RssIn wi p1 K.disk.slots) := by
    show RssIn _ _ _
    rw [hw]
    exact ((HI1h.out).sc (by have := HP1.out; omega) _ _)
  have HI2i : Hid (RmsIn wi p2 K.held) := by
    show RmsIn _ _ _
    rw [hw]
    exact ((HI2h.out).sc (by have := HP2.out; omega) _ _)
  have HI3i : Hid (TxsIn wi p3 K.wish) := by
    show TxsIn _ _ _
    rw [hw]
    exact ((HI3h.out).sc (by have := HP3.out; omega) _ _)
  have HZi : Hid (w.heap.size + 3 ≤ wi.heap.size) := by
    show _ ≤ _
    rw [hw]
    simpa only [sc_size] using HZh.out
  have hfz := HWh.out.frozen
  have hz := HWh.out.lt
  have d10 := HOh.out.get 10 (.slice none 0 0) rfl
  go_upto_region 9 with fail
  rw [← hw]
  clear hw hfz hz d10 HBh HXh HRh HWh HOh HZh HI0h HI1h HI2h HI3h
  obtain ⟨wj, hw⟩ : ∃ wj, wj = (((wi).setCell ⟨w.heap.size + 2, 11, none⟩ (.bool K.lead)).setCell ⟨w.heap.size + 2, 12, none⟩ (.bool K.try_)).setCell ⟨w.heap.size + 2, 13, none⟩ (.int .i64 K.bal) := ⟨_, rfl⟩
  have HBj : Hid (Below w.heap.size w wj) := by
    show Below _ _ _
    rw [hw]
    exact ((((((HBi.out).setCell (p := ⟨w.heap.size + 2, 11, none⟩) (by show w.heap.size ≤ w.heap.size + 2; omega) _)).setCell (p := ⟨w.heap.size + 2, 12, none⟩) (by show w.heap.size ≤ w.heap.size + 2; omega) _)).setCell (p := ⟨w.heap.size + 2, 13, none⟩) (by show w.heap.size ≤ w.heap.size + 2; omega) _)
  have HXj : Hid (LBox wj w.heap.size [.int .i64 K.num, .int .i64 K.of_, .bool K.up, .int .i64 K.safe.prom, .int .i64 K.safe.known, v0, .int .i64 K.disk.prom, .int .i64 K.disk.known, v1, v2, v3, .bool K.lead, .bool K.try_, .int .i64 K.bal, v4, v5, v6, .int .i64 K.heard]) := by
    show LBox _ _ _
    rw [hw]
    exact ((((((HXi.out).other (by omega) _ _)).other (by omega) _ _)).other (by omega) _ _)
  have HRj : Hid (OwnBlk wj (w.heap.size + 1) 52 18) := by
    show OwnBlk _ _ _ _
    rw [hw]
    exact ((((((HRi.out).sc_other (by omega) _ _)).sc_other (by omega) _ _)).sc_other (by omega) _ _)
  have HWj : Hid (OwnBlk wj (w.heap.size + 2) 52 18) := by
    show OwnBlk _ _ _ _
    rw [hw]
    exact ((((((HWi.out).setCell 11 _)).setCell 12 _)).setCell 13 _)
  have HOj : Hid (LBox wj (w.heap.size + 2) [.int .i64 K.num, .int .i64 K.of_, .bool K.up, .int .i64 K.safe.prom, .int .i64 K.safe.known, .slice (some ⟨p0, 0, none⟩) K.safe.slots.length K.safe.slots.length, .int .i64 K.disk.prom, .int .i64 K.disk.known, .slice (some ⟨p1, 0, none⟩) K.disk.slots.length K.disk.slots.length, .slice (some ⟨p2, 0, none⟩) K.held.length K.held.length, .slice (some ⟨p3, 0, none⟩) K.wish.length K.wish.length, .bool K.lead, .bool K.try_, .int .i64 K.bal, .slice none 0 0, .slice none 0 0, .slice none 0 0, .int .i64 0]) := by
    show LBox _ _ _
    rw [hw]
    exact ((((((HOi.out).set HWi.out 11 (by omega) (.bool K.lead))).set ((HWi.out).setCell 11 (.bool K.lead)) 12 (by omega) (.bool K.try_))).set ((((HWi.out).setCell 11 (.bool K.lead))).setCell 12 (.bool K.try_)) 13 (by omega) (.int .i64 K.bal))
  have HI0j : Hid (RssIn wj p0 K.safe.slots) := by
    show RssIn _ _ _
    rw [hw]
    exact ((((((HI0i.out).sc (by have := HP0.out; omega) _ _)).sc (by have := HP0.out; omega) _ _)).sc (by have := HP0.out; omega) _ _)
  have HI1j : Hid (RssIn wj p1 K.disk.slots) := by
    show RssIn _ _ _
    rw [hw]
    exact ((((((HI1i.out).sc (by have := HP1.out; omega) _ _)).sc (by have := HP1.out; omega) _ _)).sc (by have := HP1.out; omega) _ _)
  have HI2j : Hid (RmsIn wj p2 K.held) := by
    show RmsIn _ _ _
    rw [hw]
    exact ((((((HI2i.out).sc (by have := HP2.out; omega) _ _)).sc (by have := HP2.out; omega) _ _)).sc (by have := HP2.out; omega) _ _)
  have HI3j : Hid (TxsIn wj p3 K.wish) := by
    show TxsIn _ _ _
    rw [hw]
    exact ((((((HI3i.out).sc (by have := HP3.out; omega) _ _)).sc (by have := HP3.out; omega) _ _)).sc (by have := HP3.out; omega) _ _)
  have HZj : Hid (w.heap.size + 3 ≤ wj.heap.size) := by
    show _ ≤ _
    rw [hw]
    simpa only [sc_size] using HZi.out
  have hfz := HWi.out.frozen
  have hz := HWi.out.lt
  have d11 := HOi.out.get 11 (.bool false) rfl
  have d12 := HOi.out.get 12 (.bool false) rfl
  have d13 := HOi.out.get 13 (.int .i64 0) rfl
  have y11 := HXi.out.get 11 (.bool K.lead) rfl
  have y12 := HXi.out.get 12 (.bool K.try_) rfl
  have y13 := HXi.out.get 13 (.int .i64 K.bal) rfl
  have yz := HXi.out.lt
  go_upto_region 12 with fail
  rw [← hw]
  clear hw hfz hz d11 d12 d13 y11 y12 y13 yz HBi HXi HRi HWi HOi HZi HI0i HI1i HI2i HI3i
  have y0 := HXj.out.get 0 (.int .i64 K.num) rfl
  have y1 := HXj.out.get 1 (.int .i64 K.of_) rfl
  have y2 := HXj.out.get 2 (.bool K.up) rfl
  have y3 := HXj.out.get 3 (.int .i64 K.safe.prom) rfl
  have y4 := HXj.out.get 4 (.int .i64 K.safe.known) rfl
  have y5 := HXj.out.get 5 (v0) rfl
  have y6 := HXj.out.get 6 (.int .i64 K.disk.prom) rfl
  have y7 := HXj.out.get 7 (.int .i64 K.disk.known) rfl
  have y8 := HXj.out.get 8 (v1) rfl
  have y9 := HXj.out.get 9 (v2) rfl
  have y10 := HXj.out.get 10 (v3) rfl
  have y11 := HXj.out.get 11 (.bool K.lead) rfl
  have y12 := HXj.out.get 12 (.bool K.try_) rfl
  have y13 := HXj.out.get 13 (.int .i64 K.bal) rfl
  have y14 := HXj.out.get 14 (v4) rfl
  have y15 := HXj.out.get 15 (v5) rfl
  have y16 := HXj.out.get 16 (v6) rfl
  have y17 := HXj.out.get 17 (.int .i64 K.heard) rfl
  have yz := HXj.out.lt
  go_wp2_with fail
  refine (toNus v4 K.yes wj HH.out.2.s4 (HH.out.1.later HBj.out).l4).mono ?_
  rintro e wk ⟨rfl, hb, hi⟩
  obtain ⟨p4, hp⟩ : ∃ p4, p4 = wj.heap.size := ⟨_, rfl⟩
  rw [← hp] at hi ⊢
  have HP4 : Hid (w.heap.size + 3 ≤ p4) := by show _ ≤ _; rw [hp]; exact HZj.out
  have HI4k := hidR hi
  clear hp
  have HBk := hidR (blw_trans HBj.out hb)
  have HXk := hidR (HXj.out.later hb)
  have HRk := hidR (HRj.out.later hb)
  have HWk := hidR (HWj.out.later hb)
  have HOk := hidR (HOj.out.later hb)
  have HZk : Hid (w.heap.size + 3 ≤ wk.heap.size) := Nat.le_trans HZj.out hb.size
  have HI0k := hidR (HI0j.out.later hb)
  have HI1k := hidR (HI1j.out.later hb)
  have HI2k := hidR (HI2j.out.later hb)
  have HI3k := hidR (HI3j.out.later hb)
  clear hi hb yz y0 y1 y2 y3 y4 y5 y6 y7 y8 y9 y10 y11 y12 y13 y14 y15 y16 y17 HBj HXj HRj HWj HOj HZj HI0j HI1j HI2j HI3j
  obtain ⟨wl, hw⟩ : ∃ wl, wl = (wk).setCell ⟨w.heap.size + 2, 14, none⟩ (.slice (some ⟨p4, 0, none⟩) K.yes.length K.yes.length) := ⟨_, rfl⟩
  have HBl : Hid (Below w.heap.size w wl) := by
    show Below _ _ _
    rw [hw]
    exact ((HBk.out).setCell (p := ⟨w.heap.size + 2, 14, none⟩) (by show w.heap.size ≤ w.heap.size + 2; omega) _)
  have HXl : Hid (LBox wl w.heap.size [.int .i64 K.num, .int .i64 K.of_, .bool K.up, .int .i64 K.safe.prom, .int .i64 K.safe.known, v0, .int .i64 K.disk.prom, .int .i64 K.disk.known, v1, v2, v3, .bool K.lead, .bool K.try_, .int .i64 K.bal, v4, v5, v6, .int .i64 K.heard]) := by
    show LBox _ _ _
    rw [hw]
    exact ((HXk.out).other (by omega) _ _)
  have HRl : Hid (OwnBlk wl (w.heap.size + 1) 52 18) := by
    show OwnBlk _ _ _ _
    rw [hw]
    exact ((HRk.out).sc_other (by omega) _ _)
  have HWl : Hid (OwnBlk wl (w.heap.size + 2) 52 18) := by
    show OwnBlk _ _ _ _
    rw [hw]
    exact ((HWk.out).setCell 14 _)
  have HOl : Hid (LBox wl (w.heap.size + 2) [.int .i64 K.num, .int .i64 K.of_, .bool K.up, .int .i64 K.safe.prom, .int .i64 K.safe.known, .slice (some ⟨p0, 0, none⟩) K.safe.slots.length K.safe.slots.length, .int .i64 K.disk.prom, .int .i64 K.disk.known, .slice (some ⟨p1, 0, none⟩) K.disk.slots.length K.disk.slots.length, .slice (some ⟨p2, 0, none⟩) K.held.length K.held.length, .slice (some ⟨p3, 0, none⟩) K.wish.length K.wish.length, .bool K.lead, .bool K.try_, .int .i64 K.bal, .slice (some ⟨p4, 0, none⟩) K.yes.length K.yes.length, .slice none 0 0, .slice none 0 0, .int .i64 0]) := by
    show LBox _ _ _
    rw [hw]
    exact ((HOk.out).set HWk.out 14 (by omega) (.slice (some ⟨p4, 0, none⟩) K.yes.length K.yes.length))
  have HI0l : Hid (RssIn wl p0 K.safe.slots) := by
    show RssIn _ _ _
    rw [hw]
    exact ((HI0k.out).sc (by have := HP0.out; omega) _ _)
  have HI1l : Hid (RssIn wl p1 K.disk.slots) := by
    show RssIn _ _ _
    rw [hw]
    exact ((HI1k.out).sc (by have := HP1.out; omega) _ _)
  have HI2l : Hid (RmsIn wl p2 K.held) := by
    show RmsIn _ _ _
    rw [hw]
    exact ((HI2k.out).sc (by have := HP2.out; omega) _ _)
  have HI3l : Hid (TxsIn wl p3 K.wish) := by
    show TxsIn _ _ _
    rw [hw]
    exact ((HI3k.out).sc (by have := HP3.out; omega) _ _)
  have HI4l : Hid (NusIn wl p4 K.yes) := by
    show NusIn _ _ _
    rw [hw]
    exact ((HI4k.out).sc (by have := HP4.out; omega) _ _)
  have HZl : Hid (w.heap.size + 3 ≤ wl.heap.size) := by
    show _ ≤ _
    rw [hw]
    simpa only [sc_size] using HZk.out
  have hfz := HWk.out.frozen
  have hz := HWk.out.lt
  have d14 := HOk.out.get 14 (.slice none 0 0) rfl
  go_upto_region 13 with fail
  rw [← hw]
  clear hw hfz hz d14 HBk HXk HRk HWk HOk HZk HI0k HI1k HI2k HI3k HI4k
  have y0 := HXl.out.get 0 (.int .i64 K.num) rfl
  have y1 := HXl.out.get 1 (.int .i64 K.of_) rfl
  have y2 := HXl.out.get 2 (.bool K.up) rfl
  have y3 := HXl.out.get 3 (.int .i64 K.safe.prom) rfl
  have y4 := HXl.out.get 4 (.int .i64 K.safe.known) rfl
  have y5 := HXl.out.get 5 (v0) rfl
  have y6 := HXl.out.get 6 (.int .i64 K.disk.prom) rfl
  have y7 := HXl.out.get 7 (.int .i64 K.disk.known) rfl
  have y8 := HXl.out.get 8 (v1) rfl
  have y9 := HXl.out.get 9 (v2) rfl
  have y10 := HXl.out.get 10 (v3) rfl
  have y11 := HXl.out.get 11 (.bool K.lead) rfl
  have y12 := HXl.out.get 12 (.bool K.try_) rfl
  have y13 := HXl.out.get 13 (.int .i64 K.bal) rfl
  have y14 := HXl.out.get 14 (v4) rfl
  have y15 := HXl.out.get 15 (v5) rfl
  have y16 := HXl.out.get 16 (v6) rfl
  have y17 := HXl.out.get 17 (.int .i64 K.heard) rfl
  have yz := HXl.out.lt
  go_wp2_with fail
  refine (toRss v5 K.best wl HH.out.2.s5 (HH.out.1.later HBl.out).l5).mono ?_
  rintro e wm ⟨rfl, hb, hi⟩
  obtain ⟨p5, hp⟩ : ∃ p5, p5 = wl.heap.size := ⟨_, rfl⟩
  rw [← hp] at hi ⊢
  have HP5 : Hid (w.heap.size + 3 ≤ p5) := by show _ ≤ _; rw [hp]; exact HZl.out
  have HI5m := hidR hi
  clear hp
  have HBm := hidR (blw_trans HBl.out hb)
  have HXm := hidR (HXl.out.later hb)
  have HRm := hidR (HRl.out.later hb)
  have HWm := hidR (HWl.out.later hb)
  have HOm := hidR (HOl.out.later hb)
  have HZm : Hid (w.heap.size + 3 ≤ wm.heap.size) := Nat.le_trans HZl.out hb.size
  have HI0m := hidR (HI0l.out.later hb)
  have HI1m := hidR (HI1l.out.later hb)
  have HI2m := hidR (HI2l.out.later hb)
  have HI3m := hidR (HI3l.out.later hb)
  have HI4m := hidR (HI4l.out.later hb)
  clear hi hb yz y0 y1 y2 y3 y4 y5 y6 y7 y8 y9 y10 y11 y12 y13 y14 y15 y16 y17 HBl HXl HRl HWl HOl HZl HI0l HI1l HI2l HI3l HI4l
  obtain ⟨wn, hw⟩ : ∃ wn, wn = (wm).setCell ⟨w.heap.size + 2, 15, none⟩ (.slice (some ⟨p5, 0, none⟩) K.best.length K.best.length) := ⟨_, rfl⟩
  have HBn : Hid (Below w.heap.size w wn) := by
    show Below _ _ _
    rw [hw]
    exact ((HBm.out).setCell (p := ⟨w.heap.size + 2, 15, none⟩) (by show w.heap.size ≤ w.heap.size + 2; omega) _)
  have HXn : Hid (LBox wn w.heap.size [.int .i64 K.num, .int .i64 K.of_, .bool K.up, .int .i64 K.safe.prom, .int .i64 K.safe.known, v0, .int .i64 K.disk.prom, .int .i64 K.disk.known, v1, v2, v3, .bool K.lead, .bool K.try_, .int .i64 K.bal, v4, v5, v6, .int .i64 K.heard]) := by
    show LBox _ _ _
    rw [hw]
    exact ((HXm.out).other (by omega) _ _)
  have HRn : Hid (OwnBlk wn (w.heap.size + 1) 52 18) := by
    show OwnBlk _ _ _ _
    rw [hw]
    exact ((HRm.out).sc_other (by omega) _ _)
  have HWn : Hid (OwnBlk wn (w.heap.size + 2) 52 18) := by
    show OwnBlk _ _ _ _
    rw [hw]
    exact ((HWm.out).setCell 15 _)
  have HOn : Hid (LBox wn (w.heap.size + 2) [.int .i64 K.num, .int .i64 K.of_, .bool K.up, .int .i64 K.safe.prom, .int .i64 K.safe.known, .slice (some ⟨p0, 0, none⟩) K.safe.slots.length K.safe.slots.length, .int .i64 K.disk.prom, .int .i64 K.disk.known, .slice (some ⟨p1, 0, none⟩) K.disk.slots.length K.disk.slots.length, .slice (some ⟨p2, 0, none⟩) K.held.length K.held.length, .slice (some ⟨p3, 0, none⟩) K.wish.length K.wish.length, .bool K.lead, .bool K.try_, .int .i64 K.bal, .slice (some ⟨p4, 0, none⟩) K.yes.length K.yes.length, .slice (some ⟨p5, 0, none⟩) K.best.length K.best.length, .slice none 0 0, .int .i64 0]) := by
    show LBox _ _ _
    rw [hw]
    exact ((HOm.out).set HWm.out 15 (by omega) (.slice (some ⟨p5, 0, none⟩) K.best.length K.best.length))
  have HI0n : Hid (RssIn wn p0 K.safe.slots) := by
    show RssIn _ _ _
    rw [hw]
    exact ((HI0m.out).sc (by have := HP0.out; omega) _ _)
  have HI1n : Hid (RssIn wn p1 K.disk.slots) := by
    show RssIn _ _ _
    rw [hw]
    exact ((HI1m.out).sc (by have := HP1.out; omega) _ _)
  have HI2n : Hid (RmsIn wn p2 K.held) := by
    show RmsIn _ _ _
    rw [hw]
    exact ((HI2m.out).sc (by have := HP2.out; omega) _ _)
  have HI3n : Hid (TxsIn wn p3 K.wish) := by
    show TxsIn _ _ _
    rw [hw]
    exact ((HI3m.out).sc (by have := HP3.out; omega) _ _)
  have HI4n : Hid (NusIn wn p4 K.yes) := by
    show NusIn _ _ _
    rw [hw]
    exact ((HI4m.out).sc (by have := HP4.out; omega) _ _)
  have HI5n : Hid (RssIn wn p5 K.best) := by
    show RssIn _ _ _
    rw [hw]
    exact ((HI5m.out).sc (by have := HP5.out; omega) _ _)
  have HZn : Hid (w.heap.size + 3 ≤ wn.heap.size) := by
    show _ ≤ _
    rw [hw]
    simpa only [sc_size] using HZm.out
  have hfz := HWm.out.frozen
  have hz := HWm.out.lt
  have d15 := HOm.out.get 15 (.slice none 0 0) rfl
  go_upto_region 14 with fail
  rw [← hw]
  clear hw hfz hz d15 HBm HXm HRm HWm HOm HZm HI0m HI1m HI2m HI3m HI4m HI5m
  have y0 := HXn.out.get 0 (.int .i64 K.num) rfl
  have y1 := HXn.out.get 1 (.int .i64 K.of_) rfl
  have y2 := HXn.out.get 2 (.bool K.up) rfl
  have y3 := HXn.out.get 3 (.int .i64 K.safe.prom) rfl
  have y4 := HXn.out.get 4 (.int .i64 K.safe.known) rfl
  have y5 := HXn.out.get 5 (v0) rfl
  have y6 := HXn.out.get 6 (.int .i64 K.disk.prom) rfl
  have y7 := HXn.out.get 7 (.int .i64 K.disk.known) rfl
  have y8 := HXn.out.get 8 (v1) rfl
  have y9 := HXn.out.get 9 (v2) rfl
  have y10 := HXn.out.get 10 (v3) rfl
  have y11 := HXn.out.get 11 (.bool K.lead) rfl
  have y12 := HXn.out.get 12 (.bool K.try_) rfl
  have y13 := HXn.out.get 13 (.int .i64 K.bal) rfl
  have y14 := HXn.out.get 14 (v4) rfl
  have y15 := HXn.out.get 15 (v5) rfl
  have y16 := HXn.out.get 16 (v6) rfl
  have y17 := HXn.out.get 17 (.int .i64 K.heard) rfl
  have yz := HXn.out.lt
  go_wp2_with fail
  refine (toRas v6 K.acks wn HH.out.2.s6 HH.out.2.m6 (HH.out.1.later HBn.out).l6).mono ?_
  rintro e wo ⟨rfl, hb, hi⟩
  obtain ⟨p6, hp⟩ : ∃ p6, p6 = wn.heap.size := ⟨_, rfl⟩
  rw [← hp] at hi ⊢
  have HP6 : Hid (w.heap.size + 3 ≤ p6) := by show _ ≤ _; rw [hp]; exact HZn.out
  have HI6o := hidR hi
  clear hp
  have HBo := hidR (blw_trans HBn.out hb)
  have HXo := hidR (HXn.out.later hb)
  have HRo := hidR (HRn.out.later hb)
  have HWo := hidR (HWn.out.later hb)
  have HOo := hidR (HOn.out.later hb)
  have HZo : Hid (w.heap.size + 3 ≤ wo.heap.size) := Nat.le_trans HZn.out hb.size
  have HI0o := hidR (HI0n.out.later hb)
  have HI1o := hidR (HI1n.out.later hb)
  have HI2o := hidR (HI2n.out.later hb)
  have HI3o := hidR (HI3n.out.later hb)
  have HI4o := hidR (HI4n.out.later hb)
  have HI5o := hidR (HI5n.out.later hb)
  clear hi hb yz y0 y1 y2 y3 y4 y5 y6 y7 y8 y9 y10 y11 y12 y13 y14 y15 y16 y17 HBn HXn HRn HWn HOn HZn HI0n HI1n HI2n HI3n HI4n HI5n
  obtain ⟨wp, hw⟩ : ∃ wp, wp = (wo).setCell ⟨w.heap.size + 2, 16, none⟩ (.slice (some ⟨p6, 0, none⟩) K.acks.length K.acks.length) := ⟨_, rfl⟩
  have HBp : Hid (Below w.heap.size w wp) := by
    show Below _ _ _
    rw [hw]
    exact ((HBo.out).setCell (p := ⟨w.heap.size + 2, 16, none⟩) (by show w.heap.size ≤ w.heap.size + 2; omega) _)
  have HXp : Hid (LBox wp w.heap.size [.int .i64 K.num, .int .i64 K.of_, .bool K.up, .int .i64 K.safe.prom, .int .i64 K.safe.known, v0, .int .i64 K.disk.prom, .int .i64 K.disk.known, v1, v2, v3, .bool K.lead, .bool K.try_, .int .i64 K.bal, v4, v5, v6, .int .i64 K.heard]) := by
    show LBox _ _ _
    rw [hw]
    exact ((HXo.out).other (by omega) _ _)
  have HRp : Hid (OwnBlk wp (w.heap.size + 1) 52 18) := by
    show OwnBlk _ _ _ _
    rw [hw]
    exact ((HRo.out).sc_other (by omega) _ _)
  have HWp : Hid (OwnBlk wp (w.heap.size + 2) 52 18) := by
    show OwnBlk _ _ _ _
    rw [hw]
    exact ((HWo.out).setCell 16 _)
  have HOp : Hid (LBox wp (w.heap.size + 2) [.int .i64 K.num, .int .i64 K.of_, .bool K.up, .int .i64 K.safe.prom, .int .i64 K.safe.known, .slice (some ⟨p0, 0, none⟩) K.safe.slots.length K.safe.slots.length, .int .i64 K.disk.prom, .int .i64 K.disk.known, .slice (some ⟨p1, 0, none⟩) K.disk.slots.length K.disk.slots.length, .slice (some ⟨p2, 0, none⟩) K.held.length K.held.length, .slice (some ⟨p3, 0, none⟩) K.wish.length K.wish.length, .bool K.lead, .bool K.try_, .int .i64 K.bal, .slice (some ⟨p4, 0, none⟩) K.yes.length K.yes.length, .slice (some ⟨p5, 0, none⟩) K.best.length K.best.length, .slice (some ⟨p6, 0, none⟩) K.acks.length K.acks.length, .int .i64 0]) := by
    show LBox _ _ _
    rw [hw]
    exact ((HOo.out).set HWo.out 16 (by omega) (.slice (some ⟨p6, 0, none⟩) K.acks.length K.acks.length))
  have HI0p : Hid (RssIn wp p0 K.safe.slots) := by
    show RssIn _ _ _
    rw [hw]
    exact ((HI0o.out).sc (by have := HP0.out; omega) _ _)
  have HI1p : Hid (RssIn wp p1 K.disk.slots) := by
    show RssIn _ _ _
    rw [hw]
    exact ((HI1o.out).sc (by have := HP1.out; omega) _ _)
  have HI2p : Hid (RmsIn wp p2 K.held) := by
    show RmsIn _ _ _
    rw [hw]
    exact ((HI2o.out).sc (by have := HP2.out; omega) _ _)
  have HI3p : Hid (TxsIn wp p3 K.wish) := by
    show TxsIn _ _ _
    rw [hw]
    exact ((HI3o.out).sc (by have := HP3.out; omega) _ _)
  have HI4p : Hid (NusIn wp p4 K.yes) := by
    show NusIn _ _ _
    rw [hw]
    exact ((HI4o.out).sc (by have := HP4.out; omega) _ _)
  have HI5p : Hid (RssIn wp p5 K.best) := by
    show RssIn _ _ _
    rw [hw]
    exact ((HI5o.out).sc (by have := HP5.out; omega) _ _)
  have HI6p : Hid (RasIn wp p6 K.acks) := by
    show RasIn _ _ _
    rw [hw]
    exact ((HI6o.out).sc (by have := HP6.out; omega) _ _)
  have HZp : Hid (w.heap.size + 3 ≤ wp.heap.size) := by
    show _ ≤ _
    rw [hw]
    simpa only [sc_size] using HZo.out
  have hfz := HWo.out.frozen
  have hz := HWo.out.lt
  have d16 := HOo.out.get 16 (.slice none 0 0) rfl
  go_upto_region 15 with fail
  rw [← hw]
  clear hw hfz hz d16 HBo HXo HRo HWo HOo HZo HI0o HI1o HI2o HI3o HI4o HI5o HI6o
  obtain ⟨wq, hw⟩ : ∃ wq, wq = (wp).setCell ⟨w.heap.size + 2, 17, none⟩ (.int .i64 K.heard) := ⟨_, rfl⟩
  have HBq : Hid (Below w.heap.size w wq) := by
    show Below _ _ _
    rw [hw]
    exact ((HBp.out).setCell (p := ⟨w.heap.size + 2, 17, none⟩) (by show w.heap.size ≤ w.heap.size + 2; omega) _)
  have HXq : Hid (LBox wq w.heap.size [.int .i64 K.num, .int .i64 K.of_, .bool K.up, .int .i64 K.safe.prom, .int .i64 K.safe.known, v0, .int .i64 K.disk.prom, .int .i64 K.disk.known, v1, v2, v3, .bool K.lead, .bool K.try_, .int .i64 K.bal, v4, v5, v6, .int .i64 K.heard]) := by
    show LBox _ _ _
    rw [hw]
    exact ((HXp.out).other (by omega) _ _)
  have HRq : Hid (OwnBlk wq (w.heap.size + 1) 52 18) := by
    show OwnBlk _ _ _ _
    rw [hw]
    exact ((HRp.out).sc_other (by omega) _ _)
  have HWq : Hid (OwnBlk wq (w.heap.size + 2) 52 18) := by
    show OwnBlk _ _ _ _
    rw [hw]
    exact ((HWp.out).setCell 17 _)
  have HOq : Hid (LBox wq (w.heap.size + 2) [.int .i64 K.num, .int .i64 K.of_, .bool K.up, .int .i64 K.safe.prom, .int .i64 K.safe.known, .slice (some ⟨p0, 0, none⟩) K.safe.slots.length K.safe.slots.length, .int .i64 K.disk.prom, .int .i64 K.disk.known, .slice (some ⟨p1, 0, none⟩) K.disk.slots.length K.disk.slots.length, .slice (some ⟨p2, 0, none⟩) K.held.length K.held.length, .slice (some ⟨p3, 0, none⟩) K.wish.length K.wish.length, .bool K.lead, .bool K.try_, .int .i64 K.bal, .slice (some ⟨p4, 0, none⟩) K.yes.length K.yes.length, .slice (some ⟨p5, 0, none⟩) K.best.length K.best.length, .slice (some ⟨p6, 0, none⟩) K.acks.length K.acks.length, .int .i64 K.heard]) := by
    show LBox _ _ _
    rw [hw]
    exact ((HOp.out).set HWp.out 17 (by omega) (.int .i64 K.heard))
  have HI0q : Hid (RssIn wq p0 K.safe.slots) := by
    show RssIn _ _ _
    rw [hw]
    exact ((HI0p.out).sc (by have := HP0.out; omega) _ _)
  have HI1q : Hid (RssIn wq p1 K.disk.slots) := by
    show RssIn _ _ _
    rw [hw]
    exact ((HI1p.out).sc (by have := HP1.out; omega) _ _)
  have HI2q : Hid (RmsIn wq p2 K.held) := by
    show RmsIn _ _ _
    rw [hw]
    exact ((HI2p.out).sc (by have := HP2.out; omega) _ _)
  have HI3q : Hid (TxsIn wq p3 K.wish) := by
    show TxsIn _ _ _
    rw [hw]
    exact ((HI3p.out).sc (by have := HP3.out; omega) _ _)
  have HI4q : Hid (NusIn wq p4 K.yes) := by
    show NusIn _ _ _
    rw [hw]
    exact ((HI4p.out).sc (by have := HP4.out; omega) _ _)
  have HI5q : Hid (RssIn wq p5 K.best) := by
    show RssIn _ _ _
    rw [hw]
    exact ((HI5p.out).sc (by have := HP5.out; omega) _ _)
  have HI6q : Hid (RasIn wq p6 K.acks) := by
    show RasIn _ _ _
    rw [hw]
    exact ((HI6p.out).sc (by have := HP6.out; omega) _ _)
  have HZq : Hid (w.heap.size + 3 ≤ wq.heap.size) := by
    show _ ≤ _
    rw [hw]
    simpa only [sc_size] using HZp.out
  have hfz := HWp.out.frozen
  have hz := HWp.out.lt
  have d17 := HOp.out.get 17 (.int .i64 0) rfl
  have y17 := HXp.out.get 17 (.int .i64 K.heard) rfl
  have yz := HXp.out.lt
  go_upto_region 16 with fail
  rw [← hw]
  clear hw hfz hz d17 y17 yz HBp HXp HRp HWp HOp HZp HI0p HI1p HI2p HI3p HI4p HI5p HI6p
  have hth := RY.own_there HRq.out
  have hrt : World.rangeAt (wq.setCells (w.heap.size + 1) 0 [.int .i64 K.num, .int .i64 K.of_, .bool K.up, .int .i64 K.safe.prom, .int .i64 K.safe.known, .slice (some ⟨p0, 0, none⟩) K.safe.slots.length K.safe.slots.length, .int .i64 K.disk.prom, .int .i64 K.disk.known, .slice (some ⟨p1, 0, none⟩) K.disk.slots.length K.disk.slots.length, .slice (some ⟨p2, 0, none⟩) K.held.length K.held.length, .slice (some ⟨p3, 0, none⟩) K.wish.length K.wish.length, .bool K.lead, .bool K.try_, .int .i64 K.bal, .slice (some ⟨p4, 0, none⟩) K.yes.length K.yes.length, .slice (some ⟨p5, 0, none⟩) K.best.length K.best.length, .slice (some ⟨p6, 0, none⟩) K.acks.length K.acks.length, .int .i64 K.heard]) (w.heap.size + 1) 0 [.int .i64 K.num, .int .i64 K.of_, .bool K.up, .int .i64 K.safe.prom, .int .i64 K.safe.known, .slice (some ⟨p0, 0, none⟩) K.safe.slots.length K.safe.slots.length, .int .i64 K.disk.prom, .int .i64 K.disk.known, .slice (some ⟨p1, 0, none⟩) K.disk.slots.length K.disk.slots.length, .slice (some ⟨p2, 0, none⟩) K.held.length K.held.length, .slice (some ⟨p3, 0, none⟩) K.wish.length K.wish.length, .bool K.lead, .bool K.try_, .int .i64 K.bal, .slice (some ⟨p4, 0, none⟩) K.yes.length K.yes.length, .slice (some ⟨p5, 0, none⟩) K.best.length K.best.length, .slice (some ⟨p6, 0, none⟩) K.acks.length K.acks.length, .int .i64 K.heard] := World.rangeAt_setCells_same _ _ _ _ hth
  have hsc : ∀ (W : World) (j : Nat) (v : Value), RrIn W p0 p1 p2 p3 p4 p5 p6 K → RrIn (W.setCell ⟨w.heap.size + 1, j, none⟩ v) p0 p1 p2 p3 p4 p5 p6 K := fun W j v hh => ⟨hh.l0.sc (by have := HP0.out; omega) _ _, hh.l1.sc (by have := HP1.out; omega) _ _, hh.l2.sc (by have := HP2.out; omega) _ _, hh.l3.sc (by have := HP3.out; omega) _ _, hh.l4.sc (by have := HP4.out; omega) _ _, hh.l5.sc (by have := HP5.out; omega) _ _, hh.l6.sc (by have := HP6.out; omega) _ _⟩
  have hsl : ∀ (l : List Value) (W : World) (j : Nat), RrIn W p0 p1 p2 p3 p4 p5 p6 K → RrIn (W.setCells (w.heap.size + 1) j l) p0 p1 p2 p3 p4 p5 p6 K := by
    intro l
    induction l with
    | nil => intro W j hh; exact hh
    | cons v l ih => intro W j hh; exact ih _ _ (hsc W j v hh)
  have HF : Hid (RrIn (wq.setCells (w.heap.size + 1) 0 [.int .i64 K.num, .int .i64 K.of_, .bool K.up, .int .i64 K.safe.prom, .int .i64 K.safe.known, .slice (some ⟨p0, 0, none⟩) K.safe.slots.length K.safe.slots.length, .int .i64 K.disk.prom, .int .i64 K.disk.known, .slice (some ⟨p1, 0, none⟩) K.disk.slots.length K.disk.slots.length, .slice (some ⟨p2, 0, none⟩) K.held.length K.held.length, .slice (some ⟨p3, 0, none⟩) K.wish.length K.wish.length, .bool K.lead, .bool K.try_, .int .i64 K.bal, .slice (some ⟨p4, 0, none⟩) K.yes.length K.yes.length, .slice (some ⟨p5, 0, none⟩) K.best.length K.best.length, .slice (some ⟨p6, 0, none⟩) K.acks.length K.acks.length, .int .i64 K.heard]) p0 p1 p2 p3 p4 p5 p6 K ∧ Below w.heap.size w (wq.setCells (w.heap.size + 1) 0 [.int .i64 K.num, .int .i64 K.of_, .bool K.up, .int .i64 K.safe.prom, .int .i64 K.safe.known, .slice (some ⟨p0, 0, none⟩) K.safe.slots.length K.safe.slots.length, .int .i64 K.disk.prom, .int .i64 K.disk.known, .slice (some ⟨p1, 0, none⟩) K.disk.slots.length K.disk.slots.length, .slice (some ⟨p2, 0, none⟩) K.held.length K.held.length, .slice (some ⟨p3, 0, none⟩) K.wish.length K.wish.length, .bool K.lead, .bool K.try_, .int .i64 K.bal, .slice (some ⟨p4, 0, none⟩) K.yes.length K.yes.length, .slice (some ⟨p5, 0, none⟩) K.best.length K.best.length, .slice (some ⟨p6, 0, none⟩) K.acks.length K.acks.length, .int .i64 K.heard])) :=
    ⟨hsl _ _ _ ⟨HI0q.out, HI1q.out, HI2q.out, HI3q.out, HI4q.out, HI5q.out, HI6q.out⟩, puts_below (a := w) 0 (B := w.heap.size + 1) (by omega) [.int .i64 K.num, .int .i64 K.of_, .bool K.up, .int .i64 K.safe.prom, .int .i64 K.safe.known, .slice (some ⟨p0, 0, none⟩) K.safe.slots.length K.safe.slots.length, .int .i64 K.disk.prom, .int .i64 K.disk.known, .slice (some ⟨p1, 0, none⟩) K.disk.slots.length K.disk.slots.length, .slice (some ⟨p2, 0, none⟩) K.held.length K.held.length, .slice (some ⟨p3, 0, none⟩) K.wish.length K.wish.length, .bool K.lead, .bool K.try_, .int .i64 K.bal, .slice (some ⟨p4, 0, none⟩) K.yes.length K.yes.length, .slice (some ⟨p5, 0, none⟩) K.best.length K.best.length, .slice (some ⟨p6, 0, none⟩) K.acks.length K.acks.length, .int .i64 K.heard] wq 0 HBq.out⟩
  clear hsc hsl
  go_wp2_with (first | (refine wpList_load_mid rfl 52 _ rfl (w.heap.size + 2) 0 rfl [.int .i64 K.num, .int .i64 K.of_, .bool K.up, .int .i64 K.safe.prom, .int .i64 K.safe.known, .slice (some ⟨p0, 0, none⟩) K.safe.slots.length K.safe.slots.length, .int .i64 K.disk.prom, .int .i64 K.disk.known, .slice (some ⟨p1, 0, none⟩) K.disk.slots.length K.disk.slots.length, .slice (some ⟨p2, 0, none⟩) K.held.length K.held.length, .slice (some ⟨p3, 0, none⟩) K.wish.length K.wish.length, .bool K.lead, .bool K.try_, .int .i64 K.bal, .slice (some ⟨p4, 0, none⟩) K.yes.length K.yes.length, .slice (some ⟨p5, 0, none⟩) K.best.length K.best.length, .slice (some ⟨p6, 0, none⟩) K.acks.length K.acks.length, .int .i64 K.heard] _ HOq.out.at_ Try.underlying52 rfl (by kernel_rfl) ?_) | (refine wpList_store_mid rfl 52 _ _ rfl (w.heap.size + 1) 0 #[.int .i64 K.num, .int .i64 K.of_, .bool K.up, .int .i64 K.safe.prom, .int .i64 K.safe.known, .slice (some ⟨p0, 0, none⟩) K.safe.slots.length K.safe.slots.length, .int .i64 K.disk.prom, .int .i64 K.disk.known, .slice (some ⟨p1, 0, none⟩) K.disk.slots.length K.disk.slots.length, .slice (some ⟨p2, 0, none⟩) K.held.length K.held.length, .slice (some ⟨p3, 0, none⟩) K.wish.length K.wish.length, .bool K.lead, .bool K.try_, .int .i64 K.bal, .slice (some ⟨p4, 0, none⟩) K.yes.length K.yes.length, .slice (some ⟨p5, 0, none⟩) K.best.length K.best.length, .slice (some ⟨p6, 0, none⟩) K.acks.length K.acks.length, .int .i64 K.heard] rfl rfl hth (by kernel_rfl) (by simp [Value.oneCell']) ?_))
  simp only [Act.put]
  refine bodyPost_ret (v := .agg #[.int .i64 K.num, .int .i64 K.of_, .bool K.up, .int .i64 K.safe.prom, .int .i64 K.safe.known, .slice (some ⟨p0, 0, none⟩) K.safe.slots.length K.safe.slots.length, .int .i64 K.disk.prom, .int .i64 K.disk.known, .slice (some ⟨p1, 0, none⟩) K.disk.slots.length K.disk.slots.length, .slice (some ⟨p2, 0, none⟩) K.held.length K.held.length, .slice (some ⟨p3, 0, none⟩) K.wish.length K.wish.length, .bool K.lead, .bool K.try_, .int .i64 K.bal, .slice (some ⟨p4, 0, none⟩) K.yes.length K.yes.length, .slice (some ⟨p5, 0, none⟩) K.best.length K.best.length, .slice (some ⟨p6, 0, none⟩) K.acks.length K.acks.length, .int .i64 K.heard]) (by simp [results, Try.results49, asAddr, run_loadVar_mid (P := Try.prog) _ _ _ 52 [.int .i64 K.num, .int .i64 K.of_, .bool K.up, .int .i64 K.safe.prom, .int .i64 K.safe.known, .slice (some ⟨p0, 0, none⟩) K.safe.slots.length K.safe.slots.length, .int .i64 K.disk.prom, .int .i64 K.disk.known, .slice (some ⟨p1, 0, none⟩) K.disk.slots.length K.disk.slots.length, .slice (some ⟨p2, 0, none⟩) K.held.length K.held.length, .slice (some ⟨p3, 0, none⟩) K.wish.length K.wish.length, .bool K.lead, .bool K.try_, .int .i64 K.bal, .slice (some ⟨p4, 0, none⟩) K.yes.length K.yes.length, .slice (some ⟨p5, 0, none⟩) K.best.length K.best.length, .slice (some ⟨p6, 0, none⟩) K.acks.length K.acks.length, .int .i64 K.heard] _ hrt Try.underlying52 rfl (by kernel_rfl)]) rfl ⟨⟨p0, p1, p2, p3, p4, p5, p6, rfl, HF.out.1, by have := HP0.out; omega, by have := HP1.out; omega, by have := HP2.out; omega, by have := HP3.out; omega, by have := HP4.out; omega, by have := HP5.out; omega, by have := HP6.out; omega⟩, HF.out.2⟩

end Go.Proofs.Ytcefgacmagobnaa
