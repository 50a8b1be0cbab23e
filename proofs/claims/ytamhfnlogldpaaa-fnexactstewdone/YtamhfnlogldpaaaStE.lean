/-
  Stewards: counting, by the specification.
-/
import Derived.Test.YtamhfnlogldpaaaCls
import Derived.Test.YtamhfnlogldpaaaStB
namespace Go.Proofs.Ytamhfnlogldpaaa
open Go.RowKit Go.Deep

structure Cn where
  live : Int
  ready : Int
  old : Int
  failed : Int
  ending : Int
def Cn.zero : Cn := ⟨0, 0, 0, 0, 0⟩
def bit (b : Bool) : Int := if b then 1 else 0
def Cn.add (n : Cn) (svc : ByteArray) (img : Int) (c : Cp) : Cn :=
  if same c.svc svc then (if c.ending then ⟨n.live, n.ready, n.old, n.failed, n.ending + 1⟩ else ⟨n.live + 1, n.ready + bit (c.state == 3), n.old + bit (c.image != img), n.failed + bit (c.state == 4), n.ending⟩) else n
def cnTo (l : List Cp) (svc : ByteArray) (img : Int) : Nat → Cn
  | 0 => Cn.zero
  | k + 1 => (cnTo l svc img k).add svc img (l.getD k Cp.none)
def countOf (K : SBk) (svc : ByteArray) : Cn := if 0 ≤ svIx K.svcs svc then cnTo K.cps svc (svGet K.svcs (svIx K.svcs svc)).image K.cps.length else Cn.zero
def Cn.le (n : Cn) (k : Nat) : Prop := (0 ≤ n.live ∧ n.live ≤ k) ∧ (0 ≤ n.ready ∧ n.ready ≤ k) ∧ (0 ≤ n.old ∧ n.old ≤ k) ∧ (0 ≤ n.failed ∧ n.failed ≤ k) ∧ (0 ≤ n.ending ∧ n.ending ≤ k)
theorem bit_le (b : Bool) : 0 ≤ bit b ∧ bit b ≤ 1 := by cases b <;> simp [bit]
theorem Cn.add_le {n : Cn} {k : Nat} (h : n.le k) (svc : ByteArray) (img : Int) (c : Cp) : (n.add svc img c).le (k + 1) := by
  obtain ⟨h0, h1, h2, h3, h4⟩ := h
  have b1 := bit_le (c.state == 3)
  have b2 := bit_le (c.image != img)
  have b3 := bit_le (c.state == 4)
  unfold Cn.add
  split
  · split
    · refine ⟨?_, ?_, ?_, ?_, ?_⟩ <;> simp only <;> omega
    · refine ⟨?_, ?_, ?_, ?_, ?_⟩ <;> simp only <;> omega
  · refine ⟨?_, ?_, ?_, ?_, ?_⟩ <;> omega
theorem cnTo_le (l : List Cp) (svc : ByteArray) (img : Int) : ∀ k, (cnTo l svc img k).le k
  | 0 => ⟨⟨by simp [cnTo, Cn.zero], by simp [cnTo, Cn.zero]⟩, ⟨by simp [cnTo, Cn.zero], by simp [cnTo, Cn.zero]⟩, ⟨by simp [cnTo, Cn.zero], by simp [cnTo, Cn.zero]⟩, ⟨by simp [cnTo, Cn.zero], by simp [cnTo, Cn.zero]⟩, ⟨by simp [cnTo, Cn.zero], by simp [cnTo, Cn.zero]⟩⟩
  | k + 1 => Cn.add_le (cnTo_le l svc img k) _ _ _

/-- What is kept while copies are counted: the book's box, the block of the count, the block of the answer. -/
structure CInv (w W : World) (v0 v1 v2 v3 : Value) (l r q f e : Int) : Prop where
  below : Below w.heap.size w W
  box : Box4 W w.heap.size v0 v1 v2 v3
  own : OwnBlk W (w.heap.size + 2) 59 5
  res : OwnBlk W (w.heap.size + 1) 59 5
  d0 : W.cell? ⟨w.heap.size + 2, 0, none⟩ = some (.int .i64 l)
  d1 : W.cell? ⟨w.heap.size + 2, 1, none⟩ = some (.int .i64 r)
  d2 : W.cell? ⟨w.heap.size + 2, 2, none⟩ = some (.int .i64 q)
  d3 : W.cell? ⟨w.heap.size + 2, 3, none⟩ = some (.int .i64 f)
  d4 : W.cell? ⟨w.heap.size + 2, 4, none⟩ = some (.int .i64 e)
section
variable {w W : World} {v0 v1 v2 v3 : Value} {l r q f e : Int}
theorem CInv.later (h : CInv w W v0 v1 v2 v3 l r q f e) {W' : World} (hb : Below W.heap.size W W') : CInv w W' v0 v1 v2 v3 l r q f e :=
  ⟨blw_trans h.below hb, h.box.later hb, h.own.later hb, h.res.later hb, (hb.cell (p := ⟨_, 0, none⟩) h.own.lt).trans h.d0, (hb.cell (p := ⟨_, 1, none⟩) h.own.lt).trans h.d1, (hb.cell (p := ⟨_, 2, none⟩) h.own.lt).trans h.d2, (hb.cell (p := ⟨_, 3, none⟩) h.own.lt).trans h.d3, (hb.cell (p := ⟨_, 4, none⟩) h.own.lt).trans h.d4⟩
theorem CInv.past (h : CInv w W v0 v1 v2 v3 l r q f e) (o : Obj) : CInv w (W.alloc o) v0 v1 v2 v3 l r q f e := h.later (blw_alloc (Below.refl _ _) o)
theorem CInv.drewN (h : CInv w W v0 v1 v2 v3 l r q f e) (n : Nat) : CInv w (W.drewN n) v0 v1 v2 v3 l r q f e := h.later (blw_drewN (Below.refl _ _) n)
theorem CInv.sbox (h : CInv w W v0 v1 v2 v3 l r q f e) (j : Nat) (v : Value) : Box4 (W.setCell ⟨w.heap.size + 2, j, none⟩ v) w.heap.size v0 v1 v2 v3 :=
  ⟨by rw [sc_size]; exact h.box.lt, (sc_ne _ _ _ _ _ _ (by omega)).trans h.box.x0, (sc_ne _ _ _ _ _ _ (by omega)).trans h.box.x1, (sc_ne _ _ _ _ _ _ (by omega)).trans h.box.x2, (sc_ne _ _ _ _ _ _ (by omega)).trans h.box.x3⟩
theorem CInv.sbel (h : CInv w W v0 v1 v2 v3 l r q f e) (j : Nat) (v : Value) : Below w.heap.size w (W.setCell ⟨w.heap.size + 2, j, none⟩ v) := h.below.setCell (p := ⟨w.heap.size + 2, j, none⟩) (by show w.heap.size ≤ w.heap.size + 2; omega) v
theorem CInv.set0 (h : CInv w W v0 v1 v2 v3 l r q f e) (x : Int) : CInv w (W.setCell ⟨w.heap.size + 2, 0, none⟩ (.int .i64 x)) v0 v1 v2 v3 x r q f e :=
  ⟨h.sbel _ _, h.sbox _ _, h.own.setCell _ _, h.res.sc_other (by omega) _ _, sc_eq h.own 0 (by omega) _, (sc_ne _ _ _ _ _ _ (by omega)).trans h.d1, (sc_ne _ _ _ _ _ _ (by omega)).trans h.d2, (sc_ne _ _ _ _ _ _ (by omega)).trans h.d3, (sc_ne _ _ _ _ _ _ (by omega)).trans h.d4⟩
theorem CInv.set1 (h : CInv w W v0 v1 v2 v3 l r q f e) (x : Int) : CInv w (W.setCell ⟨w.heap.size + 2, 1, none⟩ (.int .i64 x)) v0 v1 v2 v3 l x q f e :=
  ⟨h.sbel _ _, h.sbox _ _, h.own.setCell _ _, h.res.sc_other (by omega) _ _, (sc_ne _ _ _ _ _ _ (by omega)).trans h.d0, sc_eq h.own 1 (by omega) _, (sc_ne _ _ _ _ _ _ (by omega)).trans h.d2, (sc_ne _ _ _ _ _ _ (by omega)).trans h.d3, (sc_ne _ _ _ _ _ _ (by omega)).trans h.d4⟩
theorem CInv.set2 (h : CInv w W v0 v1 v2 v3 l r q f e) (x : Int) : CInv w (W.setCell ⟨w.heap.size + 2, 2, none⟩ (.int .i64 x)) v0 v1 v2 v3 l r x f e :=
  ⟨h.sbel _ _, h.sbox _ _, h.own.setCell _ _, h.res.sc_other (by omega) _ _, (sc_ne _ _ _ _ _ _ (by omega)).trans h.d0, (sc_ne _ _ _ _ _ _ (by omega)).trans h.d1, sc_eq h.own 2 (by omega) _, (sc_ne _ _ _ _ _ _ (by omega)).trans h.d3, (sc_ne _ _ _ _ _ _ (by omega)).trans h.d4⟩
theorem CInv.set3 (h : CInv w W v0 v1 v2 v3 l r q f e) (x : Int) : CInv w (W.setCell ⟨w.heap.size + 2, 3, none⟩ (.int .i64 x)) v0 v1 v2 v3 l r q x e :=
  ⟨h.sbel _ _, h.sbox _ _, h.own.setCell _ _, h.res.sc_other (by omega) _ _, (sc_ne _ _ _ _ _ _ (by omega)).trans h.d0, (sc_ne _ _ _ _ _ _ (by omega)).trans h.d1, (sc_ne _ _ _ _ _ _ (by omega)).trans h.d2, sc_eq h.own 3 (by omega) _, (sc_ne _ _ _ _ _ _ (by omega)).trans h.d4⟩
theorem CInv.set4 (h : CInv w W v0 v1 v2 v3 l r q f e) (x : Int) : CInv w (W.setCell ⟨w.heap.size + 2, 4, none⟩ (.int .i64 x)) v0 v1 v2 v3 l r q f x :=
  ⟨h.sbel _ _, h.sbox _ _, h.own.setCell _ _, h.res.sc_other (by omega) _ _, (sc_ne _ _ _ _ _ _ (by omega)).trans h.d0, (sc_ne _ _ _ _ _ _ (by omega)).trans h.d1, (sc_ne _ _ _ _ _ _ (by omega)).trans h.d2, (sc_ne _ _ _ _ _ _ (by omega)).trans h.d3, sc_eq h.own 4 (by omega) _⟩
end

set_option maxHeartbeats 40000000 in
theorem l13CountS (K : SBk) (a0 a1 a2 : Option Addr) (c0 c1 c2 : Nat) (svc : ByteArray) (w : World) (h : SBkV w a0 a1 a2 K) (hc : K.cps.length ≤ 1048576) :
    Calls Try.prog 30 #[.agg #[.int .i64 K.now, .slice a0 K.svcs.length c0, .slice a1 K.cps.length c1, .slice a2 K.bts.length c2], .string svc] w fun e w' => e = .returned (.agg #[.int .i64 (countOf K svc).live, .int .i64 (countOf K svc).ready, .int .i64 (countOf K svc).old, .int .i64 (countOf K svc).failed, .int .i64 (countOf K svc).ending]) ∧ Below w.heap.size w w' := by
  have HH : Hid (SBkV w a0 a1 a2 K) := h
  have hl := h.s.len
  unfold maxLen at hl
  clear h
  obtain ⟨R, hR⟩ : ∃ R, R = countOf K svc := ⟨_, rfl⟩
  have HR := hid hR
  rw [← hR]
  clear hR
  obtain ⟨wa, hwa⟩ : ∃ wa, wa = ((w.alloc (.cells #[.int .i64 K.now, .slice a0 K.svcs.length c0, .slice a1 K.cps.length c1, .slice a2 K.bts.length c2] 33)).alloc (.cells #[.int .i64 0, .int .i64 0, .int .i64 0, .int .i64 0, .int .i64 0] 59)).alloc (.cells #[.int .i64 0, .int .i64 0, .int .i64 0, .int .i64 0, .int .i64 0] 59) := ⟨_, rfl⟩
  have HI : Hid (CInv w wa (.int .i64 K.now) (.slice a0 K.svcs.length c0) (.slice a1 K.cps.length c1) (.slice a2 K.bts.length c2) 0 0 0 0 0) := by
    show CInv _ _ _ _ _ _ _ _ _ _ _
    rw [hwa]
    refine ⟨blw_alloc (blw_alloc (blw_alloc (Below.refl _ _) _) _) _, ((Box4.new' w _ _ _ _ _ _ rfl).past _).past _, OwnBlk.alloc_at2 _ _ _ _ _ rfl (by simp), (OwnBlk.alloc_at2 _ _ _ _ _ rfl (by simp)).past _, World.cell?_alloc_at _ _ _ _ (by simp), World.cell?_alloc_at _ _ _ _ (by simp), World.cell?_alloc_at _ _ _ _ (by simp), World.cell?_alloc_at _ _ _ _ (by simp), World.cell?_alloc_at _ _ _ _ (by simp)⟩
  go_enter Try.func30, Try.ntmps30
  go_upto_region 2 with fail
  rw [← hwa]
  clear hwa
  obtain ⟨yz, y0, y1, y2, y3⟩ := HI.out.box
  go_wp2_with fail
  refine (l12ServiceIx K a0 a1 a2 c0 c1 c2 svc wa (HH.out.later HI.out.below)).mono ?_
  rintro e w1 ⟨rfl, hb⟩
  have HI1 := hid (HI.out.later hb)
  clear yz y0 y1 y2 y3 HI hb
  rcases firstTo_cases (fun i => same (K.svcs.getD i Sv.none).nm svc) K.svcs.length with ⟨he, _⟩ | ⟨k, hk, he, _, _⟩
  · have he' : svIx K.svcs svc = -1 := he
    have HE : Hid (R = Cn.zero) := by show R = _; rw [HR.out, countOf, he']; rfl
    rw [he']
    clear he he' HR
    obtain ⟨yz, y0, y1, y2, y3⟩ := HI1.out.box
    have d0 := HI1.out.d0
    have d1 := HI1.out.d1
    have d2 := HI1.out.d2
    have d3 := HI1.out.d3
    have d4 := HI1.out.d4
    have dz := HI1.out.own.lt
    have hfz := HI1.out.res.frozen
    have hz := HI1.out.res.lt
    obtain ⟨z0, e0⟩ := HI1.out.res.cell 0 (by omega)
    obtain ⟨z1, e1⟩ := HI1.out.res.cell 1 (by omega)
    obtain ⟨z2, e2⟩ := HI1.out.res.cell 2 (by omega)
    obtain ⟨z3, e3⟩ := HI1.out.res.cell 3 (by omega)
    obtain ⟨z4, e4⟩ := HI1.out.res.cell 4 (by omega)

    by_cases hq : K.cps.length = 0
    all_goals
      go_wp2
      refine wp_loop_rounds 1 ?_
      rw [rounds_succ]
      go_wp2
      have p := fun i hi => puts_at 0 [.int .i64 0, .int .i64 0, .int .i64 0, .int .i64 0, .int .i64 0] w1 0 HI1.out.res (by simp) i hi
      have t0 := p 0 (by simp)
      have t1 := p 1 (by simp)
      have t2 := p 2 (by simp)
      have t3 := p 3 (by simp)
      have t4 := p 4 (by simp)
      simp only [puts, Nat.add_zero, Nat.zero_add, Nat.reduceAdd, List.getElem?_cons_zero, List.getElem?_cons_succ] at t0 t1 t2 t3 t4
      refine bodyPost_ret (v := .agg #[.int .i64 0, .int .i64 0, .int .i64 0, .int .i64 0, .int .i64 0]) (by simp [results, Try.results30, go_sem, t0, t1, t2, t3, t4]) rfl ⟨by rw [HE.out]; rfl, ?_⟩
      exact puts_below (a := w) 0 (B := w.heap.size + 1) (by omega) [.int .i64 0, .int .i64 0, .int .i64 0, .int .i64 0, .int .i64 0] w1 0 HI1.out.below
  · have he' : svIx K.svcs svc = k := he
    obtain ⟨b, off, ha, hbl, hf⟩ := (HH.out.later HI1.out.below).s.at_ k hk
    subst ha
    obtain ⟨m, hm⟩ : ∃ m, m = K.svcs.getD k Sv.none := ⟨_, rfl⟩
    have HE : Hid (R = cnTo K.cps svc m.image K.cps.length) := by show R = _; rw [HR.out, countOf, he', if_pos (by omega), show svGet K.svcs (k : Int) = m by rw [hm]; rfl]
    have HM := hid hm
    rw [he']
    clear he he' HR hf hm hbl
    have hm0 : (0 : Int) ≤ (k : Int) := by omega
    have hm3 : (k : Int) < (K.svcs.length : Int) := by omega
    go_wp2
    go_loopw [7] (fun i wr => ∃ q : Nat, q ≤ K.cps.length ∧ i = .int .i64 q ∧ CInv w wr (.int .i64 K.now) (.slice (some ⟨b, off, none⟩) K.svcs.length c0) (.slice a1 K.cps.length c1) (.slice a2 K.bts.length c2) (cnTo K.cps svc m.image q).live (cnTo K.cps svc m.image q).ready (cnTo K.cps svc m.image q).old (cnTo K.cps svc m.image q).failed (cnTo K.cps svc m.image q).ending) (fun i _ => K.cps.length - (intOf i).toNat)
    case atStart => exact ⟨0, Nat.zero_le _, rfl, HI1.out⟩
    case round =>
      obtain ⟨q, hq, rfl, hI⟩ := hrel
      have HI := hid hI
      clear hI HI1
      obtain ⟨n, hn⟩ : ∃ n, n = cnTo K.cps svc m.image q := ⟨_, rfl⟩
      rw [← hn] at HI
      obtain ⟨⟨k0, k1⟩, ⟨k2, k3⟩, ⟨k4, k5⟩, ⟨k6, k7⟩, ⟨k8, k9⟩⟩ : n.le q := by rw [hn]; exact cnTo_le _ _ _ _
      obtain ⟨yz, y0, y1, y2, y3⟩ := HI.out.box
      have d0 := HI.out.d0
      have d1 := HI.out.d1
      have d2 := HI.out.d2
      have d3 := HI.out.d3
      have d4 := HI.out.d4
      have dz := HI.out.own.lt
      by_cases hlt : q < K.cps.length
      · have hfz := HI.out.own.frozen
        have HV := hid (HH.out.later HI.out.below)
        obtain ⟨b1, off1, ha1, hbl1, hf1⟩ := HV.out.c.at_ q hlt
        subst ha1
        obtain ⟨c, hc'⟩ : ∃ c, c = K.cps.getD q Cp.none := ⟨_, rfl⟩
        rw [← hc'] at hf1
        obtain ⟨e0, e1, e2, e3, e4, e5, e6, _⟩ := hf1
        obtain ⟨b2, off2, ha2, hbl, hf2⟩ := HV.out.s.at_ k hk
        injection ha2 with ha2
        injection ha2 with hb2 ho2 _
        subst hb2 ho2
        rw [← HM.out] at hf2
        have z3 := hf2.c3
        obtain ⟨b3, off3, ha3, hbw, _⟩ := HH.out.s.at_ k hk
        injection ha3 with ha3
        injection ha3 with hb3 ho3 _
        subst hb3 ho3
        have hne1 : ¬ (w.heap.size + 1 + 1 = b) := by omega
        have hne2 : ¬ (b = w.heap.size + 1 + 1) := by omega
        have hne3 : ¬ (w.heap.size + 2 = b) := by omega
        have hne4 : ¬ (b = w.heap.size + 2) := by omega
        have HN : Hid (cnTo K.cps svc m.image (q + 1) = n.add svc m.image c) := by show (cnTo _ _ _ q).add _ _ _ = _; rw [← hn, ← hc']
        clear hf2 hn hc'
        cases g0 : (c.svc.toList == svc.toList)
        · skip
          have HA : Hid (n.add svc m.image c = n) := by show _ = _; unfold Cn.add; simp [same, g0]
          rw [HA.out] at HN
          clear HA
          go_wp2
          go_roundw
          case rel =>
            refine ⟨q + 1, by omega, by go_num, ?_⟩
            rw [HN.out]
            try simp only [Nat.add_assoc, Nat.reduceAdd]
            repeat (first | exact HI.out | apply CInv.set0 | apply CInv.set1 | apply CInv.set2 | apply CInv.set3 | apply CInv.set4 | apply CInv.drewN | apply CInv.past)
          case measure => simp [intOf]; omega
        rcases (Bool.eq_false_or_eq_true c.ending) with g1 | g1
        · rw [g1] at e5
          have HA : Hid (n.add svc m.image c = ⟨n.live, n.ready, n.old, n.failed, n.ending + 1⟩) := by show _ = _; unfold Cn.add; simp [same, g0, g1]
          rw [HA.out] at HN
          clear HA
          go_wp2
          go_roundw
          case rel =>
            refine ⟨q + 1, by omega, by go_num, ?_⟩
            rw [HN.out]
            try simp only [Nat.add_assoc, Nat.reduceAdd]
            repeat (first | exact HI.out | apply CInv.set0 | apply CInv.set1 | apply CInv.set2 | apply CInv.set3 | apply CInv.set4 | apply CInv.drewN | apply CInv.past)
          case measure => simp [intOf]; omega
        rw [g1] at e5
        cases g4 : (c.image == m.image)
        · have g5 : (c.image != m.image) = true := by simp [bne, g4]
          rcases (Decidable.em (c.state = 3)) with s3 | s3
          · have r3 : (c.state == 3) = true := by simp [s3]
            have r4 : (c.state == 4) = false := by simp [s3]
            have HA : Hid (n.add svc m.image c = ⟨n.live + 1, n.ready + 1, n.old + 1, n.failed, n.ending⟩) := by show _ = _; unfold Cn.add; simp [same, g0, g1, g5, r3, r4, bit]
            rw [HA.out] at HN
            clear HA
            go_wp2
            go_quiet (fail)
            go_wp2
            go_roundw
            case rel =>
              refine ⟨q + 1, by omega, by go_num, ?_⟩
              rw [HN.out]
              try simp only [Nat.add_assoc, Nat.reduceAdd]
              repeat (first | exact HI.out | apply CInv.set0 | apply CInv.set1 | apply CInv.set2 | apply CInv.set3 | apply CInv.set4 | apply CInv.drewN | apply CInv.past)
            case measure => simp [intOf]; omega
          rcases (Decidable.em (c.state = 4)) with s4 | s4
          · have r3 : (c.state == 3) = false := by simp [s4]
            have r4 : (c.state == 4) = true := by simp [s4]
            have HA : Hid (n.add svc m.image c = ⟨n.live + 1, n.ready, n.old + 1, n.failed + 1, n.ending⟩) := by show _ = _; unfold Cn.add; simp [same, g0, g1, g5, r3, r4, bit]
            rw [HA.out] at HN
            clear HA
            go_wp2
            go_quiet (fail)
            go_wp2
            go_roundw
            case rel =>
              refine ⟨q + 1, by omega, by go_num, ?_⟩
              rw [HN.out]
              try simp only [Nat.add_assoc, Nat.reduceAdd]
              repeat (first | exact HI.out | apply CInv.set0 | apply CInv.set1 | apply CInv.set2 | apply CInv.set3 | apply CInv.set4 | apply CInv.drewN | apply CInv.past)
            case measure => simp [intOf]; omega
          have r3 : (c.state == 3) = false := by simp [s3]
          have r4 : (c.state == 4) = false := by simp [s4]
          have HA : Hid (n.add svc m.image c = ⟨n.live + 1, n.ready, n.old + 1, n.failed, n.ending⟩) := by show _ = _; unfold Cn.add; simp [same, g0, g1, g5, r3, r4, bit]
          rw [HA.out] at HN
          clear HA
          go_wp2
          go_quiet (fail)
          go_wp2
          go_roundw
          case rel =>
            refine ⟨q + 1, by omega, by go_num, ?_⟩
            rw [HN.out]
            try simp only [Nat.add_assoc, Nat.reduceAdd]
            repeat (first | exact HI.out | apply CInv.set0 | apply CInv.set1 | apply CInv.set2 | apply CInv.set3 | apply CInv.set4 | apply CInv.drewN | apply CInv.past)
          case measure => simp [intOf]; omega
        · have g5 : (c.image != m.image) = false := by simp [bne, g4]
          rcases (Decidable.em (c.state = 3)) with s3 | s3
          · have r3 : (c.state == 3) = true := by simp [s3]
            have r4 : (c.state == 4) = false := by simp [s3]
            have HA : Hid (n.add svc m.image c = ⟨n.live + 1, n.ready + 1, n.old, n.failed, n.ending⟩) := by show _ = _; unfold Cn.add; simp [same, g0, g1, g5, r3, r4, bit]
            rw [HA.out] at HN
            clear HA
            go_wp2
            go_quiet (fail)
            go_wp2
            go_roundw
            case rel =>
              refine ⟨q + 1, by omega, by go_num, ?_⟩
              rw [HN.out]
              try simp only [Nat.add_assoc, Nat.reduceAdd]
              repeat (first | exact HI.out | apply CInv.set0 | apply CInv.set1 | apply CInv.set2 | apply CInv.set3 | apply CInv.set4 | apply CInv.drewN | apply CInv.past)
            case measure => simp [intOf]; omega
          rcases (Decidable.em (c.state = 4)) with s4 | s4
          · have r3 : (c.state == 3) = false := by simp [s4]
            have r4 : (c.state == 4) = true := by simp [s4]
            have HA : Hid (n.add svc m.image c = ⟨n.live + 1, n.ready, n.old, n.failed + 1, n.ending⟩) := by show _ = _; unfold Cn.add; simp [same, g0, g1, g5, r3, r4, bit]
            rw [HA.out] at HN
            clear HA
            go_wp2
            go_quiet (fail)
            go_wp2
            go_roundw
            case rel =>
              refine ⟨q + 1, by omega, by go_num, ?_⟩
              rw [HN.out]
              try simp only [Nat.add_assoc, Nat.reduceAdd]
              repeat (first | exact HI.out | apply CInv.set0 | apply CInv.set1 | apply CInv.set2 | apply CInv.set3 | apply CInv.set4 | apply CInv.drewN | apply CInv.past)
            case measure => simp [intOf]; omega
          have r3 : (c.state == 3) = false := by simp [s3]
          have r4 : (c.state == 4) = false := by simp [s4]
          have HA : Hid (n.add svc m.image c = ⟨n.live + 1, n.ready, n.old, n.failed, n.ending⟩) := by show _ = _; unfold Cn.add; simp [same, g0, g1, g5, r3, r4, bit]
          rw [HA.out] at HN
          clear HA
          go_wp2
          go_quiet (fail)
          go_wp2
          go_roundw
          case rel =>
            refine ⟨q + 1, by omega, by go_num, ?_⟩
            rw [HN.out]
            try simp only [Nat.add_assoc, Nat.reduceAdd]
            repeat (first | exact HI.out | apply CInv.set0 | apply CInv.set1 | apply CInv.set2 | apply CInv.set3 | apply CInv.set4 | apply CInv.drewN | apply CInv.past)
          case measure => simp [intOf]; omega
      · obtain rfl : q = K.cps.length := by omega
        have hfz := HI.out.res.frozen
        have hz := HI.out.res.lt
        obtain ⟨z0, e0⟩ := HI.out.res.cell 0 (by omega)
        obtain ⟨z1, e1⟩ := HI.out.res.cell 1 (by omega)
        obtain ⟨z2, e2⟩ := HI.out.res.cell 2 (by omega)
        obtain ⟨z3, e3⟩ := HI.out.res.cell 3 (by omega)
        obtain ⟨z4, e4⟩ := HI.out.res.cell 4 (by omega)
        have HE2 := hid (HE.out.trans hn.symm)
        clear HE hn
        go_wp2
        have p := fun i hi => puts_at 0 [.int .i64 n.live, .int .i64 n.ready, .int .i64 n.old, .int .i64 n.failed, .int .i64 n.ending] wr 0 HI.out.res (by simp) i hi
        have t0 := p 0 (by simp)
        have t1 := p 1 (by simp)
        have t2 := p 2 (by simp)
        have t3 := p 3 (by simp)
        have t4 := p 4 (by simp)
        simp only [puts, Nat.add_zero, Nat.zero_add, Nat.reduceAdd, List.getElem?_cons_zero, List.getElem?_cons_succ] at t0 t1 t2 t3 t4
        refine bodyPost_ret (v := .agg #[.int .i64 n.live, .int .i64 n.ready, .int .i64 n.old, .int .i64 n.failed, .int .i64 n.ending]) (by simp [results, Try.results30, go_sem, t0, t1, t2, t3, t4]) rfl ⟨by rw [HE2.out], ?_⟩
        exact puts_below (a := w) 0 (B := w.heap.size + 1) (by omega) [.int .i64 n.live, .int .i64 n.ready, .int .i64 n.old, .int .i64 n.failed, .int .i64 n.ending] wr 0 HI.out.below

end Go.Proofs.Ytamhfnlogldpaaa
