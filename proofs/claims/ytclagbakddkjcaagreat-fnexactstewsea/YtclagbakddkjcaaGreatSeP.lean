/-
  The sea: StewSea by the specification, whole.
-/
import Derived.Test.YtclagbakddkjcaaGreatSeO
namespace Go.Proofs.YtclagbakddkjcaaGreat
open Go.RowKit Go.Deep

/-- What stands while 'x, code := l17Sea(l12Book(b), e)' comes up in any order. -/
structure T7 (K : SBk) (E : Ev) (R : World) (up : Nat → Bool) (vals : Nat → Value) (W : World) : Prop where
  bel : Below R.heap.size R W
  t1 : up 1 = true → up 3 = false → ∃ p0 p1 p2 q0 q1 q2, vals 1 = .agg #[.int .i64 K.now, .slice p0 K.svcs.length q0, .slice p1 K.cps.length q1, .slice p2 K.bts.length q2] ∧ BkOwn W R.heap.size K (.slice p0 K.svcs.length q0) (.slice p1 K.cps.length q1) (.slice p2 K.bts.length q2)
  t3 : up 3 = true → ∃ s0 s1 s2, vals 3 = .tuple #[.agg #[.int .i64 (seaR K E).now, s0, s1, s2], .int .i64 (seaC K E)] ∧ BkOwn W R.heap.size (seaR K E) s0 s1 s2
  t4 : up 4 = true → vals 4 = vals 3
  t5 : up 5 = true → ∀ s0 s1 s2, vals 3 = .tuple #[.agg #[.int .i64 (seaR K E).now, s0, s1, s2], .int .i64 (seaC K E)] → vals 5 = .agg #[.int .i64 (seaR K E).now, s0, s1, s2]
  t6 : up 6 = true → vals 6 = .int .i64 (seaC K E)
  t7 : up 7 = true → ∃ q, vals 7 = .pointer (some ⟨q, 0, none⟩) ∧ R.heap.size ≤ q ∧ OwnBlk W q 37 4
  t8 : up 8 = true → ∀ q s0 s1 s2, vals 7 = .pointer (some ⟨q, 0, none⟩) → vals 5 = .agg #[.int .i64 (seaR K E).now, s0, s1, s2] → W.heap[q]? = some (.cells #[.int .i64 (seaR K E).now, s0, s1, s2] 37 (0, 0))
  t9 : up 9 = true → vals 9 = .int .i64 (seaC K E)
theorem T7.put {K : SBk} {E : Ev} {R : World} {up : Nat → Bool} {vals : Nat → Value} {W : World} (h : T7 K E R up vals W) (i : Nat) (u : Value) (W' : World) (hb : Below W.heap.size W W') (hi : up i = false) (i3 : i ≠ 3) (i8 : i ≠ 8) (c85 : up 8 = true → up 5 = true) (c87 : up 8 = true → up 7 = true)
    (n1 : i = 1 → ∃ p0 p1 p2 q0 q1 q2, u = .agg #[.int .i64 K.now, .slice p0 K.svcs.length q0, .slice p1 K.cps.length q1, .slice p2 K.bts.length q2] ∧ BkOwn W' R.heap.size K (.slice p0 K.svcs.length q0) (.slice p1 K.cps.length q1) (.slice p2 K.bts.length q2))
    (n4 : i = 4 → u = vals 3) (n5 : i = 5 → ∀ s0 s1 s2, vals 3 = .tuple #[.agg #[.int .i64 (seaR K E).now, s0, s1, s2], .int .i64 (seaC K E)] → u = .agg #[.int .i64 (seaR K E).now, s0, s1, s2]) (n6 : i = 6 → u = .int .i64 (seaC K E)) (n7 : i = 7 → ∃ q, u = .pointer (some ⟨q, 0, none⟩) ∧ R.heap.size ≤ q ∧ OwnBlk W' q 37 4) (n9 : i = 9 → u = .int .i64 (seaC K E)) :
    T7 K E R (fun j => (j == i) || up j) (fun j => if j = i then u else vals j) W' := by
  have upo : ∀ q, ((q == i) || up q) = true → q ≠ i → up q = true := fun q h1 h2 => by
    rw [show (q == i) = false from by simpa using h2] at h1; exact h1
  have upf : ∀ q, ((q == i) || up q) = false → q ≠ i ∧ up q = false := fun q h1 => by
    rw [Bool.or_eq_false_iff] at h1; exact ⟨by simpa using h1.1, h1.2⟩
  have off : ∀ q, up q = true → q ≠ i := fun q h1 e => by rw [e, hi] at h1; cases h1
  have v3 : (if 3 = i then u else vals 3) = vals 3 := if_neg (fun e => i3 e.symm)
  constructor
  · exact blw_trans h.bel hb
  · intro h1 h2
    obtain ⟨_, f3⟩ := upf 3 h2
    by_cases e : 1 = i
    · show ∃ p0 p1 p2 q0 q1 q2, (if 1 = i then u else vals 1) = _ ∧ _
      rw [if_pos e]; exact n1 e.symm
    · obtain ⟨p0, p1, p2, q0, q1, q2, ev, hk⟩ := h.t1 (upo 1 h1 e) f3
      exact ⟨p0, p1, p2, q0, q1, q2, (if_neg e).trans ev, hk.later hb⟩
  · intro h1
    obtain ⟨s0, s1, s2, ev, hk⟩ := h.t3 (upo 3 h1 (fun e => i3 e.symm))
    exact ⟨s0, s1, s2, v3.trans ev, hk.later hb⟩
  · intro h1
    show (if 4 = i then u else vals 4) = (if 3 = i then u else vals 3)
    rw [v3]
    by_cases e : 4 = i
    · rw [if_pos e]; exact n4 e.symm
    · rw [if_neg e]; exact h.t4 (upo 4 h1 e)
  · intro h1
    show ∀ s0 s1 s2, (if 3 = i then u else vals 3) = .tuple #[.agg #[.int .i64 (seaR K E).now, s0, s1, s2], .int .i64 (seaC K E)] → (if 5 = i then u else vals 5) = _
    rw [v3]
    by_cases e : 5 = i
    · rw [if_pos e]; exact n5 e.symm
    · rw [if_neg e]; exact h.t5 (upo 5 h1 e)
  · intro h1
    show (if 6 = i then u else vals 6) = _
    by_cases e : 6 = i
    · rw [if_pos e]; exact n6 e.symm
    · rw [if_neg e]; exact h.t6 (upo 6 h1 e)
  · intro h1
    show ∃ q, (if 7 = i then u else vals 7) = _ ∧ _
    by_cases e : 7 = i
    · rw [if_pos e]; exact n7 e.symm
    · rw [if_neg e]
      obtain ⟨q, e1, e2, e3⟩ := h.t7 (upo 7 h1 e)
      exact ⟨q, e1, e2, e3.later hb⟩
  · intro h1
    have u8 := upo 8 h1 (fun e => i8 e.symm)
    show ∀ q s0 s1 s2, (if 7 = i then u else vals 7) = _ → (if 5 = i then u else vals 5) = _ → _
    rw [if_neg (off 7 (c87 u8)), if_neg (off 5 (c85 u8))]
    intro q s0 s1 s2 g1 g2
    have := h.t8 u8 q s0 s1 s2 g1 g2
    exact (hb.block q (lt_heap this)).trans this
  · intro h1
    show (if 9 = i then u else vals 9) = _
    by_cases e : 9 = i
    · rw [if_pos e]; exact n9 e.symm
    · rw [if_neg e]; exact h.t9 (upo 9 h1 e)

theorem rng_of {W : World} {p : Nat} {cs : List Value} {e : TypeId} (h : W.heap[p]? = some (.cells cs.toArray e (0, 0))) : W.rangeAt p 0 cs := fun j v hv => by
  rw [Nat.zero_add]
  simp only [World.cell?, h]
  simpa using hv
def V7 (bk ev : Value) : Nat → Value → Prop
  | 0, u => u = bk
  | 2, u => u = ev
  | _, _ => True

set_option maxRecDepth 8000 in
set_option maxHeartbeats 8000000 in
theorem region7 (K : SBk) (E : Ev) (a0 a1 a2 : Option Addr) (c0 c1 c2 : Nat) (w R : World) (Q : Exit → Act → World → Prop) (A : Act) (hz : A.tmps.size = 44) (h2 : A.eval (.tmp 2) = .pointer (some ⟨w.heap.size, 0, none⟩)) (h3 : A.eval (.tmp 3) = .pointer (some ⟨w.heap.size + 1, 0, none⟩))
    (hk : SBkV R a0 a1 a2 K) (hok : sbOk K = true) (hnow : K.now < 1000000) (hsz : E.sv.nm.size ≤ maxLen ∧ E.nm.size ≤ maxLen) (HBX : R.heap[w.heap.size]? = some (.cells #[.int .i64 K.now, .slice a0 K.svcs.length c0, .slice a1 K.cps.length c1, .slice a2 K.bts.length c2] 37 (0, 0))) (HEV : R.heap[w.heap.size + 1]? = some (.cells #[.int .i64 E.kind, .string E.sv.nm, .int .i64 E.sv.ver, .bool E.sv.gone, .int .i64 E.sv.image, .int .i64 E.sv.want, .int .i64 E.sv.down, .int .i64 E.sv.over, .int .i64 E.sv.next, .int .i64 E.sv.per, .int .i64 E.sv.least, .int .i64 E.sv.most, .int .i64 E.sv.load, .int .i64 E.sv.cool, .string E.nm, .int .i64 E.num, .bool E.flag] 43 (0, 0)))
    (hQ : ∀ W vs q s0 s1 s2, Below R.heap.size R W → vs 6 = .pointer (some ⟨q, 0, none⟩) → vs 7 = .int .i64 (seaC K E) → W.heap[q]? = some (.cells #[.int .i64 (seaR K E).now, s0, s1, s2] 37 (0, 0)) → BkOwn W R.heap.size (seaR K E) s0 s1 s2 → Q .normal (RY.putAll ops7 A vs) W) :
    Code.wp Tryz.prog r7 Q A R := by
  have hQ' := hQ
  have hsm := small_of hok
  obtain ⟨l0, l1, l2⟩ := small_ok hok
  have hn0 : 0 ≤ K.now ∧ K.now ≤ 1000000 := by
    simp only [sbOk, inB, Bool.and_eq_true, decide_eq_true_eq] at hok
    exact ⟨hok.1.1.1.1.1.1.1, by omega⟩
  simp only [r7, ss3, ss0, Tryz.f6, Option.getD_some, sfst_seq, ssnd_seq]
  refine RY.region_TC (V7 (.agg #[.int .i64 K.now, .slice a0 K.svcs.length c0, .slice a1 K.cps.length c1, .slice a2 K.bts.length c2]) (.agg #[.int .i64 E.kind, .string E.sv.nm, .int .i64 E.sv.ver, .bool E.sv.gone, .int .i64 E.sv.image, .int .i64 E.sv.want, .int .i64 E.sv.down, .int .i64 E.sv.over, .int .i64 E.sv.next, .int .i64 E.sv.per, .int .i64 E.sv.least, .int .i64 E.sv.most, .int .i64 E.sv.load, .int .i64 E.sv.cool, .string E.nm, .int .i64 E.num, .bool E.flag])) (T7 K E R) (by kernel_rfl) (by kernel_rfl) (by kernel_rfl) (by rw [hz]; kernel_rfl) ?_ ?_ ?_
  · intro vals
    exact ⟨(Below.refl _ _).drew, fun h => (by cases h), fun h => (by cases h), fun h => (by cases h), fun h => (by cases h), fun h => (by cases h), fun h => (by cases h), fun h => (by cases h), fun h => (by cases h)⟩
  · intro up vals i o ho hi hcl a W hk' hd hT
    have et2 : a.tmps[2]?.getD undef = .pointer (some ⟨w.heap.size, 0, none⟩) := (RY.ev_tmp a 2).trans ((hk' 2 (by kernel_rfl)).trans h2)
    have et3 : a.tmps[3]?.getD undef = .pointer (some ⟨w.heap.size + 1, 0, none⟩) := (RY.ev_tmp a 3).trans ((hk' 3 (by kernel_rfl)).trans h3)
    have c31 : up 3 = true → up 1 = true := hcl 3 _ ⟨1, .data⟩ rfl (by simp) rfl
    have c43 : up 4 = true → up 3 = true := hcl 4 _ ⟨3, .data⟩ rfl (by simp) rfl
    have c54 : up 5 = true → up 4 = true := hcl 5 _ ⟨4, .data⟩ rfl (by simp) rfl
    have c64 : up 6 = true → up 4 = true := hcl 6 _ ⟨4, .data⟩ rfl (by simp) rfl
    have c85 : up 8 = true → up 5 = true := hcl 8 _ ⟨5, .data⟩ rfl (by simp) rfl
    have c87 : up 8 = true → up 7 = true := hcl 8 _ ⟨7, .data⟩ rfl (by simp) rfl
    have c96 : up 9 = true → up 6 = true := hcl 9 _ ⟨6, .data⟩ rfl (by simp) rfl
    have hbx := (hT.bel.block _ (lt_heap HBX)).trans HBX
    have hev := (hT.bel.block _ (lt_heap HEV)).trans HEV
    have hbs : R.heap.size ≤ W.heap.size := hT.bel.size
    match i, ho with
      | 0, ho =>
        injection ho with ho; subst ho
        refine Or.inl ⟨.agg #[.int .i64 K.now, .slice a0 K.svcs.length c0, .slice a1 K.cps.length c1, .slice a2 K.bts.length c2], W, exec_load_mid 37 (.tmp 2) rfl w.heap.size 0 ((hk' 2 (by kernel_rfl)).trans h2) [.int .i64 K.now, .slice a0 K.svcs.length c0, .slice a1 K.cps.length c1, .slice a2 K.bts.length c2] _ (rng_of hbx) Tryz.underlying37 rfl (by kernel_rfl), rfl, rfl, hT.put 0 _ W (Below.refl _ _) hi (by decide) (by decide) c85 c87 (fun e => by cases e) (fun e => by cases e) (fun e => by cases e) (fun e => by cases e) (fun e => by cases e) (fun e => by cases e)⟩
      | 1, ho =>
        injection ho with ho; subst ho
        have d0 := hd 0 _ 24 rfl rfl ⟨⟨0, .data⟩, by simp, rfl, rfl⟩
        have e0 : a.tmps[24]?.getD undef = _ := (RY.ev_tmp a 24).trans (d0.2.1.trans d0.2.2)
        refine Or.inr (Or.inr ⟨19, #[.agg #[.int .i64 K.now, .slice a0 K.svcs.length c0, .slice a1 K.cps.length c1, .slice a2 K.bts.length c2]], by simp [go_sem, e0], rfl, (l12BookS K a0 a1 a2 c0 c1 c2 W (hk.later hT.bel) hsm).mono ?_⟩)
        rintro e W' ⟨⟨t0, t1, t2, rfl, o0, o1, o2⟩, hb⟩
        have hzz := hk.z
        obtain ⟨g0, f0, rfl⟩ := owns_is o0
        obtain ⟨g1, f1, rfl⟩ := owns_is o1
        obtain ⟨g2, f2, rfl⟩ := owns_is o2
        have hle : R.heap.size ≤ W.heap.size + 2 := by omega
        refine ⟨_, rfl, trivial, hT.put 1 _ W' hb hi (by decide) (by decide) c85 c87 (fun _ => ⟨g0, g1, g2, f0, f1, f2, rfl, owns_lo o0 hle, owns_lo o1 hle, owns_lo o2 hle, hzz.1, hzz.2.1, hzz.2.2, hsm⟩) (fun e => by cases e) (fun e => by cases e) (fun e => by cases e) (fun e => by cases e) (fun e => by cases e)⟩
      | 2, ho =>
        injection ho with ho; subst ho
        refine Or.inl ⟨.agg #[.int .i64 E.kind, .string E.sv.nm, .int .i64 E.sv.ver, .bool E.sv.gone, .int .i64 E.sv.image, .int .i64 E.sv.want, .int .i64 E.sv.down, .int .i64 E.sv.over, .int .i64 E.sv.next, .int .i64 E.sv.per, .int .i64 E.sv.least, .int .i64 E.sv.most, .int .i64 E.sv.load, .int .i64 E.sv.cool, .string E.nm, .int .i64 E.num, .bool E.flag], W, exec_load_mid 43 (.tmp 3) rfl (w.heap.size + 1) 0 ((hk' 3 (by kernel_rfl)).trans h3) [.int .i64 E.kind, .string E.sv.nm, .int .i64 E.sv.ver, .bool E.sv.gone, .int .i64 E.sv.image, .int .i64 E.sv.want, .int .i64 E.sv.down, .int .i64 E.sv.over, .int .i64 E.sv.next, .int .i64 E.sv.per, .int .i64 E.sv.least, .int .i64 E.sv.most, .int .i64 E.sv.load, .int .i64 E.sv.cool, .string E.nm, .int .i64 E.num, .bool E.flag] _ (rng_of hev) Tryz.underlying43 rfl (by kernel_rfl), rfl, rfl, hT.put 2 _ W (Below.refl _ _) hi (by decide) (by decide) c85 c87 (fun e => by cases e) (fun e => by cases e) (fun e => by cases e) (fun e => by cases e) (fun e => by cases e) (fun e => by cases e)⟩
      | 3, ho =>
        injection ho with ho; subst ho
        have d1 := hd 1 _ 25 rfl rfl ⟨⟨1, .data⟩, by simp, rfl, rfl⟩
        have d2 := hd 2 _ 26 rfl rfl ⟨⟨2, .data⟩, by simp, rfl, rfl⟩
        obtain ⟨p0, p1, p2, q0, q1, q2, ev, hO⟩ := hT.t1 d1.1 hi
        have e1 : a.tmps[25]?.getD undef = _ := (RY.ev_tmp a 25).trans (d1.2.1.trans ev)
        have e2 : a.tmps[26]?.getD undef = _ := (RY.ev_tmp a 26).trans (d2.2.1.trans d2.2.2)
        refine Or.inr (Or.inr ⟨20, #[.agg #[.int .i64 K.now, .slice p0 K.svcs.length q0, .slice p1 K.cps.length q1, .slice p2 K.bts.length q2], .agg #[.int .i64 E.kind, .string E.sv.nm, .int .i64 E.sv.ver, .bool E.sv.gone, .int .i64 E.sv.image, .int .i64 E.sv.want, .int .i64 E.sv.down, .int .i64 E.sv.over, .int .i64 E.sv.next, .int .i64 E.sv.per, .int .i64 E.sv.least, .int .i64 E.sv.most, .int .i64 E.sv.load, .int .i64 E.sv.cool, .string E.nm, .int .i64 E.num, .bool E.flag]], by simp [go_sem, e1, e2], rfl, (l17SeaS K E R.heap.size W hbs p0 p1 p2 q0 q1 q2 hO.o0 hO.o1 hO.o2 hO.z0 hO.z1 hO.z2 ⟨by omega, by omega, by omega⟩ hn0 hsz).mono ?_⟩)
        rintro e W' ⟨⟨s0, s1, s2, rfl, hO'⟩, hb, hkp⟩
        have f4 : up 4 = false := by
          cases e : up 4
          · rfl
          · have := c43 e; rw [hi] at this; cases this
        have f5 : up 5 = false := by
          cases e : up 5
          · rfl
          · have := c54 e; rw [f4] at this; cases this
        have f6 : up 6 = false := by
          cases e : up 6
          · rfl
          · have := c64 e; rw [f4] at this; cases this
        have f8 : up 8 = false := by
          cases e : up 8
          · rfl
          · have := c85 e; rw [f5] at this; cases this
        have f9 : up 9 = false := by
          cases e : up 9
          · rfl
          · have := c96 e; rw [f6] at this; cases this
        refine ⟨_, rfl, trivial, hT.bel.trans hb, ?_, ?_, ?_, ?_, ?_, ?_, ?_, ?_⟩
        · intro _ h; cases h
        · exact fun _ => ⟨s0, s1, s2, rfl, hO'⟩
        · show ((4 == 3) || up 4) = true → _; rw [f4]; intro h; cases h
        · show ((5 == 3) || up 5) = true → _; rw [f5]; intro h; cases h
        · show ((6 == 3) || up 6) = true → _; rw [f6]; intro h; cases h
        · intro h
          obtain ⟨q, g1, g2, cs, g3, g4⟩ := hT.t7 h
          exact ⟨q, g1, g2, cs, hkp q cs g3, g4⟩
        · show ((8 == 3) || up 8) = true → _; rw [f8]; intro h; cases h
        · show ((9 == 3) || up 9) = true → _; rw [f9]; intro h; cases h
      | 4, ho =>
        injection ho with ho; subst ho
        have d3 := hd 3 _ 27 rfl rfl ⟨⟨3, .data⟩, by simp, rfl, rfl⟩
        have e3 : a.tmps[27]?.getD undef = vals 3 := (RY.ev_tmp a 27).trans d3.2.1
        exact Or.inl ⟨vals 3, W, by simp [execOp, go_sem, e3], rfl, trivial, hT.put 4 _ W (Below.refl _ _) hi (by decide) (by decide) c85 c87 (fun e => by cases e) (fun _ => rfl) (fun e => by cases e) (fun e => by cases e) (fun e => by cases e) (fun e => by cases e)⟩
      | 5, ho =>
        injection ho with ho; subst ho
        have d4 := hd 4 _ 23 rfl rfl ⟨⟨4, .data⟩, by simp, rfl, rfl⟩
        obtain ⟨s0, s1, s2, ev, hO⟩ := hT.t3 (c43 d4.1)
        have e4 : a.tmps[23]?.getD undef = .tuple #[.agg #[.int .i64 (seaR K E).now, s0, s1, s2], .int .i64 (seaC K E)] := (RY.ev_tmp a 23).trans (d4.2.1.trans ((hT.t4 d4.1).trans ev))
        exact Or.inl ⟨.agg #[.int .i64 (seaR K E).now, s0, s1, s2], W, by simp [execOp, go_sem, e4], rfl, trivial, hT.put 5 _ W (Below.refl _ _) hi (by decide) (by decide) c85 c87 (fun e => by cases e) (fun e => by cases e) (fun _ x0 x1 x2 g => by rw [ev] at g; cases g; rfl) (fun e => by cases e) (fun e => by cases e) (fun e => by cases e)⟩
      | 6, ho =>
        injection ho with ho; subst ho
        have d4 := hd 4 _ 23 rfl rfl ⟨⟨4, .data⟩, by simp, rfl, rfl⟩
        obtain ⟨s0, s1, s2, ev, hO⟩ := hT.t3 (c43 d4.1)
        have e4 : a.tmps[23]?.getD undef = .tuple #[.agg #[.int .i64 (seaR K E).now, s0, s1, s2], .int .i64 (seaC K E)] := (RY.ev_tmp a 23).trans (d4.2.1.trans ((hT.t4 d4.1).trans ev))
        exact Or.inl ⟨.int .i64 (seaC K E), W, by simp [execOp, go_sem, e4], rfl, trivial, hT.put 6 _ W (Below.refl _ _) hi (by decide) (by decide) c85 c87 (fun e => by cases e) (fun e => by cases e) (fun e => by cases e) (fun _ => rfl) (fun e => by cases e) (fun e => by cases e)⟩
      | 7, ho =>
        injection ho with ho; subst ho
        have hb : Below W.heap.size W (W.alloc (.cells #[.int .i64 0, .slice none 0 0, .slice none 0 0, .slice none 0 0] 37)) := blw_alloc (Below.refl _ _) _
        exact Or.inl ⟨.pointer (some ⟨W.heap.size, 0, none⟩), W.alloc (.cells #[.int .i64 0, .slice none 0 0, .slice none 0 0, .slice none 0 0] 37), by simp [execOp, go_sem], rfl, trivial, hT.put 7 _ _ hb hi (by decide) (by decide) c85 c87 (fun e => by cases e) (fun e => by cases e) (fun e => by cases e) (fun e => by cases e) (fun _ => ⟨_, rfl, hbs, OwnBlk.alloc W _ _ _ rfl⟩) (fun e => by cases e)⟩
      | 8, ho =>
        injection ho with ho; subst ho
        have d7 := hd 7 _ 6 rfl rfl ⟨⟨7, .data⟩, by simp, rfl, rfl⟩
        have d5 := hd 5 _ 28 rfl rfl ⟨⟨5, .data⟩, by simp, rfl, rfl⟩
        have u3 := c43 (c54 d5.1)
        obtain ⟨s0, s1, s2, ev, hO⟩ := hT.t3 u3
        have hv5 := hT.t5 d5.1 s0 s1 s2 ev
        obtain ⟨q, g1, g2, g3⟩ := hT.t7 d7.1
        have e7 : a.tmps[6]?.getD undef = _ := (RY.ev_tmp a 6).trans (d7.2.1.trans g1)
        have e5 : a.tmps[28]?.getD undef = _ := (RY.ev_tmp a 28).trans (d5.2.1.trans hv5)
        obtain ⟨j0, x0, rfl⟩ := owns_is hO.o0
        obtain ⟨j1, x1, rfl⟩ := owns_is hO.o1
        obtain ⟨j2, x2, rfl⟩ := owns_is hO.o2
        have hfz := g3.frozen
        obtain ⟨r0, k0⟩ := g3.cell 0 (by omega)
        obtain ⟨r1, k1⟩ := g3.cell 1 (by omega)
        obtain ⟨r2, k2⟩ := g3.cell 2 (by omega)
        obtain ⟨r3, k3⟩ := g3.cell 3 (by omega)
        obtain ⟨cs, gh, gs⟩ := g3
        obtain ⟨y0, y1, y2, y3, rfl⟩ : ∃ y0 y1 y2 y3, cs = #[y0, y1, y2, y3] := by
          obtain ⟨l⟩ := cs
          match l, gs with
          | [y0, y1, y2, y3], _ => exact ⟨y0, y1, y2, y3, rfl⟩
        refine Or.inr (Or.inl ⟨(((W.setCell ⟨q, 0, none⟩ (.int .i64 (seaR K E).now)).setCell ⟨q, 1, none⟩ (.slice j0 (seaR K E).svcs.length x0)).setCell ⟨q, 2, none⟩ (.slice j1 (seaR K E).cps.length x1)).setCell ⟨q, 3, none⟩ (.slice j2 (seaR K E).bts.length x2), by simp [execOp, go_sem, e7, e5, hfz, k0, k1, k2, k3], rfl, ?_⟩)
        have hh := bk4 gh (.int .i64 (seaR K E).now) (.slice j0 (seaR K E).svcs.length x0) (.slice j1 (seaR K E).cps.length x1) (.slice j2 (seaR K E).bts.length x2)
        have f9 : up 9 = false := by
          cases e : up 9
          · rfl
          · have := hcl 9 _ ⟨8, .chain⟩ rfl (by simp) rfl e; rw [hi] at this; cases this
        refine ⟨puts_lo 0 g2 [.int .i64 (seaR K E).now, .slice j0 (seaR K E).svcs.length x0, .slice j1 (seaR K E).cps.length x1, .slice j2 (seaR K E).bts.length x2] W 0 hT.bel, ?_, fun _ => ⟨_, _, _, ev, BkOwn.puts 0 [.int .i64 (seaR K E).now, .slice j0 (seaR K E).svcs.length x0, .slice j1 (seaR K E).cps.length x1, .slice j2 (seaR K E).bts.length x2] W 0 hO ⟨_, gh, gs⟩⟩, hT.t4, hT.t5, hT.t6, fun _ => ⟨q, g1, g2, _, hh, rfl⟩, ?_, ?_⟩
        · intro _
          show ((3 == 8) || up 3) = false → _
          rw [u3]; intro h; cases h
        · intro _ q' s0' s1' s2' m1 m2
          rw [g1] at m1
          rw [hv5] at m2
          cases m1
          cases m2
          exact hh
        · show ((9 == 8) || up 9) = true → _; rw [f9]; intro h; cases h
      | 9, ho =>
        injection ho with ho; subst ho
        have d6 := hd 6 _ 29 rfl rfl ⟨⟨6, .data⟩, by simp, rfl, rfl⟩
        have e6 : a.tmps[29]?.getD undef = _ := (RY.ev_tmp a 29).trans (d6.2.1.trans (hT.t6 d6.1))
        exact Or.inl ⟨.int .i64 (seaC K E), W, by simp [execOp, go_sem, e6], rfl, trivial, hT.put 9 _ W (Below.refl _ _) hi (by decide) (by decide) c85 c87 (fun e => by cases e) (fun e => by cases e) (fun e => by cases e) (fun e => by cases e) (fun e => by cases e) (fun _ => rfl)⟩
      | n + 10, ho => simp at ho
  · intro up vals vs W hall hv hT
    obtain ⟨s0, s1, s2, ev, hO⟩ := hT.t3 (hall 3 (by decide))
    obtain ⟨q, g1, g2, g3⟩ := hT.t7 (hall 7 (by decide))
    have hv5 := hT.t5 (hall 5 (by decide)) s0 s1 s2 ev
    exact hQ' W vs q s0 s1 s2 hT.bel ((hv 7 _ 6 rfl rfl).1.trans g1) ((hv 9 _ 7 rfl rfl).1.trans (hT.t9 (hall 9 (by decide)))) (hT.t8 (hall 8 (by decide)) q s0 s1 s2 g1 hv5) hO

set_option maxRecDepth 8000 in
set_option maxHeartbeats 8000000 in
theorem stewSeaS (K : SBk) (E : Ev) (a0 a1 a2 : Option Addr) (c0 c1 c2 : Nat) (w : World) (h : SBkV w a0 a1 a2 K) (hsz : E.sv.nm.size ≤ maxLen ∧ E.nm.size ≤ maxLen) :
    Calls Tryz.prog 6 #[.agg #[.int .i64 K.now, .slice a0 K.svcs.length c0, .slice a1 K.cps.length c1, .slice a2 K.bts.length c2], .agg #[.int .i64 E.kind, .string E.sv.nm, .int .i64 E.sv.ver, .bool E.sv.gone, .int .i64 E.sv.image, .int .i64 E.sv.want, .int .i64 E.sv.down, .int .i64 E.sv.over, .int .i64 E.sv.next, .int .i64 E.sv.per, .int .i64 E.sv.least, .int .i64 E.sv.most, .int .i64 E.sv.load, .int .i64 E.sv.cool, .string E.nm, .int .i64 E.num, .bool E.flag]] w fun e w' =>
      (∃ s0 s1 s2, e = .returned (.tuple #[.agg #[.int .i64 (stewSeaK K E).now, s0, s1, s2], .int .i64 (stewSeaC K E)]) ∧ BkOwn w' w.heap.size (stewSeaK K E) s0 s1 s2) ∧ Below w.heap.size w w' := by
  have HH := hid h
  have HZ := hid hsz
  clear h hsz
  obtain ⟨wx, hwx⟩ : ∃ wx, wx = w.alloc (.cells #[.int .i64 K.now, .slice a0 K.svcs.length c0, .slice a1 K.cps.length c1, .slice a2 K.bts.length c2] 37) := ⟨_, rfl⟩
  have zx : wx.heap.size = w.heap.size + 1 := by rw [hwx]; exact Array.size_push _
  obtain ⟨wy, hwy⟩ : ∃ wy, wy = wx.alloc (.cells #[.int .i64 E.kind, .string E.sv.nm, .int .i64 E.sv.ver, .bool E.sv.gone, .int .i64 E.sv.image, .int .i64 E.sv.want, .int .i64 E.sv.down, .int .i64 E.sv.over, .int .i64 E.sv.next, .int .i64 E.sv.per, .int .i64 E.sv.least, .int .i64 E.sv.most, .int .i64 E.sv.load, .int .i64 E.sv.cool, .string E.nm, .int .i64 E.num, .bool E.flag] 43) := ⟨_, rfl⟩
  have zy : wy.heap.size = w.heap.size + 2 := by rw [hwy]; exact (Array.size_push _).trans (by rw [zx])
  obtain ⟨wa, hwa⟩ : ∃ wa, wa = wy.alloc (.cells #[.int .i64 0, .slice none 0 0, .slice none 0 0, .slice none 0 0] 37) := ⟨_, rfl⟩
  have b1 : Below w.heap.size w wx := by rw [hwx]; exact blw_alloc (Below.refl _ _) _
  have b2 : Below wx.heap.size wx wy := by rw [hwy]; exact blw_alloc (Below.refl _ _) _
  have b3 : Below wy.heap.size wy wa := by rw [hwa]; exact blw_alloc (Below.refl _ _) _
  have hb := blw_trans (blw_trans b1 b2) b3
  have HBX : Hid (wa.heap[w.heap.size]? = some (.cells #[.int .i64 K.now, .slice a0 K.svcs.length c0, .slice a1 K.cps.length c1, .slice a2 K.bts.length c2] 37 (0, 0))) := by
    have q : wx.heap[w.heap.size]? = some (.cells #[.int .i64 K.now, .slice a0 K.svcs.length c0, .slice a1 K.cps.length c1, .slice a2 K.bts.length c2] 37 (0, 0)) := by rw [hwx]; exact World.alloc_heap_new w _
    exact (b3.block _ (by omega)).trans ((b2.block _ (by omega)).trans q)
  have HA : Hid (EI w.heap.size w wa E) := by
    have q : wy.heap[w.heap.size + 1]? = some (.cells #[.int .i64 E.kind, .string E.sv.nm, .int .i64 E.sv.ver, .bool E.sv.gone, .int .i64 E.sv.image, .int .i64 E.sv.want, .int .i64 E.sv.down, .int .i64 E.sv.over, .int .i64 E.sv.next, .int .i64 E.sv.per, .int .i64 E.sv.least, .int .i64 E.sv.most, .int .i64 E.sv.load, .int .i64 E.sv.cool, .string E.nm, .int .i64 E.num, .bool E.flag] 43 (0, 0)) := by rw [hwy, ← zx]; exact World.alloc_heap_new wx _
    exact ⟨hb, (b3.block _ (by omega)).trans q, by rw [hwa, ← zy]; exact OwnBlk.alloc wy _ _ _ rfl, fun q cs e => (hb.block q (lt_heap e)).trans e⟩
  clear b1 b2 b3 hb
  go_enter Tryz.func6, Tryz.ntmps6
  show Code.wp Tryz.prog ss0 (StSQ K E w) _ _
  unfold StSQ
  rw [ss0_3]
  simp only [ss0, Tryz.f6, Option.getD_some, sfst_seq, ssnd_seq]
  go_upto_region 1 with fail
  rw [← hwx, ← hwy, ← hwa]
  clear hwx hwy hwa zx zy
  obtain ⟨yz, y0, y1, y2, y3⟩ := bk_at HBX.out
  go_wp2_with fail
  refine (stewValidS K a0 a1 a2 c0 c1 c2 wa (HH.out.later HA.out.bel)).mono ?_
  rintro e w1 ⟨rfl, hb⟩
  have HA1 : Hid (EI w.heap.size w w1 E) := HA.out.later (Nat.le_refl _) hb
  have HBX1 : Hid (w1.heap[w.heap.size]? = some (.cells #[.int .i64 K.now, .slice a0 K.svcs.length c0, .slice a1 K.cps.length c1, .slice a2 K.bts.length c2] 37 (0, 0))) := (hb.block _ (lt_heap HBX.out)).trans HBX.out
  clear yz y0 y1 y2 y3 hb HA HBX
  cases hok : sbOk K
  · have HQ : Hid (stewSeaK K E = noK ∧ stewSeaC K E = 1) := ⟨by unfold stewSeaK; rw [hok]; rfl, by unfold stewSeaC; rw [hok]; rfl⟩
    clear hok
    have hfz := HA1.out.own.frozen
    have hz := HA1.out.own.lt
    obtain ⟨r0, k0⟩ := HA1.out.own.cell 0 (by omega)
    obtain ⟨r1, k1⟩ := HA1.out.own.cell 1 (by omega)
    obtain ⟨r2, k2⟩ := HA1.out.own.cell 2 (by omega)
    obtain ⟨r3, k3⟩ := HA1.out.own.cell 3 (by omega)
    go_wp2
    have p := fun i hi => puts_at 0 [.int .i64 0, .slice none 0 0, .slice none 0 0, .slice none 0 0] w1 0 HA1.out.own (by simp) i hi
    have t0 := p 0 (by simp)
    have t1 := p 1 (by simp)
    have t2 := p 2 (by simp)
    have t3 := p 3 (by simp)
    simp only [puts, Nat.add_zero, Nat.zero_add, Nat.reduceAdd, List.getElem?_cons_zero, List.getElem?_cons_succ] at t0 t1 t2 t3
    have hbl := puts_below (a := w) 0 (B := w.heap.size + 2) (by omega) [.int .i64 0, .slice none 0 0, .slice none 0 0, .slice none 0 0] w1 0 HA1.out.bel
    refine bodyPost_ret (v := .tuple #[.agg #[.int .i64 0, .slice none 0 0, .slice none 0 0, .slice none 0 0], .int .i64 1]) (by simp [results, go_sem, t0, t1, t2, t3]) rfl ⟨?_, hbl⟩
    rw [HQ.out.1, HQ.out.2]
    exact ⟨_, _, _, rfl, noOwn _ _⟩
  have HK := hid hok
  have HSM := hid (small_of hok)
  clear hok
  obtain ⟨yz, y0, y1, y2, y3⟩ := bk_at HBX1.out
  have ez : w.heap.size + 1 < w1.heap.size := lt_heap HA1.out.ev
  have e0 : w1.cell? ⟨w.heap.size + 1, 0, none⟩ = some (.int .i64 E.kind) := HA1.out.at_ 0 _ rfl
  by_cases hnow : 1000000 ≤ K.now
  · have hge : decide (K.now ≥ 1000000) = true := decide_eq_true hnow
    have HN := hid hnow
    clear hnow
    go_wp2_with fail
    refine (l12InS E.kind 1 6 w1).mono ?_
    rintro e w2 ⟨rfl, rfl⟩
    cases hin : inB E.kind 1 6
    · have HQ : Hid (stewSeaK K E = K ∧ stewSeaC K E = 4) := by
        have e : stewSeaC K E = 4 := by unfold stewSeaC; rw [HK.out, if_pos rfl, if_pos HN.out, hin]; rfl
        exact ⟨by unfold stewSeaK; rw [HK.out, e]; rfl, e⟩
      have HVK : Hid (SBkV w1 a0 a1 a2 K) := HH.out.later HA1.out.bel
      clear hin
      go_wp2_with fail
      refine (l12BookS K a0 a1 a2 c0 c1 c2 w1 HVK.out HSM.out).mono ?_
      rintro e w4 ⟨⟨t0, t1, t2, rfl, o0, o1, o2⟩, hb4⟩
      have HA4 : Hid (EI w.heap.size w w4 E) := HA1.out.later (Nat.le_refl _) hb4
      have hzz := HVK.out.z
      have HO : Hid (BkOwn w4 (w1.heap.size + 2) K t0 t1 t2) := ⟨o0, o1, o2, hzz.1, hzz.2.1, hzz.2.2, HSM.out⟩
      obtain ⟨g0, f0, rfl⟩ := owns_is o0
      obtain ⟨g1, f1, rfl⟩ := owns_is o1
      obtain ⟨g2, f2, rfl⟩ := owns_is o2
      have HLT : Hid (w.heap.size ≤ w1.heap.size + 2) := by show _ ≤ _; have := HA1.out.bel.size; omega
      clear hb4 hzz o0 o1 o2 yz y0 y1 y2 y3
      have hfz := HA4.out.own.frozen
      have hz := HA4.out.own.lt
      obtain ⟨r0, k0⟩ := HA4.out.own.cell 0 (by omega)
      obtain ⟨r1, k1⟩ := HA4.out.own.cell 1 (by omega)
      obtain ⟨r2, k2⟩ := HA4.out.own.cell 2 (by omega)
      obtain ⟨r3, k3⟩ := HA4.out.own.cell 3 (by omega)
      go_wp2
      have p := fun i hi => puts_at 0 [.int .i64 K.now, .slice g0 K.svcs.length f0, .slice g1 K.cps.length f1, .slice g2 K.bts.length f2] w4 0 HA4.out.own (by simp) i hi
      have t0 := p 0 (by simp)
      have t1 := p 1 (by simp)
      have t2 := p 2 (by simp)
      have t3 := p 3 (by simp)
      simp only [puts, Nat.add_zero, Nat.zero_add, Nat.reduceAdd, List.getElem?_cons_zero, List.getElem?_cons_succ] at t0 t1 t2 t3
      have hbl := puts_below (a := w) 0 (B := w.heap.size + 2) (by omega) [.int .i64 K.now, .slice g0 K.svcs.length f0, .slice g1 K.cps.length f1, .slice g2 K.bts.length f2] w4 0 HA4.out.bel
      refine bodyPost_ret (v := .tuple #[.agg #[.int .i64 K.now, .slice g0 K.svcs.length f0, .slice g1 K.cps.length f1, .slice g2 K.bts.length f2], .int .i64 4]) (by simp [results, go_sem, t0, t1, t2, t3]) rfl ⟨?_, hbl⟩
      rw [HQ.out.1, HQ.out.2]
      exact ⟨_, _, _, rfl, (BkOwn.puts 0 [.int .i64 K.now, .slice g0 K.svcs.length f0, .slice g1 K.cps.length f1, .slice g2 K.bts.length f2] w4 0 HO.out HA4.out.own).lo HLT.out⟩

    · have HQ : Hid (stewSeaK K E = K ∧ stewSeaC K E = 7) := by
        have e : stewSeaC K E = 7 := by unfold stewSeaC; rw [HK.out, if_pos rfl, if_pos HN.out, hin]; rfl
        exact ⟨by unfold stewSeaK; rw [HK.out, e]; rfl, e⟩
      have HVK : Hid (SBkV w1 a0 a1 a2 K) := HH.out.later HA1.out.bel
      clear hin
      go_wp2_with fail
      refine (l12BookS K a0 a1 a2 c0 c1 c2 w1 HVK.out HSM.out).mono ?_
      rintro e w4 ⟨⟨t0, t1, t2, rfl, o0, o1, o2⟩, hb4⟩
      have HA4 : Hid (EI w.heap.size w w4 E) := HA1.out.later (Nat.le_refl _) hb4
      have hzz := HVK.out.z
      have HO : Hid (BkOwn w4 (w1.heap.size + 2) K t0 t1 t2) := ⟨o0, o1, o2, hzz.1, hzz.2.1, hzz.2.2, HSM.out⟩
      obtain ⟨g0, f0, rfl⟩ := owns_is o0
      obtain ⟨g1, f1, rfl⟩ := owns_is o1
      obtain ⟨g2, f2, rfl⟩ := owns_is o2
      have HLT : Hid (w.heap.size ≤ w1.heap.size + 2) := by show _ ≤ _; have := HA1.out.bel.size; omega
      clear hb4 hzz o0 o1 o2 yz y0 y1 y2 y3
      have hfz := HA4.out.own.frozen
      have hz := HA4.out.own.lt
      obtain ⟨r0, k0⟩ := HA4.out.own.cell 0 (by omega)
      obtain ⟨r1, k1⟩ := HA4.out.own.cell 1 (by omega)
      obtain ⟨r2, k2⟩ := HA4.out.own.cell 2 (by omega)
      obtain ⟨r3, k3⟩ := HA4.out.own.cell 3 (by omega)
      go_wp2
      have p := fun i hi => puts_at 0 [.int .i64 K.now, .slice g0 K.svcs.length f0, .slice g1 K.cps.length f1, .slice g2 K.bts.length f2] w4 0 HA4.out.own (by simp) i hi
      have t0 := p 0 (by simp)
      have t1 := p 1 (by simp)
      have t2 := p 2 (by simp)
      have t3 := p 3 (by simp)
      simp only [puts, Nat.add_zero, Nat.zero_add, Nat.reduceAdd, List.getElem?_cons_zero, List.getElem?_cons_succ] at t0 t1 t2 t3
      have hbl := puts_below (a := w) 0 (B := w.heap.size + 2) (by omega) [.int .i64 K.now, .slice g0 K.svcs.length f0, .slice g1 K.cps.length f1, .slice g2 K.bts.length f2] w4 0 HA4.out.bel
      refine bodyPost_ret (v := .tuple #[.agg #[.int .i64 K.now, .slice g0 K.svcs.length f0, .slice g1 K.cps.length f1, .slice g2 K.bts.length f2], .int .i64 7]) (by simp [results, go_sem, t0, t1, t2, t3]) rfl ⟨?_, hbl⟩
      rw [HQ.out.1, HQ.out.2]
      exact ⟨_, _, _, rfl, (BkOwn.puts 0 [.int .i64 K.now, .slice g0 K.svcs.length f0, .slice g1 K.cps.length f1, .slice g2 K.bts.length f2] w4 0 HO.out HA4.out.own).lo HLT.out⟩

  have HN : Hid (K.now < 1000000) := by show _ < _; omega
  go_wp2
  clear yz y0 y1 y2 y3 ez e0 hnow
  show Code.wp Tryz.prog ss3 (StSQ K E w) _ _
  rw [ss3_4]
  refine wp_seq ?_
  refine region7 K E a0 a1 a2 c0 c1 c2 w w1 _ _ rfl rfl rfl (HH.out.later HA1.out.bel) HK.out HN.out HZ.out HBX1.out HA1.out.ev ?_
  intro W vs q s0 s1 s2 hb hv6 hv7 hq hO
  simp only [ops7, r7, ss3, ss0, Tryz.f6, Option.getD_some, sfst_seq, ssnd_seq, rops_region, RY.putAll, Act.put, List.setIfInBounds_toArray, List.set_cons_zero, List.set_cons_succ]
  rw [hv6, hv7]
  exact ssTail K E a0 a1 a2 c0 c1 c2 w HH HK HN W (hid (HA1.out.later (Nat.le_refl _) hb)) (hid ((hb.block _ (lt_heap HBX1.out)).trans HBX1.out)) q _ (hid rfl) s0 s1 s2 (hid hq) (hid (hO.lo HA1.out.bel.size)) _ _ _ _ _ _ _ _ _ _ _ _ _ _ _ _ _ _ _ _ _ _ _ _ _ _ _ _ _ _ _ _ _ _ _ _ _ _ _ 

end Go.Proofs.YtclagbakddkjcaaGreat
