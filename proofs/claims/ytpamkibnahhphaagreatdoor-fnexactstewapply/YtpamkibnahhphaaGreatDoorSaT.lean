/-
  Stewards: a service taken out of the book, by the specification: region 53 of l15Apply.
-/
import Derived.Test.YtpamkibnahhphaaGreatDoorSaR
namespace Go.Proofs.YtpamkibnahhphaaGreatDoor
open Go.RowKit Go.Deep

noncomputable def sthen : Code → Code
  | .cond _ a _ => a
  | c => c
theorem sthen_cond (o : Operand) (a b : Code) : sthen (.cond o a b) = a := rfl
noncomputable def r53 : Code := sthen (ssnd (sfst ap20))
noncomputable def ops53 : List Oper := rops r53
theorem t_ks' : (36 : TypeId) ≠ 86 := by decide

/-- A row cut in two. -/
theorem cut_sv {R : World} {lo n q px : Nat} {p : Option Addr} {l : List Sv} {cs : Array Value} (h : R.ownsRow lo 86 13 (.slice p n q) n (l.flatMap SvC)) (hl : l.length = n) (hpx : R.heap[px]? = some (.cells cs 36 (0, 0))) (m : Nat) (hm : m ≤ n) (hn : n ≤ 1048576) :
    ∃ A1 A2 c2, (∀ W, (Instr.slice 32 (.slice p n q) none (some (.int .i64 (m : Nat))) none).run Tryz.prog W = .ok (.slice A1 m q) W) ∧ (∀ W, (Instr.slice 32 (.slice p n q) (some (.int .i64 (m : Nat))) none none).run Tryz.prog W = .ok (.slice A2 (n - m) c2) W) ∧
      (∀ ad, A1 = some ad → ad.block ≠ px ∧ ad.block < R.heap.size ∧ ∀ i u, ((l.take m).flatMap SvC)[i]? = some u → R.cell? (ad.add i) = some u) ∧ (∀ ad, A2 = some ad → ad.block ≠ px ∧ ad.block < R.heap.size ∧ ∀ i u, ((l.drop m).flatMap SvC)[i]? = some u → R.cell? (ad.add i) = some u) ∧ (A1 = none → m = 0) ∧ (A2 = none → n - m = 0) := by
  rcases h.2 with ⟨hv, h0⟩ | ⟨g, cap, cur, hv, hlo, hg, hc, hcm, hs, ht⟩
  · cases hv
    obtain rfl : m = 0 := by omega
    have hl0 : l = [] := List.eq_nil_of_length_eq_zero hl
    subst hl0
    exact ⟨none, none, 0, fun W => by kernel_rfl, fun W => by kernel_rfl, fun ad e => (by cases e), fun ad e => (by cases e), fun _ => rfl, fun _ => rfl⟩
  · cases hv
    have h1 : (0 : Int) ≤ (m : Int) := by omega
    have h2 : (m : Int) ≤ (n : Int) := by omega
    have h4 : (m : Int) ≤ (q : Int) := by omega
    have hgz : g < R.heap.size := lt_heap hg
    have hne : g ≠ px := fun e => by
      subst e
      rw [hg] at hpx
      injection hpx with hpx
      injection hpx with _ hpx _
      exact t_ks' hpx.symm
    have hcell : ∀ i u, (l.flatMap SvC)[i]? = some u → R.cell? ⟨g, i, none⟩ = some u := fun i u hi => by
      rw [← ht, List.getElem?_take] at hi
      simp only [World.cell?, hg]
      split at hi
      · simpa using hi
      · cases hi
    refine ⟨some ⟨g, 0, none⟩, if q = m then some ⟨g, 0, none⟩ else some ⟨g, m * 13, none⟩, q - m, fun W => (by simp [Instr.slice, go_sem, h1, h4]), fun W => (by simp [Instr.slice, go_sem, h1, h2]), fun ad e => ?_, fun ad e => ?_, fun e => (by cases e), fun e => (by split at e <;> cases e)⟩
    · injection e with e
      subst e
      refine ⟨hne, hgz, fun i u hi => ?_⟩
      rw [addN, Nat.zero_add]
      refine hcell i u ?_
      rw [← flat_take SvC 13 SvC_len, List.getElem?_take] at hi
      split at hi
      · exact hi
      · cases hi
    · have hb : ad.block = g := by split at e <;> (injection e with e; subst e; rfl)
      refine ⟨by rw [hb]; exact hne, by rw [hb]; exact hgz, fun i u hi => ?_⟩
      rw [← flat_drop SvC 13 SvC_len, List.getElem?_drop] at hi
      by_cases hq : q = m
      · exfalso
        have : (l.flatMap SvC).length ≤ m * 13 := by rw [flat_len SvC 13 SvC_len, hl]; exact Nat.mul_le_mul_right 13 (by omega)
        rw [List.getElem?_eq_none (by omega)] at hi
        cases hi
      · rw [if_neg hq] at e
        injection e with e
        subst e
        rw [addN]
        exact hcell _ u hi
def V53 (px : Nat) (p0 A1 A2 : Option Addr) (n0 q0 m k c2 : Nat) : Nat → Value → Prop
  | 1, u => u = .pointer (some ⟨px, 1, none⟩)
  | 2, u => u = .slice p0 n0 q0
  | 3, u => u = .int .i64 (m : Nat)
  | 4, u => u = .slice A1 m q0
  | 6, u => u = .pointer (some ⟨px, 1, none⟩)
  | 7, u => u = .slice p0 n0 q0
  | 8, u => u = .int .i64 (m : Nat)
  | 9, u => u = .int .i64 ((m : Int) + 1)
  | 10, u => u = .slice A2 k c2
  | 12, u => u = .pointer (some ⟨px, 1, none⟩)
  | _, _ => True

structure T53 (R : World) (px m k : Nat) (now : Int) (v1 v2 v3 : Value) (xs1 xs2 : List Value) (up : Nat → Bool) (vals : Nat → Value) (W : World) : Prop where
  bel : BelX px R W
  old : up 13 = false → W.heap[px]? = some (.cells #[.int .i64 now, v1, v2, v3] 36 (0, 0))
  t0 : up 0 = true → up 5 = false → Emp W R.heap.size 86 (vals 0)
  t5 : up 5 = true → up 11 = false → ∃ g cap, vals 5 = .slice (some ⟨g, 0, none⟩) m cap ∧ W.ownsRow R.heap.size 86 13 (vals 5) m xs1
  t11 : up 11 = true → ∃ g cap, vals 11 = .slice (some ⟨g, 0, none⟩) (m + k) cap ∧ W.ownsRow R.heap.size 86 13 (vals 11) (m + k) (xs1 ++ xs2)
  new : up 13 = true → W.heap[px]? = some (.cells #[.int .i64 now, vals 11, v2, v3] 36 (0, 0))
theorem T53.pure {R : World} {px m k : Nat} {now : Int} {v1 v2 v3 : Value} {xs1 xs2 : List Value} {up : Nat → Bool} {vals : Nat → Value} {W : World} (h : T53 R px m k now v1 v2 v3 xs1 xs2 up vals W) (i : Nat) (u : Value) (i0 : i ≠ 0) (i5 : i ≠ 5) (i11 : i ≠ 11) (i13 : i ≠ 13) :
    T53 R px m k now v1 v2 v3 xs1 xs2 (fun j => (j == i) || up j) (fun j => if j = i then u else vals j) W := by
  have e : ∀ q, i ≠ q → ((q == i) || up q) = up q := fun q hq => by rw [show (q == i) = false from by simpa using fun e => hq e.symm]; rfl
  have f : ∀ q, i ≠ q → (if q = i then u else vals q) = vals q := fun q hq => if_neg (fun e => hq e.symm)
  constructor
  · exact h.bel
  · show ((13 == i) || up 13) = false → _; rw [e 13 i13]; exact h.old
  · show ((0 == i) || up 0) = true → ((5 == i) || up 5) = false → Emp _ _ _ (if 0 = i then u else vals 0); rw [e 0 i0, e 5 i5, f 0 i0]; exact h.t0
  · show ((5 == i) || up 5) = true → ((11 == i) || up 11) = false → ∃ g cap, (if 5 = i then u else vals 5) = _ ∧ W.ownsRow _ _ _ (if 5 = i then u else vals 5) _ _; rw [e 5 i5, e 11 i11, f 5 i5]; exact h.t5
  · show ((11 == i) || up 11) = true → ∃ g cap, (if 11 = i then u else vals 11) = _ ∧ W.ownsRow _ _ _ (if 11 = i then u else vals 11) _ _; rw [e 11 i11, f 11 i11]; exact h.t11
  · show ((13 == i) || up 13) = true → W.heap[px]? = some (.cells #[_, (if 11 = i then u else vals 11), _, _] _ _); rw [e 13 i13, f 11 i11]; exact h.new

set_option maxRecDepth 8000 in
set_option maxHeartbeats 8000000 in
theorem region53 (Q : Exit → Act → World → Prop) (a0 : Act) (R : World) (px : Nat) (p0 A1 A2 : Option Addr) (n0 q0 m k c2 : Nat) (now : Int) (v2 v3 : Value) (xs1 xs2 : List Value) (hz : a0.tmps.size = 303) (h9 : a0.eval (.tmp 9) = .pointer (some ⟨px, 0, none⟩)) (h6 : a0.eval (.tmp 6) = .int .i64 (m : Nat))
    (hpx : R.heap[px]? = some (.cells #[.int .i64 now, .slice p0 n0 q0, v2, v3] 36 (0, 0)))
    (hs4 : ∀ W, (Instr.slice 32 (.slice p0 n0 q0) none (some (.int .i64 (m : Nat))) none).run Tryz.prog W = .ok (.slice A1 m q0) W) (hs10 : ∀ W, (Instr.slice 32 (.slice p0 n0 q0) (some (.int .i64 ((m : Int) + 1))) none none).run Tryz.prog W = .ok (.slice A2 k c2) W)
    (hl1 : xs1.length = m * 13) (hl2 : xs2.length = k * 13) (ho1 : ∀ u ∈ xs1, u.oneCell' = true) (ho2 : ∀ u ∈ xs2, u.oneCell' = true) (hmk : m + 1 + k ≤ 1048576)
    (hn1 : ∀ ad, A1 = some ad → ad.block ≠ px ∧ ad.block < R.heap.size ∧ ∀ i u, xs1[i]? = some u → R.cell? (ad.add i) = some u) (hn2 : ∀ ad, A2 = some ad → ad.block ≠ px ∧ ad.block < R.heap.size ∧ ∀ i u, xs2[i]? = some u → R.cell? (ad.add i) = some u) (hA1 : A1 = none → m = 0) (hA2 : A2 = none → k = 0)
    (hQ : ∀ W vs g cap, BelX px R W → R.heap.size ≤ g → W.heap[px]? = some (.cells #[.int .i64 now, .slice (some ⟨g, 0, none⟩) (m + k) cap, v2, v3] 36 (0, 0)) → W.ownsRow R.heap.size 86 13 (.slice (some ⟨g, 0, none⟩) (m + k) cap) (m + k) (xs1 ++ xs2) → Q .normal (RY.putAll ops53 a0 vs) W) :
    Code.wp Tryz.prog r53 Q a0 R := by
  have hQ' := hQ
  simp only [r53, ap20, ap19, ap18, ap17, ap16, ap15, ap14, ap13, ap12, ap11, ap10, ap9, ap8, ap7, ap6, ap5, ap4, ap3, ap2, ap1, ap0, Tryz.f20, Option.getD_some, sfst_seq, ssnd_seq, sthen_cond]
  have hpxl : px < R.heap.size := lt_heap hpx
  have hwr : IntKind.i64.wrap ((m : Int) + 1) = (m : Int) + 1 := by simp [IntKind.wrap, IntKind.bits, IntKind.signed]; omega
  refine RY.region_T (V53 px p0 A1 A2 n0 q0 m k c2) (T53 R px m k now (.slice p0 n0 q0) v2 v3 xs1 xs2) (by kernel_rfl) (by kernel_rfl) (by kernel_rfl) (by rw [hz]; kernel_rfl) ?_ ?_ ?_
  · intro vals
    exact ⟨(BelX.refl px R).drew, fun _ => hpx, fun h => (by cases h), fun h => (by cases h), fun h => (by cases h), fun h => (by cases h)⟩
  · intro up vals i o ho hi hcl a W hk hd hT
    have et9 : a.tmps[9]?.getD undef = .pointer (some ⟨px, 0, none⟩) := (RY.ev_tmp a 9).trans ((hk 9 (by kernel_rfl)).trans h9)
    have et6 : a.tmps[6]?.getD undef = .int .i64 (m : Nat) := (RY.ev_tmp a 6).trans ((hk 6 (by kernel_rfl)).trans h6)
    have c13_11 : up 13 = true → up 11 = true := hcl 13 _ ⟨11, .data⟩ rfl (by simp) rfl
    have c11_5 : up 11 = true → up 5 = true := hcl 11 _ ⟨5, .data⟩ rfl (by simp) rfl
    have c11_10 : up 11 = true → up 10 = true := hcl 11 _ ⟨10, .data⟩ rfl (by simp) rfl
    have c5_0 : up 5 = true → up 0 = true := hcl 5 _ ⟨0, .data⟩ rfl (by simp) rfl
    have c5_4 : up 5 = true → up 4 = true := hcl 5 _ ⟨4, .data⟩ rfl (by simp) rfl
    have c10_7 : up 10 = true → up 7 = true := hcl 10 _ ⟨7, .data⟩ rfl (by simp) rfl
    have c10_9 : up 10 = true → up 9 = true := hcl 10 _ ⟨9, .data⟩ rfl (by simp) rfl
    have c4_2 : up 4 = true → up 2 = true := hcl 4 _ ⟨2, .data⟩ rfl (by simp) rfl
    have hbs : R.heap.size ≤ W.heap.size := hT.bel.size
    match i, ho with
      | 1, ho =>
        injection ho with ho; subst ho
        exact Or.inl ⟨.pointer (some ⟨px, 1, none⟩), W, by simp [execOp, go_sem, et9], rfl, rfl, hT.pure 1 _ (by decide) (by decide) (by decide) (by decide)⟩
      | 2, ho =>
        injection ho with ho; subst ho
        have n13 : up 13 = false := by
          cases e : up 13
          · rfl
          · have := c4_2 (c5_4 (c11_5 (c13_11 e))); rw [hi] at this; cases this
        have hp := hT.old n13
        have x1 : W.cell? ⟨px, 1, none⟩ = some (.slice p0 n0 q0) := by simp [World.cell?, hp]
        have d0 := hd 1 _ 288 rfl rfl ⟨⟨1, .data⟩, by simp, rfl, rfl⟩
        have e0 : a.tmps[288]?.getD undef = _ := (RY.ev_tmp a 288).trans (d0.2.1.trans d0.2.2)
        exact Or.inl ⟨.slice p0 n0 q0, W, by simp [execOp, go_sem, e0, x1], rfl, rfl, hT.pure 2 _ (by decide) (by decide) (by decide) (by decide)⟩
      | 3, ho =>
        injection ho with ho; subst ho
        exact Or.inl ⟨.int .i64 (m : Nat), W, by simp [execOp, go_sem, et6], rfl, rfl, hT.pure 3 _ (by decide) (by decide) (by decide) (by decide)⟩
      | 4, ho =>
        injection ho with ho; subst ho
        have d0 := hd 2 _ 289 rfl rfl ⟨⟨2, .data⟩, by simp, rfl, rfl⟩
        have e0 : a.tmps[289]?.getD undef = _ := (RY.ev_tmp a 289).trans (d0.2.1.trans d0.2.2)
        have d1 := hd 3 _ 290 rfl rfl ⟨⟨3, .data⟩, by simp, rfl, rfl⟩
        have e1 : a.tmps[290]?.getD undef = _ := (RY.ev_tmp a 290).trans (d1.2.1.trans d1.2.2)
        exact Or.inl ⟨.slice A1 m q0, W, by simp [execOp, go_sem, e0, e1, hs4 W], rfl, rfl, hT.pure 4 _ (by decide) (by decide) (by decide) (by decide)⟩
      | 6, ho =>
        injection ho with ho; subst ho
        exact Or.inl ⟨.pointer (some ⟨px, 1, none⟩), W, by simp [execOp, go_sem, et9], rfl, rfl, hT.pure 6 _ (by decide) (by decide) (by decide) (by decide)⟩
      | 7, ho =>
        injection ho with ho; subst ho
        have n13 : up 13 = false := by
          cases e : up 13
          · rfl
          · have := c10_7 (c11_10 (c13_11 e)); rw [hi] at this; cases this
        have hp := hT.old n13
        have x1 : W.cell? ⟨px, 1, none⟩ = some (.slice p0 n0 q0) := by simp [World.cell?, hp]
        have d0 := hd 6 _ 293 rfl rfl ⟨⟨6, .data⟩, by simp, rfl, rfl⟩
        have e0 : a.tmps[293]?.getD undef = _ := (RY.ev_tmp a 293).trans (d0.2.1.trans d0.2.2)
        exact Or.inl ⟨.slice p0 n0 q0, W, by simp [execOp, go_sem, e0, x1], rfl, rfl, hT.pure 7 _ (by decide) (by decide) (by decide) (by decide)⟩
      | 8, ho =>
        injection ho with ho; subst ho
        exact Or.inl ⟨.int .i64 (m : Nat), W, by simp [execOp, go_sem, et6], rfl, rfl, hT.pure 8 _ (by decide) (by decide) (by decide) (by decide)⟩
      | 9, ho =>
        injection ho with ho; subst ho
        have d0 := hd 8 _ 295 rfl rfl ⟨⟨8, .data⟩, by simp, rfl, rfl⟩
        have e0 : a.tmps[295]?.getD undef = _ := (RY.ev_tmp a 295).trans (d0.2.1.trans d0.2.2)
        exact Or.inl ⟨.int .i64 ((m : Int) + 1), W, by simp [execOp, go_sem, e0, hwr], rfl, rfl, hT.pure 9 _ (by decide) (by decide) (by decide) (by decide)⟩
      | 10, ho =>
        injection ho with ho; subst ho
        have d0 := hd 7 _ 294 rfl rfl ⟨⟨7, .data⟩, by simp, rfl, rfl⟩
        have e0 : a.tmps[294]?.getD undef = _ := (RY.ev_tmp a 294).trans (d0.2.1.trans d0.2.2)
        have d1 := hd 9 _ 296 rfl rfl ⟨⟨9, .data⟩, by simp, rfl, rfl⟩
        have e1 : a.tmps[296]?.getD undef = _ := (RY.ev_tmp a 296).trans (d1.2.1.trans d1.2.2)
        exact Or.inl ⟨.slice A2 k c2, W, by simp [execOp, go_sem, e0, e1, hs10 W], rfl, rfl, hT.pure 10 _ (by decide) (by decide) (by decide) (by decide)⟩
      | 12, ho =>
        injection ho with ho; subst ho
        exact Or.inl ⟨.pointer (some ⟨px, 1, none⟩), W, by simp [execOp, go_sem, et9], rfl, rfl, hT.pure 12 _ (by decide) (by decide) (by decide) (by decide)⟩
      | 0, ho =>
        injection ho with ho; subst ho
        have n5 : up 5 = false := by
          cases e : up 5
          · rfl
          · have := c5_0 e; rw [hi] at this; cases this
        have n11 : up 11 = false := by
          cases e : up 11
          · rfl
          · have := c5_0 (c11_5 e); rw [hi] at this; cases this
        have n13 : up 13 = false := by
          cases e : up 13
          · rfl
          · have := c5_0 (c11_5 (c13_11 e)); rw [hi] at this; cases this
        have hb : Below W.heap.size W (W.alloc (.cells #[] 86)) := blw_alloc (Below.refl _ _) _
        refine Or.inl ⟨.slice (some ⟨W.heap.size, 0, none⟩) 0 0, W.alloc (.cells #[] 86), by simp [execOp, go_sem], rfl, trivial, ?_⟩
        refine ⟨hT.bel.on hb, fun _ => (hb.block px (Nat.lt_of_lt_of_le hpxl hbs)).trans (hT.old n13), fun _ _ => ⟨W.heap.size, rfl, hbs, heap_alloc_new W _⟩, ?_, ?_, ?_⟩
        · show ((5 == 0) || up 5) = true → _; rw [n5]; intro h; cases h
        · show ((11 == 0) || up 11) = true → _; rw [n11]; intro h; cases h
        · show ((13 == 0) || up 13) = true → _; rw [n13]; intro h; cases h
      | 5, ho =>
        injection ho with ho; subst ho
        have d0 := hd 0 _ 287 rfl rfl ⟨⟨0, .data⟩, by simp, rfl, rfl⟩
        have d1 := hd 4 _ 291 rfl rfl ⟨⟨4, .data⟩, by simp, rfl, rfl⟩
        have n11 : up 11 = false := by
          cases e : up 11
          · rfl
          · have := c11_5 e; rw [hi] at this; cases this
        have n13 : up 13 = false := by
          cases e : up 13
          · rfl
          · have := c11_5 (c13_11 e); rw [hi] at this; cases this
        obtain ⟨g, eg, hgl, hgg⟩ := hT.t0 d0.1 hi
        obtain ⟨g', cap', W', hr, hO, hX⟩ := app_own (P := Tryz.prog) R.heap.size 32 32 86 13 112 _ Tryz.undSv Tryz.infSv rfl (by decide) W g 0 0 [] ⟨rfl, .inr ⟨g, 0, #[], rfl, hgl, hgg, by omega, by decide, by simp, by simp⟩⟩ A1 m q0 xs1 hl1 (fun ad e j u hj => by
          obtain ⟨h1, h2, h3⟩ := hn1 ad e
          exact (cell_blk j (hT.bel.block ad.block h2 h1)).trans (h3 j u hj)) hA1 ho1 (by omega) (by omega) hbs
        rw [Nat.zero_add] at hr hO
        rw [List.nil_append] at hO
        refine Or.inl ⟨_, W', exec_append (.tmp 287) (.tmp 291) 32 rfl (d0.2.1.trans eg) (d1.2.1.trans d1.2.2) hr, rfl, trivial, ?_⟩
        refine ⟨⟨hX.os.trans hT.bel.os, hX.tape.trans hT.bel.tape, hX.output.trans hT.bel.output, Nat.le_trans hT.bel.size hX.size, fun q hq hn => (hX.block q (Nat.lt_of_lt_of_le hq hbs) (by omega)).trans (hT.bel.block q hq hn)⟩, fun _ => (hX.block px (Nat.lt_of_lt_of_le hpxl hbs) (by omega)).trans (hT.old n13), ?_, fun _ _ => ⟨g', cap', rfl, hO⟩, ?_, ?_⟩
        · show _ → ((5 == 5) || up 5) = false → _
          intro _ h; cases h
        · show ((11 == 5) || up 11) = true → _; rw [n11]; intro h; cases h
        · show ((13 == 5) || up 13) = true → _; rw [n13]; intro h; cases h
      | 11, ho =>
        injection ho with ho; subst ho
        have d0 := hd 5 _ 292 rfl rfl ⟨⟨5, .data⟩, by simp, rfl, rfl⟩
        have d1 := hd 10 _ 297 rfl rfl ⟨⟨10, .data⟩, by simp, rfl, rfl⟩
        have n13 : up 13 = false := by
          cases e : up 13
          · rfl
          · have := c13_11 e; rw [hi] at this; cases this
        obtain ⟨g, cap, eg, hO⟩ := hT.t5 d0.1 hi
        rw [eg] at hO
        obtain ⟨g', cap', W', hr, hO', hX⟩ := app_own (P := Tryz.prog) R.heap.size 32 32 86 13 112 _ Tryz.undSv Tryz.infSv rfl (by decide) W g m cap xs1 hO A2 k c2 xs2 hl2 (fun ad e j u hj => by
          obtain ⟨h1, h2, h3⟩ := hn2 ad e
          exact (cell_blk j (hT.bel.block ad.block h2 h1)).trans (h3 j u hj)) hA2 ho2 (by omega) (by omega) hbs
        have hgR : R.heap.size ≤ g := by
          rcases hO.2 with ⟨hv, _⟩ | ⟨g2, _, _, hv, hb2, _⟩
          · cases hv
          · cases hv; exact hb2
        refine Or.inl ⟨_, W', exec_append (.tmp 292) (.tmp 297) 32 rfl (d0.2.1.trans eg) (d1.2.1.trans d1.2.2) hr, rfl, trivial, ?_⟩
        refine ⟨⟨hX.os.trans hT.bel.os, hX.tape.trans hT.bel.tape, hX.output.trans hT.bel.output, Nat.le_trans hT.bel.size hX.size, fun q hq hn => (hX.block q (Nat.lt_of_lt_of_le hq hbs) (by omega)).trans (hT.bel.block q hq hn)⟩, fun _ => (hX.block px (Nat.lt_of_lt_of_le hpxl hbs) (by omega)).trans (hT.old n13), ?_, ?_, fun _ => ⟨g', cap', rfl, hO'⟩, ?_⟩
        · show _ → ((5 == 11) || up 5) = false → _
          rw [d0.1]; intro _ h; cases h
        · show _ → ((11 == 11) || up 11) = false → _
          intro _ h; cases h
        · show ((13 == 11) || up 13) = true → _; rw [n13]; intro h; cases h
      | 13, ho =>
        injection ho with ho; subst ho
        have d0 := hd 12 _ 299 rfl rfl ⟨⟨12, .data⟩, by simp, rfl, rfl⟩
        have d1 := hd 11 _ 298 rfl rfl ⟨⟨11, .data⟩, by simp, rfl, rfl⟩
        have e0 : a.tmps[299]?.getD undef = _ := (RY.ev_tmp a 299).trans (d0.2.1.trans d0.2.2)
        obtain ⟨g, cap, eg, hO⟩ := hT.t11 d1.1
        have e1 : a.tmps[298]?.getD undef = .slice (some ⟨g, 0, none⟩) (m + k) cap := (RY.ev_tmp a 298).trans (d1.2.1.trans eg)
        have hp := hT.old hi
        have x1 : W.cell? ⟨px, 1, none⟩ = some (.slice p0 n0 q0) := by simp [World.cell?, hp]
        have fz : ∀ q, W.frozen? ⟨px, q, none⟩ = false := fun q => by simp [World.frozen?, hp]
        have hpz : px < W.heap.size := lt_heap hp
        have hgR : R.heap.size ≤ g := by
          rw [eg] at hO
          rcases hO.2 with ⟨hv, _⟩ | ⟨g2, _, _, hv, hb2, _⟩
          · cases hv
          · cases hv; exact hb2
        refine Or.inr ⟨W.setCell ⟨px, 1, none⟩ (.slice (some ⟨g, 0, none⟩) (m + k) cap), by simp [execOp, go_sem, e0, e1, x1, fz], rfl, ?_⟩
        refine ⟨hT.bel.sc 1 _, fun h => (by cases h), ?_, ?_, fun _ => ⟨g, cap, eg, owns_sc hO (by omega) 1 _⟩, fun _ => ?_⟩
        · show _ → ((5 == 13) || up 5) = false → _
          rw [c11_5 d1.1]; intro _ h; cases h
        · show _ → ((11 == 13) || up 11) = false → _
          rw [d1.1]; intro _ h; cases h
        · rw [heap_setCell_same W px 1 _ _ _ hp, eg]; rfl
      | n + 14, ho => simp at ho
  · intro up vals vs W hall hv hT
    obtain ⟨g, cap, e, hO⟩ := hT.t11 (hall 11 (by decide))
    have hn := hT.new (hall 13 (by decide))
    rw [e] at hn hO
    have hg : R.heap.size ≤ g := by
      rcases hO.2 with ⟨hv, _⟩ | ⟨g', cap', cur, hv, hb, _⟩
      · cases hv
      · cases hv; exact hb
    exact hQ' W vs g cap hT.bel hg hn hO

end Go.Proofs.YtpamkibnahhphaaGreatDoor
