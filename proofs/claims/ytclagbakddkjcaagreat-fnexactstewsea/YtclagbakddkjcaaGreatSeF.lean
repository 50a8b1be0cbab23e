/-
  The sea: a wish, by the specification.
-/
import Derived.Test.YtclagbakddkjcaaGreatSeD
namespace Go.Proofs.YtclagbakddkjcaaGreat
open Go.RowKit Go.Deep

theorem lt_heap {W : World} {b : Nat} {o : Obj} (h : W.heap[b]? = some o) : b < W.heap.size := (Array.getElem?_eq_some_iff.1 h).1
theorem heap_alloc_new (W : World) (o : Obj) : (W.alloc o).heap[W.heap.size]? = some o := World.alloc_heap_new W o
noncomputable def sfst : Code → Code
  | .seq a _ => a
  | c => c
noncomputable def ssnd : Code → Code
  | .seq _ b => b
  | c => c
theorem sfst_seq (a b : Code) : sfst (.seq a b) = a := rfl
theorem ssnd_seq (a b : Code) : ssnd (.seq a b) = b := rfl
noncomputable def wi0 : Code := (Tryz.f45.body).getD .skip
noncomputable def wi1 : Code := ssnd wi0
noncomputable def wi2 : Code := ssnd wi1
noncomputable def wi3 : Code := ssnd wi2
noncomputable def wi4 : Code := ssnd wi3
noncomputable def wi5 : Code := ssnd wi4
noncomputable def wi6 : Code := ssnd wi5
noncomputable def wi7 : Code := ssnd wi6
noncomputable def wi8 : Code := ssnd wi7
noncomputable def wi9 : Code := ssnd wi8
noncomputable def wi10 : Code := ssnd wi9
noncomputable def wi11 : Code := ssnd wi10
noncomputable def r11 : Code := sfst wi8
noncomputable def rops' : Code → List Oper
  | .region _ o _ => o.toList
  | _ => []
theorem r11_eq : r11 = .region 11 (rops' r11).toArray true := by kernel_rfl

theorem cell_blk {R W : World} {ad : Addr} (j : Nat) (h : W.heap[ad.block]? = R.heap[ad.block]?) : W.cell? (ad.add j) = R.cell? (ad.add j) := by
  have e : (ad.add j).block = ad.block := by unfold Addr.add; split <;> rfl
  exact World.cell?_of_block (w := R) (by rw [e]; exact h)
def V11 (px : Nat) (p1 A1 A2 : Option Addr) (n1 q1 m k c2 : Nat) (c : Sv) : Nat → Value → Prop
  | 1, u => u = .pointer (some ⟨px, 1, none⟩)
  | 2, u => u = .slice p1 n1 q1
  | 3, u => u = .int .i64 (m : Nat)
  | 4, u => u = .slice A1 m q1
  | 6, u => u = .agg #[.string c.nm, .int .i64 c.ver, .bool c.gone, .int .i64 c.image, .int .i64 c.want, .int .i64 c.down, .int .i64 c.over, .int .i64 c.next, .int .i64 c.per, .int .i64 c.least, .int .i64 c.most, .int .i64 c.load, .int .i64 c.cool]
  | 9, u => u = .slice A2 k c2
  | 11, u => u = .pointer (some ⟨px, 1, none⟩)
  | _, _ => True

/-- What stands while the copy is put into its place. -/
structure T11 (R : World) (px m k : Nat) (now : Int) (v0 v2 v3 : Value) (xs1 xs2 : List Value) (c : Sv) (up : Nat → Bool) (vals : Nat → Value) (W : World) : Prop where
  bel : BelX px R W
  old : up 12 = false → W.heap[px]? = some (.cells #[.int .i64 now, v0, v2, v3] 37 (0, 0))
  t0 : up 0 = true → up 5 = false → Emp W R.heap.size 41 (vals 0)
  t5 : up 5 = true → up 8 = false → ∃ g cap, vals 5 = .slice (some ⟨g, 0, none⟩) m cap ∧ W.ownsRow R.heap.size 41 13 (vals 5) m xs1
  t7 : up 7 = true → up 8 = false → ∃ h, vals 7 = .slice (some ⟨h, 0, none⟩) 1 1 ∧ R.heap.size ≤ h ∧ W.heap[h]? = some (.cells (SvC c).toArray 41 (0, 0))
  t8 : up 8 = true → up 10 = false → ∃ g cap, vals 8 = .slice (some ⟨g, 0, none⟩) (m + 1) cap ∧ W.ownsRow R.heap.size 41 13 (vals 8) (m + 1) (xs1 ++ SvC c)
  t13 : up 10 = true → ∃ g cap, vals 10 = .slice (some ⟨g, 0, none⟩) (m + 1 + k) cap ∧ W.ownsRow R.heap.size 41 13 (vals 10) (m + 1 + k) (xs1 ++ SvC c ++ xs2)
  new : up 12 = true → W.heap[px]? = some (.cells #[.int .i64 now, vals 10, v2, v3] 37 (0, 0))

theorem T11.pure {R : World} {px m k : Nat} {now : Int} {v0 v2 v3 : Value} {xs1 xs2 : List Value} {c : Sv} {up : Nat → Bool} {vals : Nat → Value} {W : World} (h : T11 R px m k now v0 v2 v3 xs1 xs2 c up vals W) (i : Nat) (u : Value) (i0 : i ≠ 0) (i5 : i ≠ 5) (i7 : i ≠ 7) (i8 : i ≠ 8) (i13 : i ≠ 10) (i15 : i ≠ 12) :
    T11 R px m k now v0 v2 v3 xs1 xs2 c (fun j => (j == i) || up j) (fun j => if j = i then u else vals j) W := by
  have e : ∀ q, i ≠ q → ((q == i) || up q) = up q := fun q hq => by rw [show (q == i) = false from by simpa using fun e => hq e.symm]; rfl
  have f : ∀ q, i ≠ q → (if q = i then u else vals q) = vals q := fun q hq => if_neg (fun e => hq e.symm)
  constructor
  · exact h.bel
  · show ((12 == i) || up 12) = false → _; rw [e 12 i15]; exact h.old
  · show ((0 == i) || up 0) = true → ((5 == i) || up 5) = false → Emp _ _ _ (if 0 = i then u else vals 0); rw [e 0 i0, e 5 i5, f 0 i0]; exact h.t0
  · show ((5 == i) || up 5) = true → ((8 == i) || up 8) = false → ∃ g cap, (if 5 = i then u else vals 5) = _ ∧ W.ownsRow _ _ _ (if 5 = i then u else vals 5) _ _; rw [e 5 i5, e 8 i8, f 5 i5]; exact h.t5
  · show ((7 == i) || up 7) = true → ((8 == i) || up 8) = false → ∃ g, (if 7 = i then u else vals 7) = _ ∧ _; rw [e 7 i7, e 8 i8, f 7 i7]; exact h.t7
  · show ((8 == i) || up 8) = true → ((10 == i) || up 10) = false → ∃ g cap, (if 8 = i then u else vals 8) = _ ∧ W.ownsRow _ _ _ (if 8 = i then u else vals 8) _ _; rw [e 8 i8, e 10 i13, f 8 i8]; exact h.t8
  · show ((10 == i) || up 10) = true → ∃ g cap, (if 10 = i then u else vals 10) = _ ∧ W.ownsRow _ _ _ (if 10 = i then u else vals 10) _ _; rw [e 10 i13, f 10 i13]; exact h.t13
  · show ((12 == i) || up 12) = true → W.heap[px]? = some (.cells #[_, (if 10 = i then u else vals 10), _, _] _ _); rw [e 12 i15, f 10 i13]; exact h.new

noncomputable def ops11 : List Oper := rops' r11

set_option maxRecDepth 8000 in
set_option maxHeartbeats 8000000 in
theorem region11 (Q : Exit → Act → World → Prop) (a0 : Act) (R : World) (px : Nat) (p1 A1 A2 : Option Addr) (n1 q1 m k c2 : Nat) (c : Sv) (pc : Nat) (now : Int) (v2 v3 : Value) (xs1 xs2 : List Value) (hz : a0.tmps.size = 67) (h9 : a0.eval (.tmp 3) = .pointer (some ⟨px, 0, none⟩)) (h16 : a0.eval (.tmp 4) = .pointer (some ⟨pc, 0, none⟩)) (h17 : a0.eval (.tmp 7) = .int .i64 (m : Nat)) (h8 : a0.eval (.tmp 8) = .slice A2 k c2)
    (hpx : R.heap[px]? = some (.cells #[.int .i64 now, .slice p1 n1 q1, v2, v3] 37 (0, 0))) (hpc : R.heap[pc]? = some (.cells #[.string c.nm, .int .i64 c.ver, .bool c.gone, .int .i64 c.image, .int .i64 c.want, .int .i64 c.down, .int .i64 c.over, .int .i64 c.next, .int .i64 c.per, .int .i64 c.least, .int .i64 c.most, .int .i64 c.load, .int .i64 c.cool] 41 (0, 0))) (hne : pc ≠ px)
    (hs4 : ∀ W, (Instr.slice 33 (.slice p1 n1 q1) none (some (.int .i64 (m : Nat))) none).run Tryz.prog W = .ok (.slice A1 m q1) W)
    (hl1 : xs1.length = m * 13) (hl2 : xs2.length = k * 13) (ho1 : ∀ u ∈ xs1, u.oneCell' = true) (ho2 : ∀ u ∈ xs2, u.oneCell' = true) (hmk : m + 1 + k ≤ 1048576)
    (hn1 : ∀ ad, A1 = some ad → ad.block ≠ px ∧ ad.block < R.heap.size ∧ ∀ i u, xs1[i]? = some u → R.cell? (ad.add i) = some u) (hn2 : ∀ ad, A2 = some ad → ad.block ≠ px ∧ ad.block < R.heap.size ∧ ∀ i u, xs2[i]? = some u → R.cell? (ad.add i) = some u) (hA1 : A1 = none → m = 0) (hA2 : A2 = none → k = 0)
    (hQ : ∀ W vs g cap, BelX px R W → R.heap.size ≤ g → W.heap[px]? = some (.cells #[.int .i64 now, .slice (some ⟨g, 0, none⟩) (m + 1 + k) cap, v2, v3] 37 (0, 0)) → W.ownsRow R.heap.size 41 13 (.slice (some ⟨g, 0, none⟩) (m + 1 + k) cap) (m + 1 + k) (xs1 ++ SvC c ++ xs2) → Q .normal (RY.putAll ops11 a0 vs) W) :
    Code.wp Tryz.prog r11 Q a0 R := by
  have hQ' := hQ
  simp only [r11, wi8, wi7, wi6, wi5, wi4, wi3, wi2, wi1, wi0, Tryz.f45, Option.getD_some, sfst_seq, ssnd_seq]
  have hpxl : px < R.heap.size := lt_heap hpx
  have hpcl : pc < R.heap.size := lt_heap hpc
  refine RY.region_T (V11 px p1 A1 A2 n1 q1 m k c2 c) (T11 R px m k now (.slice p1 n1 q1) v2 v3 xs1 xs2 c) (by kernel_rfl) (by kernel_rfl) (by kernel_rfl) (by rw [hz]; kernel_rfl) ?_ ?_ ?_
  · intro vals
    exact ⟨(BelX.refl px R).drew, fun _ => hpx, fun h => (by cases h), fun h => (by cases h), fun h => (by cases h), fun h => (by cases h), fun h => (by cases h), fun h => (by cases h)⟩
  · intro up vals i o ho hi hcl a W hk hd hT
    have et9 : a.tmps[3]?.getD undef = .pointer (some ⟨px, 0, none⟩) := (RY.ev_tmp a 3).trans ((hk 3 (by kernel_rfl)).trans h9)
    have et16 : a.tmps[4]?.getD undef = .pointer (some ⟨pc, 0, none⟩) := (RY.ev_tmp a 4).trans ((hk 4 (by kernel_rfl)).trans h16)
    have et17 : a.tmps[7]?.getD undef = .int .i64 (m : Nat) := (RY.ev_tmp a 7).trans ((hk 7 (by kernel_rfl)).trans h17)
    have et8 : a.tmps[8]?.getD undef = .slice A2 k c2 := (RY.ev_tmp a 8).trans ((hk 8 (by kernel_rfl)).trans h8)
    have hpcW : ∀ q, W.cell? ⟨pc, q, none⟩ = (#[.string c.nm, .int .i64 c.ver, .bool c.gone, .int .i64 c.image, .int .i64 c.want, .int .i64 c.down, .int .i64 c.over, .int .i64 c.next, .int .i64 c.per, .int .i64 c.least, .int .i64 c.most, .int .i64 c.load, .int .i64 c.cool] : Array Value)[q]? := fun q => by
      have := hT.bel.block pc hpcl hne
      simp [World.cell?, this, hpc]
    have c15_13 : up 12 = true → up 10 = true := hcl 12 _ ⟨10, .data⟩ rfl (by simp) rfl
    have c13_8 : up 10 = true → up 8 = true := hcl 10 _ ⟨8, .data⟩ rfl (by simp) rfl
    have c13_12 : up 10 = true → up 9 = true := hcl 10 _ ⟨9, .data⟩ rfl (by simp) rfl
    have c8_5 : up 8 = true → up 5 = true := hcl 8 _ ⟨5, .data⟩ rfl (by simp) rfl
    have c8_7 : up 8 = true → up 7 = true := hcl 8 _ ⟨7, .data⟩ rfl (by simp) rfl
    have c5_0 : up 5 = true → up 0 = true := hcl 5 _ ⟨0, .data⟩ rfl (by simp) rfl
    have c5_4 : up 5 = true → up 4 = true := hcl 5 _ ⟨4, .data⟩ rfl (by simp) rfl
    have c4_2 : up 4 = true → up 2 = true := hcl 4 _ ⟨2, .data⟩ rfl (by simp) rfl
    have c4_3 : up 4 = true → up 3 = true := hcl 4 _ ⟨3, .data⟩ rfl (by simp) rfl
    have c2_1 : up 2 = true → up 1 = true := hcl 2 _ ⟨1, .data⟩ rfl (by simp) rfl
    have c7_6 : up 7 = true → up 6 = true := hcl 7 _ ⟨6, .data⟩ rfl (by simp) rfl
    have hbs : R.heap.size ≤ W.heap.size := hT.bel.size
    match i, ho with
      | 1, ho =>
        injection ho with ho; subst ho
        exact Or.inl ⟨.pointer (some ⟨px, 1, none⟩), W, by simp [execOp, go_sem, et9], rfl, rfl, hT.pure 1 _ (by decide) (by decide) (by decide) (by decide) (by decide) (by decide)⟩
      | 2, ho =>
        injection ho with ho; subst ho
        have n15 : up 12 = false := by
          cases e : up 12
          · rfl
          · have := c4_2 (c5_4 (c8_5 (c13_8 (c15_13 e)))); rw [hi] at this; cases this
        have hp := hT.old n15
        have x2 : W.cell? ⟨px, 1, none⟩ = some (.slice p1 n1 q1) := by simp [World.cell?, hp]
        have d0 := hd 1 _ 55 rfl rfl ⟨⟨1, .data⟩, by simp, rfl, rfl⟩
        have e0 : a.tmps[55]?.getD undef = _ := (RY.ev_tmp a 55).trans (d0.2.1.trans d0.2.2)
        exact Or.inl ⟨.slice p1 n1 q1, W, by simp [execOp, go_sem, e0, x2], rfl, rfl, hT.pure 2 _ (by decide) (by decide) (by decide) (by decide) (by decide) (by decide)⟩
      | 3, ho =>
        injection ho with ho; subst ho
        exact Or.inl ⟨.int .i64 (m : Nat), W, by simp [execOp, go_sem, et17], rfl, rfl, hT.pure 3 _ (by decide) (by decide) (by decide) (by decide) (by decide) (by decide)⟩
      | 4, ho =>
        injection ho with ho; subst ho
        have d0 := hd 2 _ 56 rfl rfl ⟨⟨2, .data⟩, by simp, rfl, rfl⟩
        have e0 : a.tmps[56]?.getD undef = _ := (RY.ev_tmp a 56).trans (d0.2.1.trans d0.2.2)
        have d1 := hd 3 _ 57 rfl rfl ⟨⟨3, .data⟩, by simp, rfl, rfl⟩
        have e1 : a.tmps[57]?.getD undef = _ := (RY.ev_tmp a 57).trans (d1.2.1.trans d1.2.2)
        exact Or.inl ⟨.slice A1 m q1, W, by simp [execOp, go_sem, e0, e1, hs4 W], rfl, rfl, hT.pure 4 _ (by decide) (by decide) (by decide) (by decide) (by decide) (by decide)⟩
      | 6, ho =>
        injection ho with ho; subst ho
        exact Or.inl ⟨.agg #[.string c.nm, .int .i64 c.ver, .bool c.gone, .int .i64 c.image, .int .i64 c.want, .int .i64 c.down, .int .i64 c.over, .int .i64 c.next, .int .i64 c.per, .int .i64 c.least, .int .i64 c.most, .int .i64 c.load, .int .i64 c.cool], W, by simp [execOp, go_sem, et16, hpcW], rfl, rfl, hT.pure 6 _ (by decide) (by decide) (by decide) (by decide) (by decide) (by decide)⟩
      | 9, ho =>
        injection ho with ho; subst ho
        exact Or.inl ⟨.slice A2 k c2, W, by simp [execOp, go_sem, et8], rfl, rfl, hT.pure 9 _ (by decide) (by decide) (by decide) (by decide) (by decide) (by decide)⟩
      | 11, ho =>
        injection ho with ho; subst ho
        exact Or.inl ⟨.pointer (some ⟨px, 1, none⟩), W, by simp [execOp, go_sem, et9], rfl, rfl, hT.pure 11 _ (by decide) (by decide) (by decide) (by decide) (by decide) (by decide)⟩
      | 0, ho =>
        injection ho with ho; subst ho
        have n5 : up 5 = false := by
          cases e : up 5
          · rfl
          · have := c5_0 e; rw [hi] at this; cases this
        have n8 : up 8 = false := by
          cases e : up 8
          · rfl
          · have := c5_0 (c8_5 e); rw [hi] at this; cases this
        have n13 : up 10 = false := by
          cases e : up 10
          · rfl
          · have := c5_0 (c8_5 (c13_8 e)); rw [hi] at this; cases this
        have n15 : up 12 = false := by
          cases e : up 12
          · rfl
          · have := c5_0 (c8_5 (c13_8 (c15_13 e))); rw [hi] at this; cases this
        have hb : Below W.heap.size W (W.alloc (.cells #[] 41)) := blw_alloc (Below.refl _ _) _
        refine Or.inl ⟨.slice (some ⟨W.heap.size, 0, none⟩) 0 0, W.alloc (.cells #[] 41), by simp [execOp, go_sem], rfl, trivial, ?_⟩
        refine ⟨hT.bel.on hb, fun _ => (hb.block px (Nat.lt_of_lt_of_le hpxl hbs)).trans (hT.old n15), fun _ _ => ⟨W.heap.size, rfl, hbs, heap_alloc_new W _⟩, ?_, ?_, ?_, ?_, ?_⟩
        · show ((5 == 0) || up 5) = true → _; rw [n5]; intro h; cases h
        · show ((7 == 0) || up 7) = true → ((8 == 0) || up 8) = false → _
          intro h7 h8
          obtain ⟨h, e, hl, hh⟩ := hT.t7 (by simpa using h7) (by simpa using h8)
          exact ⟨h, e, hl, (hb.block h (lt_heap hh)).trans hh⟩
        · show ((8 == 0) || up 8) = true → _; rw [n8]; intro h; cases h
        · show ((10 == 0) || up 10) = true → _; rw [n13]; intro h; cases h
        · show ((12 == 0) || up 12) = true → _; rw [n15]; intro h; cases h
      | 7, ho =>
        injection ho with ho; subst ho
        have d0 := hd 6 _ 60 rfl rfl ⟨⟨6, .data⟩, by simp, rfl, rfl⟩
        have e0 : a.tmps[60]?.getD undef = _ := (RY.ev_tmp a 60).trans (d0.2.1.trans d0.2.2)
        have n8 : up 8 = false := by
          cases e : up 8
          · rfl
          · have := c8_7 e; rw [hi] at this; cases this
        have n13 : up 10 = false := by
          cases e : up 10
          · rfl
          · have := c8_7 (c13_8 e); rw [hi] at this; cases this
        have n15 : up 12 = false := by
          cases e : up 12
          · rfl
          · have := c8_7 (c13_8 (c15_13 e)); rw [hi] at this; cases this
        have hb : Below W.heap.size W (W.alloc (.cells (SvC c).toArray 41)) := blw_alloc (Below.refl _ _) _
        refine Or.inl ⟨.slice (some ⟨W.heap.size, 0, none⟩) 1 1, W.alloc (.cells (SvC c).toArray 41), by simp [execOp, go_sem, e0, SvC], rfl, trivial, ?_⟩
        refine ⟨hT.bel.on hb, fun _ => (hb.block px (Nat.lt_of_lt_of_le hpxl hbs)).trans (hT.old n15), ?_, ?_, fun _ _ => ⟨W.heap.size, rfl, hbs, heap_alloc_new W _⟩, ?_, ?_, ?_⟩
        · show ((0 == 7) || up 0) = true → ((5 == 7) || up 5) = false → _
          intro h7 h8
          exact Emp.on (hT.t0 (by simpa using h7) (by simpa using h8)) hb
        · show ((5 == 7) || up 5) = true → ((8 == 7) || up 8) = false → _
          intro h7 h8
          obtain ⟨g, cap, e, hO⟩ := hT.t5 (by simpa using h7) (by simpa using h8)
          exact ⟨g, cap, e, owns_on hO hb⟩
        · show ((8 == 7) || up 8) = true → _; rw [n8]; intro h; cases h
        · show ((10 == 7) || up 10) = true → _; rw [n13]; intro h; cases h
        · show ((12 == 7) || up 12) = true → _; rw [n15]; intro h; cases h
      | 5, ho =>
        injection ho with ho; subst ho
        have d0 := hd 0 _ 54 rfl rfl ⟨⟨0, .data⟩, by simp, rfl, rfl⟩
        have d1 := hd 4 _ 58 rfl rfl ⟨⟨4, .data⟩, by simp, rfl, rfl⟩
        have n8 : up 8 = false := by
          cases e : up 8
          · rfl
          · have := c8_5 e; rw [hi] at this; cases this
        have n13 : up 10 = false := by
          cases e : up 10
          · rfl
          · have := c8_5 (c13_8 e); rw [hi] at this; cases this
        have n15 : up 12 = false := by
          cases e : up 12
          · rfl
          · have := c8_5 (c13_8 (c15_13 e)); rw [hi] at this; cases this
        obtain ⟨g, eg, hgl, hgg⟩ := hT.t0 d0.1 hi
        obtain ⟨g', cap', W', hr, hO, hX⟩ := app_own (P := Tryz.prog) R.heap.size 33 33 41 13 112 _ Tryz.undSv Tryz.infSv rfl (by decide) W g 0 0 [] ⟨rfl, .inr ⟨g, 0, #[], rfl, hgl, hgg, by omega, by decide, by simp, by simp⟩⟩ A1 m q1 xs1 hl1 (fun ad e j u hj => by
          obtain ⟨h1, h2, h3⟩ := hn1 ad e
          exact (cell_blk j (hT.bel.block ad.block h2 h1)).trans (h3 j u hj)) hA1 ho1 (by omega) (by omega) hbs
        rw [Nat.zero_add] at hr hO
        rw [List.nil_append] at hO
        refine Or.inl ⟨_, W', exec_append (.tmp 54) (.tmp 58) 33 rfl (d0.2.1.trans eg) (d1.2.1.trans d1.2.2) hr, rfl, trivial, ?_⟩
        refine ⟨⟨hX.os.trans hT.bel.os, hX.tape.trans hT.bel.tape, hX.output.trans hT.bel.output, Nat.le_trans hT.bel.size hX.size, fun q hq hn => (hX.block q (Nat.lt_of_lt_of_le hq hbs) (by omega)).trans (hT.bel.block q hq hn)⟩, fun _ => (hX.block px (Nat.lt_of_lt_of_le hpxl hbs) (by omega)).trans (hT.old n15), ?_, fun _ _ => ⟨g', cap', rfl, hO⟩, ?_, ?_, ?_, ?_⟩
        · show _ → ((5 == 5) || up 5) = false → _
          intro _ h; cases h
        · show ((7 == 5) || up 7) = true → ((8 == 5) || up 8) = false → _
          intro h7 h8
          obtain ⟨h, e, hl, hh⟩ := hT.t7 (by simpa using h7) (by simpa using h8)
          refine ⟨h, e, hl, (hX.block h (lt_heap hh) (fun e2 => ?_)).trans hh⟩
          rw [e2, hgg] at hh
          injection hh with hh
          injection hh with hh
          have := congrArg Array.size hh
          simp [SvC] at this
        · show ((8 == 5) || up 8) = true → _; rw [n8]; intro h; cases h
        · show ((10 == 5) || up 10) = true → _; rw [n13]; intro h; cases h
        · show ((12 == 5) || up 12) = true → _; rw [n15]; intro h; cases h
      | 8, ho =>
        injection ho with ho; subst ho
        have d0 := hd 5 _ 59 rfl rfl ⟨⟨5, .data⟩, by simp, rfl, rfl⟩
        have d1 := hd 7 _ 61 rfl rfl ⟨⟨7, .data⟩, by simp, rfl, rfl⟩
        have n13 : up 10 = false := by
          cases e : up 10
          · rfl
          · have := c13_8 e; rw [hi] at this; cases this
        have n15 : up 12 = false := by
          cases e : up 12
          · rfl
          · have := c13_8 (c15_13 e); rw [hi] at this; cases this
        obtain ⟨g, cap, eg, hO⟩ := hT.t5 d0.1 hi
        obtain ⟨h, eh, hhl, hhh⟩ := hT.t7 d1.1 hi
        rw [eg] at hO
        obtain ⟨g', cap', W', hr, hO', hX⟩ := app_own (P := Tryz.prog) R.heap.size 33 33 41 13 112 _ Tryz.undSv Tryz.infSv rfl (by decide) W g m cap xs1 hO (some ⟨h, 0, none⟩) 1 1 (SvC c) rfl (fun ad e j u hj => by
          injection e with e
          subst e
          rw [addN]
          simp [World.cell?, hhh, hj]) (fun e => by cases e) (fun u hu => by have := SvC_one [c] u (by simpa using hu); exact this) (by omega) (by omega) hbs
        have hgR : R.heap.size ≤ g := by
          rcases hO.2 with ⟨hv, _⟩ | ⟨g2, _, _, hv, hb2, _⟩
          · cases hv
          · cases hv; exact hb2
        refine Or.inl ⟨_, W', exec_append (.tmp 59) (.tmp 61) 33 rfl (d0.2.1.trans eg) (d1.2.1.trans eh) hr, rfl, trivial, ?_⟩
        refine ⟨⟨hX.os.trans hT.bel.os, hX.tape.trans hT.bel.tape, hX.output.trans hT.bel.output, Nat.le_trans hT.bel.size hX.size, fun q hq hn => (hX.block q (Nat.lt_of_lt_of_le hq hbs) (by omega)).trans (hT.bel.block q hq hn)⟩, fun _ => (hX.block px (Nat.lt_of_lt_of_le hpxl hbs) (by omega)).trans (hT.old n15), ?_, ?_, ?_, fun _ _ => ⟨g', cap', rfl, hO'⟩, ?_, ?_⟩
        · show _ → ((5 == 8) || up 5) = false → _
          rw [d0.1]; intro _ h; cases h
        · show _ → ((8 == 8) || up 8) = false → _
          intro _ h; cases h
        · show _ → ((8 == 8) || up 8) = false → _
          intro _ h; cases h
        · show ((10 == 8) || up 10) = true → _; rw [n13]; intro h; cases h
        · show ((12 == 8) || up 12) = true → _; rw [n15]; intro h; cases h
      | 10, ho =>
        injection ho with ho; subst ho
        have d0 := hd 8 _ 62 rfl rfl ⟨⟨8, .data⟩, by simp, rfl, rfl⟩
        have d1 := hd 9 _ 63 rfl rfl ⟨⟨9, .data⟩, by simp, rfl, rfl⟩
        have n15 : up 12 = false := by
          cases e : up 12
          · rfl
          · have := c15_13 e; rw [hi] at this; cases this
        have u5 := c8_5 d0.1
        have u7 := c8_7 d0.1
        obtain ⟨g, cap, eg, hO⟩ := hT.t8 d0.1 hi
        rw [eg] at hO
        obtain ⟨g', cap', W', hr, hO', hX⟩ := app_own (P := Tryz.prog) R.heap.size 33 33 41 13 112 _ Tryz.undSv Tryz.infSv rfl (by decide) W g (m + 1) cap (xs1 ++ SvC c) hO A2 k c2 xs2 hl2 (fun ad e j u hj => by
          obtain ⟨h1, h2, h3⟩ := hn2 ad e
          exact (cell_blk j (hT.bel.block ad.block h2 h1)).trans (h3 j u hj)) hA2 ho2 (by omega) (by omega) hbs
        have hgR : R.heap.size ≤ g := by
          rcases hO.2 with ⟨hv, _⟩ | ⟨g2, _, _, hv, hb2, _⟩
          · cases hv
          · cases hv; exact hb2
        refine Or.inl ⟨_, W', exec_append (.tmp 62) (.tmp 63) 33 rfl (d0.2.1.trans eg) (d1.2.1.trans d1.2.2) hr, rfl, trivial, ?_⟩
        refine ⟨⟨hX.os.trans hT.bel.os, hX.tape.trans hT.bel.tape, hX.output.trans hT.bel.output, Nat.le_trans hT.bel.size hX.size, fun q hq hn => (hX.block q (Nat.lt_of_lt_of_le hq hbs) (by omega)).trans (hT.bel.block q hq hn)⟩, fun _ => (hX.block px (Nat.lt_of_lt_of_le hpxl hbs) (by omega)).trans (hT.old n15), ?_, ?_, ?_, ?_, fun _ => ⟨g', cap', rfl, hO'⟩, ?_⟩
        · show _ → ((5 == 10) || up 5) = false → _
          rw [u5]; intro _ h; cases h
        · show _ → ((8 == 10) || up 8) = false → _
          rw [d0.1]; intro _ h; cases h
        · show _ → ((8 == 10) || up 8) = false → _
          rw [d0.1]; intro _ h; cases h
        · show _ → ((10 == 10) || up 10) = false → _
          intro _ h; cases h
        · show ((12 == 10) || up 12) = true → _; rw [n15]; intro h; cases h
      | 12, ho =>
        injection ho with ho; subst ho
        have d0 := hd 11 _ 65 rfl rfl ⟨⟨11, .data⟩, by simp, rfl, rfl⟩
        have d1 := hd 10 _ 64 rfl rfl ⟨⟨10, .data⟩, by simp, rfl, rfl⟩
        have e0 : a.tmps[65]?.getD undef = _ := (RY.ev_tmp a 65).trans (d0.2.1.trans d0.2.2)
        obtain ⟨g, cap, eg, hO⟩ := hT.t13 d1.1
        have e1 : a.tmps[64]?.getD undef = .slice (some ⟨g, 0, none⟩) (m + 1 + k) cap := (RY.ev_tmp a 64).trans (d1.2.1.trans eg)
        have u8 := c13_8 d1.1
        have hp := hT.old hi
        have x2 : W.cell? ⟨px, 1, none⟩ = some (.slice p1 n1 q1) := by simp [World.cell?, hp]
        have fz : ∀ q, W.frozen? ⟨px, q, none⟩ = false := fun q => by simp [World.frozen?, hp]
        have hpz : px < W.heap.size := lt_heap hp
        have hgR : R.heap.size ≤ g := by
          rw [eg] at hO
          rcases hO.2 with ⟨hv, _⟩ | ⟨g2, _, _, hv, hb2, _⟩
          · cases hv
          · cases hv; exact hb2
        refine Or.inr ⟨W.setCell ⟨px, 1, none⟩ (.slice (some ⟨g, 0, none⟩) (m + 1 + k) cap), by simp [execOp, go_sem, e0, e1, x2, fz], rfl, ?_⟩
        refine ⟨hT.bel.sc 1 _, fun h => (by cases h), ?_, ?_, ?_, ?_, fun _ => ⟨g, cap, eg, owns_sc hO (by omega) 1 _⟩, fun _ => ?_⟩
        · show _ → ((5 == 12) || up 5) = false → _
          rw [c8_5 u8]; intro _ h; cases h
        · show _ → ((8 == 12) || up 8) = false → _
          rw [u8]; intro _ h; cases h
        · show _ → ((8 == 12) || up 8) = false → _
          rw [u8]; intro _ h; cases h
        · show _ → ((10 == 12) || up 10) = false → _
          rw [d1.1]; intro _ h; cases h
        · rw [heap_setCell_same W px 1 _ _ _ hp, eg]; rfl
      | n + 13, ho => simp at ho
  · intro up vals vs W hall hv hT
    obtain ⟨g, cap, e, hO⟩ := hT.t13 (hall 10 (by decide))
    have hn := hT.new (hall 12 (by decide))
    rw [e] at hn hO
    have hg : R.heap.size ≤ g := by
      rcases hO.2 with ⟨hv, _⟩ | ⟨g', cap', cur, hv, hb, _⟩
      · cases hv
      · cases hv; exact hb
    exact hQ' W vs g cap hT.bel hg hn hO


end Go.Proofs.YtclagbakddkjcaaGreat

namespace Go.Proofs.YtclagbakddkjcaaGreat
open Go.RowKit Go.Deep

/-- The place of a service's name. -/
def posS (l : List Sv) (nm : ByteArray) : Nat := if firstTo (fun i => !Pl.less (l.getD i Sv.none).nm nm) l.length < 0 then l.length else (firstTo (fun i => !Pl.less (l.getD i Sv.none).nm nm) l.length).toNat
def wishV (s : Sv) (v nx : Int) : Sv := ⟨s.nm, v, s.gone, s.image, s.want, s.down, s.over, nx, s.per, s.least, s.most, s.load, 0⟩
def wishOf (l : List Sv) (s : Sv) (v : Int) : List Sv :=
  if decide (posS l s.nm < l.length) && same (l.getD (posS l s.nm) Sv.none).nm s.nm then l.take (posS l s.nm) ++ [wishV s v (l.getD (posS l s.nm) Sv.none).next] ++ l.drop (posS l s.nm + 1)
  else l.take (posS l s.nm) ++ [wishV s v 1] ++ l.drop (posS l s.nm)
theorem posS_end {l : List Sv} {nm : ByteArray} (h : ∀ j, j < l.length → Pl.less (l.getD j Sv.none).nm nm = true) : posS l nm = l.length := by
  unfold posS
  rw [firstTo_none (fun i hi => by rw [h i hi]; rfl)]
  rfl
theorem posS_at {l : List Sv} {nm : ByteArray} {k : Nat} (hk : k < l.length) (h : ∀ j, j < k → Pl.less (l.getD j Sv.none).nm nm = true) (hn : Pl.less (l.getD k Sv.none).nm nm = false) : posS l nm = k := by
  unfold posS
  rw [firstTo_hit (p := fun i => !Pl.less (l.getD i Sv.none).nm nm) hk (by rw [hn]; rfl) (fun i hi => by rw [h i hi]; rfl), if_neg (by omega)]
  exact Int.toNat_natCast k
theorem owns_lo' {W : World} {lo lo' : Nat} {e : TypeId} {size : Nat} {v : Value} {n : Nat} {xs : List Value} (h : W.ownsRow lo e size v n xs) (hle : lo' ≤ lo) : W.ownsRow lo' e size v n xs := by
  refine ⟨h.1, h.2.imp id ?_⟩
  rintro ⟨g, cap, cur, h1, h2, h3⟩
  exact ⟨g, cap, cur, h1, Nat.le_trans hle h2, h3⟩
theorem wi0_3 : wi0 = .seq (sfst wi0) (.seq (sfst wi1) (.seq (sfst wi2) wi3)) := by kernel_rfl
theorem wi3_8 : wi3 = .seq (sfst wi3) (.seq (sfst wi4) (.seq (sfst wi5) (.seq (sfst wi6) (.seq (sfst wi7) wi8)))) := by kernel_rfl
theorem wi8_9 : wi8 = .seq r11 wi9 := by kernel_rfl

set_option maxRecDepth 8000 in
set_option maxHeartbeats 16000000 in
theorem wiE (now : Int) (a1 a2 : Option Addr) (n1 n2 c1 c2 : Nat) (L : List Sv) (w : World) (W : World) (g cap lo : Nat) (hlo : w.heap.size + 3 ≤ lo) (hpx : W.heap[w.heap.size]? = some (.cells #[.int .i64 now, .slice (some ⟨g, 0, none⟩) L.length cap, .slice a1 n1 c1, .slice a2 n2 c2] 37 (0, 0))) (hr : OwnBlk W (w.heap.size + 2) 37 4) (hO : W.ownsRow lo 41 13 (.slice (some ⟨g, 0, none⟩) L.length cap) L.length (L.flatMap SvC)) (hB : Below w.heap.size w W) (u0 u1 u2 u4 u5 u7 u8 u9 u10 u11 u12 u13 u14 u15 u16 u17 u18 u19 u20 u21 u22 u23 u24 u25 u26 u27 u28 u29 u30 u31 u32 u33 u34 u35 u36 u37 u38 u39 u40 u41 u42 u43 u44 u45 u46 u47 u48 u49 u50 u51 u52 u53 u54 u55 u56 u57 u58 u59 u60 u61 u62 u63 u64 u65 u66 : Value) :
    Code.wp Tryz.prog wi9 (bodyPost Tryz.prog Tryz.f45 (fun e w' => (∃ a' c', e = .returned (.agg #[.int .i64 now, .slice a' L.length c', .slice a1 n1 c1, .slice a2 n2 c2]) ∧ w'.ownsRow (w.heap.size + 3) 41 13 (.slice a' L.length c') L.length (L.flatMap SvC)) ∧ Below w.heap.size w w')) { tmps := #[u0, u1, u2, .pointer (some ⟨w.heap.size, 0, none⟩), u4, u5, .pointer (some ⟨w.heap.size + 2, 0, none⟩), u7, u8, u9, u10, u11, u12, u13, u14, u15, u16, u17, u18, u19, u20, u21, u22, u23, u24, u25, u26, u27, u28, u29, u30, u31, u32, u33, u34, u35, u36, u37, u38, u39, u40, u41, u42, u43, u44, u45, u46, u47, u48, u49, u50, u51, u52, u53, u54, u55, u56, u57, u58, u59, u60, u61, u62, u63, u64, u65, u66], defers := [] } W := by
  simp only [wi9, wi8, wi7, wi6, wi5, wi4, wi3, wi2, wi1, wi0, Tryz.f45, Option.getD_some, ssnd_seq]
  have y0 : W.cell? ⟨w.heap.size, 0, none⟩ = some (.int .i64 now) := by simp [World.cell?, hpx]
  have y1 : W.cell? ⟨w.heap.size, 1, none⟩ = some (.slice (some ⟨g, 0, none⟩) L.length cap) := by simp [World.cell?, hpx]
  have y2 : W.cell? ⟨w.heap.size, 2, none⟩ = some (.slice a1 n1 c1) := by simp [World.cell?, hpx]
  have y3 : W.cell? ⟨w.heap.size, 3, none⟩ = some (.slice a2 n2 c2) := by simp [World.cell?, hpx]
  have yz : w.heap.size < W.heap.size := lt_heap hpx
  have hth := RY.own_there hr
  have hrt : World.rangeAt (W.setCells (w.heap.size + 2) 0 [.int .i64 now, .slice (some ⟨g, 0, none⟩) L.length cap, .slice a1 n1 c1, .slice a2 n2 c2]) (w.heap.size + 2) 0 [.int .i64 now, .slice (some ⟨g, 0, none⟩) L.length cap, .slice a1 n1 c1, .slice a2 n2 c2] := World.rangeAt_setCells_same _ _ _ _ hth
  have hne : ∀ q, (Value.slice (some ⟨g, 0, none⟩) L.length cap).ownBlock = some q → q ≠ w.heap.size + 2 := fun q hq => by have := (World.ownsRow.lt hO q hq).1; omega
  have HF : Hid (World.ownsRow (W.setCells (w.heap.size + 2) 0 [.int .i64 now, .slice (some ⟨g, 0, none⟩) L.length cap, .slice a1 n1 c1, .slice a2 n2 c2]) lo 41 13 (.slice (some ⟨g, 0, none⟩) L.length cap) L.length (L.flatMap SvC) ∧ Below w.heap.size w (W.setCells (w.heap.size + 2) 0 [.int .i64 now, .slice (some ⟨g, 0, none⟩) L.length cap, .slice a1 n1 c1, .slice a2 n2 c2])) :=
    ⟨owns_scn (owns_scn (owns_scn (owns_scn hO hne _ _) hne _ _) hne _ _) hne _ _, puts_below 0 (by omega) [.int .i64 now, .slice (some ⟨g, 0, none⟩) L.length cap, .slice a1 n1 c1, .slice a2 n2 c2] _ 0 hB⟩
  clear hne hpx hO hB hr
  go_wp2_with (refine wpList_store_mid rfl 37 _ _ rfl (w.heap.size + 2) 0 #[.int .i64 now, .slice (some ⟨g, 0, none⟩) L.length cap, .slice a1 n1 c1, .slice a2 n2 c2] rfl rfl hth (by kernel_rfl) (by simp [Value.oneCell']) ?_)
  simp only [Act.put]
  refine bodyPost_ret (v := .agg #[.int .i64 now, .slice (some ⟨g, 0, none⟩) L.length cap, .slice a1 n1 c1, .slice a2 n2 c2]) (by simp [results, asAddr, run_loadVar_mid (P := Tryz.prog) _ _ _ 37 [.int .i64 now, .slice (some ⟨g, 0, none⟩) L.length cap, .slice a1 n1 c1, .slice a2 n2 c2] _ hrt Tryz.underlying37 rfl (by kernel_rfl)]) rfl ?_
  exact ⟨⟨some ⟨g, 0, none⟩, cap, rfl, owns_lo' HF.out.1 hlo⟩, HF.out.2⟩

set_option maxRecDepth 8000 in
set_option maxHeartbeats 16000000 in
theorem wiD (now : Int) (a1 a2 : Option Addr) (n1 n2 c1 c2 : Nat) (L : List Sv) (w : World) (W : World) (l1 l2 : List Sv) (s : Sv) (p1 A1 A2 : Option Addr) (n q1 cc m1 m2 : Nat) (e1 : l1.length = m1) (e2 : l2.length = m2) (hL : L = l1 ++ [s] ++ l2) (hmk : l1.length + 1 + l2.length ≤ 1048576)
    (hpx : W.heap[w.heap.size]? = some (.cells #[.int .i64 now, .slice p1 n q1, .slice a1 n1 c1, .slice a2 n2 c2] 37 (0, 0))) (hpc : W.heap[w.heap.size + 1]? = some (.cells #[.string s.nm, .int .i64 s.ver, .bool s.gone, .int .i64 s.image, .int .i64 s.want, .int .i64 s.down, .int .i64 s.over, .int .i64 s.next, .int .i64 s.per, .int .i64 s.least, .int .i64 s.most, .int .i64 s.load, .int .i64 s.cool] 41 (0, 0))) (hr : OwnBlk W (w.heap.size + 2) 37 4) (hB : Below w.heap.size w W)
    (hs4 : ∀ W', (Instr.slice 33 (.slice p1 n q1) none (some (.int .i64 (l1.length : Nat))) none).run Tryz.prog W' = .ok (.slice A1 l1.length q1) W')
    (hn1 : ∀ ad, A1 = some ad → ad.block ≠ w.heap.size ∧ ad.block < W.heap.size ∧ ∀ i u, (l1.flatMap SvC)[i]? = some u → W.cell? (ad.add i) = some u) (hn2 : ∀ ad, A2 = some ad → ad.block ≠ w.heap.size ∧ ad.block < W.heap.size ∧ ∀ i u, (l2.flatMap SvC)[i]? = some u → W.cell? (ad.add i) = some u) (hA1 : A1 = none → l1.length = 0) (hA2 : A2 = none → l2.length = 0) (u0 u1 u2 u5 u9 u10 u11 u12 u13 u14 u15 u16 u17 u18 u19 u20 u21 u22 u23 u24 u25 u26 u27 u28 u29 u30 u31 u32 u33 u34 u35 u36 u37 u38 u39 u40 u41 u42 u43 u44 u45 u46 u47 u48 u49 u50 u51 u52 u53 u54 u55 u56 u57 u58 u59 u60 u61 u62 u63 u64 u65 u66 : Value) :
    Code.wp Tryz.prog wi8 (bodyPost Tryz.prog Tryz.f45 (fun e w' => (∃ a' c', e = .returned (.agg #[.int .i64 now, .slice a' L.length c', .slice a1 n1 c1, .slice a2 n2 c2]) ∧ w'.ownsRow (w.heap.size + 3) 41 13 (.slice a' L.length c') L.length (L.flatMap SvC)) ∧ Below w.heap.size w w')) { tmps := #[u0, u1, u2, .pointer (some ⟨w.heap.size, 0, none⟩), .pointer (some ⟨w.heap.size + 1, 0, none⟩), u5, .pointer (some ⟨w.heap.size + 2, 0, none⟩), .int .i64 (m1 : Nat), .slice A2 m2 cc, u9, u10, u11, u12, u13, u14, u15, u16, u17, u18, u19, u20, u21, u22, u23, u24, u25, u26, u27, u28, u29, u30, u31, u32, u33, u34, u35, u36, u37, u38, u39, u40, u41, u42, u43, u44, u45, u46, u47, u48, u49, u50, u51, u52, u53, u54, u55, u56, u57, u58, u59, u60, u61, u62, u63, u64, u65, u66], defers := [] } W := by
  subst e1 e2
  rw [wi8_9]
  refine wp_seq ?_
  refine region11 _ _ W w.heap.size p1 A1 A2 n q1 l1.length l2.length cc s (w.heap.size + 1) now (.slice a1 n1 c1) (.slice a2 n2 c2) (l1.flatMap SvC) (l2.flatMap SvC) rfl rfl rfl rfl rfl hpx hpc (by omega) hs4 (by rw [flat_len SvC 13 SvC_len]) (by rw [flat_len SvC 13 SvC_len]) (SvC_one l1) (SvC_one l2) hmk hn1 hn2 hA1 hA2 ?_
  intro W6 vs g cap hX hg hpx6 hO6
  have hz : w.heap.size + 3 ≤ W.heap.size := by have := hr.lt; omega
  have hr6 : OwnBlk W6 (w.heap.size + 2) 37 4 := by
    obtain ⟨cs, ho, hs⟩ := hr
    exact ⟨cs, (hX.block _ (lt_heap ho) (by omega)).trans ho, hs⟩
  have hB6 : Below w.heap.size w W6 := hX.below hB (Nat.le_refl _)
  have hLl : L.length = l1.length + 1 + l2.length := by rw [hL]; simp; omega
  have hO7 : W6.ownsRow W.heap.size 41 13 (.slice (some ⟨g, 0, none⟩) L.length cap) L.length (L.flatMap SvC) := by
    rw [hLl, hL]
    have e : (l1 ++ [s] ++ l2).flatMap SvC = l1.flatMap SvC ++ SvC s ++ l2.flatMap SvC := by rw [List.flatMap_append, List.flatMap_append]; simp
    rw [e]
    exact hO6
  rw [← hLl] at hpx6
  simp only [ops11, rops', r11, wi8, wi7, wi6, wi5, wi4, wi3, wi2, wi1, wi0, Tryz.f45, Option.getD_some, sfst_seq, ssnd_seq, RY.putAll, Act.put, List.setIfInBounds_toArray, List.set_cons_zero, List.set_cons_succ]
  exact wiE now a1 a2 n1 n2 c1 c2 L w W6 g cap W.heap.size hz hpx6 hr6 hO7 hB6 _ _ _ _ _ _ _ _ _ _ _ _ _ _ _ _ _ _ _ _ _ _ _ _ _ _ _ _ _ _ _ _ _ _ _ _ _ _ _ _ _ _ _ _ _ _ _ _ _ _ _ _ _ _ _ _ _ _ _ _ _ _ _ _ _

end Go.Proofs.YtclagbakddkjcaaGreat
