/-
  Stewards: a copy put into its place, by the specification: region 48 of l15Apply.
-/
import Derived.Test.YtpamkibnahhphaaGreatDoorSaX
import Derived.Test.YtpamkibnahhphaaGreatDoorApO
namespace Go.Proofs.YtpamkibnahhphaaGreatDoor
open Go.RowKit Go.Deep

noncomputable def sbody : Code → Code
  | .block _ b => b
  | .loop b => b
  | c => c
theorem sbody_block (n : Nat) (b : Code) : sbody (.block n b) = b := rfl
theorem sbody_loop (b : Code) : sbody (.loop b) = b := rfl
noncomputable def r48 : Code := sfst (ssnd (ssnd (ssnd (sbody (sfst (ssnd (sbody (sbody (ssnd (sfst ap17)))))))))) 
theorem cell_blk {R W : World} {ad : Addr} (j : Nat) (h : W.heap[ad.block]? = R.heap[ad.block]?) : W.cell? (ad.add j) = R.cell? (ad.add j) := by
  have e : (ad.add j).block = ad.block := by unfold Addr.add; split <;> rfl
  exact World.cell?_of_block (w := R) (by rw [e]; exact h)
def V48 (px : Nat) (p1 A1 A2 : Option Addr) (n1 q1 m k c2 : Nat) (c : Cp) : Nat → Value → Prop
  | 1, u => u = .pointer (some ⟨px, 2, none⟩)
  | 2, u => u = .slice p1 n1 q1
  | 3, u => u = .int .i64 (m : Nat)
  | 4, u => u = .slice A1 m q1
  | 6, u => u = .agg #[.string c.svc, .int .i64 c.num, .int .i64 c.ver, .int .i64 c.image, .int .i64 c.state, .bool c.ending, .string c.berth]
  | 9, u => u = .pointer (some ⟨px, 2, none⟩)
  | 10, u => u = .slice p1 n1 q1
  | 11, u => u = .int .i64 (m : Nat)
  | 12, u => u = .slice A2 k c2
  | 14, u => u = .pointer (some ⟨px, 2, none⟩)
  | _, _ => True

/-- What stands while the copy is put into its place. -/
structure T48 (R : World) (px m k : Nat) (now : Int) (v0 v2 v3 : Value) (xs1 xs2 : List Value) (c : Cp) (up : Nat → Bool) (vals : Nat → Value) (W : World) : Prop where
  bel : BelX px R W
  old : up 15 = false → W.heap[px]? = some (.cells #[.int .i64 now, v0, v2, v3] 36 (0, 0))
  t0 : up 0 = true → up 5 = false → Emp W R.heap.size 90 (vals 0)
  t5 : up 5 = true → up 8 = false → ∃ g cap, vals 5 = .slice (some ⟨g, 0, none⟩) m cap ∧ W.ownsRow R.heap.size 90 7 (vals 5) m xs1
  t7 : up 7 = true → up 8 = false → ∃ h, vals 7 = .slice (some ⟨h, 0, none⟩) 1 1 ∧ R.heap.size ≤ h ∧ W.heap[h]? = some (.cells (CpC c).toArray 90 (0, 0))
  t8 : up 8 = true → up 13 = false → ∃ g cap, vals 8 = .slice (some ⟨g, 0, none⟩) (m + 1) cap ∧ W.ownsRow R.heap.size 90 7 (vals 8) (m + 1) (xs1 ++ CpC c)
  t13 : up 13 = true → ∃ g cap, vals 13 = .slice (some ⟨g, 0, none⟩) (m + 1 + k) cap ∧ W.ownsRow R.heap.size 90 7 (vals 13) (m + 1 + k) (xs1 ++ CpC c ++ xs2)
  new : up 15 = true → W.heap[px]? = some (.cells #[.int .i64 now, v0, vals 13, v3] 36 (0, 0))

theorem T48.pure {R : World} {px m k : Nat} {now : Int} {v0 v2 v3 : Value} {xs1 xs2 : List Value} {c : Cp} {up : Nat → Bool} {vals : Nat → Value} {W : World} (h : T48 R px m k now v0 v2 v3 xs1 xs2 c up vals W) (i : Nat) (u : Value) (i0 : i ≠ 0) (i5 : i ≠ 5) (i7 : i ≠ 7) (i8 : i ≠ 8) (i13 : i ≠ 13) (i15 : i ≠ 15) :
    T48 R px m k now v0 v2 v3 xs1 xs2 c (fun j => (j == i) || up j) (fun j => if j = i then u else vals j) W := by
  have e : ∀ q, i ≠ q → ((q == i) || up q) = up q := fun q hq => by rw [show (q == i) = false from by simpa using fun e => hq e.symm]; rfl
  have f : ∀ q, i ≠ q → (if q = i then u else vals q) = vals q := fun q hq => if_neg (fun e => hq e.symm)
  constructor
  · exact h.bel
  · show ((15 == i) || up 15) = false → _; rw [e 15 i15]; exact h.old
  · show ((0 == i) || up 0) = true → ((5 == i) || up 5) = false → Emp _ _ _ (if 0 = i then u else vals 0); rw [e 0 i0, e 5 i5, f 0 i0]; exact h.t0
  · show ((5 == i) || up 5) = true → ((8 == i) || up 8) = false → ∃ g cap, (if 5 = i then u else vals 5) = _ ∧ W.ownsRow _ _ _ (if 5 = i then u else vals 5) _ _; rw [e 5 i5, e 8 i8, f 5 i5]; exact h.t5
  · show ((7 == i) || up 7) = true → ((8 == i) || up 8) = false → ∃ g, (if 7 = i then u else vals 7) = _ ∧ _; rw [e 7 i7, e 8 i8, f 7 i7]; exact h.t7
  · show ((8 == i) || up 8) = true → ((13 == i) || up 13) = false → ∃ g cap, (if 8 = i then u else vals 8) = _ ∧ W.ownsRow _ _ _ (if 8 = i then u else vals 8) _ _; rw [e 8 i8, e 13 i13, f 8 i8]; exact h.t8
  · show ((13 == i) || up 13) = true → ∃ g cap, (if 13 = i then u else vals 13) = _ ∧ W.ownsRow _ _ _ (if 13 = i then u else vals 13) _ _; rw [e 13 i13, f 13 i13]; exact h.t13
  · show ((15 == i) || up 15) = true → W.heap[px]? = some (.cells #[_, _, (if 13 = i then u else vals 13), _] _ _); rw [e 15 i15, f 13 i13]; exact h.new

noncomputable def rops : Code → List Oper
  | .region _ o _ => o.toList
  | _ => []
theorem rops_region (n : Nat) (o : Array Oper) (d : Bool) : rops (.region n o d) = o.toList := rfl
noncomputable def ops48 : List Oper := rops r48

set_option maxRecDepth 8000 in
set_option maxHeartbeats 8000000 in
theorem region48 (Q : Exit → Act → World → Prop) (a0 : Act) (R : World) (px : Nat) (p1 A1 A2 : Option Addr) (n1 q1 m k c2 : Nat) (c : Cp) (pc : Nat) (now : Int) (v0 v3 : Value) (xs1 xs2 : List Value) (hz : a0.tmps.size = 303) (h9 : a0.eval (.tmp 9) = .pointer (some ⟨px, 0, none⟩)) (h16 : a0.eval (.tmp 16) = .pointer (some ⟨pc, 0, none⟩)) (h17 : a0.eval (.tmp 17) = .int .i64 (m : Nat))
    (hpx : R.heap[px]? = some (.cells #[.int .i64 now, v0, .slice p1 n1 q1, v3] 36 (0, 0))) (hpc : R.heap[pc]? = some (.cells #[.string c.svc, .int .i64 c.num, .int .i64 c.ver, .int .i64 c.image, .int .i64 c.state, .bool c.ending, .string c.berth] 90 (0, 0))) (hne : pc ≠ px)
    (hs4 : ∀ W, (Instr.slice 33 (.slice p1 n1 q1) none (some (.int .i64 (m : Nat))) none).run Tryz.prog W = .ok (.slice A1 m q1) W) (hs12 : ∀ W, (Instr.slice 33 (.slice p1 n1 q1) (some (.int .i64 (m : Nat))) none none).run Tryz.prog W = .ok (.slice A2 k c2) W)
    (hl1 : xs1.length = m * 7) (hl2 : xs2.length = k * 7) (ho1 : ∀ u ∈ xs1, u.oneCell' = true) (ho2 : ∀ u ∈ xs2, u.oneCell' = true) (hmk : m + 1 + k ≤ 1048576)
    (hn1 : ∀ ad, A1 = some ad → ad.block ≠ px ∧ ad.block < R.heap.size ∧ ∀ i u, xs1[i]? = some u → R.cell? (ad.add i) = some u) (hn2 : ∀ ad, A2 = some ad → ad.block ≠ px ∧ ad.block < R.heap.size ∧ ∀ i u, xs2[i]? = some u → R.cell? (ad.add i) = some u) (hA1 : A1 = none → m = 0) (hA2 : A2 = none → k = 0)
    (hQ : ∀ W vs g cap, BelX px R W → R.heap.size ≤ g → W.heap[px]? = some (.cells #[.int .i64 now, v0, .slice (some ⟨g, 0, none⟩) (m + 1 + k) cap, v3] 36 (0, 0)) → W.ownsRow R.heap.size 90 7 (.slice (some ⟨g, 0, none⟩) (m + 1 + k) cap) (m + 1 + k) (xs1 ++ CpC c ++ xs2) → Q .normal (RY.putAll ops48 a0 vs) W) :
    Code.wp Tryz.prog r48 Q a0 R := by
  have hQ' := hQ
  simp only [r48, ap17, ap16, ap15, ap14, ap13, ap12, ap11, ap10, ap9, ap8, ap7, ap6, ap5, ap4, ap3, ap2, ap1, ap0, Tryz.f20, Option.getD_some, sfst_seq, ssnd_seq, sbody_block, sbody_loop]
  have hpxl : px < R.heap.size := lt_heap hpx
  have hpcl : pc < R.heap.size := lt_heap hpc
  refine RY.region_T (V48 px p1 A1 A2 n1 q1 m k c2 c) (T48 R px m k now v0 (.slice p1 n1 q1) v3 xs1 xs2 c) (by kernel_rfl) (by kernel_rfl) (by kernel_rfl) (by rw [hz]; kernel_rfl) ?_ ?_ ?_
  · intro vals
    exact ⟨(BelX.refl px R).drew, fun _ => hpx, fun h => (by cases h), fun h => (by cases h), fun h => (by cases h), fun h => (by cases h), fun h => (by cases h), fun h => (by cases h)⟩
  · intro up vals i o ho hi hcl a W hk hd hT
    have et9 : a.tmps[9]?.getD undef = .pointer (some ⟨px, 0, none⟩) := (RY.ev_tmp a 9).trans ((hk 9 (by kernel_rfl)).trans h9)
    have et16 : a.tmps[16]?.getD undef = .pointer (some ⟨pc, 0, none⟩) := (RY.ev_tmp a 16).trans ((hk 16 (by kernel_rfl)).trans h16)
    have et17 : a.tmps[17]?.getD undef = .int .i64 (m : Nat) := (RY.ev_tmp a 17).trans ((hk 17 (by kernel_rfl)).trans h17)
    have hpcW : ∀ q, W.cell? ⟨pc, q, none⟩ = (#[.string c.svc, .int .i64 c.num, .int .i64 c.ver, .int .i64 c.image, .int .i64 c.state, .bool c.ending, .string c.berth] : Array Value)[q]? := fun q => by
      have := hT.bel.block pc hpcl hne
      simp [World.cell?, this, hpc]
    have c15_13 : up 15 = true → up 13 = true := hcl 15 _ ⟨13, .data⟩ rfl (by simp) rfl
    have c13_8 : up 13 = true → up 8 = true := hcl 13 _ ⟨8, .data⟩ rfl (by simp) rfl
    have c13_12 : up 13 = true → up 12 = true := hcl 13 _ ⟨12, .data⟩ rfl (by simp) rfl
    have c8_5 : up 8 = true → up 5 = true := hcl 8 _ ⟨5, .data⟩ rfl (by simp) rfl
    have c8_7 : up 8 = true → up 7 = true := hcl 8 _ ⟨7, .data⟩ rfl (by simp) rfl
    have c5_0 : up 5 = true → up 0 = true := hcl 5 _ ⟨0, .data⟩ rfl (by simp) rfl
    have c5_4 : up 5 = true → up 4 = true := hcl 5 _ ⟨4, .data⟩ rfl (by simp) rfl
    have c12_10 : up 12 = true → up 10 = true := hcl 12 _ ⟨10, .data⟩ rfl (by simp) rfl
    have c12_11 : up 12 = true → up 11 = true := hcl 12 _ ⟨11, .data⟩ rfl (by simp) rfl
    have c4_2 : up 4 = true → up 2 = true := hcl 4 _ ⟨2, .data⟩ rfl (by simp) rfl
    have c4_3 : up 4 = true → up 3 = true := hcl 4 _ ⟨3, .data⟩ rfl (by simp) rfl
    have c2_1 : up 2 = true → up 1 = true := hcl 2 _ ⟨1, .data⟩ rfl (by simp) rfl
    have c10_9 : up 10 = true → up 9 = true := hcl 10 _ ⟨9, .data⟩ rfl (by simp) rfl
    have c7_6 : up 7 = true → up 6 = true := hcl 7 _ ⟨6, .data⟩ rfl (by simp) rfl
    have hbs : R.heap.size ≤ W.heap.size := hT.bel.size
    match i, ho with
      | 1, ho =>
        injection ho with ho; subst ho
        exact Or.inl ⟨.pointer (some ⟨px, 2, none⟩), W, by simp [execOp, go_sem, et9], rfl, rfl, hT.pure 1 _ (by decide) (by decide) (by decide) (by decide) (by decide) (by decide)⟩
      | 2, ho =>
        injection ho with ho; subst ho
        have n15 : up 15 = false := by
          cases e : up 15
          · rfl
          · have := c4_2 (c5_4 (c8_5 (c13_8 (c15_13 e)))); rw [hi] at this; cases this
        have hp := hT.old n15
        have x2 : W.cell? ⟨px, 2, none⟩ = some (.slice p1 n1 q1) := by simp [World.cell?, hp]
        have d0 := hd 1 _ 260 rfl rfl ⟨⟨1, .data⟩, by simp, rfl, rfl⟩
        have e0 : a.tmps[260]?.getD undef = _ := (RY.ev_tmp a 260).trans (d0.2.1.trans d0.2.2)
        exact Or.inl ⟨.slice p1 n1 q1, W, by simp [execOp, go_sem, e0, x2], rfl, rfl, hT.pure 2 _ (by decide) (by decide) (by decide) (by decide) (by decide) (by decide)⟩
      | 3, ho =>
        injection ho with ho; subst ho
        exact Or.inl ⟨.int .i64 (m : Nat), W, by simp [execOp, go_sem, et17], rfl, rfl, hT.pure 3 _ (by decide) (by decide) (by decide) (by decide) (by decide) (by decide)⟩
      | 4, ho =>
        injection ho with ho; subst ho
        have d0 := hd 2 _ 261 rfl rfl ⟨⟨2, .data⟩, by simp, rfl, rfl⟩
        have e0 : a.tmps[261]?.getD undef = _ := (RY.ev_tmp a 261).trans (d0.2.1.trans d0.2.2)
        have d1 := hd 3 _ 262 rfl rfl ⟨⟨3, .data⟩, by simp, rfl, rfl⟩
        have e1 : a.tmps[262]?.getD undef = _ := (RY.ev_tmp a 262).trans (d1.2.1.trans d1.2.2)
        exact Or.inl ⟨.slice A1 m q1, W, by simp [execOp, go_sem, e0, e1, hs4 W], rfl, rfl, hT.pure 4 _ (by decide) (by decide) (by decide) (by decide) (by decide) (by decide)⟩
      | 6, ho =>
        injection ho with ho; subst ho
        exact Or.inl ⟨.agg #[.string c.svc, .int .i64 c.num, .int .i64 c.ver, .int .i64 c.image, .int .i64 c.state, .bool c.ending, .string c.berth], W, by simp [execOp, go_sem, et16, hpcW], rfl, rfl, hT.pure 6 _ (by decide) (by decide) (by decide) (by decide) (by decide) (by decide)⟩
      | 9, ho =>
        injection ho with ho; subst ho
        exact Or.inl ⟨.pointer (some ⟨px, 2, none⟩), W, by simp [execOp, go_sem, et9], rfl, rfl, hT.pure 9 _ (by decide) (by decide) (by decide) (by decide) (by decide) (by decide)⟩
      | 10, ho =>
        injection ho with ho; subst ho
        have n15 : up 15 = false := by
          cases e : up 15
          · rfl
          · have := c12_10 (c13_12 (c15_13 e)); rw [hi] at this; cases this
        have hp := hT.old n15
        have x2 : W.cell? ⟨px, 2, none⟩ = some (.slice p1 n1 q1) := by simp [World.cell?, hp]
        have d0 := hd 9 _ 268 rfl rfl ⟨⟨9, .data⟩, by simp, rfl, rfl⟩
        have e0 : a.tmps[268]?.getD undef = _ := (RY.ev_tmp a 268).trans (d0.2.1.trans d0.2.2)
        exact Or.inl ⟨.slice p1 n1 q1, W, by simp [execOp, go_sem, e0, x2], rfl, rfl, hT.pure 10 _ (by decide) (by decide) (by decide) (by decide) (by decide) (by decide)⟩
      | 11, ho =>
        injection ho with ho; subst ho
        exact Or.inl ⟨.int .i64 (m : Nat), W, by simp [execOp, go_sem, et17], rfl, rfl, hT.pure 11 _ (by decide) (by decide) (by decide) (by decide) (by decide) (by decide)⟩
      | 12, ho =>
        injection ho with ho; subst ho
        have d0 := hd 10 _ 269 rfl rfl ⟨⟨10, .data⟩, by simp, rfl, rfl⟩
        have e0 : a.tmps[269]?.getD undef = _ := (RY.ev_tmp a 269).trans (d0.2.1.trans d0.2.2)
        have d1 := hd 11 _ 270 rfl rfl ⟨⟨11, .data⟩, by simp, rfl, rfl⟩
        have e1 : a.tmps[270]?.getD undef = _ := (RY.ev_tmp a 270).trans (d1.2.1.trans d1.2.2)
        exact Or.inl ⟨.slice A2 k c2, W, by simp [execOp, go_sem, e0, e1, hs12 W], rfl, rfl, hT.pure 12 _ (by decide) (by decide) (by decide) (by decide) (by decide) (by decide)⟩
      | 14, ho =>
        injection ho with ho; subst ho
        exact Or.inl ⟨.pointer (some ⟨px, 2, none⟩), W, by simp [execOp, go_sem, et9], rfl, rfl, hT.pure 14 _ (by decide) (by decide) (by decide) (by decide) (by decide) (by decide)⟩
      | 0, ho =>
        injection ho with ho; subst ho
        have n5 : up 5 = false := by
          cases e : up 5
          · rfl
          · have := c5_0 e; rw [hi] at this; cases this
        have n8 : up 8 = false := by
          cases e : up 8
          · rfl
          · have := c5_0 (c8_5 e); rw [hi] at this; cases this
        have n13 : up 13 = false := by
          cases e : up 13
          · rfl
          · have := c5_0 (c8_5 (c13_8 e)); rw [hi] at this; cases this
        have n15 : up 15 = false := by
          cases e : up 15
          · rfl
          · have := c5_0 (c8_5 (c13_8 (c15_13 e))); rw [hi] at this; cases this
        have hb : Below W.heap.size W (W.alloc (.cells #[] 90)) := blw_alloc (Below.refl _ _) _
        refine Or.inl ⟨.slice (some ⟨W.heap.size, 0, none⟩) 0 0, W.alloc (.cells #[] 90), by simp [execOp, go_sem], rfl, trivial, ?_⟩
        refine ⟨hT.bel.on hb, fun _ => (hb.block px (Nat.lt_of_lt_of_le hpxl hbs)).trans (hT.old n15), fun _ _ => ⟨W.heap.size, rfl, hbs, heap_alloc_new W _⟩, ?_, ?_, ?_, ?_, ?_⟩
        · show ((5 == 0) || up 5) = true → _; rw [n5]; intro h; cases h
        · show ((7 == 0) || up 7) = true → ((8 == 0) || up 8) = false → _
          intro h7 h8
          obtain ⟨h, e, hl, hh⟩ := hT.t7 (by simpa using h7) (by simpa using h8)
          exact ⟨h, e, hl, (hb.block h (lt_heap hh)).trans hh⟩
        · show ((8 == 0) || up 8) = true → _; rw [n8]; intro h; cases h
        · show ((13 == 0) || up 13) = true → _; rw [n13]; intro h; cases h
        · show ((15 == 0) || up 15) = true → _; rw [n15]; intro h; cases h
      | 7, ho =>
        injection ho with ho; subst ho
        have d0 := hd 6 _ 265 rfl rfl ⟨⟨6, .data⟩, by simp, rfl, rfl⟩
        have e0 : a.tmps[265]?.getD undef = _ := (RY.ev_tmp a 265).trans (d0.2.1.trans d0.2.2)
        have n8 : up 8 = false := by
          cases e : up 8
          · rfl
          · have := c8_7 e; rw [hi] at this; cases this
        have n13 : up 13 = false := by
          cases e : up 13
          · rfl
          · have := c8_7 (c13_8 e); rw [hi] at this; cases this
        have n15 : up 15 = false := by
          cases e : up 15
          · rfl
          · have := c8_7 (c13_8 (c15_13 e)); rw [hi] at this; cases this
        have hb : Below W.heap.size W (W.alloc (.cells (CpC c).toArray 90)) := blw_alloc (Below.refl _ _) _
        refine Or.inl ⟨.slice (some ⟨W.heap.size, 0, none⟩) 1 1, W.alloc (.cells (CpC c).toArray 90), by simp [execOp, go_sem, e0, CpC], rfl, trivial, ?_⟩
        refine ⟨hT.bel.on hb, fun _ => (hb.block px (Nat.lt_of_lt_of_le hpxl hbs)).trans (hT.old n15), ?_, ?_, fun _ _ => ⟨W.heap.size, rfl, hbs, heap_alloc_new W _⟩, ?_, ?_, ?_⟩
        · show ((0 == 7) || up 0) = true → ((5 == 7) || up 5) = false → _
          intro h7 h8
          exact Emp.on (hT.t0 (by simpa using h7) (by simpa using h8)) hb
        · show ((5 == 7) || up 5) = true → ((8 == 7) || up 8) = false → _
          intro h7 h8
          obtain ⟨g, cap, e, hO⟩ := hT.t5 (by simpa using h7) (by simpa using h8)
          exact ⟨g, cap, e, owns_on hO hb⟩
        · show ((8 == 7) || up 8) = true → _; rw [n8]; intro h; cases h
        · show ((13 == 7) || up 13) = true → _; rw [n13]; intro h; cases h
        · show ((15 == 7) || up 15) = true → _; rw [n15]; intro h; cases h
      | 5, ho =>
        injection ho with ho; subst ho
        have d0 := hd 0 _ 259 rfl rfl ⟨⟨0, .data⟩, by simp, rfl, rfl⟩
        have d1 := hd 4 _ 263 rfl rfl ⟨⟨4, .data⟩, by simp, rfl, rfl⟩
        have n8 : up 8 = false := by
          cases e : up 8
          · rfl
          · have := c8_5 e; rw [hi] at this; cases this
        have n13 : up 13 = false := by
          cases e : up 13
          · rfl
          · have := c8_5 (c13_8 e); rw [hi] at this; cases this
        have n15 : up 15 = false := by
          cases e : up 15
          · rfl
          · have := c8_5 (c13_8 (c15_13 e)); rw [hi] at this; cases this
        obtain ⟨g, eg, hgl, hgg⟩ := hT.t0 d0.1 hi
        obtain ⟨g', cap', W', hr, hO, hX⟩ := app_own (P := Tryz.prog) R.heap.size 33 33 90 7 72 _ Tryz.undCp Tryz.infCp rfl (by decide) W g 0 0 [] ⟨rfl, .inr ⟨g, 0, #[], rfl, hgl, hgg, by omega, by decide, by simp, by simp⟩⟩ A1 m q1 xs1 hl1 (fun ad e j u hj => by
          obtain ⟨h1, h2, h3⟩ := hn1 ad e
          exact (cell_blk j (hT.bel.block ad.block h2 h1)).trans (h3 j u hj)) hA1 ho1 (by omega) (by omega) hbs
        rw [Nat.zero_add] at hr hO
        rw [List.nil_append] at hO
        refine Or.inl ⟨_, W', exec_append (.tmp 259) (.tmp 263) 33 rfl (d0.2.1.trans eg) (d1.2.1.trans d1.2.2) hr, rfl, trivial, ?_⟩
        refine ⟨⟨hX.os.trans hT.bel.os, hX.tape.trans hT.bel.tape, hX.output.trans hT.bel.output, Nat.le_trans hT.bel.size hX.size, fun q hq hn => (hX.block q (Nat.lt_of_lt_of_le hq hbs) (by omega)).trans (hT.bel.block q hq hn)⟩, fun _ => (hX.block px (Nat.lt_of_lt_of_le hpxl hbs) (by omega)).trans (hT.old n15), ?_, fun _ _ => ⟨g', cap', rfl, hO⟩, ?_, ?_, ?_, ?_⟩
        · show _ → ((5 == 5) || up 5) = false → _
          intro _ h; cases h
        · show ((7 == 5) || up 7) = true → ((8 == 5) || up 8) = false → _
          intro h7 h8
          obtain ⟨h, e, hl, hh⟩ := hT.t7 (by simpa using h7) (by simpa using h8)
          refine ⟨h, e, hl, (hX.block h (lt_heap hh) (fun e2 => ?_)).trans hh⟩
          rw [e2, hgg] at hh
          injection hh with hh
          injection hh with hh
          have := congrArg Array.size hh
          simp [CpC] at this
        · show ((8 == 5) || up 8) = true → _; rw [n8]; intro h; cases h
        · show ((13 == 5) || up 13) = true → _; rw [n13]; intro h; cases h
        · show ((15 == 5) || up 15) = true → _; rw [n15]; intro h; cases h
      | 8, ho =>
        injection ho with ho; subst ho
        have d0 := hd 5 _ 264 rfl rfl ⟨⟨5, .data⟩, by simp, rfl, rfl⟩
        have d1 := hd 7 _ 266 rfl rfl ⟨⟨7, .data⟩, by simp, rfl, rfl⟩
        have n13 : up 13 = false := by
          cases e : up 13
          · rfl
          · have := c13_8 e; rw [hi] at this; cases this
        have n15 : up 15 = false := by
          cases e : up 15
          · rfl
          · have := c13_8 (c15_13 e); rw [hi] at this; cases this
        obtain ⟨g, cap, eg, hO⟩ := hT.t5 d0.1 hi
        obtain ⟨h, eh, hhl, hhh⟩ := hT.t7 d1.1 hi
        rw [eg] at hO
        obtain ⟨g', cap', W', hr, hO', hX⟩ := app_own (P := Tryz.prog) R.heap.size 33 33 90 7 72 _ Tryz.undCp Tryz.infCp rfl (by decide) W g m cap xs1 hO (some ⟨h, 0, none⟩) 1 1 (CpC c) rfl (fun ad e j u hj => by
          injection e with e
          subst e
          rw [addN]
          simp [World.cell?, hhh, hj]) (fun e => by cases e) (fun u hu => by have := CpC_one [c] u (by simpa using hu); exact this) (by omega) (by omega) hbs
        have hgR : R.heap.size ≤ g := by
          rcases hO.2 with ⟨hv, _⟩ | ⟨g2, _, _, hv, hb2, _⟩
          · cases hv
          · cases hv; exact hb2
        refine Or.inl ⟨_, W', exec_append (.tmp 264) (.tmp 266) 33 rfl (d0.2.1.trans eg) (d1.2.1.trans eh) hr, rfl, trivial, ?_⟩
        refine ⟨⟨hX.os.trans hT.bel.os, hX.tape.trans hT.bel.tape, hX.output.trans hT.bel.output, Nat.le_trans hT.bel.size hX.size, fun q hq hn => (hX.block q (Nat.lt_of_lt_of_le hq hbs) (by omega)).trans (hT.bel.block q hq hn)⟩, fun _ => (hX.block px (Nat.lt_of_lt_of_le hpxl hbs) (by omega)).trans (hT.old n15), ?_, ?_, ?_, fun _ _ => ⟨g', cap', rfl, hO'⟩, ?_, ?_⟩
        · show _ → ((5 == 8) || up 5) = false → _
          rw [d0.1]; intro _ h; cases h
        · show _ → ((8 == 8) || up 8) = false → _
          intro _ h; cases h
        · show _ → ((8 == 8) || up 8) = false → _
          intro _ h; cases h
        · show ((13 == 8) || up 13) = true → _; rw [n13]; intro h; cases h
        · show ((15 == 8) || up 15) = true → _; rw [n15]; intro h; cases h
      | 13, ho =>
        injection ho with ho; subst ho
        have d0 := hd 8 _ 267 rfl rfl ⟨⟨8, .data⟩, by simp, rfl, rfl⟩
        have d1 := hd 12 _ 271 rfl rfl ⟨⟨12, .data⟩, by simp, rfl, rfl⟩
        have n15 : up 15 = false := by
          cases e : up 15
          · rfl
          · have := c15_13 e; rw [hi] at this; cases this
        have u5 := c8_5 d0.1
        have u7 := c8_7 d0.1
        obtain ⟨g, cap, eg, hO⟩ := hT.t8 d0.1 hi
        rw [eg] at hO
        obtain ⟨g', cap', W', hr, hO', hX⟩ := app_own (P := Tryz.prog) R.heap.size 33 33 90 7 72 _ Tryz.undCp Tryz.infCp rfl (by decide) W g (m + 1) cap (xs1 ++ CpC c) hO A2 k c2 xs2 hl2 (fun ad e j u hj => by
          obtain ⟨h1, h2, h3⟩ := hn2 ad e
          exact (cell_blk j (hT.bel.block ad.block h2 h1)).trans (h3 j u hj)) hA2 ho2 (by omega) (by omega) hbs
        have hgR : R.heap.size ≤ g := by
          rcases hO.2 with ⟨hv, _⟩ | ⟨g2, _, _, hv, hb2, _⟩
          · cases hv
          · cases hv; exact hb2
        refine Or.inl ⟨_, W', exec_append (.tmp 267) (.tmp 271) 33 rfl (d0.2.1.trans eg) (d1.2.1.trans d1.2.2) hr, rfl, trivial, ?_⟩
        refine ⟨⟨hX.os.trans hT.bel.os, hX.tape.trans hT.bel.tape, hX.output.trans hT.bel.output, Nat.le_trans hT.bel.size hX.size, fun q hq hn => (hX.block q (Nat.lt_of_lt_of_le hq hbs) (by omega)).trans (hT.bel.block q hq hn)⟩, fun _ => (hX.block px (Nat.lt_of_lt_of_le hpxl hbs) (by omega)).trans (hT.old n15), ?_, ?_, ?_, ?_, fun _ => ⟨g', cap', rfl, hO'⟩, ?_⟩
        · show _ → ((5 == 13) || up 5) = false → _
          rw [u5]; intro _ h; cases h
        · show _ → ((8 == 13) || up 8) = false → _
          rw [d0.1]; intro _ h; cases h
        · show _ → ((8 == 13) || up 8) = false → _
          rw [d0.1]; intro _ h; cases h
        · show _ → ((13 == 13) || up 13) = false → _
          intro _ h; cases h
        · show ((15 == 13) || up 15) = true → _; rw [n15]; intro h; cases h
      | 15, ho =>
        injection ho with ho; subst ho
        have d0 := hd 14 _ 273 rfl rfl ⟨⟨14, .data⟩, by simp, rfl, rfl⟩
        have d1 := hd 13 _ 272 rfl rfl ⟨⟨13, .data⟩, by simp, rfl, rfl⟩
        have e0 : a.tmps[273]?.getD undef = _ := (RY.ev_tmp a 273).trans (d0.2.1.trans d0.2.2)
        obtain ⟨g, cap, eg, hO⟩ := hT.t13 d1.1
        have e1 : a.tmps[272]?.getD undef = .slice (some ⟨g, 0, none⟩) (m + 1 + k) cap := (RY.ev_tmp a 272).trans (d1.2.1.trans eg)
        have u8 := c13_8 d1.1
        have hp := hT.old hi
        have x2 : W.cell? ⟨px, 2, none⟩ = some (.slice p1 n1 q1) := by simp [World.cell?, hp]
        have fz : ∀ q, W.frozen? ⟨px, q, none⟩ = false := fun q => by simp [World.frozen?, hp]
        have hpz : px < W.heap.size := lt_heap hp
        have hgR : R.heap.size ≤ g := by
          rw [eg] at hO
          rcases hO.2 with ⟨hv, _⟩ | ⟨g2, _, _, hv, hb2, _⟩
          · cases hv
          · cases hv; exact hb2
        refine Or.inr ⟨W.setCell ⟨px, 2, none⟩ (.slice (some ⟨g, 0, none⟩) (m + 1 + k) cap), by simp [execOp, go_sem, e0, e1, x2, fz], rfl, ?_⟩
        refine ⟨hT.bel.sc 2 _, fun h => (by cases h), ?_, ?_, ?_, ?_, fun _ => ⟨g, cap, eg, owns_sc hO (by omega) 2 _⟩, fun _ => ?_⟩
        · show _ → ((5 == 15) || up 5) = false → _
          rw [c8_5 u8]; intro _ h; cases h
        · show _ → ((8 == 15) || up 8) = false → _
          rw [u8]; intro _ h; cases h
        · show _ → ((8 == 15) || up 8) = false → _
          rw [u8]; intro _ h; cases h
        · show _ → ((13 == 15) || up 13) = false → _
          rw [d1.1]; intro _ h; cases h
        · rw [heap_setCell_same W px 2 _ _ _ hp, eg]; rfl
      | n + 16, ho => simp at ho
  · intro up vals vs W hall hv hT
    obtain ⟨g, cap, e, hO⟩ := hT.t13 (hall 13 (by decide))
    have hn := hT.new (hall 15 (by decide))
    rw [e] at hn hO
    have hg : R.heap.size ≤ g := by
      rcases hO.2 with ⟨hv, _⟩ | ⟨g', cap', cur, hv, hb, _⟩
      · cases hv
      · cases hv; exact hb
    exact hQ' W vs g cap hT.bel hg hn hO

/-- A row cut in two. -/
theorem cut_row {R : World} {lo n q px : Nat} {p : Option Addr} {l : List Cp} {cs : Array Value} (h : R.ownsRow lo 90 7 (.slice p n q) n (l.flatMap CpC)) (hl : l.length = n) (hpx : R.heap[px]? = some (.cells cs 36 (0, 0))) (m : Nat) (hm : m ≤ n) (hn : n ≤ 1048576) :
    ∃ A1 A2 c2, (∀ W, (Instr.slice 33 (.slice p n q) none (some (.int .i64 (m : Nat))) none).run Tryz.prog W = .ok (.slice A1 m q) W) ∧ (∀ W, (Instr.slice 33 (.slice p n q) (some (.int .i64 (m : Nat))) none none).run Tryz.prog W = .ok (.slice A2 (n - m) c2) W) ∧
      (∀ ad, A1 = some ad → ad.block ≠ px ∧ ad.block < R.heap.size ∧ ∀ i u, ((l.take m).flatMap CpC)[i]? = some u → R.cell? (ad.add i) = some u) ∧ (∀ ad, A2 = some ad → ad.block ≠ px ∧ ad.block < R.heap.size ∧ ∀ i u, ((l.drop m).flatMap CpC)[i]? = some u → R.cell? (ad.add i) = some u) ∧ (A1 = none → m = 0) ∧ (A2 = none → n - m = 0) := by
  rcases h.2 with ⟨hv, h0⟩ | ⟨g, cap, cur, hv, hlo, hg, hc, hcm, hs, ht⟩
  · cases hv
    obtain rfl : m = 0 := by omega
    have hl0 : l = [] := List.eq_nil_of_length_eq_zero hl
    subst hl0
    exact ⟨none, none, 0, fun W => by kernel_rfl, fun W => by kernel_rfl, fun ad e => (by cases e), fun ad e => (by cases e), fun _ => rfl, fun _ => rfl⟩
  · cases hv
    have h1 : (0 : Int) ≤ (m : Int) := by omega
    have h2 : (m : Int) ≤ (n : Int) := by omega
    have h4 : (m : Int) ≤ (q : Int) := by omega
    have hgz : g < R.heap.size := lt_heap hg
    have hne : g ≠ px := fun e => by
      subst e
      rw [hg] at hpx
      injection hpx with hpx
      injection hpx with _ hpx _
      exact t_kc hpx.symm
    have hcell : ∀ i u, (l.flatMap CpC)[i]? = some u → R.cell? ⟨g, i, none⟩ = some u := fun i u hi => by
      rw [← ht, List.getElem?_take] at hi
      simp only [World.cell?, hg]
      split at hi
      · simpa using hi
      · cases hi
    refine ⟨some ⟨g, 0, none⟩, if q = m then some ⟨g, 0, none⟩ else some ⟨g, m * 7, none⟩, q - m, fun W => (by simp [Instr.slice, go_sem, h1, h4]), fun W => (by simp [Instr.slice, go_sem, h1, h2]), fun ad e => ?_, fun ad e => ?_, fun e => (by cases e), fun e => (by split at e <;> cases e)⟩
    · injection e with e
      subst e
      refine ⟨hne, hgz, fun i u hi => ?_⟩
      rw [addN, Nat.zero_add]
      refine hcell i u ?_
      rw [← flat_take CpC 7 CpC_len, List.getElem?_take] at hi
      split at hi
      · exact hi
      · cases hi
    · have hb : ad.block = g := by split at e <;> (injection e with e; subst e; rfl)
      refine ⟨by rw [hb]; exact hne, by rw [hb]; exact hgz, fun i u hi => ?_⟩
      rw [← flat_drop CpC 7 CpC_len, List.getElem?_drop] at hi
      by_cases hq : q = m
      · exfalso
        have : (l.flatMap CpC).length ≤ m * 7 := by rw [flat_len CpC 7 CpC_len, hl]; exact Nat.mul_le_mul_right 7 (by omega)
        rw [List.getElem?_eq_none (by omega)] at hi
        cases hi
      · rw [if_neg hq] at e
        injection e with e
        subst e
        rw [addN]
        exact hcell _ u hi
theorem owns_belx {R W : World} {lo px : Nat} {e e' : TypeId} {size : Nat} {v : Value} {n : Nat} {xs : List Value} {cs : Array Value} (h : R.ownsRow lo e size v n xs) (hx : BelX px R W) (hpx : R.heap[px]? = some (.cells cs e' (0, 0))) (hne : e ≠ e') : W.ownsRow lo e size v n xs := by
  refine ⟨h.1, h.2.imp id ?_⟩
  rintro ⟨g, cap, cur, h1, h2, h3, h4⟩
  refine ⟨g, cap, cur, h1, h2, (hx.block g (lt_heap h3) (fun e2 => ?_)).trans h3, h4⟩
  subst e2
  rw [hpx] at h3
  injection h3 with h3
  injection h3 with _ h3 _
  exact hne h3.symm
theorem owns_lo {W : World} {lo lo' : Nat} {e : TypeId} {size : Nat} {v : Value} {n : Nat} {xs : List Value} (h : W.ownsRow lo e size v n xs) (hle : lo' ≤ lo) : W.ownsRow lo' e size v n xs := by
  refine ⟨h.1, h.2.imp id ?_⟩
  rintro ⟨g, cap, cur, h1, h2, h3⟩
  exact ⟨g, cap, cur, h1, Nat.le_trans hle h2, h3⟩
theorem t_sk : (86 : TypeId) ≠ 36 := by decide
theorem t_bk : (88 : TypeId) ≠ 36 := by decide
theorem AI0.belx {w R W : World} {v0 v1 v2 v3 u0 u1 u2 u3 u4 u5 u6 u7 : Value} {px : Nat} (h : AI0 w R v0 v1 v2 v3 u0 u1 u2 u3 u4 u5 u6 u7) (hx : BelX px R W) (hpx : w.heap.size + 3 ≤ px) : AI0 w W v0 v1 v2 v3 u0 u1 u2 u3 u4 u5 u6 u7 := by
  obtain ⟨hb, ⟨xz, x0, x1, x2, x3⟩, ⟨az, a0, a1, a2, a3, a4, a5, a6, a7⟩, ⟨cs, ho, hs⟩⟩ := h
  have c := fun j => hx.cell xz (by omega) j
  have d := fun j => hx.cell az (by omega) j
  exact ⟨hx.below hb (by omega), ⟨Nat.lt_of_lt_of_le xz hx.size, (c 0).trans x0, (c 1).trans x1, (c 2).trans x2, (c 3).trans x3⟩, ⟨Nat.lt_of_lt_of_le az hx.size, (d 0).trans a0, (d 1).trans a1, (d 2).trans a2, (d 3).trans a3, (d 4).trans a4, (d 5).trans a5, (d 6).trans a6, (d 7).trans a7⟩, ⟨cs, (hx.block _ (lt_heap ho) (by omega)).trans ho, hs⟩⟩
theorem plc_yes (c : Cp) : ∀ (l : List Cp) (j : Nat), j < plcCp l c → ahead (l.getD j Cp.none) c = true
  | [], _, h => by simp [plcCp] at h
  | x :: l, j, h => by
    unfold plcCp at h
    rw [List.takeWhile_cons] at h
    by_cases e : ahead x c = true
    · rw [if_pos e] at h
      cases j with
      | zero => simpa using e
      | succ j => have := plc_yes c l j (by unfold plcCp; simpa using h); simpa using this
    · rw [if_neg e] at h; simp at h
theorem plc_eq (c : Cp) : ∀ (l : List Cp) (t : Nat), t ≤ l.length → (∀ j, j < t → ahead (l.getD j Cp.none) c = true) → (t < l.length → ahead (l.getD t Cp.none) c = false) → plcCp l c = t
  | [], t, h, _, _ => by simp at h; subst h; rfl
  | x :: l, 0, _, _, h => by
    have := h (by simp)
    unfold plcCp
    rw [List.takeWhile_cons]
    have e : ahead x c = false := by simpa using this
    rw [e]; rfl
  | x :: l, t + 1, h, h1, h2 => by
    have e : ahead x c = true := by have := h1 0 (by omega); simpa using this
    have ih := plc_eq c l t (by simpa using h) (fun j hj => by have := h1 (j + 1) (by omega); simpa using this) (fun hj => by have := h2 (by simpa using hj); simpa using this)
    unfold plcCp at ih ⊢
    rw [List.takeWhile_cons, if_pos e, List.length_cons, ih]
theorem plc_le (l : List Cp) (c : Cp) : plcCp l c ≤ l.length := (List.takeWhile_prefix _).length_le
theorem ins_len (l : List Cp) (c : Cp) : (insCp l c).length = l.length + 1 := by
  have := plc_le l c
  unfold insCp
  rw [List.length_append, List.length_append, List.length_take, List.length_drop, List.length_singleton]
  omega
theorem ins_mem {l : List Cp} {c x : Cp} (h : x ∈ insCp l c) : x = c ∨ x ∈ l := by
  unfold insCp at h
  simp only [List.mem_append, List.mem_singleton] at h
  rcases h with (h | h) | h
  · exact Or.inr (List.mem_of_mem_take h)
  · exact Or.inl h
  · exact Or.inr (List.mem_of_mem_drop h)
theorem ins_sized {l : List Cp} {c : Cp} (h : ∀ i, i < l.length → (l.getD i Cp.none).sized) (hc : c.sized) : ∀ i, i < (insCp l c).length → ((insCp l c).getD i Cp.none).sized := by
  intro i hi
  have e : (insCp l c).getD i Cp.none = (insCp l c)[i] := by simp [hi]
  rw [e]
  rcases ins_mem (List.getElem_mem hi) with q | q
  · rw [q]; exact hc
  · obtain ⟨k, hk, ek⟩ := List.getElem_of_mem q
    have := h k hk
    have e2 : l.getD k Cp.none = l[k] := by simp [hk]
    rw [e2, ek] at this
    exact this

end Go.Proofs.YtpamkibnahhphaaGreatDoor
