/-
  Stewards: an act that is being done: scaling, ending, by the program.
-/
import Derived.WalkLawsBesides
import Derived.Test.YtpamkibnahhphaaGreatDoorStMI
import Derived.Test.YtpamkibnahhphaaGreatDoorSaB
import Derived.Test.YtpamkibnahhphaaGreatDoorQc
namespace Go.Proofs.YtpamkibnahhphaaGreatDoor
open Go.RowKit Go.Deep

theorem blw_two {n : Nat} {a b c : World} (h : Below n a b) (k : Below n b c) : Below n a c :=
  ⟨k.os.trans h.os, k.tape.trans h.tape, k.output.trans h.output, Nat.le_trans h.size k.size, fun i hi => (k.block i hi).trans (h.block i hi)⟩
theorem blw_less {n m : Nat} {a b : World} (h : Below n a b) (hm : m ≤ n) : Below m a b :=
  ⟨h.os, h.tape, h.output, h.size, fun i hi => h.block i (by omega)⟩
theorem blw_sc {n : Nat} {a b : World} (h : Below n a b) {p : Nat} (hp : n ≤ p) (j : Nat) (x : Value) : Below n a (b.setCell ⟨p, j, none⟩ x) :=
  ⟨h.os, h.tape, h.output, by rw [sc_size]; exact h.size, fun i hi => (Below.heap_setCell b ⟨p, j, none⟩ x i (by show i ≠ p; omega)).trans (h.block i hi)⟩

/-- What is thrown where an act cannot be done. -/
def stopV (c : Int) : Value := .iface 108 (.agg #[.iface 64 (.agg #[.int .i64 c])])
def stopE (c : Int) : Ending := .panicked [{ v := stopV c, recovered := false }]

set_option maxHeartbeats 4000000 in
theorem stopNo (c : Int) (w : World) :
    Calls Tryz.prog 97 #[.bool false, .int .i64 c] w fun e w' => e = .returned (.tuple #[]) ∧ w' = w := by
  go_enter Tryz.func97, Tryz.ntmps97
  go_wp2
  go_end0
  exact ⟨rfl, rfl⟩
set_option maxHeartbeats 4000000 in
theorem stopYes (c : Int) (w : World) :
    Calls Tryz.prog 97 #[.bool true, .int .i64 c] w fun e w' => e = .panicked [{ v := stopV c, recovered := false }] ∧ w' = w := by
  go_enter Tryz.func97, Tryz.ntmps97
  go_wp2
  exact ⟨rfl, rfl, rfl⟩

/-- An act that is being done: its variable, and the rows of its own. -/
structure Wk (lo p : Nat) (W : World) (X : Ac) (ae : Value) (now : Int) (sv : List Sv) (cp : List Cp) (bt : List Bt) (k : Nat) (es : List Nat) (p0 p1 p2 pe : Option Addr) (n0 n1 n2 ne q0 q1 q2 qe : Nat) : Prop where
  bx : W.heap[p]? = some (.cells #[.string X.svc, .int .i64 X.seen, .int .i64 X.create, .int .i64 X.want, .int .i64 X.cool, .bool X.scale, ae, .bool X.drop, .int .i64 now, .slice p0 n0 q0, .slice p1 n1 q1, .slice p2 n2 q2, .int .i64 (k : Nat), .slice pe ne qe] 115 (0, 0))
  lp : lo ≤ p
  o0 : W.ownsRow lo 86 13 (.slice p0 n0 q0) n0 (sv.flatMap SvC)
  o1 : W.ownsRow lo 90 7 (.slice p1 n1 q1) n1 (cp.flatMap CpC)
  o2 : W.ownsRow lo 88 2 (.slice p2 n2 q2) n2 (bt.flatMap BtC)
  oe : W.ownsRow lo 3 1 (.slice pe ne qe) ne (es.map fun i => .int .i64 ((i : Nat) : Int))
  l0 : sv.length = n0
  l1 : cp.length = n1
  l2 : bt.length = n2
  le : es.length = ne
  z0 : ∀ i, i < sv.length → (sv.getD i Sv.none).sized
  z1 : ∀ i, i < cp.length → (cp.getD i Cp.none).sized
  z2 : ∀ i, i < bt.length → (bt.getD i Bt.none).sized
  m0 : n0 ≤ 1048576
  m1 : n1 ≤ 1048576
  m2 : n2 ≤ 1048576
  me : ne ≤ 1048576
theorem Wk.later {lo p : Nat} {W : World} {X : Ac} {ae : Value} {now : Int} {sv : List Sv} {cp : List Cp} {bt : List Bt} {k : Nat} {es : List Nat} {p0 p1 p2 pe : Option Addr} {n0 n1 n2 ne q0 q1 q2 qe : Nat} {W' : World} (h : Wk lo p W X ae now sv cp bt k es p0 p1 p2 pe n0 n1 n2 ne q0 q1 q2 qe) (hb : Below W.heap.size W W') : Wk lo p W' X ae now sv cp bt k es p0 p1 p2 pe n0 n1 n2 ne q0 q1 q2 qe :=
  ⟨(hb.block p (lt_heap h.bx)).trans h.bx, h.lp, owns_on h.o0 hb, owns_on h.o1 hb, owns_on h.o2 hb, owns_on h.oe hb, h.l0, h.l1, h.l2, h.le, h.z0, h.z1, h.z2, h.m0, h.m1, h.m2, h.me⟩
theorem Wk.v {lo p : Nat} {W : World} {X : Ac} {ae : Value} {now : Int} {sv : List Sv} {cp : List Cp} {bt : List Bt} {k : Nat} {es : List Nat} {p0 p1 p2 pe : Option Addr} {n0 n1 n2 ne q0 q1 q2 qe : Nat} (h : Wk lo p W X ae now sv cp bt k es p0 p1 p2 pe n0 n1 n2 ne q0 q1 q2 qe) : SBkV W p0 p1 p2 ⟨now, sv, cp, bt⟩ := by
  have m0 := h.m0
  have m1 := h.m1
  have m2 := h.m2
  obtain ⟨_, _, o0, o1, o2, _, rfl, rfl, rfl, rfl, z0, z1, z2, _, _, _, _⟩ := h
  obtain ⟨a, c, e, h0⟩ := owns_Svs o0 z0 (by unfold maxLen; omega)
  injection e with e _ _
  subst e
  obtain ⟨a, c, e, h1⟩ := owns_Cps o1 z1 (by unfold maxLen; omega)
  injection e with e _ _
  subst e
  obtain ⟨a, c, e, h2⟩ := owns_Bts o2 z2 (by unfold maxLen; omega)
  injection e with e _ _
  subst e
  exact ⟨h0, h1, h2⟩
theorem Wk.cell {lo p : Nat} {W : World} {X : Ac} {ae : Value} {now : Int} {sv : List Sv} {cp : List Cp} {bt : List Bt} {k : Nat} {es : List Nat} {p0 p1 p2 pe : Option Addr} {n0 n1 n2 ne q0 q1 q2 qe : Nat} (h : Wk lo p W X ae now sv cp bt k es p0 p1 p2 pe n0 n1 n2 ne q0 q1 q2 qe) (j : Nat) : W.cell? ⟨p, j, none⟩ = (#[.string X.svc, .int .i64 X.seen, .int .i64 X.create, .int .i64 X.want, .int .i64 X.cool, .bool X.scale, ae, .bool X.drop, .int .i64 now, .slice p0 n0 q0, .slice p1 n1 q1, .slice p2 n2 q2, .int .i64 (k : Nat), .slice pe ne qe] : Array Value)[j]? := cellsOf_block h.bx j
theorem Wk.lt {lo p : Nat} {W : World} {X : Ac} {ae : Value} {now : Int} {sv : List Sv} {cp : List Cp} {bt : List Bt} {k : Nat} {es : List Nat} {p0 p1 p2 pe : Option Addr} {n0 n1 n2 ne q0 q1 q2 qe : Nat} (h : Wk lo p W X ae now sv cp bt k es p0 p1 p2 pe n0 n1 n2 ne q0 q1 q2 qe) : p < W.heap.size := lt_heap h.bx
theorem Wk.thaw {lo p : Nat} {W : World} {X : Ac} {ae : Value} {now : Int} {sv : List Sv} {cp : List Cp} {bt : List Bt} {k : Nat} {es : List Nat} {p0 p1 p2 pe : Option Addr} {n0 n1 n2 ne q0 q1 q2 qe : Nat} (h : Wk lo p W X ae now sv cp bt k es p0 p1 p2 pe n0 n1 n2 ne q0 q1 q2 qe) (j : Nat) : W.frozen? ⟨p, j, none⟩ = false := frozen_block h.bx j
theorem Wk.lo {lo p : Nat} {W : World} {X : Ac} {ae : Value} {now : Int} {sv : List Sv} {cp : List Cp} {bt : List Bt} {k : Nat} {es : List Nat} {p0 p1 p2 pe : Option Addr} {n0 n1 n2 ne q0 q1 q2 qe : Nat} (h : Wk lo p W X ae now sv cp bt k es p0 p1 p2 pe n0 n1 n2 ne q0 q1 q2 qe) : lo ≤ W.heap.size := Nat.le_of_lt (Nat.lt_of_le_of_lt h.lp h.lt)
/-- A service's cells, in the row of one's own. -/
theorem Wk.svAt {lo p : Nat} {W : World} {X : Ac} {ae : Value} {now : Int} {sv : List Sv} {cp : List Cp} {bt : List Bt} {k : Nat} {es : List Nat} {p0 p1 p2 pe : Option Addr} {n0 n1 n2 ne q0 q1 q2 qe : Nat} (h : Wk lo p W X ae now sv cp bt k es p0 p1 p2 pe n0 n1 n2 ne q0 q1 q2 qe) {i : Nat} (hi : i < sv.length) : ∃ g cur, p0 = some ⟨g, 0, none⟩ ∧ lo ≤ g ∧ g < W.heap.size ∧ W.heap[g]? = some (.cells cur 86 (0, 0)) ∧ i * 13 + 13 ≤ cur.size ∧ ∀ j u, (SvC (sv.getD i Sv.none))[j]? = some u → W.cell? ⟨g, i * 13 + j, none⟩ = some u := by
  obtain ⟨g, cur, e, hlo, hg, hs, hc⟩ := owns_blk h.o0 (by have := h.l0; omega)
  refine ⟨g, cur, e, hlo, lt_heap hg, hg, ?_, fun j u hj => ?_⟩
  · rw [flat_len SvC 13 SvC_len] at hs
    have : (i + 1) * 13 ≤ sv.length * 13 := Nat.mul_le_mul_right 13 hi
    omega
  · have hj13 : j < 13 := by
      have := (List.getElem?_eq_some_iff.1 hj).1
      rwa [SvC_len] at this
    exact hc _ _ ((flat_at Sv.none SvC 13 SvC_len sv i j hi hj13).trans hj)
theorem Wk.cpAt {lo p : Nat} {W : World} {X : Ac} {ae : Value} {now : Int} {sv : List Sv} {cp : List Cp} {bt : List Bt} {k : Nat} {es : List Nat} {p0 p1 p2 pe : Option Addr} {n0 n1 n2 ne q0 q1 q2 qe : Nat} (h : Wk lo p W X ae now sv cp bt k es p0 p1 p2 pe n0 n1 n2 ne q0 q1 q2 qe) {i : Nat} (hi : i < cp.length) : ∃ g cur, p1 = some ⟨g, 0, none⟩ ∧ lo ≤ g ∧ g < W.heap.size ∧ W.heap[g]? = some (.cells cur 90 (0, 0)) ∧ i * 7 + 7 ≤ cur.size ∧ ∀ j u, (CpC (cp.getD i Cp.none))[j]? = some u → W.cell? ⟨g, i * 7 + j, none⟩ = some u := by
  obtain ⟨g, cur, e, hlo, hg, hs, hc⟩ := owns_blk h.o1 (by have := h.l1; omega)
  refine ⟨g, cur, e, hlo, lt_heap hg, hg, ?_, fun j u hj => ?_⟩
  · rw [flat_len CpC 7 CpC_len] at hs
    have : (i + 1) * 7 ≤ cp.length * 7 := Nat.mul_le_mul_right 7 hi
    omega
  · have hj7 : j < 7 := by
      have := (List.getElem?_eq_some_iff.1 hj).1
      rwa [CpC_len] at this
    exact hc _ _ ((flat_at Cp.none CpC 7 CpC_len cp i j hi hj7).trans hj)
theorem t_ws : (115 : TypeId) ≠ 86 := by decide
theorem t_wc : (115 : TypeId) ≠ 90 := by decide
theorem t_wb : (115 : TypeId) ≠ 88 := by decide
theorem t_wi : (115 : TypeId) ≠ 3 := by decide
theorem t_bsv : (88 : TypeId) ≠ 86 := by decide
theorem t_is : (3 : TypeId) ≠ 86 := by decide
theorem t_ic : (3 : TypeId) ≠ 90 := by decide
theorem getD_set_sized {α : Type} (d : α) (P : α → Prop) {l : List α} (h : ∀ i, i < l.length → P (l.getD i d)) (c : Nat) (m : α) (hm : P m) : ∀ i, i < (l.set c m).length → P ((l.set c m).getD i d) := by
  intro i hi
  rw [List.length_set] at hi
  by_cases e : c = i
  · subst e
    have : (l.set c m).getD c d = m := by simp [hi]
    rw [this]; exact hm
  · have : (l.set c m).getD i d = l.getD i d := by simp [e]
    rw [this]; exact h i hi
/-- A cell of a service is turned. -/
theorem Wk.setSv {lo p : Nat} {W : World} {X : Ac} {ae : Value} {now : Int} {sv : List Sv} {cp : List Cp} {bt : List Bt} {k : Nat} {es : List Nat} {p1 p2 pe : Option Addr} {g : Nat} {n0 n1 n2 ne q0 q1 q2 qe : Nat} (h : Wk lo p W X ae now sv cp bt k es (some ⟨g, 0, none⟩) p1 p2 pe n0 n1 n2 ne q0 q1 q2 qe) {cur : Array Value} (hg : W.heap[g]? = some (.cells cur 86 (0, 0))) (c j : Nat) (hc : c < sv.length) (hj : j < 13) (x : Value) (m : Sv) (hm : SvC m = (SvC (sv.getD c Sv.none)).set j x) (hz : m.sized) :
    Wk lo p (W.setCell ⟨g, c * 13 + j, none⟩ x) X ae now (sv.set c m) cp bt k es (some ⟨g, 0, none⟩) p1 p2 pe n0 n1 n2 ne q0 q1 q2 qe := by
  refine ⟨heap_else h.bx hg t_ws _ _, h.lp, ?_, owns_else h.o1 hg (fun e => t_sc e.symm) _ _, owns_else h.o2 hg t_bsv _ _, owns_else h.oe hg t_is _ _, by rw [List.length_set]; exact h.l0, h.l1, h.l2, h.le, getD_set_sized Sv.none Sv.sized h.z0 c m hz, h.z1, h.z2, h.m0, h.m1, h.m2, h.me⟩
  rw [← flat_set Sv.none SvC 13 SvC_len j hj x sv c m hc hm]
  exact owns_set h.o0 _ _
/-- A cell of a copy is turned. -/
theorem Wk.setCp {lo p : Nat} {W : World} {X : Ac} {ae : Value} {now : Int} {sv : List Sv} {cp : List Cp} {bt : List Bt} {k : Nat} {es : List Nat} {p0 p2 pe : Option Addr} {g : Nat} {n0 n1 n2 ne q0 q1 q2 qe : Nat} (h : Wk lo p W X ae now sv cp bt k es p0 (some ⟨g, 0, none⟩) p2 pe n0 n1 n2 ne q0 q1 q2 qe) {cur : Array Value} (hg : W.heap[g]? = some (.cells cur 90 (0, 0))) (c j : Nat) (hc : c < cp.length) (hj : j < 7) (x : Value) (m : Cp) (hm : CpC m = (CpC (cp.getD c Cp.none)).set j x) (hz : m.sized) :
    Wk lo p (W.setCell ⟨g, c * 7 + j, none⟩ x) X ae now sv (cp.set c m) bt k es p0 (some ⟨g, 0, none⟩) p2 pe n0 n1 n2 ne q0 q1 q2 qe := by
  refine ⟨heap_else h.bx hg t_wc _ _, h.lp, owns_else h.o0 hg t_sc _ _, ?_, owns_else h.o2 hg t_bc _ _, owns_else h.oe hg t_ic _ _, h.l0, by rw [List.length_set]; exact h.l1, h.l2, h.le, h.z0, getD_set_sized Cp.none Cp.sized h.z1 c m hz, h.z2, h.m0, h.m1, h.m2, h.me⟩
  rw [← flat_set Cp.none CpC 7 CpC_len j hj x cp c m hc hm]
  exact owns_set h.o1 _ _
theorem Wk.rows {lo p : Nat} {W : World} {X : Ac} {ae : Value} {now : Int} {sv : List Sv} {cp : List Cp} {bt : List Bt} {k : Nat} {es : List Nat} {p0 p1 p2 pe : Option Addr} {n0 n1 n2 ne q0 q1 q2 qe : Nat} (h : Wk lo p W X ae now sv cp bt k es p0 p1 p2 pe n0 n1 n2 ne q0 q1 q2 qe) (j : Nat) (x : Value) : (W.setCell ⟨p, j, none⟩ x).ownsRow lo 86 13 (.slice p0 n0 q0) n0 (sv.flatMap SvC) ∧ (W.setCell ⟨p, j, none⟩ x).ownsRow lo 90 7 (.slice p1 n1 q1) n1 (cp.flatMap CpC) ∧ (W.setCell ⟨p, j, none⟩ x).ownsRow lo 88 2 (.slice p2 n2 q2) n2 (bt.flatMap BtC) ∧ (W.setCell ⟨p, j, none⟩ x).ownsRow lo 3 1 (.slice pe ne qe) ne (es.map fun i => .int .i64 ((i : Nat) : Int)) :=
  ⟨owns_else h.o0 h.bx (fun e => t_ws e.symm) _ _, owns_else h.o1 h.bx (fun e => t_wc e.symm) _ _, owns_else h.o2 h.bx (fun e => t_wb e.symm) _ _, owns_else h.oe h.bx (fun e => t_wi e.symm) _ _⟩
theorem Wk.setNow {lo p : Nat} {W : World} {X : Ac} {ae : Value} {now : Int} {sv : List Sv} {cp : List Cp} {bt : List Bt} {k : Nat} {es : List Nat} {p0 p1 p2 pe : Option Addr} {n0 n1 n2 ne q0 q1 q2 qe : Nat} (h : Wk lo p W X ae now sv cp bt k es p0 p1 p2 pe n0 n1 n2 ne q0 q1 q2 qe) (v : Int) : Wk lo p (W.setCell ⟨p, 8, none⟩ (.int .i64 v)) X ae v sv cp bt k es p0 p1 p2 pe n0 n1 n2 ne q0 q1 q2 qe := by
  obtain ⟨r0, r1, r2, re⟩ := h.rows 8 (.int .i64 v)
  exact ⟨(set_block h.bx 8 _).trans rfl, h.lp, r0, r1, r2, re, h.l0, h.l1, h.l2, h.le, h.z0, h.z1, h.z2, h.m0, h.m1, h.m2, h.me⟩

set_option maxRecDepth 8000 in
set_option maxHeartbeats 8000000 in
theorem serviceI {lo p : Nat} {W : World} {X : Ac} {ae : Value} {now : Int} {sv : List Sv} {cp : List Cp} {bt : List Bt} {k : Nat} {es : List Nat} {p1 p2 pe : Option Addr} {g : Nat} {n0 n1 n2 ne q0 q1 q2 qe : Nat} (h : Wk lo p W X ae now sv cp bt k es (some ⟨g, 0, none⟩) p1 p2 pe n0 n1 n2 ne q0 q1 q2 qe) (hk : k < n0) :
    Calls Tryz.prog 96 #[.pointer (some ⟨p, 0, none⟩)] W fun e W' => e = .returned (.pointer (some ⟨g, k * 13, none⟩)) ∧ Below W.heap.size W W' := by
  have c9 : W.cell? ⟨p, 9, none⟩ = some (.slice (some ⟨g, 0, none⟩) n0 q0) := h.cell 9
  have c12 : W.cell? ⟨p, 12, none⟩ = some (.int .i64 (k : Nat)) := h.cell 12
  have hz := h.lt
  have hm := h.m0
  clear h
  go_enter Tryz.func96, Tryz.ntmps96
  go_upto_region 1 with fail
  have hNE := pst_some W
  have hZ : ∀ px : Pst W, p < px.W.heap.size := fun px => px.size hz
  have C9 : ∀ px : Pst W, px.W.cell? ⟨p, 9, none⟩ = some (.slice (some ⟨g, 0, none⟩) n0 q0) := fun px => px.cell c9 hz
  have C12 : ∀ px : Pst W, px.W.cell? ⟨p, 12, none⟩ = some (.int .i64 (k : Nat)) := fun px => px.cell c12 hz
  have hk0 : (0 : Int) ≤ (k : Int) := by omega
  have hk1 : (k : Int) < (n0 : Int) := by omega
  clear c9 c12
  refine region_class W (Below.refl _ _) (by kernel_rfl) (by kernel_rfl) ?_
  repeat (first
    | go_big_quiet_skip
    | (go_big_quiet_want; go_big_quiet_op; first | go_big_quiet_on | (apply Exists.intro; refine ⟨fun px => ?_, ?_⟩; (focus (fail)); go_big_quiet_on)))
  refine wpQuiet_nil ?_
  intro _ hw'
  obtain ⟨x6, hw''⟩ := hw'
  subst hw''
  go_wp2
  go_ret
  exact ⟨rfl, x6.ok⟩

theorem SBkV.sz0 {w : World} {a0 a1 a2 : Option Addr} {K : SBk} (h : SBkV w a0 a1 a2 K) : ∀ i, i < K.svcs.length → (K.svcs.getD i Sv.none).sized := fun i hi => by
  obtain ⟨_, _, _, _, hf⟩ := h.s.at_ i hi
  exact hf.sized
theorem SBkV.sz1 {w : World} {a0 a1 a2 : Option Addr} {K : SBk} (h : SBkV w a0 a1 a2 K) : ∀ i, i < K.cps.length → (K.cps.getD i Cp.none).sized := fun i hi => by
  obtain ⟨_, _, _, _, hf⟩ := h.c.at_ i hi
  exact hf.sized
theorem SBkV.sz2 {w : World} {a0 a1 a2 : Option Addr} {K : SBk} (h : SBkV w a0 a1 a2 K) : ∀ i, i < K.bts.length → (K.bts.getD i Bt.none).sized := fun i hi => by
  obtain ⟨_, _, _, _, hf⟩ := h.b.at_ i hi
  exact hf.sized
theorem below_grown {w w' : World} (hg : w.grownBy w' none) : Below w.heap.size w w' := Below.grown (Below.refl _ _) hg (Nat.le_refl _) (fun k e => by cases e)

set_option maxRecDepth 8000 in
set_option maxHeartbeats 8000000 in
theorem copyBookI (K : SBk) (b0 b1 b2 : Nat) (c0 c1 c2 : Nat) (w : World) (h : SBkV w (some ⟨b0, 0, none⟩) (some ⟨b1, 0, none⟩) (some ⟨b2, 0, none⟩) K) (hs : K.small) :
    Calls Tryz.prog 29 #[.agg #[.int .i64 K.now, .slice (some ⟨b0, 0, none⟩) K.svcs.length c0, .slice (some ⟨b1, 0, none⟩) K.cps.length c1, .slice (some ⟨b2, 0, none⟩) K.bts.length c2]] w fun e w' => (∃ s0 s1 s2, e = .returned (.agg #[.int .i64 K.now, s0, s1, s2]) ∧ BkOwn w' (w.heap.size + 2) K s0 s1 s2) ∧ Below w.heap.size w w' := by
  have HH := hid h
  have HS := hid hs
  clear h hs
  obtain ⟨i0, hi0, ei0⟩ := Option.map_eq_some_iff.1 Tryz.infSv
  simp only [Prod.mk.injEq] at ei0
  obtain ⟨hz0, hs0, hy0⟩ := ei0
  obtain ⟨i1, hi1, ei1⟩ := Option.map_eq_some_iff.1 Tryz.infCp
  simp only [Prod.mk.injEq] at ei1
  obtain ⟨hz1, hs1, hy1⟩ := ei1
  obtain ⟨i2, hi2, ei2⟩ := Option.map_eq_some_iff.1 Tryz.infBt
  simp only [Prod.mk.injEq] at ei2
  obtain ⟨hz2, hs2, hy2⟩ := ei2
  obtain ⟨wa, hwa⟩ : ∃ wa, wa = (w.alloc (.cells #[.int .i64 K.now, .slice (some ⟨b0, 0, none⟩) K.svcs.length c0, .slice (some ⟨b1, 0, none⟩) K.cps.length c1, .slice (some ⟨b2, 0, none⟩) K.bts.length c2] 36)).alloc (.cells #[.int .i64 0, .slice none 0 0, .slice none 0 0, .slice none 0 0] 36) := ⟨_, rfl⟩
  have HB : Hid (Below w.heap.size w wa) := by show Below _ _ _; rw [hwa]; exact blw_alloc (blw_alloc (Below.refl _ _) _) _
  have HX : Hid (wa.heap[w.heap.size]? = some (.cells #[.int .i64 K.now, .slice (some ⟨b0, 0, none⟩) K.svcs.length c0, .slice (some ⟨b1, 0, none⟩) K.cps.length c1, .slice (some ⟨b2, 0, none⟩) K.bts.length c2] 36 (0, 0))) := by show _ = _; rw [hwa]; exact ((blw_alloc (Below.refl _ _) _).block w.heap.size (by simp)).trans (heap_alloc_new w _)
  have HO : Hid (wa.heap[w.heap.size + 1]? = some (.cells #[.int .i64 0, .slice none 0 0, .slice none 0 0, .slice none 0 0] 36 (0, 0))) := by
    show _ = _
    rw [hwa]
    have e : (w.alloc (.cells #[.int .i64 K.now, .slice (some ⟨b0, 0, none⟩) K.svcs.length c0, .slice (some ⟨b1, 0, none⟩) K.cps.length c1, .slice (some ⟨b2, 0, none⟩) K.bts.length c2] 36)).heap.size = w.heap.size + 1 := by simp
    rw [← e]
    exact heap_alloc_new _ _
  have HZ : Hid (w.heap.size + 2 ≤ wa.heap.size) := by show _ ≤ _; rw [hwa]; simp
  go_enter Tryz.func29, Tryz.ntmps29
  go_upto_region 1 with fail
  rw [← hwa]
  clear hwa
  have yz := lt_block HX.out
  have y0 := cellsOf_block HX.out 0
  have y1 := cellsOf_block HX.out 1
  have y2 := cellsOf_block HX.out 2
  have y3 := cellsOf_block HX.out 3
  have yf := frozen_block HX.out 1
  simp only [List.getElem?_toArray, List.getElem?_cons_zero, List.getElem?_cons_succ] at y0 y1 y2 y3
  have hsz := HZ.out
  go_wp2_with (at_builtin; refine wpList_append_own _ rfl _ _ 32 rfl (w.heap.size + 2) 86 i0 _ 13 112 Tryz.undSv hi0 hz0 hs0 hy0 rfl (by decide) _ 0 [] rfl (World.ownsRow_nil _ _ _ _) ⟨b0, 0, none⟩ K.svcs.length c0 (K.svcs.flatMap SvC) rfl ?a10 ?a20 ?a30 ?a40 ?a50 ?a60 ?_)
  case a10 => exact flat_len SvC 13 SvC_len K.svcs
  case a20 => exact (SvsV.news (HH.out.later HB.out).s) _ rfl
  case a30 => exact SvC_one K.svcs
  case a40 => unfold maxLen; have := HS.out.1; omega
  case a50 => have := HS.out.1; omega
  case a60 => exact HZ.out
  intro v0 w0 ho0 hg0 hn0
  clear yz y0 y1 y2 y3 yf hsz hn0
  have hbl : Below wa.heap.size wa w0 := below_grown hg0
  clear hg0
  have HX' := hid ((hbl.block _ (lt_block HX.out)).trans HX.out)
  have HO' := hid ((hbl.block _ (lt_block HO.out)).trans HO.out)
  have HB' := hid (blw_trans HB.out hbl)
  have HZ' := hid (Nat.le_trans HZ.out hbl.size)
  obtain ⟨d0, e0, rfl⟩ := owns_is ho0
  obtain ⟨x0, hx0⟩ : ∃ x0, x0 = w0.setCell ⟨w.heap.size, 1, none⟩ (.slice d0 K.svcs.length e0) := ⟨_, rfl⟩
  clear HX HO HB HZ hbl
  have HX : Hid (x0.heap[w.heap.size]? = some (.cells #[.int .i64 K.now, .slice d0 K.svcs.length e0, .slice (some ⟨b1, 0, none⟩) K.cps.length c1, .slice (some ⟨b2, 0, none⟩) K.bts.length c2] 36 (0, 0))) := by show _ = _; rw [hx0]; exact (set_block HX'.out 1 _).trans rfl
  have HO : Hid (x0.heap[w.heap.size + 1]? = some (.cells #[.int .i64 0, .slice none 0 0, .slice none 0 0, .slice none 0 0] 36 (0, 0))) := by show _ = _; rw [hx0]; exact (set_other (by omega) _ _).trans HO'.out
  have HB : Hid (Below w.heap.size w x0) := by show Below _ _ _; rw [hx0]; exact blw_sc HB'.out (Nat.le_refl _) _ _
  have HZ : Hid (w.heap.size + 2 ≤ x0.heap.size) := by show _ ≤ _; rw [hx0, sc_size]; exact HZ'.out
  have R0 : Hid (x0.ownsRow (w.heap.size + 2) 86 13 (.slice d0 K.svcs.length e0) K.svcs.length (K.svcs.flatMap SvC)) := by show World.ownsRow _ _ _ _ _ _ _; rw [hx0]; exact owns_sc ho0 (by omega) _ _
  have yz := lt_block HX'.out
  have yf := frozen_block HX'.out 1
  have y1 := cellsOf_block HX'.out 1
  simp only [List.getElem?_toArray, List.getElem?_cons_zero, List.getElem?_cons_succ] at y1
  go_upto_region 2 with fail
  rw [← hx0]
  clear hx0 yz yf y1 HX' HO' HB' HZ' ho0
  have yz := lt_block HX.out
  have y0 := cellsOf_block HX.out 0
  have y1 := cellsOf_block HX.out 1
  have y2 := cellsOf_block HX.out 2
  have y3 := cellsOf_block HX.out 3
  have yf := frozen_block HX.out 2
  simp only [List.getElem?_toArray, List.getElem?_cons_zero, List.getElem?_cons_succ] at y0 y1 y2 y3
  have hsz := HZ.out
  go_wp2_with (at_builtin; refine wpList_append_own _ rfl _ _ 33 rfl (w.heap.size + 2) 90 i1 _ 7 72 Tryz.undCp hi1 hz1 hs1 hy1 rfl (by decide) _ 0 [] rfl (World.ownsRow_nil _ _ _ _) ⟨b1, 0, none⟩ K.cps.length c1 (K.cps.flatMap CpC) rfl ?a11 ?a21 ?a31 ?a41 ?a51 ?a61 ?_)
  case a11 => exact flat_len CpC 7 CpC_len K.cps
  case a21 => exact (CpsV.news (HH.out.later HB.out).c) _ rfl
  case a31 => exact CpC_one K.cps
  case a41 => unfold maxLen; have := HS.out.2.1; omega
  case a51 => have := HS.out.2.1; omega
  case a61 => exact HZ.out
  intro v1 w1 ho1 hg1 hn1
  clear yz y0 y1 y2 y3 yf hsz hn1
  have hbl : Below x0.heap.size x0 w1 := below_grown hg1
  clear hg1
  have HX' := hid ((hbl.block _ (lt_block HX.out)).trans HX.out)
  have HO' := hid ((hbl.block _ (lt_block HO.out)).trans HO.out)
  have HB' := hid (blw_trans HB.out hbl)
  have HZ' := hid (Nat.le_trans HZ.out hbl.size)
  replace R0 := hid (owns_on R0.out hbl)
  obtain ⟨d1, e1, rfl⟩ := owns_is ho1
  obtain ⟨x1, hx1⟩ : ∃ x1, x1 = w1.setCell ⟨w.heap.size, 2, none⟩ (.slice d1 K.cps.length e1) := ⟨_, rfl⟩
  clear HX HO HB HZ hbl
  have HX : Hid (x1.heap[w.heap.size]? = some (.cells #[.int .i64 K.now, .slice d0 K.svcs.length e0, .slice d1 K.cps.length e1, .slice (some ⟨b2, 0, none⟩) K.bts.length c2] 36 (0, 0))) := by show _ = _; rw [hx1]; exact (set_block HX'.out 2 _).trans rfl
  have HO : Hid (x1.heap[w.heap.size + 1]? = some (.cells #[.int .i64 0, .slice none 0 0, .slice none 0 0, .slice none 0 0] 36 (0, 0))) := by show _ = _; rw [hx1]; exact (set_other (by omega) _ _).trans HO'.out
  have HB : Hid (Below w.heap.size w x1) := by show Below _ _ _; rw [hx1]; exact blw_sc HB'.out (Nat.le_refl _) _ _
  have HZ : Hid (w.heap.size + 2 ≤ x1.heap.size) := by show _ ≤ _; rw [hx1, sc_size]; exact HZ'.out
  have R1 : Hid (x1.ownsRow (w.heap.size + 2) 90 7 (.slice d1 K.cps.length e1) K.cps.length (K.cps.flatMap CpC)) := by show World.ownsRow _ _ _ _ _ _ _; rw [hx1]; exact owns_sc ho1 (by omega) _ _
  replace R0 : Hid (x1.ownsRow (w.heap.size + 2) 86 13 (.slice d0 K.svcs.length e0) K.svcs.length (K.svcs.flatMap SvC)) := by show World.ownsRow _ _ _ _ _ _ _; rw [hx1]; exact owns_sc R0.out (by omega) _ _
  have yz := lt_block HX'.out
  have yf := frozen_block HX'.out 2
  have y2 := cellsOf_block HX'.out 2
  simp only [List.getElem?_toArray, List.getElem?_cons_zero, List.getElem?_cons_succ] at y2
  go_upto_region 3 with fail
  rw [← hx1]
  clear hx1 yz yf y2 HX' HO' HB' HZ' ho1
  have yz := lt_block HX.out
  have y0 := cellsOf_block HX.out 0
  have y1 := cellsOf_block HX.out 1
  have y2 := cellsOf_block HX.out 2
  have y3 := cellsOf_block HX.out 3
  have yf := frozen_block HX.out 3
  simp only [List.getElem?_toArray, List.getElem?_cons_zero, List.getElem?_cons_succ] at y0 y1 y2 y3
  have hsz := HZ.out
  go_wp2_with (at_builtin; refine wpList_append_own _ rfl _ _ 34 rfl (w.heap.size + 2) 88 i2 _ 2 24 Tryz.undBt hi2 hz2 hs2 hy2 rfl (by decide) _ 0 [] rfl (World.ownsRow_nil _ _ _ _) ⟨b2, 0, none⟩ K.bts.length c2 (K.bts.flatMap BtC) rfl ?a12 ?a22 ?a32 ?a42 ?a52 ?a62 ?_)
  case a12 => exact flat_len BtC 2 BtC_len K.bts
  case a22 => exact (BtsV.news (HH.out.later HB.out).b) _ rfl
  case a32 => exact BtC_one K.bts
  case a42 => unfold maxLen; have := HS.out.2.2; omega
  case a52 => have := HS.out.2.2; omega
  case a62 => exact HZ.out
  intro v2 w2 ho2 hg2 hn2
  clear yz y0 y1 y2 y3 yf hsz hn2
  have hbl : Below x1.heap.size x1 w2 := below_grown hg2
  clear hg2
  have HX' := hid ((hbl.block _ (lt_block HX.out)).trans HX.out)
  have HO' := hid ((hbl.block _ (lt_block HO.out)).trans HO.out)
  have HB' := hid (blw_trans HB.out hbl)
  have HZ' := hid (Nat.le_trans HZ.out hbl.size)
  replace R0 := hid (owns_on R0.out hbl)
  replace R1 := hid (owns_on R1.out hbl)
  obtain ⟨d2, e2, rfl⟩ := owns_is ho2
  obtain ⟨x2, hx2⟩ : ∃ x2, x2 = w2.setCell ⟨w.heap.size, 3, none⟩ (.slice d2 K.bts.length e2) := ⟨_, rfl⟩
  clear HX HO HB HZ hbl
  have HX : Hid (x2.heap[w.heap.size]? = some (.cells #[.int .i64 K.now, .slice d0 K.svcs.length e0, .slice d1 K.cps.length e1, .slice d2 K.bts.length e2] 36 (0, 0))) := by show _ = _; rw [hx2]; exact (set_block HX'.out 3 _).trans rfl
  have HO : Hid (x2.heap[w.heap.size + 1]? = some (.cells #[.int .i64 0, .slice none 0 0, .slice none 0 0, .slice none 0 0] 36 (0, 0))) := by show _ = _; rw [hx2]; exact (set_other (by omega) _ _).trans HO'.out
  have HB : Hid (Below w.heap.size w x2) := by show Below _ _ _; rw [hx2]; exact blw_sc HB'.out (Nat.le_refl _) _ _
  have HZ : Hid (w.heap.size + 2 ≤ x2.heap.size) := by show _ ≤ _; rw [hx2, sc_size]; exact HZ'.out
  have R2 : Hid (x2.ownsRow (w.heap.size + 2) 88 2 (.slice d2 K.bts.length e2) K.bts.length (K.bts.flatMap BtC)) := by show World.ownsRow _ _ _ _ _ _ _; rw [hx2]; exact owns_sc ho2 (by omega) _ _
  replace R0 : Hid (x2.ownsRow (w.heap.size + 2) 86 13 (.slice d0 K.svcs.length e0) K.svcs.length (K.svcs.flatMap SvC)) := by show World.ownsRow _ _ _ _ _ _ _; rw [hx2]; exact owns_sc R0.out (by omega) _ _
  replace R1 : Hid (x2.ownsRow (w.heap.size + 2) 90 7 (.slice d1 K.cps.length e1) K.cps.length (K.cps.flatMap CpC)) := by show World.ownsRow _ _ _ _ _ _ _; rw [hx2]; exact owns_sc R1.out (by omega) _ _
  have yz := lt_block HX'.out
  have yf := frozen_block HX'.out 3
  have y3 := cellsOf_block HX'.out 3
  simp only [List.getElem?_toArray, List.getElem?_cons_zero, List.getElem?_cons_succ] at y3
  go_upto_region 4 with fail
  rw [← hx2]
  clear hx2 yz yf y3 HX' HO' HB' HZ' ho2
  have yz := lt_block HX.out
  have y0 := cellsOf_block HX.out 0
  have y1 := cellsOf_block HX.out 1
  have y2 := cellsOf_block HX.out 2
  have y3 := cellsOf_block HX.out 3
  simp only [List.getElem?_toArray, List.getElem?_cons_zero, List.getElem?_cons_succ] at y0 y1 y2 y3
  have oz := lt_block HO.out
  have o0 := cellsOf_block HO.out 0
  have o1 := cellsOf_block HO.out 1
  have o2 := cellsOf_block HO.out 2
  have o3 := cellsOf_block HO.out 3
  simp only [List.getElem?_toArray, List.getElem?_cons_zero, List.getElem?_cons_succ] at o0 o1 o2 o3
  have of0 := frozen_block HO.out 0
  have of1 := frozen_block HO.out 1
  have of2 := frozen_block HO.out 2
  have of3 := frozen_block HO.out 3
  go_wp2
  have HOw : Hid (OwnBlk x2 (w.heap.size + 1) 36 4) := ⟨_, HO.out, rfl⟩
  have p := fun i hi => puts_at 0 [.int .i64 K.now, .slice d0 K.svcs.length e0, .slice d1 K.cps.length e1, .slice d2 K.bts.length e2] x2 0 HOw.out (by simp) i hi
  have t0 := p 0 (by simp)
  have t1 := p 1 (by simp)
  have t2 := p 2 (by simp)
  have t3 := p 3 (by simp)
  simp only [puts, Nat.add_zero, Nat.zero_add, Nat.reduceAdd, List.getElem?_cons_zero, List.getElem?_cons_succ] at t0 t1 t2 t3
  refine bodyPost_ret (v := .agg #[.int .i64 K.now, .slice d0 K.svcs.length e0, .slice d1 K.cps.length e1, .slice d2 K.bts.length e2]) (by simp [results, Tryz.results29, go_sem, t0, t1, t2, t3]) rfl ⟨⟨_, _, _, rfl, ?_⟩, ?_⟩
  · have r0 := owns_sc (owns_sc (owns_sc (owns_sc R0.out (show w.heap.size + 1 < w.heap.size + 2 by omega) 0 (.int .i64 K.now)) (show w.heap.size + 1 < w.heap.size + 2 by omega) 1 (.slice d0 K.svcs.length e0)) (show w.heap.size + 1 < w.heap.size + 2 by omega) 2 (.slice d1 K.cps.length e1)) (show w.heap.size + 1 < w.heap.size + 2 by omega) 3 (.slice d2 K.bts.length e2)
    have r1 := owns_sc (owns_sc (owns_sc (owns_sc R1.out (show w.heap.size + 1 < w.heap.size + 2 by omega) 0 (.int .i64 K.now)) (show w.heap.size + 1 < w.heap.size + 2 by omega) 1 (.slice d0 K.svcs.length e0)) (show w.heap.size + 1 < w.heap.size + 2 by omega) 2 (.slice d1 K.cps.length e1)) (show w.heap.size + 1 < w.heap.size + 2 by omega) 3 (.slice d2 K.bts.length e2)
    have r2 := owns_sc (owns_sc (owns_sc (owns_sc R2.out (show w.heap.size + 1 < w.heap.size + 2 by omega) 0 (.int .i64 K.now)) (show w.heap.size + 1 < w.heap.size + 2 by omega) 1 (.slice d0 K.svcs.length e0)) (show w.heap.size + 1 < w.heap.size + 2 by omega) 2 (.slice d1 K.cps.length e1)) (show w.heap.size + 1 < w.heap.size + 2 by omega) 3 (.slice d2 K.bts.length e2)
    exact ⟨r0, r1, r2, HH.out.sz0, HH.out.sz1, HH.out.sz2, HS.out⟩
  · exact puts_below (a := w) 0 (B := w.heap.size + 1) (by omega) [.int .i64 K.now, .slice d0 K.svcs.length e0, .slice d1 K.cps.length e1, .slice d2 K.bts.length e2] x2 0 HB.out

end Go.Proofs.YtpamkibnahhphaaGreatDoor

namespace Go.Proofs.YtpamkibnahhphaaGreatDoor
open Go.RowKit Go.Deep

theorem Wk.mayGo {lo p : Nat} {W : World} {X : Ac} {ae : Value} {now : Int} {sv : List Sv} {cp : List Cp} {bt : List Bt} {k : Nat} {es : List Nat} {p0 p1 p2 pe : Option Addr} {n0 n1 n2 ne q0 q1 q2 qe : Nat} (h : Wk lo p W X ae now sv cp bt k es p0 p1 p2 pe n0 n1 n2 ne q0 q1 q2 qe) (s : Sv) (c : Cp) (hasc : ascCp cp = true) (hlen : n1 ≤ 200) (hs : 0 ≤ s.want ∧ s.want ≤ 10 ∧ 0 ≤ s.down ∧ s.down ≤ 10) :
    Calls Tryz.prog 98 #[.agg #[.int .i64 now, .slice p0 n0 q0, .slice p1 n1 q1, .slice p2 n2 q2], .agg #[.string s.nm, .int .i64 s.ver, .bool s.gone, .int .i64 s.image, .int .i64 s.want, .int .i64 s.down, .int .i64 s.over, .int .i64 s.next, .int .i64 s.per, .int .i64 s.least, .int .i64 s.most, .int .i64 s.load, .int .i64 s.cool], .agg #[.string c.svc, .int .i64 c.num, .int .i64 c.ver, .int .i64 c.image, .int .i64 c.state, .bool c.ending, .string c.berth]] W fun e w' => e = .returned (.bool (Go.Proofs.YtpamkibnahhphaaGreatDoor.mayGo ⟨now, sv, cp, bt⟩ s c)) ∧ Below W.heap.size W w' := by
  have hv := h.v
  obtain rfl := h.l0
  obtain rfl := h.l1
  obtain rfl := h.l2
  exact mayGoI ⟨now, sv, cp, bt⟩ p0 p1 p2 q0 q1 q2 s c W hv hasc hlen hs
theorem Wk.counted {lo p : Nat} {W : World} {X : Ac} {ae : Value} {now : Int} {sv : List Sv} {cp : List Cp} {bt : List Bt} {k : Nat} {es : List Nat} {p0 p1 p2 pe : Option Addr} {n0 n1 n2 ne q0 q1 q2 qe : Nat} (h : Wk lo p W X ae now sv cp bt k es p0 p1 p2 pe n0 n1 n2 ne q0 q1 q2 qe) (s : Sv) (hasc : ascCp cp = true) (hlen : n1 ≤ 200) :
    Calls Tryz.prog 99 #[.agg #[.int .i64 now, .slice p0 n0 q0, .slice p1 n1 q1, .slice p2 n2 q2], .agg #[.string s.nm, .int .i64 s.ver, .bool s.gone, .int .i64 s.image, .int .i64 s.want, .int .i64 s.down, .int .i64 s.over, .int .i64 s.next, .int .i64 s.per, .int .i64 s.least, .int .i64 s.most, .int .i64 s.load, .int .i64 s.cool]] W fun e w' => e = .returned (.agg #[.int .i64 (cnL cp s.image (rowCp cp s.nm)).live, .int .i64 (cnL cp s.image (rowCp cp s.nm)).ready, .int .i64 (cnL cp s.image (rowCp cp s.nm)).old, .int .i64 (cnL cp s.image (rowCp cp s.nm)).failed, .int .i64 (cnL cp s.image (rowCp cp s.nm)).ending]) ∧ Below W.heap.size W w' := by
  have hv := h.v
  obtain rfl := h.l0
  obtain rfl := h.l1
  obtain rfl := h.l2
  exact countedI ⟨now, sv, cp, bt⟩ p0 p1 p2 q0 q1 q2 s W hv hasc hlen
theorem Wk.copyPlace {lo p : Nat} {W : World} {X : Ac} {ae : Value} {now : Int} {sv : List Sv} {cp : List Cp} {bt : List Bt} {k : Nat} {es : List Nat} {p0 p1 p2 pe : Option Addr} {n0 n1 n2 ne q0 q1 q2 qe : Nat} (h : Wk lo p W X ae now sv cp bt k es p0 p1 p2 pe n0 n1 n2 ne q0 q1 q2 qe) (nm : ByteArray) (num : Int) (hasc : ascCp cp = true) :
    Calls Tryz.prog 95 #[.agg #[.int .i64 now, .slice p0 n0 q0, .slice p1 n1 q1, .slice p2 n2 q2], .string nm, .int .i64 num] W fun e w' => e = .returned (.tuple #[.int .i64 (placeAt cp nm num : Nat), .bool (decide (0 ≤ cpIx cp nm num))]) ∧ Below W.heap.size W w' := by
  have hv := h.v
  have hm := h.m1
  obtain rfl := h.l0
  obtain rfl := h.l1
  obtain rfl := h.l2
  exact copyPlaceI ⟨now, sv, cp, bt⟩ p0 p1 p2 q0 q1 q2 nm num W hv.c hasc hm

set_option maxHeartbeats 4000000 in
theorem scaleNo {lo p : Nat} {W : World} {X : Ac} {ae : Value} {now : Int} {sv : List Sv} {cp : List Cp} {bt : List Bt} {k : Nat} {es : List Nat} {p0 p1 p2 pe : Option Addr} {n0 n1 n2 ne q0 q1 q2 qe : Nat} (h : Wk lo p W X ae now sv cp bt k es p0 p1 p2 pe n0 n1 n2 ne q0 q1 q2 qe) (hs : X.scale = false) :
    Calls Tryz.prog 66 #[.pointer (some ⟨p, 0, none⟩)] W fun e W' => e = .returned (.tuple #[]) ∧ W' = W := by
  have c5 : W.cell? ⟨p, 5, none⟩ = some (.bool X.scale) := h.cell 5
  have hz := h.lt
  rw [hs] at c5
  clear h
  go_enter Tryz.func66, Tryz.ntmps66
  go_wp2
  first | go_end0 | refine bodyPost_ret (results_none rfl _ _ _) rfl ?_
  exact ⟨rfl, rfl⟩

theorem getD_set_at {α : Type} (d : α) {l : List α} {c : Nat} (hc : c < l.length) {m : α} : (l.set c m).getD c d = m := by simp [hc]
def scaleOff (X : Ac) (s : Sv) : Bool := s.per == 0 || !inB X.want s.least s.most
def scaled (X : Ac) (s : Sv) : Sv := { s with want := X.want, cool := X.cool }

set_option maxRecDepth 8000 in
set_option maxHeartbeats 40000000 in
theorem scaleYes {lo p : Nat} {W : World} {X : Ac} {ae : Value} {now : Int} {sv : List Sv} {cp : List Cp} {bt : List Bt} {k : Nat} {es : List Nat} {p1 p2 pe : Option Addr} {g : Nat} {n0 n1 n2 ne q0 q1 q2 qe : Nat} (h : Wk lo p W X ae now sv cp bt k es (some ⟨g, 0, none⟩) p1 p2 pe n0 n1 n2 ne q0 q1 q2 qe) (hs : X.scale = true) (hk : k < n0) (s : Sv) (hsv : s = sv.getD k Sv.none) :
    Calls Tryz.prog 66 #[.pointer (some ⟨p, 0, none⟩)] W fun e W' => (if scaleOff X s then e = stopE 6 else e = .returned (.tuple #[]) ∧ Wk lo p W' X ae now (sv.set k (scaled X s)) cp bt k es (some ⟨g, 0, none⟩) p1 p2 pe n0 n1 n2 ne q0 q1 q2 qe) ∧ Below lo W W' := by
  have HW := hid h
  have c5 : W.cell? ⟨p, 5, none⟩ = some (.bool X.scale) := h.cell 5
  have hz := h.lt
  have HK := hid hk
  have HSV := hid hsv
  rw [hs] at c5
  clear h hs hk hsv
  obtain ⟨R, hR⟩ : ∃ R, R = scaleOff X s := ⟨_, rfl⟩
  have HR := hid hR
  rw [← hR]
  clear hR
  go_enter Tryz.func66, Tryz.ntmps66
  go_wp2_with fail
  refine (serviceI HW.out HK.out).mono ?_
  rintro e w1 ⟨rfl, hb1⟩
  have HW1 := hid (HW.out.later hb1)
  have HB1 := hid hb1
  have HL0 := hid HW.out.lo
  clear c5 hz hb1 HW
  have hz := HW1.out.lt
  obtain ⟨g', cur, eg, hlo, hgl, hgb, hcs, hsc⟩ := HW1.out.svAt (i := k) (by rw [HW1.out.l0]; exact HK.out)
  injection eg with eg
  injection eg with eg _ _
  subst eg
  rw [← HSV.out] at hsc
  have HLO : Hid (lo ≤ W.heap.size) := HL0.out
  go_upto_region 2 with fail
  have hNE := pst_some w1
  have hZ : ∀ px : Pst w1, p < px.W.heap.size := fun px => px.size hz
  have C3 : ∀ px : Pst w1, px.W.cell? ⟨p, 3, none⟩ = some (.int .i64 X.want) := fun px => px.cell ((HW1.out).cell 3) hz
  have hG : ∀ px : Pst w1, g < px.W.heap.size := fun px => px.size hgl
  have S8 : ∀ px : Pst w1, px.W.cell? ⟨g, k * 13 + 8, none⟩ = some (.int .i64 s.per) := fun px => px.cell (hsc 8 _ rfl) hgl
  have S9 : ∀ px : Pst w1, px.W.cell? ⟨g, k * 13 + 9, none⟩ = some (.int .i64 s.least) := fun px => px.cell (hsc 9 _ rfl) hgl
  have S10 : ∀ px : Pst w1, px.W.cell? ⟨g, k * 13 + 10, none⟩ = some (.int .i64 s.most) := fun px => px.cell (hsc 10 _ rfl) hgl
  clear hz hsc hgl hcs
  by_cases e1 : s.per = 0
  · skip
    have HE : Hid (R = true) := by show R = _; rw [HR.out]; simp [scaleOff, e1]
    have k1 : (s.per == 0) = true := by simp [e1]
    refine region_qcut w1 (Below.refl _ _) 22 (by kernel_rfl) (by kernel_rfl) (by kernel_rfl) (by kernel_rfl) (by kernel_rfl) (by kernel_rfl) ?_
    simp only [List.take_succ_cons, List.take_zero, List.drop_succ_cons, List.drop_zero]
    repeat (first
      | go_big_quiet_skip
      | (go_big_quiet_want; go_big_quiet_op; first | go_big_quiet_on | (apply Exists.intro; refine ⟨fun px => ?_, ?_⟩; (focus ((go_at_call 80; refine (withinI _ _ _ _).mono ?_; rintro e w' ⟨he, hb⟩; exact ⟨he, px, hb.symm⟩))); go_big_quiet_on)))
    refine wpQuiet_nil ?_
    intro _ hw'
    obtain ⟨x6, hw''⟩ := hw'
    subst hw''
    go_wp2_with fail
    refine (stopYes _ _).mono ?_
    rintro e w2 ⟨rfl, rfl⟩
    go_wp2
    exact ⟨rfl, by first | rfl | (rw [if_pos HE.out]; rfl), blw_less (blw_trans HB1.out x6.ok) HLO.out⟩
  · cases e2 : inB X.want s.least s.most
    · skip
      have HE : Hid (R = true) := by show R = _; rw [HR.out]; simp [scaleOff, e2]
      have k1 : (s.per == 0) = false := by simp [e1]
      refine region_qcut w1 (Below.refl _ _) 22 (by kernel_rfl) (by kernel_rfl) (by kernel_rfl) (by kernel_rfl) (by kernel_rfl) (by kernel_rfl) ?_
      simp only [List.take_succ_cons, List.take_zero, List.drop_succ_cons, List.drop_zero]
      repeat (first
        | go_big_quiet_skip
        | (go_big_quiet_want; go_big_quiet_op; first | go_big_quiet_on | (apply Exists.intro; refine ⟨fun px => ?_, ?_⟩; (focus ((go_at_call 80; refine (withinI _ _ _ _).mono ?_; rintro e w' ⟨he, hb⟩; exact ⟨he, px, hb.symm⟩))); go_big_quiet_on)))
      refine wpQuiet_nil ?_
      intro _ hw'
      obtain ⟨x6, hw''⟩ := hw'
      subst hw''
      go_wp2_with fail
      refine (stopYes _ _).mono ?_
      rintro e w2 ⟨rfl, rfl⟩
      go_wp2
      exact ⟨rfl, by first | rfl | (rw [if_pos HE.out]; rfl), blw_less (blw_trans HB1.out x6.ok) HLO.out⟩
    · have HE : Hid (¬ R = true) := by show ¬ _; rw [HR.out]; simp [scaleOff, e1, e2]
      have k1 : (s.per == 0) = false := by simp [e1]
      refine region_qcut w1 (Below.refl _ _) 22 (by kernel_rfl) (by kernel_rfl) (by kernel_rfl) (by kernel_rfl) (by kernel_rfl) (by kernel_rfl) ?_
      simp only [List.take_succ_cons, List.take_zero, List.drop_succ_cons, List.drop_zero]
      repeat (first
        | go_big_quiet_skip
        | (go_big_quiet_want; go_big_quiet_op; first | go_big_quiet_on | (apply Exists.intro; refine ⟨fun px => ?_, ?_⟩; (focus ((go_at_call 80; refine (withinI _ _ _ _).mono ?_; rintro e w' ⟨he, hb⟩; exact ⟨he, px, hb.symm⟩))); go_big_quiet_on)))
      refine wpQuiet_nil ?_
      intro _ hw'
      obtain ⟨x6, hw''⟩ := hw'
      subst hw''
      go_wp2_with fail
      refine (stopNo _ _).mono ?_
      rintro e w2 ⟨rfl, rfl⟩
      obtain ⟨w2, hw2⟩ : ∃ w2, w2 = x6.W := ⟨_, rfl⟩
      have HW2 := hid (HW1.out.later x6.ok)
      have HB2 := hid (blw_less (blw_trans HB1.out x6.ok) HLO.out)
      rw [← hw2] at HW2 HB2
      go_upto_region 3 with fail
      rw [← hw2]
      clear hw2 k1 e1 e2 S8 S9 S10 C3 hG hNE hZ HW1 HB1
      have hz := HW2.out.lt
      obtain ⟨g', cur2, eg, hlo2, hgl, hgb2, hcs, hsc⟩ := HW2.out.svAt (i := k) (by rw [HW2.out.l0]; exact HK.out)
      injection eg with eg
      injection eg with eg _ _
      subst eg
      rw [← HSV.out] at hsc
      have d3 : w2.cell? ⟨p, 3, none⟩ = some (.int .i64 X.want) := HW2.out.cell 3
      have d4 : w2.cell? ⟨p, 4, none⟩ = some (.int .i64 X.cool) := HW2.out.cell 4
      have s4 : w2.cell? ⟨g, k * 13 + 4, none⟩ = some (.int .i64 s.want) := hsc 4 _ rfl
      have s12 : w2.cell? ⟨g, k * 13 + 12, none⟩ = some (.int .i64 s.cool) := hsc 12 _ rfl
      have f4 := frozen_block hgb2 (k * 13 + 4)
      have f12 := frozen_block hgb2 (k * 13 + 12)
      clear hsc hcs
      go_region
      go_wp2
      first | go_end0 | refine bodyPost_ret (results_none rfl _ _ _) rfl ?_
      have hkl : k < sv.length := by rw [HW2.out.l0]; exact HK.out
      have hss : s.sized := by rw [HSV.out]; exact HW2.out.z0 k hkl
      have u1 := HW2.out.setSv hgb2 k 4 hkl (by omega) (.int .i64 X.want) { s with want := X.want } (by rw [← HSV.out]; rfl) hss
      have hkl2 : k < (sv.set k { s with want := X.want }).length := by rw [List.length_set]; exact hkl
      have u2 := u1.setSv (set_block hgb2 _ _) k 12 hkl2 (by omega) (.int .i64 X.cool) (scaled X s) (by rw [getD_set_at Sv.none hkl]; rfl) hss
      rw [List.set_set] at u2
      have u3 := u2.later (Below.drew (Below.refl _ _))
      have b3 := Below.drew (blw_sc (blw_sc HB2.out hlo2 (k * 13 + 4) (.int .i64 X.want)) hlo2 (k * 13 + 12) (.int .i64 X.cool))
      first
        | exact ⟨⟨rfl, u3⟩, b3⟩
        | exact ⟨by rw [if_neg HE.out]; exact ⟨rfl, u3⟩, b3⟩

end Go.Proofs.YtpamkibnahhphaaGreatDoor
