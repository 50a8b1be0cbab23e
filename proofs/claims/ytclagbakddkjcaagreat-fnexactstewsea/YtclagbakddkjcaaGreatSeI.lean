/-
  The sea: the book that is turned by an event; a berth taken out (region 18 of l17Sea), by the specification.
-/
import Derived.Test.YtclagbakddkjcaaGreatSeH
namespace Go.Proofs.YtclagbakddkjcaaGreat
open Go.RowKit Go.Deep

/-- The book that is turned: its variable and its own rows. -/
structure XI (lo px : Nat) (W : World) (now : Int) (sv : List Sv) (cp : List Cp) (bt : List Bt) (p0 p1 p2 : Option Addr) (n0 n1 n2 q0 q1 q2 : Nat) : Prop where
  bx : W.heap[px]? = some (.cells #[.int .i64 now, .slice p0 n0 q0, .slice p1 n1 q1, .slice p2 n2 q2] 37 (0, 0))
  o0 : W.ownsRow lo 41 13 (.slice p0 n0 q0) n0 (sv.flatMap SvC)
  o1 : W.ownsRow lo 81 7 (.slice p1 n1 q1) n1 (cp.flatMap CpC)
  o2 : W.ownsRow lo 79 2 (.slice p2 n2 q2) n2 (bt.flatMap BtC)
  l0 : sv.length = n0
  l1 : cp.length = n1
  l2 : bt.length = n2
  z0 : ∀ i, i < sv.length → (sv.getD i Sv.none).sized
  z1 : ∀ i, i < cp.length → (cp.getD i Cp.none).sized
  z2 : ∀ i, i < bt.length → (bt.getD i Bt.none).sized
  m0 : n0 ≤ 1048576
  m1 : n1 ≤ 1048576
  m2 : n2 ≤ 1048576
theorem XI.later {lo px : Nat} {W W' : World} {now : Int} {sv : List Sv} {cp : List Cp} {bt : List Bt} {p0 p1 p2 : Option Addr} {n0 n1 n2 q0 q1 q2 : Nat} (h : XI lo px W now sv cp bt p0 p1 p2 n0 n1 n2 q0 q1 q2) (hb : Below W.heap.size W W') : XI lo px W' now sv cp bt p0 p1 p2 n0 n1 n2 q0 q1 q2 :=
  ⟨(hb.block px (lt_heap h.bx)).trans h.bx, owns_on h.o0 hb, owns_on h.o1 hb, owns_on h.o2 hb, h.l0, h.l1, h.l2, h.z0, h.z1, h.z2, h.m0, h.m1, h.m2⟩
theorem XI.v {lo px : Nat} {W : World} {now : Int} {sv : List Sv} {cp : List Cp} {bt : List Bt} {p0 p1 p2 : Option Addr} {n0 n1 n2 q0 q1 q2 : Nat} (h : XI lo px W now sv cp bt p0 p1 p2 n0 n1 n2 q0 q1 q2) : SBkV W p0 p1 p2 ⟨now, sv, cp, bt⟩ := by
  have m0 := h.m0
  have m1 := h.m1
  have m2 := h.m2
  obtain ⟨b0, o0, o1, o2, rfl, rfl, rfl, z0, z1, z2, _, _, _⟩ := h
  obtain ⟨a, c, e, h0⟩ := owns_Svs o0 z0 (by unfold maxLen; omega)
  injection e with e _ _
  subst e
  obtain ⟨a, c, e, h1⟩ := owns_Cps o1 z1 (by unfold maxLen; omega)
  injection e with e _ _
  subst e
  obtain ⟨a, c, e, h2⟩ := owns_Bts o2 z2 (by unfold maxLen; omega)
  injection e with e _ _
  subst e
  exact ⟨h0, h1, h2⟩
theorem XI.at_ {lo px : Nat} {W : World} {now : Int} {sv : List Sv} {cp : List Cp} {bt : List Bt} {p0 p1 p2 : Option Addr} {n0 n1 n2 q0 q1 q2 : Nat} (h : XI lo px W now sv cp bt p0 p1 p2 n0 n1 n2 q0 q1 q2) : Box4 W px (.int .i64 now) (.slice p0 n0 q0) (.slice p1 n1 q1) (.slice p2 n2 q2) := by
  have c : ∀ j, W.cell? ⟨px, j, none⟩ = (#[.int .i64 now, .slice p0 n0 q0, .slice p1 n1 q1, .slice p2 n2 q2] : Array Value)[j]? := fun j => by simp [World.cell?, h.bx]
  exact ⟨lt_heap h.bx, c 0, c 1, c 2, c 3⟩
/-- A row's block, where there is an element. -/
theorem owns_blk {W : World} {lo : Nat} {e : TypeId} {size n q : Nat} {p : Option Addr} {xs : List Value} (h : W.ownsRow lo e size (.slice p n q) n xs) (hn : 0 < n) : ∃ g cur, p = some ⟨g, 0, none⟩ ∧ lo ≤ g ∧ W.heap[g]? = some (.cells cur e (0, 0)) ∧ xs.length ≤ cur.size ∧ ∀ j u, xs[j]? = some u → W.cell? ⟨g, j, none⟩ = some u := by
  obtain ⟨hx, h⟩ := h
  rcases h with ⟨_, e⟩ | ⟨g, cap, cur, hv, hlo, hg, hc, _, hs, ht⟩
  · omega
  · cases hv
    have hle : n * size ≤ cur.size := by rw [hs]; exact Nat.mul_le_mul_right size hc
    refine ⟨g, cur, rfl, hlo, hg, by rw [hx]; exact hle, fun j u hj => ?_⟩
    rw [← ht, List.getElem?_take] at hj
    simp only [World.cell?, hg]
    split at hj
    · simpa using hj
    · cases hj
theorem owns_else {W : World} {lo g : Nat} {e e' : TypeId} {size : Nat} {v : Value} {n : Nat} {xs : List Value} {cur : Array Value} (h : W.ownsRow lo e size v n xs) (hg : W.heap[g]? = some (.cells cur e' (0, 0))) (hne : e ≠ e') (o : Nat) (x : Value) : (W.setCell ⟨g, o, none⟩ x).ownsRow lo e size v n xs := by
  refine ⟨h.1, h.2.imp id ?_⟩
  rintro ⟨g', cap, cur', h1, h2, h3, h4⟩
  refine ⟨g', cap, cur', h1, h2, (Below.heap_setCell W ⟨g, o, none⟩ x g' ?_).trans h3, h4⟩
  show g' ≠ g
  intro e2
  subst e2
  rw [hg] at h3
  injection h3 with h3
  injection h3 with _ h3 _
  exact hne h3.symm
theorem t_sc : (41 : TypeId) ≠ 81 := by decide
theorem t_bc : (79 : TypeId) ≠ 81 := by decide
theorem t_kc : (37 : TypeId) ≠ 81 := by decide
theorem heap_else {W : World} {b g : Nat} {e e' : TypeId} {cs cur : Array Value} (h : W.heap[b]? = some (.cells cs e (0, 0))) (hg : W.heap[g]? = some (.cells cur e' (0, 0))) (hne : e ≠ e') (o : Nat) (x : Value) : (W.setCell ⟨g, o, none⟩ x).heap[b]? = some (.cells cs e (0, 0)) := by
  refine (Below.heap_setCell W ⟨g, o, none⟩ x b ?_).trans h
  show b ≠ g
  intro e2
  subst e2
  rw [hg] at h
  injection h with h
  injection h with _ h _
  exact hne h.symm
/-- A cell of a copy of the book that is turned. -/
theorem XI.setCp {lo px : Nat} {W : World} {now : Int} {sv : List Sv} {cp : List Cp} {bt : List Bt} {p0 p2 : Option Addr} {n0 n1 n2 q0 q1 q2 : Nat} {g : Nat} (h : XI lo px W now sv cp bt p0 (some ⟨g, 0, none⟩) p2 n0 n1 n2 q0 q1 q2) {cur : Array Value} (hg : W.heap[g]? = some (.cells cur 81 (0, 0))) (c k : Nat) (hc : c < cp.length) (hk : k < 7) (x : Value) (m : Cp) (hm : CpC m = (CpC (cp.getD c Cp.none)).set k x) (hz : m.sized) :
    XI lo px (W.setCell ⟨g, c * 7 + k, none⟩ x) now sv (cp.set c m) bt p0 (some ⟨g, 0, none⟩) p2 n0 n1 n2 q0 q1 q2 := by
  refine ⟨heap_else h.bx hg t_kc _ _, owns_else h.o0 hg t_sc _ _, ?_, owns_else h.o2 hg t_bc _ _, h.l0, by rw [List.length_set]; exact h.l1, h.l2, h.z0, fun i hi => ?_, h.z2, h.m0, h.m1, h.m2⟩
  · rw [← flat_set Cp.none CpC 7 CpC_len k hk x cp c m hc hm]
    exact owns_set h.o1 _ _
  · rw [List.length_set] at hi
    by_cases e : c = i
    · subst e
      have : (cp.set c m).getD c Cp.none = m := by simp [hc]
      rw [this]; exact hz
    · have : (cp.set c m).getD i Cp.none = cp.getD i Cp.none := by simp [e]
      rw [this]; exact h.z1 i hi
theorem Box4.sc {W : World} {p g : Nat} {v0 v1 v2 v3 : Value} (h : Box4 W p v0 v1 v2 v3) (hne : p ≠ g) (o : Nat) (x : Value) : Box4 (W.setCell ⟨g, o, none⟩ x) p v0 v1 v2 v3 :=
  ⟨by rw [sc_size]; exact h.lt, (sc_ne _ _ _ _ _ _ (Or.inl hne)).trans h.x0, (sc_ne _ _ _ _ _ _ (Or.inl hne)).trans h.x1, (sc_ne _ _ _ _ _ _ (Or.inl hne)).trans h.x2, (sc_ne _ _ _ _ _ _ (Or.inl hne)).trans h.x3⟩
theorem owns_lt {W : World} {lo g : Nat} {e : TypeId} {size n q : Nat} {xs : List Value} (h : W.ownsRow lo e size (.slice (some ⟨g, 0, none⟩) n q) n xs) : g < W.heap.size := by
  rcases h.2 with ⟨hv, _⟩ | ⟨g', cap, cur, hv, _, hg, _⟩
  · cases hv
  · cases hv
    exact lt_heap hg
theorem owns_apart {W : World} {lo p : Nat} {e : TypeId} {size n q : Nat} {a : Option Addr} {xs : List Value} (h : W.ownsRow lo e size (.slice a n q) n xs) (hne : ∀ g, a = some ⟨g, 0, none⟩ → g ≠ p) (o : Nat) (x : Value) : (W.setCell ⟨p, o, none⟩ x).ownsRow lo e size (.slice a n q) n xs := by
  refine ⟨h.1, h.2.imp id ?_⟩
  rintro ⟨g, cap, cur, h1, h2, h3, h4⟩
  refine ⟨g, cap, cur, h1, h2, (Below.heap_setCell W ⟨p, o, none⟩ x g ?_).trans h3, h4⟩
  exact hne g (by injection h1)
/-- A store beside the book that is turned. -/
theorem XI.scA {lo px : Nat} {W : World} {now : Int} {sv : List Sv} {cp : List Cp} {bt : List Bt} {p0 p1 p2 : Option Addr} {n0 n1 n2 q0 q1 q2 : Nat} (h : XI lo px W now sv cp bt p0 p1 p2 n0 n1 n2 q0 q1 q2) {p : Nat} (hp : p ≠ px) (h0 : ∀ g, p0 = some ⟨g, 0, none⟩ → g ≠ p) (h1 : ∀ g, p1 = some ⟨g, 0, none⟩ → g ≠ p) (h2 : ∀ g, p2 = some ⟨g, 0, none⟩ → g ≠ p) (o : Nat) (x : Value) :
    XI lo px (W.setCell ⟨p, o, none⟩ x) now sv cp bt p0 p1 p2 n0 n1 n2 q0 q1 q2 :=
  ⟨(Below.heap_setCell W ⟨p, o, none⟩ x px (by show px ≠ p; omega)).trans h.bx, owns_apart h.o0 h0 o x, owns_apart h.o1 h1 o x, owns_apart h.o2 h2 o x, h.l0, h.l1, h.l2, h.z0, h.z1, h.z2, h.m0, h.m1, h.m2⟩

theorem owns_belx {R W : World} {lo px : Nat} {e e' : TypeId} {size : Nat} {v : Value} {n : Nat} {xs : List Value} {cs : Array Value} (h : R.ownsRow lo e size v n xs) (hx : BelX px R W) (hpx : R.heap[px]? = some (.cells cs e' (0, 0))) (hne : e ≠ e') : W.ownsRow lo e size v n xs := by
  refine ⟨h.1, h.2.imp id ?_⟩
  rintro ⟨g, cap, cur, h1, h2, h3, h4⟩
  refine ⟨g, cap, cur, h1, h2, (hx.block g (lt_heap h3) (fun e2 => ?_)).trans h3, h4⟩
  subst e2
  rw [hpx] at h3
  injection h3 with h3
  injection h3 with _ h3 _
  exact hne h3.symm
theorem owns_lo {W : World} {lo lo' : Nat} {e : TypeId} {size : Nat} {v : Value} {n : Nat} {xs : List Value} (h : W.ownsRow lo e size v n xs) (hle : lo' ≤ lo) : W.ownsRow lo' e size v n xs := by
  refine ⟨h.1, h.2.imp id ?_⟩
  rintro ⟨g, cap, cur, h1, h2, h3⟩
  exact ⟨g, cap, cur, h1, Nat.le_trans hle h2, h3⟩
theorem t_sk : (41 : TypeId) ≠ 37 := by decide
theorem t_bk : (79 : TypeId) ≠ 37 := by decide
theorem t_ks2 : (37 : TypeId) ≠ 41 := by decide
theorem t_cs : (81 : TypeId) ≠ 41 := by decide
theorem t_bs : (79 : TypeId) ≠ 41 := by decide
theorem XI.setSv {lo px : Nat} {W : World} {now : Int} {sv : List Sv} {cp : List Cp} {bt : List Bt} {p1 p2 : Option Addr} {n0 n1 n2 q0 q1 q2 : Nat} {g : Nat} (h : XI lo px W now sv cp bt (some ⟨g, 0, none⟩) p1 p2 n0 n1 n2 q0 q1 q2) {cur : Array Value} (hg : W.heap[g]? = some (.cells cur 41 (0, 0))) (c k : Nat) (hc : c < sv.length) (hk : k < 13) (x : Value) (m : Sv) (hm : SvC m = (SvC (sv.getD c Sv.none)).set k x) (hz : m.sized) :
    XI lo px (W.setCell ⟨g, c * 13 + k, none⟩ x) now (sv.set c m) cp bt (some ⟨g, 0, none⟩) p1 p2 n0 n1 n2 q0 q1 q2 := by
  refine ⟨heap_else h.bx hg t_ks2 _ _, ?_, owns_else h.o1 hg t_cs _ _, owns_else h.o2 hg t_bs _ _, by rw [List.length_set]; exact h.l0, h.l1, h.l2, fun i hi => ?_, h.z1, h.z2, h.m0, h.m1, h.m2⟩
  · rw [← flat_set Sv.none SvC 13 SvC_len k hk x sv c m hc hm]
    exact owns_set h.o0 _ _
  · rw [List.length_set] at hi
    by_cases e : c = i
    · subst e
      have : (sv.set c m).getD c Sv.none = m := by simp [hc]
      rw [this]; exact hz
    · have : (sv.set c m).getD i Sv.none = sv.getD i Sv.none := by simp [e]
      rw [this]; exact h.z0 i hi

noncomputable def sthen : Code → Code
  | .cond _ a _ => a
  | c => c
noncomputable def selse : Code → Code
  | .cond _ _ b => b
  | c => c
noncomputable def sblk : Code → Code
  | .block _ b => b
  | c => c
theorem sthen_cond (o : Operand) (a b : Code) : sthen (.cond o a b) = a := rfl
theorem selse_cond (o : Operand) (a b : Code) : selse (.cond o a b) = b := rfl
theorem sblk_block (n : Nat) (b : Code) : sblk (.block n b) = b := rfl
noncomputable def rops : Code → List Oper
  | .region _ o _ => o.toList
  | _ => []
theorem rops_region (n : Nat) (o : Array Oper) (d : Bool) : rops (.region n o d) = o.toList := rfl
noncomputable def sa0 : Code := (Tryz.f20.body).getD .skip
noncomputable def sa1 : Code := ssnd sa0
noncomputable def sa2 : Code := ssnd sa1
noncomputable def sa3 : Code := ssnd sa2
theorem sa0_2 : sa0 = .seq (sfst sa0) (.seq (sfst sa1) sa2) := by kernel_rfl
theorem sa2_3 : sa2 = .seq (sfst sa2) sa3 := by kernel_rfl
theorem sa3_r : sa3 = .seq (sfst sa3) (.seq (sfst (ssnd sa3)) .ret) := by kernel_rfl
/-- The arms of the switch. -/
noncomputable def sw1 : Code := sblk (ssnd (sfst sa2))
noncomputable def sw2 : Code := selse (ssnd sw1)
noncomputable def sw3 : Code := selse (ssnd sw2)
noncomputable def sw4 : Code := selse (ssnd sw3)
noncomputable def arm4 : Code := sthen (ssnd sw4)
noncomputable def r18 : Code := sfst (ssnd (ssnd arm4))
noncomputable def ops18 : List Oper := rops r18
theorem t_kb : (37 : TypeId) ≠ 79 := by decide
/-- A row cut in two. -/
theorem cut_bts {R : World} {lo n q px : Nat} {p : Option Addr} {l : List Bt} {cs : Array Value} (h : R.ownsRow lo 79 2 (.slice p n q) n (l.flatMap BtC)) (hl : l.length = n) (hpx : R.heap[px]? = some (.cells cs 37 (0, 0))) (m : Nat) (hm : m ≤ n) (hn : n ≤ 1048576) :
    ∃ A1 A2 c2, (∀ W, (Instr.slice 35 (.slice p n q) none (some (.int .i64 (m : Nat))) none).run Tryz.prog W = .ok (.slice A1 m q) W) ∧ (∀ W, (Instr.slice 35 (.slice p n q) (some (.int .i64 (m : Nat))) none none).run Tryz.prog W = .ok (.slice A2 (n - m) c2) W) ∧
      (∀ ad, A1 = some ad → ad.block ≠ px ∧ ad.block < R.heap.size ∧ ∀ i u, ((l.take m).flatMap BtC)[i]? = some u → R.cell? (ad.add i) = some u) ∧ (∀ ad, A2 = some ad → ad.block ≠ px ∧ ad.block < R.heap.size ∧ ∀ i u, ((l.drop m).flatMap BtC)[i]? = some u → R.cell? (ad.add i) = some u) ∧ (A1 = none → m = 0) ∧ (A2 = none → n - m = 0) := by
  rcases h.2 with ⟨hv, h0⟩ | ⟨g, cap, cur, hv, hlo, hg, hc, hcm, hs, ht⟩
  · cases hv
    obtain rfl : m = 0 := by omega
    have hl0 : l = [] := List.eq_nil_of_length_eq_zero hl
    subst hl0
    exact ⟨none, none, 0, fun W => by kernel_rfl, fun W => by kernel_rfl, fun ad e => (by cases e), fun ad e => (by cases e), fun _ => rfl, fun _ => rfl⟩
  · cases hv
    have h1 : (0 : Int) ≤ (m : Int) := by omega
    have h2 : (m : Int) ≤ (n : Int) := by omega
    have h4 : (m : Int) ≤ (q : Int) := by omega
    have hgz : g < R.heap.size := lt_heap hg
    have hne : g ≠ px := fun e => by
      subst e
      rw [hg] at hpx
      injection hpx with hpx
      injection hpx with _ hpx _
      exact t_kb hpx.symm
    have hcell : ∀ i u, (l.flatMap BtC)[i]? = some u → R.cell? ⟨g, i, none⟩ = some u := fun i u hi => by
      rw [← ht, List.getElem?_take] at hi
      simp only [World.cell?, hg]
      split at hi
      · simpa using hi
      · cases hi
    refine ⟨some ⟨g, 0, none⟩, if q = m then some ⟨g, 0, none⟩ else some ⟨g, m * 2, none⟩, q - m, fun W => (by simp [Instr.slice, go_sem, h1, h4]), fun W => (by simp [Instr.slice, go_sem, h1, h2]), fun ad e => ?_, fun ad e => ?_, fun e => (by cases e), fun e => (by split at e <;> cases e)⟩
    · injection e with e
      subst e
      refine ⟨hne, hgz, fun i u hi => ?_⟩
      rw [addN, Nat.zero_add]
      refine hcell i u ?_
      rw [← flat_take BtC 2 BtC_len, List.getElem?_take] at hi
      split at hi
      · exact hi
      · cases hi
    · have hb : ad.block = g := by split at e <;> (injection e with e; subst e; rfl)
      refine ⟨by rw [hb]; exact hne, by rw [hb]; exact hgz, fun i u hi => ?_⟩
      rw [← flat_drop BtC 2 BtC_len, List.getElem?_drop] at hi
      by_cases hq : q = m
      · exfalso
        have : (l.flatMap BtC).length ≤ m * 2 := by rw [flat_len BtC 2 BtC_len, hl]; exact Nat.mul_le_mul_right 2 (by omega)
        rw [List.getElem?_eq_none (by omega)] at hi
        cases hi
      · rw [if_neg hq] at e
        injection e with e
        subst e
        rw [addN]
        exact hcell _ u hi
def V18 (px : Nat) (p0 A1 A2 : Option Addr) (n0 q0 m k c2 : Nat) : Nat → Value → Prop
  | 1, u => u = .pointer (some ⟨px, 3, none⟩)
  | 2, u => u = .slice p0 n0 q0
  | 3, u => u = .int .i64 (m : Nat)
  | 4, u => u = .slice A1 m q0
  | 6, u => u = .pointer (some ⟨px, 3, none⟩)
  | 7, u => u = .slice p0 n0 q0
  | 8, u => u = .int .i64 (m : Nat)
  | 9, u => u = .int .i64 ((m : Int) + 1)
  | 10, u => u = .slice A2 k c2
  | 12, u => u = .pointer (some ⟨px, 3, none⟩)
  | _, _ => True

structure T18 (R : World) (px m k : Nat) (now : Int) (v1 v2 v3 : Value) (xs1 xs2 : List Value) (up : Nat → Bool) (vals : Nat → Value) (W : World) : Prop where
  bel : BelX px R W
  old : up 13 = false → W.heap[px]? = some (.cells #[.int .i64 now, v1, v2, v3] 37 (0, 0))
  t0 : up 0 = true → up 5 = false → Emp W R.heap.size 79 (vals 0)
  t5 : up 5 = true → up 11 = false → ∃ g cap, vals 5 = .slice (some ⟨g, 0, none⟩) m cap ∧ W.ownsRow R.heap.size 79 2 (vals 5) m xs1
  t11 : up 11 = true → ∃ g cap, vals 11 = .slice (some ⟨g, 0, none⟩) (m + k) cap ∧ W.ownsRow R.heap.size 79 2 (vals 11) (m + k) (xs1 ++ xs2)
  new : up 13 = true → W.heap[px]? = some (.cells #[.int .i64 now, v1, v2, vals 11] 37 (0, 0))
theorem T18.pure {R : World} {px m k : Nat} {now : Int} {v1 v2 v3 : Value} {xs1 xs2 : List Value} {up : Nat → Bool} {vals : Nat → Value} {W : World} (h : T18 R px m k now v1 v2 v3 xs1 xs2 up vals W) (i : Nat) (u : Value) (i0 : i ≠ 0) (i5 : i ≠ 5) (i11 : i ≠ 11) (i13 : i ≠ 13) :
    T18 R px m k now v1 v2 v3 xs1 xs2 (fun j => (j == i) || up j) (fun j => if j = i then u else vals j) W := by
  have e : ∀ q, i ≠ q → ((q == i) || up q) = up q := fun q hq => by rw [show (q == i) = false from by simpa using fun e => hq e.symm]; rfl
  have f : ∀ q, i ≠ q → (if q = i then u else vals q) = vals q := fun q hq => if_neg (fun e => hq e.symm)
  constructor
  · exact h.bel
  · show ((13 == i) || up 13) = false → _; rw [e 13 i13]; exact h.old
  · show ((0 == i) || up 0) = true → ((5 == i) || up 5) = false → Emp _ _ _ (if 0 = i then u else vals 0); rw [e 0 i0, e 5 i5, f 0 i0]; exact h.t0
  · show ((5 == i) || up 5) = true → ((11 == i) || up 11) = false → ∃ g cap, (if 5 = i then u else vals 5) = _ ∧ W.ownsRow _ _ _ (if 5 = i then u else vals 5) _ _; rw [e 5 i5, e 11 i11, f 5 i5]; exact h.t5
  · show ((11 == i) || up 11) = true → ∃ g cap, (if 11 = i then u else vals 11) = _ ∧ W.ownsRow _ _ _ (if 11 = i then u else vals 11) _ _; rw [e 11 i11, f 11 i11]; exact h.t11
  · show ((13 == i) || up 13) = true → W.heap[px]? = some (.cells #[_, _, _, (if 11 = i then u else vals 11)] _ _); rw [e 13 i13, f 11 i11]; exact h.new

set_option maxRecDepth 8000 in
set_option maxHeartbeats 8000000 in
theorem region18 (Q : Exit → Act → World → Prop) (a0 : Act) (R : World) (px : Nat) (p0 A1 A2 : Option Addr) (n0 q0 m k c2 : Nat) (now : Int) (v1 v2 : Value) (xs1 xs2 : List Value) (hz : a0.tmps.size = 161) (h9 : a0.eval (.tmp 2) = .pointer (some ⟨px, 0, none⟩)) (h6 : a0.eval (.tmp 8) = .int .i64 (m : Nat))
    (hpx : R.heap[px]? = some (.cells #[.int .i64 now, v1, v2, .slice p0 n0 q0] 37 (0, 0)))
    (hs4 : ∀ W, (Instr.slice 35 (.slice p0 n0 q0) none (some (.int .i64 (m : Nat))) none).run Tryz.prog W = .ok (.slice A1 m q0) W) (hs10 : ∀ W, (Instr.slice 35 (.slice p0 n0 q0) (some (.int .i64 ((m : Int) + 1))) none none).run Tryz.prog W = .ok (.slice A2 k c2) W)
    (hl1 : xs1.length = m * 2) (hl2 : xs2.length = k * 2) (ho1 : ∀ u ∈ xs1, u.oneCell' = true) (ho2 : ∀ u ∈ xs2, u.oneCell' = true) (hmk : m + 1 + k ≤ 1048576)
    (hn1 : ∀ ad, A1 = some ad → ad.block ≠ px ∧ ad.block < R.heap.size ∧ ∀ i u, xs1[i]? = some u → R.cell? (ad.add i) = some u) (hn2 : ∀ ad, A2 = some ad → ad.block ≠ px ∧ ad.block < R.heap.size ∧ ∀ i u, xs2[i]? = some u → R.cell? (ad.add i) = some u) (hA1 : A1 = none → m = 0) (hA2 : A2 = none → k = 0)
    (hQ : ∀ W vs g cap, BelX px R W → R.heap.size ≤ g → W.heap[px]? = some (.cells #[.int .i64 now, v1, v2, .slice (some ⟨g, 0, none⟩) (m + k) cap] 37 (0, 0)) → W.ownsRow R.heap.size 79 2 (.slice (some ⟨g, 0, none⟩) (m + k) cap) (m + k) (xs1 ++ xs2) → Q .normal (RY.putAll ops18 a0 vs) W) :
    Code.wp Tryz.prog r18 Q a0 R := by
  have hQ' := hQ
  simp only [r18, arm4, sw4, sw3, sw2, sw1, sa2, sa1, sa0, Tryz.f20, Option.getD_some, sfst_seq, ssnd_seq, sthen_cond, selse_cond, sblk_block]
  have hpxl : px < R.heap.size := lt_heap hpx
  have hwr : IntKind.i64.wrap ((m : Int) + 1) = (m : Int) + 1 := by simp [IntKind.wrap, IntKind.bits, IntKind.signed]; omega
  refine RY.region_T (V18 px p0 A1 A2 n0 q0 m k c2) (T18 R px m k now v1 v2 (.slice p0 n0 q0) xs1 xs2) (by kernel_rfl) (by kernel_rfl) (by kernel_rfl) (by rw [hz]; kernel_rfl) ?_ ?_ ?_
  · intro vals
    exact ⟨(BelX.refl px R).drew, fun _ => hpx, fun h => (by cases h), fun h => (by cases h), fun h => (by cases h), fun h => (by cases h)⟩
  · intro up vals i o ho hi hcl a W hk hd hT
    have et9 : a.tmps[2]?.getD undef = .pointer (some ⟨px, 0, none⟩) := (RY.ev_tmp a 2).trans ((hk 2 (by kernel_rfl)).trans h9)
    have et6 : a.tmps[8]?.getD undef = .int .i64 (m : Nat) := (RY.ev_tmp a 8).trans ((hk 8 (by kernel_rfl)).trans h6)
    have c13_11 : up 13 = true → up 11 = true := hcl 13 _ ⟨11, .data⟩ rfl (by simp) rfl
    have c11_5 : up 11 = true → up 5 = true := hcl 11 _ ⟨5, .data⟩ rfl (by simp) rfl
    have c11_10 : up 11 = true → up 10 = true := hcl 11 _ ⟨10, .data⟩ rfl (by simp) rfl
    have c5_0 : up 5 = true → up 0 = true := hcl 5 _ ⟨0, .data⟩ rfl (by simp) rfl
    have c5_4 : up 5 = true → up 4 = true := hcl 5 _ ⟨4, .data⟩ rfl (by simp) rfl
    have c10_7 : up 10 = true → up 7 = true := hcl 10 _ ⟨7, .data⟩ rfl (by simp) rfl
    have c10_9 : up 10 = true → up 9 = true := hcl 10 _ ⟨9, .data⟩ rfl (by simp) rfl
    have c4_2 : up 4 = true → up 2 = true := hcl 4 _ ⟨2, .data⟩ rfl (by simp) rfl
    have hbs : R.heap.size ≤ W.heap.size := hT.bel.size
    match i, ho with
      | 1, ho =>
        injection ho with ho; subst ho
        exact Or.inl ⟨.pointer (some ⟨px, 3, none⟩), W, by simp [execOp, go_sem, et9], rfl, rfl, hT.pure 1 _ (by decide) (by decide) (by decide) (by decide)⟩
      | 2, ho =>
        injection ho with ho; subst ho
        have n13 : up 13 = false := by
          cases e : up 13
          · rfl
          · have := c4_2 (c5_4 (c11_5 (c13_11 e))); rw [hi] at this; cases this
        have hp := hT.old n13
        have x1 : W.cell? ⟨px, 3, none⟩ = some (.slice p0 n0 q0) := by simp [World.cell?, hp]
        have d0 := hd 1 _ 80 rfl rfl ⟨⟨1, .data⟩, by simp, rfl, rfl⟩
        have e0 : a.tmps[80]?.getD undef = _ := (RY.ev_tmp a 80).trans (d0.2.1.trans d0.2.2)
        exact Or.inl ⟨.slice p0 n0 q0, W, by simp [execOp, go_sem, e0, x1], rfl, rfl, hT.pure 2 _ (by decide) (by decide) (by decide) (by decide)⟩
      | 3, ho =>
        injection ho with ho; subst ho
        exact Or.inl ⟨.int .i64 (m : Nat), W, by simp [execOp, go_sem, et6], rfl, rfl, hT.pure 3 _ (by decide) (by decide) (by decide) (by decide)⟩
      | 4, ho =>
        injection ho with ho; subst ho
        have d0 := hd 2 _ 81 rfl rfl ⟨⟨2, .data⟩, by simp, rfl, rfl⟩
        have e0 : a.tmps[81]?.getD undef = _ := (RY.ev_tmp a 81).trans (d0.2.1.trans d0.2.2)
        have d1 := hd 3 _ 82 rfl rfl ⟨⟨3, .data⟩, by simp, rfl, rfl⟩
        have e1 : a.tmps[82]?.getD undef = _ := (RY.ev_tmp a 82).trans (d1.2.1.trans d1.2.2)
        exact Or.inl ⟨.slice A1 m q0, W, by simp [execOp, go_sem, e0, e1, hs4 W], rfl, rfl, hT.pure 4 _ (by decide) (by decide) (by decide) (by decide)⟩
      | 6, ho =>
        injection ho with ho; subst ho
        exact Or.inl ⟨.pointer (some ⟨px, 3, none⟩), W, by simp [execOp, go_sem, et9], rfl, rfl, hT.pure 6 _ (by decide) (by decide) (by decide) (by decide)⟩
      | 7, ho =>
        injection ho with ho; subst ho
        have n13 : up 13 = false := by
          cases e : up 13
          · rfl
          · have := c10_7 (c11_10 (c13_11 e)); rw [hi] at this; cases this
        have hp := hT.old n13
        have x1 : W.cell? ⟨px, 3, none⟩ = some (.slice p0 n0 q0) := by simp [World.cell?, hp]
        have d0 := hd 6 _ 85 rfl rfl ⟨⟨6, .data⟩, by simp, rfl, rfl⟩
        have e0 : a.tmps[85]?.getD undef = _ := (RY.ev_tmp a 85).trans (d0.2.1.trans d0.2.2)
        exact Or.inl ⟨.slice p0 n0 q0, W, by simp [execOp, go_sem, e0, x1], rfl, rfl, hT.pure 7 _ (by decide) (by decide) (by decide) (by decide)⟩
      | 8, ho =>
        injection ho with ho; subst ho
        exact Or.inl ⟨.int .i64 (m : Nat), W, by simp [execOp, go_sem, et6], rfl, rfl, hT.pure 8 _ (by decide) (by decide) (by decide) (by decide)⟩
      | 9, ho =>
        injection ho with ho; subst ho
        have d0 := hd 8 _ 87 rfl rfl ⟨⟨8, .data⟩, by simp, rfl, rfl⟩
        have e0 : a.tmps[87]?.getD undef = _ := (RY.ev_tmp a 87).trans (d0.2.1.trans d0.2.2)
        exact Or.inl ⟨.int .i64 ((m : Int) + 1), W, by simp [execOp, go_sem, e0, hwr], rfl, rfl, hT.pure 9 _ (by decide) (by decide) (by decide) (by decide)⟩
      | 10, ho =>
        injection ho with ho; subst ho
        have d0 := hd 7 _ 86 rfl rfl ⟨⟨7, .data⟩, by simp, rfl, rfl⟩
        have e0 : a.tmps[86]?.getD undef = _ := (RY.ev_tmp a 86).trans (d0.2.1.trans d0.2.2)
        have d1 := hd 9 _ 88 rfl rfl ⟨⟨9, .data⟩, by simp, rfl, rfl⟩
        have e1 : a.tmps[88]?.getD undef = _ := (RY.ev_tmp a 88).trans (d1.2.1.trans d1.2.2)
        exact Or.inl ⟨.slice A2 k c2, W, by simp [execOp, go_sem, e0, e1, hs10 W], rfl, rfl, hT.pure 10 _ (by decide) (by decide) (by decide) (by decide)⟩
      | 12, ho =>
        injection ho with ho; subst ho
        exact Or.inl ⟨.pointer (some ⟨px, 3, none⟩), W, by simp [execOp, go_sem, et9], rfl, rfl, hT.pure 12 _ (by decide) (by decide) (by decide) (by decide)⟩
      | 0, ho =>
        injection ho with ho; subst ho
        have n5 : up 5 = false := by
          cases e : up 5
          · rfl
          · have := c5_0 e; rw [hi] at this; cases this
        have n11 : up 11 = false := by
          cases e : up 11
          · rfl
          · have := c5_0 (c11_5 e); rw [hi] at this; cases this
        have n13 : up 13 = false := by
          cases e : up 13
          · rfl
          · have := c5_0 (c11_5 (c13_11 e)); rw [hi] at this; cases this
        have hb : Below W.heap.size W (W.alloc (.cells #[] 79)) := blw_alloc (Below.refl _ _) _
        refine Or.inl ⟨.slice (some ⟨W.heap.size, 0, none⟩) 0 0, W.alloc (.cells #[] 79), by simp [execOp, go_sem], rfl, trivial, ?_⟩
        refine ⟨hT.bel.on hb, fun _ => (hb.block px (Nat.lt_of_lt_of_le hpxl hbs)).trans (hT.old n13), fun _ _ => ⟨W.heap.size, rfl, hbs, heap_alloc_new W _⟩, ?_, ?_, ?_⟩
        · show ((5 == 0) || up 5) = true → _; rw [n5]; intro h; cases h
        · show ((11 == 0) || up 11) = true → _; rw [n11]; intro h; cases h
        · show ((13 == 0) || up 13) = true → _; rw [n13]; intro h; cases h
      | 5, ho =>
        injection ho with ho; subst ho
        have d0 := hd 0 _ 79 rfl rfl ⟨⟨0, .data⟩, by simp, rfl, rfl⟩
        have d1 := hd 4 _ 83 rfl rfl ⟨⟨4, .data⟩, by simp, rfl, rfl⟩
        have n11 : up 11 = false := by
          cases e : up 11
          · rfl
          · have := c11_5 e; rw [hi] at this; cases this
        have n13 : up 13 = false := by
          cases e : up 13
          · rfl
          · have := c11_5 (c13_11 e); rw [hi] at this; cases this
        obtain ⟨g, eg, hgl, hgg⟩ := hT.t0 d0.1 hi
        obtain ⟨g', cap', W', hr, hO, hX⟩ := app_own (P := Tryz.prog) R.heap.size 35 35 79 2 24 _ Tryz.undBt Tryz.infBt rfl (by decide) W g 0 0 [] ⟨rfl, .inr ⟨g, 0, #[], rfl, hgl, hgg, by omega, by decide, by simp, by simp⟩⟩ A1 m q0 xs1 hl1 (fun ad e j u hj => by
          obtain ⟨h1, h2, h3⟩ := hn1 ad e
          exact (cell_blk j (hT.bel.block ad.block h2 h1)).trans (h3 j u hj)) hA1 ho1 (by omega) (by omega) hbs
        rw [Nat.zero_add] at hr hO
        rw [List.nil_append] at hO
        refine Or.inl ⟨_, W', exec_append (.tmp 79) (.tmp 83) 35 rfl (d0.2.1.trans eg) (d1.2.1.trans d1.2.2) hr, rfl, trivial, ?_⟩
        refine ⟨⟨hX.os.trans hT.bel.os, hX.tape.trans hT.bel.tape, hX.output.trans hT.bel.output, Nat.le_trans hT.bel.size hX.size, fun q hq hn => (hX.block q (Nat.lt_of_lt_of_le hq hbs) (by omega)).trans (hT.bel.block q hq hn)⟩, fun _ => (hX.block px (Nat.lt_of_lt_of_le hpxl hbs) (by omega)).trans (hT.old n13), ?_, fun _ _ => ⟨g', cap', rfl, hO⟩, ?_, ?_⟩
        · show _ → ((5 == 5) || up 5) = false → _
          intro _ h; cases h
        · show ((11 == 5) || up 11) = true → _; rw [n11]; intro h; cases h
        · show ((13 == 5) || up 13) = true → _; rw [n13]; intro h; cases h
      | 11, ho =>
        injection ho with ho; subst ho
        have d0 := hd 5 _ 84 rfl rfl ⟨⟨5, .data⟩, by simp, rfl, rfl⟩
        have d1 := hd 10 _ 89 rfl rfl ⟨⟨10, .data⟩, by simp, rfl, rfl⟩
        have n13 : up 13 = false := by
          cases e : up 13
          · rfl
          · have := c13_11 e; rw [hi] at this; cases this
        obtain ⟨g, cap, eg, hO⟩ := hT.t5 d0.1 hi
        rw [eg] at hO
        obtain ⟨g', cap', W', hr, hO', hX⟩ := app_own (P := Tryz.prog) R.heap.size 35 35 79 2 24 _ Tryz.undBt Tryz.infBt rfl (by decide) W g m cap xs1 hO A2 k c2 xs2 hl2 (fun ad e j u hj => by
          obtain ⟨h1, h2, h3⟩ := hn2 ad e
          exact (cell_blk j (hT.bel.block ad.block h2 h1)).trans (h3 j u hj)) hA2 ho2 (by omega) (by omega) hbs
        have hgR : R.heap.size ≤ g := by
          rcases hO.2 with ⟨hv, _⟩ | ⟨g2, _, _, hv, hb2, _⟩
          · cases hv
          · cases hv; exact hb2
        refine Or.inl ⟨_, W', exec_append (.tmp 84) (.tmp 89) 35 rfl (d0.2.1.trans eg) (d1.2.1.trans d1.2.2) hr, rfl, trivial, ?_⟩
        refine ⟨⟨hX.os.trans hT.bel.os, hX.tape.trans hT.bel.tape, hX.output.trans hT.bel.output, Nat.le_trans hT.bel.size hX.size, fun q hq hn => (hX.block q (Nat.lt_of_lt_of_le hq hbs) (by omega)).trans (hT.bel.block q hq hn)⟩, fun _ => (hX.block px (Nat.lt_of_lt_of_le hpxl hbs) (by omega)).trans (hT.old n13), ?_, ?_, fun _ => ⟨g', cap', rfl, hO'⟩, ?_⟩
        · show _ → ((5 == 11) || up 5) = false → _
          rw [d0.1]; intro _ h; cases h
        · show _ → ((11 == 11) || up 11) = false → _
          intro _ h; cases h
        · show ((13 == 11) || up 13) = true → _; rw [n13]; intro h; cases h
      | 13, ho =>
        injection ho with ho; subst ho
        have d0 := hd 12 _ 91 rfl rfl ⟨⟨12, .data⟩, by simp, rfl, rfl⟩
        have d1 := hd 11 _ 90 rfl rfl ⟨⟨11, .data⟩, by simp, rfl, rfl⟩
        have e0 : a.tmps[91]?.getD undef = _ := (RY.ev_tmp a 91).trans (d0.2.1.trans d0.2.2)
        obtain ⟨g, cap, eg, hO⟩ := hT.t11 d1.1
        have e1 : a.tmps[90]?.getD undef = .slice (some ⟨g, 0, none⟩) (m + k) cap := (RY.ev_tmp a 90).trans (d1.2.1.trans eg)
        have hp := hT.old hi
        have x1 : W.cell? ⟨px, 3, none⟩ = some (.slice p0 n0 q0) := by simp [World.cell?, hp]
        have fz : ∀ q, W.frozen? ⟨px, q, none⟩ = false := fun q => by simp [World.frozen?, hp]
        have hpz : px < W.heap.size := lt_heap hp
        have hgR : R.heap.size ≤ g := by
          rw [eg] at hO
          rcases hO.2 with ⟨hv, _⟩ | ⟨g2, _, _, hv, hb2, _⟩
          · cases hv
          · cases hv; exact hb2
        refine Or.inr ⟨W.setCell ⟨px, 3, none⟩ (.slice (some ⟨g, 0, none⟩) (m + k) cap), by simp [execOp, go_sem, e0, e1, x1, fz], rfl, ?_⟩
        refine ⟨hT.bel.sc 3 _, fun h => (by cases h), ?_, ?_, fun _ => ⟨g, cap, eg, owns_sc hO (by omega) 3 _⟩, fun _ => ?_⟩
        · show _ → ((5 == 13) || up 5) = false → _
          rw [c11_5 d1.1]; intro _ h; cases h
        · show _ → ((11 == 13) || up 11) = false → _
          rw [d1.1]; intro _ h; cases h
        · rw [heap_setCell_same W px 3 _ _ _ hp, eg]; rfl
      | n + 14, ho => simp at ho
  · intro up vals vs W hall hv hT
    obtain ⟨g, cap, e, hO⟩ := hT.t11 (hall 11 (by decide))
    have hn := hT.new (hall 13 (by decide))
    rw [e] at hn hO
    have hg : R.heap.size ≤ g := by
      rcases hO.2 with ⟨hv, _⟩ | ⟨g', cap', cur, hv, hb, _⟩
      · cases hv
      · cases hv; exact hb
    exact hQ' W vs g cap hT.bel hg hn hO

end Go.Proofs.YtclagbakddkjcaaGreat
