/-
  A change in the making: its book, its own rows; turn, codeOfValidity.
-/
import Derived.Test.YtclagbakddkjcaaGreatSeP
import Derived.Test.YtclagbakddkjcaaGreatStVI
namespace Go.Proofs.YtclagbakddkjcaaGreat
open Go.RowKit Go.Deep

/-- A type that is no row's. -/
def NoRow (t : TypeId) : Prop := 41 ≠ t ∧ 81 ≠ t ∧ 79 ≠ t
/-- A change in the making: its variable (more cells behind the book's) and its own rows. -/
structure XG (lo px : Nat) (t : TypeId) (ex : List Value) (W : World) (now : Int) (sv : List Sv) (cp : List Cp) (bt : List Bt) (p0 p1 p2 : Option Addr) (n0 n1 n2 q0 q1 q2 : Nat) : Prop where
  nr : NoRow t
  bx : W.heap[px]? = some (.cells (.int .i64 now :: .slice p0 n0 q0 :: .slice p1 n1 q1 :: .slice p2 n2 q2 :: ex).toArray t (0, 0))
  o0 : W.ownsRow lo 41 13 (.slice p0 n0 q0) n0 (sv.flatMap SvC)
  o1 : W.ownsRow lo 81 7 (.slice p1 n1 q1) n1 (cp.flatMap CpC)
  o2 : W.ownsRow lo 79 2 (.slice p2 n2 q2) n2 (bt.flatMap BtC)
  l0 : sv.length = n0
  l1 : cp.length = n1
  l2 : bt.length = n2
  z0 : ∀ i, i < sv.length → (sv.getD i Sv.none).sized
  z1 : ∀ i, i < cp.length → (cp.getD i Cp.none).sized
  z2 : ∀ i, i < bt.length → (bt.getD i Bt.none).sized
  m0 : n0 ≤ 1048576
  m1 : n1 ≤ 1048576
  m2 : n2 ≤ 1048576
section
variable {lo px : Nat} {t : TypeId} {ex : List Value} {W W' : World} {now : Int} {sv : List Sv} {cp : List Cp} {bt : List Bt} {p0 p1 p2 : Option Addr} {n0 n1 n2 q0 q1 q2 : Nat}
theorem XG.later (h : XG lo px t ex W now sv cp bt p0 p1 p2 n0 n1 n2 q0 q1 q2) (hb : Below W.heap.size W W') : XG lo px t ex W' now sv cp bt p0 p1 p2 n0 n1 n2 q0 q1 q2 :=
  ⟨h.nr, (hb.block px (lt_heap h.bx)).trans h.bx, owns_on h.o0 hb, owns_on h.o1 hb, owns_on h.o2 hb, h.l0, h.l1, h.l2, h.z0, h.z1, h.z2, h.m0, h.m1, h.m2⟩
theorem XG.own (h : XG lo px t ex W now sv cp bt p0 p1 p2 n0 n1 n2 q0 q1 q2) : BkOwn W lo ⟨now, sv, cp, bt⟩ (.slice p0 n0 q0) (.slice p1 n1 q1) (.slice p2 n2 q2) := by
  obtain ⟨_, _, o0, o1, o2, rfl, rfl, rfl, z0, z1, z2, m0, m1, m2⟩ := h
  exact ⟨o0, o1, o2, z0, z1, z2, m0, m1, m2⟩
theorem XG.v (h : XG lo px t ex W now sv cp bt p0 p1 p2 n0 n1 n2 q0 q1 q2) : SBkV W p0 p1 p2 ⟨now, sv, cp, bt⟩ := by
  have m0 := h.m0
  have m1 := h.m1
  have m2 := h.m2
  obtain ⟨_, _, o0, o1, o2, rfl, rfl, rfl, z0, z1, z2, _, _, _⟩ := h
  obtain ⟨a, c, e, h0⟩ := owns_Svs o0 z0 (by unfold maxLen; omega)
  injection e with e _ _
  subst e
  obtain ⟨a, c, e, h1⟩ := owns_Cps o1 z1 (by unfold maxLen; omega)
  injection e with e _ _
  subst e
  obtain ⟨a, c, e, h2⟩ := owns_Bts o2 z2 (by unfold maxLen; omega)
  injection e with e _ _
  subst e
  exact ⟨h0, h1, h2⟩
theorem XG.cell (h : XG lo px t ex W now sv cp bt p0 p1 p2 n0 n1 n2 q0 q1 q2) (j : Nat) (u : Value) (hu : (.int .i64 now :: .slice p0 n0 q0 :: .slice p1 n1 q1 :: .slice p2 n2 q2 :: ex)[j]? = some u) : W.cell? ⟨px, j, none⟩ = some u := by
  simp only [World.cell?, h.bx]
  simpa using hu
theorem XG.box (h : XG lo px t ex W now sv cp bt p0 p1 p2 n0 n1 n2 q0 q1 q2) : LBox W px (.int .i64 now :: .slice p0 n0 q0 :: .slice p1 n1 q1 :: .slice p2 n2 q2 :: ex) := ⟨lt_heap h.bx, fun j u hu => by rw [Nat.zero_add]; exact h.cell j u hu⟩
/-- A row's block is not the variable's. -/
theorem XG.ne (h : XG lo px t ex W now sv cp bt p0 p1 p2 n0 n1 n2 q0 q1 q2) {g : Nat} {cur : Array Value} {e : TypeId} (hg : W.heap[g]? = some (.cells cur e (0, 0))) (hne : e ≠ t) : px ≠ g := fun e2 => by
  subst e2
  have := h.bx
  rw [hg] at this
  injection this with this
  injection this with _ this _
  exact hne this
/-- Behind what changes the row of copies alone. -/
theorem XG.cps {g : Nat} (h : XG lo px t ex W now sv cp bt p0 p1 p2 n0 n1 n2 q0 q1 q2) {cur : Array Value} (hg : W.heap[g]? = some (.cells cur 81 (0, 0))) (hX : BelX g W W') {cp' : List Cp} {p1' : Option Addr} {n1' q1' : Nat} (hb : W'.heap[px]? = some (.cells (.int .i64 now :: .slice p0 n0 q0 :: .slice p1' n1' q1' :: .slice p2 n2 q2 :: ex).toArray t (0, 0))) (ho : W'.ownsRow lo 81 7 (.slice p1' n1' q1') n1' (cp'.flatMap CpC)) (hl : cp'.length = n1') (hz : ∀ i, i < cp'.length → (cp'.getD i Cp.none).sized) (hm : n1' ≤ 1048576) : XG lo px t ex W' now sv cp' bt p0 p1' p2 n0 n1' n2 q0 q1' q2 :=
  ⟨h.nr, hb, owns_belx h.o0 hX hg t_sc, ho, owns_belx h.o2 hX hg t_bc, h.l0, hl, h.l2, h.z0, hz, h.z2, h.m0, hm, h.m2⟩
end

def turnC (c : Cp) (v st : Int) : Cp := ⟨c.svc, c.num, v, c.image, st, c.ending, c.berth⟩
def cw (k : Nat) (st now : Int) (cur : Array Value) (b c : Bool) : Array Value :=
  if c then (cur.setIfInBounds (k * 7 + 4) (.int .i64 st)).setIfInBounds (k * 7 + 2) (.int .i64 now) else if b then cur.setIfInBounds (k * 7 + 4) (.int .i64 st) else cur
def V81 (px g k n1 q1 : Nat) (st now : Int) : Nat → Value → Prop
  | 0, u => u = .pointer (some ⟨px, 0, none⟩)
  | 1, u => u = .pointer (some ⟨px, 0, none⟩)
  | 2, u => u = .pointer (some ⟨px, 0, none⟩)
  | 3, u => u = .pointer (some ⟨px, 2, none⟩)
  | 4, u => u = .slice (some ⟨g, 0, none⟩) n1 q1
  | 5, u => u = .int .i64 (k : Nat)
  | 6, u => u = .pointer (some ⟨px, 0, none⟩)
  | 7, u => u = .pointer (some ⟨px, 0, none⟩)
  | 8, u => u = .pointer (some ⟨px, 0, none⟩)
  | 9, u => u = .pointer (some ⟨px, 2, none⟩)
  | 10, u => u = .slice (some ⟨g, 0, none⟩) n1 q1
  | 11, u => u = .int .i64 (k : Nat)
  | 12, u => u = .int .i64 st
  | 13, u => u = .pointer (some ⟨px, 0, none⟩)
  | 14, u => u = .pointer (some ⟨px, 0, none⟩)
  | 15, u => u = .pointer (some ⟨px, 0, none⟩)
  | 16, u => u = .pointer (some ⟨px, 0, none⟩)
  | 17, u => u = .int .i64 now
  | 18, u => u = .pointer (some ⟨g, k * 7, none⟩)
  | 19, u => u = .pointer (some ⟨g, k * 7 + 4, none⟩)
  | 21, u => u = .pointer (some ⟨g, k * 7, none⟩)
  | 22, u => u = .pointer (some ⟨g, k * 7 + 2, none⟩)
  | _, _ => True
def T81 (R : World) (g k : Nat) (st now : Int) (cur : Array Value) (up : Nat → Bool) (_ : Nat → Value) (W : World) : Prop := BelX g R W ∧ W.heap[g]? = some (Obj.cells (cw k st now cur (up 20) (up 23)) 81 (0, 0)) ∧ (up 23 = true → up 20 = true)

set_option maxRecDepth 8000 in
set_option maxHeartbeats 8000000 in
theorem turnI {lo px : Nat} {t : TypeId} {ex : List Value} {R : World} {now : Int} {sv : List Sv} {cp : List Cp} {bt : List Bt} {p0 p1 p2 : Option Addr} {n0 n1 n2 q0 q1 q2 : Nat} (h : XG lo px t ex R now sv cp bt p0 p1 p2 n0 n1 n2 q0 q1 q2) (k : Nat) (hk : k < cp.length) (st : Int) :
    Calls Tryz.prog 81 #[.pointer (some ⟨px, 0, none⟩), .int .i64 (k : Nat), .int .i64 st] R fun e W' => e = .returned (.tuple #[]) ∧ XG lo px t ex W' now sv (cp.set k (turnC (cp.getD k Cp.none) now st)) bt p0 p1 p2 n0 n1 n2 q0 q1 q2 ∧ ∃ g, p1 = some ⟨g, 0, none⟩ ∧ BelX g R W' := by
  have hl1 := h.l1
  obtain ⟨g, cur, rfl, hgl, hgh, hcs, hcell⟩ := owns_blk h.o1 (by omega)
  obtain ⟨x, hx⟩ : ∃ x, x = cp.getD k Cp.none := ⟨_, rfl⟩
  have cc : ∀ j (hj : j < 7) u, (CpC x)[j]? = some u → cur[k * 7 + j]? = some u := fun j hj u hu => by
    have := hcell (k * 7 + j) u ((flat_at Cp.none CpC 7 CpC_len cp k j hk hj).trans (by rw [← hx]; exact hu))
    simpa [World.cell?, hgh] using this
  have C4 := cc 4 (by omega) _ rfl
  have C2 := cc 2 (by omega) _ rfl
  have hne := h.ne hgh h.nr.2.1
  have hpl := lt_heap h.bx
  have hgl' := lt_heap hgh
  have X0 := h.cell 0 _ rfl
  have X2 := h.cell 2 _ rfl
  have hm0 : (0 : Int) ≤ (k : Int) := by omega
  have hm3 : (k : Int) < (n1 : Int) := by omega
  have HR : Hid (∀ W', BelX g R W' → W'.heap[g]? = some (Obj.cells (cw k st now cur true true) 81 (0, 0)) → XG lo px t ex W' now sv (cp.set k (turnC x now st)) bt p0 (some ⟨g, 0, none⟩) p2 n0 n1 n2 q0 q1 q2) := by
    intro W' hX hH
    have hxz : x.sized := by rw [hx]; exact h.z1 k hk
    refine h.cps hgh hX ((hX.block px hpl hne).trans h.bx) ?_ (by rw [List.length_set]; exact hl1) (fun i hi => ?_) h.m1
    · have e1 := owns_set (owns_set h.o1 (k * 7 + 4) (.int .i64 st)) (k * 7 + 2) (.int .i64 now)
      rw [flat_set Cp.none CpC 7 CpC_len 4 (by omega) (.int .i64 st) cp k (turnC x x.ver st) hk (by rw [← hx]; rfl), flat_set Cp.none CpC 7 CpC_len 2 (by omega) (.int .i64 now) (cp.set k (turnC x x.ver st)) k (turnC x now st) (by rw [List.length_set]; exact hk) (by rw [show (cp.set k (turnC x x.ver st)).getD k Cp.none = turnC x x.ver st from by simp [hk]]; rfl), List.set_set] at e1
      rcases e1.2 with ⟨q, _⟩ | ⟨g', cap, cu, q1, q2, q3, q4⟩
      · cases q
      · cases q1
        refine ⟨e1.1, Or.inr ⟨g, _, cu, rfl, q2, ?_, q4⟩⟩
        rw [hH]
        rw [heap_setCell_same _ g _ _ _ _ (heap_setCell_same R g _ _ _ _ hgh)] at q3
        exact q3
    · rw [List.length_set] at hi
      by_cases e : k = i
      · subst e
        rw [show (cp.set k (turnC x now st)).getD k Cp.none = turnC x now st from by simp [hk]]; exact hxz
      · rw [show (cp.set k (turnC x now st)).getD i Cp.none = cp.getD i Cp.none from by simp [e]]; exact h.z1 i hi
  rw [← hx]
  clear hcell cc hcs hx
  go_enter Tryz.func81, Tryz.ntmps81
  go_wp2_with fail
  refine RY.region_TC (V81 px g k n1 q1 st now) (T81 R g k st now cur) (by kernel_rfl) (by kernel_rfl) (by kernel_rfl) (by kernel_rfl) ?_ ?_ ?_
  · intro vals
    exact ⟨(BelX.refl g R).drew, hgh, fun h => by cases h⟩
  · intro up vals i o ho hi hcl a W hk' hd hT
    obtain ⟨hX, hH, hU⟩ := hT
    have x0 : W.cell? ⟨px, 0, none⟩ = some (.int .i64 now) := (hX.cell hpl hne 0).trans X0
    have x2 : W.cell? ⟨px, 2, none⟩ = some (.slice (some ⟨g, 0, none⟩) n1 q1) := (hX.cell hpl hne 2).trans X2
    match i, ho with
    | 0, ho =>
      injection ho with ho; subst ho
      have e0 : a.tmps[0]?.getD undef = .pointer (some ⟨px, 0, none⟩) := (RY.ev_tmp a 0).trans ((hk' 0 (by kernel_rfl)).trans rfl)
      exact Or.inl ⟨.pointer (some ⟨px, 0, none⟩), W, by simp [execOp, go_sem, e0], rfl, rfl, hX, hH, hU⟩
    | 1, ho =>
      injection ho with ho; subst ho
      have d0 := hd 0 _ 6 rfl rfl ⟨⟨0, .data⟩, by simp, rfl, rfl⟩
      have e0 : a.tmps[6]?.getD undef = .pointer (some ⟨px, 0, none⟩) := (RY.ev_tmp a 6).trans (d0.2.1.trans d0.2.2)
      exact Or.inl ⟨.pointer (some ⟨px, 0, none⟩), W, by simp [execOp, go_sem, e0], rfl, rfl, hX, hH, hU⟩
    | 2, ho =>
      injection ho with ho; subst ho
      have d0 := hd 1 _ 7 rfl rfl ⟨⟨1, .data⟩, by simp, rfl, rfl⟩
      have e0 : a.tmps[7]?.getD undef = .pointer (some ⟨px, 0, none⟩) := (RY.ev_tmp a 7).trans (d0.2.1.trans d0.2.2)
      exact Or.inl ⟨.pointer (some ⟨px, 0, none⟩), W, by simp [execOp, go_sem, e0], rfl, rfl, hX, hH, hU⟩
    | 3, ho =>
      injection ho with ho; subst ho
      have d0 := hd 2 _ 8 rfl rfl ⟨⟨2, .data⟩, by simp, rfl, rfl⟩
      have e0 : a.tmps[8]?.getD undef = .pointer (some ⟨px, 0, none⟩) := (RY.ev_tmp a 8).trans (d0.2.1.trans d0.2.2)
      exact Or.inl ⟨.pointer (some ⟨px, 2, none⟩), W, by simp [execOp, go_sem, e0], rfl, rfl, hX, hH, hU⟩
    | 4, ho =>
      injection ho with ho; subst ho
      have d0 := hd 3 _ 9 rfl rfl ⟨⟨3, .data⟩, by simp, rfl, rfl⟩
      have e0 : a.tmps[9]?.getD undef = .pointer (some ⟨px, 2, none⟩) := (RY.ev_tmp a 9).trans (d0.2.1.trans d0.2.2)
      exact Or.inl ⟨.slice (some ⟨g, 0, none⟩) n1 q1, W, by simp [execOp, go_sem, e0, x2], rfl, rfl, hX, hH, hU⟩
    | 5, ho =>
      injection ho with ho; subst ho
      have e0 : a.tmps[1]?.getD undef = .int .i64 (k : Nat) := (RY.ev_tmp a 1).trans ((hk' 1 (by kernel_rfl)).trans rfl)
      exact Or.inl ⟨.int .i64 (k : Nat), W, by simp [execOp, go_sem, e0], rfl, rfl, hX, hH, hU⟩
    | 6, ho =>
      injection ho with ho; subst ho
      have e0 : a.tmps[0]?.getD undef = .pointer (some ⟨px, 0, none⟩) := (RY.ev_tmp a 0).trans ((hk' 0 (by kernel_rfl)).trans rfl)
      exact Or.inl ⟨.pointer (some ⟨px, 0, none⟩), W, by simp [execOp, go_sem, e0], rfl, rfl, hX, hH, hU⟩
    | 7, ho =>
      injection ho with ho; subst ho
      have d0 := hd 6 _ 12 rfl rfl ⟨⟨6, .data⟩, by simp, rfl, rfl⟩
      have e0 : a.tmps[12]?.getD undef = .pointer (some ⟨px, 0, none⟩) := (RY.ev_tmp a 12).trans (d0.2.1.trans d0.2.2)
      exact Or.inl ⟨.pointer (some ⟨px, 0, none⟩), W, by simp [execOp, go_sem, e0], rfl, rfl, hX, hH, hU⟩
    | 8, ho =>
      injection ho with ho; subst ho
      have d0 := hd 7 _ 13 rfl rfl ⟨⟨7, .data⟩, by simp, rfl, rfl⟩
      have e0 : a.tmps[13]?.getD undef = .pointer (some ⟨px, 0, none⟩) := (RY.ev_tmp a 13).trans (d0.2.1.trans d0.2.2)
      exact Or.inl ⟨.pointer (some ⟨px, 0, none⟩), W, by simp [execOp, go_sem, e0], rfl, rfl, hX, hH, hU⟩
    | 9, ho =>
      injection ho with ho; subst ho
      have d0 := hd 8 _ 14 rfl rfl ⟨⟨8, .data⟩, by simp, rfl, rfl⟩
      have e0 : a.tmps[14]?.getD undef = .pointer (some ⟨px, 0, none⟩) := (RY.ev_tmp a 14).trans (d0.2.1.trans d0.2.2)
      exact Or.inl ⟨.pointer (some ⟨px, 2, none⟩), W, by simp [execOp, go_sem, e0], rfl, rfl, hX, hH, hU⟩
    | 10, ho =>
      injection ho with ho; subst ho
      have d0 := hd 9 _ 15 rfl rfl ⟨⟨9, .data⟩, by simp, rfl, rfl⟩
      have e0 : a.tmps[15]?.getD undef = .pointer (some ⟨px, 2, none⟩) := (RY.ev_tmp a 15).trans (d0.2.1.trans d0.2.2)
      exact Or.inl ⟨.slice (some ⟨g, 0, none⟩) n1 q1, W, by simp [execOp, go_sem, e0, x2], rfl, rfl, hX, hH, hU⟩
    | 11, ho =>
      injection ho with ho; subst ho
      have e0 : a.tmps[1]?.getD undef = .int .i64 (k : Nat) := (RY.ev_tmp a 1).trans ((hk' 1 (by kernel_rfl)).trans rfl)
      exact Or.inl ⟨.int .i64 (k : Nat), W, by simp [execOp, go_sem, e0], rfl, rfl, hX, hH, hU⟩
    | 12, ho =>
      injection ho with ho; subst ho
      have e0 : a.tmps[2]?.getD undef = .int .i64 st := (RY.ev_tmp a 2).trans ((hk' 2 (by kernel_rfl)).trans rfl)
      exact Or.inl ⟨.int .i64 st, W, by simp [execOp, go_sem, e0], rfl, rfl, hX, hH, hU⟩
    | 13, ho =>
      injection ho with ho; subst ho
      have e0 : a.tmps[0]?.getD undef = .pointer (some ⟨px, 0, none⟩) := (RY.ev_tmp a 0).trans ((hk' 0 (by kernel_rfl)).trans rfl)
      exact Or.inl ⟨.pointer (some ⟨px, 0, none⟩), W, by simp [execOp, go_sem, e0], rfl, rfl, hX, hH, hU⟩
    | 14, ho =>
      injection ho with ho; subst ho
      have d0 := hd 13 _ 19 rfl rfl ⟨⟨13, .data⟩, by simp, rfl, rfl⟩
      have e0 : a.tmps[19]?.getD undef = .pointer (some ⟨px, 0, none⟩) := (RY.ev_tmp a 19).trans (d0.2.1.trans d0.2.2)
      exact Or.inl ⟨.pointer (some ⟨px, 0, none⟩), W, by simp [execOp, go_sem, e0], rfl, rfl, hX, hH, hU⟩
    | 15, ho =>
      injection ho with ho; subst ho
      have d0 := hd 14 _ 20 rfl rfl ⟨⟨14, .data⟩, by simp, rfl, rfl⟩
      have e0 : a.tmps[20]?.getD undef = .pointer (some ⟨px, 0, none⟩) := (RY.ev_tmp a 20).trans (d0.2.1.trans d0.2.2)
      exact Or.inl ⟨.pointer (some ⟨px, 0, none⟩), W, by simp [execOp, go_sem, e0], rfl, rfl, hX, hH, hU⟩
    | 16, ho =>
      injection ho with ho; subst ho
      have d0 := hd 15 _ 21 rfl rfl ⟨⟨15, .data⟩, by simp, rfl, rfl⟩
      have e0 : a.tmps[21]?.getD undef = .pointer (some ⟨px, 0, none⟩) := (RY.ev_tmp a 21).trans (d0.2.1.trans d0.2.2)
      exact Or.inl ⟨.pointer (some ⟨px, 0, none⟩), W, by simp [execOp, go_sem, e0], rfl, rfl, hX, hH, hU⟩
    | 17, ho =>
      injection ho with ho; subst ho
      have d0 := hd 16 _ 22 rfl rfl ⟨⟨16, .data⟩, by simp, rfl, rfl⟩
      have e0 : a.tmps[22]?.getD undef = .pointer (some ⟨px, 0, none⟩) := (RY.ev_tmp a 22).trans (d0.2.1.trans d0.2.2)
      exact Or.inl ⟨.int .i64 now, W, by simp [execOp, go_sem, e0, x0], rfl, rfl, hX, hH, hU⟩
    | 18, ho =>
      injection ho with ho; subst ho
      have d0 := hd 4 _ 10 rfl rfl ⟨⟨4, .data⟩, by simp, rfl, rfl⟩
      have e0 : a.tmps[10]?.getD undef = .slice (some ⟨g, 0, none⟩) n1 q1 := (RY.ev_tmp a 10).trans (d0.2.1.trans d0.2.2)
      have d1 := hd 5 _ 11 rfl rfl ⟨⟨5, .data⟩, by simp, rfl, rfl⟩
      have e1 : a.tmps[11]?.getD undef = .int .i64 (k : Nat) := (RY.ev_tmp a 11).trans (d1.2.1.trans d1.2.2)
      exact Or.inl ⟨.pointer (some ⟨g, k * 7, none⟩), W, by simp [execOp, go_sem, e0, e1, hm0, hm3], rfl, rfl, hX, hH, hU⟩
    | 19, ho =>
      injection ho with ho; subst ho
      have d0 := hd 18 _ 24 rfl rfl ⟨⟨18, .data⟩, by simp, rfl, rfl⟩
      have e0 : a.tmps[24]?.getD undef = .pointer (some ⟨g, k * 7, none⟩) := (RY.ev_tmp a 24).trans (d0.2.1.trans d0.2.2)
      exact Or.inl ⟨.pointer (some ⟨g, k * 7 + 4, none⟩), W, by simp [execOp, go_sem, e0], rfl, rfl, hX, hH, hU⟩
    | 20, ho =>
      injection ho with ho; subst ho
      have d0 := hd 19 _ 25 rfl rfl ⟨⟨19, .data⟩, by simp, rfl, rfl⟩
      have e0 : a.tmps[25]?.getD undef = .pointer (some ⟨g, k * 7 + 4, none⟩) := (RY.ev_tmp a 25).trans (d0.2.1.trans d0.2.2)
      have d1 := hd 12 _ 18 rfl rfl ⟨⟨12, .data⟩, by simp, rfl, rfl⟩
      have e1 : a.tmps[18]?.getD undef = .int .i64 st := (RY.ev_tmp a 18).trans (d1.2.1.trans d1.2.2)
      have h23 : up 23 = false := by
        cases e : up 23
        · rfl
        · have := hU e; rw [hi] at this; cases this
      rw [hi, h23] at hH
      have hH : W.heap[g]? = some (.cells cur 81 (0, 0)) := hH
      have y : W.cell? ⟨g, k * 7 + 4, none⟩ = some (.int .i64 x.state) := by simp only [World.cell?, hH]; exact C4
      have fz : ∀ j, W.frozen? ⟨g, j, none⟩ = false := fun j => by simp [World.frozen?, hH]
      refine Or.inr (Or.inl ⟨W.setCell ⟨g, k * 7 + 4, none⟩ (.int .i64 st), by simp [execOp, go_sem, e0, e1, y, fz], rfl, hX.sc _ _, ?_, fun _ => rfl⟩)
      show _ = some (Obj.cells (cw k st now cur true ((23 == 20) || up 23)) _ _)
      rw [h23]
      exact heap_setCell_same W g _ _ _ _ hH
    | 21, ho =>
      injection ho with ho; subst ho
      have d0 := hd 10 _ 16 rfl rfl ⟨⟨10, .data⟩, by simp, rfl, rfl⟩
      have e0 : a.tmps[16]?.getD undef = .slice (some ⟨g, 0, none⟩) n1 q1 := (RY.ev_tmp a 16).trans (d0.2.1.trans d0.2.2)
      have d1 := hd 11 _ 17 rfl rfl ⟨⟨11, .data⟩, by simp, rfl, rfl⟩
      have e1 : a.tmps[17]?.getD undef = .int .i64 (k : Nat) := (RY.ev_tmp a 17).trans (d1.2.1.trans d1.2.2)
      exact Or.inl ⟨.pointer (some ⟨g, k * 7, none⟩), W, by simp [execOp, go_sem, e0, e1, hm0, hm3], rfl, rfl, hX, hH, hU⟩
    | 22, ho =>
      injection ho with ho; subst ho
      have d0 := hd 21 _ 26 rfl rfl ⟨⟨21, .data⟩, by simp, rfl, rfl⟩
      have e0 : a.tmps[26]?.getD undef = .pointer (some ⟨g, k * 7, none⟩) := (RY.ev_tmp a 26).trans (d0.2.1.trans d0.2.2)
      exact Or.inl ⟨.pointer (some ⟨g, k * 7 + 2, none⟩), W, by simp [execOp, go_sem, e0], rfl, rfl, hX, hH, hU⟩
    | 23, ho =>
      injection ho with ho; subst ho
      have d0 := hd 22 _ 27 rfl rfl ⟨⟨22, .data⟩, by simp, rfl, rfl⟩
      have e0 : a.tmps[27]?.getD undef = .pointer (some ⟨g, k * 7 + 2, none⟩) := (RY.ev_tmp a 27).trans (d0.2.1.trans d0.2.2)
      have d1 := hd 17 _ 23 rfl rfl ⟨⟨17, .data⟩, by simp, rfl, rfl⟩
      have e1 : a.tmps[23]?.getD undef = .int .i64 now := (RY.ev_tmp a 23).trans (d1.2.1.trans d1.2.2)
      have h20 : up 20 = true := hcl 22 _ ⟨20, .phase⟩ rfl (by simp) rfl d0.1
      rw [h20, hi] at hH
      have hH : W.heap[g]? = some (.cells (cur.setIfInBounds (k * 7 + 4) (.int .i64 st)) 81 (0, 0)) := hH
      have y : W.cell? ⟨g, k * 7 + 2, none⟩ = some (.int .i64 x.ver) := by
        simp only [World.cell?, hH]
        rw [Array.getElem?_setIfInBounds_ne (by omega)]
        exact C2
      have fz : ∀ j, W.frozen? ⟨g, j, none⟩ = false := fun j => by simp [World.frozen?, hH]
      refine Or.inr (Or.inl ⟨W.setCell ⟨g, k * 7 + 2, none⟩ (.int .i64 now), by simp [execOp, go_sem, e0, e1, y, fz], rfl, hX.sc _ _, ?_, fun _ => ?_⟩)
      · show _ = some (Obj.cells (cw k st now cur ((20 == 23) || up 20) true) _ _)
        exact heap_setCell_same W g _ _ _ _ hH
      · show ((20 == 23) || up 20) = true
        rw [h20]; rfl
    | n + 24, ho => simp at ho
  · intro up vals vs W hall hv hT
    have h20 := hall 20 (by decide)
    have h23 := hall 23 (by decide)
    obtain ⟨hX, hH, _⟩ := hT
    rw [h20, h23] at hH
    simp only [RY.putAll, Act.put, List.setIfInBounds_toArray, List.set_cons_zero, List.set_cons_succ]
    go_wp2
    first | go_end0 | refine bodyPost_ret (results_none rfl _ _ _) rfl ?_
    exact ⟨rfl, HR.out W hX hH, g, rfl, hX⟩

end Go.Proofs.YtclagbakddkjcaaGreat
