/-
  The law of covering: the region in which the rule is put behind the rules.
-/
import Derived.Deep.DeepCutAuto
import Derived.Maps.AppendAt
import Derived.Test.YtfmidkdpclfffaaDoorLawCA
import Derived.Test.YtfmidkdpclfffaaDoorRel
import Derived.Test.YtfmidkdpclfffaaDoorWalkSD
namespace Go.Proofs.YtfmidkdpclfffaaDoor
open Go.RowKit Go.Deep

def ops10 : List Oper := [{ dst := some 67, op := Op.move (Operand.tmp 5), type := 23, pos := "laws.go:329", after := #[], guard := none }, { dst := some 68, op := Op.buildSlice 24 0 #[], type := 24, pos := "laws.go:329", after := #[], guard := none }, { dst := some 69, op := Op.move (Operand.tmp 6), type := 24, pos := "laws.go:329", after := #[], guard := none }, { dst := some 70, op := Op.call { callee := Callee.builtin Builtin.append, args := #[Operand.tmp 68, Operand.tmp 69], argTypes := #[24, 24] }, type := 24, pos := "laws.go:329", after := #[{ on := 1, ground := Ground.data }, { on := 2, ground := Ground.data }], guard := none }, { dst := some 71, op := Op.load 27 (Operand.tmp 7), type := 27, pos := "laws.go:329", after := #[], guard := none }, { dst := some 72, op := Op.buildSlice 24 1 #[(0, Operand.tmp 71)], type := 24, pos := "laws.go:329", after := #[{ on := 4, ground := Ground.data }], guard := none }, { dst := some 73, op := Op.call { callee := Callee.builtin Builtin.append, args := #[Operand.tmp 70, Operand.tmp 72], argTypes := #[24, 24] }, type := 24, pos := "laws.go:329", after := #[{ on := 3, ground := Ground.data }, { on := 5, ground := Ground.data }, { on := 3, ground := Ground.chain }], guard := none }, { dst := some 74, op := Op.load 27 (Operand.tmp 7), type := 27, pos := "laws.go:329", after := #[], guard := none }, { dst := some 75, op := Op.call { callee := Callee.value (Operand.func 5), args := #[Operand.tmp 67, Operand.tmp 73, Operand.tmp 74], argTypes := #[23, 24, 27] }, type := 4, pos := "laws.go:329", after := #[{ on := 0, ground := Ground.data }, { on := 6, ground := Ground.data }, { on := 7, ground := Ground.data }, { on := 6, ground := Ground.chain }], guard := none }, { dst := some 11, op := Op.assign (Operand.tmp 75), type := 4, pos := "laws.go:329", after := #[{ on := 8, ground := Ground.data }, { on := 8, ground := Ground.chain }, { on := 0, ground := Ground.phase }, { on := 1, ground := Ground.phase }, { on := 2, ground := Ground.phase }, { on := 3, ground := Ground.phase }, { on := 4, ground := Ground.phase }, { on := 5, ground := Ground.phase }, { on := 6, ground := Ground.phase }, { on := 7, ground := Ground.phase }, { on := 8, ground := Ground.phase }], guard := none }]

/-- What stands while the region goes on. -/
structure T10 (s : Nat) (cs : Array Value) (rs : List Rul) (r : Rul) (LL : List RX) (L : Array Bool) (a : Act) (W : World) : Prop where
  t1 : L.getD 1 false = true → L.getD 3 false = false → W.ownsRow s 27 4 (a.eval (.tmp 68)) 0 [] ∧ a.eval (.tmp 68) ≠ .slice none 0 0
  t3 : L.getD 3 false = true → L.getD 6 false = false → W.ownsRow s 27 4 (a.eval (.tmp 70)) rs.length (cellsR LL) ∧ a.eval (.tmp 70) ≠ .slice none 0 0
  t5 : L.getD 5 false = true → L.getD 6 false = false → ∃ g5, a.eval (.tmp 72) = .slice (some ⟨g5, 0, none⟩) 1 1 ∧ Boxed W g5 cs ∧ (L.getD 3 false = false → L.getD 1 false = true → (a.eval (.tmp 68)).ownBlock ≠ some g5)
  t6 : L.getD 6 false = true → ∃ g6 c6, a.eval (.tmp 73) = .slice (some ⟨g6, 0, none⟩) (rs ++ [r]).length c6 ∧ RulsIn W g6 (rs ++ [r])

theorem T10.later {s : Nat} {cs : Array Value} {rs : List Rul} {r : Rul} {LL : List RX} {L : Array Bool} {a : Act} {W W' : World} (h : T10 s cs rs r LL L a W) (hb : Below W.heap.size W W') {i k : Nat} {u : Value} (i1 : i ≠ 1) (i3 : i ≠ 3) (i5 : i ≠ 5) (i6 : i ≠ 6) (k1 : k ≠ 68) (k3 : k ≠ 70) (k5 : k ≠ 72) (k6 : k ≠ 73) :
    T10 s cs rs r LL (L.setIfInBounds i true) (a.put (some k) u) W' := by
  have e1 : (L.setIfInBounds i true).getD 1 false = L.getD 1 false := getD_set_ne false i1
  have e3 : (L.setIfInBounds i true).getD 3 false = L.getD 3 false := getD_set_ne false i3
  have e5 : (L.setIfInBounds i true).getD 5 false = L.getD 5 false := getD_set_ne false i5
  have e6 : (L.setIfInBounds i true).getD 6 false = L.getD 6 false := getD_set_ne false i6
  constructor
  · rw [e1, e3, RY.put_else _ _ _ _ k1]
    exact fun p q => ⟨owns_later (h.t1 p q).1 hb, (h.t1 p q).2⟩
  · rw [e3, e6, RY.put_else _ _ _ _ k3]
    exact fun p q => ⟨owns_later (h.t3 p q).1 hb, (h.t3 p q).2⟩
  · rw [e5, e6, e3, e1, RY.put_else _ _ _ _ k5, RY.put_else _ _ _ _ k1]
    intro p q
    obtain ⟨g5, x, y, z⟩ := h.t5 p q
    exact ⟨g5, x, y.later hb, z⟩
  · rw [e6, RY.put_else _ _ _ _ k6]
    intro p
    obtain ⟨g6, c6, x, y⟩ := h.t6 p
    exact ⟨g6, c6, x, y.later hb⟩

/-- What each operation yields. -/
def V10c (tv rv qv : Value) (an : Bool) : Nat → Value → Prop
  | 0, v => v = tv
  | 2, v => v = rv
  | 4, v => v = qv
  | 7, v => v = qv
  | 8, v => v = .bool an
  | 9, v => v = .bool an
  | _, _ => True
def V10 (tv rv qv : Value) (an : Bool) (j : Nat) (v : Value) (_ : World) : Prop := V10c tv rv qv an j v
theorem V10_mono (tv rv qv : Value) (an : Bool) (W W' : World) : ∀ j v, V10 tv rv qv an j v W → V10 tv rv qv an j v W' := by
  intro j v h
  exact h

theorem cellsR_len (L : List RX) : (cellsR L).length = L.length * 4 := by
  unfold cellsR
  induction L with
  | nil => rfl
  | cons x xs ih => simp [ih]; omega
theorem cellsR_one (L : List RX) : ∀ u ∈ cellsR L, u.oneCell' = true := by
  intro u hu
  unfold cellsR at hu
  obtain ⟨x, _, hx⟩ := List.mem_flatMap.1 hu
  simp at hx
  rcases hx with rfl | rfl | rfl | rfl <;> rfl

theorem exec_append {P : Program} {o : Oper} {a : Act} {W W' : World} {v x v' : Value} (s y : Operand) (t : TypeId) (hop : o.op = Op.call { callee := Callee.builtin Builtin.append, args := #[s, y], argTypes := #[t, t] }) (hs : a.eval s = v) (hx : a.eval y = x)
    (hrun : (Builtin.append_ #[t, t] o.type #[v, x]).run P W = .ok v' W') : (execOp a.eval o).run P W = .ok (.value v') W' := by
  simp [execOp, hop, resolve, invoke, builtin, hs, hx, hrun, Result.andThen]

set_option maxHeartbeats 4000000 in
theorem region10 (bt ct g cap b c Q : Nat) (ts : List Tm) (rs : List Rul) (r : Rul) (a0 : Act) (W : World) (K : Exit → Act → World → Prop) (hz : a0.tmps.size = 137) (h5 : a0.eval (.tmp 5) = .slice (some ⟨bt, 0, none⟩) ts.length ct) (h6 : a0.eval (.tmp 6) = .slice (some ⟨g, 0, none⟩) rs.length cap) (h7 : a0.eval (.tmp 7) = .pointer (some ⟨Q, 0, none⟩))
    (hT : TmsIn W bt ts) (hR : RulsIn W g rs) (hI : IntsIn W b r.verbs) (hs : r.sized) (hl : rs.length ≤ 100) (hQ : Boxed W Q #[.slice (some ⟨b, 0, none⟩) r.verbs.length c, .string r.kind, .string r.team, .string r.pre])
    (hK : ∀ (W' : World) (vs : Nat → Value), Below W.heap.size W W' → vs 11 = .bool (allOk ts rs r) → K .normal (RY.putAll ops10 a0 vs) W') :
    (Code.region 10 ops10.toArray true).wp Tryd.prog K a0 W := by
  obtain ⟨LL, hLm, hLl, hLc, hLi⟩ := ruls_list hR
  obtain ⟨i0, hi0, hz0, hz1, hz2⟩ := info_parts Tryd.info27
  have hap : RY.apartB ops10 = true := by kernel_rfl
  have hpl : RY.plainB ops10 a0.tmps.size = true := by rw [hz]; kernel_rfl
  have hm0 := V10_mono (.slice (some ⟨bt, 0, none⟩) ts.length ct) (.slice (some ⟨g, 0, none⟩) rs.length cap) (.agg #[.slice (some ⟨b, 0, none⟩) r.verbs.length c, .string r.kind, .string r.team, .string r.pre]) (allOk ts rs r)
  refine wp_region_any (by kernel_rfl) ?_
  refine RY.wpAny_inv (fun L a X => RY.RInv ops10 a0 (fun _ X => Below W.heap.size W X) (V10 (.slice (some ⟨bt, 0, none⟩) ts.length ct) (.slice (some ⟨g, 0, none⟩) rs.length cap) (.agg #[.slice (some ⟨b, 0, none⟩) r.verbs.length c, .string r.kind, .string r.team, .string r.pre]) (allOk ts rs r)) L a X ∧ T10 W.heap.size #[.slice (some ⟨b, 0, none⟩) r.verbs.length c, .string r.kind, .string r.team, .string r.pre] rs r LL L a X) ?_ ?_ _ _ _ _ ?_ (RY.Closed.none _ (RY.rep_none _)) ?_
  · intro L a X i h hc hi
    obtain ⟨hi1, o, ho, hall⟩ := mem_ready.1 hi
    have hB : Below W.heap.size W X := h.1.cw
    have x5 : a.eval (.tmp 5) = .slice (some ⟨bt, 0, none⟩) ts.length ct := (h.1.keep (k := 5) (by kernel_rfl)).trans h5
    have x6 : a.eval (.tmp 6) = .slice (some ⟨g, 0, none⟩) rs.length cap := (h.1.keep (k := 6) (by kernel_rfl)).trans h6
    have x7 : a.eval (.tmp 7) = .pointer (some ⟨Q, 0, none⟩) := (h.1.keep (k := 7) (by kernel_rfl)).trans h7
    have hq := hQ.later hB
    have ho' : ops10[i]? = some o := by simpa using ho
    match i, ho', hi1 with
    | 0, ho', hi1 =>
      injection ho' with ho'; subst ho'
      refine RY.wpOp_value rfl rfl (v := .slice (some ⟨bt, 0, none⟩) ts.length ct) (w' := X) (by simp [execOp, ops10, go_sem, (RY.ev_tmp a 5).trans x5]) ⟨h.1.step hap hpl (i := 0) rfl hi1 hB (hm0 _ _) (fun _ => rfl), h.2.later (Below.refl _ _) (i := 0) (k := 67) (by decide) (by decide) (by decide) (by decide) (by decide) (by decide) (by decide) (by decide)⟩
    | 2, ho', hi1 =>
      injection ho' with ho'; subst ho'
      refine RY.wpOp_value rfl rfl (v := .slice (some ⟨g, 0, none⟩) rs.length cap) (w' := X) (by simp [execOp, ops10, go_sem, (RY.ev_tmp a 6).trans x6]) ⟨h.1.step hap hpl (i := 2) rfl hi1 hB (hm0 _ _) (fun _ => rfl), h.2.later (Below.refl _ _) (i := 2) (k := 69) (by decide) (by decide) (by decide) (by decide) (by decide) (by decide) (by decide) (by decide)⟩
    | 4, ho', hi1 =>
      injection ho' with ho'; subst ho'
      refine RY.wpOp_value rfl rfl (v := .agg #[.slice (some ⟨b, 0, none⟩) r.verbs.length c, .string r.kind, .string r.team, .string r.pre]) (w' := X) ?_ ⟨h.1.step hap hpl (i := 4) rfl hi1 hB (hm0 _ _) (fun _ => rfl), h.2.later (Below.refl _ _) (i := 4) (k := 71) (by decide) (by decide) (by decide) (by decide) (by decide) (by decide) (by decide) (by decide)⟩
      have p0 : X.cell? ⟨Q, 0, none⟩ = some (.slice (some ⟨b, 0, none⟩) r.verbs.length c) := hq.2 0
      have p1 : X.cell? ⟨Q, 1, none⟩ = some (.string r.kind) := hq.2 1
      have p2 : X.cell? ⟨Q, 2, none⟩ = some (.string r.team) := hq.2 2
      have p3 : X.cell? ⟨Q, 3, none⟩ = some (.string r.pre) := hq.2 3
      simp [execOp, ops10, go_sem, (RY.ev_tmp a 7).trans x7, p0, p1, p2, p3]
    | 7, ho', hi1 =>
      injection ho' with ho'; subst ho'
      refine RY.wpOp_value rfl rfl (v := .agg #[.slice (some ⟨b, 0, none⟩) r.verbs.length c, .string r.kind, .string r.team, .string r.pre]) (w' := X) ?_ ⟨h.1.step hap hpl (i := 7) rfl hi1 hB (hm0 _ _) (fun _ => rfl), h.2.later (Below.refl _ _) (i := 7) (k := 74) (by decide) (by decide) (by decide) (by decide) (by decide) (by decide) (by decide) (by decide)⟩
      have p0 : X.cell? ⟨Q, 0, none⟩ = some (.slice (some ⟨b, 0, none⟩) r.verbs.length c) := hq.2 0
      have p1 : X.cell? ⟨Q, 1, none⟩ = some (.string r.kind) := hq.2 1
      have p2 : X.cell? ⟨Q, 2, none⟩ = some (.string r.team) := hq.2 2
      have p3 : X.cell? ⟨Q, 3, none⟩ = some (.string r.pre) := hq.2 3
      simp [execOp, ops10, go_sem, (RY.ev_tmp a 7).trans x7, p0, p1, p2, p3]
    | 1, ho', hi1 =>
      injection ho' with ho'; subst ho'
      have hb : Below X.heap.size X (X.alloc (.cells #[] 27)) := blw_alloc (Below.refl _ _) _
      have hz68 : 68 < a.tmps.size := by rw [h.1.sz, hz]; decide
      refine RY.wpOp_value rfl rfl (v := .slice (some ⟨X.heap.size, 0, none⟩) 0 0) (w' := X.alloc (.cells #[] 27)) (by simp [execOp, ops10, go_sem]) ⟨h.1.step hap hpl (i := 1) rfl hi1 (blw_trans hB hb) (hm0 _ _) (fun _ => trivial), ?_⟩
      show T10 _ _ _ _ _ _ (a.put (some 68) _) _
      have n6 : L.getD 6 false = false := by
        cases e : L.getD 6 false
        · rfl
        · have z3 := hc 6 _ ⟨3, .data⟩ rfl (by simp [ops10]) rfl e
          have z1 := hc 3 _ ⟨1, .data⟩ rfl (by simp [ops10]) rfl z3
          rw [RY.getD_flip hi1] at z1; cases z1
      constructor
      · intro _ _
        rw [RY.put_same _ _ _ hz68]
        exact ⟨World.ownsRow_made X #[] 0 hB.size (by decide) rfl, by simp⟩
      · rw [getD_set_ne false (by decide), RY.put_else _ _ _ _ (by decide)]
        intro p
        have z1 := hc 3 _ ⟨1, .data⟩ rfl (by simp [ops10]) rfl p
        rw [RY.getD_flip hi1] at z1; cases z1
      · rw [getD_set_ne false (by decide), RY.put_else _ _ _ _ (by decide)]
        intro p _
        obtain ⟨g5, x, y, z⟩ := h.2.t5 p n6
        refine ⟨g5, x, y.later hb, fun _ _ => ?_⟩
        rw [RY.put_same _ _ _ hz68]
        have := y.1
        simp [Value.ownBlock]
        omega
      · rw [getD_set_ne false (by decide), n6]
        intro p; cases p
    | 5, ho', hi1 =>
      injection ho' with ho'; subst ho'
      have hb : Below X.heap.size X (X.alloc (.cells #[.slice (some ⟨b, 0, none⟩) r.verbs.length c, .string r.kind, .string r.team, .string r.pre] 27)) := blw_alloc (Below.refl _ _) _
      have hz72 : 72 < a.tmps.size := by rw [h.1.sz, hz]; decide
      have e71 : a.eval (.tmp 71) = .agg #[.slice (some ⟨b, 0, none⟩) r.verbs.length c, .string r.kind, .string r.team, .string r.pre] := h.1.new 4 _ 71 rfl rfl (hall ⟨4, .data⟩ (by simp) rfl)
      refine RY.wpOp_value rfl rfl (v := .slice (some ⟨X.heap.size, 0, none⟩) 1 1) (w' := X.alloc (.cells #[.slice (some ⟨b, 0, none⟩) r.verbs.length c, .string r.kind, .string r.team, .string r.pre] 27)) (by simp [execOp, ops10, go_sem, (RY.ev_tmp a 71).trans e71]) ⟨h.1.step hap hpl (i := 5) rfl hi1 (blw_trans hB hb) (hm0 _ _) (fun _ => trivial), ?_⟩
      show T10 _ _ _ _ _ _ (a.put (some 72) _) _
      constructor
      · rw [getD_set_ne false (by decide), getD_set_ne false (by decide), RY.put_else _ _ _ _ (by decide)]
        exact fun p q => ⟨owns_later (h.2.t1 p q).1 hb, (h.2.t1 p q).2⟩
      · rw [getD_set_ne false (by decide), getD_set_ne false (by decide), RY.put_else _ _ _ _ (by decide)]
        exact fun p q => ⟨owns_later (h.2.t3 p q).1 hb, (h.2.t3 p q).2⟩
      · intro _ _
        rw [RY.put_same _ _ _ hz72]
        refine ⟨_, rfl, Boxed.new X _ 27, ?_⟩
        rw [getD_set_ne false (by decide), getD_set_ne false (by decide), RY.put_else _ _ _ _ (by decide)]
        intro p q e
        have := World.ownsRow.lt (h.2.t1 q p).1 _ e
        omega
      · rw [getD_set_ne false (by decide), RY.put_else _ _ _ _ (by decide)]
        intro p
        have z5 := hc 6 _ ⟨5, .data⟩ rfl (by simp [ops10]) rfl p
        rw [RY.getD_flip hi1] at z5; cases z5
    | 3, ho', hi1 =>
      injection ho' with ho'; subst ho'
      have hz70 : 70 < a.tmps.size := by rw [h.1.sz, hz]; decide
      have u1 := hall ⟨1, .data⟩ (by simp) rfl
      have e69 : a.eval (.tmp 69) = .slice (some ⟨g, 0, none⟩) rs.length cap := h.1.new 2 _ 69 rfl rfl (hall ⟨2, .data⟩ (by simp) rfl)
      have n3 := RY.getD_flip hi1
      obtain ⟨w1, w2⟩ := h.2.t1 u1 n3
      have n6 : L.getD 6 false = false := by
        cases e : L.getD 6 false
        · rfl
        · have z3 := hc 6 _ ⟨3, .data⟩ rfl (by simp [ops10]) rfl e
          rw [n3] at z3; cases z3
      have hgl := hR.lt
      obtain ⟨v', X', hrun, r1, r2, r3⟩ := run_append_own (P := Tryd.prog) X W.heap.size 24 24 27 i0 (.agg #[.slice none 0 0, .string ByteArray.empty, .string ByteArray.empty, .string ByteArray.empty]) 4 72 Tryd.underlying24 hi0 hz0 hz1 hz2 rfl (by decide) (a.eval (.tmp 68)) 0 [] w1 ⟨g, 0, none⟩ rs.length cap (cellsR LL) (by rw [cellsR_len, hLl]) (fun j u hj => by rw [Addr.add_lit, Nat.zero_add, hB.cell (p := ⟨g, j, none⟩) hgl]; exact hLc j u hj) (cellsR_one LL) (by unfold maxLen; omega) (by omega) hB.size
      have hb : Below W.heap.size W X' := hB.grown r2 hB.size fun k hk => (World.ownsRow.lt w1 k hk).1
      refine RY.wpOp_value rfl rfl (v := v') (w' := X') (exec_append (.tmp 68) (.tmp 69) 24 rfl rfl e69 hrun) ⟨h.1.step hap hpl (i := 3) rfl hi1 hb (hm0 _ _) (fun _ => trivial), ?_⟩
      show T10 _ _ _ _ _ _ (a.put (some 70) _) _
      constructor
      · intro _ q
        rw [RY.set_here hi1] at q; cases q
      · intro _ _
        rw [RY.put_same _ _ _ hz70]
        rw [Nat.zero_add, List.nil_append] at r1
        exact ⟨r1, fun e => w2 (r3.1 e).1⟩
      · rw [getD_set_ne false (by decide), RY.put_else _ _ _ _ (by decide)]
        intro p _
        obtain ⟨g5, x, y, z⟩ := h.2.t5 p n6
        refine ⟨g5, x, ⟨Nat.lt_of_lt_of_le y.1 r2.size, fun o => ?_⟩, fun q => ?_⟩
        · rw [← y.2 o]
          exact World.cell?_of_block (w := X) (r2.block g5 y.1 (fun e => z n3 u1 e.symm))
        · rw [RY.set_here hi1] at q; cases q
      · rw [getD_set_ne false (by decide), n6]
        intro p; cases p
    | 6, ho', hi1 =>
      injection ho' with ho'; subst ho'
      have hz73 : 73 < a.tmps.size := by rw [h.1.sz, hz]; decide
      have u3 := hall ⟨3, .data⟩ (by simp) rfl
      have u5 := hall ⟨5, .data⟩ (by simp) rfl
      have n6 := RY.getD_flip hi1
      obtain ⟨w1, w2⟩ := h.2.t3 u3 n6
      obtain ⟨g5, e72, y, _⟩ := h.2.t5 u5 n6
      obtain ⟨v', X', hrun, r1, r2, r3⟩ := run_append_own (P := Tryd.prog) X W.heap.size 24 24 27 i0 (.agg #[.slice none 0 0, .string ByteArray.empty, .string ByteArray.empty, .string ByteArray.empty]) 4 72 Tryd.underlying24 hi0 hz0 hz1 hz2 rfl (by decide) (a.eval (.tmp 70)) rs.length (cellsR LL) w1 ⟨g5, 0, none⟩ 1 1 [.slice (some ⟨b, 0, none⟩) r.verbs.length c, .string r.kind, .string r.team, .string r.pre] rfl (fun j u hj => by rw [Addr.add_lit, Nat.zero_add, y.2 j]; simpa using hj) (by intro u hu; simp at hu; rcases hu with rfl | rfl | rfl | rfl <;> rfl) (by unfold maxLen; omega) (by omega) hB.size
      have hb : Below W.heap.size W X' := hB.grown r2 hB.size fun k hk => (World.ownsRow.lt w1 k hk).1
      refine RY.wpOp_value rfl rfl (v := v') (w' := X') (exec_append (.tmp 70) (.tmp 72) 24 rfl rfl e72 hrun) ⟨h.1.step hap hpl (i := 6) rfl hi1 hb (hm0 _ _) (fun _ => trivial), ?_⟩
      show T10 _ _ _ _ _ _ (a.put (some 73) _) _
      constructor
      · intro _ q
        rw [getD_set_ne false (by decide), u3] at q; cases q
      · intro _ q
        rw [RY.set_here hi1] at q; cases q
      · intro _ q
        rw [RY.set_here hi1] at q; cases q
      · intro _
        rw [RY.put_same _ _ _ hz73]
        have hcs := fun gg (e : v'.ownBlock = some gg) => World.ownsRow.cells r1 e
        have hlt := fun gg (e : v'.ownBlock = some gg) => World.ownsRow.lt r1 gg e
        rcases r1.2 with ⟨e, _⟩ | ⟨g6, c6, cur, rfl, _⟩
        · exact absurd (r3.1 e).1 w2
        · refine ⟨g6, c6, by simp, (hlt g6 rfl).2, by simp; omega, fun i hi => ?_⟩
          have hcc := hcs g6 rfl
          have eL : cellsR LL ++ [.slice (some ⟨b, 0, none⟩) r.verbs.length c, .string r.kind, .string r.team, .string r.pre] = cellsR (LL ++ [(b, c, r)]) := (cellsR_app LL (b, c, r)).symm
          rw [eL] at hcc
          have eM : rs ++ [r] = (LL ++ [(b, c, r)]).map fun x => x.2.2 := by simp [hLm]
          rw [eM] at hi ⊢
          have hi' : i < (LL ++ [(b, c, r)]).length := by simpa using hi
          obtain ⟨g0, g1, g2, g3⟩ := cellsR_at (LL ++ [(b, c, r)]) i hi'
          have a0 := hcc _ _ g0
          have a1 := hcc _ _ g1
          have a2 := hcc _ _ g2
          have a3 := hcc _ _ g3
          rw [Addr.add_lit, Nat.zero_add] at a0 a1 a2 a3
          have e : ((LL ++ [(b, c, r)]).map fun x => x.2.2).getD i Rul.none = (LL ++ [(b, c, r)])[i].2.2 := by
            rw [List.getD_eq_getElem?_getD, List.getElem?_map, List.getElem?_eq_getElem hi']; rfl
          rw [e]
          have hr : ∀ x ∈ LL ++ [(b, c, r)], IntsIn X' x.1 x.2.2.verbs ∧ x.2.2.sized := fun x hx => by
            rcases List.mem_append.1 hx with hx | hx
            · exact ⟨(hLi x hx).1.later hb, (hLi x hx).2⟩
            · simp at hx; subst hx; exact ⟨hI.later hb, hs⟩
          have hr := hr _ (List.getElem_mem hi')
          exact ⟨_, _, a0, a1, a2, a3, hr.1, hr.2⟩
    | 8, ho', hi1 =>
      injection ho' with ho'; subst ho'
      have e67 : a.eval (.tmp 67) = .slice (some ⟨bt, 0, none⟩) ts.length ct := h.1.new 0 _ 67 rfl rfl (hall ⟨0, .data⟩ (by simp) rfl)
      have e74 : a.eval (.tmp 74) = .agg #[.slice (some ⟨b, 0, none⟩) r.verbs.length c, .string r.kind, .string r.team, .string r.pre] := h.1.new 7 _ 74 rfl rfl (hall ⟨7, .data⟩ (by simp) rfl)
      obtain ⟨g6, c6, e73, hR6⟩ := h.2.t6 (hall ⟨6, .data⟩ (by simp) rfl)
      have key := (coversI (CT := ct) (CR := c6) (CV := c) bt g6 b ts (rs ++ [r]) r X (hT.later hB) hR6 (hI.later hB) hs)
      rw [cov_self] at key
      refine RY.wpOp_enter rfl rfl (f := 5) (args := #[.slice (some ⟨bt, 0, none⟩) ts.length ct, .slice (some ⟨g6, 0, none⟩) (rs ++ [r]).length c6, .agg #[.slice (some ⟨b, 0, none⟩) r.verbs.length c, .string r.kind, .string r.team, .string r.pre]]) (by simp [execOp, ops10, go_sem, (RY.ev_tmp a 67).trans e67, (RY.ev_tmp a 73).trans e73, (RY.ev_tmp a 74).trans e74]) (key.mono ?_)
      rintro e X' ⟨rfl, hb⟩
      exact ⟨_, rfl, h.1.step hap hpl (i := 8) rfl hi1 (blw_trans hB hb) (hm0 _ _) (fun _ => rfl), h.2.later hb (i := 8) (k := 75) (by decide) (by decide) (by decide) (by decide) (by decide) (by decide) (by decide) (by decide)⟩
    | 9, ho', hi1 =>
      injection ho' with ho'; subst ho'
      have e75 : a.eval (.tmp 75) = .bool (allOk ts rs r) := h.1.new 8 _ 75 rfl rfl (hall ⟨8, .data⟩ (by simp) rfl)
      refine RY.wpOp_value rfl rfl (v := .bool (allOk ts rs r)) (w' := X) (by simp [execOp, ops10, go_sem, (RY.ev_tmp a 75).trans e75]) ⟨h.1.step hap hpl (i := 9) rfl hi1 hB (hm0 _ _) (fun _ => rfl), h.2.later (Below.refl _ _) (i := 9) (k := 11) (by decide) (by decide) (by decide) (by decide) (by decide) (by decide) (by decide) (by decide)⟩
    | n + 10, ho', _ => simp [ops10] at ho'
  · intro L a X h hr
    have hall : ∀ i, i < ops10.length → L.getD i false = true := fun i hi => RY.all_up hr (by kernel_rfl) (by simpa using h.1.len) i (by simpa using hi)
    have e : a = RY.putAll ops10 a0 (fun k => a.eval (.tmp k)) := by
      have hs : ∀ o ∈ ops10, ∀ q, o.dst = some q → q < a0.tmps.size := fun o ho q hq => by
        obtain ⟨i, hi⟩ := List.getElem?_of_mem ho
        exact (RY.plain_spec hpl hi).2 q hq
      refine RY.act_ext (by rw [RY.putAll_defers]; exact h.1.df) (by rw [RY.putAll_size]; exact h.1.sz) fun k => ?_
      rw [RY.putAll_eval ops10 a0 _ k hs]
      by_cases hk : ∃ o ∈ ops10, o.dst = some k
      · rw [if_pos hk]
      · rw [if_neg hk]
        refine h.1.old k fun i o hi hd => absurd ⟨o, List.mem_of_getElem? hi, hd⟩ hk
    have hw := hK X (fun k => a.eval (.tmp k)) h.1.cw (h.1.new 9 _ 11 rfl rfl (hall 9 (by decide)))
    rw [← e] at hw
    exact hw
  · refine ⟨⟨by simp, Below.drew (Below.refl _ _), rfl, rfl, fun _ _ => rfl, fun i o k hi _ hl => ?_⟩, ?_, ?_, ?_, ?_⟩
    · rw [RY.rep_none] at hl; cases hl
    all_goals intro p; rw [RY.rep_none] at p; cases p
  · unfold RY.left
    exact Nat.le_trans List.countP_le_length (by simp)

end Go.Proofs.YtfmidkdpclfffaaDoor
