/-
  Stewards: an act that is being done, behind Insert and Delete.
-/
import Derived.Test.YtpamkibnahhphaaGreatDoorSlI
import Derived.Test.YtpamkibnahhphaaGreatDoorIaC
namespace Go.Proofs.YtpamkibnahhphaaGreatDoor
open Go.RowKit Go.Deep

theorem step_append_runJ {P : Program} {ops : Array Oper} {o : Oper} {a : Act} {w : World} {K : Act → World → Prop} {Q : Exit → Act → World → Prop} {E : Prop}
    (hg : o.guard = none) (d x : Operand) (dT sT : TypeId) (hop : o.op = Op.call { callee := Callee.builtin Builtin.append, args := #[d, x], argTypes := #[dT, sT] })
    (v u : Value) (hd : a.eval d = v) (hx : a.eval x = u) {v' : Value} {w' : World} (hr : (Builtin.append_ #[dT, sT] o.type #[v, u]).run P w = .ok v' w') (hK : K (a.put o.dst v') w') :
    if Region.wanted o (yielded ops a.tmps) = true then Oper.wp P o a w K Q else E := by
  have hw : Region.wanted o (yielded ops a.tmps) = true := by simp [Region.wanted, hg]
  rw [if_pos hw]
  unfold Oper.wp
  simp [execOp, hop, resolve, invoke, builtin, hd, hx, hr, Result.andThen]
  exact hK
theorem wpList_clear_runJ {P : Program} (w : World) {ops : Array Oper} {rest : List Oper} {o : Oper} {a : Act} {Q : Exit → Act → World → Prop} (hgd : o.guard = none) (d : Operand) (t : TypeId)
    (ho : o.op = .call { callee := .builtin .clear, args := #[d], argTypes := #[t] }) (v : Value) (hd : a.eval d = v) {v' : Value} {w' : World}
    (hr : (Builtin.clear_ #[t] o.type #[v]).run P w = .ok v' w') (h : wpList P ops Q rest (a.put o.dst v') w') : wpList P ops Q (o :: rest) a w := by
  refine wpList_plain hgd fun K hK => ?_
  unfold Oper.wp execOp
  simp only [ho, resolve, invoke, builtin, Sem.run_bind, Sem.run_pure, Result.andThen_ok, List.map_toArray, List.map_cons, List.map_nil, hd, hr]
  exact hK _ _ h

theorem zc_len (cs : Array Value) (n : Nat) : (Builtin.zeroCells cs n).toList.length = n * cs.size := by rw [Array.length_toList, size_zeroCells]

set_option maxRecDepth 8000 in
set_option maxHeartbeats 8000000 in
theorem delI (lo : Nat) (W : World) (g n q : Nat) (xs : List Value) (h : W.ownsRow lo 86 13 (.slice (some ⟨g, 0, none⟩) n q) n xs) (hx1 : ∀ u ∈ xs, u.oneCell' = true) (k : Nat) (hk : k < n) (hn : n ≤ 1048576) :
    Calls Tryz.prog 101 #[.slice (some ⟨g, 0, none⟩) n q, .int .i64 (k : Nat), .int .i64 ((k : Int) + 1)] W fun e W' => e = .returned (.slice (some ⟨g, 0, none⟩) (n - 1) q) ∧ W'.ownsRow lo 86 13 (.slice (some ⟨g, 0, none⟩) (n - 1) q) (n - 1) (xs.take (k * 13) ++ xs.drop ((k + 1) * 13)) ∧ BelO (some ⟨g, 0, none⟩) W W' := by
  obtain ⟨hxl, hrow⟩ := h
  rcases hrow with ⟨e, _⟩ | ⟨g', cap, cur, e, hlo, hg, hcap, hcm, hcs, htk⟩
  · cases e
  cases e
  obtain ⟨i1, hi1, ei1⟩ := Option.map_eq_some_iff.1 Tryz.infSv
  simp only [Prod.mk.injEq] at ei1
  obtain ⟨hz1, hs1, hy1⟩ := ei1
  have hcm' := hcm
  unfold maxLen at hcm'
  have mixed : Tryz.prog.follows .mixedOrders = true := by kernel_rfl
  have hq13 : n * 13 ≤ q * 13 := Nat.mul_le_mul_right 13 hcap
  have hk13 : (k + 1) * 13 ≤ n * 13 := Nat.mul_le_mul_right 13 hk
  have hdl : (xs.drop ((k + 1) * 13)).length = (n - (k + 1)) * 13 := by rw [List.length_drop, hxl, Nat.sub_mul]
  have hcc : ∀ j u, xs[j]? = some u → W.cell? ⟨g, j, none⟩ = some u := fun j u hj => by
    rw [← htk, List.getElem?_take] at hj
    simp only [World.cell?, hg]
    split at hj
    · simpa using hj
    · cases hj
  obtain ⟨Z, hZ⟩ : ∃ Z : Value, Z = (.agg #[.string ByteArray.empty, .int .i64 0, .bool false, .int .i64 0, .int .i64 0, .int .i64 0, .int .i64 0, .int .i64 0, .int .i64 0, .int .i64 0, .int .i64 0, .int .i64 0, .int .i64 0]) := ⟨_, rfl⟩
  rw [← hZ] at hz1
  have hZs : Z.cells.size = 13 := by rw [hZ]; rfl
  have hZ1 : ∀ v ∈ (Builtin.zeroCells Z.cells 1).toList, v.oneCell' = true := by
    have : ((Builtin.zeroCells Z.cells 1).toList.all Value.oneCell') = true := by rw [hZ]; kernel_rfl
    exact List.all_eq_true.1 this
  clear hZ
  obtain ⟨zs, hzs⟩ : ∃ zs, zs = (Builtin.zeroCells Z.cells 1).toList := ⟨_, rfl⟩
  have hzl : zs.length = 13 := by rw [hzs, zc_len, hZs]
  obtain ⟨cur1, hcur1⟩ : ∃ cur1, cur1 = seg cur (k * 13) (xs.drop ((k + 1) * 13)) := ⟨_, rfl⟩
  obtain ⟨cur2, hcur2⟩ : ∃ cur2, cur2 = seg cur1 ((n - 1) * 13) zs := ⟨_, rfl⟩
  have hfit1 : k * 13 + (xs.drop ((k + 1) * 13)).length ≤ cur.size := by rw [hdl, hcs]; omega
  have hs1' : cur1.size = cur.size := by rw [hcur1]; exact seg_size hfit1
  have hfit2 : (n - 1) * 13 + zs.length ≤ cur1.size := by rw [hzl, hs1', hcs]; omega
  have hs2' : cur2.size = cur.size := by rw [hcur2, seg_size hfit2, hs1']
  have hnk : k + (n - (k + 1)) = n - 1 := by omega
  have hap : ∀ (o c : Nat), (o = (k + 1) * 13 ∨ n = k + 1) → ∀ ty, (Builtin.append_ #[32, 32] ty #[.slice (some ⟨g, 0, none⟩) k q, .slice (some ⟨g, o, none⟩) (n - (k + 1)) c]).run Tryz.prog W.drew = .ok (.slice (some ⟨g, 0, none⟩) (n - 1) q) (W.drew.setRow g cur1) := fun o c ho ty => by
    have hsrc : Src Tryz.prog i1.size 32 (.slice (some ⟨g, o, none⟩) (n - (k + 1)) c) (n - (k + 1)) (xs.drop ((k + 1) * 13)) W.drew := by
      rw [hs1]
      refine Src.ofSlice W.drew Tryz.undSv ⟨g, o, none⟩ (n - (k + 1)) c _ hdl (fun j u hj => ?_) (fun u hu => hx1 u (List.mem_of_mem_drop hu))
      rcases ho with rfl | ho
      · rw [addN]; exact hcc _ u (by rwa [List.getElem?_drop] at hj)
      · have : j < (xs.drop ((k + 1) * 13)).length := (List.getElem?_eq_some_iff.1 hj).1
        rw [hdl, ho] at this
        omega
    have := run_append_rowK W.drew 32 32 ty 86 i1 Tryz.undSv hi1 g 0 k q _ (n - (k + 1)) _ hsrc (by omega) cur 86 hg (by rw [hs1, Nat.zero_add]; exact hfit1)
    rw [hnk, hs1, Nat.zero_add, ← hcur1] at this
    exact this
  have hh1 : (W.drew.setRow g cur1).heap[g]? = some (.cells cur1 86 (0, 0)) := setRow_heap W.drew g cur cur1 86 (0, 0) hg
  have hcl : ∀ ty c, (Builtin.clear_ #[32] ty #[.slice (some ⟨g, (n - 1) * 13, none⟩) 1 c]).run Tryz.prog (W.drew.setRow g cur1) = .ok (.tuple #[]) ((W.drew.setRow g cur1).setRow g cur2) := fun ty c => by
    have := run_clear_rowK (n := 1) (W.drew.setRow g cur1) 32 86 ty Z Tryz.undSv (fun w => by simp [zeroValue, typeInfo, hi1, hz1]) hZ1 g ((n - 1) * 13) c cur1 86 (by omega) hh1 (by rw [← hzs]; exact hfit2)
    rw [← hzs, ← hcur2] at this
    exact this
  have HEND : Hid (((W.drew.setRow g cur1).setRow g cur2).ownsRow lo 86 13 (.slice (some ⟨g, 0, none⟩) (n - 1) q) (n - 1) (xs.take (k * 13) ++ xs.drop ((k + 1) * 13))) := by
    refine ⟨?_, .inr ⟨g, q, cur2, rfl, hlo, setRow_heap _ g cur1 cur2 86 (0, 0) hh1, by omega, hcm, by rw [hs2', hcs], ?_⟩⟩
    · simp only [List.length_append, List.length_take, hdl, hxl]
      omega
    · have h1 : cur2.toList.take ((n - 1) * 13) = cur1.toList.take ((n - 1) * 13) := by rw [hcur2]; exact seg_past (Nat.le_refl _) (by omega)
      rw [h1, hcur1]
      have := seg_cut (l := cur.toList) (i := k * 13) (d := 13) (n := n * 13) htk hxl (by omega) cur rfl
      rw [show n * 13 - 13 = (n - 1) * 13 by omega, show k * 13 + 13 = (k + 1) * 13 by omega] at this
      exact this
  have HBEL : Hid (BelO (some ⟨g, 0, none⟩) W ((W.drew.setRow g cur1).setRow g cur2)) := ⟨rfl, rfl, rfl, by rw [size_setRow, size_setRow]; exact Nat.le_refl _, fun b _ hb => by
    rw [setRow_other _ g b cur2 (hb g rfl), setRow_other _ g b cur1 (hb g rfl)]; rfl⟩
  clear hcur1 hcur2 hh1 hcc hg hx1 htk hxl hdl hfit1 hfit2 hs1' hs2' hcs hzs hzl hZ1 hZs hz1 hs1 hy1
  have k0 : (0 : Int) ≤ (k : Int) := by omega
  have k1 : (k : Int) ≤ (n : Int) := by omega
  have k2 : (0 : Int) ≤ (k : Int) + 1 := by omega
  have k3 : (k : Int) + 1 ≤ (n : Int) := by omega
  have k4 : (k : Int) ≤ (k : Int) + 1 := by omega
  have k5 : ((k : Int) + 1).toNat = k + 1 := by omega
  have k6 : ¬ ((k : Int) = (k : Int) + 1) := by omega
  have k7 : (k : Int) ≤ (q : Int) := by omega
  have k8 : (n : Int) ≤ (q : Int) := by omega
  have k9 : ((n - 1 : Nat) : Int) ≤ (n : Int) := by omega
  have n1 : n - (n - 1) = 1 := by omega
  have n2 : ¬ (q = n - 1) := by omega
  have n3 : ¬ (q = k) := by omega
  have n4 : ¬ (n = k) := by omega
  by_cases hqk : q = k + 1
  · have hnk1 : n = k + 1 := by omega
    subst hnk1 hqk
    simp only [Nat.add_sub_cancel, Nat.sub_self] at hap hcl HEND HBEL ⊢
    have hap1 := hap 0 0 (Or.inr trivial)
    clear hap n1 n2 n3 n4 k9 hnk
    go_enter Tryz.func101, Tryz.ntmps101
    go_wp2_with fail
    go_region_law_o (refine step_append_runJ rfl _ _ 32 32 rfl (.slice (some ⟨g, 0, none⟩) k (k + 1)) (.slice (some ⟨g, 0, none⟩) 0 0) (by simp [Act.eval, Act.put]) (by simp [Act.eval, Act.put]) (hap1 32) ?_)
    go_wp2_with (at_builtin; refine wpList_clear_runJ _ rfl _ 32 rfl _ rfl (hcl _ _) ?_)
    go_ret
    exact ⟨rfl, HEND.out, HBEL.out⟩
  · go_enter Tryz.func101, Tryz.ntmps101
    go_wp2_with fail
    go_region_law_o (refine step_append_runJ rfl _ _ 32 32 rfl (.slice (some ⟨g, 0, none⟩) k q) (.slice (some ⟨g, (k + 1) * 13, none⟩) (n - (k + 1)) (q - (k + 1))) (by simp [Act.eval, Act.put]) (by simp [Act.eval, Act.put]) (hap ((k + 1) * 13) (q - (k + 1)) (Or.inl rfl) 32) ?_)
    go_wp2_with (at_builtin; refine wpList_clear_runJ _ rfl _ 32 rfl _ rfl (hcl _ _) ?_)
    go_ret
    exact ⟨rfl, HEND.out, HBEL.out⟩

end Go.Proofs.YtpamkibnahhphaaGreatDoor

namespace Go.Proofs.YtpamkibnahhphaaGreatDoor
open Go.RowKit Go.Deep

theorem owns_belO {W W' : World} {lo g : Nat} {e e' : TypeId} {size : Nat} {v : Value} {n : Nat} {xs : List Value} {cur : Array Value} (h : W.ownsRow lo e size v n xs) (hg : W.heap[g]? = some (.cells cur e' (0, 0))) (hne : e ≠ e') (hb : BelO (some ⟨g, 0, none⟩) W W') : W'.ownsRow lo e size v n xs := by
  refine ⟨h.1, h.2.imp id ?_⟩
  rintro ⟨g', cap, cur', h1, h2, h3, h4⟩
  refine ⟨g', cap, cur', h1, h2, (hb.block g' (lt_heap h3) fun x hx => ?_).trans h3, h4⟩
  injection hx with hx
  injection hx with hx _ _
  subst hx
  intro e2
  subst e2
  rw [hg] at h3
  injection h3 with h3
  injection h3 with _ h3 _
  exact hne h3.symm
theorem owns_belN {W W' : World} {lo : Nat} {e : TypeId} {size : Nat} {v : Value} {n : Nat} {xs : List Value} (h : W.ownsRow lo e size v n xs) (hb : BelO none W W') : W'.ownsRow lo e size v n xs := by
  refine ⟨h.1, h.2.imp id ?_⟩
  rintro ⟨g', cap, cur', h1, h2, h3, h4⟩
  exact ⟨g', cap, cur', h1, h2, (hb.block g' (lt_heap h3) fun x hx => by cases hx).trans h3, h4⟩
theorem BelO.heap {W W' : World} {g b : Nat} {e e' : TypeId} {cs cur : Array Value} (hb : BelO (some ⟨g, 0, none⟩) W W') (h : W.heap[b]? = some (.cells cs e (0, 0))) (hg : W.heap[g]? = some (.cells cur e' (0, 0))) (hne : e ≠ e') : W'.heap[b]? = some (.cells cs e (0, 0)) := by
  refine (hb.block b (lt_heap h) fun x hx => ?_).trans h
  injection hx with hx
  injection hx with hx _ _
  subst hx
  intro e2
  subst e2
  rw [hg] at h
  injection h with h
  injection h with _ h _
  exact hne h.symm
theorem BelO.lo {W W' : World} {p : Option Addr} {lo : Nat} (hb : BelO p W W') (hl : ∀ g, p = some ⟨g, 0, none⟩ → lo ≤ g) (hs : lo ≤ W.heap.size) : Below lo W W' :=
  ⟨hb.os, hb.tape, hb.output, hb.size, fun b h => hb.block b (by omega) fun g e => by have := hl g e; omega⟩
theorem all_mem {α : Type} (d : α) (P : α → Prop) (l : List α) : (∀ i, i < l.length → P (l.getD i d)) ↔ ∀ x ∈ l, P x := by
  constructor
  · intro h x hx
    obtain ⟨i, hi, e⟩ := List.getElem_of_mem hx
    have := h i hi
    have e2 : l.getD i d = l[i] := by simp [hi]
    rw [e2, e] at this
    exact this
  · intro h i hi
    have e2 : l.getD i d = l[i] := by simp [hi]
    rw [e2]
    exact h _ (List.getElem_mem hi)
theorem sized_cut {l : List Sv} (h : ∀ i, i < l.length → (l.getD i Sv.none).sized) (k : Nat) : ∀ i, i < (l.take k ++ l.drop (k + 1)).length → ((l.take k ++ l.drop (k + 1)).getD i Sv.none).sized := by
  rw [all_mem Sv.none Sv.sized] at h ⊢
  intro x hx
  rcases List.mem_append.1 hx with q | q
  · exact h x (List.mem_of_mem_take q)
  · exact h x (List.mem_of_mem_drop q)
theorem sized_ins {l m : List Cp} (h : ∀ i, i < l.length → (l.getD i Cp.none).sized) (hm : ∀ x ∈ m, x.sized) (k : Nat) : ∀ i, i < (l.take k ++ m ++ l.drop k).length → ((l.take k ++ m ++ l.drop k).getD i Cp.none).sized := by
  rw [all_mem Cp.none Cp.sized] at h ⊢
  intro x hx
  rcases List.mem_append.1 hx with q | q
  · rcases List.mem_append.1 q with q | q
    · exact h x (List.mem_of_mem_take q)
    · exact hm x q
  · exact h x (List.mem_of_mem_drop q)
/-- A service is taken out. -/
theorem Wk.cut {lo p : Nat} {W : World} {X : Ac} {ae : Value} {now : Int} {sv : List Sv} {cp : List Cp} {bt : List Bt} {k : Nat} {es : List Nat} {p1 p2 pe : Option Addr} {g : Nat} {n0 n1 n2 ne q0 q1 q2 qe : Nat} {W' : World} (h : Wk lo p W X ae now sv cp bt k es (some ⟨g, 0, none⟩) p1 p2 pe n0 n1 n2 ne q0 q1 q2 qe) (j : Nat) (hj : j < n0) (ho : W'.ownsRow lo 86 13 (.slice (some ⟨g, 0, none⟩) (n0 - 1) q0) (n0 - 1) ((sv.flatMap SvC).take (j * 13) ++ (sv.flatMap SvC).drop ((j + 1) * 13))) (hb : BelO (some ⟨g, 0, none⟩) W W') :
    Wk lo p (W'.setCell ⟨p, 9, none⟩ (.slice (some ⟨g, 0, none⟩) (n0 - 1) q0)) X ae now (sv.take j ++ sv.drop (j + 1)) cp bt k es (some ⟨g, 0, none⟩) p1 p2 pe (n0 - 1) n1 n2 ne q0 q1 q2 qe := by
  obtain ⟨g', cur, eg, hlo, hgl, hgb, _⟩ := h.svAt (i := j) (by rw [h.l0]; exact hj)
  injection eg with eg
  injection eg with eg _ _
  subst eg
  have hp := hb.heap h.bx hgb t_ws
  rw [flat_take SvC 13 SvC_len, flat_drop SvC 13 SvC_len, ← List.flatMap_append] at ho
  refine ⟨(set_block hp 9 _).trans rfl, h.lp, owns_else ho hp (fun e => t_ws e.symm) _ _, owns_else (owns_belO h.o1 hgb (fun e => t_sc e.symm) hb) hp (fun e => t_wc e.symm) _ _, owns_else (owns_belO h.o2 hgb t_bsv hb) hp (fun e => t_wb e.symm) _ _, owns_else (owns_belO h.oe hgb t_is hb) hp (fun e => t_wi e.symm) _ _, ?_, h.l1, h.l2, h.le, sized_cut h.z0 j, h.z1, h.z2, by have := h.m0; omega, h.m1, h.m2, h.me⟩
  have := h.l0
  rw [List.length_append, List.length_take, List.length_drop]
  omega
/-- Copies are put in. -/
theorem Wk.ins {lo p : Nat} {W : World} {X : Ac} {ae : Value} {now : Int} {sv : List Sv} {cp : List Cp} {bt : List Bt} {k : Nat} {es : List Nat} {p0 p1 p2 pe : Option Addr} {n0 n1 n2 ne q0 q1 q2 qe : Nat} {W' : World} (h : Wk lo p W X ae now sv cp bt k es p0 p1 p2 pe n0 n1 n2 ne q0 q1 q2 qe) (j : Nat) (hj : j ≤ n1) (cr : List Cp) (hcr : ∀ x ∈ cr, x.sized) (g' q' : Nat) (ho : W'.ownsRow lo 90 7 (.slice (some ⟨g', 0, none⟩) (n1 + cr.length) q') (n1 + cr.length) ((cp.flatMap CpC).take (j * 7) ++ cr.flatMap CpC ++ (cp.flatMap CpC).drop (j * 7))) (hb : BelO p1 W W') (hm : n1 + cr.length ≤ 1048576) :
    Wk lo p (W'.setCell ⟨p, 10, none⟩ (.slice (some ⟨g', 0, none⟩) (n1 + cr.length) q')) X ae now sv (cp.take j ++ cr ++ cp.drop j) bt k es p0 (some ⟨g', 0, none⟩) p2 pe n0 (n1 + cr.length) n2 ne q0 q' q2 qe := by
  rw [flat_take CpC 7 CpC_len, flat_drop CpC 7 CpC_len, ← List.flatMap_append, ← List.flatMap_append] at ho
  have hl : (cp.take j ++ cr ++ cp.drop j).length = n1 + cr.length := by
    have := h.l1
    rw [List.length_append, List.length_append, List.length_take, List.length_drop]
    omega
  have hrest : W'.heap[p]? = some (.cells #[.string X.svc, .int .i64 X.seen, .int .i64 X.create, .int .i64 X.want, .int .i64 X.cool, .bool X.scale, ae, .bool X.drop, .int .i64 now, .slice p0 n0 q0, .slice p1 n1 q1, .slice p2 n2 q2, .int .i64 (k : Nat), .slice pe ne qe] 115 (0, 0)) ∧ W'.ownsRow lo 86 13 (.slice p0 n0 q0) n0 (sv.flatMap SvC) ∧ W'.ownsRow lo 88 2 (.slice p2 n2 q2) n2 (bt.flatMap BtC) ∧ W'.ownsRow lo 3 1 (.slice pe ne qe) ne (es.map fun i => .int .i64 ((i : Nat) : Int)) := by
    rcases h.o1.2 with ⟨e, _⟩ | ⟨g, cap, cur, e, _, hgb, _⟩
    · cases e
      exact ⟨(hb.block p h.lt fun x hx => by cases hx).trans h.bx, owns_belN h.o0 hb, owns_belN h.o2 hb, owns_belN h.oe hb⟩
    · cases e
      exact ⟨hb.heap h.bx hgb t_wc, owns_belO h.o0 hgb t_sc hb, owns_belO h.o2 hgb t_bc hb, owns_belO h.oe hgb t_ic hb⟩
  obtain ⟨hp, r0, r2, re⟩ := hrest
  exact ⟨(set_block hp 10 _).trans rfl, h.lp, owns_else r0 hp (fun e => t_ws e.symm) _ _, owns_else ho hp (fun e => t_wc e.symm) _ _, owns_else r2 hp (fun e => t_wb e.symm) _ _, owns_else re hp (fun e => t_wi e.symm) _ _, h.l0, hl, h.l2, h.le, h.z0, sized_ins h.z1 hcr j, h.z2, h.m0, hm, h.m2, h.me⟩
/-- Where all of it lies. -/
structure Lw (L p : Nat) (p0 p1 p2 pe : Option Addr) : Prop where
  b : p < L
  a0 : ∀ g, p0 = some ⟨g, 0, none⟩ → g < L
  a1 : ∀ g, p1 = some ⟨g, 0, none⟩ → g < L
  a2 : ∀ g, p2 = some ⟨g, 0, none⟩ → g < L
  ae : ∀ g, pe = some ⟨g, 0, none⟩ → g < L
theorem Wk.lw {lo p : Nat} {W : World} {X : Ac} {ae : Value} {now : Int} {sv : List Sv} {cp : List Cp} {bt : List Bt} {k : Nat} {es : List Nat} {p0 p1 p2 pe : Option Addr} {n0 n1 n2 ne q0 q1 q2 qe : Nat} (h : Wk lo p W X ae now sv cp bt k es p0 p1 p2 pe n0 n1 n2 ne q0 q1 q2 qe) : Lw W.heap.size p p0 p1 p2 pe :=
  ⟨h.lt, fun g e => by subst e; exact owns_lt h.o0, fun g e => by subst e; exact owns_lt h.o1, fun g e => by subst e; exact owns_lt h.o2, fun g e => by subst e; exact owns_lt h.oe⟩
theorem owns_under {W W' : World} {lo L : Nat} {e : TypeId} {size n q m : Nat} {a : Option Addr} {xs : List Value} (h : W.ownsRow lo e size (.slice a n q) m xs) (hL : ∀ g, a = some ⟨g, 0, none⟩ → g < L) (hb : Below L W W') : W'.ownsRow lo e size (.slice a n q) m xs := by
  refine ⟨h.1, h.2.imp id ?_⟩
  rintro ⟨g', cap, cur', h1, h2, h3, h4⟩
  exact ⟨g', cap, cur', h1, h2, (hb.block g' (hL g' (by injection h1))).trans h3, h4⟩
theorem Wk.under {lo p : Nat} {W : World} {X : Ac} {ae : Value} {now : Int} {sv : List Sv} {cp : List Cp} {bt : List Bt} {k : Nat} {es : List Nat} {p0 p1 p2 pe : Option Addr} {n0 n1 n2 ne q0 q1 q2 qe : Nat} {W' : World} {L : Nat} (h : Wk lo p W X ae now sv cp bt k es p0 p1 p2 pe n0 n1 n2 ne q0 q1 q2 qe) (hL : Lw L p p0 p1 p2 pe) (hb : Below L W W') : Wk lo p W' X ae now sv cp bt k es p0 p1 p2 pe n0 n1 n2 ne q0 q1 q2 qe :=
  ⟨(hb.block p hL.b).trans h.bx, h.lp, owns_under h.o0 hL.a0 hb, owns_under h.o1 hL.a1 hb, owns_under h.o2 hL.a2 hb, owns_under h.oe hL.ae hb, h.l0, h.l1, h.l2, h.le, h.z0, h.z1, h.z2, h.m0, h.m1, h.m2, h.me⟩
/-- slices.Insert of copies, wherever. -/
theorem insI (lo : Nat) (W : World) (p1 : Option Addr) (n q : Nat) (cp cr : List Cp) (h : W.ownsRow lo 90 7 (.slice p1 n q) n (cp.flatMap CpC)) (lc : Nat) (vc : Value) (hc : W.ownsRow lc 90 7 vc cr.length (cr.flatMap CpC)) (hcr : 0 < cr.length) (hne : ∀ g, p1 = some ⟨g, 0, none⟩ → g < lc) (i : Nat) (hi : i ≤ n) (hn : n + cr.length ≤ 1048576) (hlo : lo ≤ W.heap.size) :
    Calls Tryz.prog 100 #[.slice p1 n q, .int .i64 (i : Nat), vc] W fun e W' => ∃ g' q', e = .returned (.slice (some ⟨g', 0, none⟩) (n + cr.length) q') ∧ W'.ownsRow lo 90 7 (.slice (some ⟨g', 0, none⟩) (n + cr.length) q') (n + cr.length) ((cp.flatMap CpC).take (i * 7) ++ cr.flatMap CpC ++ (cp.flatMap CpC).drop (i * 7)) ∧ BelO p1 W W' := by
  rcases hc.2 with ⟨_, e⟩ | ⟨gc, qc, curC, rfl, hlc, hgc, _⟩
  · omega
  have hv : ∀ j u, (cr.flatMap CpC)[j]? = some u → W.cell? ⟨gc, j, none⟩ = some u := by
    obtain ⟨g2, cur2, e2, _, _, _, hcc⟩ := owns_blk hc hcr
    injection e2 with e2
    injection e2 with e2 _ _
    subst e2
    exact hcc
  by_cases hin : i = n
  · subst hin
    refine (insEnd lo W p1 i q _ _ h gc cr.length qc hv (flat_len CpC 7 CpC_len cr) (CpC_one cr) hcr hn hlo).mono ?_
    rintro e W' ⟨g', q', rfl, h1, h2⟩
    refine ⟨g', q', rfl, ?_, h2⟩
    have hx := h.1
    rw [List.take_of_length_le (by omega), List.drop_of_length_le (by omega), List.append_nil]
    exact h1
  · rcases h.2 with ⟨_, e⟩ | ⟨g, cap, cur, e, _⟩
    · omega
    cases e
    by_cases hroom : n + cr.length ≤ q
    · exact insRoom lo W g n q _ _ h (CpC_one cp) gc cr.length qc curC hgc hv (flat_len CpC 7 CpC_len cr) (CpC_one cr) hcr (by have := hne g rfl; omega) i (by omega) hroom hn
    · exact insGrow lo W g n q _ _ h (CpC_one cp) gc cr.length qc curC hgc hv (flat_len CpC 7 CpC_len cr) (CpC_one cr) hcr i (by omega) (by omega) hlo hn

end Go.Proofs.YtpamkibnahhphaaGreatDoor
