/-
  slices.Insert of berths; slices.Delete of one.
-/
import Derived.Test.YtclagbakddkjcaaGreatSlH
namespace Go.Proofs.YtclagbakddkjcaaGreat
open Go.RowKit Go.Deep

set_option maxRecDepth 8000 in
set_option maxHeartbeats 8000000 in
/-- At the end. -/
theorem insEndB (lo : Nat) (W : World) (p1 : Option Addr) (n q : Nat) (xs vs : List Value) (h : W.ownsRow lo 79 2 (.slice p1 n q) n xs) (gc m qc : Nat) (hv : ∀ j u, vs[j]? = some u → W.cell? ⟨gc, j, none⟩ = some u) (hvl : vs.length = m * 2) (hv1 : ∀ u ∈ vs, u.oneCell' = true) (hm : 0 < m) (hn : n + m ≤ 1048576) (hlo : lo ≤ W.heap.size) :
    Calls Tryz.prog 91 #[.slice p1 n q, .int .i64 (n : Nat), .slice (some ⟨gc, 0, none⟩) m qc] W fun e W' => ∃ g' q', e = .returned (.slice (some ⟨g', 0, none⟩) (n + m) q') ∧ W'.ownsRow lo 79 2 (.slice (some ⟨g', 0, none⟩) (n + m) q') (n + m) (xs ++ vs) ∧ BelO p1 W W' := by
  have HH := hid h
  have HV := hid hv
  have HVL := hid hvl
  have HV1 := hid hv1
  have HLO := hid hlo
  have hqc : n ≤ q ∧ q ≤ maxLen := by
    rcases h.2 with ⟨e, e'⟩ | ⟨g, cap, cur, e, _, _, hc, hcm, _⟩
    · cases e; exact ⟨Nat.le_refl _, Nat.zero_le _⟩
    · cases e; exact ⟨hc, hcm⟩
  unfold maxLen at hqc
  obtain ⟨hq1, hq2⟩ := hqc
  clear h hv hvl hv1 hlo
  obtain ⟨i1, hi1, ei1⟩ := Option.map_eq_some_iff.1 Tryz.infBt
  simp only [Prod.mk.injEq] at ei1
  obtain ⟨hz1, hs1, hy1⟩ := ei1
  have hm1 : ¬ ((m : Int) = 0) := by omega
  have hn0 : (0 : Int) ≤ (n : Int) := by omega
  have hnq : (n : Int) ≤ (q : Int) := by omega
  cases p1 with
  | none =>
    obtain ⟨rfl, rfl⟩ : n = 0 ∧ q = 0 := by
      rcases HH.out.2 with ⟨e, e'⟩ | ⟨g, cap, cur, e, _⟩
      · cases e; exact ⟨e', rfl⟩
      · cases e
    simp only [Nat.zero_add]
    go_enter Tryz.func91, Tryz.ntmps91
    go_wp2_with (at_builtin; refine wpList_append_own _ rfl _ _ 35 rfl lo 79 i1 _ 2 24 Tryz.undBt hi1 hz1 hs1 hy1 rfl (by decide) _ _ xs rfl HH.out ⟨gc, 0, none⟩ m qc vs rfl ?a1x ?a2x ?a3x ?a4x ?a5x ?a6x ?_)
    case a1x => exact HVL.out
    case a2x =>
      intro j u hj
      rw [addN, Nat.zero_add]
      exact HV.out j u hj
    case a3x => exact HV1.out
    case a4x => unfold maxLen; omega
    case a5x => omega
    case a6x => exact HLO.out
    intro v1 w1 ho1 hg1 hn1
    obtain ⟨d1, e1, rfl⟩ := owns_is ho1
    have HNN : Hid (∃ g', d1 = some ⟨g', 0, none⟩) := by
      rcases ho1.2 with ⟨e, e'⟩ | ⟨g, cap, cur, e, _⟩
      · omega
      · cases e; exact ⟨g, rfl⟩
    have HO := hid ho1
    have HG : Hid (BelO none W w1) := ⟨hg1.os, hg1.tape, hg1.output, hg1.size, fun b hb hne => hg1.block b hb (fun e => by cases e)⟩
    clear ho1 hg1 hn1
    obtain ⟨g', rfl⟩ := HNN.out
    go_wp2
    go_ret
    exact ⟨g', e1, rfl, HO.out, HG.out⟩
  | some ad =>
    obtain ⟨g0, rfl⟩ : ∃ g0, ad = ⟨g0, 0, none⟩ := by
      rcases HH.out.2 with ⟨e, e'⟩ | ⟨g, cap, cur, e, _⟩
      · cases e
      · cases e; exact ⟨g, rfl⟩
    by_cases hqn : q = n
    · subst hqn
      go_enter Tryz.func91, Tryz.ntmps91
      go_wp2_with (at_builtin; refine wpList_append_own _ rfl _ _ 35 rfl lo 79 i1 _ 2 24 Tryz.undBt hi1 hz1 hs1 hy1 rfl (by decide) _ _ xs rfl HH.out ⟨gc, 0, none⟩ m qc vs rfl ?a1y ?a2y ?a3y ?a4y ?a5y ?a6y ?_)
      case a1y => exact HVL.out
      case a2y =>
        intro j u hj
        rw [addN, Nat.zero_add]
        exact HV.out j u hj
      case a3y => exact HV1.out
      case a4y => unfold maxLen; omega
      case a5y => omega
      case a6y => exact HLO.out
      intro v1 w1 ho1 hg1 hn1
      obtain ⟨d1, e1, rfl⟩ := owns_is ho1
      have HNN : Hid (∃ g', d1 = some ⟨g', 0, none⟩) := by
        rcases ho1.2 with ⟨e, e'⟩ | ⟨g, cap, cur, e, _⟩
        · omega
        · cases e; exact ⟨g, rfl⟩
      have HO := hid ho1
      have HG : Hid (BelO (some ⟨g0, 0, none⟩) W w1) := ⟨hg1.os, hg1.tape, hg1.output, hg1.size, fun b hb hne => hg1.block b hb (fun e => hne g0 rfl (by injection e))⟩
      clear ho1 hg1 hn1
      obtain ⟨g', rfl⟩ := HNN.out
      go_wp2
      go_ret
      exact ⟨g', e1, rfl, HO.out, HG.out⟩
    · have hqn' : ¬ (n = q) := fun e => hqn e.symm
      go_enter Tryz.func91, Tryz.ntmps91
      go_wp2_with (at_builtin; refine wpList_append_own _ rfl _ _ 35 rfl lo 79 i1 _ 2 24 Tryz.undBt hi1 hz1 hs1 hy1 rfl (by decide) _ _ xs rfl HH.out ⟨gc, 0, none⟩ m qc vs rfl ?a1z ?a2z ?a3z ?a4z ?a5z ?a6z ?_)
      case a1z => exact HVL.out
      case a2z =>
        intro j u hj
        rw [addN, Nat.zero_add]
        exact HV.out j u hj
      case a3z => exact HV1.out
      case a4z => unfold maxLen; omega
      case a5z => omega
      case a6z => exact HLO.out
      intro v1 w1 ho1 hg1 hn1
      obtain ⟨d1, e1, rfl⟩ := owns_is ho1
      have HNN : Hid (∃ g', d1 = some ⟨g', 0, none⟩) := by
        rcases ho1.2 with ⟨e, e'⟩ | ⟨g, cap, cur, e, _⟩
        · omega
        · cases e; exact ⟨g, rfl⟩
      have HO := hid ho1
      have HG : Hid (BelO (some ⟨g0, 0, none⟩) W w1) := ⟨hg1.os, hg1.tape, hg1.output, hg1.size, fun b hb hne => hg1.block b hb (fun e => hne g0 rfl (by injection e))⟩
      clear ho1 hg1 hn1
      obtain ⟨g', rfl⟩ := HNN.out
      go_wp2
      go_ret
      exact ⟨g', e1, rfl, HO.out, HG.out⟩

set_option maxRecDepth 8000 in
set_option maxHeartbeats 8000000 in
/-- In place: there is room. -/
theorem insRoomB (lo : Nat) (W : World) (g n q : Nat) (xs vs : List Value) (h : W.ownsRow lo 79 2 (.slice (some ⟨g, 0, none⟩) n q) n xs) (hx1 : ∀ u ∈ xs, u.oneCell' = true) (gc m qc : Nat) (curC : Array Value) (hgc : W.heap[gc]? = some (.cells curC 79 (0, 0))) (hv : ∀ j u, vs[j]? = some u → W.cell? ⟨gc, j, none⟩ = some u) (hvl : vs.length = m * 2) (hv1 : ∀ u ∈ vs, u.oneCell' = true) (hm : 0 < m) (hne : gc ≠ g) (i : Nat) (hi : i < n) (hroom : n + m ≤ q) (hn : n + m ≤ 1048576) :
    Calls Tryz.prog 91 #[.slice (some ⟨g, 0, none⟩) n q, .int .i64 (i : Nat), .slice (some ⟨gc, 0, none⟩) m qc] W fun e W' => ∃ g' q', e = .returned (.slice (some ⟨g', 0, none⟩) (n + m) q') ∧ W'.ownsRow lo 79 2 (.slice (some ⟨g', 0, none⟩) (n + m) q') (n + m) (xs.take (i * 2) ++ vs ++ xs.drop (i * 2)) ∧ BelO (some ⟨g, 0, none⟩) W W' := by
  obtain ⟨hxl, hrow⟩ := h
  rcases hrow with ⟨e, _⟩ | ⟨g', cap, cur, e, hlo, hg, hcap, hcm, hcs, htk⟩
  · cases e
  cases e
  obtain ⟨i1, hi1, ei1⟩ := Option.map_eq_some_iff.1 Tryz.infBt
  simp only [Prod.mk.injEq] at ei1
  obtain ⟨hz1, hs1, hy1⟩ := ei1
  have hsz : (Tryz.prog.info? 79).map (·.size) = some 2 := by rw [hi1]; simp [hs1]
  unfold maxLen at hcm
  have hm1 : ¬ ((m : Int) = 0) := by omega
  have hz2 : ¬ ((i : Int) = (n : Int)) := by omega
  have hz3 : ¬ ((q : Int) < (n : Int) + (m : Int)) := by omega
  have hi0 : (0 : Int) ≤ (i : Int) := by omega
  have hin : (i : Int) ≤ (n : Int) := by omega
  have hb1 : (0 : Int) ≤ (i : Int) + (m : Int) := by omega
  have htn : ((i : Int) + (m : Int)).toNat = i + m := by omega
  have htn2 : ((n : Int) + (m : Int)).toNat = n + m := by omega
  have hb2 : ¬ (q = i + m) := by omega
  have hb3 : (i : Int) ≤ (n : Int) + (m : Int) := by omega
  have hb4 : ¬ (q = i) := by omega
  have hb5 : (i : Int) + (m : Int) ≤ (n : Int) + (m : Int) := by omega
  have hb6 : (0 : Int) ≤ (n : Int) + (m : Int) := by omega
  have hb7 : (n : Int) + (m : Int) ≤ (q : Int) := by omega
  have mixed : Tryz.prog.follows .mixedOrders = true := by kernel_rfl
  have hw1 : IntKind.i64.wrap ((i : Int) + (m : Int)) = (i : Int) + (m : Int) := wrapI _ (by omega) (by omega)
  have hw2 : IntKind.i64.wrap ((n : Int) + (m : Int)) = (n : Int) + (m : Int) := wrapI _ (by omega) (by omega)
  have hdl : (xs.drop (i * 2)).length = (n - i) * 2 := by rw [List.length_drop, hxl, Nat.sub_mul]
  have hmul : n * 2 ≤ q * 2 := Nat.mul_le_mul_right 2 hcap
  have hcc : ∀ j u, xs[j]? = some u → W.cell? ⟨g, j, none⟩ = some u := fun j u hj => by
    rw [← htk, List.getElem?_take] at hj
    simp only [World.cell?, hg]
    split at hj
    · simpa using hj
    · cases hj
  obtain ⟨cur1, hcur1⟩ : ∃ cur1, cur1 = seg cur ((i + m) * 2) (xs.drop (i * 2)) := ⟨_, rfl⟩
  obtain ⟨cur2, hcur2⟩ : ∃ cur2, cur2 = seg cur1 (i * 2) vs := ⟨_, rfl⟩
  have hfit1 : (i + m) * 2 + (xs.drop (i * 2)).length ≤ cur.size := by rw [hdl, hcs]; omega
  have hs1' : cur1.size = cur.size := by rw [hcur1]; exact seg_size hfit1
  have hfit2 : i * 2 + vs.length ≤ cur1.size := by rw [hvl, hs1', hcs]; omega
  have hs2' : cur2.size = cur.size := by rw [hcur2, seg_size hfit2, hs1']
  have hcp1 : ∀ ty dc sc, (Builtin.copy_ #[35, 35] ty #[.slice (some ⟨g, (i + m) * 2, none⟩) (n + m - (i + m)) dc, .slice (some ⟨g, i * 2, none⟩) (n + m - i) sc]).run Tryz.prog W.drew = .ok (goInt (Nat.min (n + m - i) (n + m - (i + m)))) (W.drew.setRow g cur1) := fun ty dc sc => by
    rw [hcur1]
    refine run_copy_rowK W.drew _ _ ty 79 2 g ((i + m) * 2) (n + m - (i + m)) dc ⟨g, i * 2, none⟩ (n + m - i) sc cur 79 (xs.drop (i * 2)) Tryz.undBt hsz hg ?_ (fun j u hj => ?_) hfit1 (fun u hu => hx1 u (List.mem_of_mem_drop hu))
    · rw [hdl]; congr 1; simp only [Nat.min_def]; split <;> omega
    · rw [addN]; exact hcc _ u (by rwa [List.getElem?_drop] at hj)
  have hh1 : (W.drew.setRow g cur1).heap[g]? = some (.cells cur1 79 (0, 0)) := setRow_heap W.drew g cur cur1 79 (0, 0) hg
  have hcp2 : ∀ ty dc, (Builtin.copy_ #[35, 35] ty #[.slice (some ⟨g, i * 2, none⟩) (n + m - i) dc, .slice (some ⟨gc, 0, none⟩) m qc]).run Tryz.prog (W.drew.setRow g cur1) = .ok (goInt (Nat.min m (n + m - i))) ((W.drew.setRow g cur1).setRow g cur2) := fun ty dc => by
    rw [hcur2]
    refine run_copy_rowK _ _ _ ty 79 2 g (i * 2) (n + m - i) dc ⟨gc, 0, none⟩ m qc cur1 79 vs Tryz.undBt hsz hh1 ?_ (fun j u hj => ?_) hfit2 hv1
    · rw [hvl]; congr 1; simp only [Nat.min_def]; split <;> omega
    · rw [addN, Nat.zero_add]
      have := hv j u hj
      unfold World.cell? at this ⊢
      rw [setRow_other W.drew g gc cur1 hne]
      exact this
  have hov : ∀ lb cb, (callFunc 107 #[.slice (some ⟨gc, 0, none⟩) m qc, .slice (some ⟨g, (i + m) * 2, none⟩) lb cb]).run Tryz.prog W = .ok (.value (.bool false)) W := fun lb cb => by
    rw [run_callFunc_extern Tryz.func107 (by kernel_rfl) (by kernel_rfl) (by kernel_rfl) (e := Extern.SlicesOverlaps.overlaps #[35, 35] #[4]) (by kernel_rfl),
      Lib.run_overlaps_apart W 35 4 79 Tryz.undBt 2 (fun w => by simp [sizeOf, typeInfo, hi1, hs1]) ⟨gc, 0, none⟩ ⟨g, (i + m) * 2, none⟩ m qc lb cb hne 79 79 curC.size cur.size (by simp [World.shape?, hgc]) (by simp [World.shape?, hg]) (by omega) (frozen_blk hgc 0) (frozen_blk hgc _)]
    rfl
  have HEND : Hid (((W.drew.setRow g cur1).setRow g cur2).ownsRow lo 79 2 (.slice (some ⟨g, 0, none⟩) (n + m) q) (n + m) (xs.take (i * 2) ++ vs ++ xs.drop (i * 2))) := by
    refine ⟨?_, .inr ⟨g, q, cur2, rfl, hlo, setRow_heap _ g cur1 cur2 79 (0, 0) hh1, hroom, by unfold maxLen; exact hcm, by rw [hs2', hcs], ?_⟩⟩
    · simp only [List.length_append, List.length_take, hdl, hvl, hxl]
      have : i * 2 ≤ n * 2 := Nat.mul_le_mul_right 2 (by omega)
      omega
    · have := seg_shift (l := cur.toList) (i := i * 2) (n := n * 2) (m := m * 2) htk hxl hvl (by omega) (by rw [Array.length_toList, hcs]; omega) cur rfl
      rw [hcur2, hcur1, Nat.add_mul, Nat.add_mul]
      exact this
  have HBEL : Hid (BelO (some ⟨g, 0, none⟩) W ((W.drew.setRow g cur1).setRow g cur2)) := ⟨rfl, rfl, rfl, by rw [size_setRow, size_setRow]; exact Nat.le_refl _, fun b _ hb => by
    rw [setRow_other _ g b cur2 (hb g rfl), setRow_other _ g b cur1 (hb g rfl)]; rfl⟩
  clear hcur1 hcur2 hh1 hcc hg hgc hv hvl hv1 hx1 htk hxl hdl hfit1 hfit2 hs1' hs2' hcs hmul
  go_enter Tryz.func91, Tryz.ntmps91
  go_wp2_with (simp only [hov])
  go_region_law_o (refine step_copy_runJ rfl _ _ 35 35 rfl _ _ (by simp [Act.eval, Act.put]) (by simp [Act.eval, Act.put]) (hcp1 _ _ _) ?_)
  go_wp2_with (at_builtin; refine wpList_copy_runJ _ rfl _ _ 35 35 rfl _ _ rfl rfl (hcp2 _ _) ?_)
  go_ret
  exact ⟨g, q, rfl, HEND.out, HBEL.out⟩

set_option maxRecDepth 8000 in
set_option maxHeartbeats 8000000 in
/-- In a new row: there is no room. -/
theorem insGrowB (lo : Nat) (W : World) (g n q : Nat) (xs vs : List Value) (h : W.ownsRow lo 79 2 (.slice (some ⟨g, 0, none⟩) n q) n xs) (hx1 : ∀ u ∈ xs, u.oneCell' = true) (gc m qc : Nat) (curC : Array Value) (hgc : W.heap[gc]? = some (.cells curC 79 (0, 0))) (hv : ∀ j u, vs[j]? = some u → W.cell? ⟨gc, j, none⟩ = some u) (hvl : vs.length = m * 2) (hv1 : ∀ u ∈ vs, u.oneCell' = true) (hm : 0 < m) (i : Nat) (hi : i < n) (hroom : q < n + m) (hlow : lo ≤ W.heap.size) (hn : n + m ≤ 1048576) :
    Calls Tryz.prog 91 #[.slice (some ⟨g, 0, none⟩) n q, .int .i64 (i : Nat), .slice (some ⟨gc, 0, none⟩) m qc] W fun e W' => ∃ g' q', e = .returned (.slice (some ⟨g', 0, none⟩) (n + m) q') ∧ W'.ownsRow lo 79 2 (.slice (some ⟨g', 0, none⟩) (n + m) q') (n + m) (xs.take (i * 2) ++ vs ++ xs.drop (i * 2)) ∧ BelO (some ⟨g, 0, none⟩) W W' := by
  obtain ⟨hxl, hrow⟩ := h
  rcases hrow with ⟨e, _⟩ | ⟨g', cap, cur, e, hlo, hg, hcap, hcm, hcs, htk⟩
  · cases e
  cases e
  obtain ⟨i1, hi1, ei1⟩ := Option.map_eq_some_iff.1 Tryz.infBt
  simp only [Prod.mk.injEq] at ei1
  obtain ⟨hz1, hs1, hy1⟩ := ei1
  have hsz : (Tryz.prog.info? 79).map (·.size) = some 2 := by rw [hi1]; simp [hs1]
  unfold maxLen at hcm
  have mixed : Tryz.prog.follows .mixedOrders = true := by kernel_rfl
  have hm1 : ¬ ((m : Int) = 0) := by omega
  have hz2 : ¬ ((i : Int) = (n : Int)) := by omega
  have hz3 : (q : Int) < (n : Int) + (m : Int) := by omega
  have hi0 : (0 : Int) ≤ (i : Int) := by omega
  have hin : (i : Int) ≤ (n : Int) := by omega
  have hb1 : (0 : Int) ≤ (i : Int) + (m : Int) := by omega
  have htn : ((i : Int) + (m : Int)).toNat = i + m := by omega
  have hw1 : IntKind.i64.wrap ((i : Int) + (m : Int)) = (i : Int) + (m : Int) := wrapI _ (by omega) (by omega)
  have hw2 : IntKind.i64.wrap ((n : Int) + (m : Int)) = (n : Int) + (m : Int) := wrapI _ (by omega) (by omega)
  have hw3 : IntKind.i64.wrap ((n : Int) + (m : Int) - (i : Int)) = (n : Int) + (m : Int) - (i : Int) := wrapI _ (by omega) (by omega)
  have hkk : (n : Int) + (m : Int) - (i : Int) = ((n + m - i : Nat) : Int) := by omega
  have hik : i + (n + m - i) = n + m := by omega
  have hiq : (i : Int) ≤ (q : Int) := by omega
  have hdl : (xs.drop (i * 2)).length = (n - i) * 2 := by rw [List.length_drop, hxl, Nat.sub_mul]
  have hin7 : i * 2 ≤ n * 2 := Nat.mul_le_mul_right 2 (by omega)
  have htl : (xs.take (i * 2)).length = i * 2 := by rw [List.length_take, hxl]; omega
  have hcc : ∀ j u, xs[j]? = some u → W.cell? ⟨g, j, none⟩ = some u := fun j u hj => by
    rw [← htk, List.getElem?_take] at hj
    simp only [World.cell?, hg]
    split at hj
    · simpa using hj
    · cases hj
  have hgl : g < W.heap.size := lt_heap hg
  have hgcl : gc < W.heap.size := lt_heap hgc
  have hold : (Builtin.firstCells i1.size i (.slice (some ⟨g, 0, none⟩) i q)).run Tryz.prog W.drew = .ok (xs.take (i * 2)).toArray W.drew := by
    rw [hs1]
    refine run_firstCells_some W.drew 2 i ⟨g, 0, none⟩ i q (xs.take (i * 2)) htl (fun j v hj => ?_)
    rw [addN, Nat.zero_add]
    rw [List.getElem?_take] at hj
    split at hj
    · exact hcc j v hj
    · cases hj
  obtain ⟨Z, hZ⟩ : ∃ Z : Value, Z = (.agg #[.string ByteArray.empty, .bool false]) := ⟨_, rfl⟩
  rw [← hZ] at hz1
  have hZs : Z.cells.size = 2 := by rw [hZ]; rfl
  clear hZ
  have hrz : ∀ ty, (Builtin.append_ #[35, 3] ty #[.slice (some ⟨g, 0, none⟩) i q, .int .i64 ((n : Int) + (m : Int) - (i : Int))]).run Tryz.prog W =
      .ok (.slice (some ⟨W.heap.size, 0, none⟩) (n + m) (grownCap W (n + m) q 79)) (W.drew.alloc (.cells ((xs.take (i * 2)).toArray ++ Builtin.zeroCells Z.cells (n + m - i) ++ Builtin.zeroCells Z.cells (grownCap W (n + m) q 79 - (n + m))) 79)) := fun ty => by
    have hmul : (n + m) * 24 ≤ 1048576 * 24 := Nat.mul_le_mul_right 24 hn
    have hmul2 : (n + m - i) * 24 ≤ 1048576 * 24 := Nat.mul_le_mul_right 24 (by omega)
    have h := Lib.run_append_grow_zeros W 35 3 ty 79 i1 Z .i64 .i64 Tryz.undBt (by kernel_rfl) hi1 hz1 (some ⟨g, 0, none⟩) i q (xs.take (i * 2)) hold (n + m - i) (by omega) (by omega) (by omega) (by omega) (by rw [hy1]; omega) (by rw [hy1, hik]; exact growslice_fits hroom (by omega))
    rw [hik] at h
    rw [hkk]
    exact h
  have hGn := grownCap_ge W (n + m) q 79
  have hG63 := grownCap_le_maxLen W (n + m) q 79 (by unfold maxLen; omega)
  obtain ⟨G, hG⟩ : ∃ G, G = grownCap W (n + m) q 79 := ⟨_, rfl⟩
  rw [← hG] at hrz hGn hG63
  clear hG
  have hG63' := hG63
  unfold maxLen at hG63'
  obtain ⟨ROW, hROW⟩ : ∃ ROW : Array Value, ROW = (xs.take (i * 2)).toArray ++ Builtin.zeroCells Z.cells (n + m - i) ++ Builtin.zeroCells Z.cells (G - (n + m)) := ⟨_, rfl⟩
  rw [← hROW] at hrz
  have hRs : ROW.size = G * 2 := by
    rw [hROW, Array.size_append, Array.size_append, size_zeroCells, size_zeroCells, hZs, List.size_toArray, htl]
    rw [← Nat.add_mul, ← Nat.add_mul]
    congr 1
    omega
  have hRl : ROW.toList = xs.take (i * 2) ++ ((Builtin.zeroCells Z.cells (n + m - i)).toList ++ (Builtin.zeroCells Z.cells (G - (n + m))).toList) := by
    rw [hROW]; simp
  clear hROW
  obtain ⟨cur1, hcur1⟩ : ∃ cur1, cur1 = seg ROW (i * 2) vs := ⟨_, rfl⟩
  obtain ⟨cur2, hcur2⟩ : ∃ cur2, cur2 = seg cur1 ((i + m) * 2) (xs.drop (i * 2)) := ⟨_, rfl⟩
  have hG7 : (n + m) * 2 ≤ G * 2 := Nat.mul_le_mul_right 2 hGn
  have hfit1 : i * 2 + vs.length ≤ ROW.size := by rw [hvl, hRs]; omega
  have hs1' : cur1.size = ROW.size := by rw [hcur1]; exact seg_size hfit1
  have hfit2 : (i + m) * 2 + (xs.drop (i * 2)).length ≤ cur1.size := by rw [hdl, hs1', hRs]; omega
  have hs2' : cur2.size = ROW.size := by rw [hcur2, seg_size hfit2, hs1']
  obtain ⟨V, hV⟩ : ∃ V, V = W.drew.alloc (.cells ROW 79) := ⟨_, rfl⟩
  have hVg : V.heap[W.heap.size]? = some (.cells ROW 79 (0, 0)) := by rw [hV]; exact heap_alloc_new W.drew _
  have hVB : Below W.heap.size W V := by rw [hV]; exact blw_alloc (Below.drew (Below.refl _ _)) _
  have hcpA : ∀ (V' : World), V'.heap = V.heap → ∀ ty dc, (Builtin.copy_ #[35, 35] ty #[.slice (some ⟨W.heap.size, i * 2, none⟩) (n + m - i) dc, .slice (some ⟨gc, 0, none⟩) m qc]).run Tryz.prog V' = .ok (goInt (Nat.min m (n + m - i))) (V'.setRow W.heap.size cur1) := fun V' hV' ty dc => by
    rw [hcur1]
    refine run_copy_rowK V' _ _ ty 79 2 W.heap.size (i * 2) (n + m - i) dc ⟨gc, 0, none⟩ m qc ROW 79 vs Tryz.undBt hsz (by rw [hV']; exact hVg) ?_ (fun j u hj => ?_) hfit1 hv1
    · rw [hvl]; congr 1; simp only [Nat.min_def]; split <;> omega
    · rw [addN, Nat.zero_add]
      have := hv j u hj
      unfold World.cell? at this ⊢
      rw [hV', hVB.block gc hgcl]
      exact this
  have hh1 : ∀ V' : World, V'.heap = V.heap → (V'.setRow W.heap.size cur1).heap[W.heap.size]? = some (.cells cur1 79 (0, 0)) := fun V' hV' => setRow_heap V' W.heap.size ROW cur1 79 (0, 0) (by rw [hV']; exact hVg)
  have hcpB : ∀ (V' V'' : World), V'.heap = V.heap → V''.heap = (V'.setRow W.heap.size cur1).heap → ∀ ty dc sc, (Builtin.copy_ #[35, 35] ty #[.slice (some ⟨W.heap.size, (i + m) * 2, none⟩) (n + m - (i + m)) dc, .slice (some ⟨g, i * 2, none⟩) (n - i) sc]).run Tryz.prog V'' = .ok (goInt (Nat.min (n - i) (n + m - (i + m)))) (V''.setRow W.heap.size cur2) := fun V' V'' hV' hV'' ty dc sc => by
    rw [hcur2]
    refine run_copy_rowK V'' _ _ ty 79 2 W.heap.size ((i + m) * 2) (n + m - (i + m)) dc ⟨g, i * 2, none⟩ (n - i) sc cur1 79 (xs.drop (i * 2)) Tryz.undBt hsz (by rw [hV'']; exact hh1 V' hV') ?_ (fun j u hj => ?_) hfit2 (fun u hu => hx1 u (List.mem_of_mem_drop hu))
    · rw [hdl]; congr 1; simp only [Nat.min_def]; split <;> omega
    · rw [addN]
      have := hcc (i * 2 + j) u (by rwa [List.getElem?_drop] at hj)
      unfold World.cell? at this ⊢
      rw [hV'', setRow_other V' W.heap.size g cur1 (by omega), hV', hVB.block g hgl]
      exact this
  have HEND : Hid (∀ (V' V'' : World), V'.heap = V.heap → V''.heap = (V'.setRow W.heap.size cur1).heap → V'.os = W.os → V'.tape = W.tape → V'.output = W.output → V''.os = V'.os → V''.tape = V'.tape → V''.output = V'.output → (V''.setRow W.heap.size cur2).ownsRow lo 79 2 (.slice (some ⟨W.heap.size, 0, none⟩) (n + m) G) (n + m) (xs.take (i * 2) ++ vs ++ xs.drop (i * 2)) ∧ BelO (some ⟨g, 0, none⟩) W (V''.setRow W.heap.size cur2)) := by
    intro V' V'' hV' hV'' o1 o2 o3 r1 r2 r3
    refine ⟨⟨?_, .inr ⟨W.heap.size, G, cur2, rfl, hlow, setRow_heap _ _ cur1 cur2 79 (0, 0) (by rw [hV'']; exact hh1 V' hV'), hGn, hG63, by rw [hs2', hRs], ?_⟩⟩, ⟨r1.trans o1, r2.trans o2, r3.trans o3, ?_, fun b hb _ => ?_⟩⟩
    · simp only [List.length_append, htl, hdl, hvl]
      omega
    · have := seg_grow (cs := xs) (i := i * 2) (n := n * 2) (m := m * 2) hxl hvl (by omega) ROW hRl
      rw [hcur2, hcur1, Nat.add_mul, Nat.add_mul]
      exact this
    · rw [size_setRow, hV'', size_setRow, hV']; exact hVB.size
    · rw [setRow_other _ _ b cur2 (by omega), hV'', setRow_other _ _ b cur1 (by omega), hV', hVB.block b hb]
  have hGi : ¬ (G = i) := by omega
  have hGim : ¬ (G = i + m) := by omega
  have hqi : ¬ (q = i) := by omega
  have hb3 : (i : Int) ≤ (n : Int) + (m : Int) := by omega
  have hE : ((W.alloc (.cells ROW 79)).drew).heap = V.heap := by rw [hV]; rfl
  have hF : (((W.alloc (.cells ROW 79)).drew.setRow W.heap.size cur1).drew).heap = ((W.alloc (.cells ROW 79)).drew.setRow W.heap.size cur1).heap := rfl
  subst hV
  clear hcur1 hcur2 hh1 hcc hg hgc hv hvl hv1 hx1 htk hxl hdl hfit1 hfit2 hs1' hs2' hcs hRl hRs hold hkk hik htl hVg hVB hz1 hZs hG63
  go_enter Tryz.func91, Tryz.ntmps91
  go_wp2_with (first
    | (at_builtin; refine Lib.wpList_append_run _ rfl _ _ _ _ rfl _ _ rfl rfl _ _ (hrz _) ?_)
    | (at_builtin; refine wpList_copy_runJ _ rfl _ _ 35 35 rfl _ _ rfl rfl (hcpA _ hE _ _) ?_))
  go_region_law_o (refine step_copy_runJ rfl _ _ 35 35 rfl (.slice (some ⟨W.heap.size, (i + m) * 2, none⟩) (n + m - (i + m)) (G - (i + m))) (.slice (some ⟨g, i * 2, none⟩) (n - i) (q - i)) (by simp [Act.eval, Act.put]) (by simp [Act.eval, Act.put]) (hcpB _ _ hE hF 3 (G - (i + m)) (q - i)) ?_)
  go_wp2
  go_ret
  obtain ⟨r1, r2⟩ := HEND.out _ _ hE hF rfl rfl rfl rfl rfl rfl
  exact ⟨W.heap.size, G, rfl, r1, r2⟩

set_option maxRecDepth 8000 in
set_option maxHeartbeats 8000000 in
theorem delB (lo : Nat) (W : World) (g n q : Nat) (xs : List Value) (h : W.ownsRow lo 79 2 (.slice (some ⟨g, 0, none⟩) n q) n xs) (hx1 : ∀ u ∈ xs, u.oneCell' = true) (k : Nat) (hk : k < n) (hn : n ≤ 1048576) :
    Calls Tryz.prog 88 #[.slice (some ⟨g, 0, none⟩) n q, .int .i64 (k : Nat), .int .i64 ((k : Int) + 1)] W fun e W' => e = .returned (.slice (some ⟨g, 0, none⟩) (n - 1) q) ∧ W'.ownsRow lo 79 2 (.slice (some ⟨g, 0, none⟩) (n - 1) q) (n - 1) (xs.take (k * 2) ++ xs.drop ((k + 1) * 2)) ∧ BelO (some ⟨g, 0, none⟩) W W' := by
  obtain ⟨hxl, hrow⟩ := h
  rcases hrow with ⟨e, _⟩ | ⟨g', cap, cur, e, hlo, hg, hcap, hcm, hcs, htk⟩
  · cases e
  cases e
  obtain ⟨i1, hi1, ei1⟩ := Option.map_eq_some_iff.1 Tryz.infBt
  simp only [Prod.mk.injEq] at ei1
  obtain ⟨hz1, hs1, hy1⟩ := ei1
  have hcm' := hcm
  unfold maxLen at hcm'
  have mixed : Tryz.prog.follows .mixedOrders = true := by kernel_rfl
  have hq13 : n * 2 ≤ q * 2 := Nat.mul_le_mul_right 2 hcap
  have hk13 : (k + 1) * 2 ≤ n * 2 := Nat.mul_le_mul_right 2 hk
  have hdl : (xs.drop ((k + 1) * 2)).length = (n - (k + 1)) * 2 := by rw [List.length_drop, hxl, Nat.sub_mul]
  have hcc : ∀ j u, xs[j]? = some u → W.cell? ⟨g, j, none⟩ = some u := fun j u hj => by
    rw [← htk, List.getElem?_take] at hj
    simp only [World.cell?, hg]
    split at hj
    · simpa using hj
    · cases hj
  obtain ⟨Z, hZ⟩ : ∃ Z : Value, Z = (.agg #[.string ByteArray.empty, .bool false]) := ⟨_, rfl⟩
  rw [← hZ] at hz1
  have hZs : Z.cells.size = 2 := by rw [hZ]; rfl
  have hZ1 : ∀ v ∈ (Builtin.zeroCells Z.cells 1).toList, v.oneCell' = true := by
    have : ((Builtin.zeroCells Z.cells 1).toList.all Value.oneCell') = true := by rw [hZ]; kernel_rfl
    exact List.all_eq_true.1 this
  clear hZ
  obtain ⟨zs, hzs⟩ : ∃ zs, zs = (Builtin.zeroCells Z.cells 1).toList := ⟨_, rfl⟩
  have hzl : zs.length = 2 := by rw [hzs, zc_len, hZs]
  obtain ⟨cur1, hcur1⟩ : ∃ cur1, cur1 = seg cur (k * 2) (xs.drop ((k + 1) * 2)) := ⟨_, rfl⟩
  obtain ⟨cur2, hcur2⟩ : ∃ cur2, cur2 = seg cur1 ((n - 1) * 2) zs := ⟨_, rfl⟩
  have hfit1 : k * 2 + (xs.drop ((k + 1) * 2)).length ≤ cur.size := by rw [hdl, hcs]; omega
  have hs1' : cur1.size = cur.size := by rw [hcur1]; exact seg_size hfit1
  have hfit2 : (n - 1) * 2 + zs.length ≤ cur1.size := by rw [hzl, hs1', hcs]; omega
  have hs2' : cur2.size = cur.size := by rw [hcur2, seg_size hfit2, hs1']
  have hnk : k + (n - (k + 1)) = n - 1 := by omega
  have hap : ∀ (o c : Nat), (o = (k + 1) * 2 ∨ n = k + 1) → ∀ ty, (Builtin.append_ #[35, 35] ty #[.slice (some ⟨g, 0, none⟩) k q, .slice (some ⟨g, o, none⟩) (n - (k + 1)) c]).run Tryz.prog W.drew = .ok (.slice (some ⟨g, 0, none⟩) (n - 1) q) (W.drew.setRow g cur1) := fun o c ho ty => by
    have hsrc : Src Tryz.prog i1.size 35 (.slice (some ⟨g, o, none⟩) (n - (k + 1)) c) (n - (k + 1)) (xs.drop ((k + 1) * 2)) W.drew := by
      rw [hs1]
      refine Src.ofSlice W.drew Tryz.undBt ⟨g, o, none⟩ (n - (k + 1)) c _ hdl (fun j u hj => ?_) (fun u hu => hx1 u (List.mem_of_mem_drop hu))
      rcases ho with rfl | ho
      · rw [addN]; exact hcc _ u (by rwa [List.getElem?_drop] at hj)
      · have : j < (xs.drop ((k + 1) * 2)).length := (List.getElem?_eq_some_iff.1 hj).1
        rw [hdl, ho] at this
        omega
    have := run_append_rowK W.drew 35 35 ty 79 i1 Tryz.undBt hi1 g 0 k q _ (n - (k + 1)) _ hsrc (by omega) cur 79 hg (by rw [hs1, Nat.zero_add]; exact hfit1)
    rw [hnk, hs1, Nat.zero_add, ← hcur1] at this
    exact this
  have hh1 : (W.drew.setRow g cur1).heap[g]? = some (.cells cur1 79 (0, 0)) := setRow_heap W.drew g cur cur1 79 (0, 0) hg
  have hcl : ∀ ty c, (Builtin.clear_ #[35] ty #[.slice (some ⟨g, (n - 1) * 2, none⟩) 1 c]).run Tryz.prog (W.drew.setRow g cur1) = .ok (.tuple #[]) ((W.drew.setRow g cur1).setRow g cur2) := fun ty c => by
    have := run_clear_rowK (n := 1) (W.drew.setRow g cur1) 35 79 ty Z Tryz.undBt (fun w => by simp [zeroValue, typeInfo, hi1, hz1]) hZ1 g ((n - 1) * 2) c cur1 79 (by omega) hh1 (by rw [← hzs]; exact hfit2)
    rw [← hzs, ← hcur2] at this
    exact this
  have HEND : Hid (((W.drew.setRow g cur1).setRow g cur2).ownsRow lo 79 2 (.slice (some ⟨g, 0, none⟩) (n - 1) q) (n - 1) (xs.take (k * 2) ++ xs.drop ((k + 1) * 2))) := by
    refine ⟨?_, .inr ⟨g, q, cur2, rfl, hlo, setRow_heap _ g cur1 cur2 79 (0, 0) hh1, by omega, hcm, by rw [hs2', hcs], ?_⟩⟩
    · simp only [List.length_append, List.length_take, hdl, hxl]
      omega
    · have h1 : cur2.toList.take ((n - 1) * 2) = cur1.toList.take ((n - 1) * 2) := by rw [hcur2]; exact seg_past (Nat.le_refl _) (by omega)
      rw [h1, hcur1]
      have := seg_cut (l := cur.toList) (i := k * 2) (d := 2) (n := n * 2) htk hxl (by omega) cur rfl
      rw [show n * 2 - 2 = (n - 1) * 2 by omega, show k * 2 + 2 = (k + 1) * 2 by omega] at this
      exact this
  have HBEL : Hid (BelO (some ⟨g, 0, none⟩) W ((W.drew.setRow g cur1).setRow g cur2)) := ⟨rfl, rfl, rfl, by rw [size_setRow, size_setRow]; exact Nat.le_refl _, fun b _ hb => by
    rw [setRow_other _ g b cur2 (hb g rfl), setRow_other _ g b cur1 (hb g rfl)]; rfl⟩
  clear hcur1 hcur2 hh1 hcc hg hx1 htk hxl hdl hfit1 hfit2 hs1' hs2' hcs hzs hzl hZ1 hZs hz1 hs1 hy1
  have k0 : (0 : Int) ≤ (k : Int) := by omega
  have k1 : (k : Int) ≤ (n : Int) := by omega
  have k2 : (0 : Int) ≤ (k : Int) + 1 := by omega
  have k3 : (k : Int) + 1 ≤ (n : Int) := by omega
  have k4 : (k : Int) ≤ (k : Int) + 1 := by omega
  have k5 : ((k : Int) + 1).toNat = k + 1 := by omega
  have k6 : ¬ ((k : Int) = (k : Int) + 1) := by omega
  have k7 : (k : Int) ≤ (q : Int) := by omega
  have k8 : (n : Int) ≤ (q : Int) := by omega
  have k9 : ((n - 1 : Nat) : Int) ≤ (n : Int) := by omega
  have n1 : n - (n - 1) = 1 := by omega
  have n2 : ¬ (q = n - 1) := by omega
  have n3 : ¬ (q = k) := by omega
  have n4 : ¬ (n = k) := by omega
  by_cases hqk : q = k + 1
  · have hnk1 : n = k + 1 := by omega
    subst hnk1 hqk
    simp only [Nat.add_sub_cancel, Nat.sub_self] at hap hcl HEND HBEL ⊢
    have hap1 := hap 0 0 (Or.inr trivial)
    clear hap n1 n2 n3 n4 k9 hnk
    go_enter Tryz.func88, Tryz.ntmps88
    go_wp2_with fail
    go_region_law_o (refine step_append_runJ rfl _ _ 35 35 rfl (.slice (some ⟨g, 0, none⟩) k (k + 1)) (.slice (some ⟨g, 0, none⟩) 0 0) (by simp [Act.eval, Act.put]) (by simp [Act.eval, Act.put]) (hap1 35) ?_)
    go_wp2_with (at_builtin; refine wpList_clear_runJ _ rfl _ 35 rfl _ rfl (hcl _ _) ?_)
    go_ret
    exact ⟨rfl, HEND.out, HBEL.out⟩
  · go_enter Tryz.func88, Tryz.ntmps88
    go_wp2_with fail
    go_region_law_o (refine step_append_runJ rfl _ _ 35 35 rfl (.slice (some ⟨g, 0, none⟩) k q) (.slice (some ⟨g, (k + 1) * 2, none⟩) (n - (k + 1)) (q - (k + 1))) (by simp [Act.eval, Act.put]) (by simp [Act.eval, Act.put]) (hap ((k + 1) * 2) (q - (k + 1)) (Or.inl rfl) 35) ?_)
    go_wp2_with (at_builtin; refine wpList_clear_runJ _ rfl _ 35 rfl _ rfl (hcl _ _) ?_)
    go_ret
    exact ⟨rfl, HEND.out, HBEL.out⟩

end Go.Proofs.YtclagbakddkjcaaGreat
