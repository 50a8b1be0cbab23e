/-
  slices.Insert of services.
-/
import Derived.Test.YtclagbakddkjcaaGreatSlH
namespace Go.Proofs.YtclagbakddkjcaaGreat
open Go.RowKit Go.Deep

set_option maxRecDepth 8000 in
set_option maxHeartbeats 8000000 in
/-- At the end. -/
theorem insEndS (lo : Nat) (W : World) (p1 : Option Addr) (n q : Nat) (xs vs : List Value) (h : W.ownsRow lo 41 13 (.slice p1 n q) n xs) (gc m qc : Nat) (hv : ∀ j u, vs[j]? = some u → W.cell? ⟨gc, j, none⟩ = some u) (hvl : vs.length = m * 13) (hv1 : ∀ u ∈ vs, u.oneCell' = true) (hm : 0 < m) (hn : n + m ≤ 1048576) (hlo : lo ≤ W.heap.size) :
    Calls Tryz.prog 84 #[.slice p1 n q, .int .i64 (n : Nat), .slice (some ⟨gc, 0, none⟩) m qc] W fun e W' => ∃ g' q', e = .returned (.slice (some ⟨g', 0, none⟩) (n + m) q') ∧ W'.ownsRow lo 41 13 (.slice (some ⟨g', 0, none⟩) (n + m) q') (n + m) (xs ++ vs) ∧ BelO p1 W W' := by
  have HH := hid h
  have HV := hid hv
  have HVL := hid hvl
  have HV1 := hid hv1
  have HLO := hid hlo
  have hqc : n ≤ q ∧ q ≤ maxLen := by
    rcases h.2 with ⟨e, e'⟩ | ⟨g, cap, cur, e, _, _, hc, hcm, _⟩
    · cases e; exact ⟨Nat.le_refl _, Nat.zero_le _⟩
    · cases e; exact ⟨hc, hcm⟩
  unfold maxLen at hqc
  obtain ⟨hq1, hq2⟩ := hqc
  clear h hv hvl hv1 hlo
  obtain ⟨i1, hi1, ei1⟩ := Option.map_eq_some_iff.1 Tryz.infSv
  simp only [Prod.mk.injEq] at ei1
  obtain ⟨hz1, hs1, hy1⟩ := ei1
  have hm1 : ¬ ((m : Int) = 0) := by omega
  have hn0 : (0 : Int) ≤ (n : Int) := by omega
  have hnq : (n : Int) ≤ (q : Int) := by omega
  cases p1 with
  | none =>
    obtain ⟨rfl, rfl⟩ : n = 0 ∧ q = 0 := by
      rcases HH.out.2 with ⟨e, e'⟩ | ⟨g, cap, cur, e, _⟩
      · cases e; exact ⟨e', rfl⟩
      · cases e
    simp only [Nat.zero_add]
    go_enter Tryz.func84, Tryz.ntmps84
    go_wp2_with (at_builtin; refine wpList_append_own _ rfl _ _ 33 rfl lo 41 i1 _ 13 112 Tryz.undSv hi1 hz1 hs1 hy1 rfl (by decide) _ _ xs rfl HH.out ⟨gc, 0, none⟩ m qc vs rfl ?a1x ?a2x ?a3x ?a4x ?a5x ?a6x ?_)
    case a1x => exact HVL.out
    case a2x =>
      intro j u hj
      rw [addN, Nat.zero_add]
      exact HV.out j u hj
    case a3x => exact HV1.out
    case a4x => unfold maxLen; omega
    case a5x => omega
    case a6x => exact HLO.out
    intro v1 w1 ho1 hg1 hn1
    obtain ⟨d1, e1, rfl⟩ := owns_is ho1
    have HNN : Hid (∃ g', d1 = some ⟨g', 0, none⟩) := by
      rcases ho1.2 with ⟨e, e'⟩ | ⟨g, cap, cur, e, _⟩
      · omega
      · cases e; exact ⟨g, rfl⟩
    have HO := hid ho1
    have HG : Hid (BelO none W w1) := ⟨hg1.os, hg1.tape, hg1.output, hg1.size, fun b hb hne => hg1.block b hb (fun e => by cases e)⟩
    clear ho1 hg1 hn1
    obtain ⟨g', rfl⟩ := HNN.out
    go_wp2
    go_ret
    exact ⟨g', e1, rfl, HO.out, HG.out⟩
  | some ad =>
    obtain ⟨g0, rfl⟩ : ∃ g0, ad = ⟨g0, 0, none⟩ := by
      rcases HH.out.2 with ⟨e, e'⟩ | ⟨g, cap, cur, e, _⟩
      · cases e
      · cases e; exact ⟨g, rfl⟩
    by_cases hqn : q = n
    · subst hqn
      go_enter Tryz.func84, Tryz.ntmps84
      go_wp2_with (at_builtin; refine wpList_append_own _ rfl _ _ 33 rfl lo 41 i1 _ 13 112 Tryz.undSv hi1 hz1 hs1 hy1 rfl (by decide) _ _ xs rfl HH.out ⟨gc, 0, none⟩ m qc vs rfl ?a1y ?a2y ?a3y ?a4y ?a5y ?a6y ?_)
      case a1y => exact HVL.out
      case a2y =>
        intro j u hj
        rw [addN, Nat.zero_add]
        exact HV.out j u hj
      case a3y => exact HV1.out
      case a4y => unfold maxLen; omega
      case a5y => omega
      case a6y => exact HLO.out
      intro v1 w1 ho1 hg1 hn1
      obtain ⟨d1, e1, rfl⟩ := owns_is ho1
      have HNN : Hid (∃ g', d1 = some ⟨g', 0, none⟩) := by
        rcases ho1.2 with ⟨e, e'⟩ | ⟨g, cap, cur, e, _⟩
        · omega
        · cases e; exact ⟨g, rfl⟩
      have HO := hid ho1
      have HG : Hid (BelO (some ⟨g0, 0, none⟩) W w1) := ⟨hg1.os, hg1.tape, hg1.output, hg1.size, fun b hb hne => hg1.block b hb (fun e => hne g0 rfl (by injection e))⟩
      clear ho1 hg1 hn1
      obtain ⟨g', rfl⟩ := HNN.out
      go_wp2
      go_ret
      exact ⟨g', e1, rfl, HO.out, HG.out⟩
    · have hqn' : ¬ (n = q) := fun e => hqn e.symm
      go_enter Tryz.func84, Tryz.ntmps84
      go_wp2_with (at_builtin; refine wpList_append_own _ rfl _ _ 33 rfl lo 41 i1 _ 13 112 Tryz.undSv hi1 hz1 hs1 hy1 rfl (by decide) _ _ xs rfl HH.out ⟨gc, 0, none⟩ m qc vs rfl ?a1z ?a2z ?a3z ?a4z ?a5z ?a6z ?_)
      case a1z => exact HVL.out
      case a2z =>
        intro j u hj
        rw [addN, Nat.zero_add]
        exact HV.out j u hj
      case a3z => exact HV1.out
      case a4z => unfold maxLen; omega
      case a5z => omega
      case a6z => exact HLO.out
      intro v1 w1 ho1 hg1 hn1
      obtain ⟨d1, e1, rfl⟩ := owns_is ho1
      have HNN : Hid (∃ g', d1 = some ⟨g', 0, none⟩) := by
        rcases ho1.2 with ⟨e, e'⟩ | ⟨g, cap, cur, e, _⟩
        · omega
        · cases e; exact ⟨g, rfl⟩
      have HO := hid ho1
      have HG : Hid (BelO (some ⟨g0, 0, none⟩) W w1) := ⟨hg1.os, hg1.tape, hg1.output, hg1.size, fun b hb hne => hg1.block b hb (fun e => hne g0 rfl (by injection e))⟩
      clear ho1 hg1 hn1
      obtain ⟨g', rfl⟩ := HNN.out
      go_wp2
      go_ret
      exact ⟨g', e1, rfl, HO.out, HG.out⟩

set_option maxRecDepth 8000 in
set_option maxHeartbeats 8000000 in
/-- In place: there is room. -/
theorem insRoomS (lo : Nat) (W : World) (g n q : Nat) (xs vs : List Value) (h : W.ownsRow lo 41 13 (.slice (some ⟨g, 0, none⟩) n q) n xs) (hx1 : ∀ u ∈ xs, u.oneCell' = true) (gc m qc : Nat) (curC : Array Value) (hgc : W.heap[gc]? = some (.cells curC 41 (0, 0))) (hv : ∀ j u, vs[j]? = some u → W.cell? ⟨gc, j, none⟩ = some u) (hvl : vs.length = m * 13) (hv1 : ∀ u ∈ vs, u.oneCell' = true) (hm : 0 < m) (hne : gc ≠ g) (i : Nat) (hi : i < n) (hroom : n + m ≤ q) (hn : n + m ≤ 1048576) :
    Calls Tryz.prog 84 #[.slice (some ⟨g, 0, none⟩) n q, .int .i64 (i : Nat), .slice (some ⟨gc, 0, none⟩) m qc] W fun e W' => ∃ g' q', e = .returned (.slice (some ⟨g', 0, none⟩) (n + m) q') ∧ W'.ownsRow lo 41 13 (.slice (some ⟨g', 0, none⟩) (n + m) q') (n + m) (xs.take (i * 13) ++ vs ++ xs.drop (i * 13)) ∧ BelO (some ⟨g, 0, none⟩) W W' := by
  obtain ⟨hxl, hrow⟩ := h
  rcases hrow with ⟨e, _⟩ | ⟨g', cap, cur, e, hlo, hg, hcap, hcm, hcs, htk⟩
  · cases e
  cases e
  obtain ⟨i1, hi1, ei1⟩ := Option.map_eq_some_iff.1 Tryz.infSv
  simp only [Prod.mk.injEq] at ei1
  obtain ⟨hz1, hs1, hy1⟩ := ei1
  have hsz : (Tryz.prog.info? 41).map (·.size) = some 13 := by rw [hi1]; simp [hs1]
  unfold maxLen at hcm
  have hm1 : ¬ ((m : Int) = 0) := by omega
  have hz2 : ¬ ((i : Int) = (n : Int)) := by omega
  have hz3 : ¬ ((q : Int) < (n : Int) + (m : Int)) := by omega
  have hi0 : (0 : Int) ≤ (i : Int) := by omega
  have hin : (i : Int) ≤ (n : Int) := by omega
  have hb1 : (0 : Int) ≤ (i : Int) + (m : Int) := by omega
  have htn : ((i : Int) + (m : Int)).toNat = i + m := by omega
  have htn2 : ((n : Int) + (m : Int)).toNat = n + m := by omega
  have hb2 : ¬ (q = i + m) := by omega
  have hb3 : (i : Int) ≤ (n : Int) + (m : Int) := by omega
  have hb4 : ¬ (q = i) := by omega
  have hb5 : (i : Int) + (m : Int) ≤ (n : Int) + (m : Int) := by omega
  have hb6 : (0 : Int) ≤ (n : Int) + (m : Int) := by omega
  have hb7 : (n : Int) + (m : Int) ≤ (q : Int) := by omega
  have mixed : Tryz.prog.follows .mixedOrders = true := by kernel_rfl
  have hw1 : IntKind.i64.wrap ((i : Int) + (m : Int)) = (i : Int) + (m : Int) := wrapI _ (by omega) (by omega)
  have hw2 : IntKind.i64.wrap ((n : Int) + (m : Int)) = (n : Int) + (m : Int) := wrapI _ (by omega) (by omega)
  have hdl : (xs.drop (i * 13)).length = (n - i) * 13 := by rw [List.length_drop, hxl, Nat.sub_mul]
  have hmul : n * 13 ≤ q * 13 := Nat.mul_le_mul_right 13 hcap
  have hcc : ∀ j u, xs[j]? = some u → W.cell? ⟨g, j, none⟩ = some u := fun j u hj => by
    rw [← htk, List.getElem?_take] at hj
    simp only [World.cell?, hg]
    split at hj
    · simpa using hj
    · cases hj
  obtain ⟨cur1, hcur1⟩ : ∃ cur1, cur1 = seg cur ((i + m) * 13) (xs.drop (i * 13)) := ⟨_, rfl⟩
  obtain ⟨cur2, hcur2⟩ : ∃ cur2, cur2 = seg cur1 (i * 13) vs := ⟨_, rfl⟩
  have hfit1 : (i + m) * 13 + (xs.drop (i * 13)).length ≤ cur.size := by rw [hdl, hcs]; omega
  have hs1' : cur1.size = cur.size := by rw [hcur1]; exact seg_size hfit1
  have hfit2 : i * 13 + vs.length ≤ cur1.size := by rw [hvl, hs1', hcs]; omega
  have hs2' : cur2.size = cur.size := by rw [hcur2, seg_size hfit2, hs1']
  have hcp1 : ∀ ty dc sc, (Builtin.copy_ #[33, 33] ty #[.slice (some ⟨g, (i + m) * 13, none⟩) (n + m - (i + m)) dc, .slice (some ⟨g, i * 13, none⟩) (n + m - i) sc]).run Tryz.prog W.drew = .ok (goInt (Nat.min (n + m - i) (n + m - (i + m)))) (W.drew.setRow g cur1) := fun ty dc sc => by
    rw [hcur1]
    refine run_copy_rowK W.drew _ _ ty 41 13 g ((i + m) * 13) (n + m - (i + m)) dc ⟨g, i * 13, none⟩ (n + m - i) sc cur 41 (xs.drop (i * 13)) Tryz.undSv hsz hg ?_ (fun j u hj => ?_) hfit1 (fun u hu => hx1 u (List.mem_of_mem_drop hu))
    · rw [hdl]; congr 1; simp only [Nat.min_def]; split <;> omega
    · rw [addN]; exact hcc _ u (by rwa [List.getElem?_drop] at hj)
  have hh1 : (W.drew.setRow g cur1).heap[g]? = some (.cells cur1 41 (0, 0)) := setRow_heap W.drew g cur cur1 41 (0, 0) hg
  have hcp2 : ∀ ty dc, (Builtin.copy_ #[33, 33] ty #[.slice (some ⟨g, i * 13, none⟩) (n + m - i) dc, .slice (some ⟨gc, 0, none⟩) m qc]).run Tryz.prog (W.drew.setRow g cur1) = .ok (goInt (Nat.min m (n + m - i))) ((W.drew.setRow g cur1).setRow g cur2) := fun ty dc => by
    rw [hcur2]
    refine run_copy_rowK _ _ _ ty 41 13 g (i * 13) (n + m - i) dc ⟨gc, 0, none⟩ m qc cur1 41 vs Tryz.undSv hsz hh1 ?_ (fun j u hj => ?_) hfit2 hv1
    · rw [hvl]; congr 1; simp only [Nat.min_def]; split <;> omega
    · rw [addN, Nat.zero_add]
      have := hv j u hj
      unfold World.cell? at this ⊢
      rw [setRow_other W.drew g gc cur1 hne]
      exact this
  have hov : ∀ lb cb, (callFunc 104 #[.slice (some ⟨gc, 0, none⟩) m qc, .slice (some ⟨g, (i + m) * 13, none⟩) lb cb]).run Tryz.prog W = .ok (.value (.bool false)) W := fun lb cb => by
    rw [run_callFunc_extern Tryz.func104 (by kernel_rfl) (by kernel_rfl) (by kernel_rfl) (e := Extern.SlicesOverlaps.overlaps #[33, 33] #[4]) (by kernel_rfl),
      Lib.run_overlaps_apart W 33 4 41 Tryz.undSv 13 (fun w => by simp [sizeOf, typeInfo, hi1, hs1]) ⟨gc, 0, none⟩ ⟨g, (i + m) * 13, none⟩ m qc lb cb hne 41 41 curC.size cur.size (by simp [World.shape?, hgc]) (by simp [World.shape?, hg]) (by omega) (frozen_blk hgc 0) (frozen_blk hgc _)]
    rfl
  have HEND : Hid (((W.drew.setRow g cur1).setRow g cur2).ownsRow lo 41 13 (.slice (some ⟨g, 0, none⟩) (n + m) q) (n + m) (xs.take (i * 13) ++ vs ++ xs.drop (i * 13))) := by
    refine ⟨?_, .inr ⟨g, q, cur2, rfl, hlo, setRow_heap _ g cur1 cur2 41 (0, 0) hh1, hroom, by unfold maxLen; exact hcm, by rw [hs2', hcs], ?_⟩⟩
    · simp only [List.length_append, List.length_take, hdl, hvl, hxl]
      have : i * 13 ≤ n * 13 := Nat.mul_le_mul_right 13 (by omega)
      omega
    · have := seg_shift (l := cur.toList) (i := i * 13) (n := n * 13) (m := m * 13) htk hxl hvl (by omega) (by rw [Array.length_toList, hcs]; omega) cur rfl
      rw [hcur2, hcur1, Nat.add_mul, Nat.add_mul]
      exact this
  have HBEL : Hid (BelO (some ⟨g, 0, none⟩) W ((W.drew.setRow g cur1).setRow g cur2)) := ⟨rfl, rfl, rfl, by rw [size_setRow, size_setRow]; exact Nat.le_refl _, fun b _ hb => by
    rw [setRow_other _ g b cur2 (hb g rfl), setRow_other _ g b cur1 (hb g rfl)]; rfl⟩
  clear hcur1 hcur2 hh1 hcc hg hgc hv hvl hv1 hx1 htk hxl hdl hfit1 hfit2 hs1' hs2' hcs hmul
  go_enter Tryz.func84, Tryz.ntmps84
  go_wp2_with (simp only [hov])
  go_region_law_o (refine step_copy_runJ rfl _ _ 33 33 rfl _ _ (by simp [Act.eval, Act.put]) (by simp [Act.eval, Act.put]) (hcp1 _ _ _) ?_)
  go_wp2_with (at_builtin; refine wpList_copy_runJ _ rfl _ _ 33 33 rfl _ _ rfl rfl (hcp2 _ _) ?_)
  go_ret
  exact ⟨g, q, rfl, HEND.out, HBEL.out⟩

set_option maxRecDepth 8000 in
set_option maxHeartbeats 8000000 in
/-- In a new row: there is no room. -/
theorem insGrowS (lo : Nat) (W : World) (g n q : Nat) (xs vs : List Value) (h : W.ownsRow lo 41 13 (.slice (some ⟨g, 0, none⟩) n q) n xs) (hx1 : ∀ u ∈ xs, u.oneCell' = true) (gc m qc : Nat) (curC : Array Value) (hgc : W.heap[gc]? = some (.cells curC 41 (0, 0))) (hv : ∀ j u, vs[j]? = some u → W.cell? ⟨gc, j, none⟩ = some u) (hvl : vs.length = m * 13) (hv1 : ∀ u ∈ vs, u.oneCell' = true) (hm : 0 < m) (i : Nat) (hi : i < n) (hroom : q < n + m) (hlow : lo ≤ W.heap.size) (hn : n + m ≤ 1048576) :
    Calls Tryz.prog 84 #[.slice (some ⟨g, 0, none⟩) n q, .int .i64 (i : Nat), .slice (some ⟨gc, 0, none⟩) m qc] W fun e W' => ∃ g' q', e = .returned (.slice (some ⟨g', 0, none⟩) (n + m) q') ∧ W'.ownsRow lo 41 13 (.slice (some ⟨g', 0, none⟩) (n + m) q') (n + m) (xs.take (i * 13) ++ vs ++ xs.drop (i * 13)) ∧ BelO (some ⟨g, 0, none⟩) W W' := by
  obtain ⟨hxl, hrow⟩ := h
  rcases hrow with ⟨e, _⟩ | ⟨g', cap, cur, e, hlo, hg, hcap, hcm, hcs, htk⟩
  · cases e
  cases e
  obtain ⟨i1, hi1, ei1⟩ := Option.map_eq_some_iff.1 Tryz.infSv
  simp only [Prod.mk.injEq] at ei1
  obtain ⟨hz1, hs1, hy1⟩ := ei1
  have hsz : (Tryz.prog.info? 41).map (·.size) = some 13 := by rw [hi1]; simp [hs1]
  unfold maxLen at hcm
  have mixed : Tryz.prog.follows .mixedOrders = true := by kernel_rfl
  have hm1 : ¬ ((m : Int) = 0) := by omega
  have hz2 : ¬ ((i : Int) = (n : Int)) := by omega
  have hz3 : (q : Int) < (n : Int) + (m : Int) := by omega
  have hi0 : (0 : Int) ≤ (i : Int) := by omega
  have hin : (i : Int) ≤ (n : Int) := by omega
  have hb1 : (0 : Int) ≤ (i : Int) + (m : Int) := by omega
  have htn : ((i : Int) + (m : Int)).toNat = i + m := by omega
  have hw1 : IntKind.i64.wrap ((i : Int) + (m : Int)) = (i : Int) + (m : Int) := wrapI _ (by omega) (by omega)
  have hw2 : IntKind.i64.wrap ((n : Int) + (m : Int)) = (n : Int) + (m : Int) := wrapI _ (by omega) (by omega)
  have hw3 : IntKind.i64.wrap ((n : Int) + (m : Int) - (i : Int)) = (n : Int) + (m : Int) - (i : Int) := wrapI _ (by omega) (by omega)
  have hkk : (n : Int) + (m : Int) - (i : Int) = ((n + m - i : Nat) : Int) := by omega
  have hik : i + (n + m - i) = n + m := by omega
  have hiq : (i : Int) ≤ (q : Int) := by omega
  have hdl : (xs.drop (i * 13)).length = (n - i) * 13 := by rw [List.length_drop, hxl, Nat.sub_mul]
  have hin7 : i * 13 ≤ n * 13 := Nat.mul_le_mul_right 13 (by omega)
  have htl : (xs.take (i * 13)).length = i * 13 := by rw [List.length_take, hxl]; omega
  have hcc : ∀ j u, xs[j]? = some u → W.cell? ⟨g, j, none⟩ = some u := fun j u hj => by
    rw [← htk, List.getElem?_take] at hj
    simp only [World.cell?, hg]
    split at hj
    · simpa using hj
    · cases hj
  have hgl : g < W.heap.size := lt_heap hg
  have hgcl : gc < W.heap.size := lt_heap hgc
  have hold : (Builtin.firstCells i1.size i (.slice (some ⟨g, 0, none⟩) i q)).run Tryz.prog W.drew = .ok (xs.take (i * 13)).toArray W.drew := by
    rw [hs1]
    refine run_firstCells_some W.drew 13 i ⟨g, 0, none⟩ i q (xs.take (i * 13)) htl (fun j v hj => ?_)
    rw [addN, Nat.zero_add]
    rw [List.getElem?_take] at hj
    split at hj
    · exact hcc j v hj
    · cases hj
  obtain ⟨Z, hZ⟩ : ∃ Z : Value, Z = (.agg #[.string ByteArray.empty, .int .i64 0, .bool false, .int .i64 0, .int .i64 0, .int .i64 0, .int .i64 0, .int .i64 0, .int .i64 0, .int .i64 0, .int .i64 0, .int .i64 0, .int .i64 0]) := ⟨_, rfl⟩
  rw [← hZ] at hz1
  have hZs : Z.cells.size = 13 := by rw [hZ]; rfl
  clear hZ
  have hrz : ∀ ty, (Builtin.append_ #[33, 3] ty #[.slice (some ⟨g, 0, none⟩) i q, .int .i64 ((n : Int) + (m : Int) - (i : Int))]).run Tryz.prog W =
      .ok (.slice (some ⟨W.heap.size, 0, none⟩) (n + m) (grownCap W (n + m) q 41)) (W.drew.alloc (.cells ((xs.take (i * 13)).toArray ++ Builtin.zeroCells Z.cells (n + m - i) ++ Builtin.zeroCells Z.cells (grownCap W (n + m) q 41 - (n + m))) 41)) := fun ty => by
    have hmul : (n + m) * 112 ≤ 1048576 * 112 := Nat.mul_le_mul_right 112 hn
    have hmul2 : (n + m - i) * 112 ≤ 1048576 * 112 := Nat.mul_le_mul_right 112 (by omega)
    have h := Lib.run_append_grow_zeros W 33 3 ty 41 i1 Z .i64 .i64 Tryz.undSv (by kernel_rfl) hi1 hz1 (some ⟨g, 0, none⟩) i q (xs.take (i * 13)) hold (n + m - i) (by omega) (by omega) (by omega) (by omega) (by rw [hy1]; omega) (by rw [hy1, hik]; exact growslice_fits hroom (by omega))
    rw [hik] at h
    rw [hkk]
    exact h
  have hGn := grownCap_ge W (n + m) q 41
  have hG63 := grownCap_le_maxLen W (n + m) q 41 (by unfold maxLen; omega)
  obtain ⟨G, hG⟩ : ∃ G, G = grownCap W (n + m) q 41 := ⟨_, rfl⟩
  rw [← hG] at hrz hGn hG63
  clear hG
  have hG63' := hG63
  unfold maxLen at hG63'
  obtain ⟨ROW, hROW⟩ : ∃ ROW : Array Value, ROW = (xs.take (i * 13)).toArray ++ Builtin.zeroCells Z.cells (n + m - i) ++ Builtin.zeroCells Z.cells (G - (n + m)) := ⟨_, rfl⟩
  rw [← hROW] at hrz
  have hRs : ROW.size = G * 13 := by
    rw [hROW, Array.size_append, Array.size_append, size_zeroCells, size_zeroCells, hZs, List.size_toArray, htl]
    rw [← Nat.add_mul, ← Nat.add_mul]
    congr 1
    omega
  have hRl : ROW.toList = xs.take (i * 13) ++ ((Builtin.zeroCells Z.cells (n + m - i)).toList ++ (Builtin.zeroCells Z.cells (G - (n + m))).toList) := by
    rw [hROW]; simp
  clear hROW
  obtain ⟨cur1, hcur1⟩ : ∃ cur1, cur1 = seg ROW (i * 13) vs := ⟨_, rfl⟩
  obtain ⟨cur2, hcur2⟩ : ∃ cur2, cur2 = seg cur1 ((i + m) * 13) (xs.drop (i * 13)) := ⟨_, rfl⟩
  have hG7 : (n + m) * 13 ≤ G * 13 := Nat.mul_le_mul_right 13 hGn
  have hfit1 : i * 13 + vs.length ≤ ROW.size := by rw [hvl, hRs]; omega
  have hs1' : cur1.size = ROW.size := by rw [hcur1]; exact seg_size hfit1
  have hfit2 : (i + m) * 13 + (xs.drop (i * 13)).length ≤ cur1.size := by rw [hdl, hs1', hRs]; omega
  have hs2' : cur2.size = ROW.size := by rw [hcur2, seg_size hfit2, hs1']
  obtain ⟨V, hV⟩ : ∃ V, V = W.drew.alloc (.cells ROW 41) := ⟨_, rfl⟩
  have hVg : V.heap[W.heap.size]? = some (.cells ROW 41 (0, 0)) := by rw [hV]; exact heap_alloc_new W.drew _
  have hVB : Below W.heap.size W V := by rw [hV]; exact blw_alloc (Below.drew (Below.refl _ _)) _
  have hcpA : ∀ (V' : World), V'.heap = V.heap → ∀ ty dc, (Builtin.copy_ #[33, 33] ty #[.slice (some ⟨W.heap.size, i * 13, none⟩) (n + m - i) dc, .slice (some ⟨gc, 0, none⟩) m qc]).run Tryz.prog V' = .ok (goInt (Nat.min m (n + m - i))) (V'.setRow W.heap.size cur1) := fun V' hV' ty dc => by
    rw [hcur1]
    refine run_copy_rowK V' _ _ ty 41 13 W.heap.size (i * 13) (n + m - i) dc ⟨gc, 0, none⟩ m qc ROW 41 vs Tryz.undSv hsz (by rw [hV']; exact hVg) ?_ (fun j u hj => ?_) hfit1 hv1
    · rw [hvl]; congr 1; simp only [Nat.min_def]; split <;> omega
    · rw [addN, Nat.zero_add]
      have := hv j u hj
      unfold World.cell? at this ⊢
      rw [hV', hVB.block gc hgcl]
      exact this
  have hh1 : ∀ V' : World, V'.heap = V.heap → (V'.setRow W.heap.size cur1).heap[W.heap.size]? = some (.cells cur1 41 (0, 0)) := fun V' hV' => setRow_heap V' W.heap.size ROW cur1 41 (0, 0) (by rw [hV']; exact hVg)
  have hcpB : ∀ (V' V'' : World), V'.heap = V.heap → V''.heap = (V'.setRow W.heap.size cur1).heap → ∀ ty dc sc, (Builtin.copy_ #[33, 33] ty #[.slice (some ⟨W.heap.size, (i + m) * 13, none⟩) (n + m - (i + m)) dc, .slice (some ⟨g, i * 13, none⟩) (n - i) sc]).run Tryz.prog V'' = .ok (goInt (Nat.min (n - i) (n + m - (i + m)))) (V''.setRow W.heap.size cur2) := fun V' V'' hV' hV'' ty dc sc => by
    rw [hcur2]
    refine run_copy_rowK V'' _ _ ty 41 13 W.heap.size ((i + m) * 13) (n + m - (i + m)) dc ⟨g, i * 13, none⟩ (n - i) sc cur1 41 (xs.drop (i * 13)) Tryz.undSv hsz (by rw [hV'']; exact hh1 V' hV') ?_ (fun j u hj => ?_) hfit2 (fun u hu => hx1 u (List.mem_of_mem_drop hu))
    · rw [hdl]; congr 1; simp only [Nat.min_def]; split <;> omega
    · rw [addN]
      have := hcc (i * 13 + j) u (by rwa [List.getElem?_drop] at hj)
      unfold World.cell? at this ⊢
      rw [hV'', setRow_other V' W.heap.size g cur1 (by omega), hV', hVB.block g hgl]
      exact this
  have HEND : Hid (∀ (V' V'' : World), V'.heap = V.heap → V''.heap = (V'.setRow W.heap.size cur1).heap → V'.os = W.os → V'.tape = W.tape → V'.output = W.output → V''.os = V'.os → V''.tape = V'.tape → V''.output = V'.output → (V''.setRow W.heap.size cur2).ownsRow lo 41 13 (.slice (some ⟨W.heap.size, 0, none⟩) (n + m) G) (n + m) (xs.take (i * 13) ++ vs ++ xs.drop (i * 13)) ∧ BelO (some ⟨g, 0, none⟩) W (V''.setRow W.heap.size cur2)) := by
    intro V' V'' hV' hV'' o1 o2 o3 r1 r2 r3
    refine ⟨⟨?_, .inr ⟨W.heap.size, G, cur2, rfl, hlow, setRow_heap _ _ cur1 cur2 41 (0, 0) (by rw [hV'']; exact hh1 V' hV'), hGn, hG63, by rw [hs2', hRs], ?_⟩⟩, ⟨r1.trans o1, r2.trans o2, r3.trans o3, ?_, fun b hb _ => ?_⟩⟩
    · simp only [List.length_append, htl, hdl, hvl]
      omega
    · have := seg_grow (cs := xs) (i := i * 13) (n := n * 13) (m := m * 13) hxl hvl (by omega) ROW hRl
      rw [hcur2, hcur1, Nat.add_mul, Nat.add_mul]
      exact this
    · rw [size_setRow, hV'', size_setRow, hV']; exact hVB.size
    · rw [setRow_other _ _ b cur2 (by omega), hV'', setRow_other _ _ b cur1 (by omega), hV', hVB.block b hb]
  have hGi : ¬ (G = i) := by omega
  have hGim : ¬ (G = i + m) := by omega
  have hqi : ¬ (q = i) := by omega
  have hb3 : (i : Int) ≤ (n : Int) + (m : Int) := by omega
  have hE : ((W.alloc (.cells ROW 41)).drew).heap = V.heap := by rw [hV]; rfl
  have hF : (((W.alloc (.cells ROW 41)).drew.setRow W.heap.size cur1).drew).heap = ((W.alloc (.cells ROW 41)).drew.setRow W.heap.size cur1).heap := rfl
  subst hV
  clear hcur1 hcur2 hh1 hcc hg hgc hv hvl hv1 hx1 htk hxl hdl hfit1 hfit2 hs1' hs2' hcs hRl hRs hold hkk hik htl hVg hVB hz1 hZs hG63
  go_enter Tryz.func84, Tryz.ntmps84
  go_wp2_with (first
    | (at_builtin; refine Lib.wpList_append_run _ rfl _ _ _ _ rfl _ _ rfl rfl _ _ (hrz _) ?_)
    | (at_builtin; refine wpList_copy_runJ _ rfl _ _ 33 33 rfl _ _ rfl rfl (hcpA _ hE _ _) ?_))
  go_region_law_o (refine step_copy_runJ rfl _ _ 33 33 rfl (.slice (some ⟨W.heap.size, (i + m) * 13, none⟩) (n + m - (i + m)) (G - (i + m))) (.slice (some ⟨g, i * 13, none⟩) (n - i) (q - i)) (by simp [Act.eval, Act.put]) (by simp [Act.eval, Act.put]) (hcpB _ _ hE hF 3 (G - (i + m)) (q - i)) ?_)
  go_wp2
  go_ret
  obtain ⟨r1, r2⟩ := HEND.out _ _ hE hF rfl rfl rfl rfl rfl rfl
  exact ⟨W.heap.size, G, rfl, r1, r2⟩

end Go.Proofs.YtclagbakddkjcaaGreat
