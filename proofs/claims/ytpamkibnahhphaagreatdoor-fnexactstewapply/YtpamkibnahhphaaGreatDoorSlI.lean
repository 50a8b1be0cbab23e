/-
  slices.Insert of copies, by the library's own text.
-/
import Derived.Laws.CopyRow
import Derived.Laws.CopyOwn
import Derived.Laws.Externs
import Derived.Lib.Overlaps
import Derived.Lib.AppendZeros
import Derived.Lib.AppendZerosOnto
import Derived.Shelf.RegionOpenPlain
import Derived.Test.YtpamkibnahhphaaGreatDoorApO
import Derived.Test.YtpamkibnahhphaaGreatDoorPgA
import Derived.Test.YtpamkibnahhphaaGreatDoorSaX
import Derived.Test.YtpamkibnahhphaaGreatDoorOwS
namespace Go.Proofs.YtpamkibnahhphaaGreatDoor
open Go.RowKit Go.Deep

section
variable {P : Program}

/-- What stands in a row behind cells put into it. -/
def seg (cur : Array Value) (o : Nat) (cs : List Value) : Array Value := (cur.toList.take o ++ cs ++ cur.toList.drop (o + cs.length)).toArray
theorem seg_size {cur : Array Value} {o : Nat} {cs : List Value} (h : o + cs.length ≤ cur.size) : (seg cur o cs).size = cur.size := by
  unfold seg
  simp only [List.size_toArray, List.length_append, List.length_take, List.length_drop, Array.length_toList]
  omega

theorem run_copy_rowK (w : World) (dT sT ty elem : TypeId) (size g o dLen dCap : Nat) (a : Addr) (sLen sCap : Nat) (cur : Array Value) (t : TypeId) (cs : List Value)
    (hu : P.underlying dT = some (.slice elem)) (hs : (P.info? elem).map (·.size) = some size)
    (hg : w.heap[g]? = some (.cells cur t (0, 0))) (hn : cs.length = Nat.min sLen dLen * size)
    (hsrc : ∀ j v, cs[j]? = some v → w.cell? (a.add j) = some v) (hfit : o + cs.length ≤ cur.size) (h1 : ∀ v ∈ cs, v.oneCell' = true) :
    (Builtin.copy_ #[dT, sT] ty #[.slice (some ⟨g, o, none⟩) dLen dCap, .slice (some a) sLen sCap]).run P w =
      .ok (goInt (Nat.min sLen dLen)) (w.setRow g (seg cur o cs)) := by
  have hl := run_loadCells_list (P := P) w a cs hsrc
  have hst := run_storeCells_at (P := P) g o t cs 0 cur w hg (by simpa using hfit) h1
  rw [hn] at hl
  simp only [Nat.add_zero] at hst
  unfold seg
  cases hq : P.info? elem with
  | none => simp [hq] at hs
  | some i =>
    have hi : i.size = size := by simpa [hq] using hs
    simp [Builtin.copy_, run_underlying hu, Builtin.lenOf, Builtin.firstCells, sizeOf, typeInfo, hq, hi, hl, hst]

theorem run_clear_rowK {n : Nat} (w : World) (t e ty : TypeId) (z : Value) (ht : P.underlying t = some (.slice e)) (hv : ∀ w, (zeroValue e).run P w = .ok z w) (h1 : ∀ v ∈ (Builtin.zeroCells z.cells n).toList, v.oneCell' = true) (g o c : Nat) (cur : Array Value) (te : TypeId) (hn : 0 < n)
    (hg : w.heap[g]? = some (.cells cur te (0, 0))) (hfit : o + (Builtin.zeroCells z.cells n).toList.length ≤ cur.size) :
    (Builtin.clear_ #[t] ty #[.slice (some ⟨g, o, none⟩) n c]).run P w = .ok (.tuple #[]) (w.setRow g (seg cur o (Builtin.zeroCells z.cells n).toList)) := by
  have hst := run_storeCells_at (P := P) g o te (Builtin.zeroCells z.cells n).toList 0 cur w hg (by simpa using hfit) h1
  simp only [Nat.add_zero] at hst
  unfold seg
  obtain ⟨m, rfl⟩ : ∃ m, n = m + 1 := ⟨n - 1, by omega⟩
  simp [Builtin.clear_, run_underlying ht, hv, hst]

theorem run_append_rowK (w : World) (t tx ty e : TypeId) (i : TypeInfo) (ht : P.underlying t = some (.slice e)) (hi : P.info? e = some i) (g o sLen sCap : Nat) (x : Value) (n : Nat) (news : List Value) (hs : Src P i.size tx x n news w)
    (hroom : sLen + n ≤ sCap) (cur : Array Value) (te : TypeId) (hg : w.heap[g]? = some (.cells cur te (0, 0))) (hfit : o + sLen * i.size + news.length ≤ cur.size) :
    (Builtin.append_ #[t, tx] ty #[.slice (some ⟨g, o, none⟩) sLen sCap, x]).run P w = .ok (.slice (some ⟨g, o, none⟩) (sLen + n) sCap) (w.setRow g (seg cur (o + sLen * i.size) news)) := by
  have hst := run_storeCells_at (P := P) g (o + sLen * i.size) te news 0 cur w hg (by simpa using hfit) hs.one
  simp only [Nat.add_zero] at hst
  unfold seg
  rcases hs.kind with ⟨e', hk⟩ | hk <;> simp [Builtin.append_, run_underlying ht, run_underlying hk, sizeOf, typeInfo, hi, hs.len, hroom, hs.cells, Addr.add_lit, hst]

theorem seg_toList (cur : Array Value) (o : Nat) (cs : List Value) : (seg cur o cs).toList = cur.toList.take o ++ cs ++ cur.toList.drop (o + cs.length) := rfl
/-- In place: what stood from i on is moved up, then the new ones are put. -/
theorem seg_shift {l cs vs : List Value} {i n m : Nat} (hl : l.take n = cs) (hn : cs.length = n) (hm : vs.length = m) (hi : i ≤ n) (hr : n + m ≤ l.length) (cur : Array Value) (hc : cur.toList = l) :
    (seg (seg cur (i + m) (cs.drop i)) i vs).toList.take (n + m) = cs.take i ++ vs ++ cs.drop i := by
  have hd : (cs.drop i).length = n - i := by rw [List.length_drop, hn]
  have e1 : (l.take (i + m)).length = i + m := by rw [List.length_take]; omega
  have e2 : i + m + (cs.drop i).length = n + m := by rw [hd]; omega
  rw [seg_toList, seg_toList, hc, hm, e2]
  have a1 : (l.take (i + m) ++ cs.drop i ++ l.drop (n + m)).take i = cs.take i := by
    rw [List.append_assoc, List.take_append_of_le_length (by omega), List.take_take, ← hl, List.take_take]
    congr 1
    omega
  have a2 : (l.take (i + m) ++ cs.drop i ++ l.drop (n + m)).drop (i + m) = cs.drop i ++ l.drop (n + m) := by
    rw [List.append_assoc, List.drop_append_of_le_length (by omega), List.drop_of_length_le (by omega), List.nil_append]
  rw [a1, a2, ← List.append_assoc, List.take_append_of_le_length (by simp only [List.length_append, List.length_take, hm, hd, hn]; omega), List.take_of_length_le (by simp only [List.length_append, List.length_take, hm, hd, hn]; omega)]
/-- In a new row: the new ones are put, then what stood from i on. -/
theorem seg_grow {cs vs zs : List Value} {i n m : Nat} (hn : cs.length = n) (hm : vs.length = m) (hi : i ≤ n) (cur : Array Value) (hc : cur.toList = cs.take i ++ zs) :
    (seg (seg cur i vs) (i + m) (cs.drop i)).toList.take (n + m) = cs.take i ++ vs ++ cs.drop i := by
  have hd : (cs.drop i).length = n - i := by rw [List.length_drop, hn]
  have e0 : (cs.take i).length = i := by rw [List.length_take]; omega
  rw [seg_toList, seg_toList, hc, hm]
  have a1 : (cs.take i ++ zs).take i = cs.take i := by rw [List.take_append_of_le_length (by omega), List.take_of_length_le (by omega)]
  rw [a1]
  have a2 : (cs.take i ++ vs ++ (cs.take i ++ zs).drop (i + m)).take (i + m) = cs.take i ++ vs := by
    rw [List.take_append_of_le_length (by rw [List.length_append]; omega), List.take_of_length_le (by rw [List.length_append]; omega)]
  rw [a2, List.take_append_of_le_length (by simp only [List.length_append, hm, hd, e0]; omega), List.take_of_length_le (by simp only [List.length_append, hm, hd, e0]; omega)]
/-- What stood behind a place is moved down by one. -/
theorem seg_cut {l cs : List Value} {i d n : Nat} (hl : l.take n = cs) (hn : cs.length = n) (hi : i + d ≤ n) (cur : Array Value) (hc : cur.toList = l) :
    (seg cur i (cs.drop (i + d))).toList.take (n - d) = cs.take i ++ cs.drop (i + d) := by
  have hd : (cs.drop (i + d)).length = n - (i + d) := by rw [List.length_drop, hn]
  rw [seg_toList, hc]
  have a1 : l.take i = cs.take i := by
    rw [← hl, List.take_take]
    congr 1
    omega
  rw [a1, List.take_append_of_le_length (by simp only [List.length_append, List.length_take, hd, hn]; omega), List.take_of_length_le (by simp only [List.length_append, List.length_take, hd, hn]; omega)]
/-- Cells put behind those that are asked for. -/
theorem seg_past {cur : Array Value} {o n : Nat} {cs : List Value} (ho : n ≤ o) (hc : o ≤ cur.size) : (seg cur o cs).toList.take n = cur.toList.take n := by
  rw [seg_toList, List.append_assoc, List.take_append_of_le_length (by rw [List.length_take, Array.length_toList]; omega), List.take_take]
  congr 1
  omega
/-- All but one row as it was. -/
structure BelO (p : Option Addr) (v W : World) : Prop where
  os : W.os = v.os
  tape : W.tape = v.tape
  output : W.output = v.output
  size : v.heap.size ≤ W.heap.size
  block : ∀ b, b < v.heap.size → (∀ g, p = some ⟨g, 0, none⟩ → b ≠ g) → W.heap[b]? = v.heap[b]?

end
end Go.Proofs.YtpamkibnahhphaaGreatDoor

namespace Go.Proofs.YtpamkibnahhphaaGreatDoor
open Go.RowKit Go.Deep

theorem wpList_copy_runJ {P : Program} (w : World) {ops : Array Oper} {rest : List Oper} {o : Oper} {a : Act} {Q : Exit → Act → World → Prop} (hgd : o.guard = none) (d s : Operand) (t t' : TypeId)
    (ho : o.op = .call { callee := .builtin .copy, args := #[d, s], argTypes := #[t, t'] }) (v u : Value) (hd : a.eval d = v) (hs : a.eval s = u) {v' : Value} {w' : World}
    (hr : (Builtin.copy_ #[t, t'] o.type #[v, u]).run P w = .ok v' w') (h : wpList P ops Q rest (a.put o.dst v') w') : wpList P ops Q (o :: rest) a w := by
  refine wpList_plain hgd fun K hK => ?_
  unfold Oper.wp execOp
  simp only [ho, resolve, invoke, builtin, Sem.run_bind, Sem.run_pure, Result.andThen_ok, List.map_toArray, List.map_cons, List.map_nil, hd, hs, hr]
  exact hK _ _ h
theorem step_copy_runJ {P : Program} {ops : Array Oper} {o : Oper} {a : Act} {w : World} {K : Act → World → Prop} {Q : Exit → Act → World → Prop} {E : Prop}
    (hg : o.guard = none) (d x : Operand) (dT sT : TypeId) (hop : o.op = Op.call { callee := Callee.builtin Builtin.copy, args := #[d, x], argTypes := #[dT, sT] })
    (v u : Value) (hd : a.eval d = v) (hx : a.eval x = u) {v' : Value} {w' : World} (hr : (Builtin.copy_ #[dT, sT] o.type #[v, u]).run P w = .ok v' w') (hK : K (a.put o.dst v') w') :
    if Region.wanted o (yielded ops a.tmps) = true then Oper.wp P o a w K Q else E := by
  have hw : Region.wanted o (yielded ops a.tmps) = true := by simp [Region.wanted, hg]
  rw [if_pos hw]
  unfold Oper.wp
  simp [execOp, hop, resolve, invoke, builtin, hd, hx, hr, Result.andThen]
  exact hK

theorem frozen_blk {W : World} {b : Nat} {cs : Array Value} {t : TypeId} (h : W.heap[b]? = some (.cells cs t (0, 0))) (j : Nat) : W.frozen? ⟨b, j, none⟩ = false := by simp [World.frozen?, h]

set_option maxRecDepth 8000 in
set_option maxHeartbeats 8000000 in
/-- At the end. -/
theorem insEnd (lo : Nat) (W : World) (p1 : Option Addr) (n q : Nat) (xs vs : List Value) (h : W.ownsRow lo 90 7 (.slice p1 n q) n xs) (gc m qc : Nat) (hv : ∀ j u, vs[j]? = some u → W.cell? ⟨gc, j, none⟩ = some u) (hvl : vs.length = m * 7) (hv1 : ∀ u ∈ vs, u.oneCell' = true) (hm : 0 < m) (hn : n + m ≤ 1048576) (hlo : lo ≤ W.heap.size) :
    Calls Tryz.prog 100 #[.slice p1 n q, .int .i64 (n : Nat), .slice (some ⟨gc, 0, none⟩) m qc] W fun e W' => ∃ g' q', e = .returned (.slice (some ⟨g', 0, none⟩) (n + m) q') ∧ W'.ownsRow lo 90 7 (.slice (some ⟨g', 0, none⟩) (n + m) q') (n + m) (xs ++ vs) ∧ BelO p1 W W' := by
  have HH := hid h
  have HV := hid hv
  have HVL := hid hvl
  have HV1 := hid hv1
  have HLO := hid hlo
  have hqc : n ≤ q ∧ q ≤ maxLen := by
    rcases h.2 with ⟨e, e'⟩ | ⟨g, cap, cur, e, _, _, hc, hcm, _⟩
    · cases e; exact ⟨Nat.le_refl _, Nat.zero_le _⟩
    · cases e; exact ⟨hc, hcm⟩
  unfold maxLen at hqc
  obtain ⟨hq1, hq2⟩ := hqc
  clear h hv hvl hv1 hlo
  obtain ⟨i1, hi1, ei1⟩ := Option.map_eq_some_iff.1 Tryz.infCp
  simp only [Prod.mk.injEq] at ei1
  obtain ⟨hz1, hs1, hy1⟩ := ei1
  have hm1 : ¬ ((m : Int) = 0) := by omega
  have hn0 : (0 : Int) ≤ (n : Int) := by omega
  have hnq : (n : Int) ≤ (q : Int) := by omega
  cases p1 with
  | none =>
    obtain ⟨rfl, rfl⟩ : n = 0 ∧ q = 0 := by
      rcases HH.out.2 with ⟨e, e'⟩ | ⟨g, cap, cur, e, _⟩
      · cases e; exact ⟨e', rfl⟩
      · cases e
    simp only [Nat.zero_add]
    go_enter Tryz.func100, Tryz.ntmps100
    go_wp2_with (at_builtin; refine wpList_append_own _ rfl _ _ 33 rfl lo 90 i1 _ 7 72 Tryz.undCp hi1 hz1 hs1 hy1 rfl (by decide) _ _ xs rfl HH.out ⟨gc, 0, none⟩ m qc vs rfl ?a1x ?a2x ?a3x ?a4x ?a5x ?a6x ?_)
    case a1x => exact HVL.out
    case a2x =>
      intro j u hj
      rw [addN, Nat.zero_add]
      exact HV.out j u hj
    case a3x => exact HV1.out
    case a4x => unfold maxLen; omega
    case a5x => omega
    case a6x => exact HLO.out
    intro v1 w1 ho1 hg1 hn1
    obtain ⟨d1, e1, rfl⟩ := owns_is ho1
    have HNN : Hid (∃ g', d1 = some ⟨g', 0, none⟩) := by
      rcases ho1.2 with ⟨e, e'⟩ | ⟨g, cap, cur, e, _⟩
      · omega
      · cases e; exact ⟨g, rfl⟩
    have HO := hid ho1
    have HG : Hid (BelO none W w1) := ⟨hg1.os, hg1.tape, hg1.output, hg1.size, fun b hb hne => hg1.block b hb (fun e => by cases e)⟩
    clear ho1 hg1 hn1
    obtain ⟨g', rfl⟩ := HNN.out
    go_wp2
    go_ret
    exact ⟨g', e1, rfl, HO.out, HG.out⟩
  | some ad =>
    obtain ⟨g0, rfl⟩ : ∃ g0, ad = ⟨g0, 0, none⟩ := by
      rcases HH.out.2 with ⟨e, e'⟩ | ⟨g, cap, cur, e, _⟩
      · cases e
      · cases e; exact ⟨g, rfl⟩
    by_cases hqn : q = n
    · subst hqn
      go_enter Tryz.func100, Tryz.ntmps100
      go_wp2_with (at_builtin; refine wpList_append_own _ rfl _ _ 33 rfl lo 90 i1 _ 7 72 Tryz.undCp hi1 hz1 hs1 hy1 rfl (by decide) _ _ xs rfl HH.out ⟨gc, 0, none⟩ m qc vs rfl ?a1y ?a2y ?a3y ?a4y ?a5y ?a6y ?_)
      case a1y => exact HVL.out
      case a2y =>
        intro j u hj
        rw [addN, Nat.zero_add]
        exact HV.out j u hj
      case a3y => exact HV1.out
      case a4y => unfold maxLen; omega
      case a5y => omega
      case a6y => exact HLO.out
      intro v1 w1 ho1 hg1 hn1
      obtain ⟨d1, e1, rfl⟩ := owns_is ho1
      have HNN : Hid (∃ g', d1 = some ⟨g', 0, none⟩) := by
        rcases ho1.2 with ⟨e, e'⟩ | ⟨g, cap, cur, e, _⟩
        · omega
        · cases e; exact ⟨g, rfl⟩
      have HO := hid ho1
      have HG : Hid (BelO (some ⟨g0, 0, none⟩) W w1) := ⟨hg1.os, hg1.tape, hg1.output, hg1.size, fun b hb hne => hg1.block b hb (fun e => hne g0 rfl (by injection e))⟩
      clear ho1 hg1 hn1
      obtain ⟨g', rfl⟩ := HNN.out
      go_wp2
      go_ret
      exact ⟨g', e1, rfl, HO.out, HG.out⟩
    · have hqn' : ¬ (n = q) := fun e => hqn e.symm
      go_enter Tryz.func100, Tryz.ntmps100
      go_wp2_with (at_builtin; refine wpList_append_own _ rfl _ _ 33 rfl lo 90 i1 _ 7 72 Tryz.undCp hi1 hz1 hs1 hy1 rfl (by decide) _ _ xs rfl HH.out ⟨gc, 0, none⟩ m qc vs rfl ?a1z ?a2z ?a3z ?a4z ?a5z ?a6z ?_)
      case a1z => exact HVL.out
      case a2z =>
        intro j u hj
        rw [addN, Nat.zero_add]
        exact HV.out j u hj
      case a3z => exact HV1.out
      case a4z => unfold maxLen; omega
      case a5z => omega
      case a6z => exact HLO.out
      intro v1 w1 ho1 hg1 hn1
      obtain ⟨d1, e1, rfl⟩ := owns_is ho1
      have HNN : Hid (∃ g', d1 = some ⟨g', 0, none⟩) := by
        rcases ho1.2 with ⟨e, e'⟩ | ⟨g, cap, cur, e, _⟩
        · omega
        · cases e; exact ⟨g, rfl⟩
      have HO := hid ho1
      have HG : Hid (BelO (some ⟨g0, 0, none⟩) W w1) := ⟨hg1.os, hg1.tape, hg1.output, hg1.size, fun b hb hne => hg1.block b hb (fun e => hne g0 rfl (by injection e))⟩
      clear ho1 hg1 hn1
      obtain ⟨g', rfl⟩ := HNN.out
      go_wp2
      go_ret
      exact ⟨g', e1, rfl, HO.out, HG.out⟩

set_option maxRecDepth 8000 in
set_option maxHeartbeats 8000000 in
/-- In place: there is room. -/
theorem insRoom (lo : Nat) (W : World) (g n q : Nat) (xs vs : List Value) (h : W.ownsRow lo 90 7 (.slice (some ⟨g, 0, none⟩) n q) n xs) (hx1 : ∀ u ∈ xs, u.oneCell' = true) (gc m qc : Nat) (curC : Array Value) (hgc : W.heap[gc]? = some (.cells curC 90 (0, 0))) (hv : ∀ j u, vs[j]? = some u → W.cell? ⟨gc, j, none⟩ = some u) (hvl : vs.length = m * 7) (hv1 : ∀ u ∈ vs, u.oneCell' = true) (hm : 0 < m) (hne : gc ≠ g) (i : Nat) (hi : i < n) (hroom : n + m ≤ q) (hn : n + m ≤ 1048576) :
    Calls Tryz.prog 100 #[.slice (some ⟨g, 0, none⟩) n q, .int .i64 (i : Nat), .slice (some ⟨gc, 0, none⟩) m qc] W fun e W' => ∃ g' q', e = .returned (.slice (some ⟨g', 0, none⟩) (n + m) q') ∧ W'.ownsRow lo 90 7 (.slice (some ⟨g', 0, none⟩) (n + m) q') (n + m) (xs.take (i * 7) ++ vs ++ xs.drop (i * 7)) ∧ BelO (some ⟨g, 0, none⟩) W W' := by
  obtain ⟨hxl, hrow⟩ := h
  rcases hrow with ⟨e, _⟩ | ⟨g', cap, cur, e, hlo, hg, hcap, hcm, hcs, htk⟩
  · cases e
  cases e
  obtain ⟨i1, hi1, ei1⟩ := Option.map_eq_some_iff.1 Tryz.infCp
  simp only [Prod.mk.injEq] at ei1
  obtain ⟨hz1, hs1, hy1⟩ := ei1
  have hsz : (Tryz.prog.info? 90).map (·.size) = some 7 := by rw [hi1]; simp [hs1]
  unfold maxLen at hcm
  have hm1 : ¬ ((m : Int) = 0) := by omega
  have hz2 : ¬ ((i : Int) = (n : Int)) := by omega
  have hz3 : ¬ ((q : Int) < (n : Int) + (m : Int)) := by omega
  have hi0 : (0 : Int) ≤ (i : Int) := by omega
  have hin : (i : Int) ≤ (n : Int) := by omega
  have hb1 : (0 : Int) ≤ (i : Int) + (m : Int) := by omega
  have htn : ((i : Int) + (m : Int)).toNat = i + m := by omega
  have htn2 : ((n : Int) + (m : Int)).toNat = n + m := by omega
  have hb2 : ¬ (q = i + m) := by omega
  have hb3 : (i : Int) ≤ (n : Int) + (m : Int) := by omega
  have hb4 : ¬ (q = i) := by omega
  have hb5 : (i : Int) + (m : Int) ≤ (n : Int) + (m : Int) := by omega
  have hb6 : (0 : Int) ≤ (n : Int) + (m : Int) := by omega
  have hb7 : (n : Int) + (m : Int) ≤ (q : Int) := by omega
  have mixed : Tryz.prog.follows .mixedOrders = true := by kernel_rfl
  have hw1 : IntKind.i64.wrap ((i : Int) + (m : Int)) = (i : Int) + (m : Int) := wrapI _ (by omega) (by omega)
  have hw2 : IntKind.i64.wrap ((n : Int) + (m : Int)) = (n : Int) + (m : Int) := wrapI _ (by omega) (by omega)
  have hdl : (xs.drop (i * 7)).length = (n - i) * 7 := by rw [List.length_drop, hxl, Nat.sub_mul]
  have hmul : n * 7 ≤ q * 7 := Nat.mul_le_mul_right 7 hcap
  have hcc : ∀ j u, xs[j]? = some u → W.cell? ⟨g, j, none⟩ = some u := fun j u hj => by
    rw [← htk, List.getElem?_take] at hj
    simp only [World.cell?, hg]
    split at hj
    · simpa using hj
    · cases hj
  obtain ⟨cur1, hcur1⟩ : ∃ cur1, cur1 = seg cur ((i + m) * 7) (xs.drop (i * 7)) := ⟨_, rfl⟩
  obtain ⟨cur2, hcur2⟩ : ∃ cur2, cur2 = seg cur1 (i * 7) vs := ⟨_, rfl⟩
  have hfit1 : (i + m) * 7 + (xs.drop (i * 7)).length ≤ cur.size := by rw [hdl, hcs]; omega
  have hs1' : cur1.size = cur.size := by rw [hcur1]; exact seg_size hfit1
  have hfit2 : i * 7 + vs.length ≤ cur1.size := by rw [hvl, hs1', hcs]; omega
  have hs2' : cur2.size = cur.size := by rw [hcur2, seg_size hfit2, hs1']
  have hcp1 : ∀ ty dc sc, (Builtin.copy_ #[33, 33] ty #[.slice (some ⟨g, (i + m) * 7, none⟩) (n + m - (i + m)) dc, .slice (some ⟨g, i * 7, none⟩) (n + m - i) sc]).run Tryz.prog W.drew = .ok (goInt (Nat.min (n + m - i) (n + m - (i + m)))) (W.drew.setRow g cur1) := fun ty dc sc => by
    rw [hcur1]
    refine run_copy_rowK W.drew _ _ ty 90 7 g ((i + m) * 7) (n + m - (i + m)) dc ⟨g, i * 7, none⟩ (n + m - i) sc cur 90 (xs.drop (i * 7)) Tryz.undCp hsz hg ?_ (fun j u hj => ?_) hfit1 (fun u hu => hx1 u (List.mem_of_mem_drop hu))
    · rw [hdl]; congr 1; simp only [Nat.min_def]; split <;> omega
    · rw [addN]; exact hcc _ u (by rwa [List.getElem?_drop] at hj)
  have hh1 : (W.drew.setRow g cur1).heap[g]? = some (.cells cur1 90 (0, 0)) := setRow_heap W.drew g cur cur1 90 (0, 0) hg
  have hcp2 : ∀ ty dc, (Builtin.copy_ #[33, 33] ty #[.slice (some ⟨g, i * 7, none⟩) (n + m - i) dc, .slice (some ⟨gc, 0, none⟩) m qc]).run Tryz.prog (W.drew.setRow g cur1) = .ok (goInt (Nat.min m (n + m - i))) ((W.drew.setRow g cur1).setRow g cur2) := fun ty dc => by
    rw [hcur2]
    refine run_copy_rowK _ _ _ ty 90 7 g (i * 7) (n + m - i) dc ⟨gc, 0, none⟩ m qc cur1 90 vs Tryz.undCp hsz hh1 ?_ (fun j u hj => ?_) hfit2 hv1
    · rw [hvl]; congr 1; simp only [Nat.min_def]; split <;> omega
    · rw [addN, Nat.zero_add]
      have := hv j u hj
      unfold World.cell? at this ⊢
      rw [setRow_other W.drew g gc cur1 hne]
      exact this
  have hov : ∀ lb cb, (callFunc 114 #[.slice (some ⟨gc, 0, none⟩) m qc, .slice (some ⟨g, (i + m) * 7, none⟩) lb cb]).run Tryz.prog W = .ok (.value (.bool false)) W := fun lb cb => by
    rw [run_callFunc_extern Tryz.func114 (by kernel_rfl) (by kernel_rfl) (by kernel_rfl) (e := Extern.SlicesOverlaps.overlaps #[33, 33] #[4]) (by kernel_rfl),
      Lib.run_overlaps_apart W 33 4 90 Tryz.undCp 7 (fun w => by simp [sizeOf, typeInfo, hi1, hs1]) ⟨gc, 0, none⟩ ⟨g, (i + m) * 7, none⟩ m qc lb cb hne 90 90 curC.size cur.size (by simp [World.shape?, hgc]) (by simp [World.shape?, hg]) (by omega) (frozen_blk hgc 0) (frozen_blk hgc _)]
    rfl
  have HEND : Hid (((W.drew.setRow g cur1).setRow g cur2).ownsRow lo 90 7 (.slice (some ⟨g, 0, none⟩) (n + m) q) (n + m) (xs.take (i * 7) ++ vs ++ xs.drop (i * 7))) := by
    refine ⟨?_, .inr ⟨g, q, cur2, rfl, hlo, setRow_heap _ g cur1 cur2 90 (0, 0) hh1, hroom, by unfold maxLen; exact hcm, by rw [hs2', hcs], ?_⟩⟩
    · simp only [List.length_append, List.length_take, hdl, hvl, hxl]
      have : i * 7 ≤ n * 7 := Nat.mul_le_mul_right 7 (by omega)
      omega
    · have := seg_shift (l := cur.toList) (i := i * 7) (n := n * 7) (m := m * 7) htk hxl hvl (by omega) (by rw [Array.length_toList, hcs]; omega) cur rfl
      rw [hcur2, hcur1, Nat.add_mul, Nat.add_mul]
      exact this
  have HBEL : Hid (BelO (some ⟨g, 0, none⟩) W ((W.drew.setRow g cur1).setRow g cur2)) := ⟨rfl, rfl, rfl, by rw [size_setRow, size_setRow]; exact Nat.le_refl _, fun b _ hb => by
    rw [setRow_other _ g b cur2 (hb g rfl), setRow_other _ g b cur1 (hb g rfl)]; rfl⟩
  clear hcur1 hcur2 hh1 hcc hg hgc hv hvl hv1 hx1 htk hxl hdl hfit1 hfit2 hs1' hs2' hcs hmul
  go_enter Tryz.func100, Tryz.ntmps100
  go_wp2_with (simp only [hov])
  go_region_law_o (refine step_copy_runJ rfl _ _ 33 33 rfl _ _ (by simp [Act.eval, Act.put]) (by simp [Act.eval, Act.put]) (hcp1 _ _ _) ?_)
  go_wp2_with (at_builtin; refine wpList_copy_runJ _ rfl _ _ 33 33 rfl _ _ rfl rfl (hcp2 _ _) ?_)
  go_ret
  exact ⟨g, q, rfl, HEND.out, HBEL.out⟩

set_option maxRecDepth 8000 in
set_option maxHeartbeats 8000000 in
/-- In a new row: there is no room. -/
theorem insGrow (lo : Nat) (W : World) (g n q : Nat) (xs vs : List Value) (h : W.ownsRow lo 90 7 (.slice (some ⟨g, 0, none⟩) n q) n xs) (hx1 : ∀ u ∈ xs, u.oneCell' = true) (gc m qc : Nat) (curC : Array Value) (hgc : W.heap[gc]? = some (.cells curC 90 (0, 0))) (hv : ∀ j u, vs[j]? = some u → W.cell? ⟨gc, j, none⟩ = some u) (hvl : vs.length = m * 7) (hv1 : ∀ u ∈ vs, u.oneCell' = true) (hm : 0 < m) (i : Nat) (hi : i < n) (hroom : q < n + m) (hlow : lo ≤ W.heap.size) (hn : n + m ≤ 1048576) :
    Calls Tryz.prog 100 #[.slice (some ⟨g, 0, none⟩) n q, .int .i64 (i : Nat), .slice (some ⟨gc, 0, none⟩) m qc] W fun e W' => ∃ g' q', e = .returned (.slice (some ⟨g', 0, none⟩) (n + m) q') ∧ W'.ownsRow lo 90 7 (.slice (some ⟨g', 0, none⟩) (n + m) q') (n + m) (xs.take (i * 7) ++ vs ++ xs.drop (i * 7)) ∧ BelO (some ⟨g, 0, none⟩) W W' := by
  obtain ⟨hxl, hrow⟩ := h
  rcases hrow with ⟨e, _⟩ | ⟨g', cap, cur, e, hlo, hg, hcap, hcm, hcs, htk⟩
  · cases e
  cases e
  obtain ⟨i1, hi1, ei1⟩ := Option.map_eq_some_iff.1 Tryz.infCp
  simp only [Prod.mk.injEq] at ei1
  obtain ⟨hz1, hs1, hy1⟩ := ei1
  have hsz : (Tryz.prog.info? 90).map (·.size) = some 7 := by rw [hi1]; simp [hs1]
  unfold maxLen at hcm
  have mixed : Tryz.prog.follows .mixedOrders = true := by kernel_rfl
  have hm1 : ¬ ((m : Int) = 0) := by omega
  have hz2 : ¬ ((i : Int) = (n : Int)) := by omega
  have hz3 : (q : Int) < (n : Int) + (m : Int) := by omega
  have hi0 : (0 : Int) ≤ (i : Int) := by omega
  have hin : (i : Int) ≤ (n : Int) := by omega
  have hb1 : (0 : Int) ≤ (i : Int) + (m : Int) := by omega
  have htn : ((i : Int) + (m : Int)).toNat = i + m := by omega
  have hw1 : IntKind.i64.wrap ((i : Int) + (m : Int)) = (i : Int) + (m : Int) := wrapI _ (by omega) (by omega)
  have hw2 : IntKind.i64.wrap ((n : Int) + (m : Int)) = (n : Int) + (m : Int) := wrapI _ (by omega) (by omega)
  have hw3 : IntKind.i64.wrap ((n : Int) + (m : Int) - (i : Int)) = (n : Int) + (m : Int) - (i : Int) := wrapI _ (by omega) (by omega)
  have hkk : (n : Int) + (m : Int) - (i : Int) = ((n + m - i : Nat) : Int) := by omega
  have hik : i + (n + m - i) = n + m := by omega
  have hiq : (i : Int) ≤ (q : Int) := by omega
  have hdl : (xs.drop (i * 7)).length = (n - i) * 7 := by rw [List.length_drop, hxl, Nat.sub_mul]
  have hin7 : i * 7 ≤ n * 7 := Nat.mul_le_mul_right 7 (by omega)
  have htl : (xs.take (i * 7)).length = i * 7 := by rw [List.length_take, hxl]; omega
  have hcc : ∀ j u, xs[j]? = some u → W.cell? ⟨g, j, none⟩ = some u := fun j u hj => by
    rw [← htk, List.getElem?_take] at hj
    simp only [World.cell?, hg]
    split at hj
    · simpa using hj
    · cases hj
  have hgl : g < W.heap.size := lt_heap hg
  have hgcl : gc < W.heap.size := lt_heap hgc
  have hold : (Builtin.firstCells i1.size i (.slice (some ⟨g, 0, none⟩) i q)).run Tryz.prog W.drew = .ok (xs.take (i * 7)).toArray W.drew := by
    rw [hs1]
    refine run_firstCells_some W.drew 7 i ⟨g, 0, none⟩ i q (xs.take (i * 7)) htl (fun j v hj => ?_)
    rw [addN, Nat.zero_add]
    rw [List.getElem?_take] at hj
    split at hj
    · exact hcc j v hj
    · cases hj
  obtain ⟨Z, hZ⟩ : ∃ Z : Value, Z = (.agg #[.string ByteArray.empty, .int .i64 0, .int .i64 0, .int .i64 0, .int .i64 0, .bool false, .string ByteArray.empty]) := ⟨_, rfl⟩
  rw [← hZ] at hz1
  have hZs : Z.cells.size = 7 := by rw [hZ]; rfl
  clear hZ
  have hrz : ∀ ty, (Builtin.append_ #[33, 3] ty #[.slice (some ⟨g, 0, none⟩) i q, .int .i64 ((n : Int) + (m : Int) - (i : Int))]).run Tryz.prog W =
      .ok (.slice (some ⟨W.heap.size, 0, none⟩) (n + m) (grownCap W (n + m) q 90)) (W.drew.alloc (.cells ((xs.take (i * 7)).toArray ++ Builtin.zeroCells Z.cells (n + m - i) ++ Builtin.zeroCells Z.cells (grownCap W (n + m) q 90 - (n + m))) 90)) := fun ty => by
    have hmul : (n + m) * 72 ≤ 1048576 * 72 := Nat.mul_le_mul_right 72 hn
    have hmul2 : (n + m - i) * 72 ≤ 1048576 * 72 := Nat.mul_le_mul_right 72 (by omega)
    have h := Lib.run_append_grow_zeros W 33 3 ty 90 i1 Z .i64 .i64 Tryz.undCp (by kernel_rfl) hi1 hz1 (some ⟨g, 0, none⟩) i q (xs.take (i * 7)) hold (n + m - i) (by omega) (by omega) (by omega) (by omega) (by rw [hy1]; omega) (by rw [hy1, hik]; exact growslice_fits hroom (by omega))
    rw [hik] at h
    rw [hkk]
    exact h
  have hGn := grownCap_ge W (n + m) q 90
  have hG63 := grownCap_le_maxLen W (n + m) q 90 (by unfold maxLen; omega)
  obtain ⟨G, hG⟩ : ∃ G, G = grownCap W (n + m) q 90 := ⟨_, rfl⟩
  rw [← hG] at hrz hGn hG63
  clear hG
  have hG63' := hG63
  unfold maxLen at hG63'
  obtain ⟨ROW, hROW⟩ : ∃ ROW : Array Value, ROW = (xs.take (i * 7)).toArray ++ Builtin.zeroCells Z.cells (n + m - i) ++ Builtin.zeroCells Z.cells (G - (n + m)) := ⟨_, rfl⟩
  rw [← hROW] at hrz
  have hRs : ROW.size = G * 7 := by
    rw [hROW, Array.size_append, Array.size_append, size_zeroCells, size_zeroCells, hZs, List.size_toArray, htl]
    rw [← Nat.add_mul, ← Nat.add_mul]
    congr 1
    omega
  have hRl : ROW.toList = xs.take (i * 7) ++ ((Builtin.zeroCells Z.cells (n + m - i)).toList ++ (Builtin.zeroCells Z.cells (G - (n + m))).toList) := by
    rw [hROW]; simp
  clear hROW
  obtain ⟨cur1, hcur1⟩ : ∃ cur1, cur1 = seg ROW (i * 7) vs := ⟨_, rfl⟩
  obtain ⟨cur2, hcur2⟩ : ∃ cur2, cur2 = seg cur1 ((i + m) * 7) (xs.drop (i * 7)) := ⟨_, rfl⟩
  have hG7 : (n + m) * 7 ≤ G * 7 := Nat.mul_le_mul_right 7 hGn
  have hfit1 : i * 7 + vs.length ≤ ROW.size := by rw [hvl, hRs]; omega
  have hs1' : cur1.size = ROW.size := by rw [hcur1]; exact seg_size hfit1
  have hfit2 : (i + m) * 7 + (xs.drop (i * 7)).length ≤ cur1.size := by rw [hdl, hs1', hRs]; omega
  have hs2' : cur2.size = ROW.size := by rw [hcur2, seg_size hfit2, hs1']
  obtain ⟨V, hV⟩ : ∃ V, V = W.drew.alloc (.cells ROW 90) := ⟨_, rfl⟩
  have hVg : V.heap[W.heap.size]? = some (.cells ROW 90 (0, 0)) := by rw [hV]; exact heap_alloc_new W.drew _
  have hVB : Below W.heap.size W V := by rw [hV]; exact blw_alloc (Below.drew (Below.refl _ _)) _
  have hcpA : ∀ (V' : World), V'.heap = V.heap → ∀ ty dc, (Builtin.copy_ #[33, 33] ty #[.slice (some ⟨W.heap.size, i * 7, none⟩) (n + m - i) dc, .slice (some ⟨gc, 0, none⟩) m qc]).run Tryz.prog V' = .ok (goInt (Nat.min m (n + m - i))) (V'.setRow W.heap.size cur1) := fun V' hV' ty dc => by
    rw [hcur1]
    refine run_copy_rowK V' _ _ ty 90 7 W.heap.size (i * 7) (n + m - i) dc ⟨gc, 0, none⟩ m qc ROW 90 vs Tryz.undCp hsz (by rw [hV']; exact hVg) ?_ (fun j u hj => ?_) hfit1 hv1
    · rw [hvl]; congr 1; simp only [Nat.min_def]; split <;> omega
    · rw [addN, Nat.zero_add]
      have := hv j u hj
      unfold World.cell? at this ⊢
      rw [hV', hVB.block gc hgcl]
      exact this
  have hh1 : ∀ V' : World, V'.heap = V.heap → (V'.setRow W.heap.size cur1).heap[W.heap.size]? = some (.cells cur1 90 (0, 0)) := fun V' hV' => setRow_heap V' W.heap.size ROW cur1 90 (0, 0) (by rw [hV']; exact hVg)
  have hcpB : ∀ (V' V'' : World), V'.heap = V.heap → V''.heap = (V'.setRow W.heap.size cur1).heap → ∀ ty dc sc, (Builtin.copy_ #[33, 33] ty #[.slice (some ⟨W.heap.size, (i + m) * 7, none⟩) (n + m - (i + m)) dc, .slice (some ⟨g, i * 7, none⟩) (n - i) sc]).run Tryz.prog V'' = .ok (goInt (Nat.min (n - i) (n + m - (i + m)))) (V''.setRow W.heap.size cur2) := fun V' V'' hV' hV'' ty dc sc => by
    rw [hcur2]
    refine run_copy_rowK V'' _ _ ty 90 7 W.heap.size ((i + m) * 7) (n + m - (i + m)) dc ⟨g, i * 7, none⟩ (n - i) sc cur1 90 (xs.drop (i * 7)) Tryz.undCp hsz (by rw [hV'']; exact hh1 V' hV') ?_ (fun j u hj => ?_) hfit2 (fun u hu => hx1 u (List.mem_of_mem_drop hu))
    · rw [hdl]; congr 1; simp only [Nat.min_def]; split <;> omega
    · rw [addN]
      have := hcc (i * 7 + j) u (by rwa [List.getElem?_drop] at hj)
      unfold World.cell? at this ⊢
      rw [hV'', setRow_other V' W.heap.size g cur1 (by omega), hV', hVB.block g hgl]
      exact this
  have HEND : Hid (∀ (V' V'' : World), V'.heap = V.heap → V''.heap = (V'.setRow W.heap.size cur1).heap → V'.os = W.os → V'.tape = W.tape → V'.output = W.output → V''.os = V'.os → V''.tape = V'.tape → V''.output = V'.output → (V''.setRow W.heap.size cur2).ownsRow lo 90 7 (.slice (some ⟨W.heap.size, 0, none⟩) (n + m) G) (n + m) (xs.take (i * 7) ++ vs ++ xs.drop (i * 7)) ∧ BelO (some ⟨g, 0, none⟩) W (V''.setRow W.heap.size cur2)) := by
    intro V' V'' hV' hV'' o1 o2 o3 r1 r2 r3
    refine ⟨⟨?_, .inr ⟨W.heap.size, G, cur2, rfl, hlow, setRow_heap _ _ cur1 cur2 90 (0, 0) (by rw [hV'']; exact hh1 V' hV'), hGn, hG63, by rw [hs2', hRs], ?_⟩⟩, ⟨r1.trans o1, r2.trans o2, r3.trans o3, ?_, fun b hb _ => ?_⟩⟩
    · simp only [List.length_append, htl, hdl, hvl]
      omega
    · have := seg_grow (cs := xs) (i := i * 7) (n := n * 7) (m := m * 7) hxl hvl (by omega) ROW hRl
      rw [hcur2, hcur1, Nat.add_mul, Nat.add_mul]
      exact this
    · rw [size_setRow, hV'', size_setRow, hV']; exact hVB.size
    · rw [setRow_other _ _ b cur2 (by omega), hV'', setRow_other _ _ b cur1 (by omega), hV', hVB.block b hb]
  have hGi : ¬ (G = i) := by omega
  have hGim : ¬ (G = i + m) := by omega
  have hqi : ¬ (q = i) := by omega
  have hb3 : (i : Int) ≤ (n : Int) + (m : Int) := by omega
  have hE : ((W.alloc (.cells ROW 90)).drew).heap = V.heap := by rw [hV]; rfl
  have hF : (((W.alloc (.cells ROW 90)).drew.setRow W.heap.size cur1).drew).heap = ((W.alloc (.cells ROW 90)).drew.setRow W.heap.size cur1).heap := rfl
  subst hV
  clear hcur1 hcur2 hh1 hcc hg hgc hv hvl hv1 hx1 htk hxl hdl hfit1 hfit2 hs1' hs2' hcs hRl hRs hold hkk hik htl hVg hVB hz1 hZs hG63
  go_enter Tryz.func100, Tryz.ntmps100
  go_wp2_with (first
    | (at_builtin; refine Lib.wpList_append_run _ rfl _ _ _ _ rfl _ _ rfl rfl _ _ (hrz _) ?_)
    | (at_builtin; refine wpList_copy_runJ _ rfl _ _ 33 33 rfl _ _ rfl rfl (hcpA _ hE _ _) ?_))
  go_region_law_o (refine step_copy_runJ rfl _ _ 33 33 rfl (.slice (some ⟨W.heap.size, (i + m) * 7, none⟩) (n + m - (i + m)) (G - (i + m))) (.slice (some ⟨g, i * 7, none⟩) (n - i) (q - i)) (by simp [Act.eval, Act.put]) (by simp [Act.eval, Act.put]) (hcpB _ _ hE hF 3 (G - (i + m)) (q - i)) ?_)
  go_wp2
  go_ret
  obtain ⟨r1, r2⟩ := HEND.out _ _ hE hF rfl rfl rfl rfl rfl rfl
  exact ⟨W.heap.size, G, rfl, r1, r2⟩

end Go.Proofs.YtpamkibnahhphaaGreatDoor
