/-
  What goes on while a sheet is read: all but some blocks as it was; blocks, and the one that is open, in memory.
-/
import Derived.Laws.CopyRow
import Derived.Laws.CopyOwn
import Derived.Laws.Externs
import Derived.Lib.Overlaps
import Derived.Deep.AppendLies
import Derived.Lib.AppendZeros
import Derived.Lib.AppendZerosOnto
import Derived.Shelf.RegionOpenPlain
import Derived.Test.YtdllbcafbfkngaaGreatDoorEIc
import Derived.Test.YtdllbcafbfkngaaGreatDoorEIg
import Derived.Test.YtdllbcafbfkngaaGreatDoorESd
import Derived.Test.YtdllbcafbfkngaaGreatDoorRegC
import Derived.Test.YtdllbcafbfkngaaGreatDoorRgF
import Derived.Test.YtdllbcafbfkngaaGreatDoorUC
namespace Go.Proofs.YtdllbcafbfkngaaGreatDoor
open Go.RowKit Go.Deep

theorem hid {p : Prop} (h : p) : Hid p := h
theorem addN (b off i : Nat) : (Addr.add ⟨b, off, none⟩ i) = ⟨b, off + i, none⟩ := by
  unfold Addr.add; split <;> simp_all
theorem owns_is {w : World} {lo : Nat} {e : TypeId} {size : Nat} {v : Value} {n : Nat} {xs : List Value} (h : w.ownsRow lo e size v n xs) : ∃ a c, v = .slice a n c := by
  rcases h.2 with ⟨rfl, rfl⟩ | ⟨g, cap, cur, rfl, _⟩
  · exact ⟨_, _, rfl⟩
  · exact ⟨_, _, rfl⟩

theorem lt_heap {W : World} {b : Nat} {o : Obj} (h : W.heap[b]? = some o) : b < W.heap.size := (Array.getElem?_eq_some_iff.1 h).1
theorem owns_blk {W : World} {lo : Nat} {e : TypeId} {size n q : Nat} {p : Option Addr} {xs : List Value} (h : W.ownsRow lo e size (.slice p n q) n xs) (hn : 0 < n) : ∃ g cur, p = some ⟨g, 0, none⟩ ∧ lo ≤ g ∧ W.heap[g]? = some (.cells cur e (0, 0)) ∧ xs.length ≤ cur.size ∧ ∀ j u, xs[j]? = some u → W.cell? ⟨g, j, none⟩ = some u := by
  obtain ⟨hx, h⟩ := h
  rcases h with ⟨_, e⟩ | ⟨g, cap, cur, hv, hlo, hg, hc, _, hs, ht⟩
  · omega
  · cases hv
    have hle : n * size ≤ cur.size := by rw [hs]; exact Nat.mul_le_mul_right size hc
    refine ⟨g, cur, rfl, hlo, hg, by rw [hx]; exact hle, fun j u hj => ?_⟩
    rw [← ht, List.getElem?_take] at hj
    simp only [World.cell?, hg]
    split at hj
    · simpa using hj
    · cases hj
section
variable {P : Program}

/-- What stands in a row behind cells put into it. -/
def seg (cur : Array Value) (o : Nat) (cs : List Value) : Array Value := (cur.toList.take o ++ cs ++ cur.toList.drop (o + cs.length)).toArray
theorem seg_size {cur : Array Value} {o : Nat} {cs : List Value} (h : o + cs.length ≤ cur.size) : (seg cur o cs).size = cur.size := by
  unfold seg
  simp only [List.size_toArray, List.length_append, List.length_take, List.length_drop, Array.length_toList]
  omega

theorem run_copy_rowK (w : World) (dT sT ty elem : TypeId) (size g o dLen dCap : Nat) (a : Addr) (sLen sCap : Nat) (cur : Array Value) (t : TypeId) (cs : List Value)
    (hu : P.underlying dT = some (.slice elem)) (hs : (P.info? elem).map (·.size) = some size)
    (hg : w.heap[g]? = some (.cells cur t (0, 0))) (hn : cs.length = Nat.min sLen dLen * size)
    (hsrc : ∀ j v, cs[j]? = some v → w.cell? (a.add j) = some v) (hfit : o + cs.length ≤ cur.size) (h1 : ∀ v ∈ cs, v.oneCell' = true) :
    (Builtin.copy_ #[dT, sT] ty #[.slice (some ⟨g, o, none⟩) dLen dCap, .slice (some a) sLen sCap]).run P w =
      .ok (goInt (Nat.min sLen dLen)) (w.setRow g (seg cur o cs)) := by
  have hl := run_loadCells_list (P := P) w a cs hsrc
  have hst := run_storeCells_at (P := P) g o t cs 0 cur w hg (by simpa using hfit) h1
  rw [hn] at hl
  simp only [Nat.add_zero] at hst
  unfold seg
  cases hq : P.info? elem with
  | none => simp [hq] at hs
  | some i =>
    have hi : i.size = size := by simpa [hq] using hs
    simp [Builtin.copy_, run_underlying hu, Builtin.lenOf, Builtin.firstCells, sizeOf, typeInfo, hq, hi, hl, hst]

theorem seg_toList (cur : Array Value) (o : Nat) (cs : List Value) : (seg cur o cs).toList = cur.toList.take o ++ cs ++ cur.toList.drop (o + cs.length) := rfl
/-- In place: what stood from i on is moved up, then the new ones are put. -/
theorem seg_shift {l cs vs : List Value} {i n m : Nat} (hl : l.take n = cs) (hn : cs.length = n) (hm : vs.length = m) (hi : i ≤ n) (hr : n + m ≤ l.length) (cur : Array Value) (hc : cur.toList = l) :
    (seg (seg cur (i + m) (cs.drop i)) i vs).toList.take (n + m) = cs.take i ++ vs ++ cs.drop i := by
  have hd : (cs.drop i).length = n - i := by rw [List.length_drop, hn]
  have e1 : (l.take (i + m)).length = i + m := by rw [List.length_take]; omega
  have e2 : i + m + (cs.drop i).length = n + m := by rw [hd]; omega
  rw [seg_toList, seg_toList, hc, hm, e2]
  have a1 : (l.take (i + m) ++ cs.drop i ++ l.drop (n + m)).take i = cs.take i := by
    rw [List.append_assoc, List.take_append_of_le_length (by omega), List.take_take, ← hl, List.take_take]
    congr 1
    omega
  have a2 : (l.take (i + m) ++ cs.drop i ++ l.drop (n + m)).drop (i + m) = cs.drop i ++ l.drop (n + m) := by
    rw [List.append_assoc, List.drop_append_of_le_length (by omega), List.drop_of_length_le (by omega), List.nil_append]
  rw [a1, a2, ← List.append_assoc, List.take_append_of_le_length (by simp only [List.length_append, List.length_take, hm, hd, hn]; omega), List.take_of_length_le (by simp only [List.length_append, List.length_take, hm, hd, hn]; omega)]
/-- In a new row: the new ones are put, then what stood from i on. -/
theorem seg_grow {cs vs zs : List Value} {i n m : Nat} (hn : cs.length = n) (hm : vs.length = m) (hi : i ≤ n) (cur : Array Value) (hc : cur.toList = cs.take i ++ zs) :
    (seg (seg cur i vs) (i + m) (cs.drop i)).toList.take (n + m) = cs.take i ++ vs ++ cs.drop i := by
  have hd : (cs.drop i).length = n - i := by rw [List.length_drop, hn]
  have e0 : (cs.take i).length = i := by rw [List.length_take]; omega
  rw [seg_toList, seg_toList, hc, hm]
  have a1 : (cs.take i ++ zs).take i = cs.take i := by rw [List.take_append_of_le_length (by omega), List.take_of_length_le (by omega)]
  rw [a1]
  have a2 : (cs.take i ++ vs ++ (cs.take i ++ zs).drop (i + m)).take (i + m) = cs.take i ++ vs := by
    rw [List.take_append_of_le_length (by rw [List.length_append]; omega), List.take_of_length_le (by rw [List.length_append]; omega)]
  rw [a2, List.take_append_of_le_length (by simp only [List.length_append, hm, hd, e0]; omega), List.take_of_length_le (by simp only [List.length_append, hm, hd, e0]; omega)]
/-- All but one row as it was. -/
structure BelO (p : Option Addr) (v W : World) : Prop where
  os : W.os = v.os
  tape : W.tape = v.tape
  output : W.output = v.output
  size : v.heap.size ≤ W.heap.size
  block : ∀ b, b < v.heap.size → (∀ g, p = some ⟨g, 0, none⟩ → b ≠ g) → W.heap[b]? = v.heap[b]?

end
end Go.Proofs.YtdllbcafbfkngaaGreatDoor

namespace Go.Proofs.YtdllbcafbfkngaaGreatDoor
open Go.RowKit Go.Deep

theorem step_copy_runJ {P : Program} {ops : Array Oper} {o : Oper} {a : Act} {w : World} {K : Act → World → Prop} {Q : Exit → Act → World → Prop} {E : Prop}
    (hg : o.guard = none) (d x : Operand) (dT sT : TypeId) (hop : o.op = Op.call { callee := Callee.builtin Builtin.copy, args := #[d, x], argTypes := #[dT, sT] })
    (v u : Value) (hd : a.eval d = v) (hx : a.eval x = u) {v' : Value} {w' : World} (hr : (Builtin.copy_ #[dT, sT] o.type #[v, u]).run P w = .ok v' w') (hK : K (a.put o.dst v') w') :
    if Region.wanted o (yielded ops a.tmps) = true then Oper.wp P o a w K Q else E := by
  have hw : Region.wanted o (yielded ops a.tmps) = true := by simp [Region.wanted, hg]
  rw [if_pos hw]
  unfold Oper.wp
  simp [execOp, hop, resolve, invoke, builtin, hd, hx, hr, Result.andThen]
  exact hK

theorem frozen_blk {W : World} {b : Nat} {cs : Array Value} {t : TypeId} (h : W.heap[b]? = some (.cells cs t (0, 0))) (j : Nat) : W.frozen? ⟨b, j, none⟩ = false := by simp [World.frozen?, h]

theorem Tryz.infBl : (Tryz.prog.info? 37).map (fun i => (i.zero, i.size, i.bytes)) = some (some (.agg #[.string ByteArray.empty, .string ByteArray.empty, .slice none 0 0]), 3, 56) := by kernel_rfl
theorem Tryz.undBl : Tryz.prog.underlying 22 = some (.slice 37) := by kernel_rfl

set_option maxRecDepth 8000 in
set_option maxHeartbeats 8000000 in
/-- At the end. -/
theorem insEndBl (lo : Nat) (W : World) (p1 : Option Addr) (n q : Nat) (xs vs : List Value) (h : W.ownsRow lo 37 3 (.slice p1 n q) n xs) (gc m qc : Nat) (hv : ∀ j u, vs[j]? = some u → W.cell? ⟨gc, j, none⟩ = some u) (hvl : vs.length = m * 3) (hv1 : ∀ u ∈ vs, u.oneCell' = true) (hm : 0 < m) (hn : n + m ≤ 1048576) (hlo : lo ≤ W.heap.size) :
    Calls Tryz.prog 70 #[.slice p1 n q, .int .i64 (n : Nat), .slice (some ⟨gc, 0, none⟩) m qc] W fun e W' => ∃ g' q', e = .returned (.slice (some ⟨g', 0, none⟩) (n + m) q') ∧ W'.ownsRow lo 37 3 (.slice (some ⟨g', 0, none⟩) (n + m) q') (n + m) (xs ++ vs) ∧ BelO p1 W W' ∧ (p1 = some ⟨g', 0, none⟩ ∨ W.heap.size ≤ g') := by
  have HH := hid h
  have HV := hid hv
  have HVL := hid hvl
  have HV1 := hid hv1
  have HLO := hid hlo
  have hqc : n ≤ q ∧ q ≤ maxLen := by
    rcases h.2 with ⟨e, e'⟩ | ⟨g, cap, cur, e, _, _, hc, hcm, _⟩
    · cases e; exact ⟨Nat.le_refl _, Nat.zero_le _⟩
    · cases e; exact ⟨hc, hcm⟩
  unfold maxLen at hqc
  obtain ⟨hq1, hq2⟩ := hqc
  clear h hv hvl hv1 hlo
  obtain ⟨i1, hi1, ei1⟩ := Option.map_eq_some_iff.1 Tryz.infBl
  simp only [Prod.mk.injEq] at ei1
  obtain ⟨hz1, hs1, hy1⟩ := ei1
  have hm1 : ¬ ((m : Int) = 0) := by omega
  have hn0 : (0 : Int) ≤ (n : Int) := by omega
  have hnq : (n : Int) ≤ (q : Int) := by omega
  cases p1 with
  | none =>
    obtain ⟨rfl, rfl⟩ : n = 0 ∧ q = 0 := by
      rcases HH.out.2 with ⟨e, e'⟩ | ⟨g, cap, cur, e, _⟩
      · cases e; exact ⟨e', rfl⟩
      · cases e
    simp only [Nat.zero_add]
    go_enter Tryz.func70, Tryz.ntmps70
    go_wp2_with (at_builtin; refine wpList_append_lies _ rfl _ _ 22 rfl lo 37 i1 _ 3 56 Tryz.undBl hi1 hz1 hs1 hy1 rfl (by decide) _ _ xs rfl HH.out ⟨gc, 0, none⟩ m qc vs rfl ?a1x ?a2x ?a3x hm ?a4x ?a5x ?a6x _ rfl ?_)
    case a1x => exact HVL.out
    case a2x =>
      intro j u hj
      rw [addN, Nat.zero_add]
      exact HV.out j u hj
    case a3x => exact HV1.out
    case a4x => unfold maxLen; omega
    case a5x => omega
    case a6x => exact HLO.out
    intro g' e1 w1 ho1 hg1 hn1 _
    have HOR : Hid ((none : Option Addr) = some ⟨g', 0, none⟩ ∨ W.heap.size ≤ g') := by
      rcases hn1 with q | q
      · first | exact Or.inl (by rw [← Option.some.inj q]) | cases q
      · exact Or.inr (by omega)
    have HO := hid ho1
    have HG : Hid (BelO none W w1) := ⟨hg1.os, hg1.tape, hg1.output, hg1.size, fun b hb hne => hg1.block b hb (fun e => by cases e)⟩
    clear ho1 hg1 hn1
    go_wp2
    go_ret
    exact ⟨g', e1, rfl, HO.out, HG.out, HOR.out⟩
  | some ad =>
    obtain ⟨g0, rfl⟩ : ∃ g0, ad = ⟨g0, 0, none⟩ := by
      rcases HH.out.2 with ⟨e, e'⟩ | ⟨g, cap, cur, e, _⟩
      · cases e
      · cases e; exact ⟨g, rfl⟩
    by_cases hqn : q = n
    · subst hqn
      go_enter Tryz.func70, Tryz.ntmps70
      go_wp2_with (at_builtin; refine wpList_append_lies _ rfl _ _ 22 rfl lo 37 i1 _ 3 56 Tryz.undBl hi1 hz1 hs1 hy1 rfl (by decide) _ _ xs rfl HH.out ⟨gc, 0, none⟩ m qc vs rfl ?a1y ?a2y ?a3y hm ?a4y ?a5y ?a6y _ rfl ?_)
      case a1y => exact HVL.out
      case a2y =>
        intro j u hj
        rw [addN, Nat.zero_add]
        exact HV.out j u hj
      case a3y => exact HV1.out
      case a4y => unfold maxLen; omega
      case a5y => omega
      case a6y => exact HLO.out
      intro g' e1 w1 ho1 hg1 hn1 _
      have HOR : Hid ((some ⟨g0, 0, none⟩ : Option Addr) = some ⟨g', 0, none⟩ ∨ W.heap.size ≤ g') := by
        rcases hn1 with q | q
        · first | exact Or.inl (by rw [← Option.some.inj q]) | cases q
        · exact Or.inr (by omega)
      have HO := hid ho1
      have HG : Hid (BelO (some ⟨g0, 0, none⟩) W w1) := ⟨hg1.os, hg1.tape, hg1.output, hg1.size, fun b hb hne => hg1.block b hb (fun e => hne g0 rfl (by injection e))⟩
      clear ho1 hg1 hn1
      go_wp2
      go_ret
      exact ⟨g', e1, rfl, HO.out, HG.out, HOR.out⟩
    · have hqn' : ¬ (n = q) := fun e => hqn e.symm
      go_enter Tryz.func70, Tryz.ntmps70
      go_wp2_with (at_builtin; refine wpList_append_lies _ rfl _ _ 22 rfl lo 37 i1 _ 3 56 Tryz.undBl hi1 hz1 hs1 hy1 rfl (by decide) _ _ xs rfl HH.out ⟨gc, 0, none⟩ m qc vs rfl ?a1z ?a2z ?a3z hm ?a4z ?a5z ?a6z _ rfl ?_)
      case a1z => exact HVL.out
      case a2z =>
        intro j u hj
        rw [addN, Nat.zero_add]
        exact HV.out j u hj
      case a3z => exact HV1.out
      case a4z => unfold maxLen; omega
      case a5z => omega
      case a6z => exact HLO.out
      intro g' e1 w1 ho1 hg1 hn1 _
      have HOR : Hid ((some ⟨g0, 0, none⟩ : Option Addr) = some ⟨g', 0, none⟩ ∨ W.heap.size ≤ g') := by
        rcases hn1 with q | q
        · first | exact Or.inl (by rw [← Option.some.inj q]) | cases q
        · exact Or.inr (by omega)
      have HO := hid ho1
      have HG : Hid (BelO (some ⟨g0, 0, none⟩) W w1) := ⟨hg1.os, hg1.tape, hg1.output, hg1.size, fun b hb hne => hg1.block b hb (fun e => hne g0 rfl (by injection e))⟩
      clear ho1 hg1 hn1
      go_wp2
      go_ret
      exact ⟨g', e1, rfl, HO.out, HG.out, HOR.out⟩

set_option maxRecDepth 8000 in
set_option maxHeartbeats 8000000 in
/-- In place: there is room. -/
theorem insRoomBl (lo : Nat) (W : World) (g n q : Nat) (xs vs : List Value) (h : W.ownsRow lo 37 3 (.slice (some ⟨g, 0, none⟩) n q) n xs) (hx1 : ∀ u ∈ xs, u.oneCell' = true) (gc m qc : Nat) (curC : Array Value) (hgc : W.heap[gc]? = some (.cells curC 37 (0, 0))) (hv : ∀ j u, vs[j]? = some u → W.cell? ⟨gc, j, none⟩ = some u) (hvl : vs.length = m * 3) (hv1 : ∀ u ∈ vs, u.oneCell' = true) (hm : 0 < m) (hne : gc ≠ g) (i : Nat) (hi : i < n) (hroom : n + m ≤ q) (hn : n + m ≤ 1048576) :
    Calls Tryz.prog 70 #[.slice (some ⟨g, 0, none⟩) n q, .int .i64 (i : Nat), .slice (some ⟨gc, 0, none⟩) m qc] W fun e W' => ∃ g' q', e = .returned (.slice (some ⟨g', 0, none⟩) (n + m) q') ∧ W'.ownsRow lo 37 3 (.slice (some ⟨g', 0, none⟩) (n + m) q') (n + m) (xs.take (i * 3) ++ vs ++ xs.drop (i * 3)) ∧ BelO (some ⟨g, 0, none⟩) W W' ∧ (some (⟨g, 0, none⟩ : Addr) = some ⟨g', 0, none⟩ ∨ W.heap.size ≤ g') := by
  obtain ⟨hxl, hrow⟩ := h
  rcases hrow with ⟨e, _⟩ | ⟨g', cap, cur, e, hlo, hg, hcap, hcm, hcs, htk⟩
  · cases e
  cases e
  obtain ⟨i1, hi1, ei1⟩ := Option.map_eq_some_iff.1 Tryz.infBl
  simp only [Prod.mk.injEq] at ei1
  obtain ⟨hz1, hs1, hy1⟩ := ei1
  have hsz : (Tryz.prog.info? 37).map (·.size) = some 3 := by rw [hi1]; simp [hs1]
  unfold maxLen at hcm
  have hm1 : ¬ ((m : Int) = 0) := by omega
  have hz2 : ¬ ((i : Int) = (n : Int)) := by omega
  have hz3 : ¬ ((q : Int) < (n : Int) + (m : Int)) := by omega
  have hi0 : (0 : Int) ≤ (i : Int) := by omega
  have hin : (i : Int) ≤ (n : Int) := by omega
  have hb1 : (0 : Int) ≤ (i : Int) + (m : Int) := by omega
  have htn : ((i : Int) + (m : Int)).toNat = i + m := by omega
  have htn2 : ((n : Int) + (m : Int)).toNat = n + m := by omega
  have hb2 : ¬ (q = i + m) := by omega
  have hb3 : (i : Int) ≤ (n : Int) + (m : Int) := by omega
  have hb4 : ¬ (q = i) := by omega
  have hb5 : (i : Int) + (m : Int) ≤ (n : Int) + (m : Int) := by omega
  have hb6 : (0 : Int) ≤ (n : Int) + (m : Int) := by omega
  have hb7 : (n : Int) + (m : Int) ≤ (q : Int) := by omega
  have mixed : Tryz.prog.follows .mixedOrders = true := by kernel_rfl
  have hw1 : IntKind.i64.wrap ((i : Int) + (m : Int)) = (i : Int) + (m : Int) := wrapI _ (by omega) (by omega)
  have hw2 : IntKind.i64.wrap ((n : Int) + (m : Int)) = (n : Int) + (m : Int) := wrapI _ (by omega) (by omega)
  have hdl : (xs.drop (i * 3)).length = (n - i) * 3 := by rw [List.length_drop, hxl, Nat.sub_mul]
  have hmul : n * 3 ≤ q * 3 := Nat.mul_le_mul_right 3 hcap
  have hcc : ∀ j u, xs[j]? = some u → W.cell? ⟨g, j, none⟩ = some u := fun j u hj => by
    rw [← htk, List.getElem?_take] at hj
    simp only [World.cell?, hg]
    split at hj
    · simpa using hj
    · cases hj
  obtain ⟨cur1, hcur1⟩ : ∃ cur1, cur1 = seg cur ((i + m) * 3) (xs.drop (i * 3)) := ⟨_, rfl⟩
  obtain ⟨cur2, hcur2⟩ : ∃ cur2, cur2 = seg cur1 (i * 3) vs := ⟨_, rfl⟩
  have hfit1 : (i + m) * 3 + (xs.drop (i * 3)).length ≤ cur.size := by rw [hdl, hcs]; omega
  have hs1' : cur1.size = cur.size := by rw [hcur1]; exact seg_size hfit1
  have hfit2 : i * 3 + vs.length ≤ cur1.size := by rw [hvl, hs1', hcs]; omega
  have hs2' : cur2.size = cur.size := by rw [hcur2, seg_size hfit2, hs1']
  have hcp1 : ∀ ty dc sc, (Builtin.copy_ #[22, 22] ty #[.slice (some ⟨g, (i + m) * 3, none⟩) (n + m - (i + m)) dc, .slice (some ⟨g, i * 3, none⟩) (n + m - i) sc]).run Tryz.prog W.drew = .ok (goInt (Nat.min (n + m - i) (n + m - (i + m)))) (W.drew.setRow g cur1) := fun ty dc sc => by
    rw [hcur1]
    refine run_copy_rowK W.drew _ _ ty 37 3 g ((i + m) * 3) (n + m - (i + m)) dc ⟨g, i * 3, none⟩ (n + m - i) sc cur 37 (xs.drop (i * 3)) Tryz.undBl hsz hg ?_ (fun j u hj => ?_) hfit1 (fun u hu => hx1 u (List.mem_of_mem_drop hu))
    · rw [hdl]; congr 1; simp only [Nat.min_def]; split <;> omega
    · rw [addN]; exact hcc _ u (by rwa [List.getElem?_drop] at hj)
  have hh1 : (W.drew.setRow g cur1).heap[g]? = some (.cells cur1 37 (0, 0)) := setRow_heap W.drew g cur cur1 37 (0, 0) hg
  have hcp2 : ∀ ty dc, (Builtin.copy_ #[22, 22] ty #[.slice (some ⟨g, i * 3, none⟩) (n + m - i) dc, .slice (some ⟨gc, 0, none⟩) m qc]).run Tryz.prog (W.drew.setRow g cur1) = .ok (goInt (Nat.min m (n + m - i))) ((W.drew.setRow g cur1).setRow g cur2) := fun ty dc => by
    rw [hcur2]
    refine run_copy_rowK _ _ _ ty 37 3 g (i * 3) (n + m - i) dc ⟨gc, 0, none⟩ m qc cur1 37 vs Tryz.undBl hsz hh1 ?_ (fun j u hj => ?_) hfit2 hv1
    · rw [hvl]; congr 1; simp only [Nat.min_def]; split <;> omega
    · rw [addN, Nat.zero_add]
      have := hv j u hj
      unfold World.cell? at this ⊢
      rw [setRow_other W.drew g gc cur1 hne]
      exact this
  have hov : ∀ lb cb, (callFunc 89 #[.slice (some ⟨gc, 0, none⟩) m qc, .slice (some ⟨g, (i + m) * 3, none⟩) lb cb]).run Tryz.prog W = .ok (.value (.bool false)) W := fun lb cb => by
    rw [run_callFunc_extern Tryz.func89 (by kernel_rfl) (by kernel_rfl) (by kernel_rfl) (e := Extern.SlicesOverlaps.overlaps #[22, 22] #[4]) (by kernel_rfl),
      Lib.run_overlaps_apart W 22 4 37 Tryz.undBl 3 (fun w => by simp [sizeOf, typeInfo, hi1, hs1]) ⟨gc, 0, none⟩ ⟨g, (i + m) * 3, none⟩ m qc lb cb hne 37 37 curC.size cur.size (by simp [World.shape?, hgc]) (by simp [World.shape?, hg]) (by omega) (frozen_blk hgc 0) (frozen_blk hgc _)]
    rfl
  have HEND : Hid (((W.drew.setRow g cur1).setRow g cur2).ownsRow lo 37 3 (.slice (some ⟨g, 0, none⟩) (n + m) q) (n + m) (xs.take (i * 3) ++ vs ++ xs.drop (i * 3))) := by
    refine ⟨?_, .inr ⟨g, q, cur2, rfl, hlo, setRow_heap _ g cur1 cur2 37 (0, 0) hh1, hroom, by unfold maxLen; exact hcm, by rw [hs2', hcs], ?_⟩⟩
    · simp only [List.length_append, List.length_take, hdl, hvl, hxl]
      have : i * 3 ≤ n * 3 := Nat.mul_le_mul_right 3 (by omega)
      omega
    · have := seg_shift (l := cur.toList) (i := i * 3) (n := n * 3) (m := m * 3) htk hxl hvl (by omega) (by rw [Array.length_toList, hcs]; omega) cur rfl
      rw [hcur2, hcur1, Nat.add_mul, Nat.add_mul]
      exact this
  have HBEL : Hid (BelO (some ⟨g, 0, none⟩) W ((W.drew.setRow g cur1).setRow g cur2)) := ⟨rfl, rfl, rfl, by rw [size_setRow, size_setRow]; exact Nat.le_refl _, fun b _ hb => by
    rw [setRow_other _ g b cur2 (hb g rfl), setRow_other _ g b cur1 (hb g rfl)]; rfl⟩
  clear hcur1 hcur2 hh1 hcc hg hgc hv hvl hv1 hx1 htk hxl hdl hfit1 hfit2 hs1' hs2' hcs hmul
  go_enter Tryz.func70, Tryz.ntmps70
  go_wp2_with (simp only [hov])
  go_region_law_o (refine step_copy_runJ rfl _ _ 22 22 rfl _ _ (by simp [Act.eval, Act.put]) (by simp [Act.eval, Act.put]) (hcp1 _ _ _) ?_)
  go_wp2_with (at_builtin; refine wpList_copy_runJ _ rfl _ _ 22 22 rfl _ _ rfl rfl (hcp2 _ _) ?_)
  go_ret
  exact ⟨g, q, rfl, HEND.out, HBEL.out, Or.inl rfl⟩

set_option maxRecDepth 8000 in
set_option maxHeartbeats 8000000 in
/-- In a new row: there is no room. -/
theorem insGrowBl (lo : Nat) (W : World) (g n q : Nat) (xs vs : List Value) (h : W.ownsRow lo 37 3 (.slice (some ⟨g, 0, none⟩) n q) n xs) (hx1 : ∀ u ∈ xs, u.oneCell' = true) (gc m qc : Nat) (curC : Array Value) (hgc : W.heap[gc]? = some (.cells curC 37 (0, 0))) (hv : ∀ j u, vs[j]? = some u → W.cell? ⟨gc, j, none⟩ = some u) (hvl : vs.length = m * 3) (hv1 : ∀ u ∈ vs, u.oneCell' = true) (hm : 0 < m) (i : Nat) (hi : i < n) (hroom : q < n + m) (hlow : lo ≤ W.heap.size) (hn : n + m ≤ 1048576) :
    Calls Tryz.prog 70 #[.slice (some ⟨g, 0, none⟩) n q, .int .i64 (i : Nat), .slice (some ⟨gc, 0, none⟩) m qc] W fun e W' => ∃ g' q', e = .returned (.slice (some ⟨g', 0, none⟩) (n + m) q') ∧ W'.ownsRow lo 37 3 (.slice (some ⟨g', 0, none⟩) (n + m) q') (n + m) (xs.take (i * 3) ++ vs ++ xs.drop (i * 3)) ∧ BelO (some ⟨g, 0, none⟩) W W' ∧ (some (⟨g, 0, none⟩ : Addr) = some ⟨g', 0, none⟩ ∨ W.heap.size ≤ g') := by
  obtain ⟨hxl, hrow⟩ := h
  rcases hrow with ⟨e, _⟩ | ⟨g', cap, cur, e, hlo, hg, hcap, hcm, hcs, htk⟩
  · cases e
  cases e
  obtain ⟨i1, hi1, ei1⟩ := Option.map_eq_some_iff.1 Tryz.infBl
  simp only [Prod.mk.injEq] at ei1
  obtain ⟨hz1, hs1, hy1⟩ := ei1
  have hsz : (Tryz.prog.info? 37).map (·.size) = some 3 := by rw [hi1]; simp [hs1]
  unfold maxLen at hcm
  have mixed : Tryz.prog.follows .mixedOrders = true := by kernel_rfl
  have hm1 : ¬ ((m : Int) = 0) := by omega
  have hz2 : ¬ ((i : Int) = (n : Int)) := by omega
  have hz3 : (q : Int) < (n : Int) + (m : Int) := by omega
  have hi0 : (0 : Int) ≤ (i : Int) := by omega
  have hin : (i : Int) ≤ (n : Int) := by omega
  have hb1 : (0 : Int) ≤ (i : Int) + (m : Int) := by omega
  have htn : ((i : Int) + (m : Int)).toNat = i + m := by omega
  have hw1 : IntKind.i64.wrap ((i : Int) + (m : Int)) = (i : Int) + (m : Int) := wrapI _ (by omega) (by omega)
  have hw2 : IntKind.i64.wrap ((n : Int) + (m : Int)) = (n : Int) + (m : Int) := wrapI _ (by omega) (by omega)
  have hw3 : IntKind.i64.wrap ((n : Int) + (m : Int) - (i : Int)) = (n : Int) + (m : Int) - (i : Int) := wrapI _ (by omega) (by omega)
  have hkk : (n : Int) + (m : Int) - (i : Int) = ((n + m - i : Nat) : Int) := by omega
  have hik : i + (n + m - i) = n + m := by omega
  have hiq : (i : Int) ≤ (q : Int) := by omega
  have hdl : (xs.drop (i * 3)).length = (n - i) * 3 := by rw [List.length_drop, hxl, Nat.sub_mul]
  have hin7 : i * 3 ≤ n * 3 := Nat.mul_le_mul_right 3 (by omega)
  have htl : (xs.take (i * 3)).length = i * 3 := by rw [List.length_take, hxl]; omega
  have hcc : ∀ j u, xs[j]? = some u → W.cell? ⟨g, j, none⟩ = some u := fun j u hj => by
    rw [← htk, List.getElem?_take] at hj
    simp only [World.cell?, hg]
    split at hj
    · simpa using hj
    · cases hj
  have hgl : g < W.heap.size := lt_heap hg
  have hgcl : gc < W.heap.size := lt_heap hgc
  have hold : (Builtin.firstCells i1.size i (.slice (some ⟨g, 0, none⟩) i q)).run Tryz.prog W.drew = .ok (xs.take (i * 3)).toArray W.drew := by
    rw [hs1]
    refine run_firstCells_some W.drew 3 i ⟨g, 0, none⟩ i q (xs.take (i * 3)) htl (fun j v hj => ?_)
    rw [addN, Nat.zero_add]
    rw [List.getElem?_take] at hj
    split at hj
    · exact hcc j v hj
    · cases hj
  obtain ⟨Z, hZ⟩ : ∃ Z : Value, Z = (.agg #[.string ByteArray.empty, .string ByteArray.empty, .slice none 0 0]) := ⟨_, rfl⟩
  rw [← hZ] at hz1
  have hZs : Z.cells.size = 3 := by rw [hZ]; rfl
  clear hZ
  have hrz : ∀ ty, (Builtin.append_ #[22, 3] ty #[.slice (some ⟨g, 0, none⟩) i q, .int .i64 ((n : Int) + (m : Int) - (i : Int))]).run Tryz.prog W =
      .ok (.slice (some ⟨W.heap.size, 0, none⟩) (n + m) (grownCap W (n + m) q 37)) (W.drew.alloc (.cells ((xs.take (i * 3)).toArray ++ Builtin.zeroCells Z.cells (n + m - i) ++ Builtin.zeroCells Z.cells (grownCap W (n + m) q 37 - (n + m))) 37)) := fun ty => by
    have hmul : (n + m) * 56 ≤ 1048576 * 56 := Nat.mul_le_mul_right 56 hn
    have hmul2 : (n + m - i) * 56 ≤ 1048576 * 56 := Nat.mul_le_mul_right 56 (by omega)
    have h := Lib.run_append_grow_zeros W 22 3 ty 37 i1 Z .i64 .i64 Tryz.undBl (by kernel_rfl) hi1 hz1 (some ⟨g, 0, none⟩) i q (xs.take (i * 3)) hold (n + m - i) (by omega) (by omega) (by omega) (by omega) (by rw [hy1]; omega) (by rw [hy1, hik]; exact growslice_fits hroom (by omega))
    rw [hik] at h
    rw [hkk]
    exact h
  have hGn := grownCap_ge W (n + m) q 37
  have hG63 := grownCap_le_maxLen W (n + m) q 37 (by unfold maxLen; omega)
  obtain ⟨G, hG⟩ : ∃ G, G = grownCap W (n + m) q 37 := ⟨_, rfl⟩
  rw [← hG] at hrz hGn hG63
  clear hG
  have hG63' := hG63
  unfold maxLen at hG63'
  obtain ⟨ROW, hROW⟩ : ∃ ROW : Array Value, ROW = (xs.take (i * 3)).toArray ++ Builtin.zeroCells Z.cells (n + m - i) ++ Builtin.zeroCells Z.cells (G - (n + m)) := ⟨_, rfl⟩
  rw [← hROW] at hrz
  have hRs : ROW.size = G * 3 := by
    rw [hROW, Array.size_append, Array.size_append, size_zeroCells, size_zeroCells, hZs, List.size_toArray, htl]
    rw [← Nat.add_mul, ← Nat.add_mul]
    congr 1
    omega
  have hRl : ROW.toList = xs.take (i * 3) ++ ((Builtin.zeroCells Z.cells (n + m - i)).toList ++ (Builtin.zeroCells Z.cells (G - (n + m))).toList) := by
    rw [hROW]; simp
  clear hROW
  obtain ⟨cur1, hcur1⟩ : ∃ cur1, cur1 = seg ROW (i * 3) vs := ⟨_, rfl⟩
  obtain ⟨cur2, hcur2⟩ : ∃ cur2, cur2 = seg cur1 ((i + m) * 3) (xs.drop (i * 3)) := ⟨_, rfl⟩
  have hG7 : (n + m) * 3 ≤ G * 3 := Nat.mul_le_mul_right 3 hGn
  have hfit1 : i * 3 + vs.length ≤ ROW.size := by rw [hvl, hRs]; omega
  have hs1' : cur1.size = ROW.size := by rw [hcur1]; exact seg_size hfit1
  have hfit2 : (i + m) * 3 + (xs.drop (i * 3)).length ≤ cur1.size := by rw [hdl, hs1', hRs]; omega
  have hs2' : cur2.size = ROW.size := by rw [hcur2, seg_size hfit2, hs1']
  obtain ⟨V, hV⟩ : ∃ V, V = W.drew.alloc (.cells ROW 37) := ⟨_, rfl⟩
  have hVg : V.heap[W.heap.size]? = some (.cells ROW 37 (0, 0)) := by rw [hV]; exact heap_alloc_new W.drew _
  have hVB : Below W.heap.size W V := by rw [hV]; exact blw_alloc (Below.drew (Below.refl _ _)) _
  have hcpA : ∀ (V' : World), V'.heap = V.heap → ∀ ty dc, (Builtin.copy_ #[22, 22] ty #[.slice (some ⟨W.heap.size, i * 3, none⟩) (n + m - i) dc, .slice (some ⟨gc, 0, none⟩) m qc]).run Tryz.prog V' = .ok (goInt (Nat.min m (n + m - i))) (V'.setRow W.heap.size cur1) := fun V' hV' ty dc => by
    rw [hcur1]
    refine run_copy_rowK V' _ _ ty 37 3 W.heap.size (i * 3) (n + m - i) dc ⟨gc, 0, none⟩ m qc ROW 37 vs Tryz.undBl hsz (by rw [hV']; exact hVg) ?_ (fun j u hj => ?_) hfit1 hv1
    · rw [hvl]; congr 1; simp only [Nat.min_def]; split <;> omega
    · rw [addN, Nat.zero_add]
      have := hv j u hj
      unfold World.cell? at this ⊢
      rw [hV', hVB.block gc hgcl]
      exact this
  have hh1 : ∀ V' : World, V'.heap = V.heap → (V'.setRow W.heap.size cur1).heap[W.heap.size]? = some (.cells cur1 37 (0, 0)) := fun V' hV' => setRow_heap V' W.heap.size ROW cur1 37 (0, 0) (by rw [hV']; exact hVg)
  have hcpB : ∀ (V' V'' : World), V'.heap = V.heap → V''.heap = (V'.setRow W.heap.size cur1).heap → ∀ ty dc sc, (Builtin.copy_ #[22, 22] ty #[.slice (some ⟨W.heap.size, (i + m) * 3, none⟩) (n + m - (i + m)) dc, .slice (some ⟨g, i * 3, none⟩) (n - i) sc]).run Tryz.prog V'' = .ok (goInt (Nat.min (n - i) (n + m - (i + m)))) (V''.setRow W.heap.size cur2) := fun V' V'' hV' hV'' ty dc sc => by
    rw [hcur2]
    refine run_copy_rowK V'' _ _ ty 37 3 W.heap.size ((i + m) * 3) (n + m - (i + m)) dc ⟨g, i * 3, none⟩ (n - i) sc cur1 37 (xs.drop (i * 3)) Tryz.undBl hsz (by rw [hV'']; exact hh1 V' hV') ?_ (fun j u hj => ?_) hfit2 (fun u hu => hx1 u (List.mem_of_mem_drop hu))
    · rw [hdl]; congr 1; simp only [Nat.min_def]; split <;> omega
    · rw [addN]
      have := hcc (i * 3 + j) u (by rwa [List.getElem?_drop] at hj)
      unfold World.cell? at this ⊢
      rw [hV'', setRow_other V' W.heap.size g cur1 (by omega), hV', hVB.block g hgl]
      exact this
  have HEND : Hid (∀ (V' V'' : World), V'.heap = V.heap → V''.heap = (V'.setRow W.heap.size cur1).heap → V'.os = W.os → V'.tape = W.tape → V'.output = W.output → V''.os = V'.os → V''.tape = V'.tape → V''.output = V'.output → (V''.setRow W.heap.size cur2).ownsRow lo 37 3 (.slice (some ⟨W.heap.size, 0, none⟩) (n + m) G) (n + m) (xs.take (i * 3) ++ vs ++ xs.drop (i * 3)) ∧ BelO (some ⟨g, 0, none⟩) W (V''.setRow W.heap.size cur2)) := by
    intro V' V'' hV' hV'' o1 o2 o3 r1 r2 r3
    refine ⟨⟨?_, .inr ⟨W.heap.size, G, cur2, rfl, hlow, setRow_heap _ _ cur1 cur2 37 (0, 0) (by rw [hV'']; exact hh1 V' hV'), hGn, hG63, by rw [hs2', hRs], ?_⟩⟩, ⟨r1.trans o1, r2.trans o2, r3.trans o3, ?_, fun b hb _ => ?_⟩⟩
    · simp only [List.length_append, htl, hdl, hvl]
      omega
    · have := seg_grow (cs := xs) (i := i * 3) (n := n * 3) (m := m * 3) hxl hvl (by omega) ROW hRl
      rw [hcur2, hcur1, Nat.add_mul, Nat.add_mul]
      exact this
    · rw [size_setRow, hV'', size_setRow, hV']; exact hVB.size
    · rw [setRow_other _ _ b cur2 (by omega), hV'', setRow_other _ _ b cur1 (by omega), hV', hVB.block b hb]
  have hGi : ¬ (G = i) := by omega
  have hGim : ¬ (G = i + m) := by omega
  have hqi : ¬ (q = i) := by omega
  have hb3 : (i : Int) ≤ (n : Int) + (m : Int) := by omega
  have hE : ((W.alloc (.cells ROW 37)).drew).heap = V.heap := by rw [hV]; rfl
  have hF : (((W.alloc (.cells ROW 37)).drew.setRow W.heap.size cur1).drew).heap = ((W.alloc (.cells ROW 37)).drew.setRow W.heap.size cur1).heap := rfl
  subst hV
  clear hcur1 hcur2 hh1 hcc hg hgc hv hvl hv1 hx1 htk hxl hdl hfit1 hfit2 hs1' hs2' hcs hRl hRs hold hkk hik htl hVg hVB hz1 hZs hG63
  go_enter Tryz.func70, Tryz.ntmps70
  go_wp2_with (first
    | (at_builtin; refine Lib.wpList_append_run _ rfl _ _ _ _ rfl _ _ rfl rfl _ _ (hrz _) ?_)
    | (at_builtin; refine wpList_copy_runJ _ rfl _ _ 22 22 rfl _ _ rfl rfl (hcpA _ hE _ _) ?_))
  go_region_law_o (refine step_copy_runJ rfl _ _ 22 22 rfl (.slice (some ⟨W.heap.size, (i + m) * 3, none⟩) (n + m - (i + m)) (G - (i + m))) (.slice (some ⟨g, i * 3, none⟩) (n - i) (q - i)) (by simp [Act.eval, Act.put]) (by simp [Act.eval, Act.put]) (hcpB _ _ hE hF 3 (G - (i + m)) (q - i)) ?_)
  go_wp2
  go_ret
  obtain ⟨r1, r2⟩ := HEND.out _ _ hE hF rfl rfl rfl rfl rfl rfl
  exact ⟨W.heap.size, G, rfl, r1, r2, Or.inr (Nat.le_refl _)⟩

/-- slices.Insert of copies, wherever. -/
theorem insIBl (lo : Nat) (W : World) (p1 : Option Addr) (n q : Nat) (xs vs : List Value) (m : Nat) (h : W.ownsRow lo 37 3 (.slice p1 n q) n xs) (lc : Nat) (vc : Value) (hx1 : ∀ u ∈ xs, u.oneCell' = true) (hv1 : ∀ u ∈ vs, u.oneCell' = true) (hc : W.ownsRow lc 37 3 vc m vs) (hcr : 0 < m) (hne : ∀ g, p1 = some ⟨g, 0, none⟩ → g < lc) (i : Nat) (hi : i ≤ n) (hn : n + m ≤ 1048576) (hlo : lo ≤ W.heap.size) :
    Calls Tryz.prog 70 #[.slice p1 n q, .int .i64 (i : Nat), vc] W fun e W' => ∃ g' q', e = .returned (.slice (some ⟨g', 0, none⟩) (n + m) q') ∧ W'.ownsRow lo 37 3 (.slice (some ⟨g', 0, none⟩) (n + m) q') (n + m) (xs.take (i * 3) ++ vs ++ xs.drop (i * 3)) ∧ BelO p1 W W' ∧ (p1 = some ⟨g', 0, none⟩ ∨ W.heap.size ≤ g') := by
  have hvl := hc.1
  rcases hc.2 with ⟨_, e⟩ | ⟨gc, qc, curC, rfl, hlc, hgc, _⟩
  · omega
  have hv : ∀ j u, vs[j]? = some u → W.cell? ⟨gc, j, none⟩ = some u := by
    obtain ⟨g2, cur2, e2, _, _, _, hcc⟩ := owns_blk hc hcr
    injection e2 with e2
    injection e2 with e2 _ _
    subst e2
    exact hcc
  by_cases hin : i = n
  · subst hin
    refine (insEndBl lo W p1 i q _ _ h gc m qc hv (hvl) hv1 hcr hn hlo).mono ?_
    rintro e W' ⟨g', q', rfl, h1, h2, h3⟩
    refine ⟨g', q', rfl, ?_, h2, h3⟩
    have hx := h.1
    rw [List.take_of_length_le (by omega), List.drop_of_length_le (by omega), List.append_nil]
    exact h1
  · rcases h.2 with ⟨_, e⟩ | ⟨g, cap, cur, e, _⟩
    · omega
    cases e
    by_cases hroom : n + m ≤ q
    · exact insRoomBl lo W g n q _ _ h hx1 gc m qc curC hgc hv (hvl) hv1 hcr (by have := hne g rfl; omega) i (by omega) hroom hn
    · exact insGrowBl lo W g n q _ _ h hx1 gc m qc curC hgc hv (hvl) hv1 hcr i (by omega) (by omega) hlo hn


end Go.Proofs.YtdllbcafbfkngaaGreatDoor

namespace Go.Proofs.YtdllbcafbfkngaaGreatDoor
open Go.RowKit Go.Deep

theorem Tryz.infLn : (Tryz.prog.info? 62).map (fun i => (i.zero, i.size, i.bytes)) = some (some (.agg #[.string ByteArray.empty, .slice none 0 0]), 2, 40) := by kernel_rfl
theorem Tryz.undLn : Tryz.prog.underlying 35 = some (.slice 62) := by kernel_rfl

set_option maxRecDepth 8000 in
set_option maxHeartbeats 8000000 in
/-- At the end. -/
theorem insEndLn (lo : Nat) (W : World) (p1 : Option Addr) (n q : Nat) (xs vs : List Value) (h : W.ownsRow lo 62 2 (.slice p1 n q) n xs) (gc m qc : Nat) (hv : ∀ j u, vs[j]? = some u → W.cell? ⟨gc, j, none⟩ = some u) (hvl : vs.length = m * 2) (hv1 : ∀ u ∈ vs, u.oneCell' = true) (hm : 0 < m) (hn : n + m ≤ 1048576) (hlo : lo ≤ W.heap.size) :
    Calls Tryz.prog 76 #[.slice p1 n q, .int .i64 (n : Nat), .slice (some ⟨gc, 0, none⟩) m qc] W fun e W' => ∃ g' q', e = .returned (.slice (some ⟨g', 0, none⟩) (n + m) q') ∧ W'.ownsRow lo 62 2 (.slice (some ⟨g', 0, none⟩) (n + m) q') (n + m) (xs ++ vs) ∧ BelO p1 W W' ∧ (p1 = some ⟨g', 0, none⟩ ∨ W.heap.size ≤ g') := by
  have HH := hid h
  have HV := hid hv
  have HVL := hid hvl
  have HV1 := hid hv1
  have HLO := hid hlo
  have hqc : n ≤ q ∧ q ≤ maxLen := by
    rcases h.2 with ⟨e, e'⟩ | ⟨g, cap, cur, e, _, _, hc, hcm, _⟩
    · cases e; exact ⟨Nat.le_refl _, Nat.zero_le _⟩
    · cases e; exact ⟨hc, hcm⟩
  unfold maxLen at hqc
  obtain ⟨hq1, hq2⟩ := hqc
  clear h hv hvl hv1 hlo
  obtain ⟨i1, hi1, ei1⟩ := Option.map_eq_some_iff.1 Tryz.infLn
  simp only [Prod.mk.injEq] at ei1
  obtain ⟨hz1, hs1, hy1⟩ := ei1
  have hm1 : ¬ ((m : Int) = 0) := by omega
  have hn0 : (0 : Int) ≤ (n : Int) := by omega
  have hnq : (n : Int) ≤ (q : Int) := by omega
  cases p1 with
  | none =>
    obtain ⟨rfl, rfl⟩ : n = 0 ∧ q = 0 := by
      rcases HH.out.2 with ⟨e, e'⟩ | ⟨g, cap, cur, e, _⟩
      · cases e; exact ⟨e', rfl⟩
      · cases e
    simp only [Nat.zero_add]
    go_enter Tryz.func76, Tryz.ntmps76
    go_wp2_with (at_builtin; refine wpList_append_lies _ rfl _ _ 35 rfl lo 62 i1 _ 2 40 Tryz.undLn hi1 hz1 hs1 hy1 rfl (by decide) _ _ xs rfl HH.out ⟨gc, 0, none⟩ m qc vs rfl ?a1x ?a2x ?a3x hm ?a4x ?a5x ?a6x _ rfl ?_)
    case a1x => exact HVL.out
    case a2x =>
      intro j u hj
      rw [addN, Nat.zero_add]
      exact HV.out j u hj
    case a3x => exact HV1.out
    case a4x => unfold maxLen; omega
    case a5x => omega
    case a6x => exact HLO.out
    intro g' e1 w1 ho1 hg1 hn1 _
    have HOR : Hid ((none : Option Addr) = some ⟨g', 0, none⟩ ∨ W.heap.size ≤ g') := by
      rcases hn1 with q | q
      · first | exact Or.inl (by rw [← Option.some.inj q]) | cases q
      · exact Or.inr (by omega)
    have HO := hid ho1
    have HG : Hid (BelO none W w1) := ⟨hg1.os, hg1.tape, hg1.output, hg1.size, fun b hb hne => hg1.block b hb (fun e => by cases e)⟩
    clear ho1 hg1 hn1
    go_wp2
    go_ret
    exact ⟨g', e1, rfl, HO.out, HG.out, HOR.out⟩
  | some ad =>
    obtain ⟨g0, rfl⟩ : ∃ g0, ad = ⟨g0, 0, none⟩ := by
      rcases HH.out.2 with ⟨e, e'⟩ | ⟨g, cap, cur, e, _⟩
      · cases e
      · cases e; exact ⟨g, rfl⟩
    by_cases hqn : q = n
    · subst hqn
      go_enter Tryz.func76, Tryz.ntmps76
      go_wp2_with (at_builtin; refine wpList_append_lies _ rfl _ _ 35 rfl lo 62 i1 _ 2 40 Tryz.undLn hi1 hz1 hs1 hy1 rfl (by decide) _ _ xs rfl HH.out ⟨gc, 0, none⟩ m qc vs rfl ?a1y ?a2y ?a3y hm ?a4y ?a5y ?a6y _ rfl ?_)
      case a1y => exact HVL.out
      case a2y =>
        intro j u hj
        rw [addN, Nat.zero_add]
        exact HV.out j u hj
      case a3y => exact HV1.out
      case a4y => unfold maxLen; omega
      case a5y => omega
      case a6y => exact HLO.out
      intro g' e1 w1 ho1 hg1 hn1 _
      have HOR : Hid ((some ⟨g0, 0, none⟩ : Option Addr) = some ⟨g', 0, none⟩ ∨ W.heap.size ≤ g') := by
        rcases hn1 with q | q
        · first | exact Or.inl (by rw [← Option.some.inj q]) | cases q
        · exact Or.inr (by omega)
      have HO := hid ho1
      have HG : Hid (BelO (some ⟨g0, 0, none⟩) W w1) := ⟨hg1.os, hg1.tape, hg1.output, hg1.size, fun b hb hne => hg1.block b hb (fun e => hne g0 rfl (by injection e))⟩
      clear ho1 hg1 hn1
      go_wp2
      go_ret
      exact ⟨g', e1, rfl, HO.out, HG.out, HOR.out⟩
    · have hqn' : ¬ (n = q) := fun e => hqn e.symm
      go_enter Tryz.func76, Tryz.ntmps76
      go_wp2_with (at_builtin; refine wpList_append_lies _ rfl _ _ 35 rfl lo 62 i1 _ 2 40 Tryz.undLn hi1 hz1 hs1 hy1 rfl (by decide) _ _ xs rfl HH.out ⟨gc, 0, none⟩ m qc vs rfl ?a1z ?a2z ?a3z hm ?a4z ?a5z ?a6z _ rfl ?_)
      case a1z => exact HVL.out
      case a2z =>
        intro j u hj
        rw [addN, Nat.zero_add]
        exact HV.out j u hj
      case a3z => exact HV1.out
      case a4z => unfold maxLen; omega
      case a5z => omega
      case a6z => exact HLO.out
      intro g' e1 w1 ho1 hg1 hn1 _
      have HOR : Hid ((some ⟨g0, 0, none⟩ : Option Addr) = some ⟨g', 0, none⟩ ∨ W.heap.size ≤ g') := by
        rcases hn1 with q | q
        · first | exact Or.inl (by rw [← Option.some.inj q]) | cases q
        · exact Or.inr (by omega)
      have HO := hid ho1
      have HG : Hid (BelO (some ⟨g0, 0, none⟩) W w1) := ⟨hg1.os, hg1.tape, hg1.output, hg1.size, fun b hb hne => hg1.block b hb (fun e => hne g0 rfl (by injection e))⟩
      clear ho1 hg1 hn1
      go_wp2
      go_ret
      exact ⟨g', e1, rfl, HO.out, HG.out, HOR.out⟩

set_option maxRecDepth 8000 in
set_option maxHeartbeats 8000000 in
/-- In place: there is room. -/
theorem insRoomLn (lo : Nat) (W : World) (g n q : Nat) (xs vs : List Value) (h : W.ownsRow lo 62 2 (.slice (some ⟨g, 0, none⟩) n q) n xs) (hx1 : ∀ u ∈ xs, u.oneCell' = true) (gc m qc : Nat) (curC : Array Value) (hgc : W.heap[gc]? = some (.cells curC 62 (0, 0))) (hv : ∀ j u, vs[j]? = some u → W.cell? ⟨gc, j, none⟩ = some u) (hvl : vs.length = m * 2) (hv1 : ∀ u ∈ vs, u.oneCell' = true) (hm : 0 < m) (hne : gc ≠ g) (i : Nat) (hi : i < n) (hroom : n + m ≤ q) (hn : n + m ≤ 1048576) :
    Calls Tryz.prog 76 #[.slice (some ⟨g, 0, none⟩) n q, .int .i64 (i : Nat), .slice (some ⟨gc, 0, none⟩) m qc] W fun e W' => ∃ g' q', e = .returned (.slice (some ⟨g', 0, none⟩) (n + m) q') ∧ W'.ownsRow lo 62 2 (.slice (some ⟨g', 0, none⟩) (n + m) q') (n + m) (xs.take (i * 2) ++ vs ++ xs.drop (i * 2)) ∧ BelO (some ⟨g, 0, none⟩) W W' ∧ (some (⟨g, 0, none⟩ : Addr) = some ⟨g', 0, none⟩ ∨ W.heap.size ≤ g') := by
  obtain ⟨hxl, hrow⟩ := h
  rcases hrow with ⟨e, _⟩ | ⟨g', cap, cur, e, hlo, hg, hcap, hcm, hcs, htk⟩
  · cases e
  cases e
  obtain ⟨i1, hi1, ei1⟩ := Option.map_eq_some_iff.1 Tryz.infLn
  simp only [Prod.mk.injEq] at ei1
  obtain ⟨hz1, hs1, hy1⟩ := ei1
  have hsz : (Tryz.prog.info? 62).map (·.size) = some 2 := by rw [hi1]; simp [hs1]
  unfold maxLen at hcm
  have hm1 : ¬ ((m : Int) = 0) := by omega
  have hz2 : ¬ ((i : Int) = (n : Int)) := by omega
  have hz3 : ¬ ((q : Int) < (n : Int) + (m : Int)) := by omega
  have hi0 : (0 : Int) ≤ (i : Int) := by omega
  have hin : (i : Int) ≤ (n : Int) := by omega
  have hb1 : (0 : Int) ≤ (i : Int) + (m : Int) := by omega
  have htn : ((i : Int) + (m : Int)).toNat = i + m := by omega
  have htn2 : ((n : Int) + (m : Int)).toNat = n + m := by omega
  have hb2 : ¬ (q = i + m) := by omega
  have hb3 : (i : Int) ≤ (n : Int) + (m : Int) := by omega
  have hb4 : ¬ (q = i) := by omega
  have hb5 : (i : Int) + (m : Int) ≤ (n : Int) + (m : Int) := by omega
  have hb6 : (0 : Int) ≤ (n : Int) + (m : Int) := by omega
  have hb7 : (n : Int) + (m : Int) ≤ (q : Int) := by omega
  have mixed : Tryz.prog.follows .mixedOrders = true := by kernel_rfl
  have hw1 : IntKind.i64.wrap ((i : Int) + (m : Int)) = (i : Int) + (m : Int) := wrapI _ (by omega) (by omega)
  have hw2 : IntKind.i64.wrap ((n : Int) + (m : Int)) = (n : Int) + (m : Int) := wrapI _ (by omega) (by omega)
  have hdl : (xs.drop (i * 2)).length = (n - i) * 2 := by rw [List.length_drop, hxl, Nat.sub_mul]
  have hmul : n * 2 ≤ q * 2 := Nat.mul_le_mul_right 2 hcap
  have hcc : ∀ j u, xs[j]? = some u → W.cell? ⟨g, j, none⟩ = some u := fun j u hj => by
    rw [← htk, List.getElem?_take] at hj
    simp only [World.cell?, hg]
    split at hj
    · simpa using hj
    · cases hj
  obtain ⟨cur1, hcur1⟩ : ∃ cur1, cur1 = seg cur ((i + m) * 2) (xs.drop (i * 2)) := ⟨_, rfl⟩
  obtain ⟨cur2, hcur2⟩ : ∃ cur2, cur2 = seg cur1 (i * 2) vs := ⟨_, rfl⟩
  have hfit1 : (i + m) * 2 + (xs.drop (i * 2)).length ≤ cur.size := by rw [hdl, hcs]; omega
  have hs1' : cur1.size = cur.size := by rw [hcur1]; exact seg_size hfit1
  have hfit2 : i * 2 + vs.length ≤ cur1.size := by rw [hvl, hs1', hcs]; omega
  have hs2' : cur2.size = cur.size := by rw [hcur2, seg_size hfit2, hs1']
  have hcp1 : ∀ ty dc sc, (Builtin.copy_ #[35, 35] ty #[.slice (some ⟨g, (i + m) * 2, none⟩) (n + m - (i + m)) dc, .slice (some ⟨g, i * 2, none⟩) (n + m - i) sc]).run Tryz.prog W.drew = .ok (goInt (Nat.min (n + m - i) (n + m - (i + m)))) (W.drew.setRow g cur1) := fun ty dc sc => by
    rw [hcur1]
    refine run_copy_rowK W.drew _ _ ty 62 2 g ((i + m) * 2) (n + m - (i + m)) dc ⟨g, i * 2, none⟩ (n + m - i) sc cur 62 (xs.drop (i * 2)) Tryz.undLn hsz hg ?_ (fun j u hj => ?_) hfit1 (fun u hu => hx1 u (List.mem_of_mem_drop hu))
    · rw [hdl]; congr 1; simp only [Nat.min_def]; split <;> omega
    · rw [addN]; exact hcc _ u (by rwa [List.getElem?_drop] at hj)
  have hh1 : (W.drew.setRow g cur1).heap[g]? = some (.cells cur1 62 (0, 0)) := setRow_heap W.drew g cur cur1 62 (0, 0) hg
  have hcp2 : ∀ ty dc, (Builtin.copy_ #[35, 35] ty #[.slice (some ⟨g, i * 2, none⟩) (n + m - i) dc, .slice (some ⟨gc, 0, none⟩) m qc]).run Tryz.prog (W.drew.setRow g cur1) = .ok (goInt (Nat.min m (n + m - i))) ((W.drew.setRow g cur1).setRow g cur2) := fun ty dc => by
    rw [hcur2]
    refine run_copy_rowK _ _ _ ty 62 2 g (i * 2) (n + m - i) dc ⟨gc, 0, none⟩ m qc cur1 62 vs Tryz.undLn hsz hh1 ?_ (fun j u hj => ?_) hfit2 hv1
    · rw [hvl]; congr 1; simp only [Nat.min_def]; split <;> omega
    · rw [addN, Nat.zero_add]
      have := hv j u hj
      unfold World.cell? at this ⊢
      rw [setRow_other W.drew g gc cur1 hne]
      exact this
  have hov : ∀ lb cb, (callFunc 95 #[.slice (some ⟨gc, 0, none⟩) m qc, .slice (some ⟨g, (i + m) * 2, none⟩) lb cb]).run Tryz.prog W = .ok (.value (.bool false)) W := fun lb cb => by
    rw [run_callFunc_extern Tryz.func95 (by kernel_rfl) (by kernel_rfl) (by kernel_rfl) (e := Extern.SlicesOverlaps.overlaps #[35, 35] #[4]) (by kernel_rfl),
      Lib.run_overlaps_apart W 35 4 62 Tryz.undLn 2 (fun w => by simp [sizeOf, typeInfo, hi1, hs1]) ⟨gc, 0, none⟩ ⟨g, (i + m) * 2, none⟩ m qc lb cb hne 62 62 curC.size cur.size (by simp [World.shape?, hgc]) (by simp [World.shape?, hg]) (by omega) (frozen_blk hgc 0) (frozen_blk hgc _)]
    rfl
  have HEND : Hid (((W.drew.setRow g cur1).setRow g cur2).ownsRow lo 62 2 (.slice (some ⟨g, 0, none⟩) (n + m) q) (n + m) (xs.take (i * 2) ++ vs ++ xs.drop (i * 2))) := by
    refine ⟨?_, .inr ⟨g, q, cur2, rfl, hlo, setRow_heap _ g cur1 cur2 62 (0, 0) hh1, hroom, by unfold maxLen; exact hcm, by rw [hs2', hcs], ?_⟩⟩
    · simp only [List.length_append, List.length_take, hdl, hvl, hxl]
      have : i * 2 ≤ n * 2 := Nat.mul_le_mul_right 2 (by omega)
      omega
    · have := seg_shift (l := cur.toList) (i := i * 2) (n := n * 2) (m := m * 2) htk hxl hvl (by omega) (by rw [Array.length_toList, hcs]; omega) cur rfl
      rw [hcur2, hcur1, Nat.add_mul, Nat.add_mul]
      exact this
  have HBEL : Hid (BelO (some ⟨g, 0, none⟩) W ((W.drew.setRow g cur1).setRow g cur2)) := ⟨rfl, rfl, rfl, by rw [size_setRow, size_setRow]; exact Nat.le_refl _, fun b _ hb => by
    rw [setRow_other _ g b cur2 (hb g rfl), setRow_other _ g b cur1 (hb g rfl)]; rfl⟩
  clear hcur1 hcur2 hh1 hcc hg hgc hv hvl hv1 hx1 htk hxl hdl hfit1 hfit2 hs1' hs2' hcs hmul
  go_enter Tryz.func76, Tryz.ntmps76
  go_wp2_with (simp only [hov])
  go_region_law_o (refine step_copy_runJ rfl _ _ 35 35 rfl _ _ (by simp [Act.eval, Act.put]) (by simp [Act.eval, Act.put]) (hcp1 _ _ _) ?_)
  go_wp2_with (at_builtin; refine wpList_copy_runJ _ rfl _ _ 35 35 rfl _ _ rfl rfl (hcp2 _ _) ?_)
  go_ret
  exact ⟨g, q, rfl, HEND.out, HBEL.out, Or.inl rfl⟩

set_option maxRecDepth 8000 in
set_option maxHeartbeats 8000000 in
/-- In a new row: there is no room. -/
theorem insGrowLn (lo : Nat) (W : World) (g n q : Nat) (xs vs : List Value) (h : W.ownsRow lo 62 2 (.slice (some ⟨g, 0, none⟩) n q) n xs) (hx1 : ∀ u ∈ xs, u.oneCell' = true) (gc m qc : Nat) (curC : Array Value) (hgc : W.heap[gc]? = some (.cells curC 62 (0, 0))) (hv : ∀ j u, vs[j]? = some u → W.cell? ⟨gc, j, none⟩ = some u) (hvl : vs.length = m * 2) (hv1 : ∀ u ∈ vs, u.oneCell' = true) (hm : 0 < m) (i : Nat) (hi : i < n) (hroom : q < n + m) (hlow : lo ≤ W.heap.size) (hn : n + m ≤ 1048576) :
    Calls Tryz.prog 76 #[.slice (some ⟨g, 0, none⟩) n q, .int .i64 (i : Nat), .slice (some ⟨gc, 0, none⟩) m qc] W fun e W' => ∃ g' q', e = .returned (.slice (some ⟨g', 0, none⟩) (n + m) q') ∧ W'.ownsRow lo 62 2 (.slice (some ⟨g', 0, none⟩) (n + m) q') (n + m) (xs.take (i * 2) ++ vs ++ xs.drop (i * 2)) ∧ BelO (some ⟨g, 0, none⟩) W W' ∧ (some (⟨g, 0, none⟩ : Addr) = some ⟨g', 0, none⟩ ∨ W.heap.size ≤ g') := by
  obtain ⟨hxl, hrow⟩ := h
  rcases hrow with ⟨e, _⟩ | ⟨g', cap, cur, e, hlo, hg, hcap, hcm, hcs, htk⟩
  · cases e
  cases e
  obtain ⟨i1, hi1, ei1⟩ := Option.map_eq_some_iff.1 Tryz.infLn
  simp only [Prod.mk.injEq] at ei1
  obtain ⟨hz1, hs1, hy1⟩ := ei1
  have hsz : (Tryz.prog.info? 62).map (·.size) = some 2 := by rw [hi1]; simp [hs1]
  unfold maxLen at hcm
  have mixed : Tryz.prog.follows .mixedOrders = true := by kernel_rfl
  have hm1 : ¬ ((m : Int) = 0) := by omega
  have hz2 : ¬ ((i : Int) = (n : Int)) := by omega
  have hz3 : (q : Int) < (n : Int) + (m : Int) := by omega
  have hi0 : (0 : Int) ≤ (i : Int) := by omega
  have hin : (i : Int) ≤ (n : Int) := by omega
  have hb1 : (0 : Int) ≤ (i : Int) + (m : Int) := by omega
  have htn : ((i : Int) + (m : Int)).toNat = i + m := by omega
  have hw1 : IntKind.i64.wrap ((i : Int) + (m : Int)) = (i : Int) + (m : Int) := wrapI _ (by omega) (by omega)
  have hw2 : IntKind.i64.wrap ((n : Int) + (m : Int)) = (n : Int) + (m : Int) := wrapI _ (by omega) (by omega)
  have hw3 : IntKind.i64.wrap ((n : Int) + (m : Int) - (i : Int)) = (n : Int) + (m : Int) - (i : Int) := wrapI _ (by omega) (by omega)
  have hkk : (n : Int) + (m : Int) - (i : Int) = ((n + m - i : Nat) : Int) := by omega
  have hik : i + (n + m - i) = n + m := by omega
  have hiq : (i : Int) ≤ (q : Int) := by omega
  have hdl : (xs.drop (i * 2)).length = (n - i) * 2 := by rw [List.length_drop, hxl, Nat.sub_mul]
  have hin7 : i * 2 ≤ n * 2 := Nat.mul_le_mul_right 2 (by omega)
  have htl : (xs.take (i * 2)).length = i * 2 := by rw [List.length_take, hxl]; omega
  have hcc : ∀ j u, xs[j]? = some u → W.cell? ⟨g, j, none⟩ = some u := fun j u hj => by
    rw [← htk, List.getElem?_take] at hj
    simp only [World.cell?, hg]
    split at hj
    · simpa using hj
    · cases hj
  have hgl : g < W.heap.size := lt_heap hg
  have hgcl : gc < W.heap.size := lt_heap hgc
  have hold : (Builtin.firstCells i1.size i (.slice (some ⟨g, 0, none⟩) i q)).run Tryz.prog W.drew = .ok (xs.take (i * 2)).toArray W.drew := by
    rw [hs1]
    refine run_firstCells_some W.drew 2 i ⟨g, 0, none⟩ i q (xs.take (i * 2)) htl (fun j v hj => ?_)
    rw [addN, Nat.zero_add]
    rw [List.getElem?_take] at hj
    split at hj
    · exact hcc j v hj
    · cases hj
  obtain ⟨Z, hZ⟩ : ∃ Z : Value, Z = (.agg #[.string ByteArray.empty, .slice none 0 0]) := ⟨_, rfl⟩
  rw [← hZ] at hz1
  have hZs : Z.cells.size = 2 := by rw [hZ]; rfl
  clear hZ
  have hrz : ∀ ty, (Builtin.append_ #[35, 3] ty #[.slice (some ⟨g, 0, none⟩) i q, .int .i64 ((n : Int) + (m : Int) - (i : Int))]).run Tryz.prog W =
      .ok (.slice (some ⟨W.heap.size, 0, none⟩) (n + m) (grownCap W (n + m) q 62)) (W.drew.alloc (.cells ((xs.take (i * 2)).toArray ++ Builtin.zeroCells Z.cells (n + m - i) ++ Builtin.zeroCells Z.cells (grownCap W (n + m) q 62 - (n + m))) 62)) := fun ty => by
    have hmul : (n + m) * 40 ≤ 1048576 * 40 := Nat.mul_le_mul_right 40 hn
    have hmul2 : (n + m - i) * 40 ≤ 1048576 * 40 := Nat.mul_le_mul_right 40 (by omega)
    have h := Lib.run_append_grow_zeros W 35 3 ty 62 i1 Z .i64 .i64 Tryz.undLn (by kernel_rfl) hi1 hz1 (some ⟨g, 0, none⟩) i q (xs.take (i * 2)) hold (n + m - i) (by omega) (by omega) (by omega) (by omega) (by rw [hy1]; omega) (by rw [hy1, hik]; exact growslice_fits hroom (by omega))
    rw [hik] at h
    rw [hkk]
    exact h
  have hGn := grownCap_ge W (n + m) q 62
  have hG63 := grownCap_le_maxLen W (n + m) q 62 (by unfold maxLen; omega)
  obtain ⟨G, hG⟩ : ∃ G, G = grownCap W (n + m) q 62 := ⟨_, rfl⟩
  rw [← hG] at hrz hGn hG63
  clear hG
  have hG63' := hG63
  unfold maxLen at hG63'
  obtain ⟨ROW, hROW⟩ : ∃ ROW : Array Value, ROW = (xs.take (i * 2)).toArray ++ Builtin.zeroCells Z.cells (n + m - i) ++ Builtin.zeroCells Z.cells (G - (n + m)) := ⟨_, rfl⟩
  rw [← hROW] at hrz
  have hRs : ROW.size = G * 2 := by
    rw [hROW, Array.size_append, Array.size_append, size_zeroCells, size_zeroCells, hZs, List.size_toArray, htl]
    rw [← Nat.add_mul, ← Nat.add_mul]
    congr 1
    omega
  have hRl : ROW.toList = xs.take (i * 2) ++ ((Builtin.zeroCells Z.cells (n + m - i)).toList ++ (Builtin.zeroCells Z.cells (G - (n + m))).toList) := by
    rw [hROW]; simp
  clear hROW
  obtain ⟨cur1, hcur1⟩ : ∃ cur1, cur1 = seg ROW (i * 2) vs := ⟨_, rfl⟩
  obtain ⟨cur2, hcur2⟩ : ∃ cur2, cur2 = seg cur1 ((i + m) * 2) (xs.drop (i * 2)) := ⟨_, rfl⟩
  have hG7 : (n + m) * 2 ≤ G * 2 := Nat.mul_le_mul_right 2 hGn
  have hfit1 : i * 2 + vs.length ≤ ROW.size := by rw [hvl, hRs]; omega
  have hs1' : cur1.size = ROW.size := by rw [hcur1]; exact seg_size hfit1
  have hfit2 : (i + m) * 2 + (xs.drop (i * 2)).length ≤ cur1.size := by rw [hdl, hs1', hRs]; omega
  have hs2' : cur2.size = ROW.size := by rw [hcur2, seg_size hfit2, hs1']
  obtain ⟨V, hV⟩ : ∃ V, V = W.drew.alloc (.cells ROW 62) := ⟨_, rfl⟩
  have hVg : V.heap[W.heap.size]? = some (.cells ROW 62 (0, 0)) := by rw [hV]; exact heap_alloc_new W.drew _
  have hVB : Below W.heap.size W V := by rw [hV]; exact blw_alloc (Below.drew (Below.refl _ _)) _
  have hcpA : ∀ (V' : World), V'.heap = V.heap → ∀ ty dc, (Builtin.copy_ #[35, 35] ty #[.slice (some ⟨W.heap.size, i * 2, none⟩) (n + m - i) dc, .slice (some ⟨gc, 0, none⟩) m qc]).run Tryz.prog V' = .ok (goInt (Nat.min m (n + m - i))) (V'.setRow W.heap.size cur1) := fun V' hV' ty dc => by
    rw [hcur1]
    refine run_copy_rowK V' _ _ ty 62 2 W.heap.size (i * 2) (n + m - i) dc ⟨gc, 0, none⟩ m qc ROW 62 vs Tryz.undLn hsz (by rw [hV']; exact hVg) ?_ (fun j u hj => ?_) hfit1 hv1
    · rw [hvl]; congr 1; simp only [Nat.min_def]; split <;> omega
    · rw [addN, Nat.zero_add]
      have := hv j u hj
      unfold World.cell? at this ⊢
      rw [hV', hVB.block gc hgcl]
      exact this
  have hh1 : ∀ V' : World, V'.heap = V.heap → (V'.setRow W.heap.size cur1).heap[W.heap.size]? = some (.cells cur1 62 (0, 0)) := fun V' hV' => setRow_heap V' W.heap.size ROW cur1 62 (0, 0) (by rw [hV']; exact hVg)
  have hcpB : ∀ (V' V'' : World), V'.heap = V.heap → V''.heap = (V'.setRow W.heap.size cur1).heap → ∀ ty dc sc, (Builtin.copy_ #[35, 35] ty #[.slice (some ⟨W.heap.size, (i + m) * 2, none⟩) (n + m - (i + m)) dc, .slice (some ⟨g, i * 2, none⟩) (n - i) sc]).run Tryz.prog V'' = .ok (goInt (Nat.min (n - i) (n + m - (i + m)))) (V''.setRow W.heap.size cur2) := fun V' V'' hV' hV'' ty dc sc => by
    rw [hcur2]
    refine run_copy_rowK V'' _ _ ty 62 2 W.heap.size ((i + m) * 2) (n + m - (i + m)) dc ⟨g, i * 2, none⟩ (n - i) sc cur1 62 (xs.drop (i * 2)) Tryz.undLn hsz (by rw [hV'']; exact hh1 V' hV') ?_ (fun j u hj => ?_) hfit2 (fun u hu => hx1 u (List.mem_of_mem_drop hu))
    · rw [hdl]; congr 1; simp only [Nat.min_def]; split <;> omega
    · rw [addN]
      have := hcc (i * 2 + j) u (by rwa [List.getElem?_drop] at hj)
      unfold World.cell? at this ⊢
      rw [hV'', setRow_other V' W.heap.size g cur1 (by omega), hV', hVB.block g hgl]
      exact this
  have HEND : Hid (∀ (V' V'' : World), V'.heap = V.heap → V''.heap = (V'.setRow W.heap.size cur1).heap → V'.os = W.os → V'.tape = W.tape → V'.output = W.output → V''.os = V'.os → V''.tape = V'.tape → V''.output = V'.output → (V''.setRow W.heap.size cur2).ownsRow lo 62 2 (.slice (some ⟨W.heap.size, 0, none⟩) (n + m) G) (n + m) (xs.take (i * 2) ++ vs ++ xs.drop (i * 2)) ∧ BelO (some ⟨g, 0, none⟩) W (V''.setRow W.heap.size cur2)) := by
    intro V' V'' hV' hV'' o1 o2 o3 r1 r2 r3
    refine ⟨⟨?_, .inr ⟨W.heap.size, G, cur2, rfl, hlow, setRow_heap _ _ cur1 cur2 62 (0, 0) (by rw [hV'']; exact hh1 V' hV'), hGn, hG63, by rw [hs2', hRs], ?_⟩⟩, ⟨r1.trans o1, r2.trans o2, r3.trans o3, ?_, fun b hb _ => ?_⟩⟩
    · simp only [List.length_append, htl, hdl, hvl]
      omega
    · have := seg_grow (cs := xs) (i := i * 2) (n := n * 2) (m := m * 2) hxl hvl (by omega) ROW hRl
      rw [hcur2, hcur1, Nat.add_mul, Nat.add_mul]
      exact this
    · rw [size_setRow, hV'', size_setRow, hV']; exact hVB.size
    · rw [setRow_other _ _ b cur2 (by omega), hV'', setRow_other _ _ b cur1 (by omega), hV', hVB.block b hb]
  have hGi : ¬ (G = i) := by omega
  have hGim : ¬ (G = i + m) := by omega
  have hqi : ¬ (q = i) := by omega
  have hb3 : (i : Int) ≤ (n : Int) + (m : Int) := by omega
  have hE : ((W.alloc (.cells ROW 62)).drew).heap = V.heap := by rw [hV]; rfl
  have hF : (((W.alloc (.cells ROW 62)).drew.setRow W.heap.size cur1).drew).heap = ((W.alloc (.cells ROW 62)).drew.setRow W.heap.size cur1).heap := rfl
  subst hV
  clear hcur1 hcur2 hh1 hcc hg hgc hv hvl hv1 hx1 htk hxl hdl hfit1 hfit2 hs1' hs2' hcs hRl hRs hold hkk hik htl hVg hVB hz1 hZs hG63
  go_enter Tryz.func76, Tryz.ntmps76
  go_wp2_with (first
    | (at_builtin; refine Lib.wpList_append_run _ rfl _ _ _ _ rfl _ _ rfl rfl _ _ (hrz _) ?_)
    | (at_builtin; refine wpList_copy_runJ _ rfl _ _ 35 35 rfl _ _ rfl rfl (hcpA _ hE _ _) ?_))
  go_region_law_o (refine step_copy_runJ rfl _ _ 35 35 rfl (.slice (some ⟨W.heap.size, (i + m) * 2, none⟩) (n + m - (i + m)) (G - (i + m))) (.slice (some ⟨g, i * 2, none⟩) (n - i) (q - i)) (by simp [Act.eval, Act.put]) (by simp [Act.eval, Act.put]) (hcpB _ _ hE hF 3 (G - (i + m)) (q - i)) ?_)
  go_wp2
  go_ret
  obtain ⟨r1, r2⟩ := HEND.out _ _ hE hF rfl rfl rfl rfl rfl rfl
  exact ⟨W.heap.size, G, rfl, r1, r2, Or.inr (Nat.le_refl _)⟩

/-- slices.Insert of copies, wherever. -/
theorem insILn (lo : Nat) (W : World) (p1 : Option Addr) (n q : Nat) (xs vs : List Value) (m : Nat) (h : W.ownsRow lo 62 2 (.slice p1 n q) n xs) (lc : Nat) (vc : Value) (hx1 : ∀ u ∈ xs, u.oneCell' = true) (hv1 : ∀ u ∈ vs, u.oneCell' = true) (hc : W.ownsRow lc 62 2 vc m vs) (hcr : 0 < m) (hne : ∀ g, p1 = some ⟨g, 0, none⟩ → g < lc) (i : Nat) (hi : i ≤ n) (hn : n + m ≤ 1048576) (hlo : lo ≤ W.heap.size) :
    Calls Tryz.prog 76 #[.slice p1 n q, .int .i64 (i : Nat), vc] W fun e W' => ∃ g' q', e = .returned (.slice (some ⟨g', 0, none⟩) (n + m) q') ∧ W'.ownsRow lo 62 2 (.slice (some ⟨g', 0, none⟩) (n + m) q') (n + m) (xs.take (i * 2) ++ vs ++ xs.drop (i * 2)) ∧ BelO p1 W W' ∧ (p1 = some ⟨g', 0, none⟩ ∨ W.heap.size ≤ g') := by
  have hvl := hc.1
  rcases hc.2 with ⟨_, e⟩ | ⟨gc, qc, curC, rfl, hlc, hgc, _⟩
  · omega
  have hv : ∀ j u, vs[j]? = some u → W.cell? ⟨gc, j, none⟩ = some u := by
    obtain ⟨g2, cur2, e2, _, _, _, hcc⟩ := owns_blk hc hcr
    injection e2 with e2
    injection e2 with e2 _ _
    subst e2
    exact hcc
  by_cases hin : i = n
  · subst hin
    refine (insEndLn lo W p1 i q _ _ h gc m qc hv (hvl) hv1 hcr hn hlo).mono ?_
    rintro e W' ⟨g', q', rfl, h1, h2, h3⟩
    refine ⟨g', q', rfl, ?_, h2, h3⟩
    have hx := h.1
    rw [List.take_of_length_le (by omega), List.drop_of_length_le (by omega), List.append_nil]
    exact h1
  · rcases h.2 with ⟨_, e⟩ | ⟨g, cap, cur, e, _⟩
    · omega
    cases e
    by_cases hroom : n + m ≤ q
    · exact insRoomLn lo W g n q _ _ h hx1 gc m qc curC hgc hv (hvl) hv1 hcr (by have := hne g rfl; omega) i (by omega) hroom hn
    · exact insGrowLn lo W g n q _ _ h hx1 gc m qc curC hgc hv (hvl) hv1 hcr i (by omega) (by omega) hlo hn


end Go.Proofs.YtdllbcafbfkngaaGreatDoor

namespace Go.Proofs.YtdllbcafbfkngaaGreatDoor
open Go.RowKit Go.Deep

/-- All but the blocks of S is as it was. -/
structure Frm (S : Nat → Prop) (w w' : World) : Prop where
  os : w'.os = w.os
  tape : w'.tape = w.tape
  output : w'.output = w.output
  size : w.heap.size ≤ w'.heap.size
  block : ∀ p, p < w.heap.size → ¬ S p → w'.heap[p]? = w.heap[p]?
theorem Frm.trans {S : Nat → Prop} {a b c : World} (h : Frm S a b) (k : Frm S b c) : Frm S a c :=
  ⟨k.os.trans h.os, k.tape.trans h.tape, k.output.trans h.output, Nat.le_trans h.size k.size, fun p hp hn => (k.block p (Nat.lt_of_lt_of_le hp h.size) hn).trans (h.block p hp hn)⟩
theorem Marks.frm {S T : Nat → Prop} {a b : World} (h : Marks S a b) (hS : ∀ p, S p → T p) : Frm T a b := ⟨h.os, h.tape, h.output, h.size, fun p hp hn => h.block p hp (fun q => hn (hS p q))⟩
theorem Frm.of_below {S : Nat → Prop} {a b : World} (h : Below a.heap.size a b) : Frm S a b := ⟨h.os, h.tape, h.output, h.size, fun p hp _ => h.block p hp⟩
theorem Frm.below {S : Nat → Prop} {x a b : World} (h : Frm S a b) (hS : ∀ p, S p → x.heap.size ≤ p) (hb : Below x.heap.size x a) : Below x.heap.size x b :=
  ⟨h.os.trans hb.os, h.tape.trans hb.tape, h.output.trans hb.output, Nat.le_trans hb.size h.size, fun p hp => (h.block p (Nat.lt_of_lt_of_le hp hb.size) (fun q => by have := hS p q; omega)).trans (hb.block p hp)⟩
theorem OwnBlk.frm {S : Nat → Prop} {a b : World} {p : Nat} {t : TypeId} {m : Nat} (h : OwnBlk a p t m) (k : Frm S a b) (hp : ¬ S p) : OwnBlk b p t m := by
  have hl := h.lt
  obtain ⟨c, h1, h2⟩ := h
  exact ⟨c, (k.block p hl hp).trans h1, h2⟩
theorem WBox.frm {S : Nat → Prop} {a b : World} {p : Nat} {t : TypeId} {cs : List Value} (h : WBox a p t cs) (k : Frm S a b) (hp : ¬ S p) : WBox b p t cs :=
  ⟨h.own.frm k hp, rA_same h.at_ fun j _ => World.cell?_of_block (a := ⟨p, 0 + j, none⟩) (k.block p h.own.lt hp)⟩
theorem Rep.frm {w w' : World} {tt : Bool} {ss : List Sh} {F : List Nat} {ds : List Dt} {cs : List Value} {S : Nat → Prop} (h : Rep w tt ss F ds cs) (hb : Frm S w w') : (∀ p ∈ F, ¬ S p) → Rep w' tt ss F ds cs := by
  induction h with
  | nil => intro _; exact .nil
  | i n h ih => intro hS; exact .i n (ih hS)
  | b n h ih => intro hS; exact .b n (ih hS)
  | s n h ih => intro hS; exact .s n (ih hS)
  | emp t sh a ht h ih => intro hS; exact .emp t sh a ht (ih hS)
  | row t sh p o n c u m vs es G ho hm ht hn hr he h ih1 ih =>
    intro hS
    refine .row t sh p o n c u m vs es G (ho.frm hb (hS p (by simp))) hm ht hn (rA_same hr fun j _ => ?_) (ih1 fun q hq => hS q (by simp [hq])) (ih fun q hq => hS q (by simp [hq]))
    exact World.cell?_of_block (a := ⟨p, _, none⟩) (hb.block p ho.lt (hS p (by simp)))


theorem Frm.mono {S T : Nat → Prop} {a b : World} (h : Frm S a b) (hs : ∀ p, S p → T p) : Frm T a b := ⟨h.os, h.tape, h.output, h.size, fun p hp hn => h.block p hp fun q => hn (hs p q)⟩
theorem BelO.frm {p : Option Addr} {a b : World} (h : BelO p a b) : Frm (fun q => ∃ g, p = some ⟨g, 0, none⟩ ∧ q = g) a b :=
  ⟨h.os, h.tape, h.output, h.size, fun q hq hn => h.block q hq fun g hg e => hn ⟨g, hg, e⟩⟩
theorem owns_frm {S : Nat → Prop} {W W' : World} {lo : Nat} {e : TypeId} {size : Nat} {v : Value} {n : Nat} {xs : List Value} (h : W.ownsRow lo e size v n xs) (k : Frm S W W') (hn : ∀ g, v.ownBlock = some g → ¬ S g) : W'.ownsRow lo e size v n xs := by
  refine ⟨h.1, ?_⟩
  rcases h.2 with q | ⟨g, cap, cur, e1, h1, h2, r⟩
  · exact .inl q
  · exact .inr ⟨g, cap, cur, e1, h1, (k.block g (lt_heap h2) (hn g (by rw [e1]; rfl))).trans h2, r⟩
theorem owns_lo {W : World} {lo : Nat} {e : TypeId} {size : Nat} {v : Value} {n : Nat} {xs : List Value} (h : W.ownsRow lo e size v n xs) {g : Nat} (hg : v.ownBlock = some g) : lo ≤ g ∧ ∃ cur, W.heap[g]? = some (.cells cur e (0, 0)) := by
  rcases h.2 with ⟨q, _⟩ | ⟨g', cap, cur, e1, h1, h2, r⟩
  · rw [q] at hg; cases hg
  · rw [e1] at hg
    injection hg with hg
    have hg' : g' = g := hg
    subst hg'
    exact ⟨h1, cur, h2⟩
/-- Rows of elements of two types are never one block. -/
theorem owns_apart {W : World} {lo lo' : Nat} {e e' : TypeId} {s s' : Nat} {v v' : Value} {n n' : Nat} {xs xs' : List Value} (h : W.ownsRow lo e s v n xs) (h' : W.ownsRow lo' e' s' v' n' xs') (hne : e ≠ e') {g : Nat} (hg : v.ownBlock = some g) : v'.ownBlock ≠ some g := fun hg' => by
  obtain ⟨_, c, h1⟩ := owns_lo h hg
  obtain ⟨_, c', h2⟩ := owns_lo h' hg'
  rw [h1] at h2
  injection h2 with h2
  injection h2 with _ h2
  exact hne h2
/-- A row and what its elements hold: a list that can be read. -/
theorem owns_rawX {W : World} {lo : Nat} {t : TypeId} {sh : List Sh} {v : Value} {n : Nat} {es : List Dt} {cs : List Value} {F : List Nat} {tt : Bool} (h : W.ownsRow lo t sh.length v n cs) (hr : Rep W tt (reps n sh) F es cs) (he : n = 0 → es = []) (hn : n ≤ maxLen) : Raw W [.row t sh] [.row n es] [v] := by
  rcases h.2 with ⟨q, q2⟩ | ⟨g, cap, cur, e1, h1, h2, h3, h4, h5, h6⟩
  · subst q2
    rw [q, he rfl]; exact .emp _ _ _ _ .nil
  · rw [e1]
    refine .row t sh g 0 n cap cs es (lt_heap h2) ⟨hn, h3⟩ ?_ hr.raw .nil
    intro j u hj
    rw [Nat.zero_add]
    rw [← h6, List.getElem?_take] at hj
    simp only [World.cell?, h2]
    split at hj
    · simpa using hj
    · cases hj
/-- .. and a list in memory of one's own. -/
theorem owns_repX {W : World} {lo : Nat} {t : TypeId} {sh : List Sh} {v : Value} {n : Nat} {es : List Dt} {cs : List Value} {F : List Nat} (h : W.ownsRow lo t sh.length v n cs) (hr : Rep W false (reps n sh) F es cs) (he : n = 0 → es = []) (hn : n ≤ maxLen) (hnd : F.Nodup) (hlo : ∀ b ∈ F, lo ≤ b) (hg : ∀ g, v.ownBlock = some g → g ∉ F) :
    ∃ G, Rep W false [.row t sh] G [.row n es] [v] ∧ G.Nodup ∧ (∀ b ∈ G, lo ≤ b) ∧ (∀ b ∈ G, b ∈ F ∨ v.ownBlock = some b) := by
  rcases h.2 with ⟨q, q2⟩ | ⟨g, cap, cur, e1, h1, h2, h3, h4, h5, h6⟩
  · subst q2
    rw [q, he rfl]
    exact ⟨[], .emp _ _ _ rfl .nil, List.nodup_nil, by simp, by simp⟩
  · have hb : v.ownBlock = some g := by rw [e1]; rfl
    refine ⟨g :: F ++ [], ?_, ?_, ?_, ?_⟩
    · rw [e1]
      refine Rep.row t sh g 0 n cap t cur.size cs es F ⟨cur, h2, rfl⟩ (by rw [h5, Nat.zero_add]; exact Nat.le_refl _) (by intro h; cases h) ⟨hn, h3⟩ ?_ hr .nil
      intro j u hj
      rw [Nat.zero_add]
      rw [← h6, List.getElem?_take] at hj
      simp only [World.cell?, h2]
      split at hj
      · simpa using hj
      · cases hj
    · rw [List.append_nil]; exact List.nodup_cons.2 ⟨hg g hb, hnd⟩
    · intro b hb'
      rw [List.append_nil] at hb'
      rcases List.mem_cons.1 hb' with rfl | q
      · exact h1
      · exact hlo b q
    · intro b hb'
      rw [List.append_nil] at hb'
      rcases List.mem_cons.1 hb' with rfl | q
      · exact Or.inr hb
      · exact Or.inl q

/-- What a list's cells hold is of one cell each. -/
theorem rep_one {W : World} {tt : Bool} {ss : List Sh} {F : List Nat} {ds : List Dt} {cs : List Value} (h : Rep W tt ss F ds cs) : ∀ u ∈ cs, u.oneCell' = true := by
  induction h with
  | nil => intro u hu; cases hu
  | i n h ih => intro u hu; rcases List.mem_cons.1 hu with rfl | q; exact rfl; exact ih u q
  | b n h ih => intro u hu; rcases List.mem_cons.1 hu with rfl | q; exact rfl; exact ih u q
  | s n h ih => intro u hu; rcases List.mem_cons.1 hu with rfl | q; exact rfl; exact ih u q
  | emp t sh a ht h ih => intro u hu; rcases List.mem_cons.1 hu with rfl | q; exact rfl; exact ih u q
  | row t sh p o n c u' m vs es G ho hm ht hn hr he h ih1 ih => intro u hu; rcases List.mem_cons.1 hu with rfl | q; exact rfl; exact ih u q

namespace RY
/-- A drawn region that goes into a call which may write, and from there into a store: what does not go into the call hangs on no memory. -/
theorem region_ci {P : Program} {id : Nat} {Q : Exit → Act → World → Prop} {a0 : Act} {w : World} {l : List Oper} (v : World) (hv : Below v.heap.size v w)
    (V : Nat → Value → World → Prop) (hVm : ∀ j u W W', Below W.heap.size W W' → V j u W → V j u W') (pure_ : List Nat) (Vp : Nat → Value → Prop) (hVp : ∀ j ∈ pure_, ∀ u W, V j u W ↔ Vp j u)
    (K1 : Value → World → Prop) (K2 : World → Prop) (n iC fuel : Nat) (hiC : iC < n)
    (hm : P.follows .mixedOrders = true) (hasc : asc .any l.toArray = true) (hap : apartB l = true) (hpl : plainB l a0.tmps.size = true)
    (hlen : l.length = n + 1) (D : List Nat) (hD : (D.all fun d => decide (d < n) && waits l n d) = true)
    (hclo : ((List.range n).all fun i => (clo l fuel D).contains i) = true)
    (DC : List Nat) (hDC : (DC.all fun d => decide (d < n) && waits l iC d) = true)
    (hcloC : ((List.range n).all fun i => pure_.contains i || i == iC || (clo l fuel DC).contains i) = true) (hpC : pure_.contains iC = false)
    (oC oS : Oper) (hC : l[iC]? = some oC) (hS : l[n]? = some oS) (hSd : oS.dst = none)
    (hds : ((l.take n).all fun o => o.dst.isSome) = true)
    (hop : ∀ (i : Nat) (o : Oper), l[i]? = some o → i < n → i ≠ iC → ∀ (a : Act) (W : World), (i ∉ pure_ → Below v.heap.size v W) → (∀ k, noDst l k = true → a.eval (.tmp k) = a0.eval (.tmp k)) →
      (∀ (j : Nat) (o' : Oper) (k : Nat), l[j]? = some o' → o'.dst = some k → (∃ e ∈ o.after, e.on = j ∧ Region.binds .any e = true) → j < n → j ≠ iC → (i ∈ pure_ → j ∈ pure_) → V j (a.eval (.tmp k)) W) →
      (∃ u W', (execOp a.eval o).run P W = .ok (.value u) W' ∧ (i ∈ pure_ → W' = W) ∧ Below W.heap.size W W' ∧ V i u W') ∨
      (i ∉ pure_ ∧ ∃ f args, (execOp a.eval o).run P W = .ok (.enter f args) W ∧ Calls P f args W fun e W' => ∃ u, e = .returned u ∧ Below W.heap.size W W' ∧ V i u W'))
    (hcall : ∀ (a : Act) (W : World), Below v.heap.size v W → (∀ k, noDst l k = true → a.eval (.tmp k) = a0.eval (.tmp k)) →
      (∀ (j : Nat) (o' : Oper) (k : Nat), l[j]? = some o' → o'.dst = some k → (∃ e ∈ oC.after, e.on = j ∧ Region.binds .any e = true) → j < n → j ≠ iC → V j (a.eval (.tmp k)) W) →
      ∃ f args, (execOp a.eval oC).run P W = .ok (.enter f args) W ∧ Calls P f args W fun e W' => ∃ u, e = .returned u ∧ K1 u W')
    (hfin : ∀ (a : Act) (W : World) (vals : Nat → Value), K1 (vals iC) W → (∀ k, noDst l k = true → a.eval (.tmp k) = a0.eval (.tmp k)) → (∀ j ∈ pure_, Vp j (vals j)) →
      (∀ (j : Nat) (o' : Oper) (k : Nat), l[j]? = some o' → o'.dst = some k → (∃ e ∈ oS.after, e.on = j ∧ Region.binds .any e = true) → j < n → a.eval (.tmp k) = vals j) →
      ∃ W', (execOp a.eval oS).run P W = .ok .skip W' ∧ K2 W')
    (hpn : ∀ j ∈ pure_, j < n)
    (hend : ∀ (vs : Nat → Value) (W : World), K2 W → Q .normal (putAll l a0 vs) W) :
    (Code.region id l.toArray true).wp P Q a0 w := by
  rw [List.all_eq_true] at hD hDC
  refine region_TC (fun _ _ => True) (fun up vals W => (up n = false → up iC = false → Below v.heap.size v W ∧ ∀ j, j < n → j ≠ iC → up j = true → V j (vals j) W) ∧ (up n = false → up iC = true → K1 (vals iC) W ∧ ∀ j ∈ pure_, up j = true → Vp j (vals j)) ∧ (up n = true → K2 W)) hm hasc hap hpl ?_ ?_ ?_
  · intro vals
    exact ⟨fun _ _ => ⟨Below.drew hv, fun j _ _ h => by simp at h⟩, fun _ h => by simp at h, fun h => by simp at h⟩
  · intro up vals i o ho hi hcl a W hk hdp hT
    have hil : i < n + 1 := by rw [← hlen]; exact (List.getElem?_eq_some_iff.1 ho).1
    have hdst : ∀ j o', l[j]? = some o' → j < n → o'.dst.isSome = true := fun j o' hj h => by
      rw [List.all_eq_true] at hds
      exact hds _ (List.mem_of_getElem? (i := j) (by rw [List.getElem?_take_of_lt h]; exact hj))
    have hcl2 : (∀ d ∈ D, up d = true) → ∀ j, j < n → up j = true := fun h j hj => by
      rw [List.all_eq_true] at hclo
      have := hclo j (by simp; omega)
      exact clo_up hcl fuel D h j (by simpa using this)
    have hclC : (∀ d ∈ DC, up d = true) → ∀ j, j < n → j ∉ pure_ → j ≠ iC → up j = true := fun h j hj hp hne => by
      rw [List.all_eq_true] at hcloC
      have := hcloC j (by simp; omega)
      rw [Bool.or_eq_true, Bool.or_eq_true] at this
      rcases this with (q | q) | q
      · exact absurd (by simpa using q) hp
      · exact absurd (by simpa using q) hne
      · exact clo_up hcl fuel DC h j (by simpa using q)
    have upS : up n = true → ∀ j, j < n → up j = true := fun h => hcl2 fun d hd => by
      have h2 := hD d hd
      rw [Bool.and_eq_true, decide_eq_true_eq] at h2
      obtain ⟨e, he, hej, hbd⟩ := waits_spec h2.2 hS
      rw [← hej]; exact hcl n oS e hS he hbd h
    have upC : up iC = true → ∀ j, j < n → j ∉ pure_ → j ≠ iC → up j = true := fun h => hclC fun d hd => by
      have h2 := hDC d hd
      rw [Bool.and_eq_true, decide_eq_true_eq] at h2
      obtain ⟨e, he, hej, hbd⟩ := waits_spec h2.2 hC
      rw [← hej]; exact hcl iC oC e hC he hbd h
    by_cases hS0 : up n = true
    · exfalso
      by_cases e : i = n
      · rw [e, hS0] at hi; cases hi
      · rw [upS hS0 i (by omega)] at hi; cases hi
    have hS0 : up n = false := by simpa using hS0
    by_cases hin : i = n
    · subst hin
      rw [hS] at ho
      injection ho with ho
      subst ho
      have hall : ∀ j, j < i → up j = true := hcl2 fun d hd => by
        have h2 := hD d hd
        rw [Bool.and_eq_true, decide_eq_true_eq] at h2
        obtain ⟨e, he, hej, hbd⟩ := waits_spec h2.2 hS
        have hdl : d < l.length := by rw [hlen]; omega
        obtain ⟨k, hk'⟩ := Option.isSome_iff_exists.1 (hdst d l[d] (by simp) h2.1)
        exact (hdp d l[d] k (by simp) hk' ⟨e, he, hej, hbd⟩).1
      obtain ⟨hK1, hVp'⟩ := hT.2.1 hS0 (hall iC hiC)
      obtain ⟨W', hr, hK⟩ := hfin a W vals hK1 hk (fun j hj => hVp' j hj (hall j (hpn j hj))) (fun j o' k hj hk' hd hjn => (hdp j o' k hj hk' hd).2.1)
      exact Or.inr (Or.inl ⟨W', hr, hSd, fun h => by simp at h, fun h => by simp at h, fun _ => hK⟩)
    have hin' : i < n := by omega
    have hni : ¬ n = i := by omega
    by_cases hic : i = iC
    · subst hic
      rw [hC] at ho
      injection ho with ho
      subst ho
      obtain ⟨hBW, hV⟩ := hT.1 hS0 hi
      obtain ⟨f, args, hr, hc⟩ := hcall a W hBW hk (fun j o' k hj hk' hd hjn hne => by
        obtain ⟨q1, q2, _⟩ := hdp j o' k hj hk' hd
        rw [q2]; exact hV j hjn hne q1)
      refine Or.inr (Or.inr ⟨f, args, hr, hdst i _ hC hin', hc.mono ?_⟩)
      rintro e W' ⟨u, rfl, hK⟩
      refine ⟨u, rfl, trivial, fun _ h => by simp at h, fun _ _ => ⟨by simpa using hK, fun j hj hu => ?_⟩, fun h => ?_⟩
      · have hji : ¬ j = i := fun e => by subst e; rw [List.contains_iff_mem.2 hj] at hpC; cases hpC
        have hu : up j = true := by simpa [hji] using hu
        simp only [hji, if_false]
        exact (hVp j hj _ _).1 (hV j (hpn j hj) hji hu)
      · have : up n = true := by simpa [hni] using h
        rw [hS0] at this; cases this
    have hci : ¬ iC = i := fun e => hic e.symm
    by_cases hCu : up iC = true
    · -- the call has come up: only what hangs on no memory is left
      have hip : i ∈ pure_ := by
        by_cases q : i ∈ pure_
        · exact q
        · rw [upC hCu i hin' q hic] at hi; cases hi
      obtain ⟨hK1, hVp'⟩ := hT.2.1 hS0 hCu
      rcases hop i o ho hin' hic a W (fun h => absurd hip h) hk (fun j o' k hj hk' hd hjn hne hpp => by
          obtain ⟨q1, q2, _⟩ := hdp j o' k hj hk' hd
          rw [q2]
          have hjp := hpp hip
          exact (hVp j hjp _ _).2 (hVp' j hjp q1)) with ⟨u, W', hr, hW, _, hVi⟩ | ⟨h, _⟩
      · have hW' := hW hip
        subst hW'
        refine Or.inl ⟨u, _, hr, hdst i o ho hin', trivial, fun _ h => ?_, fun _ _ => ⟨?_, fun j hj hu => ?_⟩, fun h => ?_⟩
        · have : up iC = false := by simpa [hci] using h
          rw [hCu] at this; cases this
        · simp only [hci, if_false]; exact hK1
        · by_cases e : j = i
          · simp only [e, if_true]; exact (hVp i hip _ _).1 hVi
          · have hu : up j = true := by simpa [e] using hu
            simp only [e, if_false]; exact hVp' j hj hu
        · have : up n = true := by simpa [hni] using h
          rw [hS0] at this; cases this
      · exact absurd hip h
    · have hCu : up iC = false := by simpa using hCu
      obtain ⟨hBW, hV⟩ := hT.1 hS0 hCu
      have key : ∀ u W', Below W.heap.size W W' → V i u W' → (((fun j => (j == i) || up j) n = false → (fun j => (j == i) || up j) iC = false → Below v.heap.size v W' ∧ ∀ j, j < n → j ≠ iC → (fun j => (j == i) || up j) j = true → V j ((fun j => if j = i then u else vals j) j) W') ∧ ((fun j => (j == i) || up j) n = false → (fun j => (j == i) || up j) iC = true → K1 ((fun j => if j = i then u else vals j) iC) W' ∧ ∀ j ∈ pure_, (fun j => (j == i) || up j) j = true → Vp j ((fun j => if j = i then u else vals j) j)) ∧ ((fun j => (j == i) || up j) n = true → K2 W')) := fun u W' hW hVi => by
        refine ⟨fun _ _ => ⟨blw_trans hBW hW, fun j hj hne hu => ?_⟩, fun _ h => ?_, fun h => ?_⟩
        · by_cases e : j = i
          · simp only [e, if_true]; exact hVi
          · have hu : up j = true := by simpa [e] using hu
            simp only [e, if_false]
            exact hVm _ _ _ _ hW (hV j hj hne hu)
        · have : up iC = true := by simpa [hci] using h
          rw [hCu] at this; cases this
        · have : up n = true := by simpa [hni] using h
          rw [hS0] at this; cases this
      rcases hop i o ho hin' hic a W (fun _ => hBW) hk (fun j o' k hj hk' hd hjn hne _ => by
          obtain ⟨q1, q2, _⟩ := hdp j o' k hj hk' hd
          rw [q2]; exact hV j hjn hne q1) with ⟨u, W', hr, _, hW, hVi⟩ | ⟨_, f, args, hr, hc⟩
      · exact Or.inl ⟨u, W', hr, hdst i o ho hin', trivial, key u W' hW hVi⟩
      · refine Or.inr (Or.inr ⟨f, args, hr, hdst i o ho hin', hc.mono ?_⟩)
        rintro e W' ⟨u, rfl, hW, hVi⟩
        exact ⟨u, rfl, trivial, key u W' hW hVi⟩
  · intro up vals vs W hall hv2 hT
    exact hend vs W (hT.2.2 (hall n (by omega)))
end RY

end Go.Proofs.YtdllbcafbfkngaaGreatDoor
