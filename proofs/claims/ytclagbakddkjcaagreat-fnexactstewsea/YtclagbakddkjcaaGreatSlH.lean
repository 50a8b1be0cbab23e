/-
  slices.Insert, slices.Delete, by the library's own text.
-/
import Derived.Laws.CopyRow
import Derived.Laws.CopyOwn
import Derived.Laws.Externs
import Derived.Lib.Overlaps
import Derived.Lib.AppendZeros
import Derived.Lib.AppendZerosOnto
import Derived.Shelf.RegionOpenPlain
import Derived.Test.YtclagbakddkjcaaGreatPgA
import Derived.Test.YtclagbakddkjcaaGreatSeI
import Derived.Test.YtclagbakddkjcaaGreatOwS
import Derived.Test.YtclagbakddkjcaaGreatSeD
namespace Go.Proofs.YtclagbakddkjcaaGreat
open Go.RowKit Go.Deep

section
variable {P : Program}

/-- What stands in a row behind cells put into it. -/
def seg (cur : Array Value) (o : Nat) (cs : List Value) : Array Value := (cur.toList.take o ++ cs ++ cur.toList.drop (o + cs.length)).toArray
theorem seg_size {cur : Array Value} {o : Nat} {cs : List Value} (h : o + cs.length ≤ cur.size) : (seg cur o cs).size = cur.size := by
  unfold seg
  simp only [List.size_toArray, List.length_append, List.length_take, List.length_drop, Array.length_toList]
  omega

theorem run_copy_rowK (w : World) (dT sT ty elem : TypeId) (size g o dLen dCap : Nat) (a : Addr) (sLen sCap : Nat) (cur : Array Value) (t : TypeId) (cs : List Value)
    (hu : P.underlying dT = some (.slice elem)) (hs : (P.info? elem).map (·.size) = some size)
    (hg : w.heap[g]? = some (.cells cur t (0, 0))) (hn : cs.length = Nat.min sLen dLen * size)
    (hsrc : ∀ j v, cs[j]? = some v → w.cell? (a.add j) = some v) (hfit : o + cs.length ≤ cur.size) (h1 : ∀ v ∈ cs, v.oneCell' = true) :
    (Builtin.copy_ #[dT, sT] ty #[.slice (some ⟨g, o, none⟩) dLen dCap, .slice (some a) sLen sCap]).run P w =
      .ok (goInt (Nat.min sLen dLen)) (w.setRow g (seg cur o cs)) := by
  have hl := run_loadCells_list (P := P) w a cs hsrc
  have hst := run_storeCells_at (P := P) g o t cs 0 cur w hg (by simpa using hfit) h1
  rw [hn] at hl
  simp only [Nat.add_zero] at hst
  unfold seg
  cases hq : P.info? elem with
  | none => simp [hq] at hs
  | some i =>
    have hi : i.size = size := by simpa [hq] using hs
    simp [Builtin.copy_, run_underlying hu, Builtin.lenOf, Builtin.firstCells, sizeOf, typeInfo, hq, hi, hl, hst]

theorem run_clear_rowK {n : Nat} (w : World) (t e ty : TypeId) (z : Value) (ht : P.underlying t = some (.slice e)) (hv : ∀ w, (zeroValue e).run P w = .ok z w) (h1 : ∀ v ∈ (Builtin.zeroCells z.cells n).toList, v.oneCell' = true) (g o c : Nat) (cur : Array Value) (te : TypeId) (hn : 0 < n)
    (hg : w.heap[g]? = some (.cells cur te (0, 0))) (hfit : o + (Builtin.zeroCells z.cells n).toList.length ≤ cur.size) :
    (Builtin.clear_ #[t] ty #[.slice (some ⟨g, o, none⟩) n c]).run P w = .ok (.tuple #[]) (w.setRow g (seg cur o (Builtin.zeroCells z.cells n).toList)) := by
  have hst := run_storeCells_at (P := P) g o te (Builtin.zeroCells z.cells n).toList 0 cur w hg (by simpa using hfit) h1
  simp only [Nat.add_zero] at hst
  unfold seg
  obtain ⟨m, rfl⟩ : ∃ m, n = m + 1 := ⟨n - 1, by omega⟩
  simp [Builtin.clear_, run_underlying ht, hv, hst]

theorem run_append_rowK (w : World) (t tx ty e : TypeId) (i : TypeInfo) (ht : P.underlying t = some (.slice e)) (hi : P.info? e = some i) (g o sLen sCap : Nat) (x : Value) (n : Nat) (news : List Value) (hs : Src P i.size tx x n news w)
    (hroom : sLen + n ≤ sCap) (cur : Array Value) (te : TypeId) (hg : w.heap[g]? = some (.cells cur te (0, 0))) (hfit : o + sLen * i.size + news.length ≤ cur.size) :
    (Builtin.append_ #[t, tx] ty #[.slice (some ⟨g, o, none⟩) sLen sCap, x]).run P w = .ok (.slice (some ⟨g, o, none⟩) (sLen + n) sCap) (w.setRow g (seg cur (o + sLen * i.size) news)) := by
  have hst := run_storeCells_at (P := P) g (o + sLen * i.size) te news 0 cur w hg (by simpa using hfit) hs.one
  simp only [Nat.add_zero] at hst
  unfold seg
  rcases hs.kind with ⟨e', hk⟩ | hk <;> simp [Builtin.append_, run_underlying ht, run_underlying hk, sizeOf, typeInfo, hi, hs.len, hroom, hs.cells, Addr.add_lit, hst]

theorem seg_toList (cur : Array Value) (o : Nat) (cs : List Value) : (seg cur o cs).toList = cur.toList.take o ++ cs ++ cur.toList.drop (o + cs.length) := rfl
/-- In place: what stood from i on is moved up, then the new ones are put. -/
theorem seg_shift {l cs vs : List Value} {i n m : Nat} (hl : l.take n = cs) (hn : cs.length = n) (hm : vs.length = m) (hi : i ≤ n) (hr : n + m ≤ l.length) (cur : Array Value) (hc : cur.toList = l) :
    (seg (seg cur (i + m) (cs.drop i)) i vs).toList.take (n + m) = cs.take i ++ vs ++ cs.drop i := by
  have hd : (cs.drop i).length = n - i := by rw [List.length_drop, hn]
  have e1 : (l.take (i + m)).length = i + m := by rw [List.length_take]; omega
  have e2 : i + m + (cs.drop i).length = n + m := by rw [hd]; omega
  rw [seg_toList, seg_toList, hc, hm, e2]
  have a1 : (l.take (i + m) ++ cs.drop i ++ l.drop (n + m)).take i = cs.take i := by
    rw [List.append_assoc, List.take_append_of_le_length (by omega), List.take_take, ← hl, List.take_take]
    congr 1
    omega
  have a2 : (l.take (i + m) ++ cs.drop i ++ l.drop (n + m)).drop (i + m) = cs.drop i ++ l.drop (n + m) := by
    rw [List.append_assoc, List.drop_append_of_le_length (by omega), List.drop_of_length_le (by omega), List.nil_append]
  rw [a1, a2, ← List.append_assoc, List.take_append_of_le_length (by simp only [List.length_append, List.length_take, hm, hd, hn]; omega), List.take_of_length_le (by simp only [List.length_append, List.length_take, hm, hd, hn]; omega)]
/-- In a new row: the new ones are put, then what stood from i on. -/
theorem seg_grow {cs vs zs : List Value} {i n m : Nat} (hn : cs.length = n) (hm : vs.length = m) (hi : i ≤ n) (cur : Array Value) (hc : cur.toList = cs.take i ++ zs) :
    (seg (seg cur i vs) (i + m) (cs.drop i)).toList.take (n + m) = cs.take i ++ vs ++ cs.drop i := by
  have hd : (cs.drop i).length = n - i := by rw [List.length_drop, hn]
  have e0 : (cs.take i).length = i := by rw [List.length_take]; omega
  rw [seg_toList, seg_toList, hc, hm]
  have a1 : (cs.take i ++ zs).take i = cs.take i := by rw [List.take_append_of_le_length (by omega), List.take_of_length_le (by omega)]
  rw [a1]
  have a2 : (cs.take i ++ vs ++ (cs.take i ++ zs).drop (i + m)).take (i + m) = cs.take i ++ vs := by
    rw [List.take_append_of_le_length (by rw [List.length_append]; omega), List.take_of_length_le (by rw [List.length_append]; omega)]
  rw [a2, List.take_append_of_le_length (by simp only [List.length_append, hm, hd, e0]; omega), List.take_of_length_le (by simp only [List.length_append, hm, hd, e0]; omega)]
/-- What stood behind a place is moved down by one. -/
theorem seg_cut {l cs : List Value} {i d n : Nat} (hl : l.take n = cs) (hn : cs.length = n) (hi : i + d ≤ n) (cur : Array Value) (hc : cur.toList = l) :
    (seg cur i (cs.drop (i + d))).toList.take (n - d) = cs.take i ++ cs.drop (i + d) := by
  have hd : (cs.drop (i + d)).length = n - (i + d) := by rw [List.length_drop, hn]
  rw [seg_toList, hc]
  have a1 : l.take i = cs.take i := by
    rw [← hl, List.take_take]
    congr 1
    omega
  rw [a1, List.take_append_of_le_length (by simp only [List.length_append, List.length_take, hd, hn]; omega), List.take_of_length_le (by simp only [List.length_append, List.length_take, hd, hn]; omega)]
/-- Cells put behind those that are asked for. -/
theorem seg_past {cur : Array Value} {o n : Nat} {cs : List Value} (ho : n ≤ o) (hc : o ≤ cur.size) : (seg cur o cs).toList.take n = cur.toList.take n := by
  rw [seg_toList, List.append_assoc, List.take_append_of_le_length (by rw [List.length_take, Array.length_toList]; omega), List.take_take]
  congr 1
  omega
/-- All but one row as it was. -/
structure BelO (p : Option Addr) (v W : World) : Prop where
  os : W.os = v.os
  tape : W.tape = v.tape
  output : W.output = v.output
  size : v.heap.size ≤ W.heap.size
  block : ∀ b, b < v.heap.size → (∀ g, p = some ⟨g, 0, none⟩ → b ≠ g) → W.heap[b]? = v.heap[b]?

end
end Go.Proofs.YtclagbakddkjcaaGreat

namespace Go.Proofs.YtclagbakddkjcaaGreat
open Go.RowKit Go.Deep

theorem wpList_copy_runJ {P : Program} (w : World) {ops : Array Oper} {rest : List Oper} {o : Oper} {a : Act} {Q : Exit → Act → World → Prop} (hgd : o.guard = none) (d s : Operand) (t t' : TypeId)
    (ho : o.op = .call { callee := .builtin .copy, args := #[d, s], argTypes := #[t, t'] }) (v u : Value) (hd : a.eval d = v) (hs : a.eval s = u) {v' : Value} {w' : World}
    (hr : (Builtin.copy_ #[t, t'] o.type #[v, u]).run P w = .ok v' w') (h : wpList P ops Q rest (a.put o.dst v') w') : wpList P ops Q (o :: rest) a w := by
  refine wpList_plain hgd fun K hK => ?_
  unfold Oper.wp execOp
  simp only [ho, resolve, invoke, builtin, Sem.run_bind, Sem.run_pure, Result.andThen_ok, List.map_toArray, List.map_cons, List.map_nil, hd, hs, hr]
  exact hK _ _ h
theorem step_copy_runJ {P : Program} {ops : Array Oper} {o : Oper} {a : Act} {w : World} {K : Act → World → Prop} {Q : Exit → Act → World → Prop} {E : Prop}
    (hg : o.guard = none) (d x : Operand) (dT sT : TypeId) (hop : o.op = Op.call { callee := Callee.builtin Builtin.copy, args := #[d, x], argTypes := #[dT, sT] })
    (v u : Value) (hd : a.eval d = v) (hx : a.eval x = u) {v' : Value} {w' : World} (hr : (Builtin.copy_ #[dT, sT] o.type #[v, u]).run P w = .ok v' w') (hK : K (a.put o.dst v') w') :
    if Region.wanted o (yielded ops a.tmps) = true then Oper.wp P o a w K Q else E := by
  have hw : Region.wanted o (yielded ops a.tmps) = true := by simp [Region.wanted, hg]
  rw [if_pos hw]
  unfold Oper.wp
  simp [execOp, hop, resolve, invoke, builtin, hd, hx, hr, Result.andThen]
  exact hK

theorem frozen_blk {W : World} {b : Nat} {cs : Array Value} {t : TypeId} (h : W.heap[b]? = some (.cells cs t (0, 0))) (j : Nat) : W.frozen? ⟨b, j, none⟩ = false := by simp [World.frozen?, h]

theorem step_append_runJ {P : Program} {ops : Array Oper} {o : Oper} {a : Act} {w : World} {K : Act → World → Prop} {Q : Exit → Act → World → Prop} {E : Prop}
    (hg : o.guard = none) (d x : Operand) (dT sT : TypeId) (hop : o.op = Op.call { callee := Callee.builtin Builtin.append, args := #[d, x], argTypes := #[dT, sT] })
    (v u : Value) (hd : a.eval d = v) (hx : a.eval x = u) {v' : Value} {w' : World} (hr : (Builtin.append_ #[dT, sT] o.type #[v, u]).run P w = .ok v' w') (hK : K (a.put o.dst v') w') :
    if Region.wanted o (yielded ops a.tmps) = true then Oper.wp P o a w K Q else E := by
  have hw : Region.wanted o (yielded ops a.tmps) = true := by simp [Region.wanted, hg]
  rw [if_pos hw]
  unfold Oper.wp
  simp [execOp, hop, resolve, invoke, builtin, hd, hx, hr, Result.andThen]
  exact hK
theorem wpList_clear_runJ {P : Program} (w : World) {ops : Array Oper} {rest : List Oper} {o : Oper} {a : Act} {Q : Exit → Act → World → Prop} (hgd : o.guard = none) (d : Operand) (t : TypeId)
    (ho : o.op = .call { callee := .builtin .clear, args := #[d], argTypes := #[t] }) (v : Value) (hd : a.eval d = v) {v' : Value} {w' : World}
    (hr : (Builtin.clear_ #[t] o.type #[v]).run P w = .ok v' w') (h : wpList P ops Q rest (a.put o.dst v') w') : wpList P ops Q (o :: rest) a w := by
  refine wpList_plain hgd fun K hK => ?_
  unfold Oper.wp execOp
  simp only [ho, resolve, invoke, builtin, Sem.run_bind, Sem.run_pure, Result.andThen_ok, List.map_toArray, List.map_cons, List.map_nil, hd, hr]
  exact hK _ _ h

theorem zc_len (cs : Array Value) (n : Nat) : (Builtin.zeroCells cs n).toList.length = n * cs.size := by rw [Array.length_toList, size_zeroCells]

end Go.Proofs.YtclagbakddkjcaaGreat
