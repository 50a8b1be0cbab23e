/-
  Sheets: what is said, or what is meant: how great.
-/
import Derived.Test.YtojcopamegmeeaaESd
import Derived.Test.YtojcopamegmeeaaEPp
import Derived.Test.YtojcopamegmeeaaEPg
namespace Go.Proofs.Ytojcopamegmeeaa
open Go.RowKit Go.Deep

theorem wt_tx : ∀ ws : List ByteArray, ws.length + wtL (txD ws) = Pl.wtx ws
  | [] => by simp [txD, wtL, Pl.wtx]
  | x :: ws => by
    have := wt_tx ws
    unfold Pl.wtx txD at this ⊢
    rw [List.map_cons, wtL, List.map_cons, List.sum_cons, List.length_cons]
    omega
theorem wt_ln (x : Pl.Ln) : wtL (lnD x) = Pl.wln x := by
  unfold lnD Pl.wln
  rw [wtL, wtL, wtL]
  have := wt_tx x.ws
  omega
theorem wt_lns : ∀ l : List Pl.Ln, l.length + wtL (l.flatMap lnD) = (l.map fun x => Pl.wln x + 1).sum
  | [] => by simp [wtL]
  | x :: l => by
    have := wt_lns l
    rw [List.flatMap_cons, wtL_app, wt_ln, List.map_cons, List.sum_cons, List.length_cons]
    omega
theorem wt_bl (b : Pl.Bl) : wtL (blD b) = Pl.wbl b := by
  unfold blD lnsD Pl.wbl
  rw [wtL, wtL, wtL, wtL]
  have := wt_lns b.lines
  omega
theorem wt_bls : ∀ s : List Pl.Bl, s.length + wtL (s.flatMap blD) = Pl.wsh s
  | [] => by simp [wtL, Pl.wsh]
  | x :: l => by
    have := wt_bls l
    unfold Pl.wsh at this ⊢
    rw [List.flatMap_cons, wtL_app, wt_bl, List.map_cons, List.sum_cons, List.length_cons]
    omega
theorem wt_sheet (s : List Pl.Bl) : wtL [blsD s] = Pl.wsh s := by
  unfold blsD
  rw [wtL, wtL]
  have := wt_bls s
  omega
theorem cnt_wsh : ∀ s : List Pl.Bl, Pl.lineCnt s ≤ 2 * Pl.wsh s
  | [] => by simp [Pl.lineCnt]
  | b :: s => by
    have ih := cnt_wsh s
    have h1 := wt_lns b.lines
    have hb : Pl.wbl b = b.kind.size + b.name.size + (b.lines.map fun x => Pl.wln x + 1).sum := rfl
    unfold Pl.lineCnt Pl.wsh at ih ⊢
    rw [List.map_cons, List.map_cons, List.sum_cons, List.sum_cons]
    omega

end Go.Proofs.Ytojcopamegmeeaa

namespace Go.Proofs.Ytojcopamegmeeaa
open Go.RowKit Go.Deep

theorem wtx_len (ws : List ByteArray) : ws.length ≤ Pl.wtx ws := by have := wt_tx ws; omega
theorem sheet_small (s : List Pl.Bl) (h : Pl.wsh s ≤ 1048576) : ∀ b ∈ s, b.lines.length ≤ 4194304 ∧ ∀ x ∈ b.lines, x.ws.length ≤ 4194304 := fun b hb => by
  have h1 := Pl.sum_mem_le (fun b => Pl.wbl b + 1) s b hb
  have h2 : Pl.wbl b = b.kind.size + b.name.size + (b.lines.map fun x => Pl.wln x + 1).sum := rfl
  have h3 := wt_lns b.lines
  have h4 : Pl.wsh s = (s.map fun b => Pl.wbl b + 1).sum := rfl
  refine ⟨by omega, fun x hx => ?_⟩
  have h5 := Pl.sum_mem_le (fun x => Pl.wln x + 1) b.lines x hx
  have h6 : Pl.wln x = x.key.size + Pl.wtx x.ws := rfl
  have h7 := wtx_len x.ws
  omega
theorem cntL_txs : ∀ l : List ByteArray, cntL (txD l) = l.length
  | [] => by simp [txD, cntL]
  | x :: l => by show cntL (.s x :: txD l) = _; rw [cntL, cntL_txs l, List.length_cons]; omega
theorem cnt_ln (x : Pl.Ln) : cntL (lnD x) = 1 + x.ws.length := by
  unfold lnD
  rw [cntL, cntL, cntL, cntL_txs]; omega
theorem cnt_lns : ∀ l : List Pl.Ln, cntL (l.flatMap lnD) ≤ (l.map fun x => Pl.wln x + 1).sum
  | [] => by simp [cntL]
  | x :: l => by
    have := cnt_lns l
    have h6 : Pl.wln x = x.key.size + Pl.wtx x.ws := rfl
    have h7 := wtx_len x.ws
    rw [List.flatMap_cons, cntL_app, cnt_ln, List.map_cons, List.sum_cons]
    omega
theorem cnt_filter (p : Pl.Ln → Bool) : ∀ l : List Pl.Ln, cntL ((l.filter p).flatMap lnD) ≤ cntL (l.flatMap lnD)
  | [] => by simp
  | x :: l => by
    have := cnt_filter p l
    rw [List.filter_cons]
    split
    · rw [List.flatMap_cons, List.flatMap_cons, cntL_app, cntL_app]; omega
    · rw [List.flatMap_cons, cntL_app]; omega
theorem dflt_small (kind : ByteArray) : ∀ x ∈ Pl.rulesOf kind, x.dflt.length ≤ 4194304 := by
  unfold Pl.rulesOf
  split
  · decide
  · split
    · decide
    · split <;> decide
theorem get_cnt (s : List Pl.Bl) (kind name key : ByteArray) (h : Pl.wsh s ≤ 1048576) : cntL ((Pl.getOut s kind name key).1.flatMap lnD) ≤ 1000000000 := by
  unfold Pl.getOut
  split
  · rename_i k r _ hk hr
    have hkL := Pl.findB_lt hk
    have hrL := Pl.ruIx_lt hr
    simp only []
    split
    · have e : (Pl.rulesOf kind).getD r Pl.ruNo = (Pl.rulesOf kind)[r] := by simp [hrL]
      have := dflt_small kind _ (List.getElem_mem hrL)
      rw [List.flatMap_singleton, cnt_ln, e]
      show 1 + (Pl.rulesOf kind)[r].dflt.length ≤ _
      omega
    · have e : s.getD k Pl.blNo = s[k] := by simp [hkL]
      have h1 := Pl.sum_mem_le (fun b => Pl.wbl b + 1) s s[k] (List.getElem_mem hkL)
      have h2 : Pl.wbl s[k] = s[k].kind.size + s[k].name.size + (s[k].lines.map fun x => Pl.wln x + 1).sum := rfl
      have h3 : Pl.wsh s = (s.map fun b => Pl.wbl b + 1).sum := rfl
      have h4 := cnt_lns s[k].lines
      have h5 := cnt_filter (fun x => x.key.toList == key.toList) s[k].lines
      rw [e]
      show cntL ((s[k].lines.filter fun x => x.key.toList == key.toList).flatMap lnD) ≤ _
      omega
  · simp [cntL]
theorem sheet_cnt {s : List Pl.Bl} (t : Typ shSheet [blsD s]) (h : wtL [blsD s] ≤ 1048576) : cntT [blsD s] ≤ 1000000000 := by
  have h1 := cntT_le [blsD s]
  have h2 := cnt_wt t (by simp [shSheet, shSheetBlock, shSheetLine, shB])
  have h3 : shSheet.length = 1 := rfl
  omega

end Go.Proofs.Ytojcopamegmeeaa
