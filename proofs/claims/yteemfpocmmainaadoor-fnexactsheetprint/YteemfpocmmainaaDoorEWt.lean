/-
  Sheets: what they weigh.
-/
import Derived.Test.YteemfpocmmainaaDoorESd
import Derived.Test.YteemfpocmmainaaDoorEPp
namespace Go.Proofs.YteemfpocmmainaaDoor
open Go.RowKit Go.Deep

theorem wt_tx : ∀ ws : List ByteArray, ws.length + wtL (txD ws) = Pl.wtx ws
  | [] => by simp [txD, wtL, Pl.wtx]
  | x :: ws => by
    have := wt_tx ws
    unfold Pl.wtx txD at this ⊢
    rw [List.map_cons, wtL, List.map_cons, List.sum_cons, List.length_cons]
    omega
theorem wt_ln (x : Pl.Ln) : wtL (lnD x) = Pl.wln x := by
  unfold lnD Pl.wln
  rw [wtL, wtL, wtL]
  have := wt_tx x.ws
  omega
theorem wt_lns : ∀ l : List Pl.Ln, l.length + wtL (l.flatMap lnD) = (l.map fun x => Pl.wln x + 1).sum
  | [] => by simp [wtL]
  | x :: l => by
    have := wt_lns l
    rw [List.flatMap_cons, wtL_app, wt_ln, List.map_cons, List.sum_cons, List.length_cons]
    omega
theorem wt_bl (b : Pl.Bl) : wtL (blD b) = Pl.wbl b := by
  unfold blD lnsD Pl.wbl
  rw [wtL, wtL, wtL, wtL]
  have := wt_lns b.lines
  omega
theorem wt_bls : ∀ s : List Pl.Bl, s.length + wtL (s.flatMap blD) = Pl.wsh s
  | [] => by simp [wtL, Pl.wsh]
  | x :: l => by
    have := wt_bls l
    unfold Pl.wsh at this ⊢
    rw [List.flatMap_cons, wtL_app, wt_bl, List.map_cons, List.sum_cons, List.length_cons]
    omega
theorem wt_sheet (s : List Pl.Bl) : wtL [blsD s] = Pl.wsh s := by
  unfold blsD
  rw [wtL, wtL]
  have := wt_bls s
  omega
theorem cnt_wsh : ∀ s : List Pl.Bl, Pl.lineCnt s ≤ 2 * Pl.wsh s
  | [] => by simp [Pl.lineCnt]
  | b :: s => by
    have ih := cnt_wsh s
    have h1 := wt_lns b.lines
    have hb : Pl.wbl b = b.kind.size + b.name.size + (b.lines.map fun x => Pl.wln x + 1).sum := rfl
    unfold Pl.lineCnt Pl.wsh at ih ⊢
    rw [List.map_cons, List.map_cons, List.sum_cons, List.sum_cons]
    omega

end Go.Proofs.YteemfpocmmainaaDoor
