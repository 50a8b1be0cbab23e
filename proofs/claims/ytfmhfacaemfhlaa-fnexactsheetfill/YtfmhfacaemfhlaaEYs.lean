/-
  Sheets filled and trimmed: how great.
-/
import Derived.Test.YtfmhfacaemfhlaaEGn
import Derived.Test.YtfmhfacaemfhlaaETp
import Derived.Test.YtfmhfacaemfhlaaEYc
namespace Go.Proofs.Ytfmhfacaemfhlaa
open Go.RowKit Go.Deep

theorem sm_of {s : List Pl.Bl} (hz : okTx s) (hw : Pl.wsh s ≤ 1048576) : ∀ b ∈ s, Sm 1048576 b := fun b hb =>
  ⟨(hz b hb).1, (sheet_small2 s hw b hb).1, fun x hx => ⟨(sheet_small2 s hw b hb).2 x hx, (hz b hb).2 x hx⟩⟩
theorem dflt3 (kind : ByteArray) : ∀ x ∈ Pl.rulesOf kind, x.dflt.length ≤ 3 := by
  unfold Pl.rulesOf
  split
  · decide
  · split
    · decide
    · split <;> decide
theorem cnt_put (k : ByteArray) (l : List Pl.Ln) (x : Pl.Ln) : cntL ((Pl.putLn k l x).flatMap lnD) = cntL (l.flatMap lnD) + cntL (lnD x) := by
  have e := List.takeWhile_append_dropWhile (p := fun y => Pl.lineLess k y x) (l := l)
  have h : cntL (l.flatMap lnD) = cntL ((l.takeWhile (fun y => Pl.lineLess k y x)).flatMap lnD) + cntL ((l.dropWhile (fun y => Pl.lineLess k y x)).flatMap lnD) := by
    rw [← cntL_app, ← List.flatMap_append, e]
  rw [Pl.putLn, Pl.putAt, List.flatMap_append, List.flatMap_cons, cntL_app, cntL_app, h]
  omega
theorem cnt_fill (k : ByteArray) : ∀ (rs : List Pl.Ru) (l : List Pl.Ln), (∀ r ∈ rs, r.dflt.length ≤ 3) → cntL ((Pl.fillLs k l rs).flatMap lnD) ≤ cntL (l.flatMap lnD) + rs.length * 4
  | [], l, _ => by show cntL (l.flatMap lnD) ≤ _; omega
  | r :: rs, l, h => by
    have h1 := cnt_fill k rs (Pl.fillStep k l r) (fun q hq => h q (by simp [hq]))
    have h2 : cntL ((Pl.fillStep k l r).flatMap lnD) ≤ cntL (l.flatMap lnD) + 4 := by
      unfold Pl.fillStep
      split
      · rw [cnt_put, cnt_ln]
        have := h r (by simp)
        show _ + (1 + r.dflt.length) ≤ _
        omega
      · omega
    have e : Pl.fillLs k l (r :: rs) = Pl.fillLs k (Pl.fillStep k l r) rs := rfl
    rw [e, List.length_cons]; omega
theorem cnt_bl (b : Pl.Bl) : cntL (blD b) = 2 + cntL (b.lines.flatMap lnD) := by
  unfold blD lnsD
  rw [cntL, cntL, cntL, cntL]; omega
theorem cnt_map (g : Pl.Bl → Pl.Bl) (m : Nat) (h : ∀ b, cntL (blD (g b)) ≤ cntL (blD b) + m) : ∀ s : List Pl.Bl, cntL ((s.map g).flatMap blD) ≤ cntL (s.flatMap blD) + s.length * m
  | [] => by simp [cntL]
  | b :: s => by
    have h1 := cnt_map g m h s
    have h2 := h b
    rw [List.map_cons, List.flatMap_cons, List.flatMap_cons, cntL_app, cntL_app, List.length_cons, Nat.succ_mul]; omega
theorem cnt_sheet {s : List Pl.Bl} (t : Typ shSheet [blsD s]) (h : wtL [blsD s] ≤ 1048576) : cntL (s.flatMap blD) ≤ 33554433 := by
  have h2 := cnt_wt t (by simp [shSheet, shSheetBlock, shSheetLine, shB])
  have h3 : shSheet.length = 1 := rfl
  have h4 : cntL [blsD s] = cntL (s.flatMap blD) := by unfold blsD; rw [cntL, cntL]; rfl
  omega
theorem cnt_out (g : Pl.Bl → Pl.Bl) (h : ∀ b, cntL (blD (g b)) ≤ cntL (blD b) + 48) {s : List Pl.Bl} (t : Typ shSheet [blsD s]) (hw : wtL [blsD s] ≤ 1048576) : cntT [blsD (if Pl.validS s then s.map g else [])] ≤ 1000000000 := by
  have e : ∀ l : List Pl.Bl, cntT [blsD l] = cntL (l.flatMap blD) := fun l => by unfold blsD; rw [cntT, cntT]; rfl
  rw [e]
  cases hv : Pl.validS s
  · simp [cntL]
  · have h1 := cnt_map g 48 h s
    have h2 := cnt_sheet t hw
    have h3 := valid_le hv
    simp only [if_true]
    omega
theorem fill_cnt {s : List Pl.Bl} (t : Typ shSheet [blsD s]) (hw : wtL [blsD s] ≤ 1048576) : cntT [blsD (Pl.fillOut s)] ≤ 1000000000 :=
  cnt_out Pl.fillBl (fun b => by
    have h1 := cnt_fill b.kind (Pl.rulesOf b.kind) b.lines (dflt3 b.kind)
    have h2 := rules_len b.kind
    rw [cnt_bl, cnt_bl]
    show 2 + cntL ((Pl.fillLs b.kind b.lines (Pl.rulesOf b.kind)).flatMap lnD) ≤ _
    omega) t hw
theorem trim_cnt {s : List Pl.Bl} (t : Typ shSheet [blsD s]) (hw : wtL [blsD s] ≤ 1048576) : cntT [blsD (Pl.trimOut s)] ≤ 1000000000 :=
  cnt_out Pl.trimBl (fun b => by
    have h1 := cnt_filter (Pl.keepLn b.kind) b.lines
    rw [cnt_bl, cnt_bl]
    show 2 + cntL ((b.lines.filter (Pl.keepLn b.kind)).flatMap lnD) ≤ _
    omega) t hw

end Go.Proofs.Ytfmhfacaemfhlaa
