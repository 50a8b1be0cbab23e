/-
  Sheets: each datum of the shape is a sheet; what a machine can bear.
-/
import Derived.Test.YtojcopamegmeeaaESd
import Derived.Test.YtojcopamegmeeaaELc
namespace Go.Proofs.Ytojcopamegmeeaa
open Go.RowKit Go.Deep

theorem dLns : ∀ (n : Nat) (es : List Dt), Typ (reps n shSheetLine) es → ∃ l : List Pl.Ln, es = l.flatMap lnD ∧ l.length = n
  | 0, es, h => by rw [reps_zero] at h; exact ⟨[], h.c_n, rfl⟩
  | n + 1, es, h => by
    rw [reps_succ] at h
    obtain ⟨d1, d2, rfl, h1, h2⟩ := Typ.cut shSheetLine h
    obtain ⟨l, rfl, hl⟩ := dLns n d2 h2
    obtain ⟨k, m, e, rfl, ht⟩ := typSheetLine h1
    obtain ⟨ws, rfl, hw⟩ := typTx m e ht
    subst hw
    exact ⟨⟨k, ws⟩ :: l, rfl, by rw [List.length_cons, hl]⟩
theorem dBls : ∀ (n : Nat) (es : List Dt), Typ (reps n shSheetBlock) es → ∃ l : List Pl.Bl, es = l.flatMap blD ∧ l.length = n
  | 0, es, h => by rw [reps_zero] at h; exact ⟨[], h.c_n, rfl⟩
  | n + 1, es, h => by
    rw [reps_succ] at h
    obtain ⟨d1, d2, rfl, h1, h2⟩ := Typ.cut shSheetBlock h
    obtain ⟨l, rfl, hl⟩ := dBls n d2 h2
    obtain ⟨k, nm, m, e, rfl, ht⟩ := typSheetBlock h1
    obtain ⟨ls, rfl, hw⟩ := dLns m e ht
    subst hw
    exact ⟨⟨k, nm, ls⟩ :: l, rfl, by rw [List.length_cons, hl]⟩
theorem dSheet (ds : List Dt) (h : Typ shSheet ds) : ∃ s : List Pl.Bl, ds = [blsD s] := by
  obtain ⟨n, e, rfl, ht⟩ := typSheet h
  obtain ⟨s, rfl, hs⟩ := dBls n e ht
  subst hs
  exact ⟨s, rfl⟩
theorem szd_lns : ∀ l : List Pl.Ln, szd (l.flatMap lnD) → ∀ x ∈ l, ∀ t ∈ x.ws, t.size ≤ maxLen
  | [], _, x, h => by simp at h
  | y :: l, hz, x, h => by
    rw [List.flatMap_cons, szd_app] at hz
    obtain ⟨h1, h2⟩ := hz
    unfold lnD at h1
    rw [szd, szd] at h1
    rcases List.mem_cons.1 h with rfl | q
    · exact szd_tx _ h1.2.1
    · exact szd_lns l h2 x q
theorem szd_bls : ∀ s : List Pl.Bl, szd (s.flatMap blD) → okTx s
  | [], _ => fun b h => by simp at h
  | y :: l, hz => fun b h => by
    rw [List.flatMap_cons, szd_app] at hz
    obtain ⟨h1, h2⟩ := hz
    unfold blD lnsD at h1
    rw [szd, szd, szd] at h1
    rcases List.mem_cons.1 h with rfl | q
    · exact ⟨h1.2.1, szd_lns _ h1.2.2.1⟩
    · exact szd_bls l h2 b q
theorem szd_sheet (s : List Pl.Bl) (h : szd [blsD s]) : okTx s := by
  unfold blsD at h
  rw [szd] at h
  exact szd_bls s h.1

end Go.Proofs.Ytojcopamegmeeaa
