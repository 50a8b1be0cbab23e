/-
  Sheets: how many marks a sheet that was read bears.
-/
import Derived.Test.YtdllbcafbfkngaaGreatDoorEPx
import Derived.Test.YtdllbcafbfkngaaGreatDoorEKk
namespace Go.Proofs.YtdllbcafbfkngaaGreatDoor
open Go.RowKit Go.Deep

theorem Pl.parse_ok : ∀ (ls : List ByteArray) (k : Nat) (st : Pl.PS), Pl.OkP k st → ∀ n, k + ls.length ≤ n → (Pl.parseFrom st ls k).1.length ≤ n ∧ ∀ b ∈ (Pl.parseFrom st ls k).1, b.lines.length ≤ n ∧ ∀ x ∈ b.lines, x.ws.length ≤ 8
  | [], k, st, h, n, hn => by
    simp only [List.length_nil] at hn
    rw [Pl.parseFrom]
    split
    · exact ⟨Nat.zero_le _, fun b hb => by cases hb⟩
    · refine ⟨?_, fun b hb => ⟨?_, (h.aw b hb).2⟩⟩
      · have := h.al; show st.acc.length ≤ n; omega
      · have := (h.aw b hb).1; omega
  | l :: r, k, st, h, n, hn => by
    simp only [List.length_cons] at hn
    rw [Pl.parseFrom]
    split
    · rename_i hc
      cases hcut : Pl.cutL l.data.toList 0 with
      | none =>
        have : Pl.stepC st l = 1 := by unfold Pl.stepC; rw [hcut]
        omega
      | some ws =>
        have e : Pl.stepS st l = Pl.wordsS st ws := by unfold Pl.stepS; rw [hcut]
        have h8 := cutL_len l.data.toList.length l.data.toList 0 (Nat.le_refl _) (by omega) ws hcut
        rw [e]
        exact Pl.parse_ok r (k + 1) _ (h.words ws (by omega)) n (by omega)
    · exact ⟨Nat.zero_le _, fun b hb => by cases hb⟩
theorem Pl.parseOut_ok (t : ByteArray) : (Pl.parseOut t).1.length ≤ 400 ∧ ∀ b ∈ (Pl.parseOut t).1, b.lines.length ≤ 400 ∧ ∀ x ∈ b.lines, x.ws.length ≤ 8 := by
  unfold Pl.parseOut
  split
  · exact ⟨Nat.zero_le _, fun b hb => by cases hb⟩
  · split
    · exact ⟨Nat.zero_le _, fun b hb => by cases hb⟩
    · exact Pl.parse_ok _ 0 _ Pl.okNo 400 (by omega)
theorem cnt_flat {α : Type} (f : α → List Dt) (m : Nat) : ∀ l : List α, (∀ x ∈ l, cntL (f x) ≤ m) → cntL (l.flatMap f) ≤ l.length * m
  | [], _ => by simp [cntL]
  | x :: l, h => by
    rw [List.flatMap_cons, cntL_app, List.length_cons, Nat.succ_mul]
    have h1 := h x (by simp)
    have h2 := cnt_flat f m l fun y hy => h y (by simp [hy])
    omega
theorem parse_cnt (t : ByteArray) : cntT [blsD (Pl.parseOut t).1] ≤ 1000000000 := by
  obtain ⟨hl, hb⟩ := Pl.parseOut_ok t
  have h1 : cntL ((Pl.parseOut t).1.flatMap blD) ≤ (Pl.parseOut t).1.length * 3602 := by
    refine cnt_flat blD 3602 _ fun b hm => ?_
    have h2 : cntL (b.lines.flatMap lnD) ≤ b.lines.length * 9 := cnt_flat lnD 9 _ fun x hx => by
      have := (hb b hm).2 x hx
      simp only [lnD, cntL, cntL_tx]; omega
    have := (hb b hm).1
    simp only [blD, lnsD, cntL]; omega
  simp only [blsD, cntT]; omega

end Go.Proofs.YtdllbcafbfkngaaGreatDoor
