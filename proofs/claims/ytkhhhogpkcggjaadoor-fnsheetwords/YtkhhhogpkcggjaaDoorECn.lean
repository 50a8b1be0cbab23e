/-
  Sheets: how many marks the answers bear.
-/
import Derived.Test.YtkhhhogpkcggjaaDoorEWe
namespace Go.Proofs.YtkhhhogpkcggjaaDoor
open Go.RowKit Go.Deep

theorem cutL_len : ∀ (n : Nat) (l : List UInt8) (m : Nat), l.length ≤ n → m ≤ 8 → ∀ ws, Pl.cutL l m = some ws → m + ws.length ≤ 8
  | 0, [], m, _, hm, ws, h => by rw [Pl.cutL] at h; injection h with h; subst h; simpa using hm
  | n + 1, [], m, _, hm, ws, h => by rw [Pl.cutL] at h; injection h with h; subst h; simpa using hm
  | n + 1, c :: r, m, hl, hm, ws, h => by
    rw [List.length_cons] at hl
    rw [Pl.cutL] at h
    split at h
    · exact cutL_len n r m (by omega) hm ws h
    · split at h
      · injection h with h; subst h; simpa using hm
      · split at h
        · cases h
        · rename_i x k _
          split at h
          · rename_i hc
            simp only [Bool.and_eq_true, decide_eq_true_eq] at hc
            obtain ⟨y, h1, h2⟩ := Option.map_eq_some_iff.1 h
            subst h2
            have := cutL_len n (r.drop k) (m + 1) (by rw [List.length_drop]; omega) (by omega) y h1
            simp only [List.length_cons]; omega
          · cases h
theorem cntL_tx : ∀ l : List ByteArray, cntL (txD l) = l.length
  | [] => by simp [txD, cntL]
  | x :: l => by show cntL (.s x :: txD l) = _; rw [cntL, cntL_tx l, List.length_cons]; omega
theorem cut_cnt (l : List UInt8) : cntT (cutD l) ≤ 1000000000 := by
  refine Nat.le_trans (cntT_le _) ?_
  unfold cutD
  split
  · rename_i ws h
    have := cutL_len l.length l 0 (Nat.le_refl _) (by omega) ws h
    simp only [cntL, cntL_tx]; omega
  · simp only [cntL]; omega

end Go.Proofs.YtkhhhogpkcggjaaDoor
