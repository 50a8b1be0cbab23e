/-
  A frame with the slots of one region open.
-/
import Derived.Test.YtfmidkdpclfffaaDoorInv
namespace Go.Proofs.YtfmidkdpclfffaaDoor
open Go.RowKit Go.Deep

/-- A frame whose slots of one region are what is named. -/
def ch (a0 : Act) (s10 s25 s26 s27 s28 s29 s30 s31 s32 s33 : Value) : Act := ((((((((((a0.put (some 10) s10).put (some 25) s25).put (some 26) s26).put (some 27) s27).put (some 28) s28).put (some 29) s29).put (some 30) s30).put (some 31) s31).put (some 32) s32).put (some 33) s33)

theorem put_put (a : Act) (k : Nat) (u v : Value) : (a.put (some k) u).put (some k) v = a.put (some k) v := by
  simp [Act.put]
theorem put_swap (a : Act) (j k : Nat) (u v : Value) (h : j ≠ k) : (a.put (some j) u).put (some k) v = (a.put (some k) v).put (some j) u := by
  simp [Act.put, Array.setIfInBounds_comm _ _ h]
theorem put_same (a : Act) (k : Nat) (u : Value) (h : k < a.tmps.size) : (a.put (some k) u).eval (.tmp k) = u := by
  simp [Act.put, Act.eval, h]
theorem put_else (a : Act) (j k : Nat) (u : Value) (h : j ≠ k) : (a.put (some j) u).eval (.tmp k) = a.eval (.tmp k) := by
  simp [Act.put, Act.eval, Array.getElem?_setIfInBounds_ne h]
theorem put_size (a : Act) (k : Nat) (u : Value) : (a.put (some k) u).tmps.size = a.tmps.size := by simp [Act.put]

section
variable (a0 : Act) (s10 s25 s26 s27 s28 s29 s30 s31 s32 s33 v : Value)
theorem ch_put10 : (ch a0 s10 s25 s26 s27 s28 s29 s30 s31 s32 s33).put (some 10) v = ch a0 v s25 s26 s27 s28 s29 s30 s31 s32 s33 := by unfold ch; rw [put_swap _ 33 10 _ _ (by decide), put_swap _ 32 10 _ _ (by decide), put_swap _ 31 10 _ _ (by decide), put_swap _ 30 10 _ _ (by decide), put_swap _ 29 10 _ _ (by decide), put_swap _ 28 10 _ _ (by decide), put_swap _ 27 10 _ _ (by decide), put_swap _ 26 10 _ _ (by decide), put_swap _ 25 10 _ _ (by decide), put_put _ 10]
theorem ch_at10 (h : 33 < a0.tmps.size) : (ch a0 s10 s25 s26 s27 s28 s29 s30 s31 s32 s33).eval (.tmp 10) = s10 := by unfold ch; rw [put_else _ 33 10 _ (by decide), put_else _ 32 10 _ (by decide), put_else _ 31 10 _ (by decide), put_else _ 30 10 _ (by decide), put_else _ 29 10 _ (by decide), put_else _ 28 10 _ (by decide), put_else _ 27 10 _ (by decide), put_else _ 26 10 _ (by decide), put_else _ 25 10 _ (by decide), put_same _ 10 _ (by first | omega | (simp only [put_size]; omega))]
theorem ch_put25 : (ch a0 s10 s25 s26 s27 s28 s29 s30 s31 s32 s33).put (some 25) v = ch a0 s10 v s26 s27 s28 s29 s30 s31 s32 s33 := by unfold ch; rw [put_swap _ 33 25 _ _ (by decide), put_swap _ 32 25 _ _ (by decide), put_swap _ 31 25 _ _ (by decide), put_swap _ 30 25 _ _ (by decide), put_swap _ 29 25 _ _ (by decide), put_swap _ 28 25 _ _ (by decide), put_swap _ 27 25 _ _ (by decide), put_swap _ 26 25 _ _ (by decide), put_put _ 25]
theorem ch_at25 (h : 33 < a0.tmps.size) : (ch a0 s10 s25 s26 s27 s28 s29 s30 s31 s32 s33).eval (.tmp 25) = s25 := by unfold ch; rw [put_else _ 33 25 _ (by decide), put_else _ 32 25 _ (by decide), put_else _ 31 25 _ (by decide), put_else _ 30 25 _ (by decide), put_else _ 29 25 _ (by decide), put_else _ 28 25 _ (by decide), put_else _ 27 25 _ (by decide), put_else _ 26 25 _ (by decide), put_same _ 25 _ (by first | omega | (simp only [put_size]; omega))]
theorem ch_put26 : (ch a0 s10 s25 s26 s27 s28 s29 s30 s31 s32 s33).put (some 26) v = ch a0 s10 s25 v s27 s28 s29 s30 s31 s32 s33 := by unfold ch; rw [put_swap _ 33 26 _ _ (by decide), put_swap _ 32 26 _ _ (by decide), put_swap _ 31 26 _ _ (by decide), put_swap _ 30 26 _ _ (by decide), put_swap _ 29 26 _ _ (by decide), put_swap _ 28 26 _ _ (by decide), put_swap _ 27 26 _ _ (by decide), put_put _ 26]
theorem ch_at26 (h : 33 < a0.tmps.size) : (ch a0 s10 s25 s26 s27 s28 s29 s30 s31 s32 s33).eval (.tmp 26) = s26 := by unfold ch; rw [put_else _ 33 26 _ (by decide), put_else _ 32 26 _ (by decide), put_else _ 31 26 _ (by decide), put_else _ 30 26 _ (by decide), put_else _ 29 26 _ (by decide), put_else _ 28 26 _ (by decide), put_else _ 27 26 _ (by decide), put_same _ 26 _ (by first | omega | (simp only [put_size]; omega))]
theorem ch_put27 : (ch a0 s10 s25 s26 s27 s28 s29 s30 s31 s32 s33).put (some 27) v = ch a0 s10 s25 s26 v s28 s29 s30 s31 s32 s33 := by unfold ch; rw [put_swap _ 33 27 _ _ (by decide), put_swap _ 32 27 _ _ (by decide), put_swap _ 31 27 _ _ (by decide), put_swap _ 30 27 _ _ (by decide), put_swap _ 29 27 _ _ (by decide), put_swap _ 28 27 _ _ (by decide), put_put _ 27]
theorem ch_at27 (h : 33 < a0.tmps.size) : (ch a0 s10 s25 s26 s27 s28 s29 s30 s31 s32 s33).eval (.tmp 27) = s27 := by unfold ch; rw [put_else _ 33 27 _ (by decide), put_else _ 32 27 _ (by decide), put_else _ 31 27 _ (by decide), put_else _ 30 27 _ (by decide), put_else _ 29 27 _ (by decide), put_else _ 28 27 _ (by decide), put_same _ 27 _ (by first | omega | (simp only [put_size]; omega))]
theorem ch_put28 : (ch a0 s10 s25 s26 s27 s28 s29 s30 s31 s32 s33).put (some 28) v = ch a0 s10 s25 s26 s27 v s29 s30 s31 s32 s33 := by unfold ch; rw [put_swap _ 33 28 _ _ (by decide), put_swap _ 32 28 _ _ (by decide), put_swap _ 31 28 _ _ (by decide), put_swap _ 30 28 _ _ (by decide), put_swap _ 29 28 _ _ (by decide), put_put _ 28]
theorem ch_at28 (h : 33 < a0.tmps.size) : (ch a0 s10 s25 s26 s27 s28 s29 s30 s31 s32 s33).eval (.tmp 28) = s28 := by unfold ch; rw [put_else _ 33 28 _ (by decide), put_else _ 32 28 _ (by decide), put_else _ 31 28 _ (by decide), put_else _ 30 28 _ (by decide), put_else _ 29 28 _ (by decide), put_same _ 28 _ (by first | omega | (simp only [put_size]; omega))]
theorem ch_put29 : (ch a0 s10 s25 s26 s27 s28 s29 s30 s31 s32 s33).put (some 29) v = ch a0 s10 s25 s26 s27 s28 v s30 s31 s32 s33 := by unfold ch; rw [put_swap _ 33 29 _ _ (by decide), put_swap _ 32 29 _ _ (by decide), put_swap _ 31 29 _ _ (by decide), put_swap _ 30 29 _ _ (by decide), put_put _ 29]
theorem ch_at29 (h : 33 < a0.tmps.size) : (ch a0 s10 s25 s26 s27 s28 s29 s30 s31 s32 s33).eval (.tmp 29) = s29 := by unfold ch; rw [put_else _ 33 29 _ (by decide), put_else _ 32 29 _ (by decide), put_else _ 31 29 _ (by decide), put_else _ 30 29 _ (by decide), put_same _ 29 _ (by first | omega | (simp only [put_size]; omega))]
theorem ch_put30 : (ch a0 s10 s25 s26 s27 s28 s29 s30 s31 s32 s33).put (some 30) v = ch a0 s10 s25 s26 s27 s28 s29 v s31 s32 s33 := by unfold ch; rw [put_swap _ 33 30 _ _ (by decide), put_swap _ 32 30 _ _ (by decide), put_swap _ 31 30 _ _ (by decide), put_put _ 30]
theorem ch_at30 (h : 33 < a0.tmps.size) : (ch a0 s10 s25 s26 s27 s28 s29 s30 s31 s32 s33).eval (.tmp 30) = s30 := by unfold ch; rw [put_else _ 33 30 _ (by decide), put_else _ 32 30 _ (by decide), put_else _ 31 30 _ (by decide), put_same _ 30 _ (by first | omega | (simp only [put_size]; omega))]
theorem ch_put31 : (ch a0 s10 s25 s26 s27 s28 s29 s30 s31 s32 s33).put (some 31) v = ch a0 s10 s25 s26 s27 s28 s29 s30 v s32 s33 := by unfold ch; rw [put_swap _ 33 31 _ _ (by decide), put_swap _ 32 31 _ _ (by decide), put_put _ 31]
theorem ch_at31 (h : 33 < a0.tmps.size) : (ch a0 s10 s25 s26 s27 s28 s29 s30 s31 s32 s33).eval (.tmp 31) = s31 := by unfold ch; rw [put_else _ 33 31 _ (by decide), put_else _ 32 31 _ (by decide), put_same _ 31 _ (by first | omega | (simp only [put_size]; omega))]
theorem ch_put32 : (ch a0 s10 s25 s26 s27 s28 s29 s30 s31 s32 s33).put (some 32) v = ch a0 s10 s25 s26 s27 s28 s29 s30 s31 v s33 := by unfold ch; rw [put_swap _ 33 32 _ _ (by decide), put_put _ 32]
theorem ch_at32 (h : 33 < a0.tmps.size) : (ch a0 s10 s25 s26 s27 s28 s29 s30 s31 s32 s33).eval (.tmp 32) = s32 := by unfold ch; rw [put_else _ 33 32 _ (by decide), put_same _ 32 _ (by first | omega | (simp only [put_size]; omega))]
theorem ch_put33 : (ch a0 s10 s25 s26 s27 s28 s29 s30 s31 s32 s33).put (some 33) v = ch a0 s10 s25 s26 s27 s28 s29 s30 s31 s32 v := by unfold ch; rw [put_put _ 33]
theorem ch_at33 (h : 33 < a0.tmps.size) : (ch a0 s10 s25 s26 s27 s28 s29 s30 s31 s32 s33).eval (.tmp 33) = s33 := by unfold ch; rw [put_same _ 33 _ (by first | omega | (simp only [put_size]; omega))]
theorem ch_get10 (h : 33 < a0.tmps.size) : (ch a0 s10 s25 s26 s27 s28 s29 s30 s31 s32 s33).tmps[10]?.getD undef = s10 := by have := ch_at10 a0 s10 s25 s26 s27 s28 s29 s30 s31 s32 s33 h; simpa [Act.eval] using this
theorem ch_get25 (h : 33 < a0.tmps.size) : (ch a0 s10 s25 s26 s27 s28 s29 s30 s31 s32 s33).tmps[25]?.getD undef = s25 := by have := ch_at25 a0 s10 s25 s26 s27 s28 s29 s30 s31 s32 s33 h; simpa [Act.eval] using this
theorem ch_get26 (h : 33 < a0.tmps.size) : (ch a0 s10 s25 s26 s27 s28 s29 s30 s31 s32 s33).tmps[26]?.getD undef = s26 := by have := ch_at26 a0 s10 s25 s26 s27 s28 s29 s30 s31 s32 s33 h; simpa [Act.eval] using this
theorem ch_get27 (h : 33 < a0.tmps.size) : (ch a0 s10 s25 s26 s27 s28 s29 s30 s31 s32 s33).tmps[27]?.getD undef = s27 := by have := ch_at27 a0 s10 s25 s26 s27 s28 s29 s30 s31 s32 s33 h; simpa [Act.eval] using this
theorem ch_get28 (h : 33 < a0.tmps.size) : (ch a0 s10 s25 s26 s27 s28 s29 s30 s31 s32 s33).tmps[28]?.getD undef = s28 := by have := ch_at28 a0 s10 s25 s26 s27 s28 s29 s30 s31 s32 s33 h; simpa [Act.eval] using this
theorem ch_get29 (h : 33 < a0.tmps.size) : (ch a0 s10 s25 s26 s27 s28 s29 s30 s31 s32 s33).tmps[29]?.getD undef = s29 := by have := ch_at29 a0 s10 s25 s26 s27 s28 s29 s30 s31 s32 s33 h; simpa [Act.eval] using this
theorem ch_get30 (h : 33 < a0.tmps.size) : (ch a0 s10 s25 s26 s27 s28 s29 s30 s31 s32 s33).tmps[30]?.getD undef = s30 := by have := ch_at30 a0 s10 s25 s26 s27 s28 s29 s30 s31 s32 s33 h; simpa [Act.eval] using this
theorem ch_get31 (h : 33 < a0.tmps.size) : (ch a0 s10 s25 s26 s27 s28 s29 s30 s31 s32 s33).tmps[31]?.getD undef = s31 := by have := ch_at31 a0 s10 s25 s26 s27 s28 s29 s30 s31 s32 s33 h; simpa [Act.eval] using this
theorem ch_get32 (h : 33 < a0.tmps.size) : (ch a0 s10 s25 s26 s27 s28 s29 s30 s31 s32 s33).tmps[32]?.getD undef = s32 := by have := ch_at32 a0 s10 s25 s26 s27 s28 s29 s30 s31 s32 s33 h; simpa [Act.eval] using this
theorem ch_get33 (h : 33 < a0.tmps.size) : (ch a0 s10 s25 s26 s27 s28 s29 s30 s31 s32 s33).tmps[33]?.getD undef = s33 := by have := ch_at33 a0 s10 s25 s26 s27 s28 s29 s30 s31 s32 s33 h; simpa [Act.eval] using this
theorem ch_at5 : (ch a0 s10 s25 s26 s27 s28 s29 s30 s31 s32 s33).eval (.tmp 5) = a0.eval (.tmp 5) := by unfold ch; rw [put_else _ 33 5 _ (by decide), put_else _ 32 5 _ (by decide), put_else _ 31 5 _ (by decide), put_else _ 30 5 _ (by decide), put_else _ 29 5 _ (by decide), put_else _ 28 5 _ (by decide), put_else _ 27 5 _ (by decide), put_else _ 26 5 _ (by decide), put_else _ 25 5 _ (by decide), put_else _ 10 5 _ (by decide)]
theorem ch_at8 : (ch a0 s10 s25 s26 s27 s28 s29 s30 s31 s32 s33).eval (.tmp 8) = a0.eval (.tmp 8) := by unfold ch; rw [put_else _ 33 8 _ (by decide), put_else _ 32 8 _ (by decide), put_else _ 31 8 _ (by decide), put_else _ 30 8 _ (by decide), put_else _ 29 8 _ (by decide), put_else _ 28 8 _ (by decide), put_else _ 27 8 _ (by decide), put_else _ 26 8 _ (by decide), put_else _ 25 8 _ (by decide), put_else _ 10 8 _ (by decide)]
theorem ch_get5 (u : Value) (h : a0.eval (.tmp 5) = u) : (ch a0 s10 s25 s26 s27 s28 s29 s30 s31 s32 s33).tmps[5]?.getD undef = u := by have := (ch_at5 a0 s10 s25 s26 s27 s28 s29 s30 s31 s32 s33).trans h; simpa [Act.eval] using this
theorem ch_get8 (u : Value) (h : a0.eval (.tmp 8) = u) : (ch a0 s10 s25 s26 s27 s28 s29 s30 s31 s32 s33).tmps[8]?.getD undef = u := by have := (ch_at8 a0 s10 s25 s26 s27 s28 s29 s30 s31 s32 s33).trans h; simpa [Act.eval] using this
end

theorem set_get {l : Array Bool} {i j : Nat} (h : (l.setIfInBounds i true).getD j false = true) : j = i ∨ l.getD j false = true := by
  by_cases e : i = j
  · exact Or.inl e.symm
  · rw [getD_set_ne false e] at h; exact Or.inr h

end Go.Proofs.YtfmidkdpclfffaaDoor
