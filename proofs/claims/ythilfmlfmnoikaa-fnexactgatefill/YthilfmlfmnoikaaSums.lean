/-
  Bounds of the marks' numbers.
-/
import Derived.Test.YthilfmlfmnoikaaMarks
namespace Go.Proofs.Ythilfmlfmnoikaa

def fB (k q : Nat) : Nat := k + q * 1048596
def sB (k q : Nat) : Nat := k + q * 1099600000000
def fTop (k : Nat) : Nat := fB k 1048576
def sTop (k : Nat) : Nat := sB k 1048576
theorem fB_zero (k : Nat) : fB k 0 = k := by simp [fB]
theorem sB_zero (k : Nat) : sB k 0 = k := by simp [sB]
theorem fB_step {k q a b : Nat} (h : a ≤ fB k q) (hb : b ≤ a + 1048596) : b ≤ fB k (q + 1) := by unfold fB at h ⊢; omega
theorem fB_small {k q a : Nat} (h : a ≤ fB k q) (hk : k ≤ 2000000000000000000) (hq : q ≤ 1048576) : a ≤ 2100000000000000000 := by unfold fB at h; omega
theorem fB_top {k q a : Nat} (h : a ≤ fB k q) (hq : q ≤ 1048576) : a ≤ fTop k := Nat.le_trans h (Nat.add_le_add_left (Nat.mul_le_mul_right _ hq) k)
theorem fTop_le (k : Nat) : fTop k ≤ k + 1099550000000 := by unfold fTop fB; omega
theorem sB_step {k q a b : Nat} (h : a ≤ sB k q) (hb : b ≤ fTop (a + 1)) : b ≤ sB k (q + 1) := by have := fTop_le (a + 1); unfold sB at h ⊢; omega
theorem sB_small {k q a : Nat} (h : a ≤ sB k q) (hk : k ≤ 1048576) (hq : q ≤ 1048576) : a ≤ 1200000000000000000 := by unfold sB at h; omega
theorem sB_top {k q a : Nat} (h : a ≤ sB k q) (hq : q ≤ 1048576) : a ≤ sTop k := Nat.le_trans h (Nat.add_le_add_left (Nat.mul_le_mul_right _ hq) k)
theorem sTop_le {k : Nat} (hk : k ≤ 1048576) : sTop k ≤ 1200000000000000000 := by unfold sTop sB; omega
end Go.Proofs.Ythilfmlfmnoikaa
