/-
  Walks: what a row does not name.
-/
import Derived.Test.YthilfmlfmnoikaaPlainC
import Derived.Test.YthilfmlfmnoikaaWalkA
import Derived.Deep.Light
namespace Go.Proofs.Ythilfmlfmnoikaa
open Go.RowKit Go.Deep

theorem emp_len {α : Type} (l : List α) : l.isEmpty = decide (l.length = 0) := by cases l <;> simp

set_option maxHeartbeats 2000000 in
theorem l1Bare_1 (f : Fld) (b : Nat) (w : World) (hs : f.small) (hk : f.kind = 1) :
    Calls Try.prog 43 #[.agg #[.string f.nm, .int .i64 1, .int .i64 f.least, .int .i64 f.most, .slice (some ⟨b, 0, none⟩) f.words.length f.words.length, .string f.to, .int .i64 f.role, .bool f.must, .bool f.fixed, .string f.de, .string f.we]] w fun e w' => e = .returned (.bool (bareB f)) ∧ Below w.heap.size w w' := by
  have hs' : f.words.length ≤ 1048576 := hs
  have HB : Hid (bareB f = (decide (f.words.length = 0) && f.to.toList.isEmpty && decide (f.role = 0))) := by show bareB f = _; simp [bareB, hk, emp_len f.words, Pl.isEmp]
  clear hs hk
  cases hd : decide (f.words.length = 0)
  all_goals
    have HD : Hid (decide (f.words.length = 0) = _) := hd
    simp only [decide_eq_false_iff_not, decide_eq_true_eq] at hd
    go_enter Try.func43, Try.ntmps43
    go_wp2
    all_goals go_ret
    all_goals refine ⟨Pl.ret_bool ?_, blw_alloc (Below.refl _ _) _⟩
    all_goals rw [HB.out, HD.out]
    all_goals clear HB HD
    all_goals go_light
    all_goals first | (simp_all; done) | (simp_all; omega) | (rw [Bool.eq_iff_iff]; simp_all; done) | (rw [Bool.eq_iff_iff]; simp_all; omega)

set_option maxHeartbeats 2000000 in
theorem bare_1 (f : Fld) (b : Nat) (w : World) (hs : f.small) (hk : f.kind = 1) :
    Calls Try.prog 79 #[.agg #[.string f.nm, .int .i64 1, .int .i64 f.least, .int .i64 f.most, .slice (some ⟨b, 0, none⟩) f.words.length f.words.length, .string f.to, .int .i64 f.role, .bool f.must, .bool f.fixed, .string f.de, .string f.we]] w fun e w' => e = .returned (.bool (bareB f)) ∧ Below w.heap.size w w' := by
  have hs' : f.words.length ≤ 1048576 := hs
  have HB : Hid (bareB f = (decide (f.words.length = 0) && f.to.toList.isEmpty && decide (f.role = 0))) := by show bareB f = _; simp [bareB, hk, emp_len f.words, Pl.isEmp]
  clear hs hk
  cases hd : decide (f.words.length = 0)
  all_goals
    have HD : Hid (decide (f.words.length = 0) = _) := hd
    simp only [decide_eq_false_iff_not, decide_eq_true_eq] at hd
    go_enter Try.func79, Try.ntmps79
    go_wp2
    all_goals go_ret
    all_goals refine ⟨Pl.ret_bool ?_, blw_alloc (Below.refl _ _) _⟩
    all_goals rw [HB.out, HD.out]
    all_goals clear HB HD
    all_goals go_light
    all_goals first | (simp_all; done) | (simp_all; omega) | (rw [Bool.eq_iff_iff]; simp_all; done) | (rw [Bool.eq_iff_iff]; simp_all; omega)

set_option maxHeartbeats 2000000 in
theorem l1Bare_2 (f : Fld) (b : Nat) (w : World) (hs : f.small) (hk : f.kind = 2) :
    Calls Try.prog 43 #[.agg #[.string f.nm, .int .i64 2, .int .i64 f.least, .int .i64 f.most, .slice (some ⟨b, 0, none⟩) f.words.length f.words.length, .string f.to, .int .i64 f.role, .bool f.must, .bool f.fixed, .string f.de, .string f.we]] w fun e w' => e = .returned (.bool (bareB f)) ∧ Below w.heap.size w w' := by
  have hs' : f.words.length ≤ 1048576 := hs
  have HB : Hid (bareB f = (decide (f.least = 0) && decide (f.most = 0) && f.to.toList.isEmpty && decide (f.role = 0) && f.we.toList.isEmpty)) := by show bareB f = _; simp [bareB, hk, Pl.isEmp]
  clear hs hk
  go_enter Try.func43, Try.ntmps43
  go_wp2
  all_goals go_ret
  all_goals refine ⟨Pl.ret_bool ?_, blw_alloc (Below.refl _ _) _⟩
  all_goals rw [HB.out]
  all_goals clear HB
  all_goals go_light
  all_goals first | (simp_all; done) | (simp_all; omega) | (rw [Bool.eq_iff_iff]; simp_all; done) | (rw [Bool.eq_iff_iff]; simp_all; omega)

set_option maxHeartbeats 2000000 in
theorem bare_2 (f : Fld) (b : Nat) (w : World) (hs : f.small) (hk : f.kind = 2) :
    Calls Try.prog 83 #[.agg #[.string f.nm, .int .i64 2, .int .i64 f.least, .int .i64 f.most, .slice (some ⟨b, 0, none⟩) f.words.length f.words.length, .string f.to, .int .i64 f.role, .bool f.must, .bool f.fixed, .string f.de, .string f.we]] w fun e w' => e = .returned (.bool (bareB f)) ∧ Below w.heap.size w w' := by
  have hs' : f.words.length ≤ 1048576 := hs
  have HB : Hid (bareB f = (decide (f.least = 0) && decide (f.most = 0) && f.to.toList.isEmpty && decide (f.role = 0) && f.we.toList.isEmpty)) := by show bareB f = _; simp [bareB, hk, Pl.isEmp]
  clear hs hk
  go_enter Try.func83, Try.ntmps83
  go_wp2
  all_goals go_ret
  all_goals refine ⟨Pl.ret_bool ?_, blw_alloc (Below.refl _ _) _⟩
  all_goals rw [HB.out]
  all_goals clear HB
  all_goals go_light
  all_goals first | (simp_all; done) | (simp_all; omega) | (rw [Bool.eq_iff_iff]; simp_all; done) | (rw [Bool.eq_iff_iff]; simp_all; omega)

set_option maxHeartbeats 2000000 in
theorem l1Bare_3 (f : Fld) (b : Nat) (w : World) (hs : f.small) (hk : f.kind = 3) :
    Calls Try.prog 43 #[.agg #[.string f.nm, .int .i64 3, .int .i64 f.least, .int .i64 f.most, .slice (some ⟨b, 0, none⟩) f.words.length f.words.length, .string f.to, .int .i64 f.role, .bool f.must, .bool f.fixed, .string f.de, .string f.we]] w fun e w' => e = .returned (.bool (bareB f)) ∧ Below w.heap.size w w' := by
  have hs' : f.words.length ≤ 1048576 := hs
  have HB : Hid (bareB f = (decide (f.words.length = 0) && f.to.toList.isEmpty && decide (f.role = 0) && f.we.toList.isEmpty)) := by show bareB f = _; simp [bareB, hk, emp_len f.words, Pl.isEmp]
  clear hs hk
  cases hd : decide (f.words.length = 0)
  all_goals
    have HD : Hid (decide (f.words.length = 0) = _) := hd
    simp only [decide_eq_false_iff_not, decide_eq_true_eq] at hd
    go_enter Try.func43, Try.ntmps43
    go_wp2
    all_goals go_ret
    all_goals refine ⟨Pl.ret_bool ?_, blw_alloc (Below.refl _ _) _⟩
    all_goals rw [HB.out, HD.out]
    all_goals clear HB HD
    all_goals go_light
    all_goals first | (simp_all; done) | (simp_all; omega) | (rw [Bool.eq_iff_iff]; simp_all; done) | (rw [Bool.eq_iff_iff]; simp_all; omega)

set_option maxHeartbeats 2000000 in
theorem bare_3 (f : Fld) (b : Nat) (w : World) (hs : f.small) (hk : f.kind = 3) :
    Calls Try.prog 89 #[.agg #[.string f.nm, .int .i64 3, .int .i64 f.least, .int .i64 f.most, .slice (some ⟨b, 0, none⟩) f.words.length f.words.length, .string f.to, .int .i64 f.role, .bool f.must, .bool f.fixed, .string f.de, .string f.we]] w fun e w' => e = .returned (.bool (bareB f)) ∧ Below w.heap.size w w' := by
  have hs' : f.words.length ≤ 1048576 := hs
  have HB : Hid (bareB f = (decide (f.words.length = 0) && f.to.toList.isEmpty && decide (f.role = 0) && f.we.toList.isEmpty)) := by show bareB f = _; simp [bareB, hk, emp_len f.words, Pl.isEmp]
  clear hs hk
  cases hd : decide (f.words.length = 0)
  all_goals
    have HD : Hid (decide (f.words.length = 0) = _) := hd
    simp only [decide_eq_false_iff_not, decide_eq_true_eq] at hd
    go_enter Try.func89, Try.ntmps89
    go_wp2
    all_goals go_ret
    all_goals refine ⟨Pl.ret_bool ?_, blw_alloc (Below.refl _ _) _⟩
    all_goals rw [HB.out, HD.out]
    all_goals clear HB HD
    all_goals go_light
    all_goals first | (simp_all; done) | (simp_all; omega) | (rw [Bool.eq_iff_iff]; simp_all; done) | (rw [Bool.eq_iff_iff]; simp_all; omega)

set_option maxHeartbeats 2000000 in
theorem l1Bare_4 (f : Fld) (b : Nat) (w : World) (hs : f.small) (hk : f.kind = 4) :
    Calls Try.prog 43 #[.agg #[.string f.nm, .int .i64 4, .int .i64 f.least, .int .i64 f.most, .slice (some ⟨b, 0, none⟩) f.words.length f.words.length, .string f.to, .int .i64 f.role, .bool f.must, .bool f.fixed, .string f.de, .string f.we]] w fun e w' => e = .returned (.bool (bareB f)) ∧ Below w.heap.size w w' := by
  have hs' : f.words.length ≤ 1048576 := hs
  have HB : Hid (bareB f = (decide (f.least = 0) && decide (f.most = 0) && decide (f.words.length = 0) && f.we.toList.isEmpty)) := by show bareB f = _; simp [bareB, hk, emp_len f.words, Pl.isEmp]
  clear hs hk
  cases hd : decide (f.words.length = 0)
  all_goals
    have HD : Hid (decide (f.words.length = 0) = _) := hd
    simp only [decide_eq_false_iff_not, decide_eq_true_eq] at hd
    go_enter Try.func43, Try.ntmps43
    go_wp2
    all_goals go_ret
    all_goals refine ⟨Pl.ret_bool ?_, blw_alloc (Below.refl _ _) _⟩
    all_goals rw [HB.out, HD.out]
    all_goals clear HB HD
    all_goals go_light
    all_goals first | (simp_all; done) | (simp_all; omega) | (rw [Bool.eq_iff_iff]; simp_all; done) | (rw [Bool.eq_iff_iff]; simp_all; omega)

set_option maxHeartbeats 2000000 in
theorem bare_4 (f : Fld) (b : Nat) (w : World) (hs : f.small) (hk : f.kind = 4) :
    Calls Try.prog 92 #[.agg #[.string f.nm, .int .i64 4, .int .i64 f.least, .int .i64 f.most, .slice (some ⟨b, 0, none⟩) f.words.length f.words.length, .string f.to, .int .i64 f.role, .bool f.must, .bool f.fixed, .string f.de, .string f.we]] w fun e w' => e = .returned (.bool (bareB f)) ∧ Below w.heap.size w w' := by
  have hs' : f.words.length ≤ 1048576 := hs
  have HB : Hid (bareB f = (decide (f.least = 0) && decide (f.most = 0) && decide (f.words.length = 0) && f.we.toList.isEmpty)) := by show bareB f = _; simp [bareB, hk, emp_len f.words, Pl.isEmp]
  clear hs hk
  cases hd : decide (f.words.length = 0)
  all_goals
    have HD : Hid (decide (f.words.length = 0) = _) := hd
    simp only [decide_eq_false_iff_not, decide_eq_true_eq] at hd
    go_enter Try.func92, Try.ntmps92
    go_wp2
    all_goals go_ret
    all_goals refine ⟨Pl.ret_bool ?_, blw_alloc (Below.refl _ _) _⟩
    all_goals rw [HB.out, HD.out]
    all_goals clear HB HD
    all_goals go_light
    all_goals first | (simp_all; done) | (simp_all; omega) | (rw [Bool.eq_iff_iff]; simp_all; done) | (rw [Bool.eq_iff_iff]; simp_all; omega)

end Go.Proofs.Ythilfmlfmnoikaa
