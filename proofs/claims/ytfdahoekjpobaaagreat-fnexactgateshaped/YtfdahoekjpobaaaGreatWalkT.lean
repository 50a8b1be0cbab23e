/-
  Walks: gateFieldOk.
-/
import Derived.Deep.Light
import Derived.Test.YtfdahoekjpobaaaGreatWalkA
import Derived.Test.YtfdahoekjpobaaaGreatWalkS
import Derived.Test.YtfdahoekjpobaaaGreatWalkI
namespace Go.Proofs.YtfdahoekjpobaaaGreat
open Go.RowKit Go.Deep

theorem emp_len {α : Type} (l : List α) : l.isEmpty = decide (l.length = 0) := by cases l <;> simp

set_option maxHeartbeats 2000000 in
theorem l1Bare_1 (f : Fld) (b : Nat) (w : World) (hs : f.small) (hk : f.kind = 1) :
    Calls Tryz.prog 78 #[.agg #[.string f.nm, .int .i64 1, .int .i64 f.least, .int .i64 f.most, .slice (some ⟨b, 0, none⟩) f.words.length f.words.length, .string f.to, .int .i64 f.role, .bool f.must, .bool f.fixed, .string f.de, .string f.we]] w fun e w' => e = .returned (.bool (bareB f)) ∧ Below w.heap.size w w' := by
  have hs' : f.words.length ≤ 1048576 := hs
  have HB : Hid (bareB f = (decide (f.words.length = 0) && f.to.toList.isEmpty && decide (f.role = 0))) := by show bareB f = _; simp [bareB, hk, emp_len f.words, Pl.isEmp]
  clear hs hk
  cases hd : decide (f.words.length = 0)
  all_goals
    have HD : Hid (decide (f.words.length = 0) = _) := hd
    simp only [decide_eq_false_iff_not, decide_eq_true_eq] at hd
    go_enter Tryz.func78, Tryz.ntmps78
    go_wp2
    all_goals go_ret
    all_goals refine ⟨Pl.ret_bool ?_, blw_alloc (Below.refl _ _) _⟩
    all_goals rw [HB.out, HD.out]
    all_goals clear HB HD
    all_goals go_light
    all_goals first | (simp_all; done) | (simp_all; omega) | (rw [Bool.eq_iff_iff]; simp_all; done) | (rw [Bool.eq_iff_iff]; simp_all; omega)

set_option maxHeartbeats 2000000 in
theorem bare_1 (f : Fld) (b : Nat) (w : World) (hs : f.small) (hk : f.kind = 1) :
    Calls Tryz.prog 114 #[.agg #[.string f.nm, .int .i64 1, .int .i64 f.least, .int .i64 f.most, .slice (some ⟨b, 0, none⟩) f.words.length f.words.length, .string f.to, .int .i64 f.role, .bool f.must, .bool f.fixed, .string f.de, .string f.we]] w fun e w' => e = .returned (.bool (bareB f)) ∧ Below w.heap.size w w' := by
  have hs' : f.words.length ≤ 1048576 := hs
  have HB : Hid (bareB f = (decide (f.words.length = 0) && f.to.toList.isEmpty && decide (f.role = 0))) := by show bareB f = _; simp [bareB, hk, emp_len f.words, Pl.isEmp]
  clear hs hk
  cases hd : decide (f.words.length = 0)
  all_goals
    have HD : Hid (decide (f.words.length = 0) = _) := hd
    simp only [decide_eq_false_iff_not, decide_eq_true_eq] at hd
    go_enter Tryz.func114, Tryz.ntmps114
    go_wp2
    all_goals go_ret
    all_goals refine ⟨Pl.ret_bool ?_, blw_alloc (Below.refl _ _) _⟩
    all_goals rw [HB.out, HD.out]
    all_goals clear HB HD
    all_goals go_light
    all_goals first | (simp_all; done) | (simp_all; omega) | (rw [Bool.eq_iff_iff]; simp_all; done) | (rw [Bool.eq_iff_iff]; simp_all; omega)

set_option maxHeartbeats 2000000 in
theorem l1Bare_2 (f : Fld) (b : Nat) (w : World) (hs : f.small) (hk : f.kind = 2) :
    Calls Tryz.prog 78 #[.agg #[.string f.nm, .int .i64 2, .int .i64 f.least, .int .i64 f.most, .slice (some ⟨b, 0, none⟩) f.words.length f.words.length, .string f.to, .int .i64 f.role, .bool f.must, .bool f.fixed, .string f.de, .string f.we]] w fun e w' => e = .returned (.bool (bareB f)) ∧ Below w.heap.size w w' := by
  have hs' : f.words.length ≤ 1048576 := hs
  have HB : Hid (bareB f = (decide (f.least = 0) && decide (f.most = 0) && f.to.toList.isEmpty && decide (f.role = 0) && f.we.toList.isEmpty)) := by show bareB f = _; simp [bareB, hk, Pl.isEmp]
  clear hs hk
  go_enter Tryz.func78, Tryz.ntmps78
  go_wp2
  all_goals go_ret
  all_goals refine ⟨Pl.ret_bool ?_, blw_alloc (Below.refl _ _) _⟩
  all_goals rw [HB.out]
  all_goals clear HB
  all_goals go_light
  all_goals first | (simp_all; done) | (simp_all; omega) | (rw [Bool.eq_iff_iff]; simp_all; done) | (rw [Bool.eq_iff_iff]; simp_all; omega)

set_option maxHeartbeats 2000000 in
theorem bare_2 (f : Fld) (b : Nat) (w : World) (hs : f.small) (hk : f.kind = 2) :
    Calls Tryz.prog 118 #[.agg #[.string f.nm, .int .i64 2, .int .i64 f.least, .int .i64 f.most, .slice (some ⟨b, 0, none⟩) f.words.length f.words.length, .string f.to, .int .i64 f.role, .bool f.must, .bool f.fixed, .string f.de, .string f.we]] w fun e w' => e = .returned (.bool (bareB f)) ∧ Below w.heap.size w w' := by
  have hs' : f.words.length ≤ 1048576 := hs
  have HB : Hid (bareB f = (decide (f.least = 0) && decide (f.most = 0) && f.to.toList.isEmpty && decide (f.role = 0) && f.we.toList.isEmpty)) := by show bareB f = _; simp [bareB, hk, Pl.isEmp]
  clear hs hk
  go_enter Tryz.func118, Tryz.ntmps118
  go_wp2
  all_goals go_ret
  all_goals refine ⟨Pl.ret_bool ?_, blw_alloc (Below.refl _ _) _⟩
  all_goals rw [HB.out]
  all_goals clear HB
  all_goals go_light
  all_goals first | (simp_all; done) | (simp_all; omega) | (rw [Bool.eq_iff_iff]; simp_all; done) | (rw [Bool.eq_iff_iff]; simp_all; omega)

set_option maxHeartbeats 2000000 in
theorem l1Bare_3 (f : Fld) (b : Nat) (w : World) (hs : f.small) (hk : f.kind = 3) :
    Calls Tryz.prog 78 #[.agg #[.string f.nm, .int .i64 3, .int .i64 f.least, .int .i64 f.most, .slice (some ⟨b, 0, none⟩) f.words.length f.words.length, .string f.to, .int .i64 f.role, .bool f.must, .bool f.fixed, .string f.de, .string f.we]] w fun e w' => e = .returned (.bool (bareB f)) ∧ Below w.heap.size w w' := by
  have hs' : f.words.length ≤ 1048576 := hs
  have HB : Hid (bareB f = (decide (f.words.length = 0) && f.to.toList.isEmpty && decide (f.role = 0) && f.we.toList.isEmpty)) := by show bareB f = _; simp [bareB, hk, emp_len f.words, Pl.isEmp]
  clear hs hk
  cases hd : decide (f.words.length = 0)
  all_goals
    have HD : Hid (decide (f.words.length = 0) = _) := hd
    simp only [decide_eq_false_iff_not, decide_eq_true_eq] at hd
    go_enter Tryz.func78, Tryz.ntmps78
    go_wp2
    all_goals go_ret
    all_goals refine ⟨Pl.ret_bool ?_, blw_alloc (Below.refl _ _) _⟩
    all_goals rw [HB.out, HD.out]
    all_goals clear HB HD
    all_goals go_light
    all_goals first | (simp_all; done) | (simp_all; omega) | (rw [Bool.eq_iff_iff]; simp_all; done) | (rw [Bool.eq_iff_iff]; simp_all; omega)

set_option maxHeartbeats 2000000 in
theorem bare_3 (f : Fld) (b : Nat) (w : World) (hs : f.small) (hk : f.kind = 3) :
    Calls Tryz.prog 124 #[.agg #[.string f.nm, .int .i64 3, .int .i64 f.least, .int .i64 f.most, .slice (some ⟨b, 0, none⟩) f.words.length f.words.length, .string f.to, .int .i64 f.role, .bool f.must, .bool f.fixed, .string f.de, .string f.we]] w fun e w' => e = .returned (.bool (bareB f)) ∧ Below w.heap.size w w' := by
  have hs' : f.words.length ≤ 1048576 := hs
  have HB : Hid (bareB f = (decide (f.words.length = 0) && f.to.toList.isEmpty && decide (f.role = 0) && f.we.toList.isEmpty)) := by show bareB f = _; simp [bareB, hk, emp_len f.words, Pl.isEmp]
  clear hs hk
  cases hd : decide (f.words.length = 0)
  all_goals
    have HD : Hid (decide (f.words.length = 0) = _) := hd
    simp only [decide_eq_false_iff_not, decide_eq_true_eq] at hd
    go_enter Tryz.func124, Tryz.ntmps124
    go_wp2
    all_goals go_ret
    all_goals refine ⟨Pl.ret_bool ?_, blw_alloc (Below.refl _ _) _⟩
    all_goals rw [HB.out, HD.out]
    all_goals clear HB HD
    all_goals go_light
    all_goals first | (simp_all; done) | (simp_all; omega) | (rw [Bool.eq_iff_iff]; simp_all; done) | (rw [Bool.eq_iff_iff]; simp_all; omega)

set_option maxHeartbeats 2000000 in
theorem l1Bare_4 (f : Fld) (b : Nat) (w : World) (hs : f.small) (hk : f.kind = 4) :
    Calls Tryz.prog 78 #[.agg #[.string f.nm, .int .i64 4, .int .i64 f.least, .int .i64 f.most, .slice (some ⟨b, 0, none⟩) f.words.length f.words.length, .string f.to, .int .i64 f.role, .bool f.must, .bool f.fixed, .string f.de, .string f.we]] w fun e w' => e = .returned (.bool (bareB f)) ∧ Below w.heap.size w w' := by
  have hs' : f.words.length ≤ 1048576 := hs
  have HB : Hid (bareB f = (decide (f.least = 0) && decide (f.most = 0) && decide (f.words.length = 0) && f.we.toList.isEmpty)) := by show bareB f = _; simp [bareB, hk, emp_len f.words, Pl.isEmp]
  clear hs hk
  cases hd : decide (f.words.length = 0)
  all_goals
    have HD : Hid (decide (f.words.length = 0) = _) := hd
    simp only [decide_eq_false_iff_not, decide_eq_true_eq] at hd
    go_enter Tryz.func78, Tryz.ntmps78
    go_wp2
    all_goals go_ret
    all_goals refine ⟨Pl.ret_bool ?_, blw_alloc (Below.refl _ _) _⟩
    all_goals rw [HB.out, HD.out]
    all_goals clear HB HD
    all_goals go_light
    all_goals first | (simp_all; done) | (simp_all; omega) | (rw [Bool.eq_iff_iff]; simp_all; done) | (rw [Bool.eq_iff_iff]; simp_all; omega)

set_option maxHeartbeats 2000000 in
theorem bare_4 (f : Fld) (b : Nat) (w : World) (hs : f.small) (hk : f.kind = 4) :
    Calls Tryz.prog 127 #[.agg #[.string f.nm, .int .i64 4, .int .i64 f.least, .int .i64 f.most, .slice (some ⟨b, 0, none⟩) f.words.length f.words.length, .string f.to, .int .i64 f.role, .bool f.must, .bool f.fixed, .string f.de, .string f.we]] w fun e w' => e = .returned (.bool (bareB f)) ∧ Below w.heap.size w w' := by
  have hs' : f.words.length ≤ 1048576 := hs
  have HB : Hid (bareB f = (decide (f.least = 0) && decide (f.most = 0) && decide (f.words.length = 0) && f.we.toList.isEmpty)) := by show bareB f = _; simp [bareB, hk, emp_len f.words, Pl.isEmp]
  clear hs hk
  cases hd : decide (f.words.length = 0)
  all_goals
    have HD : Hid (decide (f.words.length = 0) = _) := hd
    simp only [decide_eq_false_iff_not, decide_eq_true_eq] at hd
    go_enter Tryz.func127, Tryz.ntmps127
    go_wp2
    all_goals go_ret
    all_goals refine ⟨Pl.ret_bool ?_, blw_alloc (Below.refl _ _) _⟩
    all_goals rw [HB.out, HD.out]
    all_goals clear HB HD
    all_goals go_light
    all_goals first | (simp_all; done) | (simp_all; omega) | (rw [Bool.eq_iff_iff]; simp_all; done) | (rw [Bool.eq_iff_iff]; simp_all; omega)

end Go.Proofs.YtfdahoekjpobaaaGreat

namespace Go.Proofs.YtfdahoekjpobaaaGreat
open Go.RowKit Go.Deep

/-- A field as it is handed on: its texts in the block b. -/
structure FldArg (w : World) (b : Nat) (f : Fld) : Prop where
  lt : b < w.heap.size
  small : f.small
  sized : f.sized
  sizes : ∀ i, i < f.words.length → (f.words.getD i ByteArray.empty).size ≤ maxLen
  cells : ∀ i, i < f.words.length → w.cell? ⟨b, 0 + i, none⟩ = some (.string (f.words.getD i ByteArray.empty))

theorem FldArg.later {w w' : World} {b : Nat} {f : Fld} (h : FldArg w b f) (hb : Below w.heap.size w w') : FldArg w' b f :=
  ⟨Nat.lt_of_lt_of_le h.lt hb.size, h.small, h.sized, h.sizes, fun i hi => (hb.cell (p := ⟨b, 0 + i, none⟩) h.lt).trans (h.cells i hi)⟩

theorem methBare77 (nm : ByteArray) (kind least most : Int) (vs : Value) (to : ByteArray) (role : Int) (must fixed : Bool) (de we : ByteArray) (w : World) : (method 256 128 (.agg #[.string nm, .int .i64 kind, .int .i64 least, .int .i64 most, vs, .string to, .int .i64 role, .bool must, .bool fixed, .string de, .string we]) "loop.example/wharfdesk/impl.bare").run Tryz.prog w = .ok (114, .agg #[.string nm, .int .i64 kind, .int .i64 least, .int .i64 most, vs, .string to, .int .i64 role, .bool must, .bool fixed, .string de, .string we]) w := by kernel_rfl
theorem methBound77 (nm : ByteArray) (kind least most : Int) (vs : Value) (to : ByteArray) (role : Int) (must fixed : Bool) (de we : ByteArray) (w : World) : (method 256 128 (.agg #[.string nm, .int .i64 kind, .int .i64 least, .int .i64 most, vs, .string to, .int .i64 role, .bool must, .bool fixed, .string de, .string we]) "loop.example/wharfdesk/impl.bounded").run Tryz.prog w = .ok (115, .agg #[.string nm, .int .i64 kind, .int .i64 least, .int .i64 most, vs, .string to, .int .i64 role, .bool must, .bool fixed, .string de, .string we]) w := by kernel_rfl
theorem methBare79 (nm : ByteArray) (kind least most : Int) (vs : Value) (to : ByteArray) (role : Int) (must fixed : Bool) (de we : ByteArray) (w : World) : (method 256 130 (.agg #[.string nm, .int .i64 kind, .int .i64 least, .int .i64 most, vs, .string to, .int .i64 role, .bool must, .bool fixed, .string de, .string we]) "loop.example/wharfdesk/impl.bare").run Tryz.prog w = .ok (118, .agg #[.string nm, .int .i64 kind, .int .i64 least, .int .i64 most, vs, .string to, .int .i64 role, .bool must, .bool fixed, .string de, .string we]) w := by kernel_rfl
theorem methBound79 (nm : ByteArray) (kind least most : Int) (vs : Value) (to : ByteArray) (role : Int) (must fixed : Bool) (de we : ByteArray) (w : World) : (method 256 130 (.agg #[.string nm, .int .i64 kind, .int .i64 least, .int .i64 most, vs, .string to, .int .i64 role, .bool must, .bool fixed, .string de, .string we]) "loop.example/wharfdesk/impl.bounded").run Tryz.prog w = .ok (119, .agg #[.string nm, .int .i64 kind, .int .i64 least, .int .i64 most, vs, .string to, .int .i64 role, .bool must, .bool fixed, .string de, .string we]) w := by kernel_rfl
theorem methBare80 (nm : ByteArray) (kind least most : Int) (vs : Value) (to : ByteArray) (role : Int) (must fixed : Bool) (de we : ByteArray) (w : World) : (method 256 131 (.agg #[.string nm, .int .i64 kind, .int .i64 least, .int .i64 most, vs, .string to, .int .i64 role, .bool must, .bool fixed, .string de, .string we]) "loop.example/wharfdesk/impl.bare").run Tryz.prog w = .ok (124, .agg #[.string nm, .int .i64 kind, .int .i64 least, .int .i64 most, vs, .string to, .int .i64 role, .bool must, .bool fixed, .string de, .string we]) w := by kernel_rfl
theorem methBound80 (nm : ByteArray) (kind least most : Int) (vs : Value) (to : ByteArray) (role : Int) (must fixed : Bool) (de we : ByteArray) (w : World) : (method 256 131 (.agg #[.string nm, .int .i64 kind, .int .i64 least, .int .i64 most, vs, .string to, .int .i64 role, .bool must, .bool fixed, .string de, .string we]) "loop.example/wharfdesk/impl.bounded").run Tryz.prog w = .ok (125, .agg #[.string nm, .int .i64 kind, .int .i64 least, .int .i64 most, vs, .string to, .int .i64 role, .bool must, .bool fixed, .string de, .string we]) w := by kernel_rfl
theorem methBare81 (nm : ByteArray) (kind least most : Int) (vs : Value) (to : ByteArray) (role : Int) (must fixed : Bool) (de we : ByteArray) (w : World) : (method 256 132 (.agg #[.string nm, .int .i64 kind, .int .i64 least, .int .i64 most, vs, .string to, .int .i64 role, .bool must, .bool fixed, .string de, .string we]) "loop.example/wharfdesk/impl.bare").run Tryz.prog w = .ok (127, .agg #[.string nm, .int .i64 kind, .int .i64 least, .int .i64 most, vs, .string to, .int .i64 role, .bool must, .bool fixed, .string de, .string we]) w := by kernel_rfl
theorem methBound81 (nm : ByteArray) (kind least most : Int) (vs : Value) (to : ByteArray) (role : Int) (must fixed : Bool) (de we : ByteArray) (w : World) : (method 256 132 (.agg #[.string nm, .int .i64 kind, .int .i64 least, .int .i64 most, vs, .string to, .int .i64 role, .bool must, .bool fixed, .string de, .string we]) "loop.example/wharfdesk/impl.bounded").run Tryz.prog w = .ok (128, .agg #[.string nm, .int .i64 kind, .int .i64 least, .int .i64 most, vs, .string to, .int .i64 role, .bool must, .bool fixed, .string de, .string we]) w := by kernel_rfl
set_option maxHeartbeats 2000000 in
theorem fieldOkI_1 (f : Fld) (b B : Nat) (ss : List Shp) (w : World) (hk : f.kind = 1) (h : ShpsIn w B ss) (hp : FldArg w b f) :
    Calls Tryz.prog 83 #[.slice (some ⟨B, 0, none⟩) ss.length ss.length, .agg #[.string f.nm, .int .i64 1, .int .i64 f.least, .int .i64 f.most, .slice (some ⟨b, 0, none⟩) f.words.length f.words.length, .string f.to, .int .i64 f.role, .bool f.must, .bool f.fixed, .string f.de, .string f.we]] w fun e w' => e = .returned (.bool (fieldOk ss f)) ∧ Below w.heap.size w w' := by
  have HP : Hid (FldArg w b f) := hp
  have HL : Hid (ShpsIn w B ss) := h
  have HO : Hid (fieldOk ss f = (bareB f && boundB ss f && defB f)) := by show fieldOk ss f = _; simp [fieldOk, isKind, hk]
  have HBo : Hid (∀ W, Below w.heap.size w W → Calls Tryz.prog 115 #[.agg #[.string f.nm, .int .i64 1, .int .i64 f.least, .int .i64 f.most, .slice (some ⟨b, 0, none⟩) f.words.length f.words.length, .string f.to, .int .i64 f.role, .bool f.must, .bool f.fixed, .string f.de, .string f.we], .slice (some ⟨B, 0, none⟩) ss.length ss.length] W fun e w' => e = .returned (.bool (boundB ss f)) ∧ Below W.heap.size W w') := by
    intro W hW
    have Q := HP.out.later hW
    first | exact bounded_1 f b _ ss _ hk HP.out.sized.2.2.2 | exact absurd Q.lt (by omega)
  have HBa : Hid (∀ W, Calls Tryz.prog 114 #[.agg #[.string f.nm, .int .i64 1, .int .i64 f.least, .int .i64 f.most, .slice (some ⟨b, 0, none⟩) f.words.length f.words.length, .string f.to, .int .i64 f.role, .bool f.must, .bool f.fixed, .string f.de, .string f.we]] W fun e w' => e = .returned (.bool (bareB f)) ∧ Below W.heap.size W w') := fun W => bare_1 f b W HP.out.small hk
  have HFi : Hid (∀ W, Below w.heap.size w W → Calls Tryz.prog 85 #[.iface 128 (.agg #[.string f.nm, .int .i64 1, .int .i64 f.least, .int .i64 f.most, .slice (some ⟨b, 0, none⟩) f.words.length f.words.length, .string f.to, .int .i64 f.role, .bool f.must, .bool f.fixed, .string f.de, .string f.we]), .string f.de] W fun e w' => e = .returned (.bool (fitB f f.de)) ∧ Below W.heap.size W w') := by
    intro W hW
    have Q := HP.out.later hW
    have e : fitB f f.de = Pl.fits 1 f.least f.most f.words f.de := by rw [fitB, hk]
    rw [e, ← fits1 f.least f.most f.words f.de]
    first | exact kindFits77 f.nm 1 f.least f.most _ f.to f.role f.must f.fixed f.de f.we f.de W HP.out.sized.2.2.1 | exact absurd Q.lt (by omega)
  clear hp h hk
  have hm1 := methBare77 f.nm 1 f.least f.most (.slice (some ⟨b, 0, none⟩) f.words.length f.words.length) f.to f.role f.must f.fixed f.de f.we
  have hm2 := methBound77 f.nm 1 f.least f.most (.slice (some ⟨b, 0, none⟩) f.words.length f.words.length) f.to f.role f.must f.fixed f.de f.we
  go_enter Tryz.func83, Tryz.ntmps83
  go_wp2_with fail
  refine (kindOf_1 _ _ _ _ _ _ _ _ _ _ _).mono ?_
  rintro e w1 ⟨rfl, hb1⟩
  have hB1 := blw_trans (blw_alloc (Below.refl w.heap.size w) (.cells #[.string f.nm, .int .i64 1, .int .i64 f.least, .int .i64 f.most, .slice (some ⟨b, 0, none⟩) f.words.length f.words.length, .string f.to, .int .i64 f.role, .bool f.must, .bool f.fixed, .string f.de, .string f.we] 84)) hb1
  have k1 : ∀ o, w1.cell? ⟨w.heap.size, o, none⟩ = (w.alloc (.cells #[.string f.nm, .int .i64 1, .int .i64 f.least, .int .i64 f.most, .slice (some ⟨b, 0, none⟩) f.words.length f.words.length, .string f.to, .int .i64 f.role, .bool f.must, .bool f.fixed, .string f.de, .string f.we] 84)).cell? ⟨w.heap.size, o, none⟩ := fun o => hb1.cell (p := ⟨w.heap.size, o, none⟩) (by simp)
  have z1 : w.heap.size < w1.heap.size := by have := hb1.size; simp at this; omega
  clear hb1
  go_wp2_with fail
  refine (HBa.out _).mono ?_
  rintro e w2 ⟨rfl, hb2⟩
  have hB2 := blw_trans hB1 hb2
  have k2 : ∀ o, w2.cell? ⟨w.heap.size, o, none⟩ = (w.alloc (.cells #[.string f.nm, .int .i64 1, .int .i64 f.least, .int .i64 f.most, .slice (some ⟨b, 0, none⟩) f.words.length f.words.length, .string f.to, .int .i64 f.role, .bool f.must, .bool f.fixed, .string f.de, .string f.we] 84)).cell? ⟨w.heap.size, o, none⟩ := fun o => (hb2.cell (p := ⟨w.heap.size, o, none⟩) z1).trans (k1 o)
  have z2 : w.heap.size < w2.heap.size := Nat.lt_of_lt_of_le z1 hb2.size
  clear hb2 k1 hB1 z1 HBa hm1
  cases hba : bareB f
  · have HF : Hid (fieldOk ss f = false) := by show fieldOk ss f = _; rw [HO.out, hba]; rfl
    go_wp2
    go_ret
    exact ⟨Pl.ret_bool HF.out.symm, hB2⟩
  go_wp2_with fail
  refine (HBo.out _ hB2).mono ?_
  rintro e w3 ⟨rfl, hb3⟩
  have hB3 := blw_trans hB2 hb3
  have k3 : ∀ o, w3.cell? ⟨w.heap.size, o, none⟩ = (w.alloc (.cells #[.string f.nm, .int .i64 1, .int .i64 f.least, .int .i64 f.most, .slice (some ⟨b, 0, none⟩) f.words.length f.words.length, .string f.to, .int .i64 f.role, .bool f.must, .bool f.fixed, .string f.de, .string f.we] 84)).cell? ⟨w.heap.size, o, none⟩ := fun o => (hb3.cell (p := ⟨w.heap.size, o, none⟩) z2).trans (k2 o)
  clear hb3 k2 hB2 z2 HBo hm2
  cases hbo : boundB ss f
  · have HF : Hid (fieldOk ss f = false) := by show fieldOk ss f = _; rw [HO.out, hbo]; simp
    go_wp2
    go_ret
    exact ⟨Pl.ret_bool HF.out.symm, hB3⟩
  cases hem : f.de.toList.isEmpty
  · have HF : Hid (fieldOk ss f = fitB f f.de) := by show fieldOk ss f = _; rw [HO.out, hba, hbo]; simp [defB, Pl.isEmp, hem]
    go_wp2_with fail
    refine (HFi.out _ hB3).mono ?_
    rintro e w4 ⟨rfl, hb4⟩
    have hB4 := blw_trans hB3 hb4
    go_wp2
    go_ret
    exact ⟨Pl.ret_bool HF.out.symm, hB4⟩
  · have HF : Hid (fieldOk ss f = true) := by show fieldOk ss f = _; rw [HO.out, hba, hbo]; simp [defB, Pl.isEmp, hem]
    go_wp2
    go_ret
    exact ⟨Pl.ret_bool HF.out.symm, hB3⟩

set_option maxHeartbeats 2000000 in
theorem fieldOkI_2 (f : Fld) (b B : Nat) (ss : List Shp) (w : World) (hk : f.kind = 2) (h : ShpsIn w B ss) (hp : FldArg w b f) :
    Calls Tryz.prog 83 #[.slice (some ⟨B, 0, none⟩) ss.length ss.length, .agg #[.string f.nm, .int .i64 2, .int .i64 f.least, .int .i64 f.most, .slice (some ⟨b, 0, none⟩) f.words.length f.words.length, .string f.to, .int .i64 f.role, .bool f.must, .bool f.fixed, .string f.de, .string f.we]] w fun e w' => e = .returned (.bool (fieldOk ss f)) ∧ Below w.heap.size w w' := by
  have HP : Hid (FldArg w b f) := hp
  have HL : Hid (ShpsIn w B ss) := h
  have HO : Hid (fieldOk ss f = (bareB f && boundB ss f && defB f)) := by show fieldOk ss f = _; simp [fieldOk, isKind, hk]
  have HBo : Hid (∀ W, Below w.heap.size w W → Calls Tryz.prog 119 #[.agg #[.string f.nm, .int .i64 2, .int .i64 f.least, .int .i64 f.most, .slice (some ⟨b, 0, none⟩) f.words.length f.words.length, .string f.to, .int .i64 f.role, .bool f.must, .bool f.fixed, .string f.de, .string f.we], .slice (some ⟨B, 0, none⟩) ss.length ss.length] W fun e w' => e = .returned (.bool (boundB ss f)) ∧ Below W.heap.size W w') := by
    intro W hW
    have Q := HP.out.later hW
    first | exact bounded_2 f b _ ss _ hk HP.out.small Q.lt Q.sizes Q.cells | exact absurd Q.lt (by omega)
  have HBa : Hid (∀ W, Calls Tryz.prog 118 #[.agg #[.string f.nm, .int .i64 2, .int .i64 f.least, .int .i64 f.most, .slice (some ⟨b, 0, none⟩) f.words.length f.words.length, .string f.to, .int .i64 f.role, .bool f.must, .bool f.fixed, .string f.de, .string f.we]] W fun e w' => e = .returned (.bool (bareB f)) ∧ Below W.heap.size W w') := fun W => bare_2 f b W HP.out.small hk
  have HFi : Hid (∀ W, Below w.heap.size w W → Calls Tryz.prog 85 #[.iface 130 (.agg #[.string f.nm, .int .i64 2, .int .i64 f.least, .int .i64 f.most, .slice (some ⟨b, 0, none⟩) f.words.length f.words.length, .string f.to, .int .i64 f.role, .bool f.must, .bool f.fixed, .string f.de, .string f.we]), .string f.de] W fun e w' => e = .returned (.bool (fitB f f.de)) ∧ Below W.heap.size W w') := by
    intro W hW
    have Q := HP.out.later hW
    have e : fitB f f.de = Pl.fits 2 f.least f.most f.words f.de := by rw [fitB, hk]
    rw [e, ← fits2 f.least f.most f.words f.de]
    first | exact kindFits79 f.nm 2 f.least f.most b 0 f.words.length f.to f.role f.must f.fixed f.de f.we f.de f.words W Q.lt (by have : f.words.length ≤ 1048576 := HP.out.small; unfold maxLen; omega) Q.cells | exact absurd Q.lt (by omega)
  clear hp h hk
  have hm1 := methBare79 f.nm 2 f.least f.most (.slice (some ⟨b, 0, none⟩) f.words.length f.words.length) f.to f.role f.must f.fixed f.de f.we
  have hm2 := methBound79 f.nm 2 f.least f.most (.slice (some ⟨b, 0, none⟩) f.words.length f.words.length) f.to f.role f.must f.fixed f.de f.we
  go_enter Tryz.func83, Tryz.ntmps83
  go_wp2_with fail
  refine (kindOf_2 _ _ _ _ _ _ _ _ _ _ _).mono ?_
  rintro e w1 ⟨rfl, hb1⟩
  have hB1 := blw_trans (blw_alloc (Below.refl w.heap.size w) (.cells #[.string f.nm, .int .i64 2, .int .i64 f.least, .int .i64 f.most, .slice (some ⟨b, 0, none⟩) f.words.length f.words.length, .string f.to, .int .i64 f.role, .bool f.must, .bool f.fixed, .string f.de, .string f.we] 84)) hb1
  have k1 : ∀ o, w1.cell? ⟨w.heap.size, o, none⟩ = (w.alloc (.cells #[.string f.nm, .int .i64 2, .int .i64 f.least, .int .i64 f.most, .slice (some ⟨b, 0, none⟩) f.words.length f.words.length, .string f.to, .int .i64 f.role, .bool f.must, .bool f.fixed, .string f.de, .string f.we] 84)).cell? ⟨w.heap.size, o, none⟩ := fun o => hb1.cell (p := ⟨w.heap.size, o, none⟩) (by simp)
  have z1 : w.heap.size < w1.heap.size := by have := hb1.size; simp at this; omega
  clear hb1
  go_wp2_with fail
  refine (HBa.out _).mono ?_
  rintro e w2 ⟨rfl, hb2⟩
  have hB2 := blw_trans hB1 hb2
  have k2 : ∀ o, w2.cell? ⟨w.heap.size, o, none⟩ = (w.alloc (.cells #[.string f.nm, .int .i64 2, .int .i64 f.least, .int .i64 f.most, .slice (some ⟨b, 0, none⟩) f.words.length f.words.length, .string f.to, .int .i64 f.role, .bool f.must, .bool f.fixed, .string f.de, .string f.we] 84)).cell? ⟨w.heap.size, o, none⟩ := fun o => (hb2.cell (p := ⟨w.heap.size, o, none⟩) z1).trans (k1 o)
  have z2 : w.heap.size < w2.heap.size := Nat.lt_of_lt_of_le z1 hb2.size
  clear hb2 k1 hB1 z1 HBa hm1
  cases hba : bareB f
  · have HF : Hid (fieldOk ss f = false) := by show fieldOk ss f = _; rw [HO.out, hba]; rfl
    go_wp2
    go_ret
    exact ⟨Pl.ret_bool HF.out.symm, hB2⟩
  go_wp2_with fail
  refine (HBo.out _ hB2).mono ?_
  rintro e w3 ⟨rfl, hb3⟩
  have hB3 := blw_trans hB2 hb3
  have k3 : ∀ o, w3.cell? ⟨w.heap.size, o, none⟩ = (w.alloc (.cells #[.string f.nm, .int .i64 2, .int .i64 f.least, .int .i64 f.most, .slice (some ⟨b, 0, none⟩) f.words.length f.words.length, .string f.to, .int .i64 f.role, .bool f.must, .bool f.fixed, .string f.de, .string f.we] 84)).cell? ⟨w.heap.size, o, none⟩ := fun o => (hb3.cell (p := ⟨w.heap.size, o, none⟩) z2).trans (k2 o)
  clear hb3 k2 hB2 z2 HBo hm2
  cases hbo : boundB ss f
  · have HF : Hid (fieldOk ss f = false) := by show fieldOk ss f = _; rw [HO.out, hbo]; simp
    go_wp2
    go_ret
    exact ⟨Pl.ret_bool HF.out.symm, hB3⟩
  cases hem : f.de.toList.isEmpty
  · have HF : Hid (fieldOk ss f = fitB f f.de) := by show fieldOk ss f = _; rw [HO.out, hba, hbo]; simp [defB, Pl.isEmp, hem]
    go_wp2_with fail
    refine (HFi.out _ hB3).mono ?_
    rintro e w4 ⟨rfl, hb4⟩
    have hB4 := blw_trans hB3 hb4
    go_wp2
    go_ret
    exact ⟨Pl.ret_bool HF.out.symm, hB4⟩
  · have HF : Hid (fieldOk ss f = true) := by show fieldOk ss f = _; rw [HO.out, hba, hbo]; simp [defB, Pl.isEmp, hem]
    go_wp2
    go_ret
    exact ⟨Pl.ret_bool HF.out.symm, hB3⟩

set_option maxHeartbeats 2000000 in
theorem fieldOkI_3 (f : Fld) (b B : Nat) (ss : List Shp) (w : World) (hk : f.kind = 3) (h : ShpsIn w B ss) (hp : FldArg w b f) :
    Calls Tryz.prog 83 #[.slice (some ⟨B, 0, none⟩) ss.length ss.length, .agg #[.string f.nm, .int .i64 3, .int .i64 f.least, .int .i64 f.most, .slice (some ⟨b, 0, none⟩) f.words.length f.words.length, .string f.to, .int .i64 f.role, .bool f.must, .bool f.fixed, .string f.de, .string f.we]] w fun e w' => e = .returned (.bool (fieldOk ss f)) ∧ Below w.heap.size w w' := by
  have HP : Hid (FldArg w b f) := hp
  have HL : Hid (ShpsIn w B ss) := h
  have HO : Hid (fieldOk ss f = (bareB f && boundB ss f && defB f)) := by show fieldOk ss f = _; simp [fieldOk, isKind, hk]
  have HBo : Hid (∀ W, Below w.heap.size w W → Calls Tryz.prog 125 #[.agg #[.string f.nm, .int .i64 3, .int .i64 f.least, .int .i64 f.most, .slice (some ⟨b, 0, none⟩) f.words.length f.words.length, .string f.to, .int .i64 f.role, .bool f.must, .bool f.fixed, .string f.de, .string f.we], .slice (some ⟨B, 0, none⟩) ss.length ss.length] W fun e w' => e = .returned (.bool (boundB ss f)) ∧ Below W.heap.size W w') := by
    intro W hW
    have Q := HP.out.later hW
    first | exact bounded_3 f b _ ss _ hk | exact absurd Q.lt (by omega)
  have HBa : Hid (∀ W, Calls Tryz.prog 124 #[.agg #[.string f.nm, .int .i64 3, .int .i64 f.least, .int .i64 f.most, .slice (some ⟨b, 0, none⟩) f.words.length f.words.length, .string f.to, .int .i64 f.role, .bool f.must, .bool f.fixed, .string f.de, .string f.we]] W fun e w' => e = .returned (.bool (bareB f)) ∧ Below W.heap.size W w') := fun W => bare_3 f b W HP.out.small hk
  have HFi : Hid (∀ W, Below w.heap.size w W → Calls Tryz.prog 85 #[.iface 131 (.agg #[.string f.nm, .int .i64 3, .int .i64 f.least, .int .i64 f.most, .slice (some ⟨b, 0, none⟩) f.words.length f.words.length, .string f.to, .int .i64 f.role, .bool f.must, .bool f.fixed, .string f.de, .string f.we]), .string f.de] W fun e w' => e = .returned (.bool (fitB f f.de)) ∧ Below W.heap.size W w') := by
    intro W hW
    have Q := HP.out.later hW
    have e : fitB f f.de = Pl.fits 3 f.least f.most f.words f.de := by rw [fitB, hk]
    rw [e, ← fits3 f.least f.most f.words f.de]
    first | exact kindFits80 f.nm 3 f.least f.most _ f.to f.role f.must f.fixed f.de f.we f.de W HP.out.sized.2.2.1 | exact absurd Q.lt (by omega)
  clear hp h hk
  have hm1 := methBare80 f.nm 3 f.least f.most (.slice (some ⟨b, 0, none⟩) f.words.length f.words.length) f.to f.role f.must f.fixed f.de f.we
  have hm2 := methBound80 f.nm 3 f.least f.most (.slice (some ⟨b, 0, none⟩) f.words.length f.words.length) f.to f.role f.must f.fixed f.de f.we
  go_enter Tryz.func83, Tryz.ntmps83
  go_wp2_with fail
  refine (kindOf_3 _ _ _ _ _ _ _ _ _ _ _).mono ?_
  rintro e w1 ⟨rfl, hb1⟩
  have hB1 := blw_trans (blw_alloc (Below.refl w.heap.size w) (.cells #[.string f.nm, .int .i64 3, .int .i64 f.least, .int .i64 f.most, .slice (some ⟨b, 0, none⟩) f.words.length f.words.length, .string f.to, .int .i64 f.role, .bool f.must, .bool f.fixed, .string f.de, .string f.we] 84)) hb1
  have k1 : ∀ o, w1.cell? ⟨w.heap.size, o, none⟩ = (w.alloc (.cells #[.string f.nm, .int .i64 3, .int .i64 f.least, .int .i64 f.most, .slice (some ⟨b, 0, none⟩) f.words.length f.words.length, .string f.to, .int .i64 f.role, .bool f.must, .bool f.fixed, .string f.de, .string f.we] 84)).cell? ⟨w.heap.size, o, none⟩ := fun o => hb1.cell (p := ⟨w.heap.size, o, none⟩) (by simp)
  have z1 : w.heap.size < w1.heap.size := by have := hb1.size; simp at this; omega
  clear hb1
  go_wp2_with fail
  refine (HBa.out _).mono ?_
  rintro e w2 ⟨rfl, hb2⟩
  have hB2 := blw_trans hB1 hb2
  have k2 : ∀ o, w2.cell? ⟨w.heap.size, o, none⟩ = (w.alloc (.cells #[.string f.nm, .int .i64 3, .int .i64 f.least, .int .i64 f.most, .slice (some ⟨b, 0, none⟩) f.words.length f.words.length, .string f.to, .int .i64 f.role, .bool f.must, .bool f.fixed, .string f.de, .string f.we] 84)).cell? ⟨w.heap.size, o, none⟩ := fun o => (hb2.cell (p := ⟨w.heap.size, o, none⟩) z1).trans (k1 o)
  have z2 : w.heap.size < w2.heap.size := Nat.lt_of_lt_of_le z1 hb2.size
  clear hb2 k1 hB1 z1 HBa hm1
  cases hba : bareB f
  · have HF : Hid (fieldOk ss f = false) := by show fieldOk ss f = _; rw [HO.out, hba]; rfl
    go_wp2
    go_ret
    exact ⟨Pl.ret_bool HF.out.symm, hB2⟩
  go_wp2_with fail
  refine (HBo.out _ hB2).mono ?_
  rintro e w3 ⟨rfl, hb3⟩
  have hB3 := blw_trans hB2 hb3
  have k3 : ∀ o, w3.cell? ⟨w.heap.size, o, none⟩ = (w.alloc (.cells #[.string f.nm, .int .i64 3, .int .i64 f.least, .int .i64 f.most, .slice (some ⟨b, 0, none⟩) f.words.length f.words.length, .string f.to, .int .i64 f.role, .bool f.must, .bool f.fixed, .string f.de, .string f.we] 84)).cell? ⟨w.heap.size, o, none⟩ := fun o => (hb3.cell (p := ⟨w.heap.size, o, none⟩) z2).trans (k2 o)
  clear hb3 k2 hB2 z2 HBo hm2
  cases hbo : boundB ss f
  · have HF : Hid (fieldOk ss f = false) := by show fieldOk ss f = _; rw [HO.out, hbo]; simp
    go_wp2
    go_ret
    exact ⟨Pl.ret_bool HF.out.symm, hB3⟩
  cases hem : f.de.toList.isEmpty
  · have HF : Hid (fieldOk ss f = fitB f f.de) := by show fieldOk ss f = _; rw [HO.out, hba, hbo]; simp [defB, Pl.isEmp, hem]
    go_wp2_with fail
    refine (HFi.out _ hB3).mono ?_
    rintro e w4 ⟨rfl, hb4⟩
    have hB4 := blw_trans hB3 hb4
    go_wp2
    go_ret
    exact ⟨Pl.ret_bool HF.out.symm, hB4⟩
  · have HF : Hid (fieldOk ss f = true) := by show fieldOk ss f = _; rw [HO.out, hba, hbo]; simp [defB, Pl.isEmp, hem]
    go_wp2
    go_ret
    exact ⟨Pl.ret_bool HF.out.symm, hB3⟩

set_option maxHeartbeats 2000000 in
theorem fieldOkI_4 (f : Fld) (b B : Nat) (ss : List Shp) (w : World) (hk : f.kind = 4) (h : ShpsIn w B ss) (hp : FldArg w b f) :
    Calls Tryz.prog 83 #[.slice (some ⟨B, 0, none⟩) ss.length ss.length, .agg #[.string f.nm, .int .i64 4, .int .i64 f.least, .int .i64 f.most, .slice (some ⟨b, 0, none⟩) f.words.length f.words.length, .string f.to, .int .i64 f.role, .bool f.must, .bool f.fixed, .string f.de, .string f.we]] w fun e w' => e = .returned (.bool (fieldOk ss f)) ∧ Below w.heap.size w w' := by
  have HP : Hid (FldArg w b f) := hp
  have HL : Hid (ShpsIn w B ss) := h
  have HO : Hid (fieldOk ss f = (bareB f && boundB ss f && defB f)) := by show fieldOk ss f = _; simp [fieldOk, isKind, hk]
  have HBo : Hid (∀ W, Below w.heap.size w W → Calls Tryz.prog 128 #[.agg #[.string f.nm, .int .i64 4, .int .i64 f.least, .int .i64 f.most, .slice (some ⟨b, 0, none⟩) f.words.length f.words.length, .string f.to, .int .i64 f.role, .bool f.must, .bool f.fixed, .string f.de, .string f.we], .slice (some ⟨B, 0, none⟩) ss.length ss.length] W fun e w' => e = .returned (.bool (boundB ss f)) ∧ Below W.heap.size W w') := by
    intro W hW
    have Q := HP.out.later hW
    first | exact bounded_4 f b B ss W hk (HL.out.later hW) | exact absurd Q.lt (by omega)
  have HBa : Hid (∀ W, Calls Tryz.prog 127 #[.agg #[.string f.nm, .int .i64 4, .int .i64 f.least, .int .i64 f.most, .slice (some ⟨b, 0, none⟩) f.words.length f.words.length, .string f.to, .int .i64 f.role, .bool f.must, .bool f.fixed, .string f.de, .string f.we]] W fun e w' => e = .returned (.bool (bareB f)) ∧ Below W.heap.size W w') := fun W => bare_4 f b W HP.out.small hk
  have HFi : Hid (∀ W, Below w.heap.size w W → Calls Tryz.prog 85 #[.iface 132 (.agg #[.string f.nm, .int .i64 4, .int .i64 f.least, .int .i64 f.most, .slice (some ⟨b, 0, none⟩) f.words.length f.words.length, .string f.to, .int .i64 f.role, .bool f.must, .bool f.fixed, .string f.de, .string f.we]), .string f.de] W fun e w' => e = .returned (.bool (fitB f f.de)) ∧ Below W.heap.size W w') := by
    intro W hW
    have Q := HP.out.later hW
    have e : fitB f f.de = Pl.fits 4 f.least f.most f.words f.de := by rw [fitB, hk]
    rw [e, ← fits4 f.least f.most f.words f.de]
    first | exact kindFits81 f.nm 4 f.least f.most _ f.to f.role f.must f.fixed f.de f.we f.de W HP.out.sized.2.2.1 | exact absurd Q.lt (by omega)
  clear hp h hk
  have hm1 := methBare81 f.nm 4 f.least f.most (.slice (some ⟨b, 0, none⟩) f.words.length f.words.length) f.to f.role f.must f.fixed f.de f.we
  have hm2 := methBound81 f.nm 4 f.least f.most (.slice (some ⟨b, 0, none⟩) f.words.length f.words.length) f.to f.role f.must f.fixed f.de f.we
  go_enter Tryz.func83, Tryz.ntmps83
  go_wp2_with fail
  refine (kindOf_4 _ _ _ _ _ _ _ _ _ _ _).mono ?_
  rintro e w1 ⟨rfl, hb1⟩
  have hB1 := blw_trans (blw_alloc (Below.refl w.heap.size w) (.cells #[.string f.nm, .int .i64 4, .int .i64 f.least, .int .i64 f.most, .slice (some ⟨b, 0, none⟩) f.words.length f.words.length, .string f.to, .int .i64 f.role, .bool f.must, .bool f.fixed, .string f.de, .string f.we] 84)) hb1
  have k1 : ∀ o, w1.cell? ⟨w.heap.size, o, none⟩ = (w.alloc (.cells #[.string f.nm, .int .i64 4, .int .i64 f.least, .int .i64 f.most, .slice (some ⟨b, 0, none⟩) f.words.length f.words.length, .string f.to, .int .i64 f.role, .bool f.must, .bool f.fixed, .string f.de, .string f.we] 84)).cell? ⟨w.heap.size, o, none⟩ := fun o => hb1.cell (p := ⟨w.heap.size, o, none⟩) (by simp)
  have z1 : w.heap.size < w1.heap.size := by have := hb1.size; simp at this; omega
  clear hb1
  go_wp2_with fail
  refine (HBa.out _).mono ?_
  rintro e w2 ⟨rfl, hb2⟩
  have hB2 := blw_trans hB1 hb2
  have k2 : ∀ o, w2.cell? ⟨w.heap.size, o, none⟩ = (w.alloc (.cells #[.string f.nm, .int .i64 4, .int .i64 f.least, .int .i64 f.most, .slice (some ⟨b, 0, none⟩) f.words.length f.words.length, .string f.to, .int .i64 f.role, .bool f.must, .bool f.fixed, .string f.de, .string f.we] 84)).cell? ⟨w.heap.size, o, none⟩ := fun o => (hb2.cell (p := ⟨w.heap.size, o, none⟩) z1).trans (k1 o)
  have z2 : w.heap.size < w2.heap.size := Nat.lt_of_lt_of_le z1 hb2.size
  clear hb2 k1 hB1 z1 HBa hm1
  cases hba : bareB f
  · have HF : Hid (fieldOk ss f = false) := by show fieldOk ss f = _; rw [HO.out, hba]; rfl
    go_wp2
    go_ret
    exact ⟨Pl.ret_bool HF.out.symm, hB2⟩
  go_wp2_with fail
  refine (HBo.out _ hB2).mono ?_
  rintro e w3 ⟨rfl, hb3⟩
  have hB3 := blw_trans hB2 hb3
  have k3 : ∀ o, w3.cell? ⟨w.heap.size, o, none⟩ = (w.alloc (.cells #[.string f.nm, .int .i64 4, .int .i64 f.least, .int .i64 f.most, .slice (some ⟨b, 0, none⟩) f.words.length f.words.length, .string f.to, .int .i64 f.role, .bool f.must, .bool f.fixed, .string f.de, .string f.we] 84)).cell? ⟨w.heap.size, o, none⟩ := fun o => (hb3.cell (p := ⟨w.heap.size, o, none⟩) z2).trans (k2 o)
  clear hb3 k2 hB2 z2 HBo hm2
  cases hbo : boundB ss f
  · have HF : Hid (fieldOk ss f = false) := by show fieldOk ss f = _; rw [HO.out, hbo]; simp
    go_wp2
    go_ret
    exact ⟨Pl.ret_bool HF.out.symm, hB3⟩
  cases hem : f.de.toList.isEmpty
  · have HF : Hid (fieldOk ss f = fitB f f.de) := by show fieldOk ss f = _; rw [HO.out, hba, hbo]; simp [defB, Pl.isEmp, hem]
    go_wp2_with fail
    refine (HFi.out _ hB3).mono ?_
    rintro e w4 ⟨rfl, hb4⟩
    have hB4 := blw_trans hB3 hb4
    go_wp2
    go_ret
    exact ⟨Pl.ret_bool HF.out.symm, hB4⟩
  · have HF : Hid (fieldOk ss f = true) := by show fieldOk ss f = _; rw [HO.out, hba, hbo]; simp [defB, Pl.isEmp, hem]
    go_wp2
    go_ret
    exact ⟨Pl.ret_bool HF.out.symm, hB3⟩

end Go.Proofs.YtfdahoekjpobaaaGreat
