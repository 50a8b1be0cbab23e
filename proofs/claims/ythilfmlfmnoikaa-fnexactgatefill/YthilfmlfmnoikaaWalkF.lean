/-
  The walk over gateKindOf.
-/
import Derived.Test.YthilfmlfmnoikaaWalkC
import Derived.Test.YthilfmlfmnoikaaWalkD
import Derived.Test.YthilfmlfmnoikaaMap
namespace Go.Proofs.Ythilfmlfmnoikaa
open Go.RowKit

theorem mk_run (W : World) (o : Obj) : (Instr.makeMap 93 none).run Try.prog (W.alloc o) = .ok (.map (some (W.heap.size + 1))) ((W.alloc o).alloc (.map #[] 0)) := by
  rw [run_makeMap]; simp [World.size_alloc]

theorem ins1 (w : World) (o : Obj) (f : Value) : (Instr.mapUpdate 93 (.map (some (w.heap.size + 1))) (.int .i64 1) f).run Try.prog ((w.alloc o).alloc (.map #[] 0)) = .ok () ((w.alloc o).alloc (.map #[⟨.int .i64 1, f, 0⟩] 1)) :=
  ins_run (w.alloc o) _ (by simp) #[] 0 1 f rfl

theorem ins2 (w : World) (o : Obj) (f1 f : Value) : (Instr.mapUpdate 93 (.map (some (w.heap.size + 1))) (.int .i64 2) f).run Try.prog ((w.alloc o).alloc (.map #[⟨.int .i64 1, f1, 0⟩] 1)) = .ok () ((w.alloc o).alloc (.map #[⟨.int .i64 1, f1, 0⟩, ⟨.int .i64 2, f, 1⟩] 2)) :=
  ins_run (w.alloc o) _ (by simp) #[⟨.int .i64 1, f1, 0⟩] 1 2 f rfl

theorem ins3 (w : World) (o : Obj) (f1 f2 f : Value) : (Instr.mapUpdate 93 (.map (some (w.heap.size + 1))) (.int .i64 3) f).run Try.prog ((w.alloc o).alloc (.map #[⟨.int .i64 1, f1, 0⟩, ⟨.int .i64 2, f2, 1⟩] 2)) = .ok () ((w.alloc o).alloc (.map #[⟨.int .i64 1, f1, 0⟩, ⟨.int .i64 2, f2, 1⟩, ⟨.int .i64 3, f, 2⟩] 3)) :=
  ins_run (w.alloc o) _ (by simp) #[⟨.int .i64 1, f1, 0⟩, ⟨.int .i64 2, f2, 1⟩] 2 3 f rfl

theorem ins4 (w : World) (o : Obj) (f1 f2 f3 f : Value) : (Instr.mapUpdate 93 (.map (some (w.heap.size + 1))) (.int .i64 4) f).run Try.prog ((w.alloc o).alloc (.map #[⟨.int .i64 1, f1, 0⟩, ⟨.int .i64 2, f2, 1⟩, ⟨.int .i64 3, f3, 2⟩] 3)) = .ok () ((w.alloc o).alloc (.map #[⟨.int .i64 1, f1, 0⟩, ⟨.int .i64 2, f2, 1⟩, ⟨.int .i64 3, f3, 2⟩, ⟨.int .i64 4, f, 3⟩] 4)) :=
  ins_run (w.alloc o) _ (by simp) #[⟨.int .i64 1, f1, 0⟩, ⟨.int .i64 2, f2, 1⟩, ⟨.int .i64 3, f3, 2⟩] 3 4 f rfl

theorem look1 (w : World) (o : Obj) (f1 f2 f3 f4 : Value) : (Instr.lookup 93 (.map (some (w.heap.size + 1))) (.int .i64 1) true).run Try.prog ((w.alloc o).alloc (.map #[⟨.int .i64 1, f1, 0⟩, ⟨.int .i64 2, f2, 1⟩, ⟨.int .i64 3, f3, 2⟩, ⟨.int .i64 4, f4, 3⟩] 4)) = .ok (.tuple #[f1, .bool true]) ((w.alloc o).alloc (.map #[⟨.int .i64 1, f1, 0⟩, ⟨.int .i64 2, f2, 1⟩, ⟨.int .i64 3, f3, 2⟩, ⟨.int .i64 4, f4, 3⟩] 4)) :=
  look_run (w.alloc o) _ (by simp) _ 4 1 0 f1 rfl

theorem look2 (w : World) (o : Obj) (f1 f2 f3 f4 : Value) : (Instr.lookup 93 (.map (some (w.heap.size + 1))) (.int .i64 2) true).run Try.prog ((w.alloc o).alloc (.map #[⟨.int .i64 1, f1, 0⟩, ⟨.int .i64 2, f2, 1⟩, ⟨.int .i64 3, f3, 2⟩, ⟨.int .i64 4, f4, 3⟩] 4)) = .ok (.tuple #[f2, .bool true]) ((w.alloc o).alloc (.map #[⟨.int .i64 1, f1, 0⟩, ⟨.int .i64 2, f2, 1⟩, ⟨.int .i64 3, f3, 2⟩, ⟨.int .i64 4, f4, 3⟩] 4)) :=
  look_run (w.alloc o) _ (by simp) _ 4 2 1 f2 rfl

theorem look3 (w : World) (o : Obj) (f1 f2 f3 f4 : Value) : (Instr.lookup 93 (.map (some (w.heap.size + 1))) (.int .i64 3) true).run Try.prog ((w.alloc o).alloc (.map #[⟨.int .i64 1, f1, 0⟩, ⟨.int .i64 2, f2, 1⟩, ⟨.int .i64 3, f3, 2⟩, ⟨.int .i64 4, f4, 3⟩] 4)) = .ok (.tuple #[f3, .bool true]) ((w.alloc o).alloc (.map #[⟨.int .i64 1, f1, 0⟩, ⟨.int .i64 2, f2, 1⟩, ⟨.int .i64 3, f3, 2⟩, ⟨.int .i64 4, f4, 3⟩] 4)) :=
  look_run (w.alloc o) _ (by simp) _ 4 3 2 f3 rfl

theorem look4 (w : World) (o : Obj) (f1 f2 f3 f4 : Value) : (Instr.lookup 93 (.map (some (w.heap.size + 1))) (.int .i64 4) true).run Try.prog ((w.alloc o).alloc (.map #[⟨.int .i64 1, f1, 0⟩, ⟨.int .i64 2, f2, 1⟩, ⟨.int .i64 3, f3, 2⟩, ⟨.int .i64 4, f4, 3⟩] 4)) = .ok (.tuple #[f4, .bool true]) ((w.alloc o).alloc (.map #[⟨.int .i64 1, f1, 0⟩, ⟨.int .i64 2, f2, 1⟩, ⟨.int .i64 3, f3, 2⟩, ⟨.int .i64 4, f4, 3⟩] 4)) :=
  look_run (w.alloc o) _ (by simp) _ 4 4 3 f4 rfl

theorem look0 (w : World) (o : Obj) (f1 f2 f3 f4 : Value) (n : Int) (h1 : (n == 1) = false) (h2 : (n == 2) = false) (h3 : (n == 3) = false) (h4 : (n == 4) = false) :
    (Instr.lookup 93 (.map (some (w.heap.size + 1))) (.int .i64 n) true).run Try.prog ((w.alloc o).alloc (.map #[⟨.int .i64 1, f1, 0⟩, ⟨.int .i64 2, f2, 1⟩, ⟨.int .i64 3, f3, 2⟩, ⟨.int .i64 4, f4, 3⟩] 4)) = .ok (.tuple #[.nilFunc, .bool false]) ((w.alloc o).alloc (.map #[⟨.int .i64 1, f1, 0⟩, ⟨.int .i64 2, f2, 1⟩, ⟨.int .i64 3, f3, 2⟩, ⟨.int .i64 4, f4, 3⟩] 4)) :=
  look_none (w.alloc o) _ (by simp) _ 4 n (by simp [Instr.findNow, Instr.sameNow, h1, h2, h3, h4])

set_option maxHeartbeats 1000000 in
theorem kindOf_1 (nm : ByteArray) (least most : Int) (vs : Value) (to : ByteArray) (role : Int) (must fixed : Bool) (de we : ByteArray) (w : World) :
    Calls Try.prog 58 #[.agg #[.string nm, .int .i64 1, .int .i64 least, .int .i64 most, vs, .string to, .int .i64 role, .bool must, .bool fixed, .string de, .string we]] w
      fun e w' => e = .returned (.tuple #[.iface 88 (.agg #[.string nm, .int .i64 1, .int .i64 least, .int .i64 most, vs, .string to, .int .i64 role, .bool must, .bool fixed, .string de, .string we]), .bool true]) ∧ Below w.heap.size w w' := by
  have hmm := mk_run w
  have hi1 := ins1 w
  have hi2 := ins2 w
  have hi3 := ins3 w
  have hi4 := ins4 w
  have hl := look1 w
  go_enter Try.func58, Try.ntmps58
  go_wp2
  go_ret2
  refine ⟨rfl, ?_⟩
  repeat (first | exact Below.refl _ _ | refine blw_alloc ?_ _ | refine Below.drew ?_)

set_option maxHeartbeats 1000000 in
theorem kindOf_2 (nm : ByteArray) (least most : Int) (vs : Value) (to : ByteArray) (role : Int) (must fixed : Bool) (de we : ByteArray) (w : World) :
    Calls Try.prog 58 #[.agg #[.string nm, .int .i64 2, .int .i64 least, .int .i64 most, vs, .string to, .int .i64 role, .bool must, .bool fixed, .string de, .string we]] w
      fun e w' => e = .returned (.tuple #[.iface 90 (.agg #[.string nm, .int .i64 2, .int .i64 least, .int .i64 most, vs, .string to, .int .i64 role, .bool must, .bool fixed, .string de, .string we]), .bool true]) ∧ Below w.heap.size w w' := by
  have hmm := mk_run w
  have hi1 := ins1 w
  have hi2 := ins2 w
  have hi3 := ins3 w
  have hi4 := ins4 w
  have hl := look2 w
  go_enter Try.func58, Try.ntmps58
  go_wp2
  go_ret2
  refine ⟨rfl, ?_⟩
  repeat (first | exact Below.refl _ _ | refine blw_alloc ?_ _ | refine Below.drew ?_)

set_option maxHeartbeats 1000000 in
theorem kindOf_3 (nm : ByteArray) (least most : Int) (vs : Value) (to : ByteArray) (role : Int) (must fixed : Bool) (de we : ByteArray) (w : World) :
    Calls Try.prog 58 #[.agg #[.string nm, .int .i64 3, .int .i64 least, .int .i64 most, vs, .string to, .int .i64 role, .bool must, .bool fixed, .string de, .string we]] w
      fun e w' => e = .returned (.tuple #[.iface 91 (.agg #[.string nm, .int .i64 3, .int .i64 least, .int .i64 most, vs, .string to, .int .i64 role, .bool must, .bool fixed, .string de, .string we]), .bool true]) ∧ Below w.heap.size w w' := by
  have hmm := mk_run w
  have hi1 := ins1 w
  have hi2 := ins2 w
  have hi3 := ins3 w
  have hi4 := ins4 w
  have hl := look3 w
  go_enter Try.func58, Try.ntmps58
  go_wp2
  go_ret2
  refine ⟨rfl, ?_⟩
  repeat (first | exact Below.refl _ _ | refine blw_alloc ?_ _ | refine Below.drew ?_)

set_option maxHeartbeats 1000000 in
theorem kindOf_4 (nm : ByteArray) (least most : Int) (vs : Value) (to : ByteArray) (role : Int) (must fixed : Bool) (de we : ByteArray) (w : World) :
    Calls Try.prog 58 #[.agg #[.string nm, .int .i64 4, .int .i64 least, .int .i64 most, vs, .string to, .int .i64 role, .bool must, .bool fixed, .string de, .string we]] w
      fun e w' => e = .returned (.tuple #[.iface 92 (.agg #[.string nm, .int .i64 4, .int .i64 least, .int .i64 most, vs, .string to, .int .i64 role, .bool must, .bool fixed, .string de, .string we]), .bool true]) ∧ Below w.heap.size w w' := by
  have hmm := mk_run w
  have hi1 := ins1 w
  have hi2 := ins2 w
  have hi3 := ins3 w
  have hi4 := ins4 w
  have hl := look4 w
  go_enter Try.func58, Try.ntmps58
  go_wp2
  go_ret2
  refine ⟨rfl, ?_⟩
  repeat (first | exact Below.refl _ _ | refine blw_alloc ?_ _ | refine Below.drew ?_)

set_option maxHeartbeats 1000000 in
theorem kindOf_0 (nm : ByteArray) (kind least most : Int) (vs : Value) (to : ByteArray) (role : Int) (must fixed : Bool) (de we : ByteArray) (w : World)
    (h1 : (kind == 1) = false) (h2 : (kind == 2) = false) (h3 : (kind == 3) = false) (h4 : (kind == 4) = false) :
    Calls Try.prog 58 #[.agg #[.string nm, .int .i64 kind, .int .i64 least, .int .i64 most, vs, .string to, .int .i64 role, .bool must, .bool fixed, .string de, .string we]] w
      fun e w' => e = .returned (.tuple #[.nilIface, .bool false]) ∧ Below w.heap.size w w' := by
  have hmm := mk_run w
  have hi1 := ins1 w
  have hi2 := ins2 w
  have hi3 := ins3 w
  have hi4 := ins4 w
  have hl := fun o f1 f2 f3 f4 => look0 w o f1 f2 f3 f4 kind h1 h2 h3 h4
  go_enter Try.func58, Try.ntmps58
  go_wp2
  go_ret2
  refine ⟨rfl, ?_⟩
  repeat (first | exact Below.refl _ _ | refine blw_alloc ?_ _ | refine Below.drew ?_)

end Go.Proofs.Ythilfmlfmnoikaa
