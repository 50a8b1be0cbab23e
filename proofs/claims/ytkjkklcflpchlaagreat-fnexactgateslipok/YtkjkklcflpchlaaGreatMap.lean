/-
  A map of functions by number: what a store and a look-up do.
-/
import Derived.Test.YtkjkklcflpchlaaGreatProg
import Derived.RowKit
import Derived.WalkKit
import Derived.Maps.Keyed
namespace Go.Proofs.YtkjkklcflpchlaaGreat
open Go.RowKit

theorem blw_alloc {a w : World} (h : Below a.heap.size a w) (o : Obj) : Below a.heap.size a (w.alloc o) := h.alloc h.size o
theorem blw_trans {a w w' : World} (h : Below a.heap.size a w) (k : Below w.heap.size w w') : Below a.heap.size a w' := h.trans (k.mono h.size)

theorem Tryz.underlying201' : Tryz.prog.underlying 201 = some (.map 3 197) := by kernel_rfl
theorem Tryz.underlying3' : Tryz.prog.underlying 3 = some (.int .i64) := by kernel_rfl

theorem check_int (W : World) (em : Bool) (n : Int) : (Instr.checkKey em 10000 3 (.int .i64 n)).run Tryz.prog W = .ok () W := by
  show (Instr.checkKey em (9999 + 1) 3 (.int .i64 n)).run Tryz.prog W = .ok () W
  rw [Instr.checkKey]
  simp [Sem.run_bind, run_underlying Tryz.underlying3', Result.andThen]

theorem find_int (W : World) (n : Int) (es : List MapEntry) (r : Option (Nat × Value)) (h : Instr.findNow (.int .i64) (.int .i64 n) es 0 = some r) :
    (Instr.findKey 3 (.int .i64 n) es).run Tryz.prog W = .ok r W := by
  simp [Instr.findKey, run_underlying Tryz.underlying3', h, Result.andThen]

theorem set_last (W : World) (o o' : Obj) : ({ (W.alloc o) with heap := (W.alloc o).heap.setIfInBounds W.heap.size o' } : World) = W.alloc o' := by
  have : (W.heap.push o).setIfInBounds W.heap.size o' = W.heap.push o' := by
    apply Array.ext_getElem?
    intro i
    rw [Array.getElem?_setIfInBounds, Array.getElem?_push, Array.getElem?_push, Array.size_push]
    by_cases h : W.heap.size = i
    · subst h; simp
    · rw [if_neg h, if_neg (fun e => h e.symm), if_neg (fun e => h e.symm)]
  show ({ (W.alloc o) with heap := (W.heap.push o).setIfInBounds W.heap.size o' } : World) = W.alloc o'
  rw [this]
  rfl

theorem last_block (W : World) (o : Obj) : (W.alloc o).heap[W.heap.size]? = some o := by
  show (W.heap.push o)[W.heap.size]? = some o
  simp

theorem ins_run (W : World) (b : Nat) (hb : b = W.heap.size) (es : Array MapEntry) (cl : Nat) (n : Int) (v : Value) (hf : Instr.findNow (.int .i64) (.int .i64 n) es.toList 0 = some none) :
    (Instr.mapUpdate 201 (.map (some b)) (.int .i64 n) v).run Tryz.prog (W.alloc (.map es cl)) = .ok () (W.alloc (.map (es.push ⟨.int .i64 n, v, cl⟩) (cl + 1))) := by
  subst hb
  rw [← set_last W (.map es cl) (.map (es.push ⟨.int .i64 n, v, cl⟩) (cl + 1))]
  simp [Instr.mapUpdate, run_underlying Tryz.underlying201', MapKept.run_getObj_map (last_block W (.map es cl)), check_int, find_int _ n es.toList none hf, MapKept.run_setObj_map _ (last_block W (.map es cl)), Result.andThen]

theorem look_run (W : World) (b : Nat) (hb : b = W.heap.size) (es : Array MapEntry) (cl : Nat) (n : Int) (i : Nat) (v : Value) (hf : Instr.findNow (.int .i64) (.int .i64 n) es.toList 0 = some (some (i, v))) :
    (Instr.lookup 201 (.map (some b)) (.int .i64 n) true).run Tryz.prog (W.alloc (.map es cl)) = .ok (.tuple #[v, .bool true]) (W.alloc (.map es cl)) := by
  subst hb
  simp [Instr.lookup, run_underlying Tryz.underlying201', MapKept.run_getObj_map (last_block W (.map es cl)), check_int, find_int _ n es.toList _ hf, Result.andThen]

theorem look_none (W : World) (b : Nat) (hb : b = W.heap.size) (es : Array MapEntry) (cl : Nat) (n : Int) (hf : Instr.findNow (.int .i64) (.int .i64 n) es.toList 0 = some none) :
    (Instr.lookup 201 (.map (some b)) (.int .i64 n) true).run Tryz.prog (W.alloc (.map es cl)) = .ok (.tuple #[.nilFunc, .bool false]) (W.alloc (.map es cl)) := by
  subst hb
  simp [Instr.lookup, run_underlying Tryz.underlying201', MapKept.run_getObj_map (last_block W (.map es cl)), check_int, find_int _ n es.toList _ hf, Result.andThen]

end Go.Proofs.YtkjkklcflpchlaaGreat
