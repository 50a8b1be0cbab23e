/-
  Boxes that are loaded whole.
-/
import Derived.Deep.MidRow
import Derived.Test.YtkjkklcflpchlaaGreatBoxV
namespace Go.Proofs.YtkjkklcflpchlaaGreat
open Go.RowKit Go.Deep

theorem BoxV.range {W : World} {p : Nat} {cs : List Value} (h : BoxV W p cs.toArray) : World.rangeAt W p 0 cs := fun j v hv => by
  rw [Nat.zero_add, h.at_ j]
  simpa using hv

theorem exec_load_mid {P : Program} {op : Oper} {a : Act} {W : World} (ty : TypeId) (x : Operand) (ho : op.op = .load ty x) (b o : Nat) (hx : a.eval x = .pointer (some ⟨b, o, none⟩)) (cs : List Value) (d : TypeDesc) (hc : World.rangeAt W b o cs)
    (hu : P.underlying ty = some d) (hd : d.isRow = true) (hi : (P.info? ty).map (·.size) = some cs.length) : (execOp a.eval op).run P W = .ok (.value (.agg cs.toArray)) W := by
  unfold execOp
  simp only [ho, hx, Instr.loadAt, Instr.sureAddr, Sem.run_bind, Sem.run_pure, Result.andThen_ok, run_loadVar_mid W b o ty cs d hc hu hd hi]

end Go.Proofs.YtkjkklcflpchlaaGreat
