import Derived.Deep.MidRow
import Derived.Test.YtgiglpnaekbegaaGreatDoorRel
namespace Go.Proofs.YtgiglpnaekbegaaGreatDoor
set_option maxRecDepth 8000
set_option maxHeartbeats 40000000
open Go.RowKit Go.Deep
theorem ak {P:Program} {op:Oper} {a:Act} {W:World} (ty:TypeId) (x:Operand) (ho:op.op=.load ty x) (b o:Nat) (hx:a.eval x=.pointer (some ⟨b,o,none⟩)) (cs:List Value) (d:TypeDesc) (hc:World.rangeAt W b o cs)
  (hu:P.underlying ty=some d) (hd:d.isRow=true) (hi:(P.info? ty).map (·.size)=some cs.length):(execOp a.eval op).run P W=.ok (.value (.agg cs.toArray)) W:=by
 unfold execOp;simp only[ho,hx,Instr.loadAt,Instr.sureAddr,Sem.run_bind,Sem.run_pure,Result.andThen_ok,run_loadVar_mid W b o ty cs d hc hu hd hi]
namespace RY
def waits (l:List Oper) (i j:Nat):Bool:=match l[i]? with
 |some o=>o.after.any fun e=>e.on==j&&Region.binds .any e
 |none=>false
theorem bj {l:List Oper} {i j:Nat} {o:Oper} (h:waits l i j=true) (ho:l[i]? =some o):∃ e∈o.after,e.on=j∧Region.binds .any e=true:=by
 unfold waits at h;rw[ho]at h;obtain⟨m,hm,hq⟩:=Array.any_eq_true.1 h;simp only[Xj,beq_iff_eq]at hq;exact⟨_,Array.getElem_mem hm,hq.1,hq.2⟩
end RY
end Go.Proofs.YtgiglpnaekbegaaGreatDoor
