import Derived.Test.YtopjjknojnfhmaaGreatDoorRegC
import Derived.Test.YtopjjknojnfhmaaGreatDoorRgF
namespace Go.Proofs.YtopjjknojnfhmaaGreatDoor
open Go.RowKit Go.Deep
namespace RY
theorem dW {P:Program} {op:Oper} {a:Act} {W:World} (ty:TypeId) (x y:Operand) (ho:op.op=.store ty x y) {b o:Nat} {cs:List Value} (hx:a.eval x=.pointer (some ⟨b,o,none⟩)) (hy:a.eval y=.agg cs.toArray)
  (ht:W.there b o cs.toArray.size) (hi:(P.info? ty).map (·.size)=some cs.toArray.size) (h1:cs.toArray.all (·.oneCell')=true):(execOp a.eval op).run P W=.ok .skip (W.setCells b o cs):=by
 unfold execOp;simp only[ho,hx,hy,Instr.storeAt,Instr.sureAddr,Sem.run_bind,Sem.run_pure,Result.andThen_ok,run_storeVar_mid W b o ty cs.toArray ht hi h1]
end RY
end Go.Proofs.YtopjjknojnfhmaaGreatDoor
