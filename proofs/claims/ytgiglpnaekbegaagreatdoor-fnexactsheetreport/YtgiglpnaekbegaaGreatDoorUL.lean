import Derived.BigFrame
import Derived.Test.YtgiglpnaekbegaaGreatDoorUB
import Derived.Test.YtgiglpnaekbegaaGreatDoorLet
namespace Go.Proofs.YtgiglpnaekbegaaGreatDoor
set_option maxRecDepth 8000
set_option maxHeartbeats 40000000
open Go.RowKit Go.Deep
def Ans (sh:List Sh) (A:List Dt) (W:World) (e:Ending) (w':World):Prop:=∃ c F,e=.returned (.agg c.toArray)∧Rep w' false sh F A c∧F.Nodup∧(∀ b∈F,W.heap.size≤b)∧Bel W w'
def eT (sh:List Sh) (A:Dt) (W:World) (e:Ending) (w':World):Prop:=∃ v F,e=.returned v∧Rep w' false sh F [A] [v]∧F.Nodup∧(∀ b∈F,W.heap.size≤b)∧Bel W w'
theorem KH {P:Program} {ops:Array Oper} {rest:List Oper} {op:Oper} {a:Act} {w:World} {Q:Exit→Act→World→Prop} (hw:Region.wanted op (yielded ops a.tmps)=true) (ty:TypeId) (x:Operand) (ho:op.op=.load ty x)
  (b o:Nat) (hx:a.eval x=.pointer (some ⟨b,o,none⟩)) (cs:List Value) (d:TypeDesc) (hc:w.rangeAt b o cs)
  (hu:P.underlying ty=some d) (hd:d.isRow=true) (hi:(P.info? ty).map (·.size)=some cs.length)
  (h:wpList P ops Q rest (a.put op.dst (.agg cs.toArray)) w):wpList P ops Q (op::rest) a w:=
 BigFrame.wpList_want hw fun _ hK=>wp_load_mid ty x ho b o hx cs d hc hu hd hi (hK _ _ h)
end Go.Proofs.YtgiglpnaekbegaaGreatDoor
