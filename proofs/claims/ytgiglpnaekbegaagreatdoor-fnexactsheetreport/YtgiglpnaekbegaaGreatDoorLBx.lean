import Derived.Deep.MidRow
import Derived.Test.YtgiglpnaekbegaaGreatDoorOwn
namespace Go.Proofs.YtgiglpnaekbegaaGreatDoor
set_option maxRecDepth 8000
set_option maxHeartbeats 40000000
open Go.RowKit Go.Deep
structure au (W:World) (p:Nat) (cs:List Value):Prop where
 lt:p<W.heap.size
 at_:W.rangeAt p 0 cs
theorem au.later {W W':World} {p:Nat} {cs:List Value} (h:au W p cs) (hb:Bel W W'):au W' p cs:=
 ⟨zL h.lt hb.size,fun j v hv=>(hb.cell (p:=⟨p,0+j,none⟩) h.lt).trans (h.at_ j v hv)⟩
theorem au.new (W:World) (cs:Array Value) (t:TypeId) (p:Nat) (hp:p=W.heap.size):au (W.alloc (.cells cs t)) p cs.toList:=by
 subst hp;refine⟨by simp,fun j v hv=> ?_⟩;rw[Xr];refine(World.cell?_alloc_at _ _ _ _ rfl).trans ?_;simpa using hv
theorem au.eO {W:World} {p:Nat} {cs:List Value} (h:au W p cs) (x:Obj):au (W.alloc x) p cs:=h.later (af zR x)
theorem au.get {W:World} {p:Nat} {cs:List Value} (h:au W p cs) (j:Nat) (v:Value) (hv:cs[j]? =some v):W.cell? ⟨p,j,none⟩=some v:=by
 have:=h.at_ j v hv;rwa [Xr]at this
end Go.Proofs.YtgiglpnaekbegaaGreatDoor
