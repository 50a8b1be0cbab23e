import Derived.Test.YtmgibmmpopoboaaEPs
namespace Go.Proofs.Ytmgibmmpopoboaa.Pl
def wtx (ws:List ByteArray):Nat:=(ws.map fun w=>w.size+1).sum
def wln (x:Ln):Nat:=x.key.size+wtx x.ws
def wbl (b:Bl):Nat:=b.kind.size+b.name.size+(b.lines.map fun x=>wln x+1).sum
def wsh (s:List Bl):Nat:=(s.map fun b=>wbl b+1).sum
theorem eX {α:Type} (f:α→Nat):∀ (l:List α) (x:α),x∈l→f x≤(l.map f).sum
 |y::l,x,h=>by
  rw[List.map_cons,List.sum_cons];rcases List.mem_cons.1 h with rfl|q
  ·omega
  ·have:=eX f l x q;omega
theorem dM {α:Type} (d:α) (l:List α) (k:Nat) (h:k<l.length):l.take (k+1)=l.take k++[l.getD k d]:=by
 have e:l.getD k d=l[k]:=by simp[h]
 rw[List.take_succ_eq_append_getElem h,e]
end Go.Proofs.Ytmgibmmpopoboaa.Pl
