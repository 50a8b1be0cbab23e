import Derived.Test.YtopjjknojnfhmaaGreatDoorEPs
namespace Go.Proofs.YtopjjknojnfhmaaGreatDoor.Pl
def cS (ws:List ByteArray):List UInt8:=ws.flatMap fun w=>32::de w.data.toList
def dw (x:Ln):List UInt8:=x.key.data.toList++cS x.ws
def bN (l:List Ln):List UInt8:=l.flatMap fun x=> [32,32]++dw x++[10]
def er (b:Bl):List UInt8:=b.kind.data.toList++[32]++b.name.data.toList++[10]++bN b.lines++[101,110,100,10]
def aW (s:List Bl):List UInt8:=s.flatMap er
def bQ (s:List Bl):Nat:=(s.map fun b=>b.lines.length+2).sum
def ez (s:List Bl):ByteArray:=if bH s&&decide ((aW s).length≤20000)&&decide (bQ s≤400) then ⟨(aW s).toArray⟩ else ⟨#[]⟩
def wtx (ws:List ByteArray):Nat:=(ws.map fun w=>w.size+1).sum
def wln (x:Ln):Nat:=x.key.size+wtx x.ws
def wbl (b:Bl):Nat:=b.kind.size+b.name.size+(b.lines.map fun x=>wln x+1).sum
def wsh (s:List Bl):Nat:=(s.map fun b=>wbl b+1).sum
theorem lX (l:List UInt8):(de l).length≤3*l.length+2:=by
 unfold de;split
 ·omega
 ·simp only[List.length_cons,List.length_append,List.length_nil];have:=nY l;omega
theorem jR:∀ ws:List ByteArray,(cS ws).length≤3*wtx ws
 |[]=>by simp[cS,wtx]
 |w::ws=>by
  have h:=jR ws;have hw:=lX w.data.toList;rw[aD]at hw;simp only[cS,wtx,List.flatMap_cons,List.length_append,List.length_cons,List.map_cons,List.sum_cons]at h ⊢;omega
theorem mq (x:Ln):(dw x).length≤3*wln x:=by
 unfold dw wln;rw[List.length_append,aD];have:=jR x.ws;omega
theorem iX:∀ l:List Ln,(bN l).length≤3*(l.map fun x=>wln x+1).sum
 |[]=>by simp[bN]
 |x::l=>by
  have h:=iX l;have hx:=mq x;simp only[bN,List.flatMap_cons,List.length_append,List.length_cons,List.length_nil,List.map_cons,List.sum_cons]at h ⊢;omega
theorem xt (b:Bl):(er b).length≤6*(wbl b+1):=by
 have:=iX b.lines;unfold er wbl;simp only[List.length_append,aD,List.length_cons,List.length_nil];omega
theorem kN:∀ s:List Bl,(aW s).length≤6*wsh s
 |[]=>by simp[aW,wsh]
 |b::s=>by
  have h:=kN s;have hb:=xt b;simp only[aW,wsh,List.flatMap_cons,List.length_append,List.map_cons,List.sum_cons]at h ⊢;omega
theorem dy {α:Type} (f:α→Nat):∀ (l:List α) (k:Nat),((l.take k).map f).sum≤(l.map f).sum
 |[],k=>by simp
 |x::l,0=>by simp
 |x::l,k+1=>by rw[List.take_succ_cons,List.map_cons,List.map_cons,List.sum_cons,List.sum_cons];have:=dy f l k;omega
theorem cW {α:Type} (f:α→Nat):∀ (l:List α) (x:α),x∈l→f x≤(l.map f).sum
 |y::l,x,h=>by
  rw[List.map_cons,List.sum_cons];rcases List.mem_cons.1 h with rfl|q
  ·omega
  ·have:=cW f l x q;omega
theorem cX {α:Type} (d:α) (l:List α) (k:Nat) (h:k<l.length):l.take (k+1)=l.take k++[l.getD k d]:=by
 have e:l.getD k d=l[k]:=by simp[h]
 rw[List.take_succ_eq_append_getElem h,e]
end Go.Proofs.YtopjjknojnfhmaaGreatDoor.Pl
