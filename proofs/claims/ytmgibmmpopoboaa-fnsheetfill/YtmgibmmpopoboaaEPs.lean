import Derived.Test.YtmgibmmpopoboaaEPn
namespace Go.Proofs.Ytmgibmmpopoboaa.Pl
def mA (a b:ByteArray):Bool:=Op.bytesLess a.toList b.toList
def eC (a b:ByteArray):Bool:=a.toList==b.toList
def eR:ByteArray:=⟨#[]⟩
structure Ln where
 key:ByteArray
 ws:List ByteArray
structure Bl where
 kind:ByteArray
 name:ByteArray
 lines:List Ln
def aQ:Ln:=⟨eR,[]⟩
def aG:Bl:=⟨eR,eR,[]⟩
def cU:List ByteArray→List ByteArray→Bool
 |a::x,b::y=>if eC a b then cU x y else mA a b
 |x,y=>decide (x.length<y.length)
theorem AD {A B:List ByteArray} {k:Nat} (h1:k<A.length) (h2:k<B.length):cU (A.drop k) (B.drop k)=if eC (A.getD k eR) (B.getD k eR) then cU (A.drop (k+1)) (B.drop (k+1)) else mA (A.getD k eR) (B.getD k eR):=by
 have e1:A.getD k eR=A[k]:=by simp[h1]
 have e2:B.getD k eR=B[k]:=by simp[h2]
 rw[List.drop_eq_getElem_cons h1,List.drop_eq_getElem_cons h2,cU,e1,e2]
theorem ps {A B:List ByteArray} {k:Nat} (yz:k≤A.length) (EE:k≤B.length) (h:A.length≤k∨B.length≤k):cU (A.drop k) (B.drop k)=decide (A.length<B.length):=by
 rcases h with h|h
 ·have e:A.drop k=[]:=List.drop_of_length_le h;rw[e,cU]
  ·rw[List.length_drop,Bool.eq_iff_iff];simp;omega
  ·intro _ _ _ _ h;cases h
 ·have e:B.drop k=[]:=List.drop_of_length_le h;rw[e,cU]
  ·rw[List.length_drop,Bool.eq_iff_iff];simp;omega
  ·intro _ _ _ _ _ h;cases h
def bO (a b:List ByteArray):Bool:= !cU a b&& !cU b a
def dk (kind key:ByteArray):Int:=ixI (bJ (aj kind) key)
def aT (kind:ByteArray) (a b:Ln):Bool:=decide (dk kind a.key<dk kind b.key)||((dk kind a.key==dk kind b.key)&&cU a.ws b.ws)
def fh (kind key:ByteArray):Bool:=match bJ (aj kind) key with
 |none=>false
 |some j=>((aj kind).getD j aO).many
def aX (l:List Ln) (key:ByteArray):Nat:=l.countP fun x=>eC x.key key
def eU (many:Bool) (n:Nat):Bool:= !((!many&&decide (1<n))||decide (10<n))
def cV (kind:ByteArray) (l:List Ln) (i:Nat):Bool:=bU kind (l.getD i aQ).key (l.getD i aQ).ws&&(decide (i=0)||aT kind (l.getD (i - 1) aQ) (l.getD i aQ))&&eU (fh kind (l.getD i aQ).key) (aX (l.take (i+1)) (l.getD i aQ).key)
def bA (kind:ByteArray) (l:List Ln):Bool:=(List.range l.length).all (cV kind l)
def ahead (a b:Bl):Bool:=mA a.kind b.kind||(eC a.kind b.kind&&mA a.name b.name)
def cQ (s:List Bl) (i:Nat):Bool:= !decide ((aj (s.getD i aG).kind).length=0)&&cd (s.getD i aG).name&&bA (s.getD i aG).kind (s.getD i aG).lines&&(decide (i=0)||ahead (s.getD (i - 1) aG) (s.getD i aG))
def aM (s:List Bl):Bool:=decide (s.length≤60)&&(List.range s.length).all (cQ s)
theorem ep {p:Nat→Bool} {k:Nat} (h:(List.range k).all p=true) (hk:p k=true):(List.range (k+1)).all p=true:=by
 rw[List.range_succ,List.all_append,h];simp[hk]
theorem eZ {p:Nat→Bool} {k n:Nat} (hk:k<n) (h:p k=false):(List.range n).all p=false:=by
 rw[List.all_eq_false];exact⟨k,List.mem_range.2 hk,by simp[h]⟩
end Go.Proofs.Ytmgibmmpopoboaa.Pl
