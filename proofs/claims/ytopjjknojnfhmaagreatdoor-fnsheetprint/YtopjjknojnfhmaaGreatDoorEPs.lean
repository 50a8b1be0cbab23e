import Derived.Test.YtopjjknojnfhmaaGreatDoorEPn
namespace Go.Proofs.YtopjjknojnfhmaaGreatDoor.Pl
def nH (a b:ByteArray):Bool:=Op.bytesLess a.toList b.toList
def dD (a b:ByteArray):Bool:=a.toList==b.toList
def aJ:ByteArray:=⟨#[]⟩
structure Ln where
 key:ByteArray
 ws:List ByteArray
structure Bl where
 kind:ByteArray
 name:ByteArray
 lines:List Ln
def aK:Ln:=⟨aJ,[]⟩
def aN:Bl:=⟨aJ,aJ,[]⟩
def cM:List ByteArray→List ByteArray→Bool
 |a::x,b::y=>if dD a b then cM x y else nH a b
 |x,y=>decide (x.length<y.length)
theorem D5 {A B:List ByteArray} {k:Nat} (h1:k<A.length) (h2:k<B.length):cM (A.drop k) (B.drop k)=if dD (A.getD k aJ) (B.getD k aJ) then cM (A.drop (k+1)) (B.drop (k+1)) else nH (A.getD k aJ) (B.getD k aJ):=by
 have e1:A.getD k aJ=A[k]:=by simp[h1]
 have e2:B.getD k aJ=B[k]:=by simp[h2]
 rw[List.drop_eq_getElem_cons h1,List.drop_eq_getElem_cons h2,cM,e1,e2]
theorem ru {A B:List ByteArray} {k:Nat} (Fy:k≤A.length) (Ps:k≤B.length) (h:A.length≤k∨B.length≤k):cM (A.drop k) (B.drop k)=decide (A.length<B.length):=by
 rcases h with h|h
 ·have e:A.drop k=[]:=List.drop_of_length_le h;rw[e,cM]
  ·rw[List.length_drop,Bool.eq_iff_iff];simp;omega
  ·intro _ _ _ _ h;cases h
 ·have e:B.drop k=[]:=List.drop_of_length_le h;rw[e,cM]
  ·rw[List.length_drop,Bool.eq_iff_iff];simp;omega
  ·intro _ _ _ _ _ h;cases h
def cH (a b:List ByteArray):Bool:= !cM a b&& !cM b a
def fP (kind key:ByteArray):Int:=ixI (bC (ai kind) key)
def aL (kind:ByteArray) (a b:Ln):Bool:=decide (fP kind a.key<fP kind b.key)||((fP kind a.key==fP kind b.key)&&cM a.ws b.ws)
def fp (kind key:ByteArray):Bool:=match bC (ai kind) key with
 |none=>false
 |some j=>((ai kind).getD j bq).many
def aI (l:List Ln) (key:ByteArray):Nat:=l.countP fun x=>dD x.key key
def gy (many:Bool) (n:Nat):Bool:= !((!many&&decide (1<n))||decide (10<n))
def dj (kind:ByteArray) (l:List Ln) (i:Nat):Bool:=bh kind (l.getD i aK).key (l.getD i aK).ws&&(decide (i=0)||aL kind (l.getD (i - 1) aK) (l.getD i aK))&&gy (fp kind (l.getD i aK).key) (aI (l.take (i+1)) (l.getD i aK).key)
def bU (kind:ByteArray) (l:List Ln):Bool:=(List.range l.length).all (dj kind l)
def ahead (a b:Bl):Bool:=nH a.kind b.kind||(dD a.kind b.kind&&nH a.name b.name)
def dk (s:List Bl) (i:Nat):Bool:= !decide ((ai (s.getD i aN).kind).length=0)&&aT (s.getD i aN).name&&bU (s.getD i aN).kind (s.getD i aN).lines&&(decide (i=0)||ahead (s.getD (i - 1) aN) (s.getD i aN))
def bH (s:List Bl):Bool:=decide (s.length≤60)&&(List.range s.length).all (dk s)
theorem eJ {p:Nat→Bool} {k:Nat} (h:(List.range k).all p=true) (hk:p k=true):(List.range (k+1)).all p=true:=by
 rw[List.range_succ,List.all_append,h];simp[hk]
theorem fv {p:Nat→Bool} {k n:Nat} (hk:k<n) (h:p k=false):(List.range n).all p=false:=by
 rw[List.all_eq_false];exact⟨k,List.mem_range.2 hk,by simp[h]⟩
end Go.Proofs.YtopjjknojnfhmaaGreatDoor.Pl
