import Derived.Test.YtmgibmmpopoboaaEPp
namespace Go.Proofs.Ytmgibmmpopoboaa.Pl
def isB (kind name:ByteArray) (b:Bl):Bool:=(b.kind.toList==kind.toList)&&(b.name.toList==name.toList)
def findF (kind name:ByteArray):List Bl→Nat→Option Nat
 |[],_=>none
 |b::l,j=>if isB kind name b then some j else findF kind name l (j+1)
def dJ (l:List Bl) (kind name:ByteArray):Option Nat:=findF kind name l 0
theorem xB {l:List Bl} {kind name:ByteArray} {k:Nat} (hk:k<l.length) (h:dJ l kind name=findF kind name (l.drop k) k) (hb:isB kind name (l.getD k aG)=true):dJ l kind name=some k:=by
 have e:l.getD k aG=l[k]:=by simp[hk]
 rw[h,List.drop_eq_getElem_cons hk,findF,← e,if_pos hb]
theorem uE {l:List Bl} {kind name:ByteArray} {k:Nat} (hk:k<l.length) (h:dJ l kind name=findF kind name (l.drop k) k) (hb:isB kind name (l.getD k aG)=false):dJ l kind name=findF kind name (l.drop (k+1)) (k+1):=by
 have e:l.getD k aG=l[k]:=by simp[hk]
 rw[h,List.drop_eq_getElem_cons hk,findF,← e,hb];rfl
theorem xx {l:List Bl} {kind name:ByteArray} (h:dJ l kind name=findF kind name (l.drop l.length) l.length):dJ l kind name=none:=by
 rw[h,List.drop_length,findF]
theorem sI {kind name:ByteArray}:∀ (l:List Bl) (j k:Nat),findF kind name l j=some k→j≤k∧k<j+l.length
 |[],_,_,h=>by simp[findF]at h
 |b::l,j,k,h=>by
  rw[findF]at h;split at h
  ·injection h with h;subst h;simp
  ·have:=sI l (j+1) k h;simp only[List.length_cons];omega
theorem nG {l:List Bl} {kind name:ByteArray} {k:Nat} (h:dJ l kind name=some k):k<l.length:=by have:=sI l 0 k h;omega
def aI (l:List Ln) (key:ByteArray):List Ln:=l.filter fun x=>x.key.toList==key.toList
theorem qt {l:List Ln} {key:ByteArray} {k:Nat} (hk:k<l.length):aI (l.take (k+1)) key=if (l.getD k aQ).key.toList==key.toList then aI (l.take k) key++[l.getD k aQ] else aI (l.take k) key:=by
 rw[dM aQ l k hk,aI,aI,List.filter_append,List.filter_cons,List.filter_nil];split<;>simp
theorem ef (l:List Ln) (key:ByteArray):(aI l key).length≤l.length:=List.length_filter_le _ _
def bV (s:List Bl) (kind name key:ByteArray):List Ln×Bool:=
 match aM s,dJ s kind name,bJ (aj kind) key with
 |true,some k,some r=>
  let out:=aI (s.getD k aG).lines key
  (if decide (out.length=0)&& !((aj kind).getD r aO).many then [⟨key,((aj kind).getD r aO).dflt⟩] else out,true)
 |_,_,_=>([],false)
end Go.Proofs.Ytmgibmmpopoboaa.Pl
