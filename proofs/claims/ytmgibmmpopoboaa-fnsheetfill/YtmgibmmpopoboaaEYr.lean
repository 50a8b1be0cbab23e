import Derived.Test.YtmgibmmpopoboaaEPg
import Derived.Test.YtmgibmmpopoboaaEPj
namespace Go.Proofs.Ytmgibmmpopoboaa
open Go.RowKit Go.Deep
theorem pN {key:ByteArray}:∀ (l:List Pl.Ru) (i j:Nat),Pl.eK key l i=some j→i≤j∧(l.getD (j - i) Pl.aO).key=key
 |[],_,_,h=>by unfold Pl.eK at h;cases h
 |r::l,i,j,h=>by
  unfold Pl.eK at h;split at h
  ·rename_i hk
   injection h with h;subst h
   refine⟨zE, ?_⟩;rw[Nat.sub_self];exact il (by simpa using hk)
  ·have:=pN l (i+1) j h;refine⟨by omega, ?_⟩;have e:j - i=(j - (i+1))+1:=by omega
   rw[e,List.getD_cons_succ];exact this.2
theorem sj {l:List Pl.Ru} {key:ByteArray} {j:Nat} (h:Pl.bJ l key=some j):(l.getD j Pl.aO).key=key:=by
 have:=(pN l 0 j h).2;rwa [Nat.sub_zero]at this
def Pl.bw (ru:Pl.Ru) (l:List Pl.Ln):List Pl.Ln:=if decide ((Pl.aI l ru.key).length=0)&& !ru.many then [⟨ru.key,ru.dflt⟩] else Pl.aI l ru.key
def Pl.filled (kind:ByteArray) (l:List Pl.Ln):List Pl.Ln:=(Pl.aj kind).flatMap (fun r=>Pl.bw r l)
def Pl.gn:List ByteArray→List ByteArray→Bool
 |[],[]=>true
 |a::x,b::y=>(a.toList==b.toList)&&Pl.gn x y
 |_,_=>false
theorem rF:∀ A B:List ByteArray,A.length≠B.length→Pl.gn A B=false
 |[],[],h=>by simp at h
 |[],_::_,_=>rfl
 |_::_,[],_=>rfl
 |a::x,b::y,h=>by
  rw[Pl.gn,rF x y (by simpa using h),Bool.and_false]
theorem CQ {A B:List ByteArray} {k:Nat} (h1:k<A.length) (h2:k<B.length):Pl.gn (A.drop k) (B.drop k)=((A.getD k Pl.eR).toList==(B.getD k Pl.eR).toList&&Pl.gn (A.drop (k+1)) (B.drop (k+1))):=by
 have e1:A.getD k Pl.eR=A[k]:=by simp[h1]
 have e2:B.getD k Pl.eR=B[k]:=by simp[h2]
 rw[List.drop_eq_getElem_cons h1,List.drop_eq_getElem_cons h2,Pl.gn,e1,e2]
theorem rG:∀ A B:List ByteArray,Pl.gn A B=true↔A=B
 |[],[]=>by simp[Pl.gn]
 |[],_::_=>by simp[Pl.gn]
 |_::_,[]=>by simp[Pl.gn]
 |a::x,b::y=>by
  rw[Pl.gn,Bool.and_eq_true,rG x y];constructor
  ·rintro⟨h1,h2⟩;rw[il h1,h2]
  ·intro h;injection h with h1 h2
   subst h1;subst h2;exact⟨by simp,rfl⟩
def Pl.nJ (kind:ByteArray) (x:Pl.Ln):Bool:=match Pl.bJ (Pl.aj kind) x.key with
 |none=> !Pl.gn x.ws []
 |some j=>((Pl.aj kind).getD j Pl.aO).many|| !Pl.gn x.ws ((Pl.aj kind).getD j Pl.aO).dflt
def Pl.trimmed (kind:ByteArray) (l:List Pl.Ln):List Pl.Ln:=l.filter (Pl.nJ kind)
end Go.Proofs.Ytmgibmmpopoboaa
