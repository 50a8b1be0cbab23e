import Derived.Test.YtopjjknojnfhmaaGreatDoorRegC
import Derived.Test.YtopjjknojnfhmaaGreatDoorRgF
namespace Go.Proofs.YtopjjknojnfhmaaGreatDoor
open Go.RowKit Go.Deep
namespace RY
theorem jS {P:Program} {id:Nat} {Q:Exit→Act→World→Prop} {a0:Act} {w:World} {l:List Oper} (v:World) (hv:Bel v w)
  (V:Nat→Value→World→Prop) (hVm:∀ j u W W',Bel W W'→V j u W→V j u W')
  (K:(Nat→Value)→World→Prop) (n fuel:Nat)
  (hm:P.follows .mixedOrders=true) (hasc:asc .any l.toArray=true) (hap:di l=true) (dr:dK l a0.tmps.size=true)
  (hlen:l.length=n+1) (D:List Nat) (hD:(D.all fun d=>decide (d<n)&&waits l n d)=true)
  (hclo:((List.range n).all fun i=>(clo l fuel D).contains i)=true)
  (oS:Oper) (hS:l[n]? =some oS) (hSd:oS.dst=none)
  (ks:((l.take n).all fun o=>o.dst.isSome)=true)
  (iH:∀ (i:Nat) (o:Oper),l[i]? =some o→i<n→∀ (a:Act) (W:World),Bel v W→(∀ k,cP l k=true→a.eval (.tmp k)=a0.eval (.tmp k))→
   (∀ (j:Nat) (o':Oper) (k:Nat),l[j]? =some o'→o'.dst=some k→(∃ e∈o.after,e.on=j∧Region.binds .any e=true)→j<n→V j (a.eval (.tmp k)) W)→
   (∃ u W',(execOp a.eval o).run P W=.ok (.value u) W'∧Bel W W'∧V i u W')∨
   (∃ f args,(execOp a.eval o).run P W=.ok (.enter f args) W∧Calls P f args W fun e W'=>∃ u,e=.returned u∧Bel W W'∧V i u W'))
  (kS:∀ (a:Act) (W:World) (vals:Nat→Value),Bel v W→(∀ k,cP l k=true→a.eval (.tmp k)=a0.eval (.tmp k))→(∀ j,j<n→V j (vals j) W)→
   (∀ (j:Nat) (o':Oper) (k:Nat),l[j]? =some o'→o'.dst=some k→(∃ e∈oS.after,e.on=j∧Region.binds .any e=true)→j<n→a.eval (.tmp k)=vals j)→
   ∃ W',(execOp a.eval oS).run P W=.ok .skip W'∧K vals W')
  (dt:∀ (vals vs:Nat→Value) (W:World),K vals W→(∀ (i:Nat) (o:Oper) (k:Nat),l[i]? =some o→o.dst=some k→vs k=vals i)→Q .normal (aC l a0 vs) W):
  (Code.region id l.toArray true).wp P Q a0 w:=by
 rw[List.all_eq_true]at hD;refine j5 (fun _ _=>True) (fun up vals W=>(up n=false→Bel v W∧∀ j,j<n→up j=true→V j (vals j) W)∧(up n=true→K vals W)) hm hasc hap dr ?_ ?_ ?_
 ·intro vals;exact⟨fun _=>⟨Below.drew hv,fun j _ h=>by simp at h⟩,fun h=>by simp at h⟩
 ·intro up vals i o ho hi eN a W hk gK hT;have nt:i<n+1:=by rw[← hlen];exact(List.getElem?_eq_some_iff.1 ho).1
  have qN:(∀ d∈D,up d=true)→∀ j,j<n→up j=true:=fun h j hj=>by
   rw[List.all_eq_true]at hclo;have:=hclo j (by simp;omega);exact gm eN fuel D h j (by simpa using this)
  by_cases kB:up n=true
  ·exfalso;have bs:∀ j,j<n+1→up j=true:=fun j hj=>by
    by_cases e:j=n
    ·rw[e];exact kB
    ·exact qN (fun d hd=>by
      have h2:=hD d hd;rw[Bool.and_eq_true,decide_eq_true_eq]at h2;obtain⟨e,he,mM,oI⟩:=aU h2.2 hS;rw[← mM];exact eN n oS e hS he oI kB) j (by omega)
   rw[bs i nt]at hi;cases hi
  ·have kB:up n=false:=by simpa using kB
   obtain⟨BJ,hV⟩:=hT.1 kB;have eQ:i<n→o.dst.isSome=true:=fun h=>by
    rw[List.all_eq_true]at ks;exact ks _ (List.mem_of_getElem? (i:=i) (by rw[List.getElem?_take_of_lt h];exact ho))
   by_cases gG:i<n
   ·have key:∀ u W',Bel W W'→V i u W'→((fun j=>(j==i)||up j) n=false→Bel v W'∧∀ j,j<n→(fun j=>(j==i)||up j) j=true→V j ((fun j=>if j=i then u else vals j) j) W')∧((fun j=>(j==i)||up j) n=true→K (fun j=>if j=i then u else vals j) W'):=fun u W' hW nI=>by
     refine⟨fun _=>⟨ah BJ hW,fun j hj hu=> ?_⟩,fun h=> ?_⟩
     ·by_cases e:j=i
      ·simp only[e,if_true];exact nI
      ·have hu:up j=true:=by simpa [e]using hu
       simp only[e,if_false];exact hVm _ _ _ _ hW (hV j hj hu)
     ·have:¬ n=i:=by omega
      have:up n=true:=by simpa [this]using h
      rw[kB]at this;cases this
    rcases iH i o ho gG a W BJ hk (fun j o' k hj jg hd lJ=>by
      obtain⟨q1,q2,_⟩:=gK j o' k hj jg hd;rw[q2];exact hV j lJ q1) with⟨u,W',hr,hW,nI⟩|⟨f,args,hr,hc⟩
    ·exact Or.inl ⟨u,W',hr,eQ gG,trivial,key u W' hW nI⟩
    ·refine Or.inr (Or.inr ⟨f,args,hr,eQ gG,hc.mono ?_⟩);rintro e W' ⟨u,rfl,hW,nI⟩;exact⟨u,rfl,trivial,key u W' hW nI⟩
   ·obtain rfl:i=n:=by omega
    rw[hS]at ho;injection ho with ho
    subst ho;have jL:∀ j,j<i→up j=true:=qN fun d hd=>by
     have h2:=hD d hd;rw[Bool.and_eq_true,decide_eq_true_eq]at h2;obtain⟨e,he,mM,oI⟩:=aU h2.2 hS;have kU:d<l.length:=by rw[hlen];omega
     have hq:(l[d]).dst.isSome=true:=by
      rw[List.all_eq_true]at ks;exact ks _ (List.mem_of_getElem? (i:=d) (by rw[List.getElem?_take_of_lt h2.1];simp))
     obtain⟨k,jg⟩:=Option.isSome_iff_exists.1 hq;exact(gK d l[d] k (by simp) jg ⟨e,he,mM,oI⟩).1
    obtain⟨W',hr,hK⟩:=kS a W vals BJ hk (fun j hj=>hV j hj (jL j hj)) (fun j o' k hj jg hd lJ=>(gK j o' k hj jg hd).2.1);exact Or.inr (Or.inl ⟨W',hr,hSd,fun h=>by simp at h,fun _=>hK⟩)
 ·intro up vals vs W bs iI hT;exact dt vals vs W (hT.2 (bs n (by omega))) (fun i o k hi hd=>(iI i o k hi hd).1)
end RY
end Go.Proofs.YtopjjknojnfhmaaGreatDoor
