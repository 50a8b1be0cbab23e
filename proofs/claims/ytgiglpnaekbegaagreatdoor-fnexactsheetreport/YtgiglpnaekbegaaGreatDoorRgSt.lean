import Derived.Test.YtgiglpnaekbegaaGreatDoorRegC
import Derived.Test.YtgiglpnaekbegaaGreatDoorRgF
namespace Go.Proofs.YtgiglpnaekbegaaGreatDoor
set_option maxRecDepth 8000
set_option maxHeartbeats 40000000
open Go.RowKit Go.Deep
namespace RY
theorem lk {P:Program} {id:Nat} {Q:Exit→Act→World→Prop} {a0:Act} {w:World} {l:List Oper} (v:World) (hv:Bel v w)
  (V:Nat→Value→World→Prop) (hVm:∀ j u W W',Bel W W'→V j u W→V j u W')
  (K:(Nat→Value)→World→Prop) (n fuel:Nat)
  (hm:P.follows .mixedOrders=true) (hasc:asc .any l.toArray=true) (hap:ek l=true) (eH:eN l a0.tmps.size=true)
  (hlen:l.length=n+1) (D:List Nat) (hD:(D.all fun d=>decide (d<n)&&waits l n d)=true)
  (hclo:((List.range n).all fun i=>(clo l fuel D).contains i)=true)
  (oS:Oper) (hS:l[n]? =some oS) (hSd:oS.dst=none)
  (km:((l.take n).all fun o=>o.dst.isSome)=true)
  (ij:∀ (i:Nat) (o:Oper),l[i]? =some o→i<n→∀ (a:Act) (W:World),Bel v W→(∀ k,ew l k=true→a.eval (.tmp k)=a0.eval (.tmp k))→
   (∀ (j:Nat) (o':Oper) (k:Nat),l[j]? =some o'→o'.dst=some k→(∃ e∈o.after,e.on=j∧Region.binds .any e=true)→j<n→V j (a.eval (.tmp k)) W)→
   (∃ u W',(execOp a.eval o).run P W=.ok (.value u) W'∧Bel W W'∧V i u W')∨
   (∃ f args,(execOp a.eval o).run P W=.ok (.enter f args) W∧Calls P f args W fun e W'=>∃ u,e=.returned u∧Bel W W'∧V i u W'))
  (hfin:∀ (a:Act) (W:World) (vals:Nat→Value),Bel v W→(∀ k,ew l k=true→a.eval (.tmp k)=a0.eval (.tmp k))→(∀ j,j<n→V j (vals j) W)→
   (∀ (j:Nat) (o':Oper) (k:Nat),l[j]? =some o'→o'.dst=some k→(∃ e∈oS.after,e.on=j∧Region.binds .any e=true)→j<n→a.eval (.tmp k)=vals j)→
   ∃ W',(execOp a.eval oS).run P W=.ok .skip W'∧K vals W')
  (hend:∀ (vals vs:Nat→Value) (W:World),K vals W→(∀ (i:Nat) (o:Oper) (k:Nat),l[i]? =some o→o.dst=some k→vs k=vals i)→Q .normal (aC l a0 vs) W):
  (Code.region id l.toArray true).wp P Q a0 w:=by
 rw[Xu]at hD;refine jt (fun _ _=>True) (fun up vals W=>(up n=false→Bel v W∧∀ j,j<n→up j=true→V j (vals j) W)∧(up n=true→K vals W)) hm hasc hap eH ?_ ?_ ?_
 ·intro vals;exact⟨fun _=>⟨XF hv,fun j _ h=>by simp at h⟩,fun h=>by simp at h⟩
 ·intro up vals i o ho hi fT a W hk gQ hT;have uL:i<n+1:=by rw[← hlen];exact(Xn.1 ho).1
  have oV:(∀ d∈D,up d=true)→∀ j,j<n→up j=true:=fun h j hj=>by
   rw[Xu]at hclo;have:=hclo j (by simp;omega);exact gV fT fuel D h j (by simpa using this)
  by_cases jr:up n=true
  ·exfalso;have bA:∀ j,j<n+1→up j=true:=fun j hj=>by
    by_cases e:j=n
    ·rw[e];exact jr
    ·exact oV (fun d hd=>by
      have h2:=hD d hd;rw[Xj,decide_eq_true_eq]at h2;obtain⟨e,he,nT,nU⟩:=bj h2.2 hS;rw[← nT];exact fT n oS e hS he nU jr) j (by omega)
   rw[bA i uL]at hi;cases hi
  ·have jr:up n=false:=by simpa using jr
   obtain⟨sS,hV⟩:=hT.1 jr;have fk:i<n→o.dst.isSome=true:=fun h=>by
    rw[Xu]at km;exact km _ (Xx (i:=i) (by rw[XM h];exact ho))
   by_cases iN:i<n
   ·have key:∀ u W',Bel W W'→V i u W'→((fun j=>(j==i)||up j) n=false→Bel v W'∧∀ j,j<n→(fun j=>(j==i)||up j) j=true→V j ((fun j=>if j=i then u else vals j) j) W')∧((fun j=>(j==i)||up j) n=true→K (fun j=>if j=i then u else vals j) W'):=fun u W' hW mM=>by
     refine⟨fun _=>⟨ae sS hW,fun j hj hu=> ?_⟩,fun h=> ?_⟩
     ·by_cases e:j=i
      ·simp only[e,if_true];exact mM
      ·have hu:up j=true:=by simpa [e]using hu
       simp only[e,if_false];exact hVm _ _ _ _ hW (hV j hj hu)
     ·have:¬ n=i:=by omega
      have:up n=true:=by simpa [this]using h
      rw[jr]at this;cases this
    rcases ij i o ho iN a W sS hk (fun j o' k hj iP hd lR=>by
      obtain⟨q1,q2,_⟩:=gQ j o' k hj iP hd;rw[q2];exact hV j lR q1) with⟨u,W',hr,hW,mM⟩|⟨f,args,hr,hc⟩
    ·exact No ⟨u,W',hr,fk iN,trivial,key u W' hW mM⟩
    ·refine Xk (Xk ⟨f,args,hr,fk iN,hc.mono ?_⟩);rintro e W' ⟨u,rfl,hW,mM⟩;exact⟨u,rfl,trivial,key u W' hW mM⟩
   ·obtain rfl:i=n:=by omega
    rw[hS]at ho;injection ho with ho
    subst ho;have jM:∀ j,j<i→up j=true:=oV fun d hd=>by
     have h2:=hD d hd;rw[Xj,decide_eq_true_eq]at h2;obtain⟨e,he,nT,nU⟩:=bj h2.2 hS;have kk:d<l.length:=by rw[hlen];omega
     have hq:(l[d]).dst.isSome=true:=by
      rw[Xu]at km;exact km _ (Xx (i:=d) (by rw[XM h2.1];simp))
     obtain⟨k,iP⟩:=XR.1 hq;exact(gQ d l[d] k (by simp) iP ⟨e,he,nT,nU⟩).1
    obtain⟨W',hr,hK⟩:=hfin a W vals sS hk (fun j hj=>hV j hj (jM j hj)) (fun j o' k hj iP hd lR=>(gQ j o' k hj iP hd).2.1);exact Xk (No ⟨W',hr,hSd,fun h=>by simp at h,fun _=>hK⟩)
 ·intro up vals vs W bA iH hT;exact hend vals vs W (hT.2 (bA n (by omega))) (fun i o k hi hd=>(iH i o k hi hd).1)
end RY
end Go.Proofs.YtgiglpnaekbegaaGreatDoor
