import Derived.Test.YtgiglpnaekbegaaGreatDoorRgF
namespace Go.Proofs.YtgiglpnaekbegaaGreatDoor
set_option maxRecDepth 8000
set_option maxHeartbeats 40000000
open Go.RowKit Go.Deep
namespace RY
theorem eY {P:Program} {id:Nat} {Q:Exit→Act→World→Prop} {a0:Act} {w:World} {l:List Oper} (v:World) (hv:Bel v w) (V:Nat→Value→World→Prop) (hVm:∀ j u W W',Bel W W'→V j u W→V j u W') (K:Value→World→Prop) (n fuel kL kA:Nat)
  (hm:P.follows .mixedOrders=true) (hasc:asc .any l.toArray=true) (hap:ek l=true) (eH:eN l a0.tmps.size=true)
  (hclo:((List.range n).all fun i=>(clo l fuel [n]).contains i)=true) (hlen:l.length=n+2) (km:(l.all fun o=>o.dst.isSome)=true)
  (oL oA:Oper) (hL:l[n]? =some oL) (hLd:oL.dst=some kL) (hA:l[n+1]? =some oA) (hAd:oA.dst=some kA) (hAo:oA.op=.assign (.tmp kL)) (hAw:waits l (n+1) n=true)
  (ij:∀ (i:Nat) (o:Oper),l[i]? =some o→i<n→∀ (a:Act) (W:World),Bel v W→(∀ k,(∀ (j:Nat) (o':Oper),l[j]? =some o'→o'.dst=some k→n≤j)→a.eval (.tmp k)=a0.eval (.tmp k))→
   (∀ (j:Nat) (o':Oper) (k:Nat),l[j]? =some o'→o'.dst=some k→(∃ e∈o.after,e.on=j∧Region.binds .any e=true)→j<n→V j (a.eval (.tmp k)) W)→
   (∃ u W',(execOp a.eval o).run P W=.ok (.value u) W'∧Bel W W'∧V i u W')∨(∃ f args,(execOp a.eval o).run P W=.ok (.enter f args) W∧Calls P f args W fun e W'=>∃ u,e=.returned u∧Bel W W'∧V i u W'))
  (hfin:∀ (a:Act) (W:World),Bel v W→(∀ k,(∀ (j:Nat) (o':Oper),l[j]? =some o'→o'.dst=some k→n≤j)→a.eval (.tmp k)=a0.eval (.tmp k))→
   (∀ (j:Nat) (o':Oper) (k:Nat),l[j]? =some o'→o'.dst=some k→(∃ e∈oL.after,e.on=j∧Region.binds .any e=true)→j<n→V j (a.eval (.tmp k)) W)→
   ∃ u W',(execOp a.eval oL).run P W=.ok (.value u) W'∧K u W')
  (hend:∀ (vs:Nat→Value) (W:World),K (vs kL) W→vs kA=vs kL→Q .normal (aC l a0 vs) W):
  (Code.region id l.toArray true).wp P Q a0 w:=by
 have fk:∀ {i:Nat} {o:Oper},l[i]? =some o→o.dst.isSome=true:=fun h=>by
  rw[Xu]at km;exact km _ (Xx h)
 refine lA (fun _ _=>True) (fun up vals W=>(up n=false→up (n+1)=false∧Bel v W∧∀ j,j<n→up j=true→V j (vals j) W)∧(up n=true→K (vals n) W)∧(up (n+1)=true→vals (n+1)=vals n)) hm hasc hap eH ?_ ?_ ?_
 ·intro vals;exact⟨fun _=>⟨rfl,XF hv,fun _ _ h=>(by cases h)⟩,fun h=>(by cases h),fun h=>(by cases h)⟩
 ·intro up vals i o ho hi fT a W hk hd hT;have bA:up n=true→∀ j,j<n→up j=true:=fun hn j hj=>by
   rw[Xu]at hclo;have:=hclo j (XV.2 hj);rw[YI]at this;exact gV fT fuel [n] (by simpa using hn) j this
  have uL:i<n+2:=by rw[← hlen];exact(Xn.1 ho).1
  by_cases h1:i<n
  ·have hn:up n=false:=by
    cases e:up n
    ·rfl
    ·rw[bA e i h1]at hi;cases hi
   obtain⟨il,hB,hV⟩:=hT.1 hn;have Oo:=ij i o ho h1 a W hB (fun k qp=>hk k fun j o' hj hj'=>by
     have:=qp j o' hj hj';have wH:j<n+2:=by rw[← hlen];exact(Xn.1 hj).1
     by_cases e:j=n
     ·rw[e];exact hn
     ·have:j=n+1:=by omega
      rw[this];exact il)
    (fun j o' k hj iP gQ lR=>by
     obtain⟨q1,q2,_⟩:=hd j o' k hj iP gQ;rw[q2];exact hV j lR q1)
   have R5:∀ u W',Bel W W'→V i u W'→(((fun j=>(j==i)||up j) n=false→(fun j=>(j==i)||up j) (n+1)=false∧Bel v W'∧∀ j,j<n→(fun j=>(j==i)||up j) j=true→V j ((fun j=>if j=i then u else vals j) j) W')∧((fun j=>(j==i)||up j) n=true→K ((fun j=>if j=i then u else vals j) n) W')∧((fun j=>(j==i)||up j) (n+1)=true→(fun j=>if j=i then u else vals j) (n+1)=(fun j=>if j=i then u else vals j) n)):=by
    intro u W' hb hu;refine⟨fun _=>⟨?_,ae hB hb,fun j hj sN=> ?_⟩,fun h=> ?_,fun h=> ?_⟩
    ·simp[il];omega
    ·by_cases e:j=i
     ·subst e;dsimp only;rw[if_pos rfl];exact hu
     ·dsimp only;rw[if_neg e]
      have:up j=true:=by simpa [e]using sN
      exact hVm _ _ _ _ hb (hV j hj this)
    ·have:up n=true:=by
      have:n≠i:=by omega
      simpa [this]using h
     rw[hn]at this;cases this
    ·have:up (n+1)=true:=by
      have:n+1≠i:=by omega
      simpa [this]using h
     rw[il]at this;cases this
   rcases Oo with⟨u,W',hr,hb,hu⟩|⟨f,args,hr,hc⟩
   ·exact No ⟨u,W',hr,fk ho,trivial,R5 u W' hb hu⟩
   ·exact Xk (Xk ⟨f,args,hr,fk ho,hc.mono fun e W' ⟨u,he,hb,hu⟩=>⟨u,he,trivial,R5 u W' hb hu⟩⟩)
  ·by_cases h2:i=n
   ·subst h2;obtain⟨il,hB,hV⟩:=hT.1 hi;obtain rfl:o=oL:=Option.some.inj (ho.symm.trans hL);obtain⟨u,W',hr,hK⟩:=hfin a W hB (fun k qp=>hk k fun j o' hj hj'=>by
      have:=qp j o' hj hj';have wH:j<i+2:=by rw[← hlen];exact(Xn.1 hj).1
      by_cases e:j=i
      ·rw[e];exact hi
      ·have:j=i+1:=by omega
       rw[this];exact il)
     (fun j o' k hj iP gQ lR=>by
      obtain⟨q1,q2,_⟩:=hd j o' k hj iP gQ;rw[q2];exact hV j lR q1)
    refine No ⟨u,W',hr,fk ho,trivial,⟨fun h=>by simp at h,fun _=>by dsimp only;rw[if_pos rfl];exact hK,fun h=> ?_⟩⟩;have:up (i+1)=true:=by simpa using h
    rw[il]at this;cases this
   ·have h3:i=n+1:=by omega
    subst h3;obtain rfl:o=oA:=Option.some.inj (ho.symm.trans hA);obtain⟨q1,q2,_⟩:=hd n oL kL hL hLd (by obtain⟨e,he,h4,h5⟩:=bj hAw hA;exact⟨e,he,h4,h5⟩);refine No ⟨vals n,W, ?_,fk ho,trivial,⟨fun h=> ?_,fun h=> ?_,fun _=> ?_⟩⟩
    ·rw[← q2];simp[execOp,hAo]
    ·dsimp only at h;rw[q1]at h;simp at h
    ·have:n≠n+1:=by omega
     dsimp only;rw[if_neg this];exact hT.2.1 q1
    ·have:n≠n+1:=by omega
     dsimp only;rw[if_pos rfl,if_neg this]
 ·intro up vals vs W sN bn hT;have h1:=bn n oL kL hL hLd;have h2:=bn (n+1) oA kA hA hAd;have u1:=sN n (by omega);have u2:=sN (n+1) (by omega);refine hend vs W ?_ ?_
  ·rw[h1.1];exact hT.2.1 u1
  ·rw[h1.1,h2.1];exact hT.2.2 u2
end RY
end Go.Proofs.YtgiglpnaekbegaaGreatDoor
