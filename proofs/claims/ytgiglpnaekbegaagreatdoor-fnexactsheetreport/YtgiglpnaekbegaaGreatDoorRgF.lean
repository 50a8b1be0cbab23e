import Derived.Test.YtgiglpnaekbegaaGreatDoorRegT
import Derived.Test.YtgiglpnaekbegaaGreatDoorLet
namespace Go.Proofs.YtgiglpnaekbegaaGreatDoor
set_option maxRecDepth 8000
set_option maxHeartbeats 40000000
open Go.RowKit Go.Deep
namespace RY
theorem lA {P:Program} {id:Nat} {Q:Exit→Act→World→Prop} {a0:Act} {w:World} {l:List Oper} (V:Nat→Value→Prop) (T:(Nat→Bool)→(Nat→Value)→World→Prop) (hm:P.follows .mixedOrders=true)
  (hasc:asc .any l.toArray=true) (hap:ek l=true) (eH:eN l a0.tmps.size=true) (h0:∀ vals,T (fun _=>false) vals w.drew)
  (ij:∀ (up:Nat→Bool) (vals:Nat→Value) (i:Nat) (o:Oper),l[i]? =some o→up i=false→(∀ (j:Nat) (o':Oper) (e:_),l[j]? =some o'→e∈o'.after→Region.binds .any e=true→up j=true→up e.on=true)→
   ∀ (a:Act) (W:World),(∀ k,(∀ (j:Nat) (o':Oper),l[j]? =some o'→o'.dst=some k→up j=false)→a.eval (.tmp k)=a0.eval (.tmp k))→
   (∀ (j:Nat) (o':Oper) (k:Nat),l[j]? =some o'→o'.dst=some k→(∃ e∈o.after,e.on=j∧Region.binds .any e=true)→up j=true∧a.eval (.tmp k)=vals j∧V j (vals j))→T up vals W→
   (∃ u W',(execOp a.eval o).run P W=.ok (.value u) W'∧o.dst.isSome=true∧V i u∧T (fun j=>(j==i)||up j) (fun j=>if j=i then u else vals j) W')∨
   (∃ W',(execOp a.eval o).run P W=.ok .skip W'∧o.dst=none∧T (fun j=>(j==i)||up j) vals W')∨
   (∃ f args,(execOp a.eval o).run P W=.ok (.enter f args) W∧o.dst.isSome=true∧Calls P f args W fun e W'=>∃ u,e=.returned u∧V i u∧T (fun j=>(j==i)||up j) (fun j=>if j=i then u else vals j) W'))
  (hend:∀ (up:Nat→Bool) (vals vs:Nat→Value) (W:World),(∀ i,i<l.length→up i=true)→(∀ (i:Nat) (o:Oper) (k:Nat),l[i]? =some o→o.dst=some k→vs k=vals i∧V i (vals i))→T up vals W→Q .normal (aC l a0 vs) W):
  (Code.region id l.toArray true).wp P Q a0 w:=by
 refine wp_region_any hm ?_;refine iq (fun L a W=>mz l a0 (fun _ _=>True) (fun j u _=>V j u) L a W∧T (fun j=>L.getD j false) (valOf l a) W) ?_ ?_ _ _ _ _ ?_ (gv.none _ (eh _)) ?_
 ·rintro L a W i ⟨h,hT⟩ hc hi;obtain⟨gS,o,wM,bA⟩:=mem_ready.1 hi;have ho:l[i]? =some o:=by simpa using wM
  have hg:=(cF eH ho).1;rcases ij (fun j=>L.getD j false) (valOf l a) i o ho (oI gS) (fun j o' e hj he hb hu=>hc j o' e (by simpa using hj) he hb hu) a W (fun k hk=>h.old k hk)
   (fun j o' k hj hk ⟨e,he,nT,hb⟩=>by
    have hu:L.getD j false=true:=by rw[← nT];exact bA e he hb
    exact⟨hu,(dI hj hk).symm,by rw[dI hj hk];exact h.new j o' k hj hk hu⟩) hT with⟨u,W',hr,hd,hV,AD⟩|⟨W',hr,hd,AD⟩|⟨f,args,hr,hd,fT⟩
  ·refine j7 wM hg hr ⟨h.step hap eH ho gS trivial (fun _ _ x=>x) (fun _=>hV), ?_⟩;obtain⟨q,hq⟩:=XR.1 hd;rw[kN gS,hq,jz hap ho hq (by rw[h.sz];exact(cF eH ho).2 q hq)];exact AD
  ·refine oK wM hg hr ⟨h.step hap eH ho gS trivial (fun _ _ x=>x) (fun hs=>by rw[hd]at hs;cases hs), ?_⟩;rw[kN gS,hd,rk];exact AD
  ·refine mG wM hg hr (fT.mono ?_);rintro e W' ⟨u,rfl,hV,AD⟩;refine⟨u,rfl,h.step hap eH ho gS trivial (fun _ _ x=>x) (fun _=>hV), ?_⟩;obtain⟨q,hq⟩:=XR.1 hd;rw[kN gS,hq,jz hap ho hq (by rw[h.sz];exact(cF eH ho).2 q hq)];exact AD
 ·rintro L a W ⟨h,hT⟩ hr;have bA:∀ i,i<l.length→L.getD i false=true:=fun i hi=>rT hr hasc (by simpa using h.len) i (by simpa using hi);have lt:∀ {i:Nat} {o:Oper},l[i]? =some o→i<l.length:=fun hi=>(Xn.1 hi).1;have e:a=aC l a0 (fun k=>a.eval (.tmp k)):=by
   have hs:∀ o∈l,∀ q,o.dst=some q→q<a0.tmps.size:=fun o ho q hq=>by
    obtain⟨i,hi⟩:=YQ ho;exact(cF eH hi).2 q hq
   refine nc (by rw[eK];exact h.df) (by rw[fP];exact h.sz) fun k=> ?_;rw[eX l a0 _ k hs];by_cases hk:∃ o∈l,o.dst=some k
   ·rw[if_pos hk]
   ·rw[if_neg hk];refine h.old k fun i o hi hd=>absurd ⟨o,Xx hi,hd⟩ hk
  have:=hend (fun j=>L.getD j false) (valOf l a) (fun k=>a.eval (.tmp k)) W bA (fun i o k hi hd=>⟨(dI hi hd).symm,by rw[dI hi hd];exact h.new i o k hi hd (bA i (lt hi))⟩) hT;rw[← e]at this;exact this
 ·refine⟨⟨by simp,trivial,rfl,rfl,fun _ _=>rfl,fun i o k hi _ hl=> ?_⟩, ?_⟩
  ·rw[eh]at hl;cases hl
  ·have:(fun j=>(Array.replicate l.toArray.size false).getD j false)=fun _=>false:=by funext j;exact eh _ _
   rw[this];exact h0 _
 ·unfold left;exact Xg Yd (by simp)
end RY
namespace RY
def clo (l:List Oper):Nat→List Nat→List Nat
 |0,S=>S
 |f+1,S=>clo l f ((S++S.flatMap fun i=>match l[i]? with
  |some o=>(o.after.toList.filter fun e=>Region.binds .any e).map (·.on)
  |none=> []).eraseDups)
theorem gV {l:List Oper} {up:Nat→Bool} (fT:∀ (j:Nat) (o':Oper) (e:_),l[j]? =some o'→e∈o'.after→Region.binds .any e=true→up j=true→up e.on=true):∀ (f:Nat) (S:List Nat),(∀ i∈S,up i=true)→∀ i∈clo l f S,up i=true
 |0,_,h=>h
 |f+1,S,h=>by
  rw[clo];refine gV fT f _ fun i hi=> ?_;rw[List.mem_eraseDups]at hi;rcases XC.1 hi with hi|hi
  ·exact h i hi
  ·obtain⟨j,hj,hi⟩:=List.mem_flatMap.1 hi;cases ho:l[j]? with
   |none=>rw[ho]at hi;cases hi
   |some o=>
    rw[ho]at hi;obtain⟨e,he,rfl⟩:=YA.1 hi;obtain⟨he1,U2⟩:=YD.1 he;exact fT j o e ho (by simpa using he1) U2 (h j hj)
def L6 (l:List Oper) (k n:Nat):Bool:=(List.range l.length).all fun j=>match l[j]? with
 |some o=> !(o.dst==some k)||decide (n≤j)
 |none=>true
theorem aS {l:List Oper} {k n:Nat} (h:L6 l k n=true):∀ (j:Nat) (o':Oper),l[j]? =some o'→o'.dst=some k→n≤j:=fun j o' hj hd=>by
 unfold L6 at h;rw[Xu]at h;have:=h j (XV.2 (Xn.1 hj).1);rw[hj]at this;simpa [hd]using this
theorem me {P:Program} {id:Nat} {Q:Exit→Act→World→Prop} {a0:Act} {w:World} {l:List Oper} (v:World) (hv:Bel v w) (V:Nat→Value→World→Prop) (hVm:∀ j u W W',Bel W W'→V j u W→V j u W') (K:Value→World→Prop) (n fuel kL kA:Nat)
  (hm:P.follows .mixedOrders=true) (hasc:asc .any l.toArray=true) (hap:ek l=true) (eH:eN l a0.tmps.size=true)
  (hclo:((List.range n).all fun i=>(clo l fuel [n]).contains i)=true) (hlen:l.length=n+2) (km:(l.all fun o=>o.dst.isSome)=true)
  (oL oA:Oper) (hL:l[n]? =some oL) (hLd:oL.dst=some kL) (hA:l[n+1]? =some oA) (hAd:oA.dst=some kA) (hAo:oA.op=.assign (.tmp kL)) (hAw:waits l (n+1) n=true)
  (ij:∀ (i:Nat) (o:Oper),l[i]? =some o→i<n→∀ (a:Act) (W:World),Bel v W→(∀ k,(∀ (j:Nat) (o':Oper),l[j]? =some o'→o'.dst=some k→n≤j)→a.eval (.tmp k)=a0.eval (.tmp k))→
   (∀ (j:Nat) (o':Oper) (k:Nat),l[j]? =some o'→o'.dst=some k→(∃ e∈o.after,e.on=j∧Region.binds .any e=true)→j<n→V j (a.eval (.tmp k)) W)→
   ∃ u W',(execOp a.eval o).run P W=.ok (.value u) W'∧Bel W W'∧V i u W')
  (hfin:∀ (a:Act) (W:World),Bel v W→(∀ k,(∀ (j:Nat) (o':Oper),l[j]? =some o'→o'.dst=some k→n≤j)→a.eval (.tmp k)=a0.eval (.tmp k))→
   (∀ (j:Nat) (o':Oper) (k:Nat),l[j]? =some o'→o'.dst=some k→(∃ e∈oL.after,e.on=j∧Region.binds .any e=true)→j<n→V j (a.eval (.tmp k)) W)→
   ∃ u W',(execOp a.eval oL).run P W=.ok (.value u) W'∧K u W')
  (hend:∀ (vs:Nat→Value) (W:World),K (vs kL) W→vs kA=vs kL→Q .normal (aC l a0 vs) W):
  (Code.region id l.toArray true).wp P Q a0 w:=by
 have fk:∀ {i:Nat} {o:Oper},l[i]? =some o→o.dst.isSome=true:=fun h=>by
  rw[Xu]at km;exact km _ (Xx h)
 refine lA (fun _ _=>True) (fun up vals W=>(up n=false→up (n+1)=false∧Bel v W∧∀ j,j<n→up j=true→V j (vals j) W)∧(up n=true→K (vals n) W)∧(up (n+1)=true→vals (n+1)=vals n)) hm hasc hap eH ?_ ?_ ?_
 ·intro vals;exact⟨fun _=>⟨rfl,XF hv,fun _ _ h=>(by cases h)⟩,fun h=>(by cases h),fun h=>(by cases h)⟩
 ·intro up vals i o ho hi fT a W hk hd hT;have bA:up n=true→∀ j,j<n→up j=true:=fun hn j hj=>by
   rw[Xu]at hclo;have:=hclo j (XV.2 hj);rw[YI]at this;exact gV fT fuel [n] (by simpa using hn) j this
  have uL:i<n+2:=by rw[← hlen];exact(Xn.1 ho).1
  by_cases h1:i<n
  ·have hn:up n=false:=by
    cases e:up n
    ·rfl
    ·rw[bA e i h1]at hi;cases hi
   obtain⟨il,hB,hV⟩:=hT.1 hn;obtain⟨u,W',hr,hb,hu⟩:=ij i o ho h1 a W hB (fun k qp=>hk k fun j o' hj hj'=>by
     have:=qp j o' hj hj';have wH:j<n+2:=by rw[← hlen];exact(Xn.1 hj).1
     by_cases e:j=n
     ·rw[e];exact hn
     ·have:j=n+1:=by omega
      rw[this];exact il)
    (fun j o' k hj iP gQ lR=>by
     obtain⟨q1,q2,_⟩:=hd j o' k hj iP gQ;rw[q2];exact hV j lR q1)
   refine No ⟨u,W',hr,fk ho,trivial,⟨fun _=>⟨?_,ae hB hb,fun j hj sN=> ?_⟩,fun h=> ?_,fun h=> ?_⟩⟩
   ·simp[il];omega
   ·by_cases e:j=i
    ·subst e;dsimp only;rw[if_pos rfl];exact hu
    ·dsimp only;rw[if_neg e]
     have:up j=true:=by simpa [e]using sN
     exact hVm _ _ _ _ hb (hV j hj this)
   ·have:up n=true:=by
     have:n≠i:=by omega
     simpa [this]using h
    rw[hn]at this;cases this
   ·have:up (n+1)=true:=by
     have:n+1≠i:=by omega
     simpa [this]using h
    rw[il]at this;cases this
  ·by_cases h2:i=n
   ·subst h2;obtain⟨il,hB,hV⟩:=hT.1 hi;obtain rfl:o=oL:=Option.some.inj (ho.symm.trans hL);obtain⟨u,W',hr,hK⟩:=hfin a W hB (fun k qp=>hk k fun j o' hj hj'=>by
      have:=qp j o' hj hj';have wH:j<i+2:=by rw[← hlen];exact(Xn.1 hj).1
      by_cases e:j=i
      ·rw[e];exact hi
      ·have:j=i+1:=by omega
       rw[this];exact il)
     (fun j o' k hj iP gQ lR=>by
      obtain⟨q1,q2,_⟩:=hd j o' k hj iP gQ;rw[q2];exact hV j lR q1)
    refine No ⟨u,W',hr,fk ho,trivial,⟨fun h=>by simp at h,fun _=>by dsimp only;rw[if_pos rfl];exact hK,fun h=> ?_⟩⟩;have:up (i+1)=true:=by simpa using h
    rw[il]at this;cases this
   ·have h3:i=n+1:=by omega
    subst h3;obtain rfl:o=oA:=Option.some.inj (ho.symm.trans hA);obtain⟨q1,q2,_⟩:=hd n oL kL hL hLd (by obtain⟨e,he,h4,h5⟩:=bj hAw hA;exact⟨e,he,h4,h5⟩);refine No ⟨vals n,W, ?_,fk ho,trivial,⟨fun h=> ?_,fun h=> ?_,fun _=> ?_⟩⟩
    ·rw[← q2];simp[execOp,hAo]
    ·dsimp only at h;rw[q1]at h;simp at h
    ·have:n≠n+1:=by omega
     dsimp only;rw[if_neg this];exact hT.2.1 q1
    ·have:n≠n+1:=by omega
     dsimp only;rw[if_pos rfl,if_neg this]
 ·intro up vals vs W sN bn hT;have h1:=bn n oL kL hL hLd;have h2:=bn (n+1) oA kA hA hAd;have u1:=sN n (by omega);have u2:=sN (n+1) (by omega);refine hend vs W ?_ ?_
  ·rw[h1.1];exact hT.2.1 u1
  ·rw[h1.1,h2.1];exact hT.2.2 u2
end RY
end Go.Proofs.YtgiglpnaekbegaaGreatDoor
