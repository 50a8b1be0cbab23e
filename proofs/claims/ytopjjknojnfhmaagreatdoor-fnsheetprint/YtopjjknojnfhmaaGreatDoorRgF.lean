import Derived.Deep.MidRow
import Derived.Test.YtopjjknojnfhmaaGreatDoorRegT
namespace Go.Proofs.YtopjjknojnfhmaaGreatDoor
open Go.RowKit Go.Deep
theorem ar {P:Program} {op:Oper} {a:Act} {W:World} (ty:TypeId) (x:Operand) (ho:op.op=.load ty x) (b o:Nat) (hx:a.eval x=.pointer (some ⟨b,o,none⟩)) (cs:List Value) (d:TypeDesc) (hc:World.rangeAt W b o cs)
  (hu:P.underlying ty=some d) (hd:d.isRow=true) (hi:(P.info? ty).map (·.size)=some cs.length):(execOp a.eval op).run P W=.ok (.value (.agg cs.toArray)) W:=by
 unfold execOp;simp only[ho,hx,Instr.loadAt,Instr.sureAddr,Sem.run_bind,Sem.run_pure,Result.andThen_ok,run_loadVar_mid W b o ty cs d hc hu hd hi]
namespace RY
def waits (l:List Oper) (i j:Nat):Bool:=match l[i]? with
 |some o=>o.after.any fun e=>e.on==j&&Region.binds .any e
 |none=>false
theorem aU {l:List Oper} {i j:Nat} {o:Oper} (h:waits l i j=true) (ho:l[i]? =some o):∃ e∈o.after,e.on=j∧Region.binds .any e=true:=by
 unfold waits at h;rw[ho]at h;obtain⟨m,hm,hq⟩:=Array.any_eq_true.1 h;simp only[Bool.and_eq_true,beq_iff_eq]at hq;exact⟨_,Array.getElem_mem hm,hq.1,hq.2⟩
end RY
namespace RY
theorem j4 {P:Program} {id:Nat} {Q:Exit→Act→World→Prop} {a0:Act} {w:World} {l:List Oper} (V:Nat→Value→Prop) (T:(Nat→Bool)→(Nat→Value)→World→Prop) (hm:P.follows .mixedOrders=true)
  (hasc:asc .any l.toArray=true) (hap:di l=true) (dr:dK l a0.tmps.size=true) (h0:∀ vals,T (fun _=>false) vals w.drew)
  (iH:∀ (up:Nat→Bool) (vals:Nat→Value) (i:Nat) (o:Oper),l[i]? =some o→up i=false→(∀ (j:Nat) (o':Oper) (e:_),l[j]? =some o'→e∈o'.after→Region.binds .any e=true→up j=true→up e.on=true)→
   ∀ (a:Act) (W:World),(∀ k,(∀ (j:Nat) (o':Oper),l[j]? =some o'→o'.dst=some k→up j=false)→a.eval (.tmp k)=a0.eval (.tmp k))→
   (∀ (j:Nat) (o':Oper) (k:Nat),l[j]? =some o'→o'.dst=some k→(∃ e∈o.after,e.on=j∧Region.binds .any e=true)→up j=true∧a.eval (.tmp k)=vals j∧V j (vals j))→T up vals W→
   (∃ u W',(execOp a.eval o).run P W=.ok (.value u) W'∧o.dst.isSome=true∧V i u∧T (fun j=>(j==i)||up j) (fun j=>if j=i then u else vals j) W')∨
   (∃ W',(execOp a.eval o).run P W=.ok .skip W'∧o.dst=none∧T (fun j=>(j==i)||up j) vals W')∨
   (∃ f args,(execOp a.eval o).run P W=.ok (.enter f args) W∧o.dst.isSome=true∧Calls P f args W fun e W'=>∃ u,e=.returned u∧V i u∧T (fun j=>(j==i)||up j) (fun j=>if j=i then u else vals j) W'))
  (dt:∀ (up:Nat→Bool) (vals vs:Nat→Value) (W:World),(∀ i,i<l.length→up i=true)→(∀ (i:Nat) (o:Oper) (k:Nat),l[i]? =some o→o.dst=some k→vs k=vals i∧V i (vals i))→T up vals W→Q .normal (aC l a0 vs) W):
  (Code.region id l.toArray true).wp P Q a0 w:=by
 refine wp_region_any hm ?_;refine fZ (fun L a W=>kK l a0 (fun _ _=>True) (fun j u _=>V j u) L a W∧T (fun j=>L.getD j false) (valOf l a) W) ?_ ?_ _ _ _ _ ?_ (fs.none _ (dh _)) ?_
 ·rintro L a W i ⟨h,hT⟩ hc hi;obtain⟨eO,o,tU,bs⟩:=mem_ready.1 hi;have ho:l[i]? =some o:=by simpa using tU
  have hg:=(bO dr ho).1;rcases iH (fun j=>L.getD j false) (valOf l a) i o ho (lY eO) (fun j o' e hj he hb hu=>hc j o' e (by simpa using hj) he hb hu) a W (fun k hk=>h.old k hk)
   (fun j o' k hj hk ⟨e,he,mM,hb⟩=>by
    have hu:L.getD j false=true:=by rw[← mM];exact bs e he hb
    exact⟨hu,(cN hj hk).symm,by rw[cN hj hk];exact h.new j o' k hj hk hu⟩) hT with⟨u,W',hr,hd,hV,yy⟩|⟨W',hr,hd,yy⟩|⟨f,args,hr,hd,eN⟩
  ·refine gA tU hg hr ⟨h.step hap dr ho eO trivial (fun _ _ x=>x) (fun _=>hV), ?_⟩;obtain⟨q,hq⟩:=Option.isSome_iff_exists.1 hd;rw[jv eO,hq,iA hap ho hq (by rw[h.sz];exact(bO dr ho).2 q hq)];exact yy
  ·refine mg tU hg hr ⟨h.step hap dr ho eO trivial (fun _ _ x=>x) (fun hs=>by rw[hd]at hs;cases hs), ?_⟩;rw[jv eO,hd,pB];exact yy
  ·refine iW tU hg hr (eN.mono ?_);rintro e W' ⟨u,rfl,hV,yy⟩;refine⟨u,rfl,h.step hap dr ho eO trivial (fun _ _ x=>x) (fun _=>hV), ?_⟩;obtain⟨q,hq⟩:=Option.isSome_iff_exists.1 hd;rw[jv eO,hq,iA hap ho hq (by rw[h.sz];exact(bO dr ho).2 q hq)];exact yy
 ·rintro L a W ⟨h,hT⟩ hr;have bs:∀ i,i<l.length→L.getD i false=true:=fun i hi=>pK hr hasc (by simpa using h.len) i (by simpa using hi);have lt:∀ {i:Nat} {o:Oper},l[i]? =some o→i<l.length:=fun hi=>(List.getElem?_eq_some_iff.1 hi).1;have e:a=aC l a0 (fun k=>a.eval (.tmp k)):=by
   have hs:∀ o∈l,∀ q,o.dst=some q→q<a0.tmps.size:=fun o ho q hq=>by
    obtain⟨i,hi⟩:=List.getElem?_of_mem ho;exact(bO dr hi).2 q hq
   refine lG (by rw[dI];exact h.df) (by rw[eI];exact h.sz) fun k=> ?_;rw[dX l a0 _ k hs];by_cases hk:∃ o∈l,o.dst=some k
   ·rw[if_pos hk]
   ·rw[if_neg hk];refine h.old k fun i o hi hd=>absurd ⟨o,List.mem_of_getElem? hi,hd⟩ hk
  have:=dt (fun j=>L.getD j false) (valOf l a) (fun k=>a.eval (.tmp k)) W bs (fun i o k hi hd=>⟨(cN hi hd).symm,by rw[cN hi hd];exact h.new i o k hi hd (bs i (lt hi))⟩) hT;rw[← e]at this;exact this
 ·refine⟨⟨by simp,trivial,rfl,rfl,fun _ _=>rfl,fun i o k hi _ hl=> ?_⟩, ?_⟩
  ·rw[dh]at hl;cases hl
  ·have:(fun j=>(Array.replicate l.toArray.size false).getD j false)=fun _=>false:=by funext j;exact dh _ _
   rw[this];exact h0 _
 ·unfold left;exact Nat.le_trans List.countP_le_length (by simp)
end RY
namespace RY
def clo (l:List Oper):Nat→List Nat→List Nat
 |0,S=>S
 |f+1,S=>clo l f ((S++S.flatMap fun i=>match l[i]? with
  |some o=>(o.after.toList.filter fun e=>Region.binds .any e).map (·.on)
  |none=> []).eraseDups)
theorem gm {l:List Oper} {up:Nat→Bool} (eN:∀ (j:Nat) (o':Oper) (e:_),l[j]? =some o'→e∈o'.after→Region.binds .any e=true→up j=true→up e.on=true):∀ (f:Nat) (S:List Nat),(∀ i∈S,up i=true)→∀ i∈clo l f S,up i=true
 |0,_,h=>h
 |f+1,S,h=>by
  rw[clo];refine gm eN f _ fun i hi=> ?_;rw[List.mem_eraseDups]at hi;rcases List.mem_append.1 hi with hi|hi
  ·exact h i hi
  ·obtain⟨j,hj,hi⟩:=List.mem_flatMap.1 hi;cases ho:l[j]? with
   |none=>rw[ho]at hi;cases hi
   |some o=>
    rw[ho]at hi;obtain⟨e,he,rfl⟩:=List.mem_map.1 hi;obtain⟨he1,R5⟩:=List.mem_filter.1 he;exact eN j o e ho (by simpa using he1) R5 (h j hj)
def I0 (l:List Oper) (k n:Nat):Bool:=(List.range l.length).all fun j=>match l[j]? with
 |some o=> !(o.dst==some k)||decide (n≤j)
 |none=>true
theorem ee {l:List Oper} {k n:Nat} (h:I0 l k n=true):∀ (j:Nat) (o':Oper),l[j]? =some o'→o'.dst=some k→n≤j:=fun j o' hj hd=>by
 unfold I0 at h;rw[List.all_eq_true]at h;have:=h j (List.mem_range.2 (List.getElem?_eq_some_iff.1 hj).1);rw[hj]at this;simpa [hd]using this
theorem kF {P:Program} {id:Nat} {Q:Exit→Act→World→Prop} {a0:Act} {w:World} {l:List Oper} (v:World) (hv:Bel v w) (V:Nat→Value→World→Prop) (hVm:∀ j u W W',Bel W W'→V j u W→V j u W') (K:Value→World→Prop) (n fuel kL kA:Nat)
  (hm:P.follows .mixedOrders=true) (hasc:asc .any l.toArray=true) (hap:di l=true) (dr:dK l a0.tmps.size=true)
  (hclo:((List.range n).all fun i=>(clo l fuel [n]).contains i)=true) (hlen:l.length=n+2) (ks:(l.all fun o=>o.dst.isSome)=true)
  (oL oA:Oper) (hL:l[n]? =some oL) (hLd:oL.dst=some kL) (hA:l[n+1]? =some oA) (hAd:oA.dst=some kA) (hAo:oA.op=.assign (.tmp kL)) (hAw:waits l (n+1) n=true)
  (iH:∀ (i:Nat) (o:Oper),l[i]? =some o→i<n→∀ (a:Act) (W:World),Bel v W→(∀ k,(∀ (j:Nat) (o':Oper),l[j]? =some o'→o'.dst=some k→n≤j)→a.eval (.tmp k)=a0.eval (.tmp k))→
   (∀ (j:Nat) (o':Oper) (k:Nat),l[j]? =some o'→o'.dst=some k→(∃ e∈o.after,e.on=j∧Region.binds .any e=true)→j<n→V j (a.eval (.tmp k)) W)→
   ∃ u W',(execOp a.eval o).run P W=.ok (.value u) W'∧Bel W W'∧V i u W')
  (kS:∀ (a:Act) (W:World),Bel v W→(∀ k,(∀ (j:Nat) (o':Oper),l[j]? =some o'→o'.dst=some k→n≤j)→a.eval (.tmp k)=a0.eval (.tmp k))→
   (∀ (j:Nat) (o':Oper) (k:Nat),l[j]? =some o'→o'.dst=some k→(∃ e∈oL.after,e.on=j∧Region.binds .any e=true)→j<n→V j (a.eval (.tmp k)) W)→
   ∃ u W',(execOp a.eval oL).run P W=.ok (.value u) W'∧K u W')
  (dt:∀ (vs:Nat→Value) (W:World),K (vs kL) W→vs kA=vs kL→Q .normal (aC l a0 vs) W):
  (Code.region id l.toArray true).wp P Q a0 w:=by
 have eQ:∀ {i:Nat} {o:Oper},l[i]? =some o→o.dst.isSome=true:=fun h=>by
  rw[List.all_eq_true]at ks;exact ks _ (List.mem_of_getElem? h)
 refine j4 (fun _ _=>True) (fun up vals W=>(up n=false→up (n+1)=false∧Bel v W∧∀ j,j<n→up j=true→V j (vals j) W)∧(up n=true→K (vals n) W)∧(up (n+1)=true→vals (n+1)=vals n)) hm hasc hap dr ?_ ?_ ?_
 ·intro vals;exact⟨fun _=>⟨rfl,Below.drew hv,fun _ _ h=>(by cases h)⟩,fun h=>(by cases h),fun h=>(by cases h)⟩
 ·intro up vals i o ho hi eN a W hk hd hT;have bs:up n=true→∀ j,j<n→up j=true:=fun hn j hj=>by
   rw[List.all_eq_true]at hclo;have:=hclo j (List.mem_range.2 hj);rw[List.contains_iff_mem]at this;exact gm eN fuel [n] (by simpa using hn) j this
  have nt:i<n+2:=by rw[← hlen];exact(List.getElem?_eq_some_iff.1 ho).1
  by_cases h1:i<n
  ·have hn:up n=false:=by
    cases e:up n
    ·rfl
    ·rw[bs e i h1]at hi;cases hi
   obtain⟨jn,hB,hV⟩:=hT.1 hn;obtain⟨u,W',hr,hb,hu⟩:=iH i o ho h1 a W hB (fun k oE=>hk k fun j o' hj hj'=>by
     have:=oE j o' hj hj';have BZ:j<n+2:=by rw[← hlen];exact(List.getElem?_eq_some_iff.1 hj).1
     by_cases e:j=n
     ·rw[e];exact hn
     ·have:j=n+1:=by omega
      rw[this];exact jn)
    (fun j o' k hj jg gK lJ=>by
     obtain⟨q1,q2,_⟩:=hd j o' k hj jg gK;rw[q2];exact hV j lJ q1)
   refine Or.inl ⟨u,W',hr,eQ ho,trivial,⟨fun _=>⟨?_,ah hB hb,fun j hj qp=> ?_⟩,fun h=> ?_,fun h=> ?_⟩⟩
   ·simp[jn];omega
   ·by_cases e:j=i
    ·subst e;dsimp only;rw[if_pos rfl];exact hu
    ·dsimp only;rw[if_neg e]
     have:up j=true:=by simpa [e]using qp
     exact hVm _ _ _ _ hb (hV j hj this)
   ·have:up n=true:=by
     have:n≠i:=by omega
     simpa [this]using h
    rw[hn]at this;cases this
   ·have:up (n+1)=true:=by
     have:n+1≠i:=by omega
     simpa [this]using h
    rw[jn]at this;cases this
  ·by_cases h2:i=n
   ·subst h2;obtain⟨jn,hB,hV⟩:=hT.1 hi;obtain rfl:o=oL:=Option.some.inj (ho.symm.trans hL);obtain⟨u,W',hr,hK⟩:=kS a W hB (fun k oE=>hk k fun j o' hj hj'=>by
      have:=oE j o' hj hj';have BZ:j<i+2:=by rw[← hlen];exact(List.getElem?_eq_some_iff.1 hj).1
      by_cases e:j=i
      ·rw[e];exact hi
      ·have:j=i+1:=by omega
       rw[this];exact jn)
     (fun j o' k hj jg gK lJ=>by
      obtain⟨q1,q2,_⟩:=hd j o' k hj jg gK;rw[q2];exact hV j lJ q1)
    refine Or.inl ⟨u,W',hr,eQ ho,trivial,⟨fun h=>by simp at h,fun _=>by dsimp only;rw[if_pos rfl];exact hK,fun h=> ?_⟩⟩;have:up (i+1)=true:=by simpa using h
    rw[jn]at this;cases this
   ·have h3:i=n+1:=by omega
    subst h3;obtain rfl:o=oA:=Option.some.inj (ho.symm.trans hA);obtain⟨q1,q2,_⟩:=hd n oL kL hL hLd (by obtain⟨e,he,h4,h5⟩:=aU hAw hA;exact⟨e,he,h4,h5⟩);refine Or.inl ⟨vals n,W, ?_,eQ ho,trivial,⟨fun h=> ?_,fun h=> ?_,fun _=> ?_⟩⟩
    ·rw[← q2];simp[execOp,hAo]
    ·dsimp only at h;rw[q1]at h;simp at h
    ·have:n≠n+1:=by omega
     dsimp only;rw[if_neg this];exact hT.2.1 q1
    ·have:n≠n+1:=by omega
     dsimp only;rw[if_pos rfl,if_neg this]
 ·intro up vals vs W qp bg hT;have h1:=bg n oL kL hL hLd;have h2:=bg (n+1) oA kA hA hAd;have u1:=qp n (by omega);have u2:=qp (n+1) (by omega);refine dt vs W ?_ ?_
  ·rw[h1.1];exact hT.2.1 u1
  ·rw[h1.1,h2.1];exact hT.2.2 u2
end RY
end Go.Proofs.YtopjjknojnfhmaaGreatDoor
