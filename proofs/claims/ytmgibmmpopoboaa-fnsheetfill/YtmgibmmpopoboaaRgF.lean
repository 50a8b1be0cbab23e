import Derived.Deep.MidRow
import Derived.Test.YtmgibmmpopoboaaRel
namespace Go.Proofs.Ytmgibmmpopoboaa
open Go.RowKit Go.Deep
theorem aq {P:Program} {op:Oper} {a:Act} {W:World} (ty:TypeId) (x:Operand) (ho:op.op=.load ty x) (b o:Nat) (hx:a.eval x=.pointer (some ⟨b,o,none⟩)) (cs:List Value) (d:TypeDesc) (hc:World.rangeAt W b o cs)
  (hu:P.underlying ty=some d) (hd:d.isRow=true) (hi:(P.info? ty).map (·.size)=some cs.length):(execOp a.eval op).run P W=.ok (.value (.agg cs.toArray)) W:=by
 unfold execOp;simp only[ho,hx,Instr.loadAt,Instr.sureAddr,Sem.run_bind,Sem.run_pure,Result.andThen_ok,run_loadVar_mid W b o ty cs d hc hu hd hi]
namespace RY
def waits (l:List Oper) (i j:Nat):Bool:=match l[i]? with
 |some o=>o.after.any fun e=>e.on==j&&Region.binds .any e
 |none=>false
theorem bm {l:List Oper} {i j:Nat} {o:Oper} (h:waits l i j=true) (ho:l[i]? =some o):∃ e∈o.after,e.on=j∧Region.binds .any e=true:=by
 unfold waits at h;rw[ho]at h;obtain⟨m,hm,hq⟩:=Array.any_eq_true.1 h;simp only[Bool.and_eq_true,beq_iff_eq]at hq;exact⟨_,Array.getElem_mem hm,hq.1,hq.2⟩
end RY
namespace RY
def valOf (l:List Oper) (a:Act) (j:Nat):Value:=match l[j]? with
 |some o=>(match o.dst with
  |some k=>a.eval (.tmp k)
  |none=>undef)
 |none=>undef
theorem ck {l:List Oper} {a:Act} {j k:Nat} {o:Oper} (hj:l[j]? =some o) (hd:o.dst=some k):valOf l a j=a.eval (.tmp k):=by
 unfold valOf;rw[hj];simp only[hd]
theorem fb {l:List Oper} {a:Act} {i q:Nat} {o:Oper} (hap:cZ l=true) (ho:l[i]? =some o) (hd:o.dst=some q) (hq:q<a.tmps.size) (u:Value):valOf l (a.put (some q) u)=fun j=>if j=i then u else valOf l a j:=by
 funext j
 by_cases e:j=i
 ·subst e;rw[if_pos rfl,ck ho hd,kq _ _ _ hq]
 ·rw[if_neg e];cases h:l[j]? with
  |none=>unfold valOf;rw[h]
  |some o'=>
   cases h':o'.dst with
   |none=>unfold valOf;rw[h];simp only[h']
   |some k=>
    rw[ck h h',ck h h',gX _ _ _ _ (fun e2=>e (apart_spec hap h ho (by rw[h',← e2]) hd))]
theorem fW {L:Array Bool} {i:Nat} (h:L.getD i true=false):(fun j=>(L.setIfInBounds i true).getD j false)=fun j=>(j==i)||L.getD j false:=by
 funext j
 by_cases e:j=i
 ·subst e;rw[ns h];simp
 ·have:(L.setIfInBounds i true).getD j false=L.getD j false:=by
   simp only[Array.getD_eq_getD_getElem?];rw[Array.getElem?_setIfInBounds_ne (fun e2=>e e2.symm)]
  rw[this];simp[e]
theorem AJ {P:Program} {id:Nat} {Q:Exit→Act→World→Prop} {a0:Act} {w:World} {l:List Oper} (V:Nat→Value→Prop) (T:(Nat→Bool)→(Nat→Value)→World→Prop) (hm:P.follows .mixedOrders=true)
  (hasc:asc .any l.toArray=true) (hap:cZ l=true) (dc:dr l a0.tmps.size=true) (h0:∀ vals,T (fun _=>false) vals w.drew)
  (jc:∀ (up:Nat→Bool) (vals:Nat→Value) (i:Nat) (o:Oper),l[i]? =some o→up i=false→(∀ (j:Nat) (o':Oper) (e:_),l[j]? =some o'→e∈o'.after→Region.binds .any e=true→up j=true→up e.on=true)→
   ∀ (a:Act) (W:World),(∀ k,cW l k=true→a.eval (.tmp k)=a0.eval (.tmp k))→
   (∀ (j:Nat) (o':Oper) (k:Nat),l[j]? =some o'→o'.dst=some k→(∃ e∈o.after,e.on=j∧Region.binds .any e=true)→up j=true∧a.eval (.tmp k)=vals j∧V j (vals j))→T up vals W→
   (∃ u W',(execOp a.eval o).run P W=.ok (.value u) W'∧o.dst.isSome=true∧V i u∧T (fun j=>(j==i)||up j) (fun j=>if j=i then u else vals j) W')∨
   (∃ W',(execOp a.eval o).run P W=.ok .skip W'∧o.dst=none∧T (fun j=>(j==i)||up j) vals W'))
  (hend:∀ (up:Nat→Bool) (vals vs:Nat→Value) (W:World),(∀ i,i<l.length→up i=true)→(∀ (i:Nat) (o:Oper) (k:Nat),l[i]? =some o→o.dst=some k→vs k=vals i∧V i (vals i))→T up vals W→Q .normal (aE l a0 vs) W):
  (Code.region id l.toArray true).wp P Q a0 w:=by
 refine wp_region_any hm ?_;refine eY (fun L a W=>jF l a0 (fun _ _=>True) (fun j u _=>V j u) L a W∧T (fun j=>L.getD j false) (valOf l a) W) ?_ ?_ _ _ _ _ ?_ (eI.none _ (cD _)) ?_
 ·rintro L a W i ⟨h,hT⟩ hc hi;obtain⟨gf,o,oG,bC⟩:=mem_ready.1 hi;have ho:l[i]? =some o:=by simpa using oG
  have hg:=(bF dc ho).1;rcases jc (fun j=>L.getD j false) (valOf l a) i o ho (jt gf) (fun j o' e hj he hb hu=>hc j o' e (by simpa using hj) he hb hu) a W (fun k hk=>h.aY hk)
   (fun j o' k hj hk ⟨e,he,mF,hb⟩=>by
    have hu:L.getD j false=true:=by rw[← mF];exact bC e he hb
    exact⟨hu,(ck hj hk).symm,by rw[ck hj hk];exact h.new j o' k hj hk hu⟩) hT with⟨u,W',hr,hd,hV,o4⟩|⟨W',hr,hd,o4⟩
  ·refine eW oG hg hr ⟨h.step hap dc ho gf trivial (fun _ _ x=>x) (fun _=>hV), ?_⟩;obtain⟨q,hq⟩:=Option.isSome_iff_exists.1 hd;rw[fW gf,hq,fb hap ho hq (by rw[h.sz];exact(bF dc ho).2 q hq)];exact o4
  ·refine jw oG hg hr ⟨h.step hap dc ho gf trivial (fun _ _ x=>x) (fun hs=>by rw[hd]at hs;cases hs), ?_⟩;rw[fW gf,hd,ko];exact o4
 ·rintro L a W ⟨h,hT⟩ hr;have bC:∀ i,i<l.length→L.getD i false=true:=fun i hi=>lK hr hasc (by simpa using h.len) i (by simpa using hi);have lt:∀ {i:Nat} {o:Oper},l[i]? =some o→i<l.length:=fun hi=>(List.getElem?_eq_some_iff.1 hi).1;have e:a=aE l a0 (fun k=>a.eval (.tmp k)):=by
   have hs:∀ o∈l,∀ q,o.dst=some q→q<a0.tmps.size:=fun o ho q hq=>by
    obtain⟨i,hi⟩:=List.getElem?_of_mem ho;exact(bF dc hi).2 q hq
   refine ju (by rw[da];exact h.df) (by rw[dL];exact h.sz) fun k=> ?_;rw[dp l a0 _ k hs];by_cases hk:∃ o∈l,o.dst=some k
   ·rw[if_pos hk]
   ·rw[if_neg hk];refine h.old k fun i o hi hd=>absurd ⟨o,List.mem_of_getElem? hi,hd⟩ hk
  have:=hend (fun j=>L.getD j false) (valOf l a) (fun k=>a.eval (.tmp k)) W bC (fun i o k hi hd=>⟨(ck hi hd).symm,by rw[ck hi hd];exact h.new i o k hi hd (bC i (lt hi))⟩) hT;rw[← e]at this;exact this
 ·refine⟨⟨by simp,trivial,rfl,rfl,fun _ _=>rfl,fun i o k hi _ hl=> ?_⟩, ?_⟩
  ·rw[cD]at hl;cases hl
  ·have:(fun j=>(Array.replicate l.toArray.size false).getD j false)=fun _=>false:=by funext j;exact cD _ _
   rw[this];exact h0 _
 ·unfold left;exact Nat.le_trans List.countP_le_length (by simp)
end RY
namespace RY
theorem jy {P:Program} {id:Nat} {Q:Exit→Act→World→Prop} {a0:Act} {w:World} {l:List Oper} (V:Nat→Value→Prop) (T:(Nat→Bool)→(Nat→Value)→World→Prop) (hm:P.follows .mixedOrders=true)
  (hasc:asc .any l.toArray=true) (hap:cZ l=true) (dc:dr l a0.tmps.size=true) (h0:∀ vals,T (fun _=>false) vals w.drew)
  (jc:∀ (up:Nat→Bool) (vals:Nat→Value) (i:Nat) (o:Oper),l[i]? =some o→up i=false→(∀ (j:Nat) (o':Oper) (e:_),l[j]? =some o'→e∈o'.after→Region.binds .any e=true→up j=true→up e.on=true)→
   ∀ (a:Act) (W:World),(∀ k,(∀ (j:Nat) (o':Oper),l[j]? =some o'→o'.dst=some k→up j=false)→a.eval (.tmp k)=a0.eval (.tmp k))→
   (∀ (j:Nat) (o':Oper) (k:Nat),l[j]? =some o'→o'.dst=some k→(∃ e∈o.after,e.on=j∧Region.binds .any e=true)→up j=true∧a.eval (.tmp k)=vals j∧V j (vals j))→T up vals W→
   (∃ u W',(execOp a.eval o).run P W=.ok (.value u) W'∧o.dst.isSome=true∧V i u∧T (fun j=>(j==i)||up j) (fun j=>if j=i then u else vals j) W')∨
   (∃ W',(execOp a.eval o).run P W=.ok .skip W'∧o.dst=none∧T (fun j=>(j==i)||up j) vals W')∨
   (∃ f args,(execOp a.eval o).run P W=.ok (.enter f args) W∧o.dst.isSome=true∧Calls P f args W fun e W'=>∃ u,e=.returned u∧V i u∧T (fun j=>(j==i)||up j) (fun j=>if j=i then u else vals j) W'))
  (hend:∀ (up:Nat→Bool) (vals vs:Nat→Value) (W:World),(∀ i,i<l.length→up i=true)→(∀ (i:Nat) (o:Oper) (k:Nat),l[i]? =some o→o.dst=some k→vs k=vals i∧V i (vals i))→T up vals W→Q .normal (aE l a0 vs) W):
  (Code.region id l.toArray true).wp P Q a0 w:=by
 refine wp_region_any hm ?_;refine eY (fun L a W=>jF l a0 (fun _ _=>True) (fun j u _=>V j u) L a W∧T (fun j=>L.getD j false) (valOf l a) W) ?_ ?_ _ _ _ _ ?_ (eI.none _ (cD _)) ?_
 ·rintro L a W i ⟨h,hT⟩ hc hi;obtain⟨gf,o,oG,bC⟩:=mem_ready.1 hi;have ho:l[i]? =some o:=by simpa using oG
  have hg:=(bF dc ho).1;rcases jc (fun j=>L.getD j false) (valOf l a) i o ho (jt gf) (fun j o' e hj he hb hu=>hc j o' e (by simpa using hj) he hb hu) a W (fun k hk=>h.old k hk)
   (fun j o' k hj hk ⟨e,he,mF,hb⟩=>by
    have hu:L.getD j false=true:=by rw[← mF];exact bC e he hb
    exact⟨hu,(ck hj hk).symm,by rw[ck hj hk];exact h.new j o' k hj hk hu⟩) hT with⟨u,W',hr,hd,hV,o4⟩|⟨W',hr,hd,o4⟩|⟨f,args,hr,hd,gk⟩
  ·refine eW oG hg hr ⟨h.step hap dc ho gf trivial (fun _ _ x=>x) (fun _=>hV), ?_⟩;obtain⟨q,hq⟩:=Option.isSome_iff_exists.1 hd;rw[fW gf,hq,fb hap ho hq (by rw[h.sz];exact(bF dc ho).2 q hq)];exact o4
  ·refine jw oG hg hr ⟨h.step hap dc ho gf trivial (fun _ _ x=>x) (fun hs=>by rw[hd]at hs;cases hs), ?_⟩;rw[fW gf,hd,ko];exact o4
  ·refine fU oG hg hr (gk.mono ?_);rintro e W' ⟨u,rfl,hV,o4⟩;refine⟨u,rfl,h.step hap dc ho gf trivial (fun _ _ x=>x) (fun _=>hV), ?_⟩;obtain⟨q,hq⟩:=Option.isSome_iff_exists.1 hd;rw[fW gf,hq,fb hap ho hq (by rw[h.sz];exact(bF dc ho).2 q hq)];exact o4
 ·rintro L a W ⟨h,hT⟩ hr;have bC:∀ i,i<l.length→L.getD i false=true:=fun i hi=>lK hr hasc (by simpa using h.len) i (by simpa using hi);have lt:∀ {i:Nat} {o:Oper},l[i]? =some o→i<l.length:=fun hi=>(List.getElem?_eq_some_iff.1 hi).1;have e:a=aE l a0 (fun k=>a.eval (.tmp k)):=by
   have hs:∀ o∈l,∀ q,o.dst=some q→q<a0.tmps.size:=fun o ho q hq=>by
    obtain⟨i,hi⟩:=List.getElem?_of_mem ho;exact(bF dc hi).2 q hq
   refine ju (by rw[da];exact h.df) (by rw[dL];exact h.sz) fun k=> ?_;rw[dp l a0 _ k hs];by_cases hk:∃ o∈l,o.dst=some k
   ·rw[if_pos hk]
   ·rw[if_neg hk];refine h.old k fun i o hi hd=>absurd ⟨o,List.mem_of_getElem? hi,hd⟩ hk
  have:=hend (fun j=>L.getD j false) (valOf l a) (fun k=>a.eval (.tmp k)) W bC (fun i o k hi hd=>⟨(ck hi hd).symm,by rw[ck hi hd];exact h.new i o k hi hd (bC i (lt hi))⟩) hT;rw[← e]at this;exact this
 ·refine⟨⟨by simp,trivial,rfl,rfl,fun _ _=>rfl,fun i o k hi _ hl=> ?_⟩, ?_⟩
  ·rw[cD]at hl;cases hl
  ·have:(fun j=>(Array.replicate l.toArray.size false).getD j false)=fun _=>false:=by funext j;exact cD _ _
   rw[this];exact h0 _
 ·unfold left;exact Nat.le_trans List.countP_le_length (by simp)
end RY
namespace RY
def clo (l:List Oper):Nat→List Nat→List Nat
 |0,S=>S
 |f+1,S=>clo l f ((S++S.flatMap fun i=>match l[i]? with
  |some o=>(o.after.toList.filter fun e=>Region.binds .any e).map (·.on)
  |none=> []).eraseDups)
theorem im {l:List Oper} {up:Nat→Bool} (gk:∀ (j:Nat) (o':Oper) (e:_),l[j]? =some o'→e∈o'.after→Region.binds .any e=true→up j=true→up e.on=true):∀ (f:Nat) (S:List Nat),(∀ i∈S,up i=true)→∀ i∈clo l f S,up i=true
 |0,_,h=>h
 |f+1,S,h=>by
  rw[clo];refine im gk f _ fun i hi=> ?_;rw[List.mem_eraseDups]at hi;rcases List.mem_append.1 hi with hi|hi
  ·exact h i hi
  ·obtain⟨j,hj,hi⟩:=List.mem_flatMap.1 hi;cases ho:l[j]? with
   |none=>rw[ho]at hi;cases hi
   |some o=>
    rw[ho]at hi;obtain⟨e,he,rfl⟩:=List.mem_map.1 hi;obtain⟨he1,he2⟩:=List.mem_filter.1 he;exact gk j o e ho (by simpa using he1) he2 (h j hj)
def Em (l:List Oper) (k n:Nat):Bool:=(List.range l.length).all fun j=>match l[j]? with
 |some o=> !(o.dst==some k)||decide (n≤j)
 |none=>true
theorem lF {l:List Oper} {k n:Nat} (h:Em l k n=true):∀ (j:Nat) (o':Oper),l[j]? =some o'→o'.dst=some k→n≤j:=fun j o' hj hd=>by
 unfold Em at h;rw[List.all_eq_true]at h;have:=h j (List.mem_range.2 (List.getElem?_eq_some_iff.1 hj).1);rw[hj]at this;simpa [hd]using this
theorem tX {P:Program} {id:Nat} {Q:Exit→Act→World→Prop} {a0:Act} {w:World} {l:List Oper} (v:World) (hv:Bel v w) (V:Nat→Value→World→Prop) (hVm:∀ j u W W',Bel W W'→V j u W→V j u W') (K:Value→World→Prop) (n fuel kL kA:Nat)
  (hm:P.follows .mixedOrders=true) (hasc:asc .any l.toArray=true) (hap:cZ l=true) (dc:dr l a0.tmps.size=true)
  (hclo:((List.range n).all fun i=>(clo l fuel [n]).contains i)=true) (hlen:l.length=n+2) (jO:(l.all fun o=>o.dst.isSome)=true)
  (oL oA:Oper) (hL:l[n]? =some oL) (hLd:oL.dst=some kL) (hA:l[n+1]? =some oA) (hAd:oA.dst=some kA) (hAo:oA.op=.assign (.tmp kL)) (hAw:waits l (n+1) n=true)
  (jc:∀ (i:Nat) (o:Oper),l[i]? =some o→i<n→∀ (a:Act) (W:World),Bel v W→(∀ k,(∀ (j:Nat) (o':Oper),l[j]? =some o'→o'.dst=some k→n≤j)→a.eval (.tmp k)=a0.eval (.tmp k))→
   (∀ (j:Nat) (o':Oper) (k:Nat),l[j]? =some o'→o'.dst=some k→(∃ e∈o.after,e.on=j∧Region.binds .any e=true)→j<n→V j (a.eval (.tmp k)) W)→
   ∃ u W',(execOp a.eval o).run P W=.ok (.value u) W'∧Bel W W'∧V i u W')
  (lZ:∀ (a:Act) (W:World),Bel v W→(∀ k,(∀ (j:Nat) (o':Oper),l[j]? =some o'→o'.dst=some k→n≤j)→a.eval (.tmp k)=a0.eval (.tmp k))→
   (∀ (j:Nat) (o':Oper) (k:Nat),l[j]? =some o'→o'.dst=some k→(∃ e∈oL.after,e.on=j∧Region.binds .any e=true)→j<n→V j (a.eval (.tmp k)) W)→
   ∃ u W',(execOp a.eval oL).run P W=.ok (.value u) W'∧K u W')
  (hend:∀ (vs:Nat→Value) (W:World),K (vs kL) W→vs kA=vs kL→Q .normal (aE l a0 vs) W):
  (Code.region id l.toArray true).wp P Q a0 w:=by
 have fA:∀ {i:Nat} {o:Oper},l[i]? =some o→o.dst.isSome=true:=fun h=>by
  rw[List.all_eq_true]at jO;exact jO _ (List.mem_of_getElem? h)
 refine jy (fun _ _=>True) (fun up vals W=>(up n=false→up (n+1)=false∧Bel v W∧∀ j,j<n→up j=true→V j (vals j) W)∧(up n=true→K (vals n) W)∧(up (n+1)=true→vals (n+1)=vals n)) hm hasc hap dc ?_ ?_ ?_
 ·intro vals;exact⟨fun _=>⟨rfl,Below.drew hv,fun _ _ h=>(by cases h)⟩,fun h=>(by cases h),fun h=>(by cases h)⟩
 ·intro up vals i o ho hi gk a W hk hd hT;have bC:up n=true→∀ j,j<n→up j=true:=fun hn j hj=>by
   rw[List.all_eq_true]at hclo;have:=hclo j (List.mem_range.2 hj);rw[List.contains_iff_mem]at this;exact im gk fuel [n] (by simpa using hn) j this
  have lr:i<n+2:=by rw[← hlen];exact(List.getElem?_eq_some_iff.1 ho).1
  by_cases h1:i<n
  ·have hn:up n=false:=by
    cases e:up n
    ·rfl
    ·rw[bC e i h1]at hi;cases hi
   obtain⟨tu,hB,hV⟩:=hT.1 hn;obtain⟨u,W',hr,hb,hu⟩:=jc i o ho h1 a W hB (fun k vU=>hk k fun j o' hj hj'=>by
     have:=vU j o' hj hj';have Bb:j<n+2:=by rw[← hlen];exact(List.getElem?_eq_some_iff.1 hj).1
     by_cases e:j=n
     ·rw[e];exact hn
     ·have:j=n+1:=by omega
      rw[this];exact tu)
    (fun j o' k hj jA fB mR=>by
     obtain⟨q1,q2,_⟩:=hd j o' k hj jA fB;rw[q2];exact hV j mR q1)
   refine Or.inl ⟨u,W',hr,fA ho,trivial,⟨fun _=>⟨?_,ai hB hb,fun j hj oD=> ?_⟩,fun h=> ?_,fun h=> ?_⟩⟩
   ·simp[tu];omega
   ·by_cases e:j=i
    ·subst e;dsimp only;rw[if_pos rfl];exact hu
    ·dsimp only;rw[if_neg e]
     have:up j=true:=by simpa [e]using oD
     exact hVm _ _ _ _ hb (hV j hj this)
   ·have:up n=true:=by
     have:n≠i:=by omega
     simpa [this]using h
    rw[hn]at this;cases this
   ·have:up (n+1)=true:=by
     have:n+1≠i:=by omega
     simpa [this]using h
    rw[tu]at this;cases this
  ·by_cases h2:i=n
   ·subst h2;obtain⟨tu,hB,hV⟩:=hT.1 hi;obtain rfl:o=oL:=Option.some.inj (ho.symm.trans hL);obtain⟨u,W',hr,hK⟩:=lZ a W hB (fun k vU=>hk k fun j o' hj hj'=>by
      have:=vU j o' hj hj';have Bb:j<i+2:=by rw[← hlen];exact(List.getElem?_eq_some_iff.1 hj).1
      by_cases e:j=i
      ·rw[e];exact hi
      ·have:j=i+1:=by omega
       rw[this];exact tu)
     (fun j o' k hj jA fB mR=>by
      obtain⟨q1,q2,_⟩:=hd j o' k hj jA fB;rw[q2];exact hV j mR q1)
    refine Or.inl ⟨u,W',hr,fA ho,trivial,⟨fun h=>by simp at h,fun _=>by dsimp only;rw[if_pos rfl];exact hK,fun h=> ?_⟩⟩;have:up (i+1)=true:=by simpa using h
    rw[tu]at this;cases this
   ·have h3:i=n+1:=by omega
    subst h3;obtain rfl:o=oA:=Option.some.inj (ho.symm.trans hA);obtain⟨q1,q2,_⟩:=hd n oL kL hL hLd (by obtain⟨e,he,h4,h5⟩:=bm hAw hA;exact⟨e,he,h4,h5⟩);refine Or.inl ⟨vals n,W, ?_,fA ho,trivial,⟨fun h=> ?_,fun h=> ?_,fun _=> ?_⟩⟩
    ·rw[← q2];simp[execOp,hAo]
    ·dsimp only at h;rw[q1]at h;simp at h
    ·have:n≠n+1:=by omega
     dsimp only;rw[if_neg this];exact hT.2.1 q1
    ·have:n≠n+1:=by omega
     dsimp only;rw[if_pos rfl,if_neg this]
 ·intro up vals vs W oD bd hT;have h1:=bd n oL kL hL hLd;have h2:=bd (n+1) oA kA hA hAd;have u1:=oD n (by omega);have u2:=oD (n+1) (by omega);refine hend vs W ?_ ?_
  ·rw[h1.1];exact hT.2.1 u1
  ·rw[h1.1,h2.1];exact hT.2.2 u2
end RY
end Go.Proofs.Ytmgibmmpopoboaa
