import Derived.Test.YtgiglpnaekbegaaGreatDoorRel
namespace Go.Proofs.YtgiglpnaekbegaaGreatDoor
set_option maxRecDepth 8000
set_option maxHeartbeats 40000000
open Go.RowKit Go.Deep
namespace RY
def valOf (l:List Oper) (a:Act) (j:Nat):Value:=match l[j]? with
 |some o=>(match o.dst with
  |some k=>a.eval (.tmp k)
  |none=>undef)
 |none=>undef
theorem dI {l:List Oper} {a:Act} {j k:Nat} {o:Oper} (hj:l[j]? =some o) (hd:o.dst=some k):valOf l a j=a.eval (.tmp k):=by
 unfold valOf;rw[hj];simp only[hd]
theorem jz {l:List Oper} {a:Act} {i q:Nat} {o:Oper} (hap:ek l=true) (ho:l[i]? =some o) (hd:o.dst=some q) (hq:q<a.tmps.size) (u:Value):valOf l (a.put (some q) u)=fun j=>if j=i then u else valOf l a j:=by
 funext j
 by_cases e:j=i
 ·subst e;rw[if_pos rfl,dI ho hd,ny _ _ _ hq]
 ·rw[if_neg e];cases h:l[j]? with
  |none=>unfold valOf;rw[h]
  |some o'=>
   cases h':o'.dst with
   |none=>unfold valOf;rw[h];simp only[h']
   |some k=>
    rw[dI h h',dI h h',jv _ _ _ _ (fun e2=>e (apart_spec hap h ho (by rw[h',← e2]) hd))]
theorem kN {L:Array Bool} {i:Nat} (h:L.getD i true=false):(fun j=>(L.setIfInBounds i true).getD j false)=fun j=>(j==i)||L.getD j false:=by
 funext j
 by_cases e:j=i
 ·subst e;rw[r8 h];simp
 ·have:(L.setIfInBounds i true).getD j false=L.getD j false:=by
   simp only[Array.getD_eq_getD_getElem?];rw[Array.getElem?_setIfInBounds_ne (fun e2=>e e2.symm)]
  rw[this];simp[e]
theorem Hl {P:Program} {id:Nat} {Q:Exit→Act→World→Prop} {a0:Act} {w:World} {l:List Oper} (V:Nat→Value→Prop) (T:(Nat→Bool)→(Nat→Value)→World→Prop) (hm:P.follows .mixedOrders=true)
  (hasc:asc .any l.toArray=true) (hap:ek l=true) (eH:eN l a0.tmps.size=true) (h0:∀ vals,T (fun _=>false) vals w.drew)
  (ij:∀ (up:Nat→Bool) (vals:Nat→Value) (i:Nat) (o:Oper),l[i]? =some o→up i=false→(∀ (j:Nat) (o':Oper) (e:_),l[j]? =some o'→e∈o'.after→Region.binds .any e=true→up j=true→up e.on=true)→
   ∀ (a:Act) (W:World),(∀ k,ew l k=true→a.eval (.tmp k)=a0.eval (.tmp k))→
   (∀ (j:Nat) (o':Oper) (k:Nat),l[j]? =some o'→o'.dst=some k→(∃ e∈o.after,e.on=j∧Region.binds .any e=true)→up j=true∧a.eval (.tmp k)=vals j∧V j (vals j))→T up vals W→
   (∃ u W',(execOp a.eval o).run P W=.ok (.value u) W'∧o.dst.isSome=true∧V i u∧T (fun j=>(j==i)||up j) (fun j=>if j=i then u else vals j) W')∨
   (∃ W',(execOp a.eval o).run P W=.ok .skip W'∧o.dst=none∧T (fun j=>(j==i)||up j) vals W'))
  (hend:∀ (up:Nat→Bool) (vals vs:Nat→Value) (W:World),(∀ i,i<l.length→up i=true)→(∀ (i:Nat) (o:Oper) (k:Nat),l[i]? =some o→o.dst=some k→vs k=vals i∧V i (vals i))→T up vals W→Q .normal (aC l a0 vs) W):
  (Code.region id l.toArray true).wp P Q a0 w:=by
 refine wp_region_any hm ?_;refine iq (fun L a W=>mz l a0 (fun _ _=>True) (fun j u _=>V j u) L a W∧T (fun j=>L.getD j false) (valOf l a) W) ?_ ?_ _ _ _ _ ?_ (gv.none _ (eh _)) ?_
 ·rintro L a W i ⟨h,hT⟩ hc hi;obtain⟨gS,o,wM,bA⟩:=mem_ready.1 hi;have ho:l[i]? =some o:=by simpa using wM
  have hg:=(cF eH ho).1;rcases ij (fun j=>L.getD j false) (valOf l a) i o ho (oI gS) (fun j o' e hj he hb hu=>hc j o' e (by simpa using hj) he hb hu) a W (fun k hk=>h.cO hk)
   (fun j o' k hj hk ⟨e,he,nT,hb⟩=>by
    have hu:L.getD j false=true:=by rw[← nT];exact bA e he hb
    exact⟨hu,(dI hj hk).symm,by rw[dI hj hk];exact h.new j o' k hj hk hu⟩) hT with⟨u,W',hr,hd,hV,AD⟩|⟨W',hr,hd,AD⟩
  ·refine j7 wM hg hr ⟨h.step hap eH ho gS trivial (fun _ _ x=>x) (fun _=>hV), ?_⟩;obtain⟨q,hq⟩:=XR.1 hd;rw[kN gS,hq,jz hap ho hq (by rw[h.sz];exact(cF eH ho).2 q hq)];exact AD
  ·refine oK wM hg hr ⟨h.step hap eH ho gS trivial (fun _ _ x=>x) (fun hs=>by rw[hd]at hs;cases hs), ?_⟩;rw[kN gS,hd,rk];exact AD
 ·rintro L a W ⟨h,hT⟩ hr;have bA:∀ i,i<l.length→L.getD i false=true:=fun i hi=>rT hr hasc (by simpa using h.len) i (by simpa using hi);have lt:∀ {i:Nat} {o:Oper},l[i]? =some o→i<l.length:=fun hi=>(Xn.1 hi).1;have e:a=aC l a0 (fun k=>a.eval (.tmp k)):=by
   have hs:∀ o∈l,∀ q,o.dst=some q→q<a0.tmps.size:=fun o ho q hq=>by
    obtain⟨i,hi⟩:=YQ ho;exact(cF eH hi).2 q hq
   refine nc (by rw[eK];exact h.df) (by rw[fP];exact h.sz) fun k=> ?_;rw[eX l a0 _ k hs];by_cases hk:∃ o∈l,o.dst=some k
   ·rw[if_pos hk]
   ·rw[if_neg hk];refine h.old k fun i o hi hd=>absurd ⟨o,Xx hi,hd⟩ hk
  have:=hend (fun j=>L.getD j false) (valOf l a) (fun k=>a.eval (.tmp k)) W bA (fun i o k hi hd=>⟨(dI hi hd).symm,by rw[dI hi hd];exact h.new i o k hi hd (bA i (lt hi))⟩) hT;rw[← e]at this;exact this
 ·refine⟨⟨by simp,trivial,rfl,rfl,fun _ _=>rfl,fun i o k hi _ hl=> ?_⟩, ?_⟩
  ·rw[eh]at hl;cases hl
  ·have:(fun j=>(Array.replicate l.toArray.size false).getD j false)=fun _=>false:=by funext j;exact eh _ _
   rw[this];exact h0 _
 ·unfold left;exact Xg Yd (by simp)
end RY
end Go.Proofs.YtgiglpnaekbegaaGreatDoor
