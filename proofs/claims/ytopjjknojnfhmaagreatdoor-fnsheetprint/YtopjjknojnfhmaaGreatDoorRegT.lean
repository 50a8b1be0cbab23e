import Derived.Test.YtopjjknojnfhmaaGreatDoorRel
namespace Go.Proofs.YtopjjknojnfhmaaGreatDoor
open Go.RowKit Go.Deep
namespace RY
def valOf (l:List Oper) (a:Act) (j:Nat):Value:=match l[j]? with
 |some o=>(match o.dst with
  |some k=>a.eval (.tmp k)
  |none=>undef)
 |none=>undef
theorem cN {l:List Oper} {a:Act} {j k:Nat} {o:Oper} (hj:l[j]? =some o) (hd:o.dst=some k):valOf l a j=a.eval (.tmp k):=by
 unfold valOf;rw[hj];simp only[hd]
theorem iA {l:List Oper} {a:Act} {i q:Nat} {o:Oper} (hap:di l=true) (ho:l[i]? =some o) (hd:o.dst=some q) (hq:q<a.tmps.size) (u:Value):valOf l (a.put (some q) u)=fun j=>if j=i then u else valOf l a j:=by
 funext j
 by_cases e:j=i
 ·subst e;rw[if_pos rfl,cN ho hd,ld _ _ _ hq]
 ·rw[if_neg e];cases h:l[j]? with
  |none=>unfold valOf;rw[h]
  |some o'=>
   cases h':o'.dst with
   |none=>unfold valOf;rw[h];simp only[h']
   |some k=>
    rw[cN h h',cN h h',iw _ _ _ _ (fun e2=>e (apart_spec hap h ho (by rw[h',← e2]) hd))]
theorem jv {L:Array Bool} {i:Nat} (h:L.getD i true=false):(fun j=>(L.setIfInBounds i true).getD j false)=fun j=>(j==i)||L.getD j false:=by
 funext j
 by_cases e:j=i
 ·subst e;rw[pg h];simp
 ·have:(L.setIfInBounds i true).getD j false=L.getD j false:=by
   simp only[Array.getD_eq_getD_getElem?];rw[Array.getElem?_setIfInBounds_ne (fun e2=>e e2.symm)]
  rw[this];simp[e]
theorem DU {P:Program} {id:Nat} {Q:Exit→Act→World→Prop} {a0:Act} {w:World} {l:List Oper} (V:Nat→Value→Prop) (T:(Nat→Bool)→(Nat→Value)→World→Prop) (hm:P.follows .mixedOrders=true)
  (hasc:asc .any l.toArray=true) (hap:di l=true) (dr:dK l a0.tmps.size=true) (h0:∀ vals,T (fun _=>false) vals w.drew)
  (iH:∀ (up:Nat→Bool) (vals:Nat→Value) (i:Nat) (o:Oper),l[i]? =some o→up i=false→(∀ (j:Nat) (o':Oper) (e:_),l[j]? =some o'→e∈o'.after→Region.binds .any e=true→up j=true→up e.on=true)→
   ∀ (a:Act) (W:World),(∀ k,cP l k=true→a.eval (.tmp k)=a0.eval (.tmp k))→
   (∀ (j:Nat) (o':Oper) (k:Nat),l[j]? =some o'→o'.dst=some k→(∃ e∈o.after,e.on=j∧Region.binds .any e=true)→up j=true∧a.eval (.tmp k)=vals j∧V j (vals j))→T up vals W→
   (∃ u W',(execOp a.eval o).run P W=.ok (.value u) W'∧o.dst.isSome=true∧V i u∧T (fun j=>(j==i)||up j) (fun j=>if j=i then u else vals j) W')∨
   (∃ W',(execOp a.eval o).run P W=.ok .skip W'∧o.dst=none∧T (fun j=>(j==i)||up j) vals W'))
  (dt:∀ (up:Nat→Bool) (vals vs:Nat→Value) (W:World),(∀ i,i<l.length→up i=true)→(∀ (i:Nat) (o:Oper) (k:Nat),l[i]? =some o→o.dst=some k→vs k=vals i∧V i (vals i))→T up vals W→Q .normal (aC l a0 vs) W):
  (Code.region id l.toArray true).wp P Q a0 w:=by
 refine wp_region_any hm ?_;refine fZ (fun L a W=>kK l a0 (fun _ _=>True) (fun j u _=>V j u) L a W∧T (fun j=>L.getD j false) (valOf l a) W) ?_ ?_ _ _ _ _ ?_ (fs.none _ (dh _)) ?_
 ·rintro L a W i ⟨h,hT⟩ hc hi;obtain⟨eO,o,tU,bs⟩:=mem_ready.1 hi;have ho:l[i]? =some o:=by simpa using tU
  have hg:=(bO dr ho).1;rcases iH (fun j=>L.getD j false) (valOf l a) i o ho (lY eO) (fun j o' e hj he hb hu=>hc j o' e (by simpa using hj) he hb hu) a W (fun k hk=>h.bo hk)
   (fun j o' k hj hk ⟨e,he,mM,hb⟩=>by
    have hu:L.getD j false=true:=by rw[← mM];exact bs e he hb
    exact⟨hu,(cN hj hk).symm,by rw[cN hj hk];exact h.new j o' k hj hk hu⟩) hT with⟨u,W',hr,hd,hV,yy⟩|⟨W',hr,hd,yy⟩
  ·refine gA tU hg hr ⟨h.step hap dr ho eO trivial (fun _ _ x=>x) (fun _=>hV), ?_⟩;obtain⟨q,hq⟩:=Option.isSome_iff_exists.1 hd;rw[jv eO,hq,iA hap ho hq (by rw[h.sz];exact(bO dr ho).2 q hq)];exact yy
  ·refine mg tU hg hr ⟨h.step hap dr ho eO trivial (fun _ _ x=>x) (fun hs=>by rw[hd]at hs;cases hs), ?_⟩;rw[jv eO,hd,pB];exact yy
 ·rintro L a W ⟨h,hT⟩ hr;have bs:∀ i,i<l.length→L.getD i false=true:=fun i hi=>pK hr hasc (by simpa using h.len) i (by simpa using hi);have lt:∀ {i:Nat} {o:Oper},l[i]? =some o→i<l.length:=fun hi=>(List.getElem?_eq_some_iff.1 hi).1;have e:a=aC l a0 (fun k=>a.eval (.tmp k)):=by
   have hs:∀ o∈l,∀ q,o.dst=some q→q<a0.tmps.size:=fun o ho q hq=>by
    obtain⟨i,hi⟩:=List.getElem?_of_mem ho;exact(bO dr hi).2 q hq
   refine lG (by rw[dI];exact h.df) (by rw[eI];exact h.sz) fun k=> ?_;rw[dX l a0 _ k hs];by_cases hk:∃ o∈l,o.dst=some k
   ·rw[if_pos hk]
   ·rw[if_neg hk];refine h.old k fun i o hi hd=>absurd ⟨o,List.mem_of_getElem? hi,hd⟩ hk
  have:=dt (fun j=>L.getD j false) (valOf l a) (fun k=>a.eval (.tmp k)) W bs (fun i o k hi hd=>⟨(cN hi hd).symm,by rw[cN hi hd];exact h.new i o k hi hd (bs i (lt hi))⟩) hT;rw[← e]at this;exact this
 ·refine⟨⟨by simp,trivial,rfl,rfl,fun _ _=>rfl,fun i o k hi _ hl=> ?_⟩, ?_⟩
  ·rw[dh]at hl;cases hl
  ·have:(fun j=>(Array.replicate l.toArray.size false).getD j false)=fun _=>false:=by funext j;exact dh _ _
   rw[this];exact h0 _
 ·unfold left;exact Nat.le_trans List.countP_le_length (by simp)
end RY
end Go.Proofs.YtopjjknojnfhmaaGreatDoor
