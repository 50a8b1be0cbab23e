import Derived.Test.YtopjjknojnfhmaaGreatDoorRegT
namespace Go.Proofs.YtopjjknojnfhmaaGreatDoor
open Go.RowKit Go.Deep
namespace RY
theorem j5 {P:Program} {id:Nat} {Q:Exit→Act→World→Prop} {a0:Act} {w:World} {l:List Oper} (V:Nat→Value→Prop) (T:(Nat→Bool)→(Nat→Value)→World→Prop) (hm:P.follows .mixedOrders=true)
  (hasc:asc .any l.toArray=true) (hap:di l=true) (dr:dK l a0.tmps.size=true) (h0:∀ vals,T (fun _=>false) vals w.drew)
  (iH:∀ (up:Nat→Bool) (vals:Nat→Value) (i:Nat) (o:Oper),l[i]? =some o→up i=false→(∀ (j:Nat) (o':Oper) (e:_),l[j]? =some o'→e∈o'.after→Region.binds .any e=true→up j=true→up e.on=true)→
   ∀ (a:Act) (W:World),(∀ k,cP l k=true→a.eval (.tmp k)=a0.eval (.tmp k))→
   (∀ (j:Nat) (o':Oper) (k:Nat),l[j]? =some o'→o'.dst=some k→(∃ e∈o.after,e.on=j∧Region.binds .any e=true)→up j=true∧a.eval (.tmp k)=vals j∧V j (vals j))→T up vals W→
   (∃ u W',(execOp a.eval o).run P W=.ok (.value u) W'∧o.dst.isSome=true∧V i u∧T (fun j=>(j==i)||up j) (fun j=>if j=i then u else vals j) W')∨
   (∃ W',(execOp a.eval o).run P W=.ok .skip W'∧o.dst=none∧T (fun j=>(j==i)||up j) vals W')∨
   (∃ f args,(execOp a.eval o).run P W=.ok (.enter f args) W∧o.dst.isSome=true∧Calls P f args W fun e W'=>∃ u,e=.returned u∧V i u∧T (fun j=>(j==i)||up j) (fun j=>if j=i then u else vals j) W'))
  (dt:∀ (up:Nat→Bool) (vals vs:Nat→Value) (W:World),(∀ i,i<l.length→up i=true)→(∀ (i:Nat) (o:Oper) (k:Nat),l[i]? =some o→o.dst=some k→vs k=vals i∧V i (vals i))→T up vals W→Q .normal (aC l a0 vs) W):
  (Code.region id l.toArray true).wp P Q a0 w:=by
 refine wp_region_any hm ?_;refine fZ (fun L a W=>kK l a0 (fun _ _=>True) (fun j u _=>V j u) L a W∧T (fun j=>L.getD j false) (valOf l a) W) ?_ ?_ _ _ _ _ ?_ (fs.none _ (dh _)) ?_
 ·rintro L a W i ⟨h,hT⟩ hc hi;obtain⟨eO,o,tU,bs⟩:=mem_ready.1 hi;have ho:l[i]? =some o:=by simpa using tU
  have hg:=(bO dr ho).1;rcases iH (fun j=>L.getD j false) (valOf l a) i o ho (lY eO) (fun j o' e hj he hb hu=>hc j o' e (by simpa using hj) he hb hu) a W (fun k hk=>h.bo hk)
   (fun j o' k hj hk ⟨e,he,mM,hb⟩=>by
    have hu:L.getD j false=true:=by rw[← mM];exact bs e he hb
    exact⟨hu,(cN hj hk).symm,by rw[cN hj hk];exact h.new j o' k hj hk hu⟩) hT with⟨u,W',hr,hd,hV,yy⟩|⟨W',hr,hd,yy⟩|⟨f,args,hr,hd,eN⟩
  ·refine gA tU hg hr ⟨h.step hap dr ho eO trivial (fun _ _ x=>x) (fun _=>hV), ?_⟩;obtain⟨q,hq⟩:=Option.isSome_iff_exists.1 hd;rw[jv eO,hq,iA hap ho hq (by rw[h.sz];exact(bO dr ho).2 q hq)];exact yy
  ·refine mg tU hg hr ⟨h.step hap dr ho eO trivial (fun _ _ x=>x) (fun hs=>by rw[hd]at hs;cases hs), ?_⟩;rw[jv eO,hd,pB];exact yy
  ·refine iW tU hg hr (eN.mono ?_);rintro e W' ⟨u,rfl,hV,yy⟩;refine⟨u,rfl,h.step hap dr ho eO trivial (fun _ _ x=>x) (fun _=>hV), ?_⟩;obtain⟨q,hq⟩:=Option.isSome_iff_exists.1 hd;rw[jv eO,hq,iA hap ho hq (by rw[h.sz];exact(bO dr ho).2 q hq)];exact yy
 ·rintro L a W ⟨h,hT⟩ hr;have bs:∀ i,i<l.length→L.getD i false=true:=fun i hi=>pK hr hasc (by simpa using h.len) i (by simpa using hi);have lt:∀ {i:Nat} {o:Oper},l[i]? =some o→i<l.length:=fun hi=>(List.getElem?_eq_some_iff.1 hi).1;have e:a=aC l a0 (fun k=>a.eval (.tmp k)):=by
   have hs:∀ o∈l,∀ q,o.dst=some q→q<a0.tmps.size:=fun o ho q hq=>by
    obtain⟨i,hi⟩:=List.getElem?_of_mem ho;exact(bO dr hi).2 q hq
   refine lG (by rw[dI];exact h.df) (by rw[eI];exact h.sz) fun k=> ?_;rw[dX l a0 _ k hs];by_cases hk:∃ o∈l,o.dst=some k
   ·rw[if_pos hk]
   ·rw[if_neg hk];refine h.old k fun i o hi hd=>absurd ⟨o,List.mem_of_getElem? hi,hd⟩ hk
  have:=dt (fun j=>L.getD j false) (valOf l a) (fun k=>a.eval (.tmp k)) W bs (fun i o k hi hd=>⟨(cN hi hd).symm,by rw[cN hi hd];exact h.new i o k hi hd (bs i (lt hi))⟩) hT;rw[← e]at this;exact this
 ·refine⟨⟨by simp,trivial,rfl,rfl,fun _ _=>rfl,fun i o k hi _ hl=> ?_⟩, ?_⟩
  ·rw[dh]at hl;cases hl
  ·have:(fun j=>(Array.replicate l.toArray.size false).getD j false)=fun _=>false:=by funext j;exact dh _ _
   rw[this];exact h0 _
 ·unfold left;exact Nat.le_trans List.countP_le_length (by simp)
end RY
end Go.Proofs.YtopjjknojnfhmaaGreatDoor
