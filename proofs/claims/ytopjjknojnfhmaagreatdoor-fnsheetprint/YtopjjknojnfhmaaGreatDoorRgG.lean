import Derived.Test.YtopjjknojnfhmaaGreatDoorRel
namespace Go.Proofs.YtopjjknojnfhmaaGreatDoor
open Go.RowKit Go.Deep
namespace RY
def yK (l:List Oper) (n:Nat):Bool:=l.all fun o=>match o.dst with
 |some k=>decide (k<n)
 |none=>true
theorem pY {l:List Oper} {n:Nat} (h:yK l n=true) {i:Nat} {o:Oper} (hi:l[i]? =some o):∀ k,o.dst=some k→k<n:=by
 unfold yK at h;rw[List.all_eq_true]at h;have:=h o (List.mem_of_getElem? hi);intro k hk;rw[hk]at this;simpa using this
theorem kK.stepG {l:List Oper} {a0:Act} {C:Array Bool→World→Prop} {V:Nat→Value→World→Prop} {L:Array Bool} {a:Act} {W:World} (h:kK l a0 C V L a W) (hap:di l=true) (dr:yK l a0.tmps.size=true) {i:Nat} {o:Oper} {u:Value} {W':World} (ho:l[i]? =some o) (hi:L.getD i true=false) (hC:C (L.setIfInBounds i true) W') (hm:∀ j v,V j v W→V j v W') (hV:o.dst.isSome=true→V i u W'):
  kK l a0 C V (L.setIfInBounds i true) (a.put o.dst u) W':=by
 cases hd:o.dst with
 |none=>
  refine⟨by simp[h.len],hC,h.df,h.sz,fun k hk=>h.old k fun j o' hj hj'=> ?_,fun j o' k hj hj' hl=> ?_⟩
  ·have:=hk j o' hj hj';cases e:L.getD j false
   ·rfl
   ·rw[dH e]at this;cases this
  ·rcases lA hl with rfl|hl
   ·rw[ho]at hj;injection hj with hj;subst hj;rw[hd]at hj';cases hj'
   ·exact hm _ _ (h.new j o' k hj hj' hl)
 |some q=>
  have hq:q<a.tmps.size:=by rw[h.sz];exact pY dr ho q hd
  refine⟨by simp[h.len],hC,h.df,by rw[kZ];exact h.sz,fun k hk=> ?_,fun j o' k hj hj' hl=> ?_⟩
  ·have du:q≠k:=by
    intro e;subst e;have:=hk i o ho hd;rw[pg hi]at this;cases this
   rw[iw _ _ _ _ du];refine h.old k fun j o' hj hj'=> ?_;have:=hk j o' hj hj';cases e:L.getD j false
   ·rfl
   ·rw[dH e]at this;cases this
  ·by_cases e:q=k
   ·subst e;obtain rfl:=apart_spec hap ho hj hd hj';rw[ld _ _ _ hq];exact hV (by rw[hd];rfl)
   ·rw[iw _ _ _ _ e];rcases lA hl with rfl|hl
    ·rw[ho]at hj;injection hj with hj;subst hj;rw[hd]at hj';injection hj' with hj';exact absurd hj' e
    ·exact hm _ _ (h.new j o' k hj hj' hl)
theorem aj {l:List Oper} {a:Act} {o oj:Oper} {j k:Nat} {b p:Bool} (hg:o.guard=some (j,p)) (hj:l[j]? =some oj) (hd:oj.dst=some k) (hv:a.eval (.tmp k)=.bool b):Region.wanted o (yielded l.toArray a.tmps)=(b==p):=by
 have ht:a.tmps[k]? =some (.bool b):=by
  have h1:a.tmps[k]?.getD undef=.bool b:=by simpa [Act.eval]using hv
  cases e:a.tmps[k]? with
  |none=>rw[e]at h1;cases h1
  |some v=>rw[e]at h1;exact congrArg some h1
 have hy:yielded l.toArray a.tmps j=some b:=by
  unfold yielded;rw[List.getElem?_toArray,hj];simp[hd,ht]
 unfold Region.wanted;rw[hg];simp only[hy];cases b<;>cases p<;>rfl
theorem cR {l:List Oper} {a:Act} {o oj:Oper} {j k:Nat} {p:Bool} (hg:o.guard=some (j,p)) (hj:l[j]? =some oj) (hd:oj.dst=some k) (hv:a.eval (.tmp k)=undef):Region.wanted o (yielded l.toArray a.tmps)=false:=by
 have hy:yielded l.toArray a.tmps j=none:=by
  unfold yielded;rw[List.getElem?_toArray,hj];have h1:a.tmps[k]?.getD undef=undef:=by simpa [Act.eval]using hv
  cases e:a.tmps[k]? with
  |none=>simp[hd,e]
  |some v=>rw[e]at h1;simp only[Option.getD_some]at h1;subst h1;simp[hd,e,undef]
 unfold Region.wanted;rw[hg];simp only[hy];cases p<;>rfl
theorem au {o:Oper} {y:Nat→Option Bool} (hg:o.guard=none):Region.wanted o y=true:=by
 unfold Region.wanted;rw[hg]
theorem uN {P:Program} {ops:Array Oper} {Q:Exit→Act→World→Prop} {i:Nat} {K:Act→World→Prop} {a:Act} {w w':World} {o:Oper} {v:Value} (ho:ops[i]? =some o) (hw:Region.wanted o (yielded ops a.tmps)=true)
  (hr:(execOp a.eval o).run P w=.ok (.value v) w') (hk:K (a.put o.dst v) w'):wpOp P ops Q i K a w:=by
 simp only[wpOp,ho,hw,if_true];left;simp only[Oper.wp,hr,Oper.upon];exact hk
theorem uC {P:Program} {ops:Array Oper} {Q:Exit→Act→World→Prop} {i:Nat} {K:Act→World→Prop} {a:Act} {w:World} {o:Oper} {f:FuncId} {args:Array Value} (ho:ops[i]? =some o) (hw:Region.wanted o (yielded ops a.tmps)=true)
  (hr:(execOp a.eval o).run P w=.ok (.enter f args) w) (hk:Calls P f args w fun e w'=>∃ u,e=.returned u∧K (a.put o.dst u) w'):wpOp P ops Q i K a w:=by
 simp only[wpOp,ho,hw,if_true];left;simp only[Oper.wp,hr,Oper.upon];refine hk.mono ?_;rintro e w' ⟨u,rfl,h⟩;exact h
theorem off {V:Nat→Value→World→Prop} {l:List Oper} {o:Oper} {a:Act} {W:World} (hd:∀ (j:Nat) (o':Oper) (k:Nat),l[j]? =some o'→o'.dst=some k→(∃ e∈o.after,e.on=j∧Region.binds .any e=true)→V j (a.eval (.tmp k)) W)
  (j k:Nat) {o':Oper} {b p:Bool} {A B:Prop} (h1:l[j]? =some o':=by exact rfl) (h2:o'.dst=some k:=by exact rfl) (h3:∃ e∈o.after,e.on=j∧Region.binds .any e=true:=by decide) (hg:o.guard=some (j,p):=by exact rfl) (hv:V j (a.eval (.tmp k)) W=(a.eval (.tmp k)=.bool b):=by exact rfl) (hb:(b==p)=false:=by exact rfl) (hB:B:=by exact rfl):(Region.wanted o (yielded l.toArray a.tmps)=true∧A)∨(Region.wanted o (yielded l.toArray a.tmps)=false∧B):=
 .inr ⟨(aj hg h1 h2 (hv ▸ hd j o' k h1 h2 h3)).trans hb,hB⟩
theorem GU {V:Nat→Value→World→Prop} {l:List Oper} {o:Oper} {a:Act} {W:World} (hd:∀ (j:Nat) (o':Oper) (k:Nat),l[j]? =some o'→o'.dst=some k→(∃ e∈o.after,e.on=j∧Region.binds .any e=true)→V j (a.eval (.tmp k)) W)
  (j k:Nat) {o':Oper} {p:Bool} {A B:Prop} (h1:l[j]? =some o':=by exact rfl) (h2:o'.dst=some k:=by exact rfl) (h3:∃ e∈o.after,e.on=j∧Region.binds .any e=true:=by decide) (hg:o.guard=some (j,p):=by exact rfl) (hv:V j (a.eval (.tmp k)) W=(a.eval (.tmp k)=undef):=by exact rfl) (hB:B:=by exact rfl):(Region.wanted o (yielded l.toArray a.tmps)=true∧A)∨(Region.wanted o (yielded l.toArray a.tmps)=false∧B):=
 .inr ⟨cR hg h1 h2 (hv ▸ hd j o' k h1 h2 h3),hB⟩
theorem on {V:Nat→Value→World→Prop} {l:List Oper} {o:Oper} {a:Act} {W:World} (hd:∀ (j:Nat) (o':Oper) (k:Nat),l[j]? =some o'→o'.dst=some k→(∃ e∈o.after,e.on=j∧Region.binds .any e=true)→V j (a.eval (.tmp k)) W)
  (j k:Nat) {o':Oper} {b p:Bool} {A B:Prop} (hA:A) (h1:l[j]? =some o':=by exact rfl) (h2:o'.dst=some k:=by exact rfl) (h3:∃ e∈o.after,e.on=j∧Region.binds .any e=true:=by decide) (hg:o.guard=some (j,p):=by exact rfl) (hv:V j (a.eval (.tmp k)) W=(a.eval (.tmp k)=.bool b):=by exact rfl) (hb:(b==p)=true:=by exact rfl):(Region.wanted o (yielded l.toArray a.tmps)=true∧A)∨B:=
 .inl ⟨(aj hg h1 h2 (hv ▸ hd j o' k h1 h2 h3)).trans hb,hA⟩
theorem aH {P:Program} {id:Nat} {Q:Exit→Act→World→Prop} {a0:Act} {w:World} {l:List Oper} (v:World) (hv:Bel v w) (V:Nat→Value→World→Prop) (hVm:∀ j u W W',Bel W W'→V j u W→V j u W') (hm:P.follows .mixedOrders=true)
  (hasc:asc .any l.toArray=true) (hap:di l=true) (dr:yK l a0.tmps.size=true)
  (iH:∀ (i:Nat) (o:Oper),l[i]? =some o→∀ (a:Act) (W:World),Bel v W→(∀ k,cP l k=true→a.eval (.tmp k)=a0.eval (.tmp k))→
   (∀ (j:Nat) (o':Oper) (k:Nat),l[j]? =some o'→o'.dst=some k→(∃ e∈o.after,e.on=j∧Region.binds .any e=true)→V j (a.eval (.tmp k)) W)→
   (Region.wanted o (yielded l.toArray a.tmps)=true∧OpR P V i o a W)∨(Region.wanted o (yielded l.toArray a.tmps)=false∧V i undef W))
  (dt:∀ (W:World) (vs:Nat→Value),Bel v W→(∀ (i:Nat) (o:Oper) (k:Nat),l[i]? =some o→o.dst=some k→V i (vs k) W)→Q .normal (aC l a0 vs) W):
  (Code.region id l.toArray true).wp P Q a0 w:=by
 refine wp_region_any hm ?_;refine fZ (kK l a0 (fun _ W=>Bel v W) V) ?_ ?_ _ _ _ _ ?_ (fs.none _ (dh _)) ?_
 ·intro L a W i h hc hi;obtain⟨eO,o,tU,bs⟩:=mem_ready.1 hi;have ho:l[i]? =some o:=by simpa using tU
  rcases iH i o ho a W h.cw (fun k hk=>h.bo hk) (fun j o' k hj hk ⟨e,he,mM,hb⟩=>h.new j o' k hj hk (by rw[← mM];exact bs e he hb)) with⟨hw,hr⟩|⟨hw,hV⟩
  ·rcases hr with⟨u,W',hr,hb,hV⟩|⟨f,args,hr,hk⟩
   ·exact uN tU hw hr (h.stepG hap dr ho eO (ah h.cw hb) (fun j x hx=>hVm j x W W' hb hx) (fun _=>hV))
   ·refine uC tU hw hr (hk.mono ?_);rintro e W' ⟨u,rfl,hb,hV⟩;exact⟨u,rfl,h.stepG hap dr ho eO (ah h.cw hb) (fun j x hx=>hVm j x W W' hb hx) (fun _=>hV)⟩
  ·simp only[wpOp,tU,hw,Bool.false_eq_true,if_false];exact h.stepG hap dr ho eO h.cw (fun _ _ hx=>hx) (fun _=>hV)
 ·intro L a W h hr;have bs:∀ i,i<l.length→L.getD i false=true:=fun i hi=>pK hr hasc (by simpa using h.len) i (by simpa using hi);have e:a=aC l a0 (fun k=>a.eval (.tmp k)):=by
   have hs:∀ o∈l,∀ q,o.dst=some q→q<a0.tmps.size:=fun o ho q hq=>by
    obtain⟨i,hi⟩:=List.getElem?_of_mem ho;exact pY dr hi q hq
   refine lG (by rw[dI];exact h.df) (by rw[eI];exact h.sz) fun k=> ?_;rw[dX l a0 _ k hs];by_cases hk:∃ o∈l,o.dst=some k
   ·rw[if_pos hk]
   ·rw[if_neg hk];refine h.old k fun i o hi hd=>absurd ⟨o,List.mem_of_getElem? hi,hd⟩ hk
  have:=dt W (fun k=>a.eval (.tmp k)) h.cw (fun i o k hi hd=>h.new i o k hi hd (bs i (List.getElem?_eq_some_iff.1 hi).1));rw[← e]at this;exact this
 ·refine⟨by simp,Below.drew hv,rfl,rfl,fun _ _=>rfl,fun i o k hi _ hl=> ?_⟩;rw[dh]at hl;cases hl
 ·unfold left;exact Nat.le_trans List.countP_le_length (by simp)
end RY
end Go.Proofs.YtopjjknojnfhmaaGreatDoor
