import Derived.Test.YtbiokpmdghmgcaaGreatInv
namespace Go.Proofs.YtbiokpmdghmgcaaGreat
open Go.RowKit Go.Deep
def pT (l:List Oper) (k:Nat):Bool:=l.all fun o=>o.dst !=some k
def j3 (l:List Oper):Bool:=(List.range l.length).all fun i=>(List.range l.length).all fun j=>i==j||match l[i]?,l[j]? with
 |some o,some o'=>o.dst==none||o.dst !=o'.dst
 |_,_=>true
def mn (l:List Oper) (n:Nat):Bool:=l.all fun o=>o.guard.isNone&&match o.dst with
 |some k=>decide (k<n)
 |none=>true
theorem apart_spec {l:List Oper} (h:j3 l=true) {i j k:Nat} {o o':Oper} (hi:l[i]? =some o) (hj:l[j]? =some o') (h1:o.dst=some k) (h2:o'.dst=some k):i=j:=by
 unfold j3 at h;rw[List.all_eq_true]at h;have Bj:i<l.length:=(List.getElem?_eq_some_iff.1 hi).1;have pa:j<l.length:=(List.getElem?_eq_some_iff.1 hj).1;have:=h i (List.mem_range.2 Bj);rw[List.all_eq_true]at this;have:=this j (List.mem_range.2 pa);rw[hi,hj]at this;simp only[h1,h2,Bool.or_eq_true,beq_iff_eq]at this;rcases this with e|e
 ·exact e
 ·simp at e
theorem js {l:List Oper} {n:Nat} (h:mn l n=true) {i:Nat} {o:Oper} (hi:l[i]? =some o):o.guard=none∧∀ k,o.dst=some k→k<n:=by
 unfold mn at h;rw[List.all_eq_true]at h;have:=h o (List.mem_of_getElem? hi);rw[Bool.and_eq_true]at this;refine⟨by simpa using this.1,fun k hk=> ?_⟩;rw[hk]at this;simpa using this.2
theorem ux {l:List Oper} {k:Nat} (h:pT l k=true) {i:Nat} {o:Oper} (hi:l[i]? =some o):o.dst≠some k:=by
 unfold pT at h;rw[List.all_eq_true]at h;simpa using h o (List.mem_of_getElem? hi)
structure jm (l:List Oper) (a0:Act) (C:Array Bool→World→Prop) (V:Nat→Value→World→Prop) (L:Array Bool) (a:Act) (W:World):Prop where
 len:L.size=l.length
 cw:C L W
 df:a.defers=a0.defers
 sz:a.tmps.size=a0.tmps.size
 old:∀ k,(∀ (i:Nat) (o:Oper),l[i]? =some o→o.dst=some k→L.getD i false=false)→a.eval (.tmp k)=a0.eval (.tmp k)
 new:∀ (i:Nat) (o:Oper) (k:Nat),l[i]? =some o→o.dst=some k→L.getD i false=true→V i (a.eval (.tmp k)) W
section
variable {l:List Oper} {a0:Act} {C:Array Bool→World→Prop} {V:Nat→Value→World→Prop} {L:Array Bool} {a:Act} {W:World}
theorem jm.lM (h:jm l a0 C V L a W) {k:Nat} (hk:pT l k=true):a.eval (.tmp k)=a0.eval (.tmp k):=
 h.old k fun _ _ hi hd=>absurd hd (ux hk hi)
theorem jm.step (h:jm l a0 C V L a W) (hap:j3 l=true) (eI:mn l a0.tmps.size=true) {i:Nat} {o:Oper} {u:Value} {W':World} (ho:l[i]? =some o) (hi:L.getD i true=false) (hC:C (L.setIfInBounds i true) W') (hm:∀ j v,V j v W→V j v W') (hV:o.dst.isSome=true→V i u W'):
  jm l a0 C V (L.setIfInBounds i true) (a.put o.dst u) W':=by
 cases hd:o.dst with
 |none=>
  refine⟨by simp[h.len],hC,h.df,h.sz,fun k hk=>h.old k fun j o' hj lq=> ?_,fun j o' k hj lq hl=> ?_⟩
  ·have:=hk j o' hj lq;cases e:L.getD j false
   ·rfl
   ·rw[et e]at this;cases this
  ·rcases ag hl with rfl|hl
   ·rw[ho]at hj;injection hj with hj;subst hj;rw[hd]at lq;cases lq
   ·exact hm _ _ (h.new j o' k hj lq hl)
 |some q=>
  have hq:q<a.tmps.size:=by rw[h.sz];exact(js eI ho).2 q hd
  refine⟨by simp[h.len],hC,h.df,by rw[bR];exact h.sz,fun k hk=> ?_,fun j o' k hj lq hl=> ?_⟩
  ·have fa:q≠k:=by
    intro e;subst e;have:=hk i o ho hd;rw[jl hi]at this;cases this
   rw[ah _ _ _ _ fa];refine h.old k fun j o' hj lq=> ?_;have:=hk j o' hj lq;cases e:L.getD j false
   ·rfl
   ·rw[et e]at this;cases this
  ·by_cases e:q=k
   ·subst e;obtain rfl:=apart_spec hap ho hj hd lq;rw[b8 _ _ _ hq];exact hV (by rw[hd];rfl)
   ·rw[ah _ _ _ _ e];rcases ag hl with rfl|hl
    ·rw[ho]at hj;injection hj with hj;subst hj;rw[hd]at lq;injection lq with lq;exact absurd lq e
    ·exact hm _ _ (h.new j o' k hj lq hl)
def el:List Oper→Act→(Nat→Value)→Act
 |[],a,_=>a
 |o::l,a,vs=>el l (match o.dst with|some k=>a.put (some k) (vs k)|none=>a) vs
theorem ka:∀ (l:List Oper) (a:Act) (vs:Nat→Value),(el l a vs).tmps.size=a.tmps.size
 |[],_,_=>rfl
 |o::l,a,vs=>by
  rw[el,ka l];cases o.dst with
  |none=>rfl
  |some k=>exact bR _ _ _
theorem ja:∀ (l:List Oper) (a:Act) (vs:Nat→Value),(el l a vs).defers=a.defers
 |[],_,_=>rfl
 |o::l,a,vs=>by
  rw[el,ja l];cases o.dst with
  |none=>rfl
  |some k=>rfl
theorem iN:∀ (l:List Oper) (a:Act) (vs:Nat→Value) (k:Nat),(∀ o∈l,∀ q,o.dst=some q→q<a.tmps.size)→(el l a vs).eval (.tmp k)=if (∃ o∈l,o.dst=some k) then vs k else a.eval (.tmp k)
 |[],_,_,_,_=>by simp[el]
 |o::l,a,vs,k,hs=>by
  rw[el];cases hd:o.dst with
  |none=>
   rw[iN l a vs k (fun o' Ic=>hs o' (List.mem_cons_of_mem _ Ic))];simp[hd]
  |some q=>
   have hq:=hs o (List.mem_cons_self ..) q hd;rw[iN l _ vs k (fun o' Ic q' hq'=>by rw[bR];exact hs o' (List.mem_cons_of_mem _ Ic) q' hq')];by_cases e:q=k
   ·subst e;rw[b8 _ _ _ hq];simp[hd]
   ·rw[ah _ _ _ _ e];simp[hd,e]
theorem vn {a b:Act} (hd:a.defers=b.defers) (hs:a.tmps.size=b.tmps.size) (h:∀ k,a.eval (.tmp k)=b.eval (.tmp k)):a=b:=by
 obtain⟨t,d⟩:=a;obtain⟨t',d'⟩:=b;simp only at hd hs;subst hd;congr 1;apply Array.ext hs;intro i h1 h2;have:=h i;simpa [Act.eval,h1,h2]using this
end
theorem oe {P:Program} {id:Nat} {Q:Exit→Act→World→Prop} {a0:Act} {w:World} {l:List Oper} (C:Array Bool→World→Prop) (V:Nat→Value→World→Prop) (hm:P.follows .mixedOrders=true)
  (hasc:asc .any l.toArray=true) (eI:mn l a0.tmps.size=true) (hC0:C (Array.replicate l.length false) w.drew)
  (CH:∀ (L:Array Bool) (a:Act) (W:World) (i:Nat) (o:Oper),jm l a0 C V L a W→fq .any l.toArray L→l[i]? =some o→L.getD i true=false→(∀ e∈o.after,Region.binds .any e=true→L.getD e.on false=true)→
   wpOp P l.toArray Q i (fun a' W'=>jm l a0 C V (L.setIfInBounds i true) a' W') a W)
  (hend:∀ (L:Array Bool) (W:World) (vs:Nat→Value),(∀ i,i<l.length→L.getD i false=true)→C L W→(∀ (i:Nat) (o:Oper) (k:Nat),l[i]? =some o→o.dst=some k→V i (vs k) W)→Q .normal (el l a0 vs) W):
  (Code.region id l.toArray true).wp P Q a0 w:=by
 refine wp_region_any hm ?_;refine ma (jm l a0 C V) ?_ ?_ _ _ _ _ ?_ (fq.none _ (ji _)) ?_
 ·intro L a W i h hc hi;obtain⟨A6,o,ho,av⟩:=mem_ready.1 hi;exact CH L a W i o h hc (by simpa using ho) A6 av
 ·intro L a W h hr;have av:∀ i,i<l.length→L.getD i false=true:=fun i hi=>uo hr hasc (by simpa using h.len) i (by simpa using hi);have e:a=el l a0 (fun k=>a.eval (.tmp k)):=by
   have hs:∀ o∈l,∀ q,o.dst=some q→q<a0.tmps.size:=fun o ho q hq=>by
    obtain⟨i,hi⟩:=List.getElem?_of_mem ho;exact(js eI hi).2 q hq
   refine vn (by rw[ja];exact h.df) (by rw[ka];exact h.sz) fun k=> ?_;rw[iN l a0 _ k hs];by_cases hk:∃ o∈l,o.dst=some k
   ·rw[if_pos hk]
   ·rw[if_neg hk];refine h.old k fun i o hi hd=>absurd ⟨o,List.mem_of_getElem? hi,hd⟩ hk
  have:=hend L W (fun k=>a.eval (.tmp k)) av h.cw (fun i o k hi hd=>h.new i o k hi hd (av i (List.getElem?_eq_some_iff.1 hi).1));rw[← e]at this;exact this
 ·refine⟨by simp, ?_,rfl,rfl,fun _ _=>rfl,fun i o k hi _ hl=> ?_⟩
  ·simpa using hC0
  ·rw[ji]at hl;cases hl
 ·unfold left;exact Nat.le_trans List.countP_le_length (by simp)
def OpR (P:Program) (V:Nat→Value→World→Prop) (i:Nat) (o:Oper) (a:Act) (W:World):Prop:=
 (∃ u W',(execOp a.eval o).run P W=.ok (.value u) W'∧Bel W W'∧V i u W')∨
 (∃ f args,(execOp a.eval o).run P W=.ok (.enter f args) W∧Calls P f args W fun e W'=>∃ u,e=.returned u∧Bel W W'∧V i u W')
theorem iT {P:Program} {id:Nat} {Q:Exit→Act→World→Prop} {a0:Act} {w:World} {l:List Oper} (v:World) (hv:Bel v w) (V:Nat→Value→World→Prop) (hVm:∀ j u W W',Bel W W'→V j u W→V j u W') (hm:P.follows .mixedOrders=true)
  (hasc:asc .any l.toArray=true) (hap:j3 l=true) (eI:mn l a0.tmps.size=true)
  (CH:∀ (i:Nat) (o:Oper),l[i]? =some o→∀ (a:Act) (W:World),Bel v W→(∀ k,pT l k=true→a.eval (.tmp k)=a0.eval (.tmp k))→
   (∀ (j:Nat) (o':Oper) (k:Nat),l[j]? =some o'→o'.dst=some k→(∃ e∈o.after,e.on=j∧Region.binds .any e=true)→V j (a.eval (.tmp k)) W)→OpR P V i o a W)
  (hend:∀ (W:World) (vs:Nat→Value),Bel v W→(∀ (i:Nat) (o:Oper) (k:Nat),l[i]? =some o→o.dst=some k→V i (vs k) W)→Q .normal (el l a0 vs) W):
  (Code.region id l.toArray true).wp P Q a0 w:=by
 refine oe (fun _ W=>Bel v W) V hm hasc eI (Below.drew hv) ?_ (fun L W vs _ hC hV=>hend W vs hC hV);intro L a W i o h _ ho hi av;have hg:=(js eI ho).1;rcases CH i o ho a W h.cw (fun k hk=>h.lM hk) (fun j o' k hj hk ⟨e,he,KY,hb⟩=>h.new j o' k hj hk (by rw[← KY];exact av e he hb)) with⟨u,W',hr,hb,hV⟩|⟨f,args,hr,hk⟩
 ·exact bI (by simpa using ho) hg hr (h.step hap eI ho hi (aa h.cw hb) (fun j x hx=>hVm j x W W' hb hx) (fun _=>hV))
 ·refine jI (by simpa using ho) hg hr (hk.mono ?_);rintro e W' ⟨u,rfl,hb,hV⟩;exact⟨u,rfl,h.step hap eI ho hi (aa h.cw hb) (fun j x hx=>hVm j x W W' hb hx) (fun _=>hV)⟩
theorem az (a:Act) (k:Nat):a.tmps[k]?.getD undef=a.eval (.tmp k):=by simp[Act.eval]
end Go.Proofs.YtbiokpmdghmgcaaGreat
