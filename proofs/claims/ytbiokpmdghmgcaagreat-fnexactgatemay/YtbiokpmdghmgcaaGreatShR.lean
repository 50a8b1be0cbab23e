import Derived.Test.YtbiokpmdghmgcaaGreatWalkDR
namespace Go.Proofs.YtbiokpmdghmgcaaGreat
open Go.RowKit Go.Deep
def pX (l:List Oper) (k:Nat):Bool:=l.all fun o=>o.dst !=some k
def kg (l:List Oper):Bool:=(List.range l.length).all fun i=>(List.range l.length).all fun j=>i==j||match l[i]?,l[j]? with
 |some o,some o'=>o.dst==none||o.dst !=o'.dst
 |_,_=>true
def mB (l:List Oper) (n:Nat):Bool:=l.all fun o=>o.guard.isNone&&match o.dst with
 |some k=>decide (k<n)
 |none=>true
theorem apart_spec {l:List Oper} (h:kg l=true) {i j k:Nat} {o o':Oper} (hi:l[i]? =some o) (hj:l[j]? =some o') (h1:o.dst=some k) (h2:o'.dst=some k):i=j:=by
 unfold kg at h;rw[List.all_eq_true]at h;have Cd:i<l.length:=(List.getElem?_eq_some_iff.1 hi).1;have pH:j<l.length:=(List.getElem?_eq_some_iff.1 hj).1;have:=h i (List.mem_range.2 Cd);rw[List.all_eq_true]at this;have:=this j (List.mem_range.2 pH);rw[hi,hj]at this;simp only[h1,h2,Bool.or_eq_true,beq_iff_eq]at this;rcases this with e|e
 ·exact e
 ·simp at e
theorem jN {l:List Oper} {n:Nat} (h:mB l n=true) {i:Nat} {o:Oper} (hi:l[i]? =some o):o.guard=none∧∀ k,o.dst=some k→k<n:=by
 unfold mB at h;rw[List.all_eq_true]at h;have:=h o (List.mem_of_getElem? hi);rw[Bool.and_eq_true]at this;refine⟨by simpa using this.1,fun k hk=> ?_⟩;rw[hk]at this;simpa using this.2
theorem ug {l:List Oper} {k:Nat} (h:pX l k=true) {i:Nat} {o:Oper} (hi:l[i]? =some o):o.dst≠some k:=by
 unfold pX at h;rw[List.all_eq_true]at h;simpa using h o (List.mem_of_getElem? hi)
structure jA (l:List Oper) (a0:Act) (C:Array Bool→World→Prop) (V:Nat→Value→World→Prop) (L:Array Bool) (a:Act) (W:World):Prop where
 len:L.size=l.length
 cw:C L W
 df:a.defers=a0.defers
 sz:a.tmps.size=a0.tmps.size
 old:∀ k,(∀ (i:Nat) (o:Oper),l[i]? =some o→o.dst=some k→L.getD i false=false)→a.eval (.tmp k)=a0.eval (.tmp k)
 new:∀ (i:Nat) (o:Oper) (k:Nat),l[i]? =some o→o.dst=some k→L.getD i false=true→V i (a.eval (.tmp k)) W
section
variable {l:List Oper} {a0:Act} {C:Array Bool→World→Prop} {V:Nat→Value→World→Prop} {L:Array Bool} {a:Act} {W:World}
theorem jA.lS (h:jA l a0 C V L a W) {k:Nat} (hk:pX l k=true):a.eval (.tmp k)=a0.eval (.tmp k):=
 h.old k fun _ _ hi hd=>absurd hd (ug hk hi)
theorem jA.step (h:jA l a0 C V L a W) (hap:kg l=true) (eI:mB l a0.tmps.size=true) {i:Nat} {o:Oper} {u:Value} {W':World} (ho:l[i]? =some o) (hi:L.getD i true=false) (hC:C (L.setIfInBounds i true) W') (hm:∀ j v,V j v W→V j v W') (hV:o.dst.isSome=true→V i u W'):
  jA l a0 C V (L.setIfInBounds i true) (a.put o.dst u) W':=by
 cases hd:o.dst with
 |none=>
  refine⟨by simp[h.len],hC,h.df,h.sz,fun k hk=>h.old k fun j o' hj lJ=> ?_,fun j o' k hj lJ hl=> ?_⟩
  ·have:=hk j o' hj lJ;cases e:L.getD j false
   ·rfl
   ·rw[et e]at this;cases this
  ·rcases ag hl with rfl|hl
   ·rw[ho]at hj;injection hj with hj;subst hj;rw[hd]at lJ;cases lJ
   ·exact hm _ _ (h.new j o' k hj lJ hl)
 |some q=>
  have hq:q<a.tmps.size:=by rw[h.sz];exact(jN eI ho).2 q hd
  refine⟨by simp[h.len],hC,h.df,by rw[bR];exact h.sz,fun k hk=> ?_,fun j o' k hj lJ hl=> ?_⟩
  ·have fe:q≠k:=by
    intro e;subst e;have:=hk i o ho hd;rw[ju hi]at this;cases this
   rw[ah _ _ _ _ fe];refine h.old k fun j o' hj lJ=> ?_;have:=hk j o' hj lJ;cases e:L.getD j false
   ·rfl
   ·rw[et e]at this;cases this
  ·by_cases e:q=k
   ·subst e;obtain rfl:=apart_spec hap ho hj hd lJ;rw[bY _ _ _ hq];exact hV (by rw[hd];rfl)
   ·rw[ah _ _ _ _ e];rcases ag hl with rfl|hl
    ·rw[ho]at hj;injection hj with hj;subst hj;rw[hd]at lJ;injection lJ with lJ;exact absurd lJ e
    ·exact hm _ _ (h.new j o' k hj lJ hl)
def eu:List Oper→Act→(Nat→Value)→Act
 |[],a,_=>a
 |o::l,a,vs=>eu l (match o.dst with|some k=>a.put (some k) (vs k)|none=>a) vs
theorem km:∀ (l:List Oper) (a:Act) (vs:Nat→Value),(eu l a vs).tmps.size=a.tmps.size
 |[],_,_=>rfl
 |o::l,a,vs=>by
  rw[eu,km l];cases o.dst with
  |none=>rfl
  |some k=>exact bR _ _ _
theorem ji:∀ (l:List Oper) (a:Act) (vs:Nat→Value),(eu l a vs).defers=a.defers
 |[],_,_=>rfl
 |o::l,a,vs=>by
  rw[eu,ji l];cases o.dst with
  |none=>rfl
  |some k=>rfl
theorem iS:∀ (l:List Oper) (a:Act) (vs:Nat→Value) (k:Nat),(∀ o∈l,∀ q,o.dst=some q→q<a.tmps.size)→(eu l a vs).eval (.tmp k)=if (∃ o∈l,o.dst=some k) then vs k else a.eval (.tmp k)
 |[],_,_,_,_=>by simp[eu]
 |o::l,a,vs,k,hs=>by
  rw[eu];cases hd:o.dst with
  |none=>
   rw[iS l a vs k (fun o' Jm=>hs o' (List.mem_cons_of_mem _ Jm))];simp[hd]
  |some q=>
   have hq:=hs o (List.mem_cons_self ..) q hd;rw[iS l _ vs k (fun o' Jm q' hq'=>by rw[bR];exact hs o' (List.mem_cons_of_mem _ Jm) q' hq')];by_cases e:q=k
   ·subst e;rw[bY _ _ _ hq];simp[hd]
   ·rw[ah _ _ _ _ e];simp[hd,e]
theorem wP {a b:Act} (hd:a.defers=b.defers) (hs:a.tmps.size=b.tmps.size) (h:∀ k,a.eval (.tmp k)=b.eval (.tmp k)):a=b:=by
 obtain⟨t,d⟩:=a;obtain⟨t',d'⟩:=b;simp only at hd hs;subst hd;congr 1;apply Array.ext hs;intro i h1 h2;have:=h i;simpa [Act.eval,h1,h2]using this
end
theorem pe {P:Program} {id:Nat} {Q:Exit→Act→World→Prop} {a0:Act} {w:World} {l:List Oper} (C:Array Bool→World→Prop) (V:Nat→Value→World→Prop) (hm:P.follows .mixedOrders=true)
  (hasc:asc .any l.toArray=true) (eI:mB l a0.tmps.size=true) (hC0:C (Array.replicate l.length false) w.drew)
  (Ea:∀ (L:Array Bool) (a:Act) (W:World) (i:Nat) (o:Oper),jA l a0 C V L a W→fj .any l.toArray L→l[i]? =some o→L.getD i true=false→(∀ e∈o.after,Region.binds .any e=true→L.getD e.on false=true)→
   wpOp P l.toArray Q i (fun a' W'=>jA l a0 C V (L.setIfInBounds i true) a' W') a W)
  (hend:∀ (L:Array Bool) (W:World) (vs:Nat→Value),(∀ i,i<l.length→L.getD i false=true)→C L W→(∀ (i:Nat) (o:Oper) (k:Nat),l[i]? =some o→o.dst=some k→V i (vs k) W)→Q .normal (eu l a0 vs) W):
  (Code.region id l.toArray true).wp P Q a0 w:=by
 refine wp_region_any hm ?_;refine mr (jA l a0 C V) ?_ ?_ _ _ _ _ ?_ (fj.none _ (jt _)) ?_
 ·intro L a W i h hc hi;obtain⟨zk,o,ho,aw⟩:=mem_ready.1 hi;exact Ea L a W i o h hc (by simpa using ho) zk aw
 ·intro L a W h hr;have aw:∀ i,i<l.length→L.getD i false=true:=fun i hi=>tW hr hasc (by simpa using h.len) i (by simpa using hi);have e:a=eu l a0 (fun k=>a.eval (.tmp k)):=by
   have hs:∀ o∈l,∀ q,o.dst=some q→q<a0.tmps.size:=fun o ho q hq=>by
    obtain⟨i,hi⟩:=List.getElem?_of_mem ho;exact(jN eI hi).2 q hq
   refine wP (by rw[ji];exact h.df) (by rw[km];exact h.sz) fun k=> ?_;rw[iS l a0 _ k hs];by_cases hk:∃ o∈l,o.dst=some k
   ·rw[if_pos hk]
   ·rw[if_neg hk];refine h.old k fun i o hi hd=>absurd ⟨o,List.mem_of_getElem? hi,hd⟩ hk
  have:=hend L W (fun k=>a.eval (.tmp k)) aw h.cw (fun i o k hi hd=>h.new i o k hi hd (aw i (List.getElem?_eq_some_iff.1 hi).1));rw[← e]at this;exact this
 ·refine⟨by simp, ?_,rfl,rfl,fun _ _=>rfl,fun i o k hi _ hl=> ?_⟩
  ·simpa using hC0
  ·rw[jt]at hl;cases hl
 ·unfold left;exact Nat.le_trans List.countP_le_length (by simp)
def OpR (P:Program) (V:Nat→Value→World→Prop) (i:Nat) (o:Oper) (a:Act) (W:World):Prop:=
 (∃ u W',(execOp a.eval o).run P W=.ok (.value u) W'∧Bel W W'∧V i u W')∨
 (∃ f args,(execOp a.eval o).run P W=.ok (.enter f args) W∧Calls P f args W fun e W'=>∃ u,e=.returned u∧Bel W W'∧V i u W')
theorem jf {P:Program} {id:Nat} {Q:Exit→Act→World→Prop} {a0:Act} {w:World} {l:List Oper} (v:World) (hv:Bel v w) (V:Nat→Value→World→Prop) (hVm:∀ j u W W',Bel W W'→V j u W→V j u W') (hm:P.follows .mixedOrders=true)
  (hasc:asc .any l.toArray=true) (hap:kg l=true) (eI:mB l a0.tmps.size=true)
  (Ea:∀ (i:Nat) (o:Oper),l[i]? =some o→∀ (a:Act) (W:World),Bel v W→(∀ k,pX l k=true→a.eval (.tmp k)=a0.eval (.tmp k))→
   (∀ (j:Nat) (o':Oper) (k:Nat),l[j]? =some o'→o'.dst=some k→(∃ e∈o.after,e.on=j∧Region.binds .any e=true)→V j (a.eval (.tmp k)) W)→OpR P V i o a W)
  (hend:∀ (W:World) (vs:Nat→Value),Bel v W→(∀ (i:Nat) (o:Oper) (k:Nat),l[i]? =some o→o.dst=some k→V i (vs k) W)→Q .normal (eu l a0 vs) W):
  (Code.region id l.toArray true).wp P Q a0 w:=by
 refine pe (fun _ W=>Bel v W) V hm hasc eI (Below.drew hv) ?_ (fun L W vs _ hC hV=>hend W vs hC hV);intro L a W i o h _ ho hi aw;have hg:=(jN eI ho).1;rcases Ea i o ho a W h.cw (fun k hk=>h.lS hk) (fun j o' k hj hk ⟨e,he,Np,hb⟩=>h.new j o' k hj hk (by rw[← Np];exact aw e he hb)) with⟨u,W',hr,hb,hV⟩|⟨f,args,hr,hk⟩
 ·exact bJ (by simpa using ho) hg hr (h.step hap eI ho hi (aa h.cw hb) (fun j x hx=>hVm j x W W' hb hx) (fun _=>hV))
 ·refine jI (by simpa using ho) hg hr (hk.mono ?_);rintro e W' ⟨u,rfl,hb,hV⟩;exact⟨u,rfl,h.step hap eI ho hi (aa h.cw hb) (fun j x hx=>hVm j x W W' hb hx) (fun _=>hV)⟩
theorem ay (a:Act) (k:Nat):a.tmps[k]?.getD undef=a.eval (.tmp k):=by simp[Act.eval]
theorem lx (a b c d e f g:Value) (W:World):(Instr.field 111 (.agg #[a,b,c,d,e,f,g]) 3).run Tryz.prog W=.ok d W:=by kernel_rfl
def VSh (p E:Nat) (s m ob vl:Value) (sv:List ByteArray) (sm:Bool):Nat→Value→World→Prop
 |0,v,_=>v=.pointer (some ⟨p,0,none⟩)
 |1,v,_=>v=s
 |2,v,_=>v=.pointer (some ⟨p,1,none⟩)
 |3,v,_=>v=m
 |4,v,_=>v=ob
 |5,v,W=>∃ v0 v1 v2 g1 n1 f1 v4 v5 v6,v=.agg #[v0,v1,v2,.slice g1 n1 f1,v4,v5,v6]∧(n1=sv.length∧TxG W g1 f1 sv)
 |6,v,W=>∃ g1 n1 f1,v=.slice g1 n1 f1∧(n1=sv.length∧TxG W g1 f1 sv)
 |7,v,_=>v=.pointer (some ⟨E,3,none⟩)
 |8,v,_=>v=vl
 |9,v,_=>v=.bool sm
 |10,v,_=>v=.bool (!sm)
 |_,_,_=>True
theorem oz (p E:Nat) (s m ob vl:Value) (sv:List ByteArray) (sm:Bool):∀ j u W W',Bel W W'→VSh p E s m ob vl sv sm j u W→VSh p E s m ob vl sv sm j u W':=by
 intro j u W W' hb h;match j,h with
 |0,h=>exact h
 |1,h=>exact h
 |2,h=>exact h
 |3,h=>exact h
 |4,h=>exact h
 |5,⟨v0,v1,v2,g1,n1,f1,v4,v5,v6,e,hn,hg⟩=>exact⟨v0,v1,v2,g1,n1,f1,v4,v5,v6,e,hn,hg.later hb⟩
 |6,⟨g1,n1,f1,e,hn,hg⟩=>exact⟨g1,n1,f1,e,hn,hg.later hb⟩
 |7,h=>exact h
 |8,h=>exact h
 |9,h=>exact h
 |10,h=>exact h
 |_+11,_=>trivial
end Go.Proofs.YtbiokpmdghmgcaaGreat
