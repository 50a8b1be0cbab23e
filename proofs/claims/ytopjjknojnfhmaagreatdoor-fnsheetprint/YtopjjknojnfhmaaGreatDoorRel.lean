import Derived.WalkKit
import Derived.Deep.OwnRows
import Derived.Deep.RegionWith
import Derived.Orders
import Derived.Test.YtopjjknojnfhmaaGreatDoorOwn
namespace Go.Proofs.YtopjjknojnfhmaaGreatDoor
open Go.RowKit Go.Deep
namespace RY
def left (listed:Array Bool):Nat:=listed.toList.countP (fun b=> !b)
theorem Ee {listed:Array Bool} {i:Nat} (h:listed.getD i true=false):left (listed.setIfInBounds i true)+1=left listed:=by
 have bd:i<listed.size:=by
  rcases Nat.lt_or_ge i listed.size with h'|h'
  ·exact h'
  ·simp[Array.getElem?_eq_none h']at h
 have hv:listed[i]=false:=by simpa [bd]using h
 unfold left;rw[Array.toList_setIfInBounds];have hl:i<listed.toList.length:=by simpa using bd
 have FH:listed.toList[i]=false:=by simpa using hv
 generalize listed.toList=l at hl FH;clear h hv bd;induction l generalizing i with
 |nil=>simp at hl
 |cons b l ih=>
  cases i with
  |zero=>
   simp only[List.getElem_cons_zero]at FH;subst FH;simp
  |succ i=>
   simp only[List.set_cons_succ,List.countP_cons];have:=ih (i:=i) (by simpa using hl) (by simpa using FH);omega
theorem Aw {listed:Array Bool} (h:left listed=0) (i:Nat):listed.getD i true=true:=by
 unfold left at h;rw[List.countP_eq_zero]at h;by_cases hi:i<listed.size
 ·have:=h (listed[i]) (by simp);simpa [hi]using this
 ·simp[Array.getElem?_eq_none (by omega:listed.size≤i)]
section
variable {P:Program} {ops:Array Oper} {md:Region.Mode} {Q:Exit→Act→World→Prop}
theorem pX {listed:Array Bool} (h:left listed=0):Region.ready md ops listed=[]:=by
 rw[List.eq_nil_iff_forall_not_mem];intro j hj;have:=(mem_ready.1 hj).1;rw[Aw h j]at this;cases this
theorem dH {l:Array Bool} {i j:Nat} (h:l.getD j false=true):(l.setIfInBounds i true).getD j false=true:=by
 by_cases e:i=j
 ·subst e;have bd:i<l.size:=by
   rcases Nat.lt_or_ge i l.size with h'|h'
   ·exact h'
   ·simp[Array.getElem?_eq_none h']at h
  simp[bd]
 ·rw[getD_set_ne false e];exact h
theorem lA {l:Array Bool} {i j:Nat} (h:(l.setIfInBounds i true).getD j false=true):j=i∨l.getD j false=true:=by
 by_cases e:i=j
 ·exact Or.inl e.symm
 ·rw[getD_set_ne false e]at h;exact Or.inr h
def fs (md:Region.Mode) (ops:Array Oper) (l:Array Bool):Prop:=∀ i o e,ops[i]? =some o→e∈o.after→Region.binds md e=true→l.getD i false=true→l.getD e.on false=true
theorem fs.set {l:Array Bool} {i:Nat} (h:fs md ops l) (hi:i∈Region.ready md ops l):fs md ops (l.setIfInBounds i true):=by
 intro j o e ho he hb hj;rcases lA hj with rfl|hj
 ·obtain⟨_,o',IJ,bs⟩:=mem_ready.1 hi;have:o'=o:=Option.some.inj (IJ.symm.trans ho);subst this;exact dH (bs e he hb)
 ·exact dH (h j o e ho he hb hj)
theorem fs.none (l:Array Bool) (h:∀ i,l.getD i false=false):fs md ops l:=by
 intro i o e _ _ _ hi;rw[h i]at hi;cases hi
theorem dh (n k:Nat):(Array.replicate n false).getD k false=false:=by
 rw[Array.getD_eq_getD_getElem?,Array.getElem?_replicate];split<;>rfl
theorem fZ (I:Array Bool→Act→World→Prop)
  (hstep:∀ listed a w i,I listed a w→fs md ops listed→i∈Region.ready md ops listed→wpOp P ops Q i (fun a' w'=>I (listed.setIfInBounds i true) a' w') a w)
  (dt:∀ listed a w,I listed a w→Region.ready md ops listed=[]→Q .normal a w):
  ∀ (fuel:Nat) (listed:Array Bool) (a:Act) (w:World),I listed a w→fs md ops listed→left listed≤fuel→wpAny P md ops Q fuel listed a w
 |0,listed,a,w,h,_,hf=>⟨pX (Nat.le_zero.1 hf),dt _ _ _ h (pX (Nat.le_zero.1 hf))⟩
 |fuel+1,listed,a,w,h,hc,hf=>⟨fun h0=>dt _ _ _ h h0,fun i hi=>wpOp_mono (fun a' w' h'=>fZ I hstep dt fuel _ a' w' h' (hc.set hi) (by have:=Ee (mem_ready.1 hi).1;omega)) (hstep _ _ _ _ h hc hi)⟩
end
def asc (md:Region.Mode) (ops:Array Oper):Bool:=(List.range ops.size).all fun n=>match ops[n]? with
 |some o=>o.after.all fun e=> !(Region.binds md e)||decide (e.on<n)
 |none=>true
theorem pK {md:Region.Mode} {ops:Array Oper} {l:Array Bool} (hr:Region.ready md ops l=[]) (ha:asc md ops=true) (hl:l.size=ops.size):∀ n,n<ops.size→l.getD n false=true:=by
 intro n;induction n using Nat.strongRecOn with
 |_ n ih=>
  intro hn;cases h:l.getD n false with
  |true=>rfl
  |false=>
   exfalso;have h2:l.getD n true=false:=by
    have:n<l.size:=by omega
    simpa [this]using h
   have ho:ops[n]? =some ops[n]:=by simp[hn]
   have hA:∀ e∈ops[n].after,Region.binds md e=true→e.on<n:=by
    unfold asc at ha;rw[List.all_eq_true]at ha;have:=ha n (List.mem_range.2 hn);rw[ho]at this;intro e he hb;have h3:=(Array.all_eq_true_iff_forall_mem.1 this) e he;rw[hb]at h3;simpa using h3
   have:=mem_ready.2 ⟨h2,ops[n],ho,fun e he hb=>ih e.on (hA e he hb) (by have:=hA e he hb;omega)⟩;rw[hr]at this;cases this
theorem gA {P:Program} {ops:Array Oper} {Q:Exit→Act→World→Prop} {i:Nat} {K:Act→World→Prop} {a:Act} {w w':World} {o:Oper} {v:Value} (ho:ops[i]? =some o) (hg:o.guard=none)
  (hr:(execOp a.eval o).run P w=.ok (.value v) w') (hk:K (a.put o.dst v) w'):wpOp P ops Q i K a w:=by
 have hw:Region.wanted o (yielded ops a.tmps)=true:=by simp[Region.wanted,hg]
 simp only[wpOp,ho,hw,if_true];left;simp only[Oper.wp,hr,Oper.upon];exact hk
theorem mg {P:Program} {ops:Array Oper} {Q:Exit→Act→World→Prop} {i:Nat} {K:Act→World→Prop} {a:Act} {w w':World} {o:Oper} (ho:ops[i]? =some o) (hg:o.guard=none)
  (hr:(execOp a.eval o).run P w=.ok .skip w') (hk:K (a.put o.dst undef) w'):wpOp P ops Q i K a w:=by
 have hw:Region.wanted o (yielded ops a.tmps)=true:=by simp[Region.wanted,hg]
 simp only[wpOp,ho,hw,if_true];left;simp only[Oper.wp,hr,Oper.upon];exact hk
theorem pB (a:Act) (u:Value):a.put none u=a:=rfl
theorem pg {l:Array Bool} {i:Nat} (h:l.getD i true=false):(l.setIfInBounds i true).getD i false=true:=by
 have bd:i<l.size:=by
  rcases Nat.lt_or_ge i l.size with h'|h'
  ·exact h'
  ·simp[Array.getElem?_eq_none h']at h
 simp[bd]
theorem lY {l:Array Bool} {i:Nat} (h:l.getD i true=false):l.getD i false=false:=by
 have bd:i<l.size:=by
  rcases Nat.lt_or_ge i l.size with h'|h'
  ·exact h'
  ·simp[Array.getElem?_eq_none h']at h
 simpa [bd]using h
theorem iW {P:Program} {ops:Array Oper} {Q:Exit→Act→World→Prop} {i:Nat} {K:Act→World→Prop} {a:Act} {w:World} {o:Oper} {f:FuncId} {args:Array Value} (ho:ops[i]? =some o) (hg:o.guard=none)
  (hr:(execOp a.eval o).run P w=.ok (.enter f args) w) (hk:Calls P f args w fun e w'=>∃ u,e=.returned u∧K (a.put o.dst u) w'):wpOp P ops Q i K a w:=by
 have hw:Region.wanted o (yielded ops a.tmps)=true:=by simp[Region.wanted,hg]
 simp only[wpOp,ho,hw,if_true];left;simp only[Oper.wp,hr,Oper.upon];refine hk.mono ?_;rintro e w' ⟨u,rfl,h⟩;exact h
theorem ld (a:Act) (k:Nat) (u:Value) (h:k<a.tmps.size):(a.put (some k) u).eval (.tmp k)=u:=by
 simp[Act.put,Act.eval,h]
theorem iw (a:Act) (j k:Nat) (u:Value) (h:j≠k):(a.put (some j) u).eval (.tmp k)=a.eval (.tmp k):=by
 simp[Act.put,Act.eval,Array.getElem?_setIfInBounds_ne h]
theorem kZ (a:Act) (k:Nat) (u:Value):(a.put (some k) u).tmps.size=a.tmps.size:=by simp[Act.put]
def cP (l:List Oper) (k:Nat):Bool:=l.all fun o=>o.dst !=some k
def di (l:List Oper):Bool:=(List.range l.length).all fun i=>(List.range l.length).all fun j=>i==j||match l[i]?,l[j]? with
 |some o,some o'=>o.dst==none||o.dst !=o'.dst
 |_,_=>true
def dK (l:List Oper) (n:Nat):Bool:=l.all fun o=>o.guard.isNone&&match o.dst with
 |some k=>decide (k<n)
 |none=>true
theorem apart_spec {l:List Oper} (h:di l=true) {i j k:Nat} {o o':Oper} (hi:l[i]? =some o) (hj:l[j]? =some o') (h1:o.dst=some k) (h2:o'.dst=some k):i=j:=by
 unfold di at h;rw[List.all_eq_true]at h;have nt:i<l.length:=(List.getElem?_eq_some_iff.1 hi).1;have BZ:j<l.length:=(List.getElem?_eq_some_iff.1 hj).1;have:=h i (List.mem_range.2 nt);rw[List.all_eq_true]at this;have:=this j (List.mem_range.2 BZ);rw[hi,hj]at this;simp only[h1,h2,Bool.or_eq_true,beq_iff_eq]at this;rcases this with e|e
 ·exact e
 ·simp at e
theorem bO {l:List Oper} {n:Nat} (h:dK l n=true) {i:Nat} {o:Oper} (hi:l[i]? =some o):o.guard=none∧∀ k,o.dst=some k→k<n:=by
 unfold dK at h;rw[List.all_eq_true]at h;have:=h o (List.mem_of_getElem? hi);rw[Bool.and_eq_true]at this;refine⟨by simpa using this.1,fun k hk=> ?_⟩;rw[hk]at this;simpa using this.2
theorem i6 {l:List Oper} {k:Nat} (h:cP l k=true) {i:Nat} {o:Oper} (hi:l[i]? =some o):o.dst≠some k:=by
 unfold cP at h;rw[List.all_eq_true]at h;simpa using h o (List.mem_of_getElem? hi)
structure kK (l:List Oper) (a0:Act) (C:Array Bool→World→Prop) (V:Nat→Value→World→Prop) (L:Array Bool) (a:Act) (W:World):Prop where
 len:L.size=l.length
 cw:C L W
 df:a.defers=a0.defers
 sz:a.tmps.size=a0.tmps.size
 old:∀ k,(∀ (i:Nat) (o:Oper),l[i]? =some o→o.dst=some k→L.getD i false=false)→a.eval (.tmp k)=a0.eval (.tmp k)
 new:∀ (i:Nat) (o:Oper) (k:Nat),l[i]? =some o→o.dst=some k→L.getD i false=true→V i (a.eval (.tmp k)) W
section
variable {l:List Oper} {a0:Act} {C:Array Bool→World→Prop} {V:Nat→Value→World→Prop} {L:Array Bool} {a:Act} {W:World}
theorem kK.bo (h:kK l a0 C V L a W) {k:Nat} (hk:cP l k=true):a.eval (.tmp k)=a0.eval (.tmp k):=
 h.old k fun _ _ hi hd=>absurd hd (i6 hk hi)
theorem kK.step (h:kK l a0 C V L a W) (hap:di l=true) (dr:dK l a0.tmps.size=true) {i:Nat} {o:Oper} {u:Value} {W':World} (ho:l[i]? =some o) (hi:L.getD i true=false) (hC:C (L.setIfInBounds i true) W') (hm:∀ j v,V j v W→V j v W') (hV:o.dst.isSome=true→V i u W'):
  kK l a0 C V (L.setIfInBounds i true) (a.put o.dst u) W':=by
 cases hd:o.dst with
 |none=>
  refine⟨by simp[h.len],hC,h.df,h.sz,fun k hk=>h.old k fun j o' hj hj'=> ?_,fun j o' k hj hj' hl=> ?_⟩
  ·have:=hk j o' hj hj';cases e:L.getD j false
   ·rfl
   ·rw[dH e]at this;cases this
  ·rcases lA hl with rfl|hl
   ·rw[ho]at hj;injection hj with hj;subst hj;rw[hd]at hj';cases hj'
   ·exact hm _ _ (h.new j o' k hj hj' hl)
 |some q=>
  have hq:q<a.tmps.size:=by rw[h.sz];exact(bO dr ho).2 q hd
  refine⟨by simp[h.len],hC,h.df,by rw[kZ];exact h.sz,fun k hk=> ?_,fun j o' k hj hj' hl=> ?_⟩
  ·have du:q≠k:=by
    intro e;subst e;have:=hk i o ho hd;rw[pg hi]at this;cases this
   rw[iw _ _ _ _ du];refine h.old k fun j o' hj hj'=> ?_;have:=hk j o' hj hj';cases e:L.getD j false
   ·rfl
   ·rw[dH e]at this;cases this
  ·by_cases e:q=k
   ·subst e;obtain rfl:=apart_spec hap ho hj hd hj';rw[ld _ _ _ hq];exact hV (by rw[hd];rfl)
   ·rw[iw _ _ _ _ e];rcases lA hl with rfl|hl
    ·rw[ho]at hj;injection hj with hj;subst hj;rw[hd]at hj';injection hj' with hj';exact absurd hj' e
    ·exact hm _ _ (h.new j o' k hj hj' hl)
def aC:List Oper→Act→(Nat→Value)→Act
 |[],a,_=>a
 |o::l,a,vs=>aC l (match o.dst with|some k=>a.put (some k) (vs k)|none=>a) vs
theorem eI:∀ (l:List Oper) (a:Act) (vs:Nat→Value),(aC l a vs).tmps.size=a.tmps.size
 |[],_,_=>rfl
 |o::l,a,vs=>by
  rw[aC,eI l];cases o.dst with
  |none=>rfl
  |some k=>exact kZ _ _ _
theorem dI:∀ (l:List Oper) (a:Act) (vs:Nat→Value),(aC l a vs).defers=a.defers
 |[],_,_=>rfl
 |o::l,a,vs=>by
  rw[aC,dI l];cases o.dst with
  |none=>rfl
  |some k=>rfl
theorem dX:∀ (l:List Oper) (a:Act) (vs:Nat→Value) (k:Nat),(∀ o∈l,∀ q,o.dst=some q→q<a.tmps.size)→(aC l a vs).eval (.tmp k)=if (∃ o∈l,o.dst=some k) then vs k else a.eval (.tmp k)
 |[],_,_,_,_=>by simp[aC]
 |o::l,a,vs,k,hs=>by
  rw[aC];cases hd:o.dst with
  |none=>
   rw[dX l a vs k (fun o' IJ=>hs o' (List.mem_cons_of_mem _ IJ))];simp[hd]
  |some q=>
   have hq:=hs o (List.mem_cons_self ..) q hd;rw[dX l _ vs k (fun o' IJ q' hq'=>by rw[kZ];exact hs o' (List.mem_cons_of_mem _ IJ) q' hq')];by_cases e:q=k
   ·subst e;rw[ld _ _ _ hq];simp[hd]
   ·rw[iw _ _ _ _ e];simp[hd,e]
theorem lG {a b:Act} (hd:a.defers=b.defers) (hs:a.tmps.size=b.tmps.size) (h:∀ k,a.eval (.tmp k)=b.eval (.tmp k)):a=b:=by
 obtain⟨t,d⟩:=a;obtain⟨t',d'⟩:=b;simp only at hd hs;subst hd;congr 1;apply Array.ext hs;intro i h1 h2;have:=h i;simpa [Act.eval,h1,h2]using this
end
theorem px {P:Program} {id:Nat} {Q:Exit→Act→World→Prop} {a0:Act} {w:World} {l:List Oper} (C:Array Bool→World→Prop) (V:Nat→Value→World→Prop) (hm:P.follows .mixedOrders=true)
  (hasc:asc .any l.toArray=true) (dr:dK l a0.tmps.size=true) (hC0:C (Array.replicate l.length false) w.drew)
  (iH:∀ (L:Array Bool) (a:Act) (W:World) (i:Nat) (o:Oper),kK l a0 C V L a W→fs .any l.toArray L→l[i]? =some o→L.getD i true=false→(∀ e∈o.after,Region.binds .any e=true→L.getD e.on false=true)→
   wpOp P l.toArray Q i (fun a' W'=>kK l a0 C V (L.setIfInBounds i true) a' W') a W)
  (dt:∀ (L:Array Bool) (W:World) (vs:Nat→Value),(∀ i,i<l.length→L.getD i false=true)→C L W→(∀ (i:Nat) (o:Oper) (k:Nat),l[i]? =some o→o.dst=some k→V i (vs k) W)→Q .normal (aC l a0 vs) W):
  (Code.region id l.toArray true).wp P Q a0 w:=by
 refine wp_region_any hm ?_;refine fZ (kK l a0 C V) ?_ ?_ _ _ _ _ ?_ (fs.none _ (dh _)) ?_
 ·intro L a W i h hc hi;obtain⟨eO,o,ho,bs⟩:=mem_ready.1 hi;exact iH L a W i o h hc (by simpa using ho) eO bs
 ·intro L a W h hr;have bs:∀ i,i<l.length→L.getD i false=true:=fun i hi=>pK hr hasc (by simpa using h.len) i (by simpa using hi);have e:a=aC l a0 (fun k=>a.eval (.tmp k)):=by
   have hs:∀ o∈l,∀ q,o.dst=some q→q<a0.tmps.size:=fun o ho q hq=>by
    obtain⟨i,hi⟩:=List.getElem?_of_mem ho;exact(bO dr hi).2 q hq
   refine lG (by rw[dI];exact h.df) (by rw[eI];exact h.sz) fun k=> ?_;rw[dX l a0 _ k hs];by_cases hk:∃ o∈l,o.dst=some k
   ·rw[if_pos hk]
   ·rw[if_neg hk];refine h.old k fun i o hi hd=>absurd ⟨o,List.mem_of_getElem? hi,hd⟩ hk
  have:=dt L W (fun k=>a.eval (.tmp k)) bs h.cw (fun i o k hi hd=>h.new i o k hi hd (bs i (List.getElem?_eq_some_iff.1 hi).1));rw[← e]at this;exact this
 ·refine⟨by simp, ?_,rfl,rfl,fun _ _=>rfl,fun i o k hi _ hl=> ?_⟩
  ·simpa using hC0
  ·rw[dh]at hl;cases hl
 ·unfold left;exact Nat.le_trans List.countP_le_length (by simp)
def OpR (P:Program) (V:Nat→Value→World→Prop) (i:Nat) (o:Oper) (a:Act) (W:World):Prop:=
 (∃ u W',(execOp a.eval o).run P W=.ok (.value u) W'∧Bel W W'∧V i u W')∨
 (∃ f args,(execOp a.eval o).run P W=.ok (.enter f args) W∧Calls P f args W fun e W'=>∃ u,e=.returned u∧Bel W W'∧V i u W')
theorem cA {P:Program} {id:Nat} {Q:Exit→Act→World→Prop} {a0:Act} {w:World} {l:List Oper} (v:World) (hv:Bel v w) (V:Nat→Value→World→Prop) (hVm:∀ j u W W',Bel W W'→V j u W→V j u W') (hm:P.follows .mixedOrders=true)
  (hasc:asc .any l.toArray=true) (hap:di l=true) (dr:dK l a0.tmps.size=true)
  (iH:∀ (i:Nat) (o:Oper),l[i]? =some o→∀ (a:Act) (W:World),Bel v W→(∀ k,cP l k=true→a.eval (.tmp k)=a0.eval (.tmp k))→
   (∀ (j:Nat) (o':Oper) (k:Nat),l[j]? =some o'→o'.dst=some k→(∃ e∈o.after,e.on=j∧Region.binds .any e=true)→V j (a.eval (.tmp k)) W)→OpR P V i o a W)
  (dt:∀ (W:World) (vs:Nat→Value),Bel v W→(∀ (i:Nat) (o:Oper) (k:Nat),l[i]? =some o→o.dst=some k→V i (vs k) W)→Q .normal (aC l a0 vs) W):
  (Code.region id l.toArray true).wp P Q a0 w:=by
 refine px (fun _ W=>Bel v W) V hm hasc dr (Below.drew hv) ?_ (fun L W vs _ hC hV=>dt W vs hC hV);intro L a W i o h _ ho hi bs;have hg:=(bO dr ho).1;rcases iH i o ho a W h.cw (fun k hk=>h.bo hk) (fun j o' k hj hk ⟨e,he,mM,hb⟩=>h.new j o' k hj hk (by rw[← mM];exact bs e he hb)) with⟨u,W',hr,hb,hV⟩|⟨f,args,hr,hk⟩
 ·exact gA (by simpa using ho) hg hr (h.step hap dr ho hi (ah h.cw hb) (fun j x hx=>hVm j x W W' hb hx) (fun _=>hV))
 ·refine iW (by simpa using ho) hg hr (hk.mono ?_);rintro e W' ⟨u,rfl,hb,hV⟩;exact⟨u,rfl,h.step hap dr ho hi (ah h.cw hb) (fun j x hx=>hVm j x W W' hb hx) (fun _=>hV)⟩
theorem af (a:Act) (k:Nat):a.tmps[k]?.getD undef=a.eval (.tmp k):=by simp[Act.eval]
theorem E {V:Nat→Value→World→Prop} {l:List Oper} {o:Oper} {a:Act} {W:World} (hd:∀ (j:Nat) (o':Oper) (k:Nat),l[j]? =some o'→o'.dst=some k→(∃ e∈o.after,e.on=j∧Region.binds .any e=true)→V j (a.eval (.tmp k)) W)
  (j k:Nat) {o':Oper} {v:Value} (h1:l[j]? =some o':=by exact rfl) (h2:o'.dst=some k:=by exact rfl) (h3:∃ e∈o.after,e.on=j∧Region.binds .any e=true:=by decide) (hv:V j (a.eval (.tmp k)) W=(a.eval (.tmp k)=v):=by exact rfl):a.tmps[k]?.getD undef=v:=
 (af a k).trans (hv ▸ hd j o' k h1 h2 h3)
theorem E1 {V:Nat→Value→World→Prop} {l:List Oper} {o:Oper} {a:Act} {W:World} {C:Nat→Prop} (hd:∀ (j:Nat) (o':Oper) (k:Nat),l[j]? =some o'→o'.dst=some k→(∃ e∈o.after,e.on=j∧Region.binds .any e=true)→C j→V j (a.eval (.tmp k)) W)
  (j k:Nat) {o':Oper} {v:Value} (h1:l[j]? =some o':=by exact rfl) (h2:o'.dst=some k:=by exact rfl) (h3:∃ e∈o.after,e.on=j∧Region.binds .any e=true:=by decide) (h4:C j:=by decide) (hv:V j (a.eval (.tmp k)) W=(a.eval (.tmp k)=v):=by exact rfl):a.tmps[k]?.getD undef=v:=
 (af a k).trans (hv ▸ hd j o' k h1 h2 h3 h4)
theorem K {l:List Oper} {a a0:Act} (hk:∀ k,cP l k=true→a.eval (.tmp k)=a0.eval (.tmp k)) (k:Nat) (v:Value) (h:cP l k=true:=by kernel_rfl) (h':a0.eval (.tmp k)=v:=by exact rfl):a.tmps[k]?.getD undef=v:=
 (af a k).trans ((hk k h).trans h')
theorem p {R:Value→World→Prop} {Vi:Value→World→Prop} {X:World} {Q:Prop} (v:Value) (h:R v X) (hv:Vi v X:=by exact rfl):(∃ u W',R u W'∧Bel X W'∧Vi u W')∨Q:=
 .inl ⟨v,X,h,zR,hv⟩
theorem n {o:Oper} {y:Nat→Option Bool} {B C:Prop} (h:B) (hw:o.guard=none:=by exact rfl):(Region.wanted o y=true∧B)∨C:=
 .inl ⟨by unfold Region.wanted;rw[hw],h⟩
end RY
end Go.Proofs.YtopjjknojnfhmaaGreatDoor
