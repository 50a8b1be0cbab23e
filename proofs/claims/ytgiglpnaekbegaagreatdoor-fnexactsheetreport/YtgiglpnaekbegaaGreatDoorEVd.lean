import Derived.Maps.AppendAt
import Derived.Laws.OwnMore
import Derived.Test.YtgiglpnaekbegaaGreatDoorEOp
import Derived.Test.YtgiglpnaekbegaaGreatDoorRgFc
namespace Go.Proofs.YtgiglpnaekbegaaGreatDoor
set_option maxRecDepth 8000
set_option maxHeartbeats 40000000
open Go.RowKit Go.Deep
namespace RY
theorem uB {P:Program} {id:Nat} {Q:Exit→Act→World→Prop} {a0:Act} {w:World} {l:List Oper} (v:World) (hv:Bel v w)
  (V:Nat→Value→World→Option Nat→Prop) (hVm:∀ j u W W' A,Bel W W'→V j u W A→V j u W' A) (hVa:∀ j u W,V j u W none→V j u W (some W.heap.size))
  (K:(Nat→Value)→World→Prop) (n fuel:Nat)
  (hm:P.follows .mixedOrders=true) (hasc:asc .any l.toArray=true) (hap:ek l=true) (eH:eN l a0.tmps.size=true)
  (hlen:l.length=n+1) (D:List Nat) (hD:(D.all fun d=>decide (d<n)&&waits l n d)=true)
  (hclo:((List.range n).all fun i=>(clo l fuel D).contains i)=true)
  (oS:Oper) (hS:l[n]? =some oS) (hSd:oS.dst=none)
  (km:((l.take n).all fun o=>o.dst.isSome)=true)
  (iA kA:Nat) (oA:Oper) (hA:l[iA]? =some oA) (hAd:oA.dst=some kA) (hAn:iA<n) (T:TypeId) (zs:List Value)
  (r5:∀ (a:Act) (W:World),(execOp a.eval oA).run P W=.ok (.value (.pointer (some ⟨W.heap.size,0,none⟩))) (W.alloc (.cells zs.toArray T)))
  (ij:∀ (i:Nat) (o:Oper),l[i]? =some o→i<n→i≠iA→∀ (a:Act) (W:World) (A:Option Nat),Bel v W→(∀ q,A=some q→q<W.heap.size)→(∀ k,ew l k=true→a.eval (.tmp k)=a0.eval (.tmp k))→
   (∀ (j:Nat) (o':Oper) (k:Nat),l[j]? =some o'→o'.dst=some k→(∃ e∈o.after,e.on=j∧Region.binds .any e=true)→j<n→j≠iA→V j (a.eval (.tmp k)) W A)→
   (∃ u W',(execOp a.eval o).run P W=.ok (.value u) W'∧Bel W W'∧V i u W' A)∨
   (∃ f args,(execOp a.eval o).run P W=.ok (.enter f args) W∧Calls P f args W fun e W'=>∃ u,e=.returned u∧Bel W W'∧V i u W' A))
  (hfin:∀ (a:Act) (W:World) (vals:Nat→Value) (q:Nat),Bel v W→(∀ k,ew l k=true→a.eval (.tmp k)=a0.eval (.tmp k))→vals iA=.pointer (some ⟨q,0,none⟩)→v.heap.size≤q→aN W q T zs.length→(∀ j,j<n→j≠iA→V j (vals j) W (some q))→
   (∀ (j:Nat) (o':Oper) (k:Nat),l[j]? =some o'→o'.dst=some k→(∃ e∈oS.after,e.on=j∧Region.binds .any e=true)→j<n→a.eval (.tmp k)=vals j)→
   ∃ W',(execOp a.eval oS).run P W=.ok .skip W'∧K vals W')
  (hend:∀ (vals vs:Nat→Value) (W:World),K vals W→(∀ (i:Nat) (o:Oper) (k:Nat),l[i]? =some o→o.dst=some k→vs k=vals i)→Q .normal (aC l a0 vs) W):
  (Code.region id l.toArray true).wp P Q a0 w:=by
 rw[Xu]at hD;refine jt (fun _ _=>True) (fun up vals W=>(up n=false→Bel v W∧∃ A:Option Nat,(up iA=false→A=none)∧(up iA=true→∃ q,A=some q∧vals iA=.pointer (some ⟨q,0,none⟩)∧v.heap.size≤q∧aN W q T zs.length)∧∀ j,j<n→j≠iA→up j=true→V j (vals j) W A)∧(up n=true→K vals W)) hm hasc hap eH ?_ ?_ ?_
 ·intro vals;exact⟨fun _=>⟨XF hv,none,fun _=>rfl,fun h=>by simp at h,fun j _ _ h=>by simp at h⟩,fun h=>by simp at h⟩
 ·intro up vals i o ho hi fT a W hk gQ hT;have uL:i<n+1:=by rw[← hlen];exact(Xn.1 ho).1
  have oV:(∀ d∈D,up d=true)→∀ j,j<n→up j=true:=fun h j hj=>by
   rw[Xu]at hclo;have:=hclo j (by simp;omega);exact gV fT fuel D h j (by simpa using this)
  by_cases jr:up n=true
  ·exfalso;have bA:∀ j,j<n+1→up j=true:=fun j hj=>by
    by_cases e:j=n
    ·rw[e];exact jr
    ·exact oV (fun d hd=>by
      have h2:=hD d hd;rw[Xj,decide_eq_true_eq]at h2;obtain⟨e,he,nT,nU⟩:=bj h2.2 hS;rw[← nT];exact fT n oS e hS he nU jr) j (by omega)
   rw[bA i uL]at hi;cases hi
  ·have jr:up n=false:=by simpa using jr
   obtain⟨sS,A,P6,WQ,hV⟩:=hT.1 jr;have fk:i<n→o.dst.isSome=true:=fun h=>by
    rw[Xu]at km;exact km _ (Xx (i:=i) (by rw[XM h];exact ho))
   have P7:i<n→¬ n=i:=fun h=>by omega
   by_cases iN:i<n
   ·by_cases Pv:i=iA
    ·subst Pv;obtain rfl:o=oA:=Option.some.inj (ho.symm.trans hA);have hAN:A=none:=P6 hi;subst hAN;have hb:Bel W (W.alloc (.cells zs.toArray T)):=af zR _;refine No ⟨_,_,r5 a W,fk iN,trivial,fun _=>⟨ae sS hb,some W.heap.size,fun h=>by simp at h,fun _=>⟨W.heap.size,rfl,by simp,sS.size,aN.alloc W _ _ _ (by simp)⟩,fun j hj K4 hu=> ?_⟩,fun h=> ?_⟩
     ·have hu:up j=true:=by simpa [K4]using hu
      simp only[K4,if_false];exact hVm _ _ _ _ _ hb (hVa _ _ _ (hV j hj K4 hu))
     ·have:up n=true:=by simpa [P7 iN]using h
      rw[jr]at this;cases this
    ·have Tp:∀ q,A=some q→q<W.heap.size:=fun q e=>by
      cases h:up iA
      ·rw[P6 h]at e;cases e
      ·obtain⟨q',e1,_,_,e4⟩:=WQ h;rw[e1]at e;injection e with e;subst e;exact e4.lt
     have Uv:¬ iA=i:=fun e=>Pv e.symm;have key:∀ u W',Bel W W'→V i u W' A→((fun j=>(j==i)||up j) n=false→Bel v W'∧∃ A:Option Nat,((fun j=>(j==i)||up j) iA=false→A=none)∧((fun j=>(j==i)||up j) iA=true→∃ q,A=some q∧(fun j=>if j=i then u else vals j) iA=.pointer (some ⟨q,0,none⟩)∧v.heap.size≤q∧aN W' q T zs.length)∧∀ j,j<n→j≠iA→(fun j=>(j==i)||up j) j=true→V j ((fun j=>if j=i then u else vals j) j) W' A)∧((fun j=>(j==i)||up j) n=true→K (fun j=>if j=i then u else vals j) W'):=fun u W' hW mM=>by
      refine⟨fun _=>⟨ae sS hW,A,fun h=>P6 (by simpa [Uv]using h),fun h=> ?_,fun j hj K4 hu=> ?_⟩,fun h=> ?_⟩
      ·obtain⟨q,e1,e2,e3,e4⟩:=WQ (by simpa [Uv]using h);exact⟨q,e1,by simpa [Uv]using e2,e3,e4.later hW⟩
      ·by_cases e:j=i
       ·simp only[e,if_true];exact mM
       ·have hu:up j=true:=by simpa [e]using hu
        simp only[e,if_false];exact hVm _ _ _ _ _ hW (hV j hj K4 hu)
      ·have:up n=true:=by simpa [P7 iN]using h
       rw[jr]at this;cases this
     rcases ij i o ho iN Pv a W A sS Tp hk (fun j o' k hj iP hd lR K4=>by
       obtain⟨q1,q2,_⟩:=gQ j o' k hj iP hd;rw[q2];exact hV j lR K4 q1) with⟨u,W',hr,hW,mM⟩|⟨f,args,hr,hc⟩
     ·exact No ⟨u,W',hr,fk iN,trivial,key u W' hW mM⟩
     ·refine Xk (Xk ⟨f,args,hr,fk iN,hc.mono ?_⟩);rintro e W' ⟨u,rfl,hW,mM⟩;exact⟨u,rfl,trivial,key u W' hW mM⟩
   ·obtain rfl:i=n:=by omega
    rw[hS]at ho;injection ho with ho
    subst ho;have jM:∀ j,j<i→up j=true:=oV fun d hd=>by
     have h2:=hD d hd;rw[Xj,decide_eq_true_eq]at h2;obtain⟨e,he,nT,nU⟩:=bj h2.2 hS;have kk:d<l.length:=by rw[hlen];omega
     have hq:(l[d]).dst.isSome=true:=by
      rw[Xu]at km;exact km _ (Xx (i:=d) (by rw[XM h2.1];simp))
     obtain⟨k,iP⟩:=XR.1 hq;exact(gQ d l[d] k (by simp) iP ⟨e,he,nT,nU⟩).1
    obtain⟨q,e1,e2,e3,e4⟩:=WQ (jM iA hAn);subst e1;obtain⟨W',hr,hK⟩:=hfin a W vals q sS hk e2 e3 e4 (fun j hj K4=>hV j hj K4 (jM j hj)) (fun j o' k hj iP hd lR=>(gQ j o' k hj iP hd).2.1);exact Xk (No ⟨W',hr,hSd,fun h=>by simp at h,fun _=>hK⟩)
 ·intro up vals vs W bA iH hT;exact hend vals vs W (hT.2 (bA n (by omega))) (fun i o k hi hd=>(iH i o k hi hd).1)
end RY
theorem J6 {W:World} {p o m:Nat} {u:TypeId} {x y z:List Value} (ho:aN W p u m) (h:W.rangeAt p o (x++(y++z))) (y':List Value) (hl:y'.length=y.length) (hm:o+(x++(y++z)).length≤m):(W.setCells p (o+x.length) y').rangeAt p o (x++(y'++z)):=by
 obtain⟨h1,h2⟩:=gU h;obtain⟨_,h3⟩:=gU h2;simp only[At]at hm;refine qN ?_ (qN ?_ ?_)
 ·exact World.rangeAt_setCells_apart h1 _ _ _ (Xk (No (by omega)))
 ·exact World.rangeAt_setCells_same _ _ _ _ (aX ho _ _ (by omega))
 ·rw[hl];exact World.rangeAt_setCells_apart h3 _ _ _ (Xk (Xk (by omega)))
def kq (W:World) (p o lo:Nat) (l:List Pl.Bl):Prop:=∃ u m vs G,aN W p u m∧o+l.length*3≤m∧W.rangeAt p o vs∧Rep W false (bF l.length aq) G (l.flatMap blD) vs∧(∀ b∈G,lo≤b∧b≠p)∧lo≤p
theorem kq.later {W W':World} {p o lo:Nat} {l:List Pl.Bl} (h:kq W p o lo l) (hb:Bel W W'):kq W' p o lo l:=by
 obtain⟨u,m,vs,G,h1,h2,h3,h4,h5,h6⟩:=h;exact⟨u,m,vs,G,h1.later hb,h2,aj h3 h1.lt hb,h4.later hb,h5,h6⟩
theorem kq.lt {W:World} {p o lo:Nat} {l:List Pl.Bl} (h:kq W p o lo l):p<W.heap.size:=by
 obtain⟨u,m,vs,G,h1,_⟩:=h;exact h1.lt
theorem kq.lo {W:World} {p o lo:Nat} {l:List Pl.Bl} (h:kq W p o lo l):lo≤p:=by
 obtain⟨u,m,vs,G,_,_,_,_,_,h6⟩:=h;exact h6
theorem kq.at_ {W:World} {p o lo:Nat} {l:List Pl.Bl} (h:kq W p o lo l) {k:Nat} (hk:k<l.length) {N:Nat} (hN:W.heap.size≤N):∃ a m,W.rangeAt p (o+k*3) [.string (l.getD k Pl.aG).kind,.string (l.getD k Pl.aG).name,.slice a (l.getD k Pl.aG).lines.length m]∧Dat (fun b=>lo≤b∧b≠p) N N W aV [bD (l.getD k Pl.aG).lines] [.slice a (l.getD k Pl.aG).lines.length m]:=by
 obtain⟨u,m,vs,G,h1,h2,h3,h4,h5,h6⟩:=h;obtain⟨ve,G',hE,hg,hG⟩:=h4.elE hk h3;have e:el aq.length k (l.flatMap blD)=blD (l.getD k Pl.aG):=jT Pl.aG blD 3 nz l k hk;rw[e]at hE;obtain⟨F2,v2,Sb,hc,r2⟩:=jc hE;subst hc;obtain⟨a,m',iH⟩:=r2.raw.aT;subst iH;exact⟨a,m',hg,F2,r2,fun b hb=>No ⟨h5 b (hG b (by rw[Sb];simp[hb])),zL (r2.lt b hb) hN⟩⟩
theorem kq.raw {W:World} {p o lo:Nat} {l:List Pl.Bl} (h:kq W p o lo l) {c:Nat} (hc:l.length≤maxLen∧l.length≤c):Raw W bL [cq l] [.slice (some ⟨p,o,none⟩) l.length c]:=by
 obtain⟨u,m,vs,G,h1,h2,h3,h4,h5,h6⟩:=h;exact .row _ _ p o l.length c vs (l.flatMap blD) h1.lt ⟨hc.1,hc.2⟩ h3 h4.raw .nil
theorem kq.put {W:World} {p o lo N:Nat} {l:List Pl.Bl} (h:kq W p o lo l) {k:Nat} (hk:k<l.length) (x:Pl.Bl) {lv:Value} (hD:Dat (fun b=>lo≤b∧b≠p) N N W aV [bD x.lines] [lv]) (hN:p<N):kq (W.setCells p (o+k*3) [.string x.kind,.string x.name,lv]) p o lo (l.set k x):=by
 obtain⟨u,m,vs,G,h1,h2,h3,h4,h5,h6⟩:=h;obtain⟨FD,rD,fD⟩:=hD;have hfD:∀ b∈FD,lo≤b∧b≠p:=fun b hb=>by
  rcases fD b hb with q|q
  ·exact q.1
  ·exact⟨by omega,by omega⟩
 have hm:Marks (fun b=>b=p) W (W.setCells p (o+k*3) [.string x.kind,.string x.name,lv]):=bf (S:=fun b=>b=p) rfl _ _ _;have ik:vs.length=l.length*3:=by rw[h4.len,bU];rfl
 have hrc:=h4;rw[mV hk]at h4;obtain⟨F1,F2,d1,d2,c1,c2,hF,hd,bn,r1,r2⟩:=Rep.cut _ h4;obtain⟨F3,F4,d3,d4,c3,c4,Sb,hd2,B9,r3,r4⟩:=Rep.cut _ r2;subst hF;subst bn;subst Sb;subst B9;subst hd2;have AV:c1.length=k*3:=by rw[r1.len,bU];rfl
 have hc3:c3.length=3:=by rw[r3.len];rfl
 have Uh:d1.length=k*3:=by rw[r1.raw.typ.len,bU];rfl
 have KX:d3.length=3:=by rw[r3.raw.typ.len];rfl
 have Ti:l=l.take k++(l.getD k Pl.aG::l.drop (k+1)):=by
  have e:l.getD k Pl.aG=l[k]:=by simp[hk]
  rw[e,← XA hk,YK]
 have ht:((l.take k).flatMap blD).length=k*3:=by rw[jx blD 3 nz,Xo,Nat.min_eq_left (by omega)]
 have hs:l.flatMap blD=(l.take k).flatMap blD++(blD (l.getD k Pl.aG)++(l.drop (k+1)).flatMap blD):=by
  conv=>lhs;rw[Ti]
  rw[Xv,XP]
 obtain⟨g1,g2⟩:=List.append_inj (hd.symm.trans hs) (by rw[Uh,ht]);obtain⟨g3,g4⟩:=List.append_inj g2 (by rw[KX];rfl);subst g1;subst g4;have WX:(l.set k x).flatMap blD=(l.take k).flatMap blD++(blD x++(l.drop (k+1)).flatMap blD):=by
  rw[List.set_eq_take_append_cons_drop,if_pos hk,Xv,XP]
 refine⟨u,m,c1++([.string x.kind,.string x.name,lv]++c4),F1++((FD++[])++F4),ig _ _ _ h1,by rw[YE];exact h2, ?_, ?_,fun b hb=> ?_,h6⟩
 ·have:=J6 h1 h3 [.string x.kind,.string x.name,lv] (by rw[hc3];rfl) (by rw[ik];exact h2);rw[AV]at this;exact this
 ·rw[YE,WX,mV hk];have hx:Rep W false aq (FD++[]) (blD x) [.string x.kind,.string x.name,lv]:=cT x.kind x.name rD;exact(r1.app (hx.app r4)).cO hm fun b hb e=>by
   simp only[XC,List.not_mem_nil,or_false]at hb;rcases hb with hb|hb|hb
   ·exact(h5 b (by simp[hb])).2 e
   ·exact(hfD b hb).2 e
   ·exact(h5 b (by simp[hb])).2 e
 ·simp only[XC,List.not_mem_nil,or_false]at hb;rcases hb with hb|hb|hb
  ·exact h5 b (by simp[hb])
  ·exact hfD b hb
  ·exact h5 b (by simp[hb])
theorem Ku {W:World} {F:List Nat} {l:List Pl.Bl} {v:Value} {lo:Nat} (h:Rep W false bL F [cq l] [v]) (nd:F.Nodup) (cX:∀ b∈F,lo≤b) (hl:0<l.length):∃ p o c,v=.slice (some ⟨p,o,none⟩) l.length c∧l.length≤c∧kq W p o lo l:=by
 rcases h.slice with⟨_,h0,_⟩|⟨p,o,c,u,m,G,hv,hF,hn,ho,hm,_,vs,hr,hR⟩
 ·omega
 subst hF;rw[Yi]at nd;exact⟨p,o,c,hv,hn.2.1,u,m,vs,G,ho,hm,hr,hR,fun b hb=>⟨cX b (by simp[hb]),fun e=>nd.1 (e ▸ hb)⟩,cX p (by simp)⟩
namespace Pl
theorem Kw {α:Type} (l:List α) (k:Nat) (d x:α) (hk:k<l.length):(l.set k x).getD k d=x:=by
 simp[hk]
theorem FI {α:Type} (l:List α) (k:Nat) (x y:α):(l.set k x).set k y=l.set k y:=by simp
end Pl
def pN (lo p:Nat) (W:World) (sh:List Sh) (A:List Dt) (c:List Value):Prop:=∃ F,Rep W false sh F A c∧∀ b∈F,lo≤b∧b≠p
theorem pN.later {lo p:Nat} {W W':World} {sh:List Sh} {A:List Dt} {c:List Value} (h:pN lo p W sh A c) (hb:Bel W W'):pN lo p W' sh A c:=by
 obtain⟨F,r,f⟩:=h;exact⟨F,r.later hb,f⟩
theorem pN.cO {lo p:Nat} {W W':World} {sh:List Sh} {A:List Dt} {c:List Value} (h:pN lo p W sh A c) (hb:Marks (fun b=>b=p) W W'):pN lo p W' sh A c:=by
 obtain⟨F,r,f⟩:=h;exact⟨F,r.cO hb fun b gY e=>(f b gY).2 e,f⟩
theorem pN.dat {lo p N:Nat} {W:World} {sh:List Sh} {A:List Dt} {c:List Value} (h:pN lo p W sh A c) (hN:W.heap.size≤N):Dat (fun b=>lo≤b∧b≠p) N N W sh A c:=by
 obtain⟨F,r,f⟩:=h;exact⟨F,r,fun b hb=>No ⟨f b hb,zL (r.lt b hb) hN⟩⟩
theorem kq.there {W:World} {p o lo:Nat} {l:List Pl.Bl} (h:kq W p o lo l) {k:Nat} (hk:k<l.length):W.there p (o+k*3) 3:=by
 obtain⟨u,m,vs,G,h1,h2,_⟩:=h;exact aX h1 _ _ (by omega)
namespace Pl
def jJ (g:Bl→Bl) (s:List Bl) (i:Nat):List Bl:=(s.map g).take i++s.drop i
theorem E0 (g:Bl→Bl) (s:List Bl) (i:Nat) (hi:i≤s.length):(jJ g s i).length=s.length:=by
 unfold jJ;rw[At,Xo,Xy,XT];omega
theorem Dx (g:Bl→Bl) (s:List Bl):jJ g s 0=s:=by simp[jJ]
theorem Gh (g:Bl→Bl) (s:List Bl):jJ g s s.length=s.map g:=by
 unfold jJ;rw[Xp (by simp),List.drop_length,Xl]
theorem mq (g:Bl→Bl) (s:List Bl) (i:Nat) (hi:i<s.length):jJ g s i=(s.map g).take i++s.getD i aG::s.drop (i+1):=by
 have e:s.getD i aG=s[i]:=by simp[hi]
 unfold jJ;rw[e,← XA hi]
theorem BX (g:Bl→Bl) (s:List Bl) (i:Nat) (hi:i<s.length):((s.map g).take i).length=i:=by rw[Xo,XT];omega
theorem Gw (g:Bl→Bl) (s:List Bl) (i:Nat) (hi:i<s.length):(jJ g s i).getD i aG=s.getD i aG:=by
 rw[mq g s i hi];have h:=BX g s i hi;rw[Yf,Ym (by omega),h];simp
theorem xL (g:Bl→Bl) (s:List Bl) (i:Nat) (hi:i<s.length) (x:Bl):(jJ g s i).set i x=(s.map g).take i++x::s.drop (i+1):=by
 rw[mq g s i hi];have h:=BX g s i hi;rw[List.set_append_right _ _ (by omega),h];simp
theorem CQ (g:Bl→Bl) (s:List Bl) (i:Nat) (hi:i<s.length):(jJ g s i).set i (s.getD i aG)=jJ g s i:=by rw[xL g s i hi,mq g s i hi]
theorem DF (g:Bl→Bl) (s:List Bl) (i:Nat) (hi:i<s.length):(jJ g s i).set i (g (s.getD i aG))=jJ g s (i+1):=by
 have e:s.getD i aG=s[i]:=by simp[hi]
 rw[xL g s i hi];unfold jJ;rw[XI (by simpa using hi),XG,e];simp
def dJ (kind:ByteArray) (acc:List Ln) (r:Ru):List Ln:=if !r.many&&decide ((aO acc r.key).length=0) then bS kind acc ⟨r.key,r.dflt⟩ else acc
def dq (kind:ByteArray) (l:List Ln) (rs:List Ru):List Ln:=rs.foldl (dJ kind) l
def fs (b:Bl):Bl:=⟨b.kind,b.name,dq b.kind b.lines (ah b.kind)⟩
def bN (s:List Bl):List Bl:=if bw s then s.map fs else []
theorem zA (l:List Ru) (k:Nat) (h:k<l.length):l.take (k+1)=l.take k++[l.getD k bu]:=by
 have e:l.getD k bu=l[k]:=by simp[h]
 rw[e,XI h]
theorem xx (kind:ByteArray) (l:List Ln) (rs:List Ru) (k:Nat) (hk:k<rs.length):dq kind l (rs.take (k+1))=dJ kind (dq kind l (rs.take k)) (rs.getD k bu):=by
 rw[zA rs k hk];simp[dq]
theorem vC (kind:ByteArray) (l:List Ln) (r:Ru):(dJ kind l r).length≤l.length+1:=by
 unfold dJ;split
 ·rw[uu];exact zE
 ·omega
theorem mB (kind:ByteArray):∀ (rs:List Ru) (l:List Ln),(dq kind l rs).length≤l.length+rs.length
 |[],l=>zE
 |r::rs,l=>by
  have:=mB kind rs (dJ kind l r);have h2:=vC kind l r;rw[dq]at this;rw[dq,List.foldl_cons,Xm];omega
theorem vL (kind:ByteArray) (l:List Ln) (r:Ru) (y:Ln) (h:y∈dJ kind l r):y∈l∨y=⟨r.key,r.dflt⟩:=by
 unfold dJ at h;split at h
 ·rw[lz]at h;exact h.symm
 ·exact No h
theorem l6 (kind:ByteArray):∀ (rs:List Ru) (l:List Ln) (y:Ln),y∈dq kind l rs→y∈l∨∃ r∈rs,y=⟨r.key,r.dflt⟩
 |[],l,y,h=>No h
 |r::rs,l,y,h=>by
  rw[dq,List.foldl_cons]at h;rcases l6 kind rs (dJ kind l r) y (by rw[dq];exact h) with h|⟨q,hq,e⟩
  ·rcases vL kind l r y h with h|h
   ·exact No h
   ·exact Xk ⟨r,by simp,h⟩
  ·exact Xk ⟨q,by simp[hq],e⟩
end Pl
theorem ey (kind:ByteArray):(Pl.ah kind).length≤12:=by
 unfold Pl.ah;split
 ·decide
 ·split
  ·decide
  ·split<;>decide
theorem Be {m:Nat} {b:Pl.Bl} (h:Sm m b) (k:Nat):(Pl.dq b.kind b.lines ((Pl.ah b.kind).take k)).length≤m+12∧∀ x∈Pl.dq b.kind b.lines ((Pl.ah b.kind).take k),x.ws.length≤4194304:=by
 refine⟨?_,fun x hx=> ?_⟩
 ·have h1:=Pl.mB b.kind ((Pl.ah b.kind).take k) b.lines;have h2:=h.ln;have h3:=ey b.kind;rw[Xo]at h1;omega
 ·rcases Pl.l6 _ _ _ _ hx with h1|⟨r,hr,e⟩
  ·exact(h.ws x h1).1
  ·rw[e];exact ri b.kind r (List.mem_of_mem_take hr)
theorem GL {S:Nat→Prop} {B lo:Nat} {W:World} {l:List Pl.Ru} {v:Value} (h:Dat S B lo W [.row 75 aB] [bV l] [v]) {k:Nat} (hk:k<l.length):∃ p o c a1 c1 a3 c3,v=.slice (some ⟨p,o,none⟩) l.length c∧p<W.heap.size∧W.rangeAt p (o+k*4) [.string (l.getD k Pl.bu).key,.slice a1 (l.getD k Pl.bu).args.length c1,.bool (l.getD k Pl.bu).many,.slice a3 (l.getD k Pl.bu).dflt.length c3]∧Dat S B lo W bm [.row (l.getD k Pl.bu).dflt.length (txD (l.getD k Pl.bu).dflt)] [.slice a3 (l.getD k Pl.bu).dflt.length c3]:=by
 obtain⟨F,r,f⟩:=h;rcases r.slice with⟨_,h0,_⟩|⟨p,o,c,u,m,G,hv,hF,hn,ho,hm,_,vs,hr,hR⟩
 ·omega
 obtain⟨ve,G',hE,hg,hG⟩:=hR.elE hk hr;have e:el aB.length k (l.flatMap ruD)=ruD (l.getD k Pl.bu):=jT Pl.bu ruD 4 BP l k hk;rw[e]at hE;obtain⟨F1,v1,F3,v3,Sb,hc,r1,r3⟩:=nA hE;subst hc;obtain⟨a1,m1,h9⟩:=r1.raw.aT;subst h9;obtain⟨a3,m3,wC⟩:=r3.raw.aT;subst wC;exact⟨p,o,c,a1,m1,a3,m3,hv,ho.lt,hg,F3,r3,fun b hb=>f b (by rw[hF];exact Yt _ (hG b (by rw[Sb];simp[hb])))⟩
theorem oQ {P:Program} (lo:Nat) (t ty e:TypeId) (size bytes:Nat) (z:Value) (ht:P.underlying t=some (.slice e)) (hinf:(P.info? e).map (fun i=>(i.zero,i.size,i.bytes))=some (some z,size,bytes)) (Av:z.cells.size=size) (hs0:0<size) (hb:bytes≤1000) (sh:List Sh) (hk:sh.length=size)
  {W:World} {v:Value} {n:Nat} {G:List Nat} {es:List Dt} {xs:List Value} (h:Gr W lo e sh v n G es xs) {F:List Nat} {m:Nat} {ds:List Dt} {s:Value} (hr:Rep W false [.row e sh] F [.row m ds] [s]) (nd:F.Nodup) (hF:∀ b∈F,lo≤b∧b ∉ G∧v.ownBlock≠some b) (hn:n+m≤1000000000) (cX:lo≤W.heap.size):
  ∃ u W' G' xs',(Builtin.append_ #[t,t] ty #[v,s]).run P W=.ok u W'∧Gr W' lo e sh u (n+m) G' (es++ds) xs'∧W.grownBy W' v.ownBlock∧(u.ownBlock=v.ownBlock∨u.ownBlock=some W.heap.size):=by
 obtain⟨i,hi,ei⟩:=XH.1 hinf;simp only[Prod.mk.injEq]at ei;obtain⟨hz,hs,eS⟩:=ei;have DU:n+m≤maxLen:=by unfold maxLen;omega
 have dG:(n+m)*bytes≤140737488355328:=Xg (Nat.mul_le_mul hn hb) (by omega);subst hk;have key:∀ (u:Value) (W':World) (G2:List Nat) (vs:List Value),Rep W false (bF m sh) G2 ds vs→(∀ b∈G2,b∈F)→G2.Nodup→W'.ownsRow lo e sh.length u (n+m) (xs++vs)→W.grownBy W' v.ownBlock→(u.ownBlock=v.ownBlock∨u.ownBlock=some W.heap.size)→Gr W' lo e sh u (n+m) (G++G2) (es++ds) (xs++vs):=by
  intro u W' G2 vs hR jM US dN hg hu;refine⟨dN, ?_, ?_, ?_⟩
  ·rw[gH];exact(h.rep.grown hg fun b hb=>(h.fr b hb).2).app (hR.grown hg fun b hb=>(hF b (jM b hb)).2.2)
  ·rw[XY];exact⟨h.nd,US,fun a ha b hb e=>(hF b (jM b hb)).2.1 (e ▸ ha)⟩
  ·intro b hb;rcases XC.1 hb with hb|hb
   ·refine⟨(h.fr b hb).1,fun e=> ?_⟩;rcases hu with q|q
    ·exact(h.fr b hb).2 (q ▸ e)
    ·rw[q]at e;injection e with e;have:=h.rep.lt b hb;omega
   ·refine⟨(hF b (jM b hb)).1,fun e=> ?_⟩;rcases hu with q|q
    ·exact(hF b (jM b hb)).2.2 (q ▸ e)
    ·rw[q]at e;injection e with e;have:=hR.lt b hb;omega
 rcases hr.slice with⟨_,rfl,rfl,rfl,a,rfl⟩|⟨p,o,c,u,mm,G2,rfl,rfl,P2,ho,hle,_,vs,Ea,hR⟩
 ·cases a with
  |none=>
   have bC:=run_append_owned_none (P:=P) (w:=W) lo t ty e i sh.length ht hi v n xs h.row;refine⟨v,W,G++[],xs++[],bC,key v W [] [] (by rw[ff];exact .nil) (by simp) XL (by rw[Xl];exact h.row) ⟨rfl,rfl,rfl,zE,fun _ _ _=>rfl⟩ (No rfl),⟨rfl,rfl,rfl,zE,fun _ _ _=>rfl⟩,No rfl⟩
  |some ad=>
   obtain⟨u,W',bC,h2,h3,_,h5⟩:=run_append_own_at (P:=P) W lo t ty e i z sh.length bytes ht hi hz hs eS Av hs0 v n xs h.row ad 0 0 [] (by simp) (fun j u h=>by simp at h) (fun u h=>by cases h) DU dG cX;exact⟨u,W',_,_,bC,key u W' [] [] (by rw[ff];exact .nil) (by simp) XL h2 h3 h5,h3,h5⟩
 ·rw[Yi]at nd;obtain⟨u2,W',bC,h2,h3,_,h5⟩:=run_append_own_at (P:=P) W lo t ty e i z sh.length bytes ht hi hz hs eS Av hs0 v n xs h.row ⟨p,o,none⟩ m c vs (by rw[hR.len,bU]) (fun j u h=>by rw[Addr.add_mid];exact Ea j u h) (fun u h=>hR.raw.one u h) DU dG cX;exact⟨u2,W',_,_,bC,key u2 W' G2 vs hR (fun b hb=>by simp[hb]) nd.2 h2 h3 h5,h3,h5⟩
theorem KA {W:World} {t:TypeId} {sh:List Sh} {F:List Nat} {d:List Dt} {cs:Array Value} (h:Rep W false sh F d cs.toList):Rep (W.alloc (.cells cs t)) false [.row t sh] (W.heap.size::(F++[])) [.row 1 d] [.slice (some ⟨W.heap.size,0,none⟩) 1 1]:=by
 have hl:cs.size=sh.length:=by rw[← h.len];simp
 have hb:Bel W (W.alloc (.cells cs t)):=af zR _;refine .row t sh W.heap.size 0 1 1 t sh.length cs.toList d F (aN.alloc W cs t _ hl) (by omega) (by simp) ⟨by unfold maxLen;omega,zE⟩ (au.new W cs t _ rfl).at_ ?_ .nil;rw[dk,ff,Xl];exact h.later hb
namespace Pl
structure Ch where
 what:Int
 kind:ByteArray
 name:ByteArray
 key:ByteArray
 lines:List Ln
def ie:Ch:=⟨0,aJ,aJ,aJ,[]⟩
def dU:List Ln→List Ln→Bool
 |[],[]=>true
 |a::x,b::y=>(a.key.toList==b.key.toList)&&cL a.ws b.ws&&dU x y
 |_,_=>false
theorem xJ:∀ a b:List Ln,a.length≠b.length→dU a b=false
 |[],[],h=>by simp at h
 |[],_::_,_=>rfl
 |_::_,[],_=>rfl
 |a::x,b::y,h=>by rw[dU,xJ x y (by simpa using h),Bool.and_false]
theorem KP {a b:List Ln} {k:Nat} (h1:k<a.length) (h2:k<b.length):dU (a.drop k) (b.drop k)=(((a.getD k aK).key.toList==(b.getD k aK).key.toList)&&cL (a.getD k aK).ws (b.getD k aK).ws&&dU (a.drop (k+1)) (b.drop (k+1))):=by
 have e1:a.getD k aK=a[k]:=by simp[h1]
 have e2:b.getD k aK=b[k]:=by simp[h2]
 rw[XA h1,XA h2,dU,e1,e2]
def dh (a b:Bl) (r:Ru):List Ch:=if dU (aO a.lines r.key) (aO b.lines r.key) then [] else [⟨if (aO b.lines r.key).length=0 then 4 else 3,a.kind,a.name,r.key,aO b.lines r.key⟩]
def fJ (a b:Bl):List Ch:=(ah a.kind).flatMap (dh a b)
def dO (b:Bl):Ch:=⟨1,b.kind,b.name,aJ,[]⟩
def nq (b:Bl):Ch:=⟨2,b.kind,b.name,aJ,b.lines⟩
def bR (a:List Bl) (y:Bl):List Ch:=match di a y.kind y.name with
 |none=> [nq y]
 |some k=>fJ (a.getD k aG) y
def bY (a b:List Bl):List Ch:=if bw a&&bw b then (a.filter (je b)).map dO++b.flatMap (bR a) else []
end Pl
def chD (c:Pl.Ch):List Dt:=[.i c.what,.s c.kind,.s c.name,.s c.key,bD c.lines]
def kK (l:List Pl.Ch):Dt:=.row l.length (l.flatMap chD)
theorem Kg (c:Pl.Ch):(chD c).length=5:=rfl
def Nk (p:Nat) (o:Nat) (p2:Nat) (o2:Nat) (n:Nat) (ac:Nat) (bc:Nat) (k:Nat) (x:Pl.Ln) (y:Pl.Ln):Nat→Value→World→Prop
 |0,vv,_=>vv=.slice (some ⟨p,o,none⟩) n ac
 |1,vv,_|6,vv,_=>vv=.int .i64 (k:Int)
 |2,vv,_|3,vv,_=>vv=.pointer (some ⟨p,o+k*2,none⟩)
 |4,vv,_=>vv=.string x.key
 |5,vv,_=>vv=.slice (some ⟨p2,o2,none⟩) n bc
 |7,vv,_|8,vv,_=>vv=.pointer (some ⟨p2,o2+k*2,none⟩)
 |9,vv,_=>vv=.string y.key
 |10,vv,_|11,vv,_|24,vv,_=>vv=.bool true
 |12,vv,_|13,vv,_|14,vv,_|15,vv,_|16,vv,_|17,vv,_|18,vv,_|19,vv,_|20,vv,_|21,vv,_|22,vv,_|23,vv,_=>vv=undef
 |_,_,_=>True
theorem DI (p:Nat) (o:Nat) (p2:Nat) (o2:Nat) (n:Nat) (ac:Nat) (bc:Nat) (k:Nat) (x:Pl.Ln) (y:Pl.Ln):∀ jj vv W W',Bel W W'→Nk p o p2 o2 n ac bc k x y jj vv W→Nk p o p2 o2 n ac bc k x y jj vv W':=by
 intro jj vv W W' hb h;match jj with
 |0|1|2|3|4|5|6|7|8|9|10|11|12|13|14|15|16|17|18|19|20|21|22|23|24=>exact h
 |n+25=>exact trivial
def NQ (p:Nat) (o:Nat) (p2:Nat) (o2:Nat) (n:Nat) (ac:Nat) (bc:Nat) (k:Nat) (x:Pl.Ln) (y:Pl.Ln) (xa:Option Addr) (ya:Option Addr) (xc:Nat) (yc:Nat) (wq:Bool):Nat→Value→World→Prop
 |0,vv,_|12,vv,_=>vv=.slice (some ⟨p,o,none⟩) n ac
 |1,vv,_|6,vv,_|13,vv,_|18,vv,_=>vv=.int .i64 (k:Int)
 |2,vv,_|3,vv,_|14,vv,_=>vv=.pointer (some ⟨p,o+k*2,none⟩)
 |4,vv,_=>vv=.string x.key
 |5,vv,_|17,vv,_=>vv=.slice (some ⟨p2,o2,none⟩) n bc
 |7,vv,_|8,vv,_|19,vv,_=>vv=.pointer (some ⟨p2,o2+k*2,none⟩)
 |9,vv,_=>vv=.string y.key
 |10,vv,_|11,vv,_=>vv=.bool false
 |15,vv,_=>vv=.pointer (some ⟨p,o+k*2+1,none⟩)
 |16,vv,_=>vv=.slice xa x.ws.length xc
 |20,vv,_=>vv=.pointer (some ⟨p2,o2+k*2+1,none⟩)
 |21,vv,_=>vv=.slice ya y.ws.length yc
 |22,vv,_=>vv=.bool wq
 |23,vv,_|24,vv,_=>vv=.bool (!wq)
 |_,_,_=>True
theorem DD (p:Nat) (o:Nat) (p2:Nat) (o2:Nat) (n:Nat) (ac:Nat) (bc:Nat) (k:Nat) (x:Pl.Ln) (y:Pl.Ln) (xa:Option Addr) (ya:Option Addr) (xc:Nat) (yc:Nat) (wq:Bool):∀ jj vv W W',Bel W W'→NQ p o p2 o2 n ac bc k x y xa ya xc yc wq jj vv W→NQ p o p2 o2 n ac bc k x y xa ya xc yc wq jj vv W':=by
 intro jj vv W W' hb h;match jj with
 |0|1|2|3|4|5|6|7|8|9|10|11|12|13|14|15|16|17|18|19|20|21|22|23|24=>exact h
 |n+25=>exact trivial
theorem Fj (a b:List Pl.Ln) (va vb:Value) (w:World) (ha:Raw w aV [bD a] [va]) (hb:Raw w aV [bD b] [vb]):
  Calls Tryz.prog 45 #[va,vb] w fun e w'=>e=.returned (.bool (Pl.dU a b))∧Bel w w':=by
 obtain⟨aa,ac,rfl⟩:=ha.aT;obtain⟨ab,bc,rfl⟩:=hb.aT;obtain⟨R,hR⟩:∃ R,R=Pl.dU a b:=⟨_,rfl⟩
 have HR:Hid (R=Pl.dU a b):=hR;rw[← hR];clear hR;by_cases hlen:a.length=b.length
 rotate_left
 ·have dr:((a.length:Int) !=(b.length:Int))=true:=by simp;omega
  have HE:Hid (R=false):=HR.out.trans (Pl.xJ a b hlen);clear hlen ha hb;go_enter Tryz.func45,Tryz.ntmps45
  go_wp2;go_ret;exact⟨Pl.ar HE.out.symm,zR⟩
 have HA:=uh ha;have HB:=uh hb;obtain⟨n,hn⟩:∃ n,n=a.length:=⟨_,rfl⟩
 have hm:b.length=n:=by omega
 rw[← hn,hm];have HN:Hid (n=a.length∧n=b.length):=⟨hn,hm.symm⟩
 have uS:n≤maxLen:=by
  rcases bO ha with h|⟨_,_,_,_,_,h,_⟩
  ·omega
  ·omega
 unfold maxLen at uS;have V6:((n:Int) !=(n:Int))=false:=by simp
 clear ha hb hn hm hlen;go_enter Tryz.func45,Tryz.ntmps45
 go_wp2;go_loopw [5] (fun i wr=>∃ k:Nat,k≤n∧i=.int .i64 k∧Hid (R=Pl.dU (a.drop k) (b.drop k))∧Bel w wr) (fun i _=>n - (intOf i).toNat)
 case atStart=>exact⟨0,zN,rfl,HR,zR⟩
 case round=>
  obtain⟨k,hk,rfl,HI,hB⟩:=hrel;have kv:=uh hB;clear hB;by_cases bq:k<n
  rotate_left
  ·obtain rfl:k=n:=by omega
   have HE:Hid (R=true):=by show R=_;rw[HI.out,Xz (by have:=HN.out.1;omega),Xz (by have:=HN.out.2;omega)];rfl
   go_wp2;go_ret;exact⟨Pl.ar HE.out.symm,kv.out⟩
  have hkA:k<a.length:=by have:=HN.out.1;omega
  have hkB:k<b.length:=by have:=HN.out.2;omega
  rcases bO (HA.out.later kv.out) with⟨e0,_⟩|⟨p,o,c,hv,hp,_,aE⟩
  ·omega
  rw[← HN.out.1]at hv;injection hv with g1 _ g3
  subst g1;subst g3;rcases bO (HB.out.later kv.out) with⟨e0,_⟩|⟨p2,o2,c2,iH,tA,_,iJ⟩
  ·omega
  rw[← HN.out.2]at iH;injection iH with k1 _ k3
  subst k1;subst k3;obtain⟨xa,xc,dm,dH⟩:=aE k hkA;obtain⟨ya,yc,ji,lQ⟩:=iJ k hkB;have HS:=uh (Pl.KP hkA hkB);obtain⟨x,hx⟩:∃ x,x=a.getD k Pl.aK:=⟨_,rfl⟩
  obtain⟨y,hy⟩:∃ y,y=b.getD k Pl.aK:=⟨_,rfl⟩
  rw[← hx]at HS dm dH;rw[← hy]at HS ji lQ;have cU:=uh dm;have Cd:=uh ji;have sx:=uh hp;have Qe:=uh tA;obtain⟨wq,yN⟩:∃ wq,wq=Pl.cL x.ws y.ws:=⟨_,rfl⟩
  have Js:Hid (∀ X,Bel wr X→Calls Tryz.prog 60 #[.slice xa x.ws.length xc,.slice ya y.ws.length yc] X fun e w'=>e=.returned (.bool wq)∧Bel X w'):=fun X hX=>by rw[yN];exact uz x.ws y.ws _ _ X (dH.later hX) (lQ.later hX)
  rw[← yN]at HS;have cZ:(0:Int)≤(k:Int):=by omega
  have dy:(k:Int)<(n:Int):=by omega
  clear hx hy dm ji dH lQ hp tA aE iJ yN;go_upto_region 6 with fail
  cases dr:(x.key.toList==y.key.toList)
  ·have HE:Hid (R=false):=by show R=_;rw[HI.out,HS.out,dr];rfl
   refine RY.aM wr zR (Nk p o p2 o2 n ac bc k x y) (DI _ _ _ _ _ _ _ _ _ _) (by kernel_rfl) (by kernel_rfl) (by kernel_rfl) (by kernel_rfl) ?_ ?_
   ·intro ii o' ho a X hX hk hd;match ii,ho with
    |0,rfl=>
     exact RY.n (RY.p (.slice (some ⟨p,o,none⟩) n ac) (by simp[execOp,go_sem,RY.K hk 0 (.slice (some ⟨p,o,none⟩) n ac)]))
    |1,rfl|6,rfl=>
     exact RY.n (RY.p (.int .i64 (k:Int)) (by simp[execOp,go_sem,RY.K hk 5 (.int .i64 (k:Int))]))
    |2,rfl=>
     exact RY.n (RY.p (.pointer (some ⟨p,o+k*2,none⟩)) (by simp[execOp,go_sem,RY.E hd 0 17,RY.E hd 1 18,cZ,dy]))
    |3,rfl=>
     exact RY.n (RY.p (.pointer (some ⟨p,o+k*2,none⟩)) (by simp[execOp,go_sem,RY.E hd 2 19]))
    |4,rfl=>
     have e20:=RY.E hd 3 20;have ypl_:=zL sx.out hX.size;have ycl_:X.cell? ⟨p,o+k*2,none⟩=some (.string x.key):=by have q:=aF (aj cU.out sx.out hX) 0 _ rfl;simpa using q
     exact RY.n (RY.p (.string x.key) (by simp[execOp,go_sem,e20,ycl_]))
    |5,rfl=>
     exact RY.n (RY.p (.slice (some ⟨p2,o2,none⟩) n bc) (by simp[execOp,go_sem,RY.K hk 1 (.slice (some ⟨p2,o2,none⟩) n bc)]))
    |7,rfl=>
     exact RY.n (RY.p (.pointer (some ⟨p2,o2+k*2,none⟩)) (by simp[execOp,go_sem,RY.E hd 5 22,RY.E hd 6 23,cZ,dy]))
    |8,rfl=>
     exact RY.n (RY.p (.pointer (some ⟨p2,o2+k*2,none⟩)) (by simp[execOp,go_sem,RY.E hd 7 24]))
    |9,rfl=>
     have e25:=RY.E hd 8 25;have ypl_:=zL Qe.out hX.size;have ycl_:X.cell? ⟨p2,o2+k*2,none⟩=some (.string y.key):=by have q:=aF (aj Cd.out Qe.out hX) 0 _ rfl;simpa using q
     exact RY.n (RY.p (.string y.key) (by simp[execOp,go_sem,e25,ycl_]))
    |10,rfl=>
     exact RY.n (RY.p (.bool true) (by simp[execOp,go_sem,RY.E hd 4 21,RY.E hd 9 26,dr]))
    |11,rfl=>
     exact RY.n (RY.p (.bool true) (by simp[execOp,go_sem,RY.E hd 10 27]))
    |12,rfl|13,rfl|14,rfl|15,rfl|16,rfl|17,rfl|18,rfl|19,rfl|20,rfl|21,rfl|22,rfl|23,rfl=>
     exact RY.off hd 11 28
    |24,rfl=>
     exact RY.n (RY.p (.bool true) (by simp[execOp,go_sem,RY.E hd 11 28,RY.E hd 23 40]))
    |n+25,ho=>simp at ho
   intro X vs hX bn;have q41:vs 41=_:=bn 24 _ 41 rfl rfl;simp only[RY.aC,Act.put,so,As,An];rw[q41];generalize vs 17=s17,vs 18=s18,vs 19=s19,vs 20=s20,vs 21=s21,vs 22=s22,vs 23=s23,vs 24=s24,vs 25=s25,vs 26=s26,vs 27=s27,vs 28=s28,vs 29=s29,vs 30=s30,vs 31=sL,vs 32=pS,vs 33=pY,vs 34=qo,vs 35=nP,vs 36=mU,vs 37=nS,vs 38=mT,vs 39=nW,vs 40=s40;clear bn q41;clear dr;have jk:=uh (ae kv.out hX);clear hX;go_wp2;go_ret;exact⟨Pl.ar HE.out.symm,jk.out⟩
  ·have HE:Hid (R=(wq&&Pl.dU (a.drop (k+1)) (b.drop (k+1)))):=by show R=_;rw[HI.out,HS.out,dr];rfl
   refine RY.aM wr zR (NQ p o p2 o2 n ac bc k x y xa ya xc yc wq) (DD _ _ _ _ _ _ _ _ _ _ _ _ _ _ _) (by kernel_rfl) (by kernel_rfl) (by kernel_rfl) (by kernel_rfl) ?_ ?_
   ·intro ii o' ho a X hX hk hd;match ii,ho with
    |0,rfl=>
     exact RY.n (RY.p (.slice (some ⟨p,o,none⟩) n ac) (by simp[execOp,go_sem,RY.K hk 0 (.slice (some ⟨p,o,none⟩) n ac)]))
    |1,rfl|6,rfl=>
     exact RY.n (RY.p (.int .i64 (k:Int)) (by simp[execOp,go_sem,RY.K hk 5 (.int .i64 (k:Int))]))
    |2,rfl=>
     exact RY.n (RY.p (.pointer (some ⟨p,o+k*2,none⟩)) (by simp[execOp,go_sem,RY.E hd 0 17,RY.E hd 1 18,cZ,dy]))
    |3,rfl=>
     exact RY.n (RY.p (.pointer (some ⟨p,o+k*2,none⟩)) (by simp[execOp,go_sem,RY.E hd 2 19]))
    |4,rfl=>
     have e20:=RY.E hd 3 20;have ypl_:=zL sx.out hX.size;have ycl_:X.cell? ⟨p,o+k*2,none⟩=some (.string x.key):=by have q:=aF (aj cU.out sx.out hX) 0 _ rfl;simpa using q
     exact RY.n (RY.p (.string x.key) (by simp[execOp,go_sem,e20,ycl_]))
    |5,rfl=>
     exact RY.n (RY.p (.slice (some ⟨p2,o2,none⟩) n bc) (by simp[execOp,go_sem,RY.K hk 1 (.slice (some ⟨p2,o2,none⟩) n bc)]))
    |7,rfl=>
     exact RY.n (RY.p (.pointer (some ⟨p2,o2+k*2,none⟩)) (by simp[execOp,go_sem,RY.E hd 5 22,RY.E hd 6 23,cZ,dy]))
    |8,rfl=>
     exact RY.n (RY.p (.pointer (some ⟨p2,o2+k*2,none⟩)) (by simp[execOp,go_sem,RY.E hd 7 24]))
    |9,rfl=>
     have e25:=RY.E hd 8 25;have ypl_:=zL Qe.out hX.size;have ycl_:X.cell? ⟨p2,o2+k*2,none⟩=some (.string y.key):=by have q:=aF (aj Cd.out Qe.out hX) 0 _ rfl;simpa using q
     exact RY.n (RY.p (.string y.key) (by simp[execOp,go_sem,e25,ycl_]))
    |10,rfl=>
     exact RY.n (RY.p (.bool false) (by simp[execOp,go_sem,RY.E hd 4 21,RY.E hd 9 26,dr]))
    |11,rfl=>
     exact RY.n (RY.p (.bool false) (by simp[execOp,go_sem,RY.E hd 10 27]))
    |12,rfl=>
     exact RY.on hd 11 28 (RY.p (.slice (some ⟨p,o,none⟩) n ac) (by simp[execOp,go_sem,RY.K hk 0 (.slice (some ⟨p,o,none⟩) n ac)]))
    |13,rfl|18,rfl=>
     exact RY.on hd 11 28 (RY.p (.int .i64 (k:Int)) (by simp[execOp,go_sem,RY.K hk 5 (.int .i64 (k:Int))]))
    |14,rfl=>
     exact RY.on hd 11 28 (RY.p (.pointer (some ⟨p,o+k*2,none⟩)) (by simp[execOp,go_sem,RY.E hd 12 29,RY.E hd 13 30,cZ,dy]))
    |15,rfl=>
     exact RY.on hd 11 28 (RY.p (.pointer (some ⟨p,o+k*2+1,none⟩)) (by simp[execOp,go_sem,RY.E hd 14 31]))
    |16,rfl=>
     have e32:=RY.E hd 15 32;have ypl_:=zL sx.out hX.size;have ycl_:X.cell? ⟨p,o+k*2+1,none⟩=some (.slice xa x.ws.length xc):=by have q:=aF (aj cU.out sx.out hX) 1 _ rfl;simpa using q
     exact RY.on hd 11 28 (RY.p (.slice xa x.ws.length xc) (by simp[execOp,go_sem,e32,ycl_]))
    |17,rfl=>
     exact RY.on hd 11 28 (RY.p (.slice (some ⟨p2,o2,none⟩) n bc) (by simp[execOp,go_sem,RY.K hk 1 (.slice (some ⟨p2,o2,none⟩) n bc)]))
    |19,rfl=>
     exact RY.on hd 11 28 (RY.p (.pointer (some ⟨p2,o2+k*2,none⟩)) (by simp[execOp,go_sem,RY.E hd 17 34,RY.E hd 18 35,cZ,dy]))
    |20,rfl=>
     exact RY.on hd 11 28 (RY.p (.pointer (some ⟨p2,o2+k*2+1,none⟩)) (by simp[execOp,go_sem,RY.E hd 19 36]))
    |21,rfl=>
     have e37:=RY.E hd 20 37;have ypl_:=zL Qe.out hX.size;have ycl_:X.cell? ⟨p2,o2+k*2+1,none⟩=some (.slice ya y.ws.length yc):=by have q:=aF (aj Cd.out Qe.out hX) 1 _ rfl;simpa using q
     exact RY.on hd 11 28 (RY.p (.slice ya y.ws.length yc) (by simp[execOp,go_sem,e37,ycl_]))
    |22,rfl=>
     have e33:=RY.E hd 16 33;have e38:=RY.E hd 21 38;refine RY.on hd 11 28 (.inr ⟨60,#[.slice xa x.ws.length xc,.slice ya y.ws.length yc],by simp[go_sem,e33,e38],(Js.out X hX).mono ?_⟩);rintro e W' ⟨rfl,hb⟩;exact⟨_,rfl,hb,rfl⟩
    |23,rfl=>
     exact RY.on hd 11 28 (RY.p (.bool (!wq)) (by simp[execOp,go_sem,RY.E hd 22 39]))
    |24,rfl=>
     exact RY.n (RY.p (.bool (!wq)) (by simp[execOp,go_sem,RY.E hd 11 28,RY.E hd 23 40]))
    |n+25,ho=>simp at ho
   intro X vs hX bn;have q41:vs 41=_:=bn 24 _ 41 rfl rfl;simp only[RY.aC,Act.put,so,As,An];rw[q41];generalize vs 17=s17,vs 18=s18,vs 19=s19,vs 20=s20,vs 21=s21,vs 22=s22,vs 23=s23,vs 24=s24,vs 25=s25,vs 26=s26,vs 27=s27,vs 28=s28,vs 29=s29,vs 30=s30,vs 31=sL,vs 32=pS,vs 33=pY,vs 34=qo,vs 35=nP,vs 36=mU,vs 37=nS,vs 38=mT,vs 39=nW,vs 40=s40;clear bn q41;clear dr;have jk:=uh (ae kv.out hX);clear hX Js;cases wq
   ·have Wy:Hid (R=false):=HE.out;go_wp2;go_ret;exact⟨Pl.ar Wy.out.symm,jk.out⟩
   ·have Wy:Hid (R=Pl.dU (a.drop (k+1)) (b.drop (k+1))):=HE.out;go_wp2;go_roundw
    case rel=>exact⟨k+1,by omega,by go_num,Wy,jk.out⟩
    case measure=>simp[intOf];omega
abbrev aH:List Sh:=[.i,.s,.s,.s,.row 41 ao]
theorem rz {w:World} {tt:Bool} {F:List Nat} {a0:Int} {a1:ByteArray} {a2:ByteArray} {a3:ByteArray} {n4:Nat} {e4:List Dt} {cs:List Value} (h:Rep w tt aH F [.i a0,.s a1,.s a2,.s a3,.row n4 e4] cs):∃ F4 v4,F=F4++[]∧cs=[.int .i64 a0,.string a1,.string a2,.string a3,v4]∧Rep w tt [.row 41 ao] F4 [.row n4 e4] [v4]:=by
 obtain⟨x0,rfl,h1⟩:=h.c_i;obtain⟨x1,rfl,h2⟩:=h1.c_s;obtain⟨x2,rfl,h3⟩:=h2.c_s;obtain⟨x3,rfl,h4⟩:=h3.c_s;obtain⟨F4,G4,v4,x4,rfl,rfl,t4,h5⟩:=h4.c_r;obtain⟨rfl,rfl⟩:=h5.c_n;exact⟨F4,v4,rfl,rfl,t4⟩
theorem qF {w:World} {a0:Int} {a1:ByteArray} {a2:ByteArray} {a3:ByteArray} {n4:Nat} {e4:List Dt} {cs:List Value} (h:Raw w aH [.i a0,.s a1,.s a2,.s a3,.row n4 e4] cs):∃ v4,cs=[.int .i64 a0,.string a1,.string a2,.string a3,v4]∧Raw w [.row 41 ao] [.row n4 e4] [v4]:=by
 obtain⟨x0,rfl,h1⟩:=h.c_i;obtain⟨x1,rfl,h2⟩:=h1.c_s;obtain⟨x2,rfl,h3⟩:=h2.c_s;obtain⟨x3,rfl,h4⟩:=h3.c_s;obtain⟨v4,x4,rfl,t4,h5⟩:=h4.c_r;obtain rfl:=h5.c_n;exact⟨v4,rfl,t4⟩
theorem bZ {w:World} {tt:Bool} (a0:Int) (a1:ByteArray) (a2:ByteArray) (a3:ByteArray) {F4:List Nat} {n4:Nat} {e4:List Dt} {v4:Value} (h4:Rep w tt [.row 41 ao] F4 [.row n4 e4] [v4]):Rep w tt aH (F4++[]) [.i a0,.s a1,.s a2,.s a3,.row n4 e4] [.int .i64 a0,.string a1,.string a2,.string a3,v4]:=
 (.i a0 (.s a1 (.s a2 (.s a3 (h4.app .nil)))))
abbrev fq:List Sh:=[.row 37 aH]
theorem Tryz.jw:Tryz.prog.underlying 32=some (.slice 37):=by kernel_rfl
theorem Tryz.nh:(Tryz.prog.info? 37).map (fun i=>(i.zero,i.size,i.bytes))=some (some (.agg #[.int .i64 0,.string {data:=#[]},.string {data:=#[]},.string {data:=#[]},.slice none 0 0]),5,80):=by kernel_rfl
theorem n9 (a b:Pl.Bl) (r:Pl.Ru):(Pl.dh a b r).length≤1:=by
 unfold Pl.dh;split<;>simp
theorem l7 (a b:Pl.Bl):∀ rs:List Pl.Ru,(rs.flatMap (Pl.dh a b)).length≤rs.length
 |[]=>by simp
 |r::rs=>by
  have:=l7 a b rs;have h2:=n9 a b r;rw[XP,At,Xm];omega
structure Kb (w w2 W:World) (b0 g0 n:Nat) (AC BC:List Value) (rs:List Pl.Ru) (ra:Option Addr) (rc:Nat) (rF:List Nat) (vo:Value):Prop where
 bel:Bel w W
 le:w2.heap.size≤W.heap.size
 ba:au W b0 AC
 bb:au W (b0+1) BC
 rr:Rep W false [.row 75 aB] rF [bV rs] [.slice ra rs.length rc]
 own:∀ g,vo.ownBlock=some g→(g=g0∨w2.heap.size≤g)∧w.heap.size≤g
 ord:b0=w.heap.size∧b0+1<g0∧b0+1<w2.heap.size∧∀ b∈rF,g0<b∧b<w2.heap.size
theorem Kb.later {w w2 W W':World} {b0 g0 n:Nat} {AC BC:List Value} {rs:List Pl.Ru} {ra:Option Addr} {rc:Nat} {rF:List Nat} {vo:Value} (h:Kb w w2 W b0 g0 n AC BC rs ra rc rF vo) (hb:Bel W W'):Kb w w2 W' b0 g0 n AC BC rs ra rc rF vo:=
 ⟨ae h.bel hb,Xg h.le hb.size,h.ba.later hb,h.bb.later hb,h.rr.later hb,h.own,h.ord⟩
theorem Kb.grown {w w2 W W':World} {b0 g0 n:Nat} {AC BC:List Value} {rs:List Pl.Ru} {ra:Option Addr} {rc:Nat} {rF:List Nat} {vo u:Value} (h:Kb w w2 W b0 g0 n AC BC rs ra rc rF vo) (hg:W.grownBy W' vo.ownBlock) (hu:u.ownBlock=vo.ownBlock∨u.ownBlock=some W.heap.size):Kb w w2 W' b0 g0 n AC BC rs ra rc rF u:=by
 obtain⟨o1,o2,o3,o4⟩:=h.ord;refine⟨dF h.bel hg (fun b e=>(h.own b e).2),Xg h.le hg.size,h.ba.grown hg (fun e=> ?_),h.bb.grown hg (fun e=> ?_),h.rr.grown hg (fun b hb e=> ?_),fun g e=> ?_,o1,o2,o3,o4⟩
 ·rcases(h.own _ e).1 with q|q<;>omega
 ·rcases(h.own _ e).1 with q|q<;>omega
 ·have:=o4 b hb;rcases(h.own _ e).1 with q|q<;>omega
 ·rcases hu with q|q
  ·exact h.own g (q ▸ e)
  ·rw[q]at e;injection e with e
   have:=h.le;have:=h.bel.size;exact⟨Xk (by omega),by omega⟩
def VBe (rp:Nat) (ro:Nat) (n:Nat) (rc:Nat) (k:Nat) (N0:Nat) (a:Pl.Bl) (ru:Pl.Ru) (aa:Option Addr) (ac:Nat) (xl:List Pl.Ln):Nat→Value→World→Prop
 |0,vv,_=>vv=.agg #[.string a.kind,.string a.name,.slice aa a.lines.length ac]
 |1,vv,_=>vv=.slice (some ⟨rp,ro,none⟩) n rc
 |2,vv,_=>vv=.int .i64 (k:Int)
 |3,vv,_|4,vv,_=>vv=.pointer (some ⟨rp,ro+k*4,none⟩)
 |5,vv,_=>vv=.string ru.key
 |6,vv,W|7,vv,W=>∃ x1 x2 F,vv=.slice x1 xl.length x2∧Rep W false aV F [bD xl] [.slice x1 xl.length x2]∧F.Nodup∧∀ z∈F,N0≤z
 |_,_,_=>True
theorem ER (rp:Nat) (ro:Nat) (n:Nat) (rc:Nat) (k:Nat) (N0:Nat) (a:Pl.Bl) (ru:Pl.Ru) (aa:Option Addr) (ac:Nat) (xl:List Pl.Ln):∀ jj vv W W',Bel W W'→VBe rp ro n rc k N0 a ru aa ac xl jj vv W→VBe rp ro n rc k N0 a ru aa ac xl jj vv W':=by
 intro jj vv W W' hb h;match jj with
 |0|1|2|3|4|5=>exact h
 |6|7=>
  obtain⟨x1,x2,F,h1,h2,h3⟩:=h;exact⟨x1,x2,F,h1,h2.later hb,h3⟩
 |n+8=>exact trivial
def VBf (rp:Nat) (ro:Nat) (n:Nat) (rc:Nat) (k:Nat) (N0:Nat) (b:Pl.Bl) (ru:Pl.Ru) (ba:Option Addr) (bc:Nat) (yl:List Pl.Ln):Nat→Value→World→Prop
 |0,vv,_=>vv=.agg #[.string b.kind,.string b.name,.slice ba b.lines.length bc]
 |1,vv,_=>vv=.slice (some ⟨rp,ro,none⟩) n rc
 |2,vv,_=>vv=.int .i64 (k:Int)
 |3,vv,_|4,vv,_=>vv=.pointer (some ⟨rp,ro+k*4,none⟩)
 |5,vv,_=>vv=.string ru.key
 |6,vv,W|7,vv,W=>∃ x1 x2 F,vv=.slice x1 yl.length x2∧Rep W false aV F [bD yl] [.slice x1 yl.length x2]∧F.Nodup∧∀ z∈F,N0≤z
 |_,_,_=>True
theorem GO (rp:Nat) (ro:Nat) (n:Nat) (rc:Nat) (k:Nat) (N0:Nat) (b:Pl.Bl) (ru:Pl.Ru) (ba:Option Addr) (bc:Nat) (yl:List Pl.Ln):∀ jj vv W W',Bel W W'→VBf rp ro n rc k N0 b ru ba bc yl jj vv W→VBf rp ro n rc k N0 b ru ba bc yl jj vv W':=by
 intro jj vv W W' hb h;match jj with
 |0|1|2|3|4|5=>exact h
 |6|7=>
  obtain⟨x1,x2,F,h1,h2,h3⟩:=h;exact⟨x1,x2,F,h1,h2.later hb,h3⟩
 |n+8=>exact trivial
def VBg (b0:Nat) (rp:Nat) (ro:Nat) (n:Nat) (rc:Nat) (k:Nat) (a:Pl.Bl) (ru:Pl.Ru) (Xba:Option Addr) (Xbc:Nat) (yl:List Pl.Ln):Nat→Value→World→Option Nat→Prop
 |0,vv,_,_=>vv=.pointer (some ⟨b0,0,none⟩)
 |1,vv,_,_=>vv=.string a.kind
 |2,vv,_,_=>vv=.pointer (some ⟨b0,1,none⟩)
 |3,vv,_,_=>vv=.string a.name
 |4,vv,_,_=>vv=.slice (some ⟨rp,ro,none⟩) n rc
 |5,vv,_,_=>vv=.int .i64 (k:Int)
 |6,vv,_,_|7,vv,_,_=>vv=.pointer (some ⟨rp,ro+k*4,none⟩)
 |8,vv,_,_=>vv=.string ru.key
 |9,vv,_,_=>vv=.slice Xba yl.length Xbc
 |10,vv,_,_=>vv=.agg #[.int .i64 3,.string a.kind,.string a.name,.string ru.key,.slice Xba yl.length Xbc]
 |11,_,_,_=>True
 |_,_,_,_=>True
theorem Fg (b0:Nat) (rp:Nat) (ro:Nat) (n:Nat) (rc:Nat) (k:Nat) (a:Pl.Bl) (ru:Pl.Ru) (Xba:Option Addr) (Xbc:Nat) (yl:List Pl.Ln):∀ jj vv W W' A_,Bel W W'→VBg b0 rp ro n rc k a ru Xba Xbc yl jj vv W A_→VBg b0 rp ro n rc k a ru Xba Xbc yl jj vv W' A_:=by
 intro jj vv W W' A_ hb h;match jj with
 |0|1|2|3|4|5|6|7|8|9|10|11=>exact h
 |n+12=>exact trivial
theorem NP (b0:Nat) (rp:Nat) (ro:Nat) (n:Nat) (rc:Nat) (k:Nat) (a:Pl.Bl) (ru:Pl.Ru) (Xba:Option Addr) (Xbc:Nat) (yl:List Pl.Ln):∀ jj vv W,VBg b0 rp ro n rc k a ru Xba Xbc yl jj vv W none→VBg b0 rp ro n rc k a ru Xba Xbc yl jj vv W (some W.heap.size):=by
 intro jj vv W h;match jj with
 |0|1|2|3|4|5|6|7|8|9|10|11=>exact h
 |n+12=>exact trivial
theorem Di (a b:Pl.Bl) (av bv:Value) (w:World) (ha:Raw w aV [bD a.lines] [av]) (hb:Raw w aV [bD b.lines] [bv]) (hla:a.lines.length≤4194304∧∀ x∈a.lines,x.ws.length≤4194304) (wR:b.lines.length≤4194304∧∀ x∈b.lines,x.ws.length≤4194304):
  Calls Tryz.prog 24 #[.agg #[.string a.kind,.string a.name,av],.agg #[.string b.kind,.string b.name,bv]] w (eT fq (kK (Pl.fJ a b)) w):=by
 obtain⟨aa,ac,rfl⟩:=ha.aT;obtain⟨ba,bc,rfl⟩:=hb.aT;have HA:=uh ha;have HB:=uh hb;have JQ:=uh hla;have tq:=uh wR;have sj:Hid (Pl.fJ a b=(Pl.ah a.kind).flatMap (Pl.dh a b)):=rfl;have jm:=uh (ey a.kind);clear ha hb hla wR;obtain⟨b0,aU⟩:∃ b,b=w.heap.size:=⟨_,rfl⟩
 have AZ:=uh aU;obtain⟨wa,aP⟩:∃ wa,wa=(w.alloc (.cells #[.string a.kind,.string a.name,.slice aa a.lines.length ac] 58)).alloc (.cells #[.string b.kind,.string b.name,.slice ba b.lines.length bc] 58):=⟨_,rfl⟩
 have kv:Hid (Bel w wa):=by show Below _ _ _;rw[aP];exact af (af zR _) _
 have lL:Hid (au wa b0 [.string a.kind,.string a.name,.slice aa a.lines.length ac]):=by show au _ _ _;rw[aP,aU];exact(au.new w #[.string a.kind,.string a.name,.slice aa a.lines.length ac] _ _ rfl).eO _
 have dX:Hid (au wa (b0+1) [.string b.kind,.string b.name,.slice ba b.lines.length bc]):=by show au _ _ _;rw[aP];exact au.new _ #[.string b.kind,.string b.name,.slice ba b.lines.length bc] _ _ (by simp[aU])
 go_enter Tryz.func24,Tryz.ntmps24
 go_upto_region 1 with fail
 rw[← aP,← aU];clear aP aU;obtain⟨w1,gB⟩:∃ w1,w1=wa.alloc (.cells #[] 37):=⟨_,rfl⟩
 have cr:Bel wa w1:=by rw[gB];exact af zR _
 obtain⟨g0,I0⟩:∃ g,g=wa.heap.size:=⟨_,rfl⟩
 have LA:Hid (b0+1<g0∧g0<w1.heap.size):=⟨by rw[I0];exact dX.out.lt,by rw[gB,I0];simp⟩
 have cV:Hid (Gr w1 w.heap.size 37 aH (.slice (some ⟨g0,0,none⟩) 0 0) 0 [] [] []):=by
  show Gr _ _ _ _ _ _ _ _ _;rw[gB,I0];exact Gr.emp aH (heap_alloc_new wa _) kv.out.size
 go_upto_region 2 with fail
 rw[← gB,← I0];clear gB I0;replace kv:=uh (ae kv.out cr)
 replace lL:=uh (lL.out.later cr)
 replace dX:=uh (dX.out.later cr)
 clear cr;have x0:=lL.out.get 0 _ rfl;have xl0:=lL.out.lt;have lH:=uh (dW a.kind w1);go_wp2_with fail
 refine lH.out.mono ?_;rintro e w2 ⟨rv,rF,rfl,rr,_,rf,dD⟩;obtain⟨rs,y4⟩:∃ rs,rs=Pl.ah a.kind:=⟨_,rfl⟩
 rw[← y4]at rr sj jm;clear y4;obtain⟨ra,rc,SW⟩:=rr.raw.aT;subst SW;have fe:Hid (Kb w w2 w2 b0 g0 rs.length [.string a.kind,.string a.name,.slice aa a.lines.length ac] [.string b.kind,.string b.name,.slice ba b.lines.length bc] rs ra rc rF (.slice (some ⟨g0,0,none⟩) 0 0)):=by
  refine⟨ae kv.out dD,zE,lL.out.later dD,dX.out.later dD,rr,fun g e=> ?_,AZ.out,LA.out.1,(dX.out.later dD).lt,fun b hb=>⟨?_,rr.lt b hb⟩⟩
  ·have e1:g0=g:=by injection e
   exact⟨No e1.symm,by have:=LA.out;have:=AZ.out;omega⟩
  ·have:=rf b hb;have:=LA.out;omega
 replace cV:=uh (cV.out.later dD)
 clear rr rf dD x0 xl0 lH lL dX kv LA;obtain⟨n,hn⟩:∃ n,n=rs.length:=⟨_,rfl⟩
 have HN:=uh hn;have gF:rs.length=n:=hn.symm;clear hn;rw[gF];clear gF;go_wp2;go_loopw [5,7] (fun vo vi wr=>∃ (k:Nat) (G:List Nat) (xs:List Value),k≤n∧vi=.int .i64 k∧Gr wr w.heap.size 37 aH vo ((rs.take k).flatMap (Pl.dh a b)).length G (((rs.take k).flatMap (Pl.dh a b)).flatMap chD) xs∧Kb w w2 wr b0 g0 rs.length [.string a.kind,.string a.name,.slice aa a.lines.length ac] [.string b.kind,.string b.name,.slice ba b.lines.length bc] rs ra rc rF vo) (fun _ vi _=>n - (intOf vi).toNat)
 case atStart=>exact⟨0,[],[],zN,rfl,cV.out,fe.out⟩
 case round=>
  obtain⟨k,G,xs,hk,rfl,hG,hK⟩:=hrel;clear cV fe;have cV:=uh hG;have pZ:=uh hK;obtain⟨ua,uc,sD⟩:=hG.shape;subst sD;clear hG hK;by_cases bq:k<n
  rotate_left
  ·have jq:rs.take k=rs:=Xp (by have:=HN.out;omega);rw[jq]at cV pZ ⊢;obtain⟨F,r,nd,fr⟩:=cV.out.done;have HD:Hid (eT fq (kK (Pl.fJ a b)) w (.returned (.slice ua (rs.flatMap (Pl.dh a b)).length uc)) wr):=by rw[sj.out];exact⟨_,F,rfl,r,nd,fr,pZ.out.bel⟩
   clear r nd fr jq;go_wp2;go_ret;exact HD.out
  have eB:k<rs.length:=by have:=HN.out;omega
  have Ta:n≤12:=by have:=HN.out;have:=jm.out;omega
  obtain⟨rp,ro,rcc,r1,q1,v3,hv,hp,hg,_,KX⟩:=gD pZ.out.rr.raw eB;rw[← HN.out]at hv;injection hv with g1 _ g3
  subst g1;subst g3;obtain⟨r3,q3,e5⟩:=KX.aT;subst e5;have kc:Hid (rs.take (k+1)=rs.take k++[rs.getD k Pl.bu]):=by
   have e:rs.getD k Pl.bu=rs[k]:=by simp[eB]
   show _=_;rw[e,XI eB]
  have hle:((rs.take k).flatMap (Pl.dh a b)).length≤12:=by
   have h1:=l7 a b (rs.take k);rw[Xo]at h1;have:=HN.out;omega
  obtain⟨ru,RI⟩:∃ ru,ru=rs.getD k Pl.bu:=⟨_,rfl⟩
  rw[← RI]at hg kc;have cU:Hid (wr.rangeAt rp (ro+k*4) [.string ru.key,.slice r1 ru.args.length q1,.bool ru.many,.slice r3 ru.dflt.length q3]):=hg;have de:=uh hp;clear RI hg hp KX;obtain⟨ac0,sA⟩:∃ ac0,ac0=(rs.take k).flatMap (Pl.dh a b):=⟨_,rfl⟩
  rw[← sA]at cV pZ hle ⊢;have TA:=uh sA;clear sA;have cZ:(0:Int)≤(k:Int):=by omega
  have dy:(k:Int)<(n:Int):=by omega
  have lL:=uh pZ.out.ba;have Ei:Hid (Pl.dh a b ru=if Pl.dU (Pl.aO a.lines ru.key) (Pl.aO b.lines ru.key) then [] else [⟨if (Pl.aO b.lines ru.key).length=0 then 4 else 3,a.kind,a.name,ru.key,Pl.aO b.lines ru.key⟩]):=rfl;have tw:=uh (fun (X:World) (hX:Bel wr X)=>Ar a (.slice aa a.lines.length ac) ru.key X (HA.out.later (ae pZ.out.bel hX)) JQ.out.1 JQ.out.2);obtain⟨xl,iO⟩:∃ xl,xl=Pl.aO a.lines ru.key:=⟨_,rfl⟩
  rw[← iO]at tw Ei;have Oh:=uh (fun (X:World) (hX:Bel wr X)=>Ar b (.slice ba b.lines.length bc) ru.key X (HB.out.later (ae pZ.out.bel hX)) tq.out.1 tq.out.2);obtain⟨yl,hyl⟩:∃ yl,yl=Pl.aO b.lines ru.key:=⟨_,rfl⟩
  rw[← hyl]at Oh Ei;have JK:Hid (∀ b∈G,b<wr.heap.size):=cV.out.rep.lt;have B8:Hid (∀ b,(Value.slice ua ac0.length uc).ownBlock=some b→b<wr.heap.size):=fun b hq=>(aW cV.out.row hq).2;have HSW:Hid (w.heap.size≤wr.heap.size):=pZ.out.bel.size;clear iO hyl;go_upto_region 6 with fail
  refine RY.bs wr zR (VBe rp ro n rc k wr.heap.size a ru aa ac xl) (ER _ _ _ _ _ _ _ _ _ _ _) (by kernel_rfl) (by kernel_rfl) (by kernel_rfl) (by kernel_rfl) ?_ ?_
  ·intro ii o' ho a_ X hX hk hd;have zb0:=lL.out.later hX;have zb0l:=zb0.lt;match ii,ho with
   |0,rfl=>
    have v2:a_.eval (.tmp 2)=.pointer (some ⟨b0,0,none⟩):=(hk 2 (by kernel_rfl)).trans rfl;exact No ⟨_,X,ak 58 _ rfl b0 0 v2 [.string a.kind,.string a.name,.slice aa a.lines.length ac] _ zb0.at_ Tryz.underlying58 rfl (by kernel_rfl),zR,rfl⟩
   |1,rfl=>
    exact RY.p (.slice (some ⟨rp,ro,none⟩) n rc) (by simp[execOp,go_sem,RY.K hk 6 (.slice (some ⟨rp,ro,none⟩) n rc)])
   |2,rfl=>
    exact RY.p (.int .i64 (k:Int)) (by simp[execOp,go_sem,RY.K hk 7 (.int .i64 (k:Int))])
   |3,rfl=>
    exact RY.p (.pointer (some ⟨rp,ro+k*4,none⟩)) (by simp[execOp,go_sem,RY.E hd 1 22,RY.E hd 2 23,cZ,dy])
   |4,rfl=>
    exact RY.p (.pointer (some ⟨rp,ro+k*4,none⟩)) (by simp[execOp,go_sem,RY.E hd 3 24])
   |5,rfl=>
    have e25:=RY.E hd 4 25;have ypl_:=zL de.out hX.size;have ycl_:X.cell? ⟨rp,ro+k*4,none⟩=some (.string ru.key):=by have q:=aF (aj cU.out de.out hX) 0 _ rfl;simpa using q
    exact RY.p (.string ru.key) (by simp[execOp,go_sem,e25,ycl_])
   |6,rfl=>
    have e21:=RY.E hd 0 21;have e26:=RY.E hd 5 26;refine Xk ⟨26,#[.agg #[.string a.kind,.string a.name,.slice aa a.lines.length ac],.string ru.key],by simp[go_sem,e21,e26],(tw.out X hX).mono ?_⟩;rintro e W' ⟨v,F,rfl,r,nd,fr,hb⟩;obtain⟨x1,x2,hx⟩:=r.raw.aT;subst hx;exact⟨_,rfl,hb,x1,x2,F,rfl,r,nd,fun b dD=>Xg hX.size (fr b dD)⟩
   |7,rfl=>
    obtain⟨y1,y2,F27,q27,UO,UX⟩:=hd 6 _ 27 rfl rfl ⟨⟨6,.data⟩,by simp,rfl,rfl⟩;have e27:a_.tmps[27]?.getD undef=.slice y1 xl.length y2:=(RY.ai a_ 27).trans q27;exact No ⟨_,X,by simp[execOp,go_sem,e27],zR,y1,y2,F27,rfl,UO,UX⟩
   |n+8,ho=>simp at ho
  intro Xa vs hX bn;obtain⟨Xaa,Xac,XaF,Xae,Xar,Xan,Xaf⟩:=bn 7 _ 8 rfl rfl;simp only[RY.aC,Act.put,so,As,An];rw[Xae];generalize vs 21=s21,vs 22=s22,vs 23=s23,vs 24=s24,vs 25=s25,vs 26=s26,vs 27=s27;clear bn Xae;have dX:=uh (pZ.out.bb.later hX);replace lL:=uh (lL.out.later hX)
  replace pZ:=uh (pZ.out.later hX)
  replace cV:=uh (cV.out.later hX)
  replace cU:=uh (aj cU.out de.out hX)
  replace de:=uh (zL de.out hX.size)
  have Jr:Hid (∀ X,Bel Xa X→Calls Tryz.prog 26 #[.agg #[.string b.kind,.string b.name,.slice ba b.lines.length bc],.string ru.key] X (eT aV (bD yl) X)):=fun X PT=>Oh.out X (ae hX PT);have JL:=uh Xar.raw;have DN:Hid (wr.heap.size≤Xa.heap.size):=hX.size;clear tw Oh Xar Xan Xaf hX;go_upto_region 7 with fail
  refine RY.bs Xa zR (VBf rp ro n rc k Xa.heap.size b ru ba bc yl) (GO _ _ _ _ _ _ _ _ _ _ _) (by kernel_rfl) (by kernel_rfl) (by kernel_rfl) (by kernel_rfl) ?_ ?_
  ·intro ii o' ho a_ X hX hk hd;have z_b0___1_:=dX.out.later hX;have z_b0___1_l:=z_b0___1_.lt;match ii,ho with
   |0,rfl=>
    have v3:a_.eval (.tmp 3)=.pointer (some ⟨(b0+1),0,none⟩):=(hk 3 (by kernel_rfl)).trans rfl;exact No ⟨_,X,ak 58 _ rfl (b0+1) 0 v3 [.string b.kind,.string b.name,.slice ba b.lines.length bc] _ z_b0___1_.at_ Tryz.underlying58 rfl (by kernel_rfl),zR,rfl⟩
   |1,rfl=>
    exact RY.p (.slice (some ⟨rp,ro,none⟩) n rc) (by simp[execOp,go_sem,RY.K hk 6 (.slice (some ⟨rp,ro,none⟩) n rc)])
   |2,rfl=>
    exact RY.p (.int .i64 (k:Int)) (by simp[execOp,go_sem,RY.K hk 7 (.int .i64 (k:Int))])
   |3,rfl=>
    exact RY.p (.pointer (some ⟨rp,ro+k*4,none⟩)) (by simp[execOp,go_sem,RY.E hd 1 29,RY.E hd 2 30,cZ,dy])
   |4,rfl=>
    exact RY.p (.pointer (some ⟨rp,ro+k*4,none⟩)) (by simp[execOp,go_sem,RY.E hd 3 31])
   |5,rfl=>
    have e32:=RY.E hd 4 32;have ypl_:=zL de.out hX.size;have ycl_:X.cell? ⟨rp,ro+k*4,none⟩=some (.string ru.key):=by have q:=aF (aj cU.out de.out hX) 0 _ rfl;simpa using q
    exact RY.p (.string ru.key) (by simp[execOp,go_sem,e32,ycl_])
   |6,rfl=>
    have e28:=RY.E hd 0 28;have e33:=RY.E hd 5 33;refine Xk ⟨26,#[.agg #[.string b.kind,.string b.name,.slice ba b.lines.length bc],.string ru.key],by simp[go_sem,e28,e33],(Jr.out X hX).mono ?_⟩;rintro e W' ⟨v,F,rfl,r,nd,fr,hb⟩;obtain⟨x1,x2,hx⟩:=r.raw.aT;subst hx;exact⟨_,rfl,hb,x1,x2,F,rfl,r,nd,fun b dD=>Xg hX.size (fr b dD)⟩
   |7,rfl=>
    obtain⟨y1,y2,F34,q34,WU,Wj⟩:=hd 6 _ 34 rfl rfl ⟨⟨6,.data⟩,by simp,rfl,rfl⟩;have e34:a_.tmps[34]?.getD undef=.slice y1 yl.length y2:=(RY.ai a_ 34).trans q34;exact No ⟨_,X,by simp[execOp,go_sem,e34],zR,y1,y2,F34,rfl,WU,Wj⟩
   |n+8,ho=>simp at ho
  intro Xb vs hX bn;obtain⟨Xba,Xbc,XbF,Xbe,Xbr,Xbn,Xbf⟩:=bn 7 _ 9 rfl rfl;simp only[RY.aC,Act.put,so,As,An];rw[Xbe];generalize vs 28=s28,vs 29=s29,vs 30=s30,vs 31=sL,vs 32=pS,vs 33=pY,vs 34=qo;clear bn Xbe;replace lL:=uh (lL.out.later hX)
  replace pZ:=uh (pZ.out.later hX)
  replace cV:=uh (cV.out.later hX)
  replace cU:=uh (aj cU.out de.out hX)
  replace de:=uh (zL de.out hX.size)
  replace JL:=uh (JL.out.later hX)
  have JJ:Hid (Rep Xb false aV XbF [bD yl] [.slice Xba yl.length Xbc]∧XbF.Nodup∧∀ b∈XbF,wr.heap.size≤b):=⟨Xbr,Xbn,fun b hb=>Xg DN.out (Xbf b hb)⟩
  have SZ:Hid (wr.heap.size≤Xb.heap.size):=Xg DN.out hX.size;have AH:=uh (Fj xl yl (.slice Xaa xl.length Xac) (.slice Xba yl.length Xbc) Xb JL.out JJ.out.1.raw);clear Jr Xbr Xbn Xbf hX dX;obtain⟨sm,B7⟩:∃ sm,sm=Pl.dU xl yl:=⟨_,rfl⟩
  rw[← B7]at AH Ei;clear B7;go_wp2_with fail
  refine AH.out.mono ?_;rintro e w8 ⟨rfl,uN⟩;replace lL:=uh (lL.out.later uN)
  replace pZ:=uh (pZ.out.later uN)
  replace cV:=uh (cV.out.later uN)
  replace cU:=uh (aj cU.out de.out uN)
  replace de:=uh (zL de.out uN.size)
  have HY:Hid (Rep w8 false aV XbF [bD yl] [.slice Xba yl.length Xbc]∧XbF.Nodup∧∀ b∈XbF,wr.heap.size≤b):=⟨JJ.out.1.later uN,JJ.out.2⟩
  have JP:Hid (w.heap.size≤wr.heap.size∧wr.heap.size≤w8.heap.size):=⟨HSW.out,Xg SZ.out uN.size⟩
  clear uN AH JL JJ;cases sm
  rotate_left
  ·have HE:Hid ((rs.take (k+1)).flatMap (Pl.dh a b)=ac0):=by show _=_;rw[kc.out,Xv,XE,← TA.out,Ei.out];simp
   go_wp2;go_roundw
   case rel=>exact⟨k+1,G,xs,by omega,by go_num,by rw[HE.out];exact cV.out,pZ.out⟩
   case measure=>simp[intOf];omega
  replace Ei:Hid (Pl.dh a b ru=[⟨if yl.length=0 then 4 else 3,a.kind,a.name,ru.key,yl⟩]):=Ei.out
  have zi:Hid ((rs.take (k+1)).flatMap (Pl.dh a b)=ac0++[⟨if yl.length=0 then 4 else 3,a.kind,a.name,ru.key,yl⟩]):=by show _=_;rw[kc.out,Xv,XE,← TA.out,Ei.out]
  go_upto_region 9 with fail
  refine RY.uB w8 zR (VBg b0 rp ro n rc k a ru Xba Xbc yl) (Fg _ _ _ _ _ _ _ _ _ _ _) (NP _ _ _ _ _ _ _ _ _ _ _) (fun vals W'=>∃ q,vals 11=.pointer (some ⟨q,0,none⟩)∧w8.heap.size≤q∧Bel w8 W'∧aA W' q 37 [.int .i64 3,.string a.kind,.string a.name,.string ru.key,.slice Xba yl.length Xbc]) 12 12 (by kernel_rfl) (by kernel_rfl) (by kernel_rfl) (by kernel_rfl) rfl [10,11] (by kernel_rfl) (by kernel_rfl) _ rfl rfl (by kernel_rfl) 11 10 _ rfl rfl (by decide) 37 [.int .i64 0,.string {data:=#[]},.string {data:=#[]},.string {data:=#[]},.slice none 0 0] ?_ ?_ ?_ ?_
  ·intro a_ Wx;kernel_rfl
  ·intro ii o' ho wJ Pv a_ X A_ hX Tp hk hd;have zb0:=lL.out.later hX;have zb0l:=zb0.lt;match ii,ho with
   |0,rfl=>
    exact RY.p (.pointer (some ⟨b0,0,none⟩)) (by simp[execOp,go_sem,RY.K hk 2 (.pointer (some ⟨b0,0,none⟩))])
   |1,rfl=>
    have e38:a_.tmps[38]?.getD undef=.pointer (some ⟨b0,0,none⟩):=(RY.ai a_ 38).trans (hd 0 _ 38 rfl rfl ⟨⟨0,.data⟩,by simp,rfl,rfl⟩ (by decide) (by decide));have ycl_:=zb0.get 0 _ rfl;exact RY.p (.string a.kind) (by simp[execOp,go_sem,e38,ycl_])
   |2,rfl=>
    exact RY.p (.pointer (some ⟨b0,1,none⟩)) (by simp[execOp,go_sem,RY.K hk 2 (.pointer (some ⟨b0,0,none⟩))])
   |3,rfl=>
    have e40:a_.tmps[40]?.getD undef=.pointer (some ⟨b0,1,none⟩):=(RY.ai a_ 40).trans (hd 2 _ 40 rfl rfl ⟨⟨2,.data⟩,by simp,rfl,rfl⟩ (by decide) (by decide));have ycl_:=zb0.get 1 _ rfl;exact RY.p (.string a.name) (by simp[execOp,go_sem,e40,ycl_])
   |4,rfl=>
    exact RY.p (.slice (some ⟨rp,ro,none⟩) n rc) (by simp[execOp,go_sem,RY.K hk 6 (.slice (some ⟨rp,ro,none⟩) n rc)])
   |5,rfl=>
    exact RY.p (.int .i64 (k:Int)) (by simp[execOp,go_sem,RY.K hk 7 (.int .i64 (k:Int))])
   |6,rfl=>
    have e42:a_.tmps[42]?.getD undef=.slice (some ⟨rp,ro,none⟩) n rc:=(RY.ai a_ 42).trans (hd 4 _ 42 rfl rfl ⟨⟨4,.data⟩,by simp,rfl,rfl⟩ (by decide) (by decide));have e43:a_.tmps[43]?.getD undef=.int .i64 (k:Int):=(RY.ai a_ 43).trans (hd 5 _ 43 rfl rfl ⟨⟨5,.data⟩,by simp,rfl,rfl⟩ (by decide) (by decide));exact RY.p (.pointer (some ⟨rp,ro+k*4,none⟩)) (by simp[execOp,go_sem,e42,e43,cZ,dy])
   |7,rfl=>
    have e44:a_.tmps[44]?.getD undef=.pointer (some ⟨rp,ro+k*4,none⟩):=(RY.ai a_ 44).trans (hd 6 _ 44 rfl rfl ⟨⟨6,.data⟩,by simp,rfl,rfl⟩ (by decide) (by decide));exact RY.p (.pointer (some ⟨rp,ro+k*4,none⟩)) (by simp[execOp,go_sem,e44])
   |8,rfl=>
    have e45:a_.tmps[45]?.getD undef=.pointer (some ⟨rp,ro+k*4,none⟩):=(RY.ai a_ 45).trans (hd 7 _ 45 rfl rfl ⟨⟨7,.data⟩,by simp,rfl,rfl⟩ (by decide) (by decide));have ypl_:=zL de.out hX.size;have ycl_:X.cell? ⟨rp,ro+k*4,none⟩=some (.string ru.key):=by have q:=aF (aj cU.out de.out hX) 0 _ rfl;simpa using q
    exact RY.p (.string ru.key) (by simp[execOp,go_sem,e45,ycl_])
   |9,rfl=>
    exact RY.p (.slice Xba yl.length Xbc) (by simp[execOp,go_sem,RY.K hk 9 (.slice Xba yl.length Xbc)])
   |10,rfl=>
    have e39:a_.tmps[39]?.getD undef=.string a.kind:=(RY.ai a_ 39).trans (hd 1 _ 39 rfl rfl ⟨⟨1,.data⟩,by simp,rfl,rfl⟩ (by decide) (by decide));have e41:a_.tmps[41]?.getD undef=.string a.name:=(RY.ai a_ 41).trans (hd 3 _ 41 rfl rfl ⟨⟨3,.data⟩,by simp,rfl,rfl⟩ (by decide) (by decide));have e46:a_.tmps[46]?.getD undef=.string ru.key:=(RY.ai a_ 46).trans (hd 8 _ 46 rfl rfl ⟨⟨8,.data⟩,by simp,rfl,rfl⟩ (by decide) (by decide));have e47:a_.tmps[47]?.getD undef=.slice Xba yl.length Xbc:=(RY.ai a_ 47).trans (hd 9 _ 47 rfl rfl ⟨⟨9,.data⟩,by simp,rfl,rfl⟩ (by decide) (by decide));exact RY.p (.agg #[.int .i64 3,.string a.kind,.string a.name,.string ru.key,.slice Xba yl.length Xbc]) (by simp[execOp,go_sem,e39,e41,e46,e47])
   |11,ho=>
    exact absurd rfl Pv
   |n+12,ho=>omega
  ·intro a_ X vals q hX hk SH hq dN hV hd;have t48:a_.eval (.tmp 48)=_:=(hd 10 _ 48 rfl rfl ⟨⟨10,.data⟩,by simp,rfl,rfl⟩ (by decide)).trans (hV 10 (by decide) (by decide));have t10:a_.eval (.tmp 10)=_:=(hd 11 _ 10 rfl rfl ⟨⟨11,.data⟩,by simp,rfl,rfl⟩ (by decide)).trans SH;have bJ:X.there q 0 5:=aX dN _ _ (by simp);exact⟨X.setCells q 0 [.int .i64 3,.string a.kind,.string a.name,.string ru.key,.slice Xba yl.length Xbc],RY.dM _ _ _ rfl t10 t48 bJ (by kernel_rfl) (by simp[Value.oneCell']),q,SH,hq,bW hq _ _ _ hX,ig _ _ _ dN,World.rangeAt_setCells_same _ _ _ _ bJ⟩
  ·intro vals vs X hK bn;simp only[RY.aC,Act.put,so,As,An];have q10:=bn 11 _ 10 rfl rfl;generalize vs 38=mT,vs 39=nW,vs 40=s40,vs 41=s41,vs 42=s42,vs 43=s43,vs 44=s44,vs 45=s45,vs 46=s46,vs 47=s47,vs 48=s48;clear bn;obtain⟨q,e10,IY,O2,hQ⟩:=hK;rw[q10,e10];clear q10 e10;have jQ:Hid (w.heap.size≤wr.heap.size∧wr.heap.size≤X.heap.size):=⟨JP.out.1,Xg JP.out.2 O2.size⟩
   have HKV:=pZ;have HGV:=cV;have HYV:=HY;replace pZ:=uh (pZ.out.later O2)
   replace cV:=uh (cV.out.later O2)
   replace HY:Hid (Rep X false aV XbF [bD yl] [.slice Xba yl.length Xbc]∧XbF.Nodup∧∀ b∈XbF,wr.heap.size≤b):=⟨HY.out.1.later O2,HY.out.2⟩
   obtain⟨m,hm⟩:∃ m,m=yl.length:=⟨_,rfl⟩
   have HM:=uh hm;by_cases h0:yl.length=0
   rotate_left
   ·have iK:¬ ((yl.length:Int)=0):=by omega
    have WE:Hid ((if yl.length=0 then (4:Int) else 3)=3):=by show _=_;rw[if_neg h0]
    obtain⟨w9,D8⟩:∃ w9,w9=X:=⟨_,rfl⟩
    rw[← D8]at jQ pZ cV HY hQ ⊢;have HQ:=uh hQ;clear D8 hQ O2 h0 hm;have Ve:=HQ.out.at_;have Us:=HQ.out.own.lt;obtain⟨wb,fa⟩:∃ wb,wb=w9.alloc (.cells #[.int .i64 3,.string a.kind,.string a.name,.string ru.key,.slice Xba yl.length Xbc] 37):=⟨_,rfl⟩
    have dG:Bel w9 wb:=by rw[fa];exact af zR _
    have jO:Rep wb false fq (w9.heap.size::((XbF++[])++[])) [.row 1 (chD ⟨3,a.kind,a.name,ru.key,yl⟩)] [.slice (some ⟨w9.heap.size,0,none⟩) 1 1]:=by
     rw[fa];exact KA (cs:=#[.int .i64 3,.string a.kind,.string a.name,.string ru.key,.slice Xba yl.length Xbc]) (bZ _ _ _ _ HY.out.1)
    obtain⟨u,W2,G',xs',bC,eC,Co,Q2⟩:=oQ (P:=Tryz.prog) w.heap.size 32 32 37 5 80 _ Tryz.jw Tryz.nh rfl (by decide) (by decide) aH rfl (cV.out.later dG) jO (by
     rw[Xl,Xl,Yi];exact⟨fun h=>by have:=HY.out.1.lt _ h;omega,HY.out.2.1⟩) (fun b hb=>by
     rw[Xl,Xl]at hb;have key:wr.heap.size≤b:=by
      rcases XD.1 hb with e|e
      ·rw[e];exact jQ.out.2
      ·exact HY.out.2.2 b e
     exact⟨Xg jQ.out.1 key,fun hq=>by have:=JK.out b hq;omega,fun hq=>by have:=B8.out b hq;omega⟩) (by omega) (Xg pZ.out.bel.size dG.size)
    obtain⟨ux,uy,LC⟩:=eC.shape;subst LC;have Vk:=uh ((pZ.out.later dG).grown Co Q2);have Rz:Hid (Gr W2 w.heap.size 37 aH (.slice ux (ac0.length+1) uy) ((rs.take (k+1)).flatMap (Pl.dh a b)).length G' (((rs.take (k+1)).flatMap (Pl.dh a b)).flatMap chD) xs'):=by
     show Gr _ _ _ _ _ _ _ _ _;rw[zi.out,WE.out,At,Xv,XE];exact eC
    rw[fa]at bC;clear jO eC Co dG fa Q2;go_wp2_with (first|(refine wpList_load_mid rfl 37 _ rfl q 0 rfl [.int .i64 3,.string a.kind,.string a.name,.string ru.key,.slice Xba yl.length Xbc] _ Ve Tryz.underlying37 rfl (by kernel_rfl) ?_)|(at_builtin;refine Go.Lib.wpList_append_run _ rfl _ _ 32 32 rfl _ _ rfl rfl _ W2 bC ?_))
    clear bC;go_roundw
    case rel=>exact⟨k+1,G',xs',by omega,by go_num,Rz.out,Vk.out⟩
    case measure=>simp[intOf];omega
   have WE:Hid ((if yl.length=0 then (4:Int) else 3)=4):=by show _=_;rw[if_pos h0]
   have Sl:Hid (yl=[]):=Xs h0;have hxf:=hQ.own.frozen 0;have hxc:=hQ.get 0 _ rfl;have iO:=hQ.own.lt;obtain⟨w9,D8⟩:∃ w9,w9=X.setCell ⟨q,0,none⟩ (.int .i64 4):=⟨_,rfl⟩
   have hU:Bel w8 w9:=by rw[D8];exact O2.setCell (p:=⟨q,0,none⟩) IY _
   have HQ:Hid (aA w9 q 37 [.int .i64 4,.string a.kind,.string a.name,.string ru.key,.slice Xba yl.length Xbc]):=by show aA _ _ _ _;rw[D8];exact hQ.set 0 _ (by simp)
   have hm9:Marks (fun b=>b=q) X w9:=by rw[D8];exact Marks.sc (S:=fun b=>b=q) X rfl _ _
   replace pZ:=uh (HKV.out.later hU)
   replace cV:=uh (HGV.out.later hU)
   replace HY:Hid (Rep w9 false aV XbF [bD yl] [.slice Xba yl.length Xbc]∧XbF.Nodup∧∀ b∈XbF,wr.heap.size≤b):=⟨HYV.out.1.later hU,HYV.out.2⟩
   replace jQ:Hid (w.heap.size≤wr.heap.size∧wr.heap.size≤w9.heap.size):=⟨JP.out.1,Xg JP.out.2 hU.size⟩
   have iK:(m:Int)=0:=by omega
   rw[← hm];go_upto_region 12 with fail
   rw[← D8];rw[hm];clear D8 hQ O2 hU hm9 hxf hxc iO h0 hm iK;have Ve:=HQ.out.at_;have Us:=HQ.out.own.lt;obtain⟨wb,fa⟩:∃ wb,wb=w9.alloc (.cells #[.int .i64 4,.string a.kind,.string a.name,.string ru.key,.slice Xba yl.length Xbc] 37):=⟨_,rfl⟩
   have dG:Bel w9 wb:=by rw[fa];exact af zR _
   have jO:Rep wb false fq (w9.heap.size::((XbF++[])++[])) [.row 1 (chD ⟨4,a.kind,a.name,ru.key,yl⟩)] [.slice (some ⟨w9.heap.size,0,none⟩) 1 1]:=by
    rw[fa];exact KA (cs:=#[.int .i64 4,.string a.kind,.string a.name,.string ru.key,.slice Xba yl.length Xbc]) (bZ _ _ _ _ HY.out.1)
   obtain⟨u,W2,G',xs',bC,eC,Co,Q2⟩:=oQ (P:=Tryz.prog) w.heap.size 32 32 37 5 80 _ Tryz.jw Tryz.nh rfl (by decide) (by decide) aH rfl (cV.out.later dG) jO (by
    rw[Xl,Xl,Yi];exact⟨fun h=>by have:=HY.out.1.lt _ h;omega,HY.out.2.1⟩) (fun b hb=>by
    rw[Xl,Xl]at hb;have key:wr.heap.size≤b:=by
     rcases XD.1 hb with e|e
     ·rw[e];exact jQ.out.2
     ·exact HY.out.2.2 b e
    exact⟨Xg jQ.out.1 key,fun hq=>by have:=JK.out b hq;omega,fun hq=>by have:=B8.out b hq;omega⟩) (by omega) (Xg pZ.out.bel.size dG.size)
   obtain⟨ux,uy,LC⟩:=eC.shape;subst LC;have Vk:=uh ((pZ.out.later dG).grown Co Q2);have Rz:Hid (Gr W2 w.heap.size 37 aH (.slice ux (ac0.length+1) uy) ((rs.take (k+1)).flatMap (Pl.dh a b)).length G' (((rs.take (k+1)).flatMap (Pl.dh a b)).flatMap chD) xs'):=by
    show Gr _ _ _ _ _ _ _ _ _;rw[zi.out,WE.out,At,Xv,XE];exact eC
   rw[fa]at bC;clear jO eC Co dG fa Q2;go_wp2_with (first|(refine wpList_load_mid rfl 37 _ rfl q 0 rfl [.int .i64 4,.string a.kind,.string a.name,.string ru.key,.slice Xba yl.length Xbc] _ Ve Tryz.underlying37 rfl (by kernel_rfl) ?_)|(at_builtin;refine Go.Lib.wpList_append_run _ rfl _ _ 32 32 rfl _ _ rfl rfl _ W2 bC ?_))
   clear bC;go_roundw
   case rel=>exact⟨k+1,G',xs',by omega,by go_num,Rz.out,Vk.out⟩
   case measure=>simp[intOf];omega
def VDa (b0:Nat) (p:Nat) (o:Nat) (na:Nat) (ac:Nat) (nb:Nat) (bc:Nat) (k:Nat) (ba:Option Addr) (x:Pl.Bl) (fo:Option Nat):Nat→Value→World→Prop
 |0,vv,_=>vv=.agg #[.slice ba nb bc]
 |1,vv,_|7,vv,_=>vv=.pointer (some ⟨b0,0,none⟩)
 |2,vv,_|8,vv,_=>vv=.slice (some ⟨p,o,none⟩) na ac
 |3,vv,_|9,vv,_=>vv=.int .i64 (k:Int)
 |4,vv,_|5,vv,_|10,vv,_=>vv=.pointer (some ⟨p,o+k*3,none⟩)
 |6,vv,_=>vv=.string x.kind
 |11,vv,_=>vv=.pointer (some ⟨p,o+k*3+1,none⟩)
 |12,vv,_=>vv=.string x.name
 |13,vv,_=>vv=.int .i64 (Pl.ixI fo)
 |14,vv,_=>vv=.bool fo.isNone
 |_,_,_=>True
theorem Hk (b0:Nat) (p:Nat) (o:Nat) (na:Nat) (ac:Nat) (nb:Nat) (bc:Nat) (k:Nat) (ba:Option Addr) (x:Pl.Bl) (fo:Option Nat):∀ jj vv W W',Bel W W'→VDa b0 p o na ac nb bc k ba x fo jj vv W→VDa b0 p o na ac nb bc k ba x fo jj vv W':=by
 intro jj vv W W' hb h;match jj with
 |0|1|2|3|4|5|6|7|8|9|10|11|12|13|14=>exact h
 |n+15=>exact trivial
def VDb (b0:Nat) (p:Nat) (o:Nat) (na:Nat) (ac:Nat) (k:Nat) (m:Nat) (uc:Nat) (N0:Nat) (ua:Option Addr) (x:Pl.Bl):Nat→Value→World→Prop
 |0,vv,_=>vv=.slice ua m uc
 |1,vv,_|7,vv,_=>vv=.pointer (some ⟨b0,0,none⟩)
 |2,vv,_|8,vv,_=>vv=.slice (some ⟨p,o,none⟩) na ac
 |3,vv,_|9,vv,_=>vv=.int .i64 (k:Int)
 |4,vv,_|5,vv,_|10,vv,_=>vv=.pointer (some ⟨p,o+k*3,none⟩)
 |6,vv,_=>vv=.string x.kind
 |11,vv,_=>vv=.pointer (some ⟨p,o+k*3+1,none⟩)
 |12,vv,_=>vv=.string x.name
 |13,vv,_=>vv=.agg #[.int .i64 1,.string x.kind,.string x.name,.string {data:=#[]},.slice none 0 0]
 |14,vv,W=>∃ y1 y2 F,vv=.slice y1 1 y2∧Rep W false fq F [.row 1 (chD (Pl.dO x))] [.slice y1 1 y2]∧F.Nodup∧∀ z∈F,N0≤z
 |_,_,_=>True
theorem Hc (b0:Nat) (p:Nat) (o:Nat) (na:Nat) (ac:Nat) (k:Nat) (m:Nat) (uc:Nat) (N0:Nat) (ua:Option Addr) (x:Pl.Bl):∀ jj vv W W',Bel W W'→VDb b0 p o na ac k m uc N0 ua x jj vv W→VDb b0 p o na ac k m uc N0 ua x jj vv W':=by
 intro jj vv W W' hb h;match jj with
 |0|1|2|3|4|5|6|7|8|9|10|11|12|13=>exact h
 |14=>
  obtain⟨y1,y2,F,h1,h2,h3⟩:=h;exact⟨y1,y2,F,h1,h2.later hb,h3⟩
 |n+15=>exact trivial
def VDc (py:Nat) (m:Nat) (uc:Nat) (N0:Nat) (ua:Option Addr) (ya:Option Addr) (yc:Nat) (y:Pl.Bl):Nat→Value→World→Prop
 |0,vv,_=>vv=.slice ua m uc
 |1,vv,_=>vv=.pointer (some ⟨py,0,none⟩)
 |2,vv,_=>vv=.string y.kind
 |3,vv,_=>vv=.pointer (some ⟨py,1,none⟩)
 |4,vv,_=>vv=.string y.name
 |5,vv,_=>vv=.pointer (some ⟨py,2,none⟩)
 |6,vv,_=>vv=.slice ya y.lines.length yc
 |7,vv,W=>∃ y1 y2 F,vv=.slice y1 y.lines.length y2∧Rep W false aV F [bD y.lines] [.slice y1 y.lines.length y2]∧F.Nodup∧∀ z∈F,N0≤z
 |8,vv,W=>∃ y1 y2 F,vv=.agg #[.int .i64 2,.string y.kind,.string y.name,.string {data:=#[]},.slice y1 y.lines.length y2]∧Rep W false aV F [bD y.lines] [.slice y1 y.lines.length y2]∧F.Nodup∧∀ z∈F,N0≤z
 |9,vv,W=>∃ y1 y2 F,vv=.slice y1 1 y2∧Rep W false fq F [.row 1 (chD (Pl.nq y))] [.slice y1 1 y2]∧F.Nodup∧∀ z∈F,N0≤z
 |_,_,_=>True
theorem Ho (py:Nat) (m:Nat) (uc:Nat) (N0:Nat) (ua:Option Addr) (ya:Option Addr) (yc:Nat) (y:Pl.Bl):∀ jj vv W W',Bel W W'→VDc py m uc N0 ua ya yc y jj vv W→VDc py m uc N0 ua ya yc y jj vv W':=by
 intro jj vv W W' hb h;match jj with
 |0|1|2|3|4|5|6=>exact h
 |7|8|9=>
  obtain⟨y1,y2,F,h1,h2,h3⟩:=h;exact⟨y1,y2,F,h1,h2.later hb,h3⟩
 |n+10=>exact trivial
def VDd (b0:Nat) (p:Nat) (o:Nat) (na:Nat) (ac:Nat) (m:Nat) (uc:Nat) (q:Nat) (N0:Nat) (ua:Option Addr) (xa:Option Addr) (ya:Option Addr) (xc:Nat) (yc:Nat) (x:Pl.Bl) (y:Pl.Bl) (L:List Pl.Ch):Nat→Value→World→Prop
 |0,vv,_=>vv=.slice ua m uc
 |1,vv,_=>vv=.pointer (some ⟨b0,0,none⟩)
 |2,vv,_=>vv=.slice (some ⟨p,o,none⟩) na ac
 |3,vv,_=>vv=.int .i64 (q:Int)
 |4,vv,_=>vv=.pointer (some ⟨p,o+q*3,none⟩)
 |5,vv,_=>vv=.agg #[.string x.kind,.string x.name,.slice xa x.lines.length xc]
 |6,vv,_=>vv=.agg #[.string y.kind,.string y.name,.slice ya y.lines.length yc]
 |7,vv,W=>∃ y1 y2 F,vv=.slice y1 L.length y2∧Rep W false fq F [kK L] [.slice y1 L.length y2]∧F.Nodup∧∀ z∈F,N0≤z
 |_,_,_=>True
theorem Fv (b0:Nat) (p:Nat) (o:Nat) (na:Nat) (ac:Nat) (m:Nat) (uc:Nat) (q:Nat) (N0:Nat) (ua:Option Addr) (xa:Option Addr) (ya:Option Addr) (xc:Nat) (yc:Nat) (x:Pl.Bl) (y:Pl.Bl) (L:List Pl.Ch):∀ jj vv W W',Bel W W'→VDd b0 p o na ac m uc q N0 ua xa ya xc yc x y L jj vv W→VDd b0 p o na ac m uc q N0 ua xa ya xc yc x y L jj vv W':=by
 intro jj vv W W' hb h;match jj with
 |0|1|2|3|4|5|6=>exact h
 |7=>
  obtain⟨y1,y2,F,h1,h2,h3⟩:=h;exact⟨y1,y2,F,h1,h2.later hb,h3⟩
 |n+8=>exact trivial
theorem l9 (a b:Pl.Bl):(Pl.fJ a b).length≤12:=Xg (l7 a b _) (ey _)
theorem yo (a:List Pl.Bl) (y:Pl.Bl):(Pl.bR a y).length≤12:=by
 unfold Pl.bR;split
 ·simp
 ·exact l9 _ _
theorem oR (a:List Pl.Bl):∀ l:List Pl.Bl,(l.flatMap (Pl.bR a)).length≤l.length*12
 |[]=>by simp
 |y::l=>by
  have:=oR a l;have h2:=yo a y;rw[XP,At,Xm,Nat.succ_mul];omega
def zK (a:List Pl.Bl) (y:Pl.Bl):Option Nat→List Pl.Ch
 |none=> [Pl.nq y]
 |some q=>Pl.fJ (a.getD q Pl.aG) y
theorem qU (a:List Pl.Bl) (y:Pl.Bl):Pl.bR a y=zK a y (Pl.di a y.kind y.name):=by
 unfold Pl.bR;cases Pl.di a y.kind y.name<;>rfl
def cE (ga:List Pl.Ch) (a b:List Pl.Bl) (k:Nat):List Pl.Ch:=ga++(b.take k).flatMap (Pl.bR a)
def ef (a b:List Pl.Bl) (k:Nat):List Pl.Ch:=((a.take k).filter (Pl.je b)).map Pl.dO
theorem pC {a b:List Pl.Bl} {k:Nat} (hk:k<a.length):ef a b (k+1)=if Pl.je b (a.getD k Pl.aG) then ef a b k++[Pl.dO (a.getD k Pl.aG)] else ef a b k:=by
 unfold ef;rw[Pl.zv hk];split<;>simp
theorem my (a b:List Pl.Bl) (k:Nat):(ef a b k).length≤a.length:=by
 unfold ef;rw[XT];exact Xg (Yz _ _) (by rw[Xo];omega)
theorem zI (a b:List Pl.Bl) (av bv:Value) (w:World) (ha:Raw w bL [cq a] [av]) (hb:Raw w bL [cq b] [bv]) (hza:oi a) (hzb:oi b) (hla:∀ z∈a,z.lines.length≤4194304∧∀ x∈z.lines,x.ws.length≤4194304) (wR:∀ z∈b,z.lines.length≤4194304∧∀ x∈z.lines,x.ws.length≤4194304):
  Calls Tryz.prog 8 #[.agg #[av],.agg #[bv]] w (eT fq (kK (Pl.bY a b)) w):=by
 obtain⟨aa,ac,rfl⟩:=ha.aT;obtain⟨ba,bc,rfl⟩:=hb.aT;have HA:=uh ha;have HB:=uh hb;have TJ:=uh hza;have AN:=uh hzb;have JQ:=uh hla;have tq:=uh wR;have sj:Hid (Pl.bY a b=if Pl.bw a&&Pl.bw b then (a.filter (Pl.je b)).map Pl.dO++b.flatMap (Pl.bR a) else []):=rfl;clear ha hb hza hzb hla wR;obtain⟨na,IW⟩:∃ n,n=a.length:=⟨_,rfl⟩
 obtain⟨nb,p5⟩:∃ n,n=b.length:=⟨_,rfl⟩
 have uO:=uh IW;have kt:=uh p5;have e1:a.length=na:=IW.symm;have e2:b.length=nb:=p5.symm;clear IW p5;rw[e1,e2];clear e1 e2;obtain⟨b0,aU⟩:∃ b,b=w.heap.size:=⟨_,rfl⟩
 have AZ:=uh aU;obtain⟨wa,aP⟩:∃ wa,wa=(w.alloc (.cells #[.slice aa na ac] 26)).alloc (.cells #[.slice ba nb bc] 26):=⟨_,rfl⟩
 have kv:Hid (Bel w wa):=by show Below _ _ _;rw[aP];exact af (af zR _) _
 have yM:Hid (au wa b0 [.slice aa na ac]):=by show au _ _ _;rw[aP,aU];exact(au.new w #[.slice aa na ac] _ _ rfl).eO _
 have Ef:Hid (au wa (b0+1) [.slice ba nb bc]):=by show au _ _ _;rw[aP];exact au.new _ #[.slice ba nb bc] _ _ (by simp[aU])
 have OA:Hid (Raw wa bL [cq a] [.slice aa na ac]):=by show Raw _ _ _ _;rw[uO.out];exact HA.out.later kv.out
 have fm:Hid (Raw wa bL [cq b] [.slice ba nb bc]):=by show Raw _ _ _ _;rw[kt.out];exact HB.out.later kv.out
 go_enter Tryz.func8,Tryz.ntmps8
 go_upto_region 1 with fail
 rw[← aP,← aU];clear aP aU HA HB;obtain⟨w1,gB⟩:∃ w1,w1=wa.alloc (.cells #[] 37):=⟨_,rfl⟩
 have cr:Bel wa w1:=by rw[gB];exact af zR _
 obtain⟨g0,I0⟩:∃ g,g=wa.heap.size:=⟨_,rfl⟩
 have cV:Hid (Gr w1 wa.heap.size 37 aH (.slice (some ⟨g0,0,none⟩) 0 0) 0 [] [] []):=by
  show Gr _ _ _ _ _ _ _ _ _;rw[gB,I0];exact Gr.emp aH (heap_alloc_new wa _) zE
 go_upto_region 2 with fail
 rw[← gB,← I0];clear gB I0;have cB:=uh cr;clear cr;have xa0:=(yM.out.later cB.out).get 0 _ rfl;have xal:=(yM.out.later cB.out).lt;have AA:=uh (kR a (.slice aa na ac) w1 (OA.out.later cB.out) TJ.out);obtain⟨v1,h9⟩:∃ x,x=Pl.bw a:=⟨_,rfl⟩
 obtain⟨v2,iH⟩:∃ x,x=Pl.bw b:=⟨_,rfl⟩
 have B8:Hid ((v1=true→na≤60)∧(v2=true→nb≤60)):=⟨fun h=>by rw[uO.out];exact Pl.fh (h9 ▸ h),fun h=>by rw[kt.out];exact Pl.fh (iH ▸ h)⟩
 rw[← h9]at AA sj;rw[← iH]at sj;go_wp2_with fail
 refine AA.out.mono ?_;rintro e w2 ⟨rfl,dD⟩;replace cV:=uh (cV.out.later dD)
 replace cB:=uh (ae cB.out dD)
 clear dD AA xa0 xal;have sG:Hid (∀ X,Bel w2 X→Pl.bY a b=[]→eT fq (kK (Pl.bY a b)) w (.returned (.slice (some ⟨g0,0,none⟩) 0 0)) X):=fun X hX he=>by
  rw[he];exact⟨_,[],rfl,.emp _ _ _ rfl .nil,XL,by simp,ae kv.out (ae cB.out hX)⟩
 cases v1
 ·have HX:=uh (sG.out w2 zR sj.out);clear sG h9 iH;go_wp2;go_ret;exact HX.out
 have xb0:=(Ef.out.later cB.out).get 0 _ rfl;have xbl:=(Ef.out.later cB.out).lt;have R6:Hid (Calls Tryz.prog 21 #[.agg #[.slice ba nb bc]] w2 fun e w'=>e=.returned (.bool v2)∧Bel w2 w'):=by rw[iH];exact kR b (.slice ba nb bc) w2 (fm.out.later cB.out) AN.out
 clear h9 iH;go_wp2_with fail
 refine R6.out.mono ?_;rintro e w3 ⟨rfl,ku⟩;cases v2
 ·have HX:=uh (sG.out w3 ku sj.out);clear sG ku;go_wp2;go_ret;exact HX.out
 replace cV:=uh (cV.out.later ku)
 replace cB:=uh (ae cB.out ku)
 clear sG ku R6 xb0 xbl;replace sj:Hid (Pl.bY a b=(a.filter (Pl.je b)).map Pl.dO++b.flatMap (Pl.bR a)):=sj.out
 have Ip:na≤60:=B8.out.1 (by first|rfl|trivial);have Ib:nb≤60:=B8.out.2 (by first|rfl|trivial);clear B8;have JP:Hid (∀ X,Bel w3 X→Bel wa X):=fun X hX=>ae cB.out hX;go_wp2;go_loopw [5,6] (fun vo vi wr=>∃ (k:Nat) (G:List Nat) (xs:List Value),k≤na∧vi=.int .i64 k∧Gr wr wa.heap.size 37 aH vo (ef a b k).length G ((ef a b k).flatMap chD) xs∧Bel wa wr) (fun _ vi _=>na - (intOf vi).toNat)
 case atStart=>exact⟨0,[],[],zN,rfl,cV.out,cB.out⟩
 case round=>
  obtain⟨k,G,xs,hk,rfl,hG,hB⟩:=hrel;clear cV cB JP;have cV:=uh hG;have cB:=uh hB;obtain⟨ua,uc,sD⟩:=hG.shape;subst sD;have lL:=uh (yM.out.later hB);have dX:=uh (Ef.out.later hB);clear hG hB;have x0:=lL.out.get 0 _ rfl;have xl:=lL.out.lt;by_cases bq:k<na
  rotate_left
  ·have jq:ef a b k=(a.filter (Pl.je b)).map Pl.dO:=by unfold ef;rw[Xp (by have:=uO.out;omega)]
   have gh:=my a b k;rw[jq]at cV gh ⊢;obtain⟨ga,pU⟩:∃ ga,ga=(a.filter (Pl.je b)).map Pl.dO:=⟨_,rfl⟩
   rw[← pU]at cV sj gh ⊢;have JK:Hid (ga.length≤60):=by have:=uO.out;show _≤_;omega
   clear jq pU gh;go_wp2;clear x0 xl lL dX;go_loopw [5,7] (fun vo vi wr=>∃ (k:Nat) (G:List Nat) (xs:List Value),k≤nb∧vi=.int .i64 k∧Gr wr wa.heap.size 37 aH vo (cE ga a b k).length G ((cE ga a b k).flatMap chD) xs∧Bel wa wr) (fun _ vi _=>nb - (intOf vi).toNat)
   case atStart=>exact⟨0,G,xs,zN,rfl,by rw[show cE ga a b 0=ga by simp[cE]];exact cV.out,cB.out⟩
   case round=>
    obtain⟨k2,G2,xs2,Aw,rfl,hG,hB⟩:=hrel;clear cV cB;have cV:=uh hG;have cB:=uh hB;obtain⟨ua2,uc2,sD⟩:=hG.shape;subst sD;have lL:=uh (yM.out.later hB);have dX:=uh (Ef.out.later hB);clear hG hB;have x1:=dX.out.get 0 _ rfl;have xl1:=dX.out.lt;by_cases su:k2<nb
    rotate_left
    ·have jq:cE ga a b k2=Pl.bY a b:=by unfold cE;rw[sj.out,Xp (by have:=kt.out;omega)]
     obtain⟨dd,lZ⟩:∃ z,z=cE ga a b k2:=⟨_,rfl⟩
     rw[← lZ]at cV jq ⊢;obtain⟨F,r,nd,fr⟩:=cV.out.done;have HD:Hid (eT fq (kK (Pl.bY a b)) w (.returned (.slice ua2 dd.length uc2)) wr):=by rw[← jq];exact⟨_,F,rfl,r,nd,fun z hz=>Xg kv.out.size (fr z hz),ae kv.out cB.out⟩
     clear r nd fr jq lZ;go_wp2;go_ret;exact HD.out
    have IH:k2<b.length:=by have:=kt.out;omega
    rcases cN (fm.out.later cB.out) with⟨e0,_⟩|⟨p2,o2,c2,iH,tA,IA,iJ⟩
    ·have:=kt.out;omega
    rw[← kt.out]at iH;injection iH with g1 _ g3
    subst g1;subst g3;obtain⟨ya,yc,ji,lQ⟩:=iJ k2 IH;have Ow:Hid ((b.getD k2 Pl.aG).lines.length≤4194304∧∀ x∈(b.getD k2 Pl.aG).lines,x.ws.length≤4194304):=by
     have e:b.getD k2 Pl.aG=b[k2]:=by simp[IH]
     show _∧_;rw[e];exact tq.out _ (Xq IH)
    have kc:Hid (b.take (k2+1)=b.take k2++[b.getD k2 Pl.aG]):=by
     have e:b.getD k2 Pl.aG=b[k2]:=by simp[IH]
     show _=_;rw[e,XI IH]
    have qt:Hid ((cE ga a b k2).length≤10000):=by
     have h1:=oR a (b.take k2);rw[Xo]at h1;have:=JK.out;have:=kt.out;show _≤_;unfold cE;rw[At];omega
    obtain⟨y,hy⟩:∃ y,y=b.getD k2 Pl.aG:=⟨_,rfl⟩
    rw[← hy]at ji lQ Ow kc;obtain⟨ac0,sA⟩:∃ z,z=cE ga a b k2:=⟨_,rfl⟩
    have eU:Hid (cE ga a b (k2+1)=ac0++Pl.bR a y):=by show _=_;rw[sA];unfold cE;rw[kc.out,Xv,XE,XG]
    rw[← sA]at cV qt ⊢;obtain⟨m,hm⟩:∃ m,m=ac0.length:=⟨_,rfl⟩
    rw[← hm]at cV qt ⊢;have HM:=uh hm;obtain⟨es,L1⟩:∃ es,es=ac0.flatMap chD:=⟨_,rfl⟩
    rw[← L1]at cV;have RA:=uh L1;have cZ:(0:Int)≤(k2:Int):=by omega
    have dy:(k2:Int)<(nb:Int):=by omega
    obtain⟨sM,nM⟩:∃ z,z=wr.alloc (.cells #[.string y.kind,.string y.name,.slice ya y.lines.length yc] 58):=⟨_,rfl⟩
    obtain⟨py,Vx⟩:∃ z,z=wr.heap.size:=⟨_,rfl⟩
    have wi:Bel wr sM:=by rw[nM];exact af zR _
    have uM:Hid (au sM py [.string y.kind,.string y.name,.slice ya y.lines.length yc]):=by show au _ _ _;rw[nM,Vx];exact au.new wr #[.string y.kind,.string y.name,.slice ya y.lines.length yc] _ _ rfl
    clear sA hm L1 hy;go_upto_region 13 with(refine wpList_load_mid rfl 58 _ rfl p2 (o2+k2*3) rfl [.string y.kind,.string y.name,.slice ya y.lines.length yc] _ ji Tryz.underlying58 rfl (by kernel_rfl) ?_)
    rw[← nM,← Vx];clear nM Vx ji tA iJ IA x1 xl1;replace cV:=uh (cV.out.later wi)
    replace cB:=uh (ae cB.out wi)
    replace lL:=uh (lL.out.later wi)
    have IP:=uh (lQ.later wi);clear lQ wi;obtain⟨fo,D5⟩:∃ fo,fo=Pl.di a y.kind y.name:=⟨_,rfl⟩
    have TN:=uh D5;have nN:=uh (rU a (.slice aa na ac) y.kind y.name sM (OA.out.later cB.out));rw[← D5]at nN;have AR:Hid (Pl.bR a y=zK a y fo):=by show _=_;rw[D5];exact qU a y
    clear D5;have z0:=lL.out.get 0 _ rfl;have za:=lL.out.at_;have zl:=lL.out.lt;have y0:=uM.out.get 0 _ rfl;have y1:=uM.out.get 1 _ rfl;have yl:=uM.out.lt;go_wp2_with fail
    refine nN.out.mono ?_;rintro e sw ⟨rfl,pd⟩;replace cV:=uh (cV.out.later pd)
    replace cB:=uh (ae cB.out pd)
    replace lL:=uh (lL.out.later pd)
    replace uM:=uh (uM.out.later pd)
    replace IP:=uh (IP.out.later pd)
    clear pd nN z0 za zl y0 y1 yl;obtain⟨ua,SB⟩:∃ z,z=ua2:=⟨_,rfl⟩
    obtain⟨uc,St⟩:∃ z,z=uc2:=⟨_,rfl⟩
    rw[← SB,← St]at cV ⊢;clear SB St;cases fo with
    |none=>
     have Ck:Pl.ixI none= -1:=rfl;rw[Ck];clear Ck;have HE:Hid (cE ga a b (k2+1)=ac0++[Pl.nq y]):=by show _=_;rw[eU.out,AR.out];rfl
     have nO:Hid ((1:Nat)≤100):=by show (1:Nat)≤100;decide
     have jN:=uh (fun (X:World) (hX:Bel sw X)=>ow y.lines (.slice ya y.lines.length yc) X (IP.out.later hX) Ow.out.1 Ow.out.2);go_upto_region 15 with fail
     refine RY.eY sw zR (VDc py m uc sw.heap.size ua ya yc y) (Ho _ _ _ _ _ _ _ _) (fun u W'=>∃ g' c' G' xs',u=.slice g' (m+1) c'∧Gr W' wa.heap.size 37 aH u (m+1) G' (es++chD (Pl.nq y)) xs'∧Bel wa W') 10 12 88 5 (by kernel_rfl) (by kernel_rfl) (by kernel_rfl) (by kernel_rfl) (by kernel_rfl) rfl (by kernel_rfl) _ _ rfl rfl rfl rfl rfl (by kernel_rfl) ?_ ?_ ?_
     ·intro ii o' ho wJ a X hX hk hd;have zpy:=uM.out.later hX;have zpyl:=zpy.lt;match ii,ho with
      |0,rfl=>
       have e5:a.tmps[5]?.getD undef=.slice ua m uc:=(RY.ai a 5).trans ((hk 5 (RY.aS (by kernel_rfl))).trans rfl);exact RY.p (.slice ua m uc) (by simp[execOp,go_sem,e5])
      |1,rfl=>
       have e8:a.tmps[8]?.getD undef=.pointer (some ⟨py,0,none⟩):=(RY.ai a 8).trans ((hk 8 (RY.aS (by kernel_rfl))).trans rfl);exact RY.p (.pointer (some ⟨py,0,none⟩)) (by simp[execOp,go_sem,e8])
      |2,rfl=>
       have e79:=RY.E1 hd 1 79;have ycl_:=zpy.get 0 _ rfl;exact RY.p (.string y.kind) (by simp[execOp,go_sem,e79,ycl_])
      |3,rfl=>
       have e8:a.tmps[8]?.getD undef=.pointer (some ⟨py,0,none⟩):=(RY.ai a 8).trans ((hk 8 (RY.aS (by kernel_rfl))).trans rfl);exact RY.p (.pointer (some ⟨py,1,none⟩)) (by simp[execOp,go_sem,e8])
      |4,rfl=>
       have e81:=RY.E1 hd 3 81;have ycl_:=zpy.get 1 _ rfl;exact RY.p (.string y.name) (by simp[execOp,go_sem,e81,ycl_])
      |5,rfl=>
       have e8:a.tmps[8]?.getD undef=.pointer (some ⟨py,0,none⟩):=(RY.ai a 8).trans ((hk 8 (RY.aS (by kernel_rfl))).trans rfl);exact RY.p (.pointer (some ⟨py,2,none⟩)) (by simp[execOp,go_sem,e8])
      |6,rfl=>
       have e83:=RY.E1 hd 5 83;have ycl_:=zpy.get 2 _ rfl;exact RY.p (.slice ya y.lines.length yc) (by simp[execOp,go_sem,e83,ycl_])
      |7,rfl=>
       have e84:=RY.E1 hd 6 84;refine Xk ⟨23,#[.slice ya y.lines.length yc],by simp[go_sem,e84],(jN.out X hX).mono ?_⟩;rintro e W' ⟨v,F,rfl,r,nd,fr,hb⟩;obtain⟨x1,x2,hx⟩:=r.raw.aT;subst hx;exact⟨_,rfl,hb,x1,x2,F,rfl,r,nd,fun b dD=>Xg hX.size (fr b dD)⟩
      |8,rfl=>
       have e80:=RY.E1 hd 2 80;have e82:=RY.E1 hd 4 82;obtain⟨y1,y2,F85,q85,Wk,U9,Up⟩:=hd 7 _ 85 rfl rfl ⟨⟨7,.data⟩,by simp,rfl,rfl⟩ (by decide);have e85:a.tmps[85]?.getD undef=.slice y1 y.lines.length y2:=(RY.ai a 85).trans q85;exact No ⟨_,X,by simp[execOp,go_sem,e80,e82,e85],zR,y1,y2,F85,rfl,Wk,U9,Up⟩
      |9,rfl=>
       obtain⟨y1,y2,F86,q86,SV,VA,UU⟩:=hd 8 _ 86 rfl rfl ⟨⟨8,.data⟩,by simp,rfl,rfl⟩ (by decide);have e86:a.tmps[86]?.getD undef=.agg #[.int .i64 2,.string y.kind,.string y.name,.string {data:=#[]},.slice y1 y.lines.length y2]:=(RY.ai a 86).trans q86;exact No ⟨.slice (some ⟨X.heap.size,0,none⟩) 1 1,X.alloc (.cells #[.int .i64 2,.string y.kind,.string y.name,.string {data:=#[]},.slice y1 y.lines.length y2] 37),by simp[execOp,go_sem,e86],af zR _,some ⟨X.heap.size,0,none⟩,1,X.heap.size::((F86++[])++[]),rfl,KA (cs:=#[.int .i64 2,.string y.kind,.string y.name,.string {data:=#[]},.slice y1 y.lines.length y2]) (bZ _ _ _ _ SV),by rw[Xl,Xl,Yi];exact⟨fun h=>by have:=SV.lt _ h;omega,VA⟩,fun z hz=>by
         rw[Xl,Xl]at hz;rcases XD.1 hz with e|e
         ·rw[e];exact hX.size
         ·exact UU z e⟩
      |n+10,ho=>omega
     ·intro a X hX hk hd;have e0:a.eval (.tmp 78)=.slice ua m uc:=hd 0 _ 78 rfl rfl ⟨⟨0,.data⟩,by simp,rfl,rfl⟩ (by decide);obtain⟨y1,y2,FS,e1,RO,SJ,IC⟩:=hd 9 _ 87 rfl rfl ⟨⟨9,.data⟩,by simp,rfl,rfl⟩ (by decide);obtain⟨u,W2,G',xs',bC,eC,Co,_⟩:=oQ (P:=Tryz.prog) wa.heap.size 32 32 37 5 80 _ Tryz.jw Tryz.nh rfl (by decide) (by decide) aH rfl (cV.out.later hX) RO SJ (fun z hz=>⟨Xg cB.out.size (IC z hz),fun hq=>by have:=cV.out.rep.lt z hq;have:=IC z hz;omega,fun hq=>by have:=(aW cV.out.row hq).2;have:=IC z hz;omega⟩) (by have:=nO.out;have:=qt.out;omega) (Xg cB.out.size hX.size);obtain⟨ux,uy,LC⟩:=eC.shape;subst LC;exact⟨_,W2,aQ (.tmp 78) (.tmp 87) 32 rfl e0 e1 bC,ux,uy,G',xs',rfl,eC,dF (ae cB.out hX) Co (fun b e=>(aW cV.out.row e).1)⟩
     ·intro vs X hK e2;simp only[RY.aC,Act.put,so,As,An];rw[e2];generalize vs 78=s78,vs 79=s79,vs 80=s80,vs 81=s81,vs 82=s82,vs 83=s83,vs 84=s84,vs 85=Qh,vs 86=s86,vs 87=VV;generalize vs 88=s88 at hK ⊢;obtain⟨g',c',G',xs',rfl,eC,kr⟩:=hK;have k6:=uh eC;have eM:=uh kr;clear eC kr;go_wp2;go_roundw
      case rel=>exact⟨k2+1,G',xs',by omega,by go_num,by rw[HE.out,At,← HM.out,Xv,XE,← RA.out];exact k6.out,eM.out⟩
      case measure=>simp[intOf];omega
    |some q=>
     have Ck:Pl.ixI (some q)=(q:Int):=rfl;rw[Ck];clear Ck;have kz:q<a.length:=Pl.yr TN.out.symm;rcases cN (OA.out.later cB.out) with⟨e0,_⟩|⟨p,o,c,hv,hp,dR,aE⟩
     ·omega
     rw[← uO.out]at hv;injection hv with g1 _ g3
     subst g1;subst g3;obtain⟨xa,xc,dm,dH⟩:=aE q kz;have Mt:Hid ((a.getD q Pl.aG).lines.length≤4194304∧∀ x∈(a.getD q Pl.aG).lines,x.ws.length≤4194304):=by
      have e:a.getD q Pl.aG=a[q]:=by simp[kz]
      show _∧_;rw[e];exact JQ.out _ (Xq kz)
     obtain⟨x,hx⟩:∃ x,x=a.getD q Pl.aG:=⟨_,rfl⟩
     have sn:Hid (Pl.bR a y=Pl.fJ x y):=by rw[hx];exact AR.out
     rw[← hx]at dm dH Mt;have cU:=uh dm;have sx:=uh hp;obtain⟨L,hL⟩:∃ L,L=Pl.fJ x y:=⟨_,rfl⟩
     have nO:Hid (L.length≤100):=by show _≤_;rw[hL];have:=l9 x y;omega
     have ML:Hid (∀ X,Bel sw X→Calls Tryz.prog 24 #[.agg #[.string x.kind,.string x.name,.slice xa x.lines.length xc],.agg #[.string y.kind,.string y.name,.slice ya y.lines.length yc]] X (eT fq (kK L) X)):=fun X hX=>by rw[hL];exact Di x y _ _ X (dH.later hX) (IP.out.later hX) Mt.out Ow.out
     have HE:Hid (cE ga a b (k2+1)=ac0++L):=by show _=_;rw[eU.out,sn.out,hL]
     have Sk:(0:Int)≤(q:Int):=by omega
     have I2:(q:Int)<(na:Int):=by have:=uO.out;omega
     have IY:¬ ((q:Int)<0):=by omega
     clear hx dm dH hp aE dR hL;go_upto_region 16 with fail
     refine RY.eY sw zR (VDd b0 p o na ac m uc q sw.heap.size ua xa ya xc yc x y L) (Fv _ _ _ _ _ _ _ _ _ _ _ _ _ _ _ _ _) (fun u W'=>∃ g' c' G' xs',u=.slice g' (m+L.length) c'∧Gr W' wa.heap.size 37 aH u (m+L.length) G' (es++L.flatMap chD) xs'∧Bel wa W') 8 12 97 5 (by kernel_rfl) (by kernel_rfl) (by kernel_rfl) (by kernel_rfl) (by kernel_rfl) rfl (by kernel_rfl) _ _ rfl rfl rfl rfl rfl (by kernel_rfl) ?_ ?_ ?_
     ·intro ii o' ho wJ a X hX hk hd;have zb0:=lL.out.later hX;have zb0l:=zb0.lt;have zpy:=uM.out.later hX;have zpyl:=zpy.lt;match ii,ho with
      |0,rfl=>
       have e5:a.tmps[5]?.getD undef=.slice ua m uc:=(RY.ai a 5).trans ((hk 5 (RY.aS (by kernel_rfl))).trans rfl);exact RY.p (.slice ua m uc) (by simp[execOp,go_sem,e5])
      |1,rfl=>
       have e2:a.tmps[2]?.getD undef=.pointer (some ⟨b0,0,none⟩):=(RY.ai a 2).trans ((hk 2 (RY.aS (by kernel_rfl))).trans rfl);exact RY.p (.pointer (some ⟨b0,0,none⟩)) (by simp[execOp,go_sem,e2])
      |2,rfl=>
       have e90:=RY.E1 hd 1 90;have ycl_:=zb0.get 0 _ rfl;exact RY.p (.slice (some ⟨p,o,none⟩) na ac) (by simp[execOp,go_sem,e90,ycl_])
      |3,rfl=>
       have e9:a.tmps[9]?.getD undef=.int .i64 (q:Int):=(RY.ai a 9).trans ((hk 9 (RY.aS (by kernel_rfl))).trans rfl);exact RY.p (.int .i64 (q:Int)) (by simp[execOp,go_sem,e9])
      |4,rfl=>
       exact RY.p (.pointer (some ⟨p,o+q*3,none⟩)) (by simp[execOp,go_sem,RY.E1 hd 2 91,RY.E1 hd 3 92,Sk,I2])
      |5,rfl=>
       have v93:a.eval (.tmp 93)=.pointer (some ⟨p,o+q*3,none⟩):=hd 4 _ 93 rfl rfl ⟨⟨4,.data⟩,by simp,rfl,rfl⟩ (by decide);exact No ⟨_,X,ak 58 _ rfl p (o+q*3) v93 [.string x.kind,.string x.name,.slice xa x.lines.length xc] _ (aj cU.out sx.out hX) Tryz.underlying58 rfl (by kernel_rfl),zR,rfl⟩
      |6,rfl=>
       have v8:a.eval (.tmp 8)=.pointer (some ⟨py,0,none⟩):=(hk 8 (RY.aS (by kernel_rfl))).trans rfl;exact No ⟨_,X,ak 58 _ rfl py 0 v8 [.string y.kind,.string y.name,.slice ya y.lines.length yc] _ zpy.at_ Tryz.underlying58 rfl (by kernel_rfl),zR,rfl⟩
      |7,rfl=>
       have e94:=RY.E1 hd 5 94;have e95:=RY.E1 hd 6 95;refine Xk ⟨24,#[.agg #[.string x.kind,.string x.name,.slice xa x.lines.length xc],.agg #[.string y.kind,.string y.name,.slice ya y.lines.length yc]],by simp[go_sem,e94,e95],(ML.out X hX).mono ?_⟩;rintro e W' ⟨v,F,rfl,r,nd,fr,hb⟩;obtain⟨x1,x2,hx⟩:=r.raw.aT;subst hx;exact⟨_,rfl,hb,x1,x2,F,rfl,r,nd,fun b dD=>Xg hX.size (fr b dD)⟩
      |n+8,ho=>omega
     ·intro a X hX hk hd;have e0:a.eval (.tmp 89)=.slice ua m uc:=hd 0 _ 89 rfl rfl ⟨⟨0,.data⟩,by simp,rfl,rfl⟩ (by decide);obtain⟨y1,y2,FS,e1,RO,SJ,IC⟩:=hd 7 _ 96 rfl rfl ⟨⟨7,.data⟩,by simp,rfl,rfl⟩ (by decide);obtain⟨u,W2,G',xs',bC,eC,Co,_⟩:=oQ (P:=Tryz.prog) wa.heap.size 32 32 37 5 80 _ Tryz.jw Tryz.nh rfl (by decide) (by decide) aH rfl (cV.out.later hX) RO SJ (fun z hz=>⟨Xg cB.out.size (IC z hz),fun hq=>by have:=cV.out.rep.lt z hq;have:=IC z hz;omega,fun hq=>by have:=(aW cV.out.row hq).2;have:=IC z hz;omega⟩) (by have:=nO.out;have:=qt.out;omega) (Xg cB.out.size hX.size);obtain⟨ux,uy,LC⟩:=eC.shape;subst LC;exact⟨_,W2,aQ (.tmp 89) (.tmp 96) 32 rfl e0 e1 bC,ux,uy,G',xs',rfl,eC,dF (ae cB.out hX) Co (fun b e=>(aW cV.out.row e).1)⟩
     ·intro vs X hK e2;simp only[RY.aC,Act.put,so,As,An];rw[e2];generalize vs 89=s89,vs 90=s90,vs 91=s91,vs 92=s92,vs 93=s93,vs 94=s94,vs 95=s95,vs 96=s96;generalize vs 97=s97 at hK ⊢;obtain⟨g',c',G',xs',rfl,eC,kr⟩:=hK;have k6:=uh eC;have eM:=uh kr;clear eC kr;go_wp2;go_roundw
      case rel=>exact⟨k2+1,G',xs',by omega,by go_num,by rw[HE.out,At,← HM.out,Xv,← RA.out];exact k6.out,eM.out⟩
      case measure=>simp[intOf];omega
  have eB:k<a.length:=by have:=uO.out;omega
  rcases cN (OA.out.later cB.out) with⟨e0,_⟩|⟨p,o,c,hv,hp,dR,aE⟩
  ·have:=uO.out;omega
  rw[← uO.out]at hv;injection hv with g1 _ g3
  subst g1;subst g3;obtain⟨xa,xc,dm,_⟩:=aE k eB;have eU:=uh (pC (b:=b) eB);have qt:Hid ((ef a b k).length≤60):=by have:=my a b k;have:=uO.out;show _≤_;omega
  obtain⟨x,hx⟩:∃ x,x=a.getD k Pl.aG:=⟨_,rfl⟩
  rw[← hx]at dm eU;have cU:=uh dm;have sx:=uh hp;have nO:Hid ((1:Nat)≤100):=by show (1:Nat)≤100;decide
  obtain⟨ac0,sA⟩:∃ z,z=ef a b k:=⟨_,rfl⟩
  rw[← sA]at cV qt eU ⊢;obtain⟨m,hm⟩:∃ m,m=ac0.length:=⟨_,rfl⟩
  rw[← hm]at cV qt ⊢;have HM:=uh hm;obtain⟨es,L1⟩:∃ es,es=ac0.flatMap chD:=⟨_,rfl⟩
  rw[← L1]at cV;have RA:=uh L1;have cZ:(0:Int)≤(k:Int):=by omega
  have dy:(k:Int)<(na:Int):=by omega
  obtain⟨fo,D5⟩:∃ fo,fo=Pl.di b x.kind x.name:=⟨_,rfl⟩
  have SI:Hid (Pl.je b x=fo.isNone):=by rw[D5];rfl
  have nN:Hid (∀ X,Bel wr X→Calls Tryz.prog 22 #[.agg #[.slice ba nb bc],.string x.kind,.string x.name] X fun e w'=>e=.returned (.int .i64 (Pl.ixI fo))∧Bel X w'):=fun X hX=>by rw[D5];exact rU b (.slice ba nb bc) x.kind x.name X (fm.out.later (ae cB.out hX))
  have hng:decide (Pl.ixI fo<0)=fo.isNone:=Kv;clear hx dm hp aE dR sA hm L1 D5;go_upto_region 7 with fail
  clear x0 xl;refine RY.bs wr zR (VDa b0 p o na ac nb bc k ba x fo) (Hk _ _ _ _ _ _ _ _ _ _ _) (by kernel_rfl) (by kernel_rfl) (by kernel_rfl) (by kernel_rfl) ?_ ?_
  ·intro ii o' ho a X hX hk hd;have zb0:=lL.out.later hX;have zb0l:=zb0.lt;have z_b0___1_:=dX.out.later hX;have z_b0___1_l:=z_b0___1_.lt;match ii,ho with
   |0,rfl=>
    have v3:a.eval (.tmp 3)=.pointer (some ⟨(b0+1),0,none⟩):=(hk 3 (by kernel_rfl)).trans rfl;exact No ⟨_,X,ak 26 _ rfl (b0+1) 0 v3 [.slice ba nb bc] _ z_b0___1_.at_ Tryz.underlying26 rfl (by kernel_rfl),zR,rfl⟩
   |1,rfl|7,rfl=>
    exact RY.p (.pointer (some ⟨b0,0,none⟩)) (by simp[execOp,go_sem,RY.K hk 2 (.pointer (some ⟨b0,0,none⟩))])
   |2,rfl=>
    have e28:=RY.E hd 1 28;have ycl_:=zb0.get 0 _ rfl;exact RY.p (.slice (some ⟨p,o,none⟩) na ac) (by simp[execOp,go_sem,e28,ycl_])
   |3,rfl|9,rfl=>
    exact RY.p (.int .i64 (k:Int)) (by simp[execOp,go_sem,RY.K hk 6 (.int .i64 (k:Int))])
   |4,rfl=>
    exact RY.p (.pointer (some ⟨p,o+k*3,none⟩)) (by simp[execOp,go_sem,RY.E hd 2 29,RY.E hd 3 30,cZ,dy])
   |5,rfl=>
    exact RY.p (.pointer (some ⟨p,o+k*3,none⟩)) (by simp[execOp,go_sem,RY.E hd 4 31])
   |6,rfl=>
    have e32:=RY.E hd 5 32;have ypl_:=zL sx.out hX.size;have ycl_:X.cell? ⟨p,o+k*3,none⟩=some (.string x.kind):=by have q:=aF (aj cU.out sx.out hX) 0 _ rfl;simpa using q
    exact RY.p (.string x.kind) (by simp[execOp,go_sem,e32,ycl_])
   |8,rfl=>
    have e34:=RY.E hd 7 34;have ycl_:=zb0.get 0 _ rfl;exact RY.p (.slice (some ⟨p,o,none⟩) na ac) (by simp[execOp,go_sem,e34,ycl_])
   |10,rfl=>
    exact RY.p (.pointer (some ⟨p,o+k*3,none⟩)) (by simp[execOp,go_sem,RY.E hd 8 35,RY.E hd 9 36,cZ,dy])
   |11,rfl=>
    exact RY.p (.pointer (some ⟨p,o+k*3+1,none⟩)) (by simp[execOp,go_sem,RY.E hd 10 37])
   |12,rfl=>
    have e38:=RY.E hd 11 38;have ypl_:=zL sx.out hX.size;have ycl_:X.cell? ⟨p,o+k*3+1,none⟩=some (.string x.name):=by have q:=aF (aj cU.out sx.out hX) 1 _ rfl;simpa using q
    exact RY.p (.string x.name) (by simp[execOp,go_sem,e38,ycl_])
   |13,rfl=>
    have e27:=RY.E hd 0 27;have e33:=RY.E hd 6 33;have e39:=RY.E hd 12 39;refine Xk ⟨22,#[.agg #[.slice ba nb bc],.string x.kind,.string x.name],by simp[go_sem,e27,e33,e39],(nN.out X hX).mono ?_⟩;rintro e W' ⟨rfl,hb⟩;exact⟨_,rfl,hb,rfl⟩
   |14,rfl=>
    exact RY.p (.bool fo.isNone) (by simp[execOp,go_sem,RY.E hd 13 40,hng])
   |n+15,ho=>simp at ho
  intro X vs hX bn;have q41:vs 41=_:=bn 14 _ 41 rfl rfl;simp only[RY.aC,Act.put,so,As,An];rw[q41];generalize vs 27=s27,vs 28=s28,vs 29=s29,vs 30=s30,vs 31=sL,vs 32=pS,vs 33=pY,vs 34=qo,vs 35=nP,vs 36=mU,vs 37=nS,vs 38=mT,vs 39=nW,vs 40=s40;clear bn q41;replace lL:=uh (lL.out.later hX)
  replace dX:=uh (dX.out.later hX)
  replace cV:=uh (cV.out.later hX)
  replace cB:=uh (ae cB.out hX)
  replace cU:=uh (aj cU.out sx.out hX)
  replace sx:=uh (zL sx.out hX.size)
  obtain⟨w7,JF⟩:∃ w7,w7=X:=⟨_,rfl⟩
  rw[← JF]at lL dX cV cB cU sx ⊢;clear JF hX hng nN;cases fo with
  |some qf=>
   have RH:(some qf).isNone=false:=rfl;rw[RH];clear RH;have HE:Hid (ef a b (k+1)=ac0):=by show _=_;rw[eU.out,SI.out];rfl
   go_wp2;go_roundw
   case rel=>exact⟨k+1,G,xs,by omega,by go_num,by rw[HE.out,← HM.out,← RA.out];exact cV.out,cB.out⟩
   case measure=>simp[intOf];omega
  |none=>
  have RH:(none:Option Nat).isNone=true:=rfl;rw[RH];clear RH;have HE:Hid (ef a b (k+1)=ac0++[Pl.dO x]):=by show _=_;rw[eU.out,SI.out];rfl
  go_upto_region 8 with fail
  refine RY.eY w7 zR (VDb b0 p o na ac k m uc w7.heap.size ua x) (Hc _ _ _ _ _ _ _ _ _ _ _) (fun u W'=>∃ g' c' G' xs',u=.slice g' (m+1) c'∧Gr W' wa.heap.size 37 aH u (m+1) G' (es++chD (Pl.dO x)) xs'∧Bel wa W') 15 12 57 5 (by kernel_rfl) (by kernel_rfl) (by kernel_rfl) (by kernel_rfl) (by kernel_rfl) rfl (by kernel_rfl) _ _ rfl rfl rfl rfl rfl (by kernel_rfl) ?_ ?_ ?_
  ·intro ii o' ho wJ a X hX hk hd;have zb0:=lL.out.later hX;have zb0l:=zb0.lt;match ii,ho with
   |0,rfl=>
    have e5:a.tmps[5]?.getD undef=.slice ua m uc:=(RY.ai a 5).trans ((hk 5 (RY.aS (by kernel_rfl))).trans rfl);exact RY.p (.slice ua m uc) (by simp[execOp,go_sem,e5])
   |1,rfl|7,rfl=>
    have e2:a.tmps[2]?.getD undef=.pointer (some ⟨b0,0,none⟩):=(RY.ai a 2).trans ((hk 2 (RY.aS (by kernel_rfl))).trans rfl);exact RY.p (.pointer (some ⟨b0,0,none⟩)) (by simp[execOp,go_sem,e2])
   |2,rfl=>
    have e43:=RY.E1 hd 1 43;have ycl_:=zb0.get 0 _ rfl;exact RY.p (.slice (some ⟨p,o,none⟩) na ac) (by simp[execOp,go_sem,e43,ycl_])
   |3,rfl|9,rfl=>
    have e6:a.tmps[6]?.getD undef=.int .i64 (k:Int):=(RY.ai a 6).trans ((hk 6 (RY.aS (by kernel_rfl))).trans rfl);exact RY.p (.int .i64 (k:Int)) (by simp[execOp,go_sem,e6])
   |4,rfl=>
    exact RY.p (.pointer (some ⟨p,o+k*3,none⟩)) (by simp[execOp,go_sem,RY.E1 hd 2 44,RY.E1 hd 3 45,cZ,dy])
   |5,rfl=>
    exact RY.p (.pointer (some ⟨p,o+k*3,none⟩)) (by simp[execOp,go_sem,RY.E1 hd 4 46])
   |6,rfl=>
    have e47:=RY.E1 hd 5 47;have ypl_:=zL sx.out hX.size;have ycl_:X.cell? ⟨p,o+k*3,none⟩=some (.string x.kind):=by have q:=aF (aj cU.out sx.out hX) 0 _ rfl;simpa using q
    exact RY.p (.string x.kind) (by simp[execOp,go_sem,e47,ycl_])
   |8,rfl=>
    have e49:=RY.E1 hd 7 49;have ycl_:=zb0.get 0 _ rfl;exact RY.p (.slice (some ⟨p,o,none⟩) na ac) (by simp[execOp,go_sem,e49,ycl_])
   |10,rfl=>
    exact RY.p (.pointer (some ⟨p,o+k*3,none⟩)) (by simp[execOp,go_sem,RY.E1 hd 8 50,RY.E1 hd 9 51,cZ,dy])
   |11,rfl=>
    exact RY.p (.pointer (some ⟨p,o+k*3+1,none⟩)) (by simp[execOp,go_sem,RY.E1 hd 10 52])
   |12,rfl=>
    have e53:=RY.E1 hd 11 53;have ypl_:=zL sx.out hX.size;have ycl_:X.cell? ⟨p,o+k*3+1,none⟩=some (.string x.name):=by have q:=aF (aj cU.out sx.out hX) 1 _ rfl;simpa using q
    exact RY.p (.string x.name) (by simp[execOp,go_sem,e53,ycl_])
   |13,rfl=>
    exact RY.p (.agg #[.int .i64 1,.string x.kind,.string x.name,.string {data:=#[]},.slice none 0 0]) (by simp[execOp,go_sem,RY.E1 hd 6 48,RY.E1 hd 12 54])
   |14,rfl=>
    exact No ⟨.slice (some ⟨X.heap.size,0,none⟩) 1 1,X.alloc (.cells #[.int .i64 1,.string x.kind,.string x.name,.string {data:=#[]},.slice none 0 0] 37),by simp[execOp,go_sem,RY.E1 hd 13 55],af zR _,some ⟨X.heap.size,0,none⟩,1,X.heap.size::([]++[]),rfl,KA (cs:=#[.int .i64 1,.string x.kind,.string x.name,.string {data:=#[]},.slice none 0 0]) (bZ _ _ _ _ (.emp _ _ none rfl .nil)),by simp,fun z hz=>(XD.1 hz).elim (fun e=>by rw[e];exact hX.size) (fun e=>by simp at e)⟩
   |n+15,ho=>omega
  ·intro a X hX hk hd;have e0:a.eval (.tmp 42)=.slice ua m uc:=hd 0 _ 42 rfl rfl ⟨⟨0,.data⟩,by simp,rfl,rfl⟩ (by decide);obtain⟨y1,y2,FS,e1,RO,SJ,IC⟩:=hd 14 _ 56 rfl rfl ⟨⟨14,.data⟩,by simp,rfl,rfl⟩ (by decide);obtain⟨u,W2,G',xs',bC,eC,Co,_⟩:=oQ (P:=Tryz.prog) wa.heap.size 32 32 37 5 80 _ Tryz.jw Tryz.nh rfl (by decide) (by decide) aH rfl (cV.out.later hX) RO SJ (fun z hz=>⟨Xg cB.out.size (IC z hz),fun hq=>by have:=cV.out.rep.lt z hq;have:=IC z hz;omega,fun hq=>by have:=(aW cV.out.row hq).2;have:=IC z hz;omega⟩) (by have:=nO.out;have:=qt.out;omega) (Xg cB.out.size hX.size);obtain⟨ux,uy,LC⟩:=eC.shape;subst LC;exact⟨_,W2,aQ (.tmp 42) (.tmp 56) 32 rfl e0 e1 bC,ux,uy,G',xs',rfl,eC,dF (ae cB.out hX) Co (fun b e=>(aW cV.out.row e).1)⟩
  ·intro vs X hK e2;simp only[RY.aC,Act.put,so,As,An];rw[e2];generalize vs 42=s42,vs 43=s43,vs 44=s44,vs 45=s45,vs 46=s46,vs 47=s47,vs 48=s48,vs 49=s49,vs 50=Cn,vs 51=s51,vs 52=s52,vs 53=s53,vs 54=s54,vs 55=s55,vs 56=s56;generalize vs 57=s57 at hK ⊢;obtain⟨g',c',G',xs',rfl,eC,kr⟩:=hK;have k6:=uh eC;have eM:=uh kr;clear eC kr;go_wp2;go_roundw
   case rel=>exact⟨k+1,G',xs',by omega,by go_num,by rw[HE.out,At,← HM.out,Xv,XE,← RA.out];exact k6.out,eM.out⟩
   case measure=>simp[intOf];omega
end Go.Proofs.YtgiglpnaekbegaaGreatDoor
