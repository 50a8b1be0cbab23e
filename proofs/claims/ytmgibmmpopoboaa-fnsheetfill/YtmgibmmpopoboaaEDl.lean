import Derived.Test.YtmgibmmpopoboaaRgFs
import Derived.Test.YtmgibmmpopoboaaEDa
import Derived.Test.YtmgibmmpopoboaaERu
import Derived.Test.YtmgibmmpopoboaaEPn
namespace Go.Proofs.Ytmgibmmpopoboaa
open Go.RowKit Go.Deep
namespace RY
theorem CZ (L:Array Bool) (i:Nat) (h:L.getD i true=false):(L.setIfInBounds i true).toList.count true=L.toList.count true+1:=by
 have hi:i<L.size:=by
  rcases Nat.lt_or_ge i L.size with q|q
  ·exact q
  ·have:L.getD i true=true:=by simp[Array.getD,Nat.not_lt.2 q]
   rw[this]at h;cases h
 have hv:L.toList[i]'(by simpa using hi)=false:=by
  have:L.getD i true=L[i]:=by simp[Array.getD,hi]
  rw[this]at h;simpa using h
 rw[Array.toList_setIfInBounds,List.count_set (by simpa using hi),hv];simp
theorem AE (L:Array Bool):L.toList.count true≤L.size:=by
 have:=List.count_le_length (a:=true) (l:=L.toList);simpa using this
def OpF (P:Program) (R:Nat) (v:Value) (len:Nat) (V:Nat→Value→World→Prop) (p:Nat) (i:Nat) (o:Oper) (a:Act) (W:World):Prop:=
 (∃ u W',(execOp a.eval o).run P W=.ok (.value u) W'∧Bel W W'∧V i u W')∨
 (∃ f args,(execOp a.eval o).run P W=.ok (.enter f args) W∧Calls P f args W fun e W'=>∃ u,e=.returned u∧Fr R W W'∧(∃ q,q≤p+10∧Rd W' R v len q)∧V i u W')
theorem xu {P:Program} {id:Nat} {Q:Exit→Act→World→Prop} {a0:Act} {w:World} {l:List Oper} (R:Nat) (v:Value) (len p0:Nat) (hr:Rd w R v len p0) (V:Nat→Value→World→Prop) (hVm:∀ j u W W',Fr R W W'→R<W.heap.size→V j u W→V j u W') (hm:P.follows .mixedOrders=true)
  (hasc:asc .any l.toArray=true) (hap:cZ l=true) (dc:dr l a0.tmps.size=true)
  (jc:∀ (i:Nat) (o:Oper),l[i]? =some o→∀ (a:Act) (W:World) (p:Nat),Fr R w W→Rd W R v len p→p≤p0+10*l.length→(∀ k,cW l k=true→a.eval (.tmp k)=a0.eval (.tmp k))→
   (∀ (j:Nat) (o':Oper) (k:Nat),l[j]? =some o'→o'.dst=some k→(∃ e∈o.after,e.on=j∧Region.binds .any e=true)→V j (a.eval (.tmp k)) W)→OpF P R v len V p i o a W)
  (hend:∀ (W:World) (vs:Nat→Value) (p:Nat),Fr R w W→Rd W R v len p→p≤p0+10*l.length→(∀ (i:Nat) (o:Oper) (k:Nat),l[i]? =some o→o.dst=some k→V i (vs k) W)→Q .normal (aE l a0 vs) W):
  (Code.region id l.toArray true).wp P Q a0 w:=by
 have Ix:Bel w w.drew:=Below.drew zR;refine nK (fun L W=>L.size=l.length∧Fr R w W∧∃ p,p≤p0+10*L.toList.count true∧Rd W R v len p) V hm hasc dc ⟨by simp,Fr.bh Ix hr.own.lt,p0,by omega,hr.ae Ix⟩ ?_ ?_
 ·intro L a W i o h _ ho hi bC;have hg:=(bF dc ho).1;obtain⟨jS,hF,p,hp,hR⟩:=h.cw;have jU:=AE L;have kj:=CZ L i hi;have Km:(L.setIfInBounds i true).size=l.length:=by simpa using jS
  rcases jc i o ho a W p hF hR (by omega) (fun k hk=>h.aY hk) (fun j o' k hj hk ⟨e,he,mF,hb⟩=>h.new j o' k hj hk (by rw[← mF];exact bC e he hb)) with⟨u,W',xX,hb,hV⟩|⟨f,args,xX,hk⟩
  ·have x7:=Fr.bh (R:=R) hb hR.own.lt;exact eW (by simpa using ho) hg xX (h.step hap dc ho hi ⟨Km,hF.trans x7,p,by omega,hR.ae hb⟩ (fun j x hx=>hVm j x W W' x7 hR.own.lt hx) (fun _=>hV))
  ·refine fU (by simpa using ho) hg xX (hk.mono ?_);rintro e W' ⟨u,rfl,x7,⟨q,hq,Dd⟩,hV⟩;exact⟨u,rfl,h.step hap dc ho hi ⟨Km,hF.trans x7,q,by omega,Dd⟩ (fun j x hx=>hVm j x W W' x7 hR.own.lt hx) (fun _=>hV)⟩
 ·rintro L W vs _ ⟨jS,hF,p,hp,hR⟩ hV;have jU:=AE L;exact hend W vs p hF hR (by omega) hV
end RY
namespace RY
theorem uo (up:Nat→Bool) (i n:Nat) (hi:i<n) (h:up i=false):(List.range n).countP (fun j=>(j==i)||up j)=(List.range n).countP up+1:=by
 induction n with
 |zero=>omega
 |succ n ih=>
  rw[List.range_succ,List.countP_append,List.countP_append,List.countP_singleton,List.countP_singleton];by_cases e:i=n
  ·subst e;have:(List.range i).countP (fun j=>(j==i)||up j)=(List.range i).countP up:=by
    apply List.countP_congr;intro j hj;have:=List.mem_range.1 hj;have e:(j==i)=false:=by simp;omega
    rw[e];simp
   rw[this,h];simp
  ·rw[ih (by omega)];have e2:(n==i)=false:=by simp;omega
   rw[e2];simp;omega
theorem C2 (up:Nat→Bool) (i n:Nat) (hi:n≤i):(List.range n).countP (fun j=>(j==i)||up j)=(List.range n).countP up:=by
 apply List.countP_congr;intro j hj;have:=List.mem_range.1 hj;have e:(j==i)=false:=by simp;omega
 rw[e];simp
theorem sg (up:Nat→Bool) (n:Nat):(List.range n).countP up≤n:=by
 have:=List.countP_le_length (p:=up) (l:=List.range n);simpa using this
theorem l2 {P:Program} {id:Nat} {Q:Exit→Act→World→Prop} {a0:Act} {w:World} {l:List Oper} (R:Nat) (vv:Value) (len p0:Nat) (uW:Rd w R vv len p0) (V:Nat→Value→World→Prop) (hVm:∀ j u W W',Fr R W W'→R<W.heap.size→V j u W→V j u W') (K K2:Value→World→Prop) (pv:Value) (n fuel kL kP:Nat)
  (hm:P.follows .mixedOrders=true) (hasc:asc .any l.toArray=true) (hap:cZ l=true) (dc:dr l a0.tmps.size=true)
  (hclo:((List.range n).all fun i=>(clo l fuel [n]).contains i)=true) (hlen:l.length=n+3) (jO:((l.take (n+2)).all fun o=>o.dst.isSome)=true)
  (oL oP oS:Oper) (hL:l[n]? =some oL) (hLd:oL.dst=some kL) (hP:l[n+1]? =some oP) (hPd:oP.dst=some kP) (hS:l[n+2]? =some oS) (hSd:oS.dst=none) (hSL:waits l (n+2) n=true) (hSP:waits l (n+2) (n+1)=true)
  (jc:∀ (i:Nat) (o:Oper),l[i]? =some o→i<n→∀ (a:Act) (W:World) (p:Nat),Fr R w W→Rd W R vv len p→p≤p0+1000*n→(∀ k,cW l k=true→a.eval (.tmp k)=a0.eval (.tmp k))→
   (∀ (j:Nat) (o':Oper) (k:Nat),l[j]? =some o'→o'.dst=some k→(∃ e∈o.after,e.on=j∧Region.binds .any e=true)→j<n→V j (a.eval (.tmp k)) W)→
   (∃ u W',(execOp a.eval o).run P W=.ok (.value u) W'∧Bel W W'∧V i u W')∨(∃ f args,(execOp a.eval o).run P W=.ok (.enter f args) W∧Calls P f args W fun e W'=>∃ u,e=.returned u∧Fr R W W'∧(∃ q,q≤p+1000∧Rd W' R vv len q)∧V i u W'))
  (lZ:∀ (a:Act) (W:World) (p:Nat),Fr R w W→Rd W R vv len p→p≤p0+1000*n→(∀ k,cW l k=true→a.eval (.tmp k)=a0.eval (.tmp k))→
   (∀ (j:Nat) (o':Oper) (k:Nat),l[j]? =some o'→o'.dst=some k→(∃ e∈oL.after,e.on=j∧Region.binds .any e=true)→j<n→V j (a.eval (.tmp k)) W)→
   ∃ u W',(execOp a.eval oL).run P W=.ok (.value u) W'∧K u W')
  (hpt:∀ (a:Act) (W:World),(∀ k,cW l k=true→a.eval (.tmp k)=a0.eval (.tmp k))→(execOp a.eval oP).run P W=.ok (.value pv) W)
  (GL:∀ (a:Act) (W:World),K (a.eval (.tmp kL)) W→a.eval (.tmp kP)=pv→∃ W',(execOp a.eval oS).run P W=.ok .skip W'∧K2 (a.eval (.tmp kL)) W')
  (hend:∀ (vs:Nat→Value) (W:World),K2 (vs kL) W→vs kP=pv→Q .normal (aE l a0 vs) W):
  (Code.region id l.toArray true).wp P Q a0 w:=by
 have fA:∀ {i:Nat} {o:Oper},l[i]? =some o→i<n+2→o.dst.isSome=true:=fun h hi=>by
  rw[List.all_eq_true]at jO;exact jO _ (List.mem_of_getElem? ((List.getElem?_take_of_lt hi).trans h))
 refine jy (fun _ _=>True) (fun up vals W=>(up n=false→up (n+2)=false∧(Fr R w W∧∃ p,p≤p0+1000*(List.range n).countP up∧Rd W R vv len p)∧∀ j,j<n→up j=true→V j (vals j) W)∧(up n=true→up (n+2)=false→K (vals n) W)∧(up (n+1)=true→vals (n+1)=pv)∧(up (n+2)=true→K2 (vals n) W)) hm hasc hap dc ?_ ?_ ?_
 ·intro vals;exact⟨fun _=>⟨rfl,⟨Fr.bh (Below.drew zR) uW.own.lt,p0,by omega,uW.ae (Below.drew zR)⟩,fun _ _ h=>(by cases h)⟩,fun h=>(by cases h),fun h=>(by cases h),fun h=>(by cases h)⟩
 ·intro up vals i o ho hi gk a W hk hd hT;have vU:∀ k,cW l k=true→a.eval (.tmp k)=a0.eval (.tmp k):=fun k h=>hk k fun j o' hj hj'=>absurd hj' (ik h hj);have bC:up n=true→∀ j,j<n→up j=true:=fun hn j hj=>by
   rw[List.all_eq_true]at hclo;have:=hclo j (List.mem_range.2 hj);rw[List.contains_iff_mem]at this;exact im gk fuel [n] (by simpa using hn) j this
  have lr:i<n+3:=by rw[← hlen];exact(List.getElem?_eq_some_iff.1 ho).1
  have MO:up (n+2)=true→up n=true∧up (n+1)=true:=fun h=>by
   obtain⟨e,he,h4,h5⟩:=bm hSL hS;obtain⟨e',LZ,LO,MI⟩:=bm hSP hS;exact⟨by have:=gk (n+2) oS e hS he h5 h;rwa [h4]at this,by have:=gk (n+2) oS e' hS LZ MI h;rwa [LO]at this⟩
  by_cases h1:i<n
  ·have hn:up n=false:=by
    cases e:up n
    ·rfl
    ·rw[bC e i h1]at hi;cases hi
   obtain⟨qW,hB,hV⟩:=hT.1 hn;obtain⟨hF,p,hp,hR⟩:=hB;have Cb:=sg up n;have Ga:=jc i o ho h1 a W p hF hR (by omega) vU
    (fun j o' k hj jA fB mR=>by
     obtain⟨q1,q2,_⟩:=hd j o' k hj jA fB;rw[q2];exact hV j mR q1)
   have e0:n≠i:=by omega
   have e1:n+1≠i:=by omega
   have e2:n+2≠i:=by omega
   have Jd:∀ u W',Fr R W W'→(∃ q,q≤p+1000∧Rd W' R vv len q)→V i u W'→(((fun j=>(j==i)||up j) n=false→(fun j=>(j==i)||up j) (n+2)=false∧(Fr R w W'∧∃ p,p≤p0+1000*(List.range n).countP (fun j=>(j==i)||up j)∧Rd W' R vv len p)∧∀ j,j<n→(fun j=>(j==i)||up j) j=true→V j ((fun j=>if j=i then u else vals j) j) W')∧((fun j=>(j==i)||up j) n=true→(fun j=>(j==i)||up j) (n+2)=false→K ((fun j=>if j=i then u else vals j) n) W')∧((fun j=>(j==i)||up j) (n+1)=true→(fun j=>if j=i then u else vals j) (n+1)=pv)∧((fun j=>(j==i)||up j) (n+2)=true→K2 ((fun j=>if j=i then u else vals j) n) W')):=by
    intro u W' hb ⟨q,hq,Dd⟩ hu;refine⟨fun _=>⟨?_,⟨hF.trans hb,q,Nat.le_trans hq (Nat.le_trans (Nat.add_le_add_right hp 1000) (by rw[uo up i n h1 hi,Nat.mul_add,Nat.mul_one,Nat.add_assoc];exact zE)),Dd⟩,fun j hj oD=> ?_⟩,fun h=> ?_,fun h=> ?_,fun h=> ?_⟩
    ·simpa [e2]using qW
    ·by_cases e:j=i
     ·subst e;dsimp only;rw[if_pos rfl];exact hu
     ·dsimp only;rw[if_neg e]
      have:up j=true:=by simpa [e]using oD
      exact hVm _ _ _ _ hb hR.own.lt (hV j hj this)
    ·have:up n=true:=by simpa [e0]using h
     rw[hn]at this;cases this
    ·dsimp only;rw[if_neg e1];exact hT.2.2.1 (by simpa [e1]using h)
    ·have:up (n+2)=true:=by simpa [e2]using h
     rw[qW]at this;cases this
   rcases Ga with⟨u,W',hr,hb,hu⟩|⟨f,args,hr,hc⟩
   ·exact Or.inl ⟨u,W',hr,fA ho (by omega),trivial,Jd u W' (Fr.bh hb hR.own.lt) ⟨p,by omega,hR.ae hb⟩ hu⟩
   ·exact Or.inr (Or.inr ⟨f,args,hr,fA ho (by omega),hc.mono fun e W' ⟨u,he,hb,hq,hu⟩=>⟨u,he,trivial,Jd u W' hb hq hu⟩⟩)
  ·by_cases h2:i=n
   ·subst h2;obtain⟨qW,hB,hV⟩:=hT.1 hi;obtain rfl:o=oL:=Option.some.inj (ho.symm.trans hL);obtain⟨hF,p,hp,hR⟩:=hB;have Cb:=sg up i;obtain⟨u,W',hr,hK⟩:=lZ a W p hF hR (by omega) vU
     (fun j o' k hj jA fB mR=>by
      obtain⟨q1,q2,_⟩:=hd j o' k hj jA fB;rw[q2];exact hV j mR q1)
    have e1:i+1≠i:=by omega
    have e2:i+2≠i:=by omega
    refine Or.inl ⟨u,W',hr,fA ho (by omega),trivial,⟨fun h=>by simp at h,fun _ _=>by dsimp only;rw[if_pos rfl];exact hK,fun h=> ?_,fun h=> ?_⟩⟩
    ·dsimp only;rw[if_neg e1];exact hT.2.2.1 (by simpa [e1]using h)
    ·have:up (i+2)=true:=by simpa [e2]using h
     rw[qW]at this;cases this
   ·by_cases h3:i=n+1
    ·subst h3;obtain rfl:o=oP:=Option.some.inj (ho.symm.trans hP);have qW:up (n+2)=false:=by
      cases e:up (n+2)
      ·rfl
      ·rw[(MO e).2]at hi;cases hi
     have e0:n≠n+1:=by omega
     have e2:n+2≠n+1:=by omega
     refine Or.inl ⟨pv,W,hpt a W vU,fA ho (by omega),trivial,⟨fun h=> ?_,fun h _=> ?_,fun _=> ?_,fun h=> ?_⟩⟩
     ·obtain⟨q1,q2,q3⟩:=hT.1 (by simpa [e0]using h);refine⟨by simpa [e2]using q1,by rw[C2 up (n+1) n (by omega)];exact q2,fun j hj oD=> ?_⟩;have e:j≠n+1:=by omega
      dsimp only;rw[if_neg e];exact q3 j hj (by simpa [e]using oD)
     ·dsimp only;rw[if_neg e0];exact hT.2.1 (by simpa [e0]using h) qW
     ·dsimp only;rw[if_pos rfl]
     ·have:up (n+2)=true:=by simpa [e2]using h
      rw[qW]at this;cases this
    ·have h4:i=n+2:=by omega
     subst h4;obtain rfl:o=oS:=Option.some.inj (ho.symm.trans hS);obtain⟨u1,q1,_⟩:=hd n oL kL hL hLd (by obtain⟨e,he,h4,h5⟩:=bm hSL hS;exact⟨e,he,h4,h5⟩);obtain⟨u2,q2,_⟩:=hd (n+1) oP kP hP hPd (by obtain⟨e,he,h4,h5⟩:=bm hSP hS;exact⟨e,he,h4,h5⟩);obtain⟨W',hr,MC⟩:=GL a W (by rw[q1];exact hT.2.1 u1 hi) (by rw[q2];exact hT.2.2.1 u2);refine Or.inr (Or.inl ⟨W',hr,hSd,⟨fun h=> ?_,fun _ h=> ?_,fun _=>hT.2.2.1 u2,fun _=>by rw[← q1];exact MC⟩⟩)
     ·dsimp only at h;rw[u1]at h;simp at h
     ·simp at h
 ·intro up vals vs W oD bd hT;have h1:=bd n oL kL hL hLd;have h2:=bd (n+1) oP kP hP hPd;refine hend vs W ?_ ?_
  ·rw[h1.1];exact hT.2.2.2 (oD (n+2) (by omega))
  ·rw[h2.1];exact hT.2.2.1 (oD (n+1) (by omega))
end RY
set_option maxHeartbeats 40000000
set_option maxRecDepth 8000
theorem fX (l:List ByteArray) (W:World) (i:Nat) (hi:i<l.length):(W.alloc (.cells (l.map Value.string).toArray 9)).cell? ⟨W.heap.size,i,none⟩=some (.string (l.getD i ⟨#[]⟩)):=by
 refine(World.cell?_alloc_at _ _ _ _ rfl).trans ?_;simp[hi]
theorem fw (l:List ByteArray) (i:Nat) (hi:i<l.length) (n:Nat) (h:∀ x∈l,x.size≤n):(l.getD i ⟨#[]⟩).size≤n:=by
 have e:l.getD i ⟨#[]⟩=l[i]:=by simp[hi]
 rw[e];exact h _ (List.getElem_mem hi)
theorem kD.nat {n r:Int} (h:kD n r):∃ k:Nat,r=(k:Int)∧(1≤n→(k:Int)<n):=by
 obtain⟨k,rfl⟩:=Int.eq_ofNat_of_zero_le h.1;exact⟨k,rfl,h.2.1⟩
def DrA (R:Nat) (v:Value) (len p:Nat) (W W':World):Prop:=Fr R W W'∧∃ p',p'≤p+1000∧Rd W' R v len p'
theorem Au (R:Nat) (v:Value) (len p:Nat) (W:World) (h:Rd W R v len p) (hp:p≤900000000000):
  Calls Try.prog 93 #[.pointer (some ⟨R,0,none⟩)] W fun e W'=>(∃ s:ByteArray,e=.returned (.string s)∧s.size≤4000)∧DrA R v len p W W':=by
 have HP:=uh (bp R v len p 2 W h (by omega) (by omega));clear h;go_enter Try.func93,Try.ntmps93
 go_wp2_with fail
 refine HP.out.mono ?_;rintro e W1 ⟨⟨r,rfl,hr⟩,oF,lg⟩;obtain⟨k,rfl,hk⟩:=hr.nat;have EE:k=0∨k=1:=by have:=hk (by omega);omega
 have Gj:=uh oF;have gP:=uh lg;clear hr hk oF lg HP;have Jw:Hid (∀ X,Calls Try.prog 85 #[.string {data:=#[116]},.int .i64 200] X fun e W'=>(∃ s:ByteArray,e=.returned (.string s)∧s.size≤4000)∧X=W'):=fun X=>sT {data:=#[116]} 200 X (by decide) (by decide);have Et:Hid (∀ X,Calls Try.prog 85 #[.string {data:=#[116]},.int .i64 199] X fun e W'=>(∃ s:ByteArray,e=.returned (.string s)∧s.size≤4000)∧X=W'):=fun X=>sT {data:=#[116]} 199 X (by decide) (by decide);rcases EE with rfl|rfl
 ·go_wp2_with fail
  refine(Jw.out _).mono ?_;rintro e W2 ⟨⟨s,rfl,hs⟩,kX⟩;subst kX;have HP:=uh (fun o=>bp R v len (p+1) 8 (W1.alloc o) (gP.out.ae (ah zR o)) (by omega) (by omega));clear Jw Et;go_wp2_with fail
  refine(HP.out _).mono ?_;rintro e W3 ⟨⟨r,rfl,hr⟩,iK,jb⟩;obtain⟨i,rfl,hi⟩:=hr.nat;have Hl:i<8:=by have:=hi (by omega);omega
  clear hr hi HP;obtain⟨l,hl⟩:∃ l:List ByteArray,l=[{data:=#[122,111,110,101,61,101,97,115,116]},{data:=#[115,115,100,32,124,32,33,111,108,100]},{data:=#[]},{data:=#[113,34,117,92,111,10,255]},{data:=#[97,35,98]},{data:=#[120]},{data:=#[116,119,111,32,119,111,114,100,115]},s]:=⟨_,rfl⟩
  have iN:l.length=8:=by rw[hl];rfl
  have iJ:Hid (∀ x∈l,x.size≤4000):=by
   intro x hx;rw[hl]at hx;simp only[List.mem_cons,List.mem_nil_iff,or_false]at hx;rcases hx with rfl|rfl|rfl|rfl|rfl|rfl|rfl|rfl
   all_goals first|exact hs|decide
  have hc:W3.cell? ⟨W1.heap.size,i,none⟩=some (.string (l.getD i ⟨#[]⟩)):=by
   refine(iK.cell (gP.out.own.lt) (by simp)).trans ?_;have:=fX l W1 i (by omega);rw[hl]at this ⊢;exact this
  obtain⟨x,hx⟩:∃ x,x=l.getD i ⟨#[]⟩:=⟨_,rfl⟩
  have mU:Hid (x.size≤4000):=by rw[hx];exact fw l i (by omega) 4000 iJ.out
  rw[← hx]at hc;have HE:Hid (DrA R v len p W W3):=⟨(Gj.out.trans (Fr.bh (ah zR _) gP.out.own.lt)).trans iK,p+1+1,by omega,jb⟩
  have Ml:W1.heap.size<W3.heap.size:=by have:=iK.bel.size;simp at this;omega
  have eT:(0:Int)≤(i:Int):=by omega
  have gf:(i:Int)<8:=by omega
  clear hx hl iN iK jb Gj gP iJ;go_wp2;go_ret;exact⟨⟨x,rfl,mU.out⟩,HE.out⟩
 ·go_wp2_with fail
  refine(Et.out _).mono ?_;rintro e W2 ⟨⟨s,rfl,hs⟩,kX⟩;subst kX;have HP:=uh (fun o=>bp R v len (p+1) 8 (W1.alloc o) (gP.out.ae (ah zR o)) (by omega) (by omega));clear Jw Et;go_wp2_with fail
  refine(HP.out _).mono ?_;rintro e W3 ⟨⟨r,rfl,hr⟩,iK,jb⟩;obtain⟨i,rfl,hi⟩:=hr.nat;have Hl:i<8:=by have:=hi (by omega);omega
  clear hr hi HP;obtain⟨l,hl⟩:∃ l:List ByteArray,l=[{data:=#[122,111,110,101,61,101,97,115,116]},{data:=#[115,115,100,32,124,32,33,111,108,100]},{data:=#[]},{data:=#[113,34,117,92,111,10,255]},{data:=#[97,35,98]},{data:=#[120]},{data:=#[116,119,111,32,119,111,114,100,115]},s]:=⟨_,rfl⟩
  have iN:l.length=8:=by rw[hl];rfl
  have iJ:Hid (∀ x∈l,x.size≤4000):=by
   intro x hx;rw[hl]at hx;simp only[List.mem_cons,List.mem_nil_iff,or_false]at hx;rcases hx with rfl|rfl|rfl|rfl|rfl|rfl|rfl|rfl
   all_goals first|exact hs|decide
  have hc:W3.cell? ⟨W1.heap.size,i,none⟩=some (.string (l.getD i ⟨#[]⟩)):=by
   refine(iK.cell (gP.out.own.lt) (by simp)).trans ?_;have:=fX l W1 i (by omega);rw[hl]at this ⊢;exact this
  obtain⟨x,hx⟩:∃ x,x=l.getD i ⟨#[]⟩:=⟨_,rfl⟩
  have mU:Hid (x.size≤4000):=by rw[hx];exact fw l i (by omega) 4000 iJ.out
  rw[← hx]at hc;have HE:Hid (DrA R v len p W W3):=⟨(Gj.out.trans (Fr.bh (ah zR _) gP.out.own.lt)).trans iK,p+1+1,by omega,jb⟩
  have Ml:W1.heap.size<W3.heap.size:=by have:=iK.bel.size;simp at this;omega
  have eT:(0:Int)≤(i:Int):=by omega
  have gf:(i:Int)<8:=by omega
  clear hx hl iN iK jb Gj gP iJ;go_wp2;go_ret;exact⟨⟨x,rfl,mU.out⟩,HE.out⟩
theorem od (R:Nat) (v:Value) (len p:Nat) (t:Int) (W:World) (h:Rd W R v len p) (hp:p≤900000000000):
  Calls Try.prog 90 #[.pointer (some ⟨R,0,none⟩),.int .i64 t] W fun e W'=>(∃ s:ByteArray,e=.returned (.string s)∧s.size≤4000)∧DrA R v len p W W':=by
 have HR:=uh h;clear h;by_cases h1:t=1
 ·subst h1;go_enter Try.func90,Try.ntmps90
  have HP:=uh (fun o=>bp R v len p 6 (W.alloc o) (HR.out.ae (ah zR o)) (by omega) (by omega));go_wp2_with fail
  refine(HP.out _).mono ?_;rintro e W9 ⟨⟨r,rfl,hr⟩,ib,tq⟩;obtain⟨i,rfl,hi⟩:=hr.nat;have Hl:i<6:=by have:=hi (by omega);omega
  clear hr hi HP;obtain⟨l,hl⟩:∃ l:List ByteArray,l=[{data:=#[48]},{data:=#[49]},{data:=#[50]},{data:=#[55]},{data:=#[49,48,48]},{data:=#[49,48,48,48,48,48,48]}]:=⟨_,rfl⟩
  have iN:l.length=6:=by rw[hl];rfl
  have iJ:Hid (∀ x∈l,x.size≤4000):=by
   intro x hx;rw[hl]at hx;simp only[List.mem_cons,List.mem_nil_iff,or_false]at hx;rcases hx with rfl|rfl|rfl|rfl|rfl|rfl
   all_goals first|decide
  have hc:W9.cell? ⟨W.heap.size,i,none⟩=some (.string (l.getD i ⟨#[]⟩)):=by
   refine(ib.cell (HR.out.own.lt) (by simp)).trans ?_;have:=fX l W i (by omega);rw[hl]at this ⊢;exact this
  obtain⟨x,hx⟩:∃ x,x=l.getD i ⟨#[]⟩:=⟨_,rfl⟩
  have mU:Hid (x.size≤4000):=by rw[hx];exact fw l i (by omega) 4000 iJ.out
  rw[← hx]at hc;have HE:Hid (DrA R v len p W W9):=⟨(Fr.bh (ah zR _) HR.out.own.lt).trans ib,p+1,by omega,tq⟩
  have BG:W.heap.size<W9.heap.size:=by have:=ib.bel.size;simp at this;omega
  have eT:(0:Int)≤(i:Int):=by omega
  have gf:(i:Int)<6:=by omega
  clear hx hl iN ib tq iJ HR;go_wp2;go_ret;exact⟨⟨x,rfl,mU.out⟩,HE.out⟩
 by_cases h2:t=2
 ·subst h2;go_enter Try.func90,Try.ntmps90
  have HP:=uh (fun o=>bp R v len p 5 (W.alloc o) (HR.out.ae (ah zR o)) (by omega) (by omega));go_wp2_with fail
  refine(HP.out _).mono ?_;rintro e W9 ⟨⟨r,rfl,hr⟩,ib,tq⟩;obtain⟨i,rfl,hi⟩:=hr.nat;have Hl:i<5:=by have:=hi (by omega);omega
  clear hr hi HP;obtain⟨l,hl⟩:∃ l:List ByteArray,l=[{data:=#[48]},{data:=#[45,49]},{data:=#[53]},{data:=#[45,57]},{data:=#[45,49,48,48,48,48,48,48]}]:=⟨_,rfl⟩
  have iN:l.length=5:=by rw[hl];rfl
  have iJ:Hid (∀ x∈l,x.size≤4000):=by
   intro x hx;rw[hl]at hx;simp only[List.mem_cons,List.mem_nil_iff,or_false]at hx;rcases hx with rfl|rfl|rfl|rfl|rfl
   all_goals first|decide
  have hc:W9.cell? ⟨W.heap.size,i,none⟩=some (.string (l.getD i ⟨#[]⟩)):=by
   refine(ib.cell (HR.out.own.lt) (by simp)).trans ?_;have:=fX l W i (by omega);rw[hl]at this ⊢;exact this
  obtain⟨x,hx⟩:∃ x,x=l.getD i ⟨#[]⟩:=⟨_,rfl⟩
  have mU:Hid (x.size≤4000):=by rw[hx];exact fw l i (by omega) 4000 iJ.out
  rw[← hx]at hc;have HE:Hid (DrA R v len p W W9):=⟨(Fr.bh (ah zR _) HR.out.own.lt).trans ib,p+1,by omega,tq⟩
  have BG:W.heap.size<W9.heap.size:=by have:=ib.bel.size;simp at this;omega
  have eT:(0:Int)≤(i:Int):=by omega
  have gf:(i:Int)<5:=by omega
  clear hx hl iN ib tq iJ HR;go_wp2;go_ret;exact⟨⟨x,rfl,mU.out⟩,HE.out⟩
 by_cases h3:t=3
 ·subst h3;go_enter Try.func90,Try.ntmps90
  have HP:=uh (fun o=>bp R v len p 4 (W.alloc o) (HR.out.ae (ah zR o)) (by omega) (by omega));go_wp2_with fail
  refine(HP.out _).mono ?_;rintro e W9 ⟨⟨r,rfl,hr⟩,ib,tq⟩;obtain⟨i,rfl,hi⟩:=hr.nat;have Hl:i<4:=by have:=hi (by omega);omega
  clear hr hi HP;obtain⟨l,hl⟩:∃ l:List ByteArray,l=[{data:=#[99,111,114,101]},{data:=#[122]},{data:=#[101,97,115,116]},{data:=#[97,45,49]}]:=⟨_,rfl⟩
  have iN:l.length=4:=by rw[hl];rfl
  have iJ:Hid (∀ x∈l,x.size≤4000):=by
   intro x hx;rw[hl]at hx;simp only[List.mem_cons,List.mem_nil_iff,or_false]at hx;rcases hx with rfl|rfl|rfl|rfl
   all_goals first|decide
  have hc:W9.cell? ⟨W.heap.size,i,none⟩=some (.string (l.getD i ⟨#[]⟩)):=by
   refine(ib.cell (HR.out.own.lt) (by simp)).trans ?_;have:=fX l W i (by omega);rw[hl]at this ⊢;exact this
  obtain⟨x,hx⟩:∃ x,x=l.getD i ⟨#[]⟩:=⟨_,rfl⟩
  have mU:Hid (x.size≤4000):=by rw[hx];exact fw l i (by omega) 4000 iJ.out
  rw[← hx]at hc;have HE:Hid (DrA R v len p W W9):=⟨(Fr.bh (ah zR _) HR.out.own.lt).trans ib,p+1,by omega,tq⟩
  have BG:W.heap.size<W9.heap.size:=by have:=ib.bel.size;simp at this;omega
  have eT:(0:Int)≤(i:Int):=by omega
  have gf:(i:Int)<4:=by omega
  clear hx hl iN ib tq iJ HR;go_wp2;go_ret;exact⟨⟨x,rfl,mU.out⟩,HE.out⟩
 by_cases h5:t=5
 ·subst h5;go_enter Try.func90,Try.ntmps90
  have HP:=uh (fun o=>bp R v len p 2 (W.alloc o) (HR.out.ae (ah zR o)) (by omega) (by omega));go_wp2_with fail
  refine(HP.out _).mono ?_;rintro e W9 ⟨⟨r,rfl,hr⟩,ib,tq⟩;obtain⟨i,rfl,hi⟩:=hr.nat;have Hl:i<2:=by have:=hi (by omega);omega
  clear hr hi HP;obtain⟨l,hl⟩:∃ l:List ByteArray,l=[{data:=#[121,101,115]},{data:=#[110,111]}]:=⟨_,rfl⟩
  have iN:l.length=2:=by rw[hl];rfl
  have iJ:Hid (∀ x∈l,x.size≤4000):=by
   intro x hx;rw[hl]at hx;simp only[List.mem_cons,List.mem_nil_iff,or_false]at hx;rcases hx with rfl|rfl
   all_goals first|decide
  have hc:W9.cell? ⟨W.heap.size,i,none⟩=some (.string (l.getD i ⟨#[]⟩)):=by
   refine(ib.cell (HR.out.own.lt) (by simp)).trans ?_;have:=fX l W i (by omega);rw[hl]at this ⊢;exact this
  obtain⟨x,hx⟩:∃ x,x=l.getD i ⟨#[]⟩:=⟨_,rfl⟩
  have mU:Hid (x.size≤4000):=by rw[hx];exact fw l i (by omega) 4000 iJ.out
  rw[← hx]at hc;have HE:Hid (DrA R v len p W W9):=⟨(Fr.bh (ah zR _) HR.out.own.lt).trans ib,p+1,by omega,tq⟩
  have BG:W.heap.size<W9.heap.size:=by have:=ib.bel.size;simp at this;omega
  have eT:(0:Int)≤(i:Int):=by omega
  have gf:(i:Int)<2:=by omega
  clear hx hl iN ib tq iJ HR;go_wp2;go_ret;exact⟨⟨x,rfl,mU.out⟩,HE.out⟩
 by_cases h6:t=6
 ·subst h6;go_enter Try.func90,Try.ntmps90
  have HP:=uh (fun o=>bp R v len p 3 (W.alloc o) (HR.out.ae (ah zR o)) (by omega) (by omega));go_wp2_with fail
  refine(HP.out _).mono ?_;rintro e W9 ⟨⟨r,rfl,hr⟩,ib,tq⟩;obtain⟨i,rfl,hi⟩:=hr.nat;have Hl:i<3:=by have:=hi (by omega);omega
  clear hr hi HP;obtain⟨l,hl⟩:∃ l:List ByteArray,l=[{data:=#[110,111,110,101]},{data:=#[98,101,114,116,104]},{data:=#[122,111,110,101]}]:=⟨_,rfl⟩
  have iN:l.length=3:=by rw[hl];rfl
  have iJ:Hid (∀ x∈l,x.size≤4000):=by
   intro x hx;rw[hl]at hx;simp only[List.mem_cons,List.mem_nil_iff,or_false]at hx;rcases hx with rfl|rfl|rfl
   all_goals first|decide
  have hc:W9.cell? ⟨W.heap.size,i,none⟩=some (.string (l.getD i ⟨#[]⟩)):=by
   refine(ib.cell (HR.out.own.lt) (by simp)).trans ?_;have:=fX l W i (by omega);rw[hl]at this ⊢;exact this
  obtain⟨x,hx⟩:∃ x,x=l.getD i ⟨#[]⟩:=⟨_,rfl⟩
  have mU:Hid (x.size≤4000):=by rw[hx];exact fw l i (by omega) 4000 iJ.out
  rw[← hx]at hc;have HE:Hid (DrA R v len p W W9):=⟨(Fr.bh (ah zR _) HR.out.own.lt).trans ib,p+1,by omega,tq⟩
  have BG:W.heap.size<W9.heap.size:=by have:=ib.bel.size;simp at this;omega
  have eT:(0:Int)≤(i:Int):=by omega
  have gf:(i:Int)<3:=by omega
  clear hx hl iN ib tq iJ HR;go_wp2;go_ret;exact⟨⟨x,rfl,mU.out⟩,HE.out⟩
 have d1:(t==1)=false:=by simp[h1]
 have d2:(t==2)=false:=by simp[h2]
 have d3:(t==3)=false:=by simp[h3]
 have d5:(t==5)=false:=by simp[h5]
 have d6:(t==6)=false:=by simp[h6]
 have HT:=uh (Au R v len p W HR.out hp);clear h1 h2 h3 h5 h6 HR;go_enter Try.func90,Try.ntmps90
 go_wp2_with (go_at_call 93;refine HT.out.mono ?_;rintro e W1 ⟨⟨s,rfl,hs⟩,hd⟩)
 go_ret;exact⟨⟨s,rfl,hs⟩,hd⟩
theorem Al (R:Nat) (v:Value) (len p:Nat) (W:World) (h:Rd W R v len p) (hp:p≤900000000000):
  Calls Try.prog 72 #[.pointer (some ⟨R,0,none⟩)] W fun e W'=>(∃ s:ByteArray,e=.returned (.string s)∧s.size≤250)∧DrA R v len p W W':=by
 have HP:=uh (bp R v len p 2 W h (by omega) (by omega));clear h;go_enter Try.func72,Try.ntmps72
 go_wp2_with fail
 refine HP.out.mono ?_;rintro e W1 ⟨⟨r,rfl,hr⟩,oF,lg⟩;obtain⟨m,rfl,hm⟩:=hr.nat;have mS:m<2:=by have:=hm (by omega);omega
 have Gj:=uh oF;have gP:=uh lg;clear hr hm oF lg HP;obtain⟨m',LI,hm'⟩:∃ m':Nat,(20:Int)+(m:Int)=(m':Int)∧m'≤21:=⟨20+m,by omega,by omega⟩
 have HM:Hid (∀ X,Calls Try.prog 85 #[.string {data:=#[110]},.int .i64 (m':Int)] X fun e W'=>(∃ s:ByteArray,e=.returned (.string s)∧s.size≤250)∧X=W'):=fun X=>lx {data:=#[110]} m' 250 X (by decide) (by omega) (by show m'*1≤250;omega) (by decide);have iB:Hid (∀ X,Calls Try.prog 85 #[.string {data:=#[116]},.int .i64 201] X fun e W'=>(∃ s:ByteArray,e=.returned (.string s)∧s.size≤250)∧X=W'):=fun X=>lx {data:=#[116]} 201 250 X (by decide) (by decide) (by decide) (by decide);go_wp2_with fail
 refine(HM.out _).mono ?_;rintro e WX ⟨⟨sn,rfl,hsn⟩,uK⟩;subst uK;clear HM LI hm' mS;go_wp2_with fail
 refine(iB.out _).mono ?_;rintro e WX ⟨⟨st,rfl,GL⟩,uK⟩;subst uK;clear iB;have HP:=uh (fun o=>bp R v len (p+1) 12 (W1.alloc o) (gP.out.ae (ah zR o)) (by omega) (by omega));go_wp2_with fail
 refine(HP.out _).mono ?_;rintro e W9 ⟨⟨r,rfl,hr⟩,ib,tq⟩;obtain⟨i,rfl,hi⟩:=hr.nat;have Hl:i<12:=by have:=hi (by omega);omega
 clear hr hi HP;obtain⟨l,hl⟩:∃ l:List ByteArray,l=[{data:=#[]},{data:=#[48,49]},{data:=#[45,48]},{data:=#[49,48,48,48,48,48,49]},{data:=#[49,50,51,52,53,54,55,56]},{data:=#[120,32,121]},{data:=#[67,111,114,101]},{data:=#[109,97,121,98,101]},sn,{data:=#[45]},{data:=#[43,49]},st]:=⟨_,rfl⟩
 have iN:l.length=12:=by rw[hl];rfl
 have iJ:Hid (∀ x∈l,x.size≤250):=by
  intro x hx;rw[hl]at hx;simp only[List.mem_cons,List.mem_nil_iff,or_false]at hx;rcases hx with rfl|rfl|rfl|rfl|rfl|rfl|rfl|rfl|rfl|rfl|rfl|rfl
  all_goals first|exact hsn|exact GL|decide
 have hc:W9.cell? ⟨W1.heap.size,i,none⟩=some (.string (l.getD i ⟨#[]⟩)):=by
  refine(ib.cell (gP.out.own.lt) (by simp)).trans ?_;have:=fX l W1 i (by omega);rw[hl]at this ⊢;exact this
 obtain⟨x,hx⟩:∃ x,x=l.getD i ⟨#[]⟩:=⟨_,rfl⟩
 have mU:Hid (x.size≤250):=by rw[hx];exact fw l i (by omega) 250 iJ.out
 rw[← hx]at hc;have HE:Hid (DrA R v len p W W9):=⟨(Gj.out.trans (Fr.bh (ah zR _) gP.out.own.lt)).trans ib,p+1+1,by omega,tq⟩
 have BG:W1.heap.size<W9.heap.size:=by have:=ib.bel.size;simp at this;omega
 have eT:(0:Int)≤(i:Int):=by omega
 have gf:(i:Int)<12:=by omega
 clear hx hl iN ib tq iJ Gj gP;go_wp2;go_ret;exact⟨⟨x,rfl,mU.out⟩,HE.out⟩
theorem Fr.mks {R:Nat} {S:Nat→Prop} {W X X':World} (h:Fr R W X) (hm:Marks S X X') (hR:∀ b,S b→W.heap.size≤b) (hl:R<W.heap.size):Fr R W X':=
 ⟨⟨hm.os.trans h.bel.os,hm.tape.trans h.bel.tape,hm.output.trans h.bel.output,Nat.le_trans h.bel.size hm.size,fun k hk=>(hm.block k (zL (by omega) h.bel.size) (fun e=>by have:=hR k e;omega)).trans (h.bel.block k hk)⟩,
  fun k h1 h2=>(hm.block k (zL h2 h.bel.size) (fun e=>by have:=hR k e;omega)).trans (h.blk k h1 h2)⟩
theorem Fr.eJ {R:Nat} {X X':World} {v v':Value} {n n' p p':Nat} (h:Fr R X X') (h1:Rd X R v n p) (h2:Rd X' R v' n' p'):Marks (fun b=>b=R) X X':=
 ⟨h.bel.os,h.bel.tape,h.bel.output,h.bel.size,fun p hp hn=>by
  rcases Nat.lt_or_ge p R with q|q
  ·exact h.bel.block p q
  ·exact h.blk p (by omega) hp,fun b t m hO=>by
  by_cases e:b=R
  ·subst e;obtain⟨c1,e1,s1⟩:=hO;obtain⟨c2,e2,s2⟩:=h1.own;rw[e1]at e2;injection e2 with e2
   injection e2 with e3 e4
   subst e3;subst e4;obtain⟨c3,e5,s3⟩:=h2.own;exact⟨c3,e5,by omega⟩
  ·obtain⟨c1,e1,s1⟩:=hO;have hb:b<X.heap.size:=(Array.getElem?_eq_some_iff.1 e1).1;refine⟨c1, ?_,s1⟩;rcases Nat.lt_or_ge b R with q|q
   ·exact(h.bel.block b q).trans e1
   ·exact(h.blk b (by omega) hb).trans e1⟩
theorem Rd.blk {W W':World} {R:Nat} {v:Value} {n p:Nat} (h:Rd W R v n p) (hb:∀ k,k≤R→W'.heap[k]? =W.heap[k]?):Rd W' R v n p:=by
 have hc:∀ b o,b≤R→W'.cell? ⟨b,o,none⟩=W.cell? ⟨b,o,none⟩:=fun b o hbR=>World.cell?_of_block (a:=⟨b,o,none⟩) (hb b hbR);obtain⟨cs,e,hm⟩:=h.own;refine⟨⟨cs,(hb R zE).trans e,hm⟩,(hc R 0 zE).trans h.c0,(hc R 1 zE).trans h.c1,h.len, ?_⟩;rcases h.code with hq|⟨b,off,cap,rfl,dP,hx⟩
 ·exact Or.inl hq
 ·refine Or.inr ⟨b,off,cap,rfl,dP,fun i hi=> ?_⟩;obtain⟨x,h0,h1,Gt⟩:=hx i hi;exact⟨x,h0,h1,(hc b _ (by omega)).trans Gt⟩
theorem Rd.mks {S:Nat→Prop} {W W':World} {R:Nat} {v:Value} {n p:Nat} (h:Rd W R v n p) (hm:Marks S W W') (hS:∀ b,S b→R<b):Rd W' R v n p:=
 h.blk fun k hk=>hm.block k (by have:=h.own.lt;omega) (fun e=>by have:=hS k e;omega)
theorem Rd.grown {W W':World} {R:Nat} {v:Value} {n p:Nat} {row:Option Nat} (h:Rd W R v n p) (hg:W.grownBy W' row) (hn:∀ b,row=some b→R<b):Rd W' R v n p:=
 h.blk fun k hk=>hg.block k (by have:=h.own.lt;omega) (fun e=>by have:=hn k e.symm;omega)
theorem Fr.grown {R:Nat} {W X X':World} {row:Option Nat} (h:Fr R W X) (hg:X.grownBy X' row) (hn:∀ b,row=some b→W.heap.size≤b) (hl:R<W.heap.size):Fr R W X':=by
 have hb:Below W.heap.size X X':=Below.grown zR hg h.bel.size fun q hq=>hn q hq;exact⟨h.bel.trans (hb.mono (by omega)),fun k h1 h2=>(hb.block k h2).trans (h.blk k h1 h2)⟩
theorem TxR.fr {R:Nat} {W W':World} {lo:Nat} {v:Value} {l:List ByteArray} (h:TxR W lo v l) (hF:Fr R W W') (hl:R<lo):TxR W' lo v l:=by
 refine⟨h.1,h.2.imp id ?_⟩;rintro⟨g,cap,cur,h1,h2,h3,h4⟩;exact⟨g,cap,cur,h1,h2,(hF.blk g (by omega) (Array.getElem?_eq_some_iff.1 h3).1).trans h3,h4⟩
theorem aK.fr {R:Nat} {W W':World} {p:Nat} {u:TypeId} {cs:List Value} (h:aK W p u cs) (hF:Fr R W W') (hl:R<p):aK W' p u cs:=by
 have hb:=hF.blk p hl h.own.lt;obtain⟨pU,h1,h2⟩:=h.own;exact⟨⟨pU,hb.trans h1,h2⟩,cM h.at_ fun j _=>World.cell?_of_block (a:=⟨p,0+j,none⟩) hb⟩
structure LJ (W wr:World) (R B0 B6 B7:Nat) (r:Pl.Ru) (v1 v3 bv u:Value) (ws:List ByteArray):Prop where
 fr:Fr R W wr
 res:aK wr B0 53 [.string {data:=#[]},.slice none 0 0]
 rul:aK wr B6 40 [.string r.key,v1,.bool r.many,v3]
 rep:∃ F,Rep wr false aC F (ruD r) [.string r.key,v1,.bool r.many,v3]∧∀ b∈F,R<b∧b<B7
 box:aK wr B7 53 [.string r.key,bv]
 row:TxR wr (B7+1) u ws
 ord:R<W.heap.size∧W.heap.size≤B0∧B0<B6∧B6<B7
theorem LJ.step {W wr X:World} {R B0 B6 B7:Nat} {r:Pl.Ru} {v1 v3 bv u:Value} {ws:List ByteArray} {v v':Value} {n n' p p':Nat} (h:LJ W wr R B0 B6 B7 r v1 v3 bv u ws) (hF:Fr R wr X) (h1:Rd wr R v n p) (h2:Rd X R v' n' p'):LJ W X R B0 B6 B7 r v1 v3 bv u ws:=by
 have ho:=h.ord;obtain⟨F,hr,hb⟩:=h.rep;exact⟨h.fr.trans hF,h.res.fr hF (by omega),h.rul.fr hF (by omega),⟨F,hr.aY (hF.eJ h1 h2) (fun b fE e=>by have:=(hb b fE).1;omega),hb⟩,h.box.fr hF (by omega),h.row.fr hF (by omega),ho⟩
theorem LJ.app {W X X':World} {R B0 B6 B7:Nat} {r:Pl.Ru} {v1 v3 bv u u':Value} {ws mr:List ByteArray} (h:LJ W X R B0 B6 B7 r v1 v3 bv u ws) (hg:X.grownBy X' u.ownBlock) (xX:TxR X' (B7+1) u' mr):LJ W X' R B0 B6 B7 r v1 v3 bv u' mr:=by
 have ho:=h.ord;have hn:∀ q,q<B7+1→u.ownBlock≠some q:=fun q hq e=>by have:=(bK h.row e).1;omega
 obtain⟨F,hr,hb⟩:=h.rep;exact⟨h.fr.grown hg (fun b e=>by have:=(bK h.row e).1;omega) ho.1,h.res.grow hg (hn _ (by omega)),h.rul.grow hg (hn _ (by omega)),⟨F,hr.grown hg (fun b fE=>hn b (by have:=(hb b fE).2;omega)),hb⟩,h.box.grow hg (hn _ (by omega)),xX,ho⟩
theorem LJ.sto {W X:World} {R B0 B6 B7:Nat} {r:Pl.Ru} {v1 v3 bv u:Value} {ws:List ByteArray} (h:LJ W X R B0 B6 B7 r v1 v3 bv u ws):LJ W (X.setCell ⟨B7,1,none⟩ u) R B0 B6 B7 r v1 v3 u u ws:=by
 have ho:=h.ord;have hm:Marks (fun b=>b=B7) X (X.setCell ⟨B7,1,none⟩ u):=Marks.sc (S:=fun b=>b=B7) X rfl 1 u;obtain⟨F,hr,hb⟩:=h.rep;exact⟨h.fr.mks hm (fun b e=>by omega) ho.1,h.res.other (by omega) _ _,h.rul.other (by omega) _ _,⟨F,hr.aY hm (fun b fE e=>by have:=(hb b fE).2;omega),hb⟩,h.box.set 1 u (by simp),dH h.row hm (fun b fE e=>by omega),ho⟩
theorem pP {W:World} {F:List Nat} {ag:List Int} {a:Option Addr} {c:Nat} (h:Rep W false [.row 3 [.i]] F [.row ag.length (ag.map .i)] [.slice a ag.length c]) {k:Nat} (hk:k<ag.length):∃ p o,a=some ⟨p,o,none⟩∧p∈F∧p<W.heap.size∧W.cell? ⟨p,o+k,none⟩=some (.int .i64 (ag.getD k 0)):=by
 rcases h.slice with⟨_,e0,_⟩|⟨p,o,c',u,m,G,hv,hF,_,ho,_,_,vs,hr,hR⟩
 ·omega
 ·injection hv with g1 _ _
  obtain⟨ve,hE,hg⟩:=hR.raw.el hk hr;have LC:el 1 k (ag.map Dt.i)=[.i (ag.getD k 0)]:=by exact gC 0 Dt.i ag k hk
  have Im:Raw W [.i] [.i (ag.getD k 0)] ve:=by rw[← LC];exact hE
  obtain rfl:=yT Im;exact⟨p,o,g1,by rw[hF];exact List.mem_cons_self ..,ho.lt,by have:=aF hg 0 _ rfl;simpa using this⟩
def bnd (p k:Nat):Nat:=p+10+12000*k
theorem rh {p k q pw:Nat} (h:pw≤bnd p k) (h':q≤pw+11000):q≤bnd p (k+1):=by
 have e:bnd p (k+1)=bnd p k+12000:=by simp only[bnd,Nat.mul_add,Nat.mul_one,Nat.add_assoc]
 rw[e];generalize bnd p k=b at h;omega
theorem yD {p k q:Nat} (h:q≤bnd p k) (h3:k≤3):q≤p+50000:=by unfold bnd at h;omega
theorem l9 {W:World} {tt:Bool} {G:List Nat}:∀ {ws:List ByteArray} {vs:List Value},Rep W tt (bP ws.length [.s]) G (txD ws) vs→vs=txV ws
 |[],vs,h=>by
  have h':Rep W tt [] G [] vs:=h;exact h'.c_n.1
 |x::ws,vs,h=>by
  rw[List.length_cons,cR]at h;have h':Rep W tt (.s::bP ws.length [.s]) G (.s x::txD ws) vs:=h;obtain⟨y,rfl,h2⟩:=h'.c_s;rw[l9 h2];rfl
theorem TxR.lower {W:World} {lo lo':Nat} {v:Value} {l:List ByteArray} (h:TxR W lo v l) (hl:lo'≤lo):TxR W lo' v l:=by
 refine⟨h.1,h.2.imp id ?_⟩;rintro⟨g,cap,cur,h1,h2,h3,h4⟩;exact⟨g,cap,cur,h1,Nat.le_trans hl h2,h3,h4⟩
theorem tU {w:World} {ops:Array Oper} {rest:List Oper} {o:Oper} {a:Act} {Q:Exit→Act→World→Prop} (oU:o.guard=none) (s x:Operand)
  (ho:o.op=.call {callee:=.builtin .append,args:=#[s,x],argTypes:=#[38,38]}) (lo:Nat) (v:Value) (l:List ByteArray) (hs:a.eval s=v) (hU:TxR w lo v l)
  (B off m c:Nat) (news:List ByteArray) (hx:a.eval x=.slice (some ⟨B,off,none⟩) m c) (hl:news.length=m) (hnews:∀ j u,(txV news)[j]? =some u→w.cell? ((⟨B,off,none⟩:Addr).add j)=some u)
  (hm:0<m) (EM:l.length+m≤1073741824) (eN:lo≤w.heap.size)
  (h:∀ g cap w',TxR w' lo (.slice (some ⟨g,0,none⟩) (l.length+m) cap) (l++news)→w.grownBy w' v.ownBlock→wpList Try.prog ops Q rest (a.put o.dst (.slice (some ⟨g,0,none⟩) (l.length+m) cap)) w'):wpList Try.prog ops Q (o::rest) a w:=by
 obtain⟨i0,hi,ee,gi,jT⟩:=iZ Try.bI;refine wpList_append_lies w oU s x 38 ho lo 9 i0 _ 1 16 Try.fv hi ee gi jT rfl (by omega) v l.length (txV l) hs hU ⟨B,off,none⟩ m c (txV news) hx (by rw[vg,hl,Nat.mul_one]) hnews
  (fun u hu=>by obtain⟨b,_,rfl⟩:=List.mem_map.1 hu;rfl) hm (by unfold maxLen;omega) (by omega) eN _ rfl fun g cap w' q1 q2 _ _=>h g cap w' ?_ q2
 unfold TxR;rw[vm,List.length_append,hl];exact q1
theorem Pl.cP (kind:ByteArray):(Pl.aj kind).length≤100:=by
 unfold Pl.aj;split
 ·decide
 ·split
  ·decide
  ·split<;>decide
theorem Pl.sE (kind:ByteArray):∀ r∈Pl.aj kind,r.args.length≤3:=by
 unfold Pl.aj;split
 ·decide
 ·split
  ·decide
  ·split
   ·decide
   ·intro r hr;cases hr
theorem Pl.tO (kind:ByteArray):∀ r∈Pl.aj kind,r.dflt.length≤3∧(r.many=false→1≤r.dflt.length)∧∀ x∈r.dflt,x.size≤4000:=by
 unfold Pl.aj;split
 ·decide
 ·split
  ·decide
  ·split
   ·decide
   ·intro r hr;cases hr
theorem mL (r:Pl.Ru):(ruD r).length=4:=rfl
theorem Rep.elF {w:World} {tt:Bool} {n q:Nat} {sh:List Sh} {G:List Nat} {es:List Dt} {vs:List Value} (h:Rep w tt (bP n sh) G es vs) (hq:q<n) {p o:Nat} (hr:w.rangeAt p o vs):∃ ve G',Rep w tt sh G' (Go.Proofs.Ytmgibmmpopoboaa.el sh.length q es) ve∧w.rangeAt p (o+q*sh.length) ve∧∀ b∈G',b∈G:=by
 rw[eG hq]at h;obtain⟨F1,F2,d1,d2,c1,c2,rfl,rfl,rfl,h1,h2⟩:=Rep.cut _ h;obtain⟨F3,F4,d3,d4,c3,c4,rfl,rfl,rfl,h3,h4⟩:=Rep.cut _ h2;rw[qk (by rw[h1.raw.typ.len,bq]) h3.raw.typ.len];refine⟨c3,F3,h3, ?_,fun b hb=>by simp[hb]⟩;have:=(dB (dB hr).2).1;rwa [h1.len,bq]at this
theorem pI {W:World} {l:List Pl.Ru} {F:List Nat} {v:Value} (h:Rep W false [.row 40 aC] F [bQ l] [v]) {k:Nat} (hk:k<l.length):∃ p o c a1 c1 a3 n3 c3 F',v=.slice (some ⟨p,o,none⟩) l.length c∧p<W.heap.size∧W.rangeAt p (o+k*4) [.string (l.getD k Pl.aO).key,.slice a1 (l.getD k Pl.aO).args.length c1,.bool (l.getD k Pl.aO).many,.slice a3 n3 c3]∧Rep W false aC F' (ruD (l.getD k Pl.aO)) [.string (l.getD k Pl.aO).key,.slice a1 (l.getD k Pl.aO).args.length c1,.bool (l.getD k Pl.aO).many,.slice a3 n3 c3]∧∀ b∈F',b∈F:=by
 rcases h.slice with⟨_,e0,_⟩|⟨p,o,c,u,m,G,hv,hF,_,ho,_,_,vs,hr,hR⟩
 ·omega
 ·obtain⟨ve,G',hE,hg,hb⟩:=hR.elF hk hr;have e:el aC.length k (l.flatMap ruD)=ruD (l.getD k Pl.aO):=fJ Pl.aO ruD 4 mL l k hk;rw[e]at hE;have Im:Rep W false aC G' (ruD (l.getD k Pl.aO)) ve:=hE;obtain⟨F1,v1,F3,v3,mD,hc,r1,r3⟩:=dS Im;subst hc;obtain⟨a1,c1,h1⟩:=r1.raw.aP;obtain⟨a3,c3,h3⟩:=r3.raw.aP;subst h1;subst h3;exact⟨p,o,c,a1,c1,a3,_,c3,G',hv,ho.lt,hg,Im,fun b fE=>by rw[hF];exact List.mem_cons_of_mem _ (hb b fE)⟩
def VLn (R:Nat) (wv av:Value) (B6 B7 p1 o1 k:Nat) (z:Int):Nat→Value→World→Prop
 |0,u,_=>u=.pointer (some ⟨B7,1,none⟩)
 |1,u,_=>u=wv
 |2,u,_=>u=.pointer (some ⟨R,0,none⟩)
 |3,u,_=>u=.pointer (some ⟨B6,1,none⟩)
 |4,u,_=>u=av
 |5,u,_=>u=.int .i64 (k:Int)
 |6,u,_=>u=.pointer (some ⟨p1,o1+k,none⟩)
 |7,u,_=>u=.int .i64 z
 |8,u,_=>∃ s:ByteArray,u=.string s∧s.size≤4000
 |9,u,W=>∃ (B:Nat) (s:ByteArray),u=.slice (some ⟨B,0,none⟩) 1 1∧R<B∧B<W.heap.size∧W.cell? ⟨B,0,none⟩=some (.string s)∧s.size≤4000
 |_,_,_=>True
theorem rE (R:Nat) (wv av:Value) (B6 B7 p1 o1 k:Nat) (z:Int):∀ j u W W',Fr R W W'→R<W.heap.size→VLn R wv av B6 B7 p1 o1 k z j u W→VLn R wv av B6 B7 p1 o1 k z j u W':=by
 intro j u W W' hb bN h;match j with
 |0=>exact h
 |1=>exact h
 |2=>exact h
 |3=>exact h
 |4=>exact h
 |5=>exact h
 |6=>exact h
 |7=>exact h
 |8=>exact h
 |9=>
  obtain⟨B,s,e,h1,h2,hc,hs⟩:=h;exact⟨B,s,e,h1,zL h2 hb.bel.size,(hb.cell h1 h2).trans hc,hs⟩
 |n+10=>exact trivial
theorem Ai (R:Nat) (v:Value) (len p:Nat) (kind:ByteArray) (W0:World) (h:Rd W0 R v len p) (hp:p≤500000000000) (DO:1≤(Pl.aj kind).length):
  Calls Try.prog 83 #[.pointer (some ⟨R,0,none⟩),.string kind] W0 fun e W'=>(∃ key wv ws,e=.returned (.agg #[.string key,wv])∧TxR W' W0.heap.size wv ws∧ws.length≤3∧(∀ x∈ws,x.size≤4000)∧∃ r'∈Pl.aj kind,r'.key=key)∧Fr R W0 W'∧∃ q,q≤p+200000∧Rd W' R v len q:=by
 have km:=uh h;clear h;have EY:=uh (Pl.cP kind);have GR:=uh (Pl.sE kind);have Gu:=uh (Pl.tO kind);obtain⟨Wa,JJ⟩:∃ Wa,Wa=W0.alloc (.cells #[.string {data:=#[]},.slice none 0 0] 53):=⟨_,rfl⟩
 have gh:Bel W0 Wa:=by rw[JJ];exact ah zR _
 have Kf:Wa.heap.size=W0.heap.size+1:=by rw[JJ];simp
 have fk:Hid (aK Wa W0.heap.size 53 [.string {data:=#[]},.slice none 0 0]):=by show aK _ _ _ _;rw[JJ];exact aK.new _ _ _ _ rfl
 have Ho:=uh (km.out.ae gh);have HC:=uh (cB kind Wa);have jP:=uh gh;have K6:=uh Kf;clear gh Kf;go_enter Try.func83,Try.ntmps83
 go_wp2_with fail
 rw[← JJ];clear JJ;refine HC.out.mono ?_;rintro e W1 ⟨lv,F,rfl,iC,nd,lo,bZ⟩;obtain⟨l,hl⟩:∃ l,l=Pl.aj kind:=⟨_,rfl⟩
 rw[← hl]at iC EY GR Gu DO;obtain⟨va,vc,ti⟩:=iC.raw.aP;subst ti;have HLK:=uh hl;clear hl nd HC;have Jh:=EY.out;have gP:=uh (Ho.out.ae bZ);have JQ:=uh iC;have oI:=uh lo;have fz:=uh bZ;have I0:=uh (fk.out.ae bZ);clear iC lo bZ fk;have HP:=uh (bp R v len p l.length W1 gP.out (by omega) (by omega));go_wp2_with fail
 refine HP.out.mono ?_;rintro e W2 ⟨⟨ri,rfl,JC⟩,eM,eL⟩;obtain⟨i,rfl,hi⟩:=JC.nat;clear JC;have lr:i<l.length:=by have:=hi (by omega);omega
 have eO:=uh eL;have Bs:=uh eM;have ez:=uh km.out.own.lt;have EV:=uh (JQ.out.aY (eM.eJ gP.out eL) (fun b hb e=>by have:=oI.out b hb;have:=K6.out;have:=ez.out;omega));have Kd:=uh (I0.out.fr eM ez.out);have AZ:Hid (Fr R W0 W2):=((Fr.bh jP.out ez.out).trans (Fr.bh fz.out Ho.out.own.lt)).trans eM;have x6:Hid (W0.heap.size<W2.heap.size):=by have:=jP.out.size;have:=fz.out.size;have:=eM.bel.size;have:=K6.out;show _<_;omega
 clear hi eL eM HP JQ I0 gP fz Bs Ho jP;obtain⟨pl,ol,cl,a1,c1,a3,n3,c3,F',hv,dc,hg,kZ,mD⟩:=pI EV.out lr;injection hv with e1 _ e3
 subst e1;subst e3;have y0:W2.cell? ⟨pl,ol+i*4,none⟩=some (.string (l.getD i Pl.aO).key):=aF hg 0 _ rfl;have y1:=aF hg 1 _ rfl;have y2:=aF hg 2 _ rfl;have y3:=aF hg 3 _ rfl;have GW:=uh kZ;have MJ:Hid (∀ b∈F',R<b∧b<W2.heap.size):=fun b hb=>⟨by have:=oI.out b (mD b hb);have:=K6.out;have:=ez.out;omega,kZ.lt b hb⟩
 have xP:Hid ((l.getD i Pl.aO).args.length≤3∧(l.getD i Pl.aO).dflt.length≤3∧((l.getD i Pl.aO).many=false→1≤(l.getD i Pl.aO).dflt.length)∧∀ x∈(l.getD i Pl.aO).dflt,x.size≤4000):=by
  have e:l.getD i Pl.aO=l[i]:=by simp[lr]
  rw[e];exact⟨GR.out _ (List.getElem_mem lr),Gu.out _ (List.getElem_mem lr)⟩
 obtain⟨r,hr⟩:∃ r,r=l.getD i Pl.aO:=⟨_,rfl⟩
 have Hp:Hid (∃ r'∈Pl.aj kind,r'.key=r.key):=by
  show ∃ r'∈Pl.aj kind,r'.key=r.key;rw[← HLK.out];exact⟨l[i],List.getElem_mem lr,by rw[hr];simp[lr]⟩
 rw[← hr]at y0 y1 y2 GW xP;have eT:(0:Int)≤(i:Int):=by omega
 have gN:(i:Int)<(l.length:Int):=by omega
 clear hr hg kZ mD EV oI GR Gu;obtain⟨W4,oW⟩:∃ W4,W4=(W2.alloc (.cells #[.string r.key,.slice a1 r.args.length c1,.bool r.many,.slice a3 n3 c3] 40)).alloc (.cells #[.string r.key,.slice none 0 0] 53):=⟨_,rfl⟩
 have sX:Bel W2 W4:=by rw[oW];exact ah (ah zR _) _
 have Hz:Hid (LJ W0 W4 R W0.heap.size W2.heap.size (W2.heap.size+1) r (.slice a1 r.args.length c1) (.slice a3 n3 c3) (.slice none 0 0) (.slice none 0 0) []):=by
  refine⟨AZ.out.trans (Fr.bh sX eO.out.own.lt),Kd.out.ae sX, ?_,⟨F',GW.out.ae sX,fun b hb=>⟨(MJ.out b hb).1,by have:=(MJ.out b hb).2;omega⟩⟩, ?_,TxR.nil _ _,ez.out,zE,x6.out,by omega⟩
  ·rw[oW];exact(aK.new W2 [.string r.key,.slice a1 r.args.length c1,.bool r.many,.slice a3 n3 c3] 40 _ rfl).ae (ah zR _)
  ·rw[oW];exact aK.new _ [.string r.key,.slice none 0 0] 53 _ (by simp)
 have mv:=uh (eO.out.ae sX);have jT:(W2.alloc (.cells #[.string r.key,.slice a1 r.args.length c1,.bool r.many,.slice a3 n3 c3] 40)).heap.size=W2.heap.size+1:=by simp
 go_upto_region 4 with fail
 rw[← oW];obtain⟨B6,LV⟩:∃ B6,B6=W2.heap.size:=⟨_,rfl⟩
 obtain⟨B7,Mg⟩:∃ B7,B7=W2.heap.size+1:=⟨_,rfl⟩
 obtain⟨B0,tw⟩:∃ B0,B0=W0.heap.size:=⟨_,rfl⟩
 rw[← Mg,← LV,← tw];rw[← Mg,← LV,← tw]at Hz;clear oW sX jT LV Mg tw y0 y1 y2 y3 eO GW MJ AZ Kd x6 ez K6 dc;have mG:=Hz.out.rul.get 2 _ rfl;have ec:=Hz.out.rul.own.lt;cases hmany:r.many
 rotate_left
 ·rw[hmany]at mG;clear ec;go_upto_region 7 with fail
  clear mG hmany;go_wp2;go_loopw [8] (fun i wr=>∃ (k:Nat) (ws:List ByteArray) (q:Nat),k≤r.args.length∧i=.int .i64 k∧ws.length=k∧q≤bnd p k∧Hid (∃ u,LJ W0 wr R B0 B6 B7 r (.slice a1 r.args.length c1) (.slice a3 n3 c3) u u ws∧Rd wr R v len q∧∀ x∈ws,x.size≤4000)) (fun i _=>r.args.length - (intOf i).toNat)
  case atStart=>exact⟨0,[],p+1,zN,rfl,rfl,by unfold bnd;omega,⟨_,Hz.out,mv.out,fun x hx=>by cases hx⟩⟩
  case round=>
   obtain⟨k,ws,pw,hk,rfl,L6,H8,HX⟩:=hrel;obtain⟨u,hJ,JV,J2⟩:=HX.out;have HJ:=uh hJ;have jB:=uh JV;have Ev:=uh J2;have L4:=uh L6;have Kh:=uh H8;have ha3:=xP.out.1;have DZ:=yD Kh.out (show k≤3 by omega);clear H8;obtain⟨wa,wc,hu⟩:=hJ.row.shape;subst hu;clear hJ JV J2 HX;have yb0:=HJ.out.rul.get 1 _ rfl;have ybl:=HJ.out.rul.own.lt;by_cases bN:k<r.args.length
   ·obtain⟨Fr',kZ,GF⟩:=HJ.out.rep;obtain⟨F1,v1,F3,v3,mD,hc,r1,r3⟩:=dS kZ;injection hc with _ hc
    injection hc with jU _
    subst jU;obtain⟨p1,o1,e1,yq,pW,fZ⟩:=pP r1 bN;subst e1;obtain⟨z,hz⟩:∃ z,z=r.args.getD k 0:=⟨_,rfl⟩
    have ki:Hid (R<p1∧p1<wr.heap.size∧wr.cell? ⟨p1,o1+k,none⟩=some (.int .i64 z)):=⟨(GF p1 (by rw[mD];simp[yq])).1,pW,by rw[hz];exact fZ⟩
    have BI:Hid (ws.length≤3):=by show _≤_;omega
    have dd:(0:Int)≤(k:Int):=by omega
    have de:(k:Int)<(r.args.length:Int):=by omega
    clear kZ GF r1 r3 mD yq fZ hz pW;go_upto_region 10 with fail
    clear yb0 ybl;refine RY.l2 R v len pw jB.out (VLn R (.slice wa ws.length wc) (.slice (some ⟨p1,o1,none⟩) r.args.length c1) B6 B7 p1 o1 k z) (rE R _ _ _ _ _ _ _ _) (fun u W'=>∃ mr,LJ W0 W' R B0 B6 B7 r (.slice (some ⟨p1,o1,none⟩) r.args.length c1) (.slice a3 n3 c3) (.slice wa ws.length wc) u mr∧mr.length=ws.length+1∧(∀ x∈mr,x.size≤4000)∧∃ q,q≤pw+11000∧Rd W' R v len q) (fun u W'=>∃ mr,LJ W0 W' R B0 B6 B7 r (.slice (some ⟨p1,o1,none⟩) r.args.length c1) (.slice a3 n3 c3) u u mr∧mr.length=ws.length+1∧(∀ x∈mr,x.size≤4000)∧∃ q,q≤pw+11000∧Rd W' R v len q) (.pointer (some ⟨B7,1,none⟩)) 10 12 53 54 (by kernel_rfl) (by kernel_rfl) (by kernel_rfl) (by kernel_rfl) (by kernel_rfl) rfl (by kernel_rfl) _ _ _ rfl rfl rfl rfl rfl rfl (by kernel_rfl) (by kernel_rfl) ?_ ?_ ?_ ?_ ?_
    ·intro i' o' ho gN a X pp hX hR tb hk hd;have hJ:=HJ.out.step hX jB.out hR;have yb:=hJ.box.get 1 _ rfl;have yr:=hJ.rul.get 1 _ rfl;have yc:X.cell? ⟨p1,o1+k,none⟩=some (.int .i64 z):=(hX.cell ki.out.1 ki.out.2.1).trans ki.out.2.2;match i',ho with
     |0,ho=>
      injection ho with ho;subst ho
      have e7:a.tmps[7]?.getD undef=.pointer (some ⟨B7,0,none⟩):=(RY.af a 7).trans ((hk 7 (by kernel_rfl)).trans rfl);exact Or.inl ⟨.pointer (some ⟨B7,1,none⟩),X,by simp[execOp,go_sem,e7],zR,rfl⟩
     |1,ho=>
      injection ho with ho;subst ho
      have e43:a.tmps[43]?.getD undef=_:=(RY.af a 43).trans (hd 0 _ 43 rfl rfl ⟨⟨0,.data⟩,by simp,rfl,rfl⟩ (by decide));exact Or.inl ⟨.slice wa ws.length wc,X,by simp[execOp,go_sem,e43,yb],zR,rfl⟩
     |2,ho=>
      injection ho with ho;subst ho
      have e0:a.tmps[0]?.getD undef=.pointer (some ⟨R,0,none⟩):=(RY.af a 0).trans ((hk 0 (by kernel_rfl)).trans rfl);exact Or.inl ⟨.pointer (some ⟨R,0,none⟩),X,by simp[execOp,go_sem,e0],zR,rfl⟩
     |3,ho=>
      injection ho with ho;subst ho
      have e6:a.tmps[6]?.getD undef=.pointer (some ⟨B6,0,none⟩):=(RY.af a 6).trans ((hk 6 (by kernel_rfl)).trans rfl);exact Or.inl ⟨.pointer (some ⟨B6,1,none⟩),X,by simp[execOp,go_sem,e6],zR,rfl⟩
     |4,ho=>
      injection ho with ho;subst ho
      have e46:a.tmps[46]?.getD undef=_:=(RY.af a 46).trans (hd 3 _ 46 rfl rfl ⟨⟨3,.data⟩,by simp,rfl,rfl⟩ (by decide));exact Or.inl ⟨.slice (some ⟨p1,o1,none⟩) r.args.length c1,X,by simp[execOp,go_sem,e46,yr],zR,rfl⟩
     |5,ho=>
      injection ho with ho;subst ho
      have e8:a.tmps[8]?.getD undef=.int .i64 (k:Int):=(RY.af a 8).trans ((hk 8 (by kernel_rfl)).trans rfl);exact Or.inl ⟨.int .i64 (k:Int),X,by simp[execOp,go_sem,e8],zR,rfl⟩
     |6,ho=>
      injection ho with ho;subst ho
      have e47:a.tmps[47]?.getD undef=_:=(RY.af a 47).trans (hd 4 _ 47 rfl rfl ⟨⟨4,.data⟩,by simp,rfl,rfl⟩ (by decide));have e48:a.tmps[48]?.getD undef=_:=(RY.af a 48).trans (hd 5 _ 48 rfl rfl ⟨⟨5,.data⟩,by simp,rfl,rfl⟩ (by decide));exact Or.inl ⟨.pointer (some ⟨p1,o1+k,none⟩),X,by simp[execOp,go_sem,e47,e48,dd,de],zR,rfl⟩
     |7,ho=>
      injection ho with ho;subst ho
      have e49:a.tmps[49]?.getD undef=_:=(RY.af a 49).trans (hd 6 _ 49 rfl rfl ⟨⟨6,.data⟩,by simp,rfl,rfl⟩ (by decide));exact Or.inl ⟨.int .i64 z,X,by simp[execOp,go_sem,e49,yc],zR,rfl⟩
     |8,ho=>
      injection ho with ho;subst ho
      have e45:a.tmps[45]?.getD undef=_:=(RY.af a 45).trans (hd 2 _ 45 rfl rfl ⟨⟨2,.data⟩,by simp,rfl,rfl⟩ (by decide));have e50:a.tmps[50]?.getD undef=_:=(RY.af a 50).trans (hd 7 _ 50 rfl rfl ⟨⟨7,.data⟩,by simp,rfl,rfl⟩ (by decide));refine Or.inr ⟨90,#[.pointer (some ⟨R,0,none⟩),.int .i64 z],by simp[go_sem,e45,e50],(od R v len pp z X hR (by omega)).mono ?_⟩;rintro e W' ⟨⟨s,rfl,hs⟩,hF,q,hq,Dd⟩;exact⟨_,rfl,hF,⟨q,hq,Dd⟩,s,rfl,hs⟩
     |9,ho=>
      injection ho with ho;subst ho
      obtain⟨s,e51,hs⟩:=hd 8 _ 51 rfl rfl ⟨⟨8,.data⟩,by simp,rfl,rfl⟩ (by decide);have f51:=(RY.af a 51).trans e51;exact Or.inl ⟨.slice (some ⟨X.heap.size,0,none⟩) 1 1,X.alloc (.cells #[.string s] 9),by simp[execOp,go_sem,f51],ah zR _,X.heap.size,s,rfl,hR.own.lt,by simp,(World.cell?_alloc_at _ _ _ _ rfl).trans rfl,hs⟩
     |n+10,ho=>omega
    ·intro a X pp hX hR tb hk hd;have hJ:=HJ.out.step hX jB.out hR;have e44:=hd 1 _ 44 rfl rfl ⟨⟨1,.data⟩,by simp,rfl,rfl⟩ (by decide);obtain⟨B,s,e52,h1,h2,hc,hs⟩:=hd 9 _ 52 rfl rfl ⟨⟨9,.data⟩,by simp,rfl,rfl⟩ (by decide);obtain⟨g,cap,X',cg,dw,cN⟩:=tS hJ.row 38 B 1 1 [s] rfl (fun j y hy=>by match j,hy with|0,hy=>(injection hy with hy;subst hy;exact hc)) (by decide) (by have:=BI.out;omega) (by have:=hJ.box.own.lt;omega);refine⟨_,X',bg (.tmp 44) (.tmp 52) 38 rfl e44 e52 cg,ws++[s],hJ.app cN dw,by simp, ?_,pp,by omega,hR.grown cN (fun b hb=>by have:=(bK hJ.row hb).1;have:=hJ.ord;omega)⟩;intro x hx;rcases List.mem_append.1 hx with q|q
     ·exact Ev.out x q
     ·simp at q;rw[q];exact hs
    ·intro a X hk;have e7:a.tmps[7]?.getD undef=.pointer (some ⟨B7,0,none⟩):=(RY.af a 7).trans ((hk 7 (by kernel_rfl)).trans rfl);simp[execOp,go_sem,e7]
    ·intro a X hK hp;obtain⟨mr,hJ,hl,hs,q,hq,hR⟩:=hK;obtain⟨ua,uc,hu⟩:=hJ.row.shape;have t53:=(RY.af a 53).trans hu;have t54:=(RY.af a 54).trans hp;have zb:=hJ.box.get 1 _ rfl;have zf:=hJ.box.own.frozen 1;refine⟨X.setCell ⟨B7,1,none⟩ (a.eval (.tmp 53)),by rw[hu];simp[execOp,go_sem,t53,t54,zb,zf],mr,hJ.sto,hl,hs,q,hq,hR.mks (Marks.sc (S:=fun b=>b=B7) X rfl 1 _) (fun b e=>by have:=hJ.ord;omega)⟩
    ·rintro vs X hK e54;simp only[RY.aE,Act.put,List.setIfInBounds_toArray,List.set_cons_zero,List.set_cons_succ];generalize vs 43=s43;generalize vs 44=s44;generalize vs 45=s45;generalize vs 46=s46;generalize vs 47=s47;generalize vs 48=s48;generalize vs 49=s49;generalize vs 50=qG;generalize vs 51=s51;generalize vs 52=s52;generalize vs 53=s53 at hK;rw[e54];obtain⟨mr,hJ,hl,hs,q,hq,hR⟩:=hK;have HN:=uh (And.intro hJ (And.intro hl (And.intro hs (And.intro hq hR))));clear hJ hl hs hq hR e54;go_wp2;go_roundw
     case rel=>exact⟨k+1,mr,q,by omega,by go_num,by have:=HN.out.2.1;have:=L4.out;omega,rh Kh.out HN.out.2.2.2.1,⟨_,HN.out.1,HN.out.2.2.2.2,HN.out.2.2.1⟩⟩
     case measure=>simp[intOf];omega
   obtain rfl:k=r.args.length:=by omega
   obtain⟨q,hq⟩:∃ q,q=pw:=⟨_,rfl⟩
   rw[← hq]at jB DZ;clear hq;have jH:=HJ.out.box.at_;have lf:=HJ.out.box.own.lt;have uQ:=HJ.out.res.own.lt;have bG:wr.there B0 0 (#[.string r.key,.slice wa ws.length wc]:Array Value).size:=aR HJ.out.res.own _ _ (by simp);obtain⟨we,bj⟩:∃ we,we=wr.setCells B0 0 [.string r.key,.slice wa ws.length wc]:=⟨_,rfl⟩
   have dv:we.rangeAt B0 0 [.string r.key,.slice wa ws.length wc]:=by rw[bj];exact World.rangeAt_setCells_same _ _ _ _ bG
   have jV:Marks (fun b=>b=B0) wr we:=by rw[bj];exact aN (S:=fun b=>b=B0) rfl _ _ _
   have Ep:=HJ.out.ord;have cH:Hid (Fr R W0 we∧Rd we R v len q∧TxR we W0.heap.size (.slice wa ws.length wc) ws):=⟨HJ.out.fr.mks jV (fun b e=>by omega) Ep.1,jB.out.mks jV (fun b e=>by omega),TxR.lower (lo:=B7+1) (dH HJ.out.row jV (fun b hb e=>by omega)) (by omega)⟩
   clear jV Ep;go_wp2_with (first|(refine wpList_load_mid rfl 53 _ rfl B7 0 rfl [.string r.key,.slice wa ws.length wc] _ jH Try.underlying53 rfl (by kernel_rfl) ?_)|(refine wpList_store_mid rfl 53 _ _ rfl B0 0 #[.string r.key,.slice wa ws.length wc] rfl rfl bG (by kernel_rfl) (by simp[Value.oneCell']) ?_))
   first|rw[← bj]|(simp only[List.toList_toArray];rw[← bj])
   try simp only[Act.put]
   refine bodyPost_ret (v:=.agg #[.string r.key,.slice wa ws.length wc]) (by simp[results,Try.results83,asAddr,run_loadVar_mid (P:=Try.prog) _ _ _ 53 [.string r.key,.slice wa ws.length wc] _ dv Try.underlying53 rfl (by kernel_rfl)]) rfl ?_;exact⟨⟨r.key,_,ws,rfl,cH.out.2.2,by omega,Ev.out,Hp.out⟩,cH.out.1,q,by omega,cH.out.2.1⟩
 rw[hmany]at mG;have HP:=uh (bp R v len (p+1) 4 W4 mv.out (by omega) (by omega));go_wp2_with fail
 refine HP.out.mono ?_;rintro e W5 ⟨⟨rm,rfl,ia⟩,IA,Hr⟩;obtain⟨m,rfl,hm⟩:=ia.nat;have D8:=uh (Hz.out.step IA mv.out Hr);have Bh:=uh Hr;clear ia hm IA Hr HP mG ec Hz mv;by_cases m0:m=0
 rotate_left
 ·have d0:((m:Int)==0)=false:=by simp;omega
  go_upto_region 7 with fail
  clear d0 hmany m0;go_wp2;go_loopw [8] (fun i wr=>∃ (k:Nat) (ws:List ByteArray) (q:Nat),k≤r.args.length∧i=.int .i64 k∧ws.length=k∧q≤bnd p k∧Hid (∃ u,LJ W0 wr R B0 B6 B7 r (.slice a1 r.args.length c1) (.slice a3 n3 c3) u u ws∧Rd wr R v len q∧∀ x∈ws,x.size≤4000)) (fun i _=>r.args.length - (intOf i).toNat)
  case atStart=>exact⟨0,[],p+1+1,zN,rfl,rfl,by unfold bnd;omega,⟨_,D8.out,Bh.out,fun x hx=>by cases hx⟩⟩
  case round=>
   obtain⟨k,ws,pw,hk,rfl,L6,H8,HX⟩:=hrel;obtain⟨u,hJ,JV,J2⟩:=HX.out;have HJ:=uh hJ;have jB:=uh JV;have Ev:=uh J2;have L4:=uh L6;have Kh:=uh H8;have ha3:=xP.out.1;have DZ:=yD Kh.out (show k≤3 by omega);clear H8;obtain⟨wa,wc,hu⟩:=hJ.row.shape;subst hu;clear hJ JV J2 HX;have yb0:=HJ.out.rul.get 1 _ rfl;have ybl:=HJ.out.rul.own.lt;by_cases bN:k<r.args.length
   ·obtain⟨Fr',kZ,GF⟩:=HJ.out.rep;obtain⟨F1,v1,F3,v3,mD,hc,r1,r3⟩:=dS kZ;injection hc with _ hc
    injection hc with jU _
    subst jU;obtain⟨p1,o1,e1,yq,pW,fZ⟩:=pP r1 bN;subst e1;obtain⟨z,hz⟩:∃ z,z=r.args.getD k 0:=⟨_,rfl⟩
    have ki:Hid (R<p1∧p1<wr.heap.size∧wr.cell? ⟨p1,o1+k,none⟩=some (.int .i64 z)):=⟨(GF p1 (by rw[mD];simp[yq])).1,pW,by rw[hz];exact fZ⟩
    have BI:Hid (ws.length≤3):=by show _≤_;omega
    have dd:(0:Int)≤(k:Int):=by omega
    have de:(k:Int)<(r.args.length:Int):=by omega
    clear kZ GF r1 r3 mD yq fZ hz pW;go_upto_region 10 with fail
    clear yb0 ybl;refine RY.l2 R v len pw jB.out (VLn R (.slice wa ws.length wc) (.slice (some ⟨p1,o1,none⟩) r.args.length c1) B6 B7 p1 o1 k z) (rE R _ _ _ _ _ _ _ _) (fun u W'=>∃ mr,LJ W0 W' R B0 B6 B7 r (.slice (some ⟨p1,o1,none⟩) r.args.length c1) (.slice a3 n3 c3) (.slice wa ws.length wc) u mr∧mr.length=ws.length+1∧(∀ x∈mr,x.size≤4000)∧∃ q,q≤pw+11000∧Rd W' R v len q) (fun u W'=>∃ mr,LJ W0 W' R B0 B6 B7 r (.slice (some ⟨p1,o1,none⟩) r.args.length c1) (.slice a3 n3 c3) u u mr∧mr.length=ws.length+1∧(∀ x∈mr,x.size≤4000)∧∃ q,q≤pw+11000∧Rd W' R v len q) (.pointer (some ⟨B7,1,none⟩)) 10 12 53 54 (by kernel_rfl) (by kernel_rfl) (by kernel_rfl) (by kernel_rfl) (by kernel_rfl) rfl (by kernel_rfl) _ _ _ rfl rfl rfl rfl rfl rfl (by kernel_rfl) (by kernel_rfl) ?_ ?_ ?_ ?_ ?_
    ·intro i' o' ho gN a X pp hX hR tb hk hd;have hJ:=HJ.out.step hX jB.out hR;have yb:=hJ.box.get 1 _ rfl;have yr:=hJ.rul.get 1 _ rfl;have yc:X.cell? ⟨p1,o1+k,none⟩=some (.int .i64 z):=(hX.cell ki.out.1 ki.out.2.1).trans ki.out.2.2;match i',ho with
     |0,ho=>
      injection ho with ho;subst ho
      have e7:a.tmps[7]?.getD undef=.pointer (some ⟨B7,0,none⟩):=(RY.af a 7).trans ((hk 7 (by kernel_rfl)).trans rfl);exact Or.inl ⟨.pointer (some ⟨B7,1,none⟩),X,by simp[execOp,go_sem,e7],zR,rfl⟩
     |1,ho=>
      injection ho with ho;subst ho
      have e43:a.tmps[43]?.getD undef=_:=(RY.af a 43).trans (hd 0 _ 43 rfl rfl ⟨⟨0,.data⟩,by simp,rfl,rfl⟩ (by decide));exact Or.inl ⟨.slice wa ws.length wc,X,by simp[execOp,go_sem,e43,yb],zR,rfl⟩
     |2,ho=>
      injection ho with ho;subst ho
      have e0:a.tmps[0]?.getD undef=.pointer (some ⟨R,0,none⟩):=(RY.af a 0).trans ((hk 0 (by kernel_rfl)).trans rfl);exact Or.inl ⟨.pointer (some ⟨R,0,none⟩),X,by simp[execOp,go_sem,e0],zR,rfl⟩
     |3,ho=>
      injection ho with ho;subst ho
      have e6:a.tmps[6]?.getD undef=.pointer (some ⟨B6,0,none⟩):=(RY.af a 6).trans ((hk 6 (by kernel_rfl)).trans rfl);exact Or.inl ⟨.pointer (some ⟨B6,1,none⟩),X,by simp[execOp,go_sem,e6],zR,rfl⟩
     |4,ho=>
      injection ho with ho;subst ho
      have e46:a.tmps[46]?.getD undef=_:=(RY.af a 46).trans (hd 3 _ 46 rfl rfl ⟨⟨3,.data⟩,by simp,rfl,rfl⟩ (by decide));exact Or.inl ⟨.slice (some ⟨p1,o1,none⟩) r.args.length c1,X,by simp[execOp,go_sem,e46,yr],zR,rfl⟩
     |5,ho=>
      injection ho with ho;subst ho
      have e8:a.tmps[8]?.getD undef=.int .i64 (k:Int):=(RY.af a 8).trans ((hk 8 (by kernel_rfl)).trans rfl);exact Or.inl ⟨.int .i64 (k:Int),X,by simp[execOp,go_sem,e8],zR,rfl⟩
     |6,ho=>
      injection ho with ho;subst ho
      have e47:a.tmps[47]?.getD undef=_:=(RY.af a 47).trans (hd 4 _ 47 rfl rfl ⟨⟨4,.data⟩,by simp,rfl,rfl⟩ (by decide));have e48:a.tmps[48]?.getD undef=_:=(RY.af a 48).trans (hd 5 _ 48 rfl rfl ⟨⟨5,.data⟩,by simp,rfl,rfl⟩ (by decide));exact Or.inl ⟨.pointer (some ⟨p1,o1+k,none⟩),X,by simp[execOp,go_sem,e47,e48,dd,de],zR,rfl⟩
     |7,ho=>
      injection ho with ho;subst ho
      have e49:a.tmps[49]?.getD undef=_:=(RY.af a 49).trans (hd 6 _ 49 rfl rfl ⟨⟨6,.data⟩,by simp,rfl,rfl⟩ (by decide));exact Or.inl ⟨.int .i64 z,X,by simp[execOp,go_sem,e49,yc],zR,rfl⟩
     |8,ho=>
      injection ho with ho;subst ho
      have e45:a.tmps[45]?.getD undef=_:=(RY.af a 45).trans (hd 2 _ 45 rfl rfl ⟨⟨2,.data⟩,by simp,rfl,rfl⟩ (by decide));have e50:a.tmps[50]?.getD undef=_:=(RY.af a 50).trans (hd 7 _ 50 rfl rfl ⟨⟨7,.data⟩,by simp,rfl,rfl⟩ (by decide));refine Or.inr ⟨90,#[.pointer (some ⟨R,0,none⟩),.int .i64 z],by simp[go_sem,e45,e50],(od R v len pp z X hR (by omega)).mono ?_⟩;rintro e W' ⟨⟨s,rfl,hs⟩,hF,q,hq,Dd⟩;exact⟨_,rfl,hF,⟨q,hq,Dd⟩,s,rfl,hs⟩
     |9,ho=>
      injection ho with ho;subst ho
      obtain⟨s,e51,hs⟩:=hd 8 _ 51 rfl rfl ⟨⟨8,.data⟩,by simp,rfl,rfl⟩ (by decide);have f51:=(RY.af a 51).trans e51;exact Or.inl ⟨.slice (some ⟨X.heap.size,0,none⟩) 1 1,X.alloc (.cells #[.string s] 9),by simp[execOp,go_sem,f51],ah zR _,X.heap.size,s,rfl,hR.own.lt,by simp,(World.cell?_alloc_at _ _ _ _ rfl).trans rfl,hs⟩
     |n+10,ho=>omega
    ·intro a X pp hX hR tb hk hd;have hJ:=HJ.out.step hX jB.out hR;have e44:=hd 1 _ 44 rfl rfl ⟨⟨1,.data⟩,by simp,rfl,rfl⟩ (by decide);obtain⟨B,s,e52,h1,h2,hc,hs⟩:=hd 9 _ 52 rfl rfl ⟨⟨9,.data⟩,by simp,rfl,rfl⟩ (by decide);obtain⟨g,cap,X',cg,dw,cN⟩:=tS hJ.row 38 B 1 1 [s] rfl (fun j y hy=>by match j,hy with|0,hy=>(injection hy with hy;subst hy;exact hc)) (by decide) (by have:=BI.out;omega) (by have:=hJ.box.own.lt;omega);refine⟨_,X',bg (.tmp 44) (.tmp 52) 38 rfl e44 e52 cg,ws++[s],hJ.app cN dw,by simp, ?_,pp,by omega,hR.grown cN (fun b hb=>by have:=(bK hJ.row hb).1;have:=hJ.ord;omega)⟩;intro x hx;rcases List.mem_append.1 hx with q|q
     ·exact Ev.out x q
     ·simp at q;rw[q];exact hs
    ·intro a X hk;have e7:a.tmps[7]?.getD undef=.pointer (some ⟨B7,0,none⟩):=(RY.af a 7).trans ((hk 7 (by kernel_rfl)).trans rfl);simp[execOp,go_sem,e7]
    ·intro a X hK hp;obtain⟨mr,hJ,hl,hs,q,hq,hR⟩:=hK;obtain⟨ua,uc,hu⟩:=hJ.row.shape;have t53:=(RY.af a 53).trans hu;have t54:=(RY.af a 54).trans hp;have zb:=hJ.box.get 1 _ rfl;have zf:=hJ.box.own.frozen 1;refine⟨X.setCell ⟨B7,1,none⟩ (a.eval (.tmp 53)),by rw[hu];simp[execOp,go_sem,t53,t54,zb,zf],mr,hJ.sto,hl,hs,q,hq,hR.mks (Marks.sc (S:=fun b=>b=B7) X rfl 1 _) (fun b e=>by have:=hJ.ord;omega)⟩
    ·rintro vs X hK e54;simp only[RY.aE,Act.put,List.setIfInBounds_toArray,List.set_cons_zero,List.set_cons_succ];generalize vs 43=s43;generalize vs 44=s44;generalize vs 45=s45;generalize vs 46=s46;generalize vs 47=s47;generalize vs 48=s48;generalize vs 49=s49;generalize vs 50=qG;generalize vs 51=s51;generalize vs 52=s52;generalize vs 53=s53 at hK;rw[e54];obtain⟨mr,hJ,hl,hs,q,hq,hR⟩:=hK;have HN:=uh (And.intro hJ (And.intro hl (And.intro hs (And.intro hq hR))));clear hJ hl hs hq hR e54;go_wp2;go_roundw
     case rel=>exact⟨k+1,mr,q,by omega,by go_num,by have:=HN.out.2.1;have:=L4.out;omega,rh Kh.out HN.out.2.2.2.1,⟨_,HN.out.1,HN.out.2.2.2.2,HN.out.2.2.1⟩⟩
     case measure=>simp[intOf];omega
   obtain rfl:k=r.args.length:=by omega
   obtain⟨q,hq⟩:∃ q,q=pw:=⟨_,rfl⟩
   rw[← hq]at jB DZ;clear hq;have jH:=HJ.out.box.at_;have lf:=HJ.out.box.own.lt;have uQ:=HJ.out.res.own.lt;have bG:wr.there B0 0 (#[.string r.key,.slice wa ws.length wc]:Array Value).size:=aR HJ.out.res.own _ _ (by simp);obtain⟨we,bj⟩:∃ we,we=wr.setCells B0 0 [.string r.key,.slice wa ws.length wc]:=⟨_,rfl⟩
   have dv:we.rangeAt B0 0 [.string r.key,.slice wa ws.length wc]:=by rw[bj];exact World.rangeAt_setCells_same _ _ _ _ bG
   have jV:Marks (fun b=>b=B0) wr we:=by rw[bj];exact aN (S:=fun b=>b=B0) rfl _ _ _
   have Ep:=HJ.out.ord;have cH:Hid (Fr R W0 we∧Rd we R v len q∧TxR we W0.heap.size (.slice wa ws.length wc) ws):=⟨HJ.out.fr.mks jV (fun b e=>by omega) Ep.1,jB.out.mks jV (fun b e=>by omega),TxR.lower (lo:=B7+1) (dH HJ.out.row jV (fun b hb e=>by omega)) (by omega)⟩
   clear jV Ep;go_wp2_with (first|(refine wpList_load_mid rfl 53 _ rfl B7 0 rfl [.string r.key,.slice wa ws.length wc] _ jH Try.underlying53 rfl (by kernel_rfl) ?_)|(refine wpList_store_mid rfl 53 _ _ rfl B0 0 #[.string r.key,.slice wa ws.length wc] rfl rfl bG (by kernel_rfl) (by simp[Value.oneCell']) ?_))
   first|rw[← bj]|(simp only[List.toList_toArray];rw[← bj])
   try simp only[Act.put]
   refine bodyPost_ret (v:=.agg #[.string r.key,.slice wa ws.length wc]) (by simp[results,Try.results83,asAddr,run_loadVar_mid (P:=Try.prog) _ _ _ 53 [.string r.key,.slice wa ws.length wc] _ dv Try.underlying53 rfl (by kernel_rfl)]) rfl ?_;exact⟨⟨r.key,_,ws,rfl,cH.out.2.2,by omega,Ev.out,Hp.out⟩,cH.out.1,q,by omega,cH.out.2.1⟩
 subst m0;obtain⟨Fr',kZ,GF⟩:=D8.out.rep;obtain⟨F1,v1,F3,v3,mD,hc,r1,r3⟩:=dS kZ;injection hc with _ hc
 injection hc with jU hc
 injection hc with _ hc
 injection hc with Jz _
 subst jU;subst Jz;obtain⟨ua,uc,hu⟩:=r3.raw.aP;injection hu with e1 e2 e3
 subst e1;subst e2;subst e3;have BH:=xP.out.2.2.1 hmany;have qK:=xP.out.2.1;rcases r3.slice with⟨_,e0,_⟩|⟨p3,o3,c3',u3,m3,G3,oh,_,_,Mt,_,_,vs3,kf,jb⟩
 ·omega
 injection oh with e1 _ e3
 subst e1;subst e3;have EP:Hid (∀ j y,(txV r.dflt)[j]? =some y→W5.cell? ((⟨p3,o3,none⟩:Addr).add j)=some y):=by
  intro j y hy;have hev:=l9 jb;rw[hev]at kf;have:=kf j y hy;rw[Addr.add_mid];exact this
 have yb:=D8.out.box.get 1 _ rfl;have yr:=D8.out.rul.get 3 _ rfl;have ybl:=D8.out.box.own.lt;have yrl:=D8.out.rul.own.lt;clear kZ GF r1 r3 mD jb kf Mt;go_upto_region 6 with(refine tU rfl _ _ rfl (B7+1) (.slice none 0 0) [] rfl D8.out.row p3 o3 r.dflt.length c3 r.dflt rfl rfl EP.out (by omega) (by simp;omega) (by omega) ?_;intro g cap W6 q1 q2;have q1':TxR W6 (B7+1) (.slice (some ⟨g,0,none⟩) r.dflt.length cap) r.dflt:=(by simpa using q1);have Io:=D8.out.app q2 q1';have zb:=Io.box.get 1 _ rfl;have zf:=Io.box.own.frozen 1;have zl:=Io.box.own.lt;have BB:=uh (Bh.out.grown q2 (fun b e=>by cases e)))
 obtain⟨W7,K1⟩:∃ W7,W7=W6.setCell ⟨B7,1,none⟩ (.slice (some ⟨g,0,none⟩) r.dflt.length cap):=⟨_,rfl⟩
 have E3:Hid (LJ W0 W7 R B0 B6 B7 r (.slice a1 r.args.length c1) (.slice (some ⟨p3,o3,none⟩) r.dflt.length c3) (.slice (some ⟨g,0,none⟩) r.dflt.length cap) (.slice (some ⟨g,0,none⟩) r.dflt.length cap) r.dflt):=by rw[K1];exact Io.sto
 have xR:Hid (Rd W7 R v len (p+1+1)):=by rw[K1];exact BB.out.mks (Marks.sc (S:=fun b=>b=B7) W6 rfl 1 _) (fun b e=>by have:=Io.ord;omega)
 have Ev:=uh xP.out.2.2.2;rw[← K1];clear K1 Io q1 q1' q2 zb zf zl BB yb yr ybl yrl D8 Bh EP;obtain⟨ws,Jp⟩:∃ ws,ws=r.dflt:=⟨_,rfl⟩
 obtain⟨wa,aS⟩:∃ wa:Option Addr,wa=some ⟨g,0,none⟩:=⟨_,rfl⟩
 obtain⟨wc,Dm⟩:∃ wc,wc=cap:=⟨_,rfl⟩
 obtain⟨q,hq⟩:∃ q,q=p+1+1:=⟨_,rfl⟩
 rw[← Jp,← aS,← Dm]at E3;rw[← hq]at xR;rw[← Jp]at Ev qK;have DZ:q≤p+10:=by omega
 clear Jp aS Dm hq;have jH:=E3.out.box.at_;have lf:=E3.out.box.own.lt;have uQ:=E3.out.res.own.lt;have bG:W7.there B0 0 (#[.string r.key,.slice wa ws.length wc]:Array Value).size:=aR E3.out.res.own _ _ (by simp);obtain⟨we,bj⟩:∃ we,we=W7.setCells B0 0 [.string r.key,.slice wa ws.length wc]:=⟨_,rfl⟩
 have dv:we.rangeAt B0 0 [.string r.key,.slice wa ws.length wc]:=by rw[bj];exact World.rangeAt_setCells_same _ _ _ _ bG
 have jV:Marks (fun b=>b=B0) W7 we:=by rw[bj];exact aN (S:=fun b=>b=B0) rfl _ _ _
 have Ep:=E3.out.ord;have cH:Hid (Fr R W0 we∧Rd we R v len q∧TxR we W0.heap.size (.slice wa ws.length wc) ws):=⟨E3.out.fr.mks jV (fun b e=>by omega) Ep.1,xR.out.mks jV (fun b e=>by omega),TxR.lower (lo:=B7+1) (dH E3.out.row jV (fun b hb e=>by omega)) (by omega)⟩
 clear jV Ep;go_wp2_with (first|(refine wpList_load_mid rfl 53 _ rfl B7 0 rfl [.string r.key,.slice wa ws.length wc] _ jH Try.underlying53 rfl (by kernel_rfl) ?_)|(refine wpList_store_mid rfl 53 _ _ rfl B0 0 #[.string r.key,.slice wa ws.length wc] rfl rfl bG (by kernel_rfl) (by simp[Value.oneCell']) ?_))
 first|rw[← bj]|(simp only[List.toList_toArray];rw[← bj])
 try simp only[Act.put]
 refine bodyPost_ret (v:=.agg #[.string r.key,.slice wa ws.length wc]) (by simp[results,Try.results83,asAddr,run_loadVar_mid (P:=Try.prog) _ _ _ 53 [.string r.key,.slice wa ws.length wc] _ dv Try.underlying53 rfl (by kernel_rfl)]) rfl ?_;exact⟨⟨r.key,_,ws,rfl,cH.out.2.2,by omega,Ev.out,Hp.out⟩,cH.out.1,q,by omega,cH.out.2.1⟩
end Go.Proofs.Ytmgibmmpopoboaa
