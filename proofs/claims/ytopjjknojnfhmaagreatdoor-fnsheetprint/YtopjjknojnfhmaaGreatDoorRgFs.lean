import Derived.Test.YtopjjknojnfhmaaGreatDoorRgF
namespace Go.Proofs.YtopjjknojnfhmaaGreatDoor
open Go.RowKit Go.Deep
namespace RY
theorem np {P:Program} {id:Nat} {Q:Exit→Act→World→Prop} {a0:Act} {w:World} {l:List Oper} (v:World) (hv:Bel v w) (V:Nat→Value→World→Prop) (hVm:∀ j u W W',Bel W W'→V j u W→V j u W') (K K2:Value→World→Prop) (pv:Value) (n fuel kL kP:Nat)
  (hm:P.follows .mixedOrders=true) (hasc:asc .any l.toArray=true) (hap:di l=true) (dr:dK l a0.tmps.size=true)
  (hclo:((List.range n).all fun i=>(clo l fuel [n]).contains i)=true) (hlen:l.length=n+3) (ks:((l.take (n+2)).all fun o=>o.dst.isSome)=true)
  (oL oP oS:Oper) (hL:l[n]? =some oL) (hLd:oL.dst=some kL) (hP:l[n+1]? =some oP) (hPd:oP.dst=some kP) (hS:l[n+2]? =some oS) (hSd:oS.dst=none) (hSL:waits l (n+2) n=true) (hSP:waits l (n+2) (n+1)=true)
  (iH:∀ (i:Nat) (o:Oper),l[i]? =some o→i<n→∀ (a:Act) (W:World),Bel v W→(∀ k,cP l k=true→a.eval (.tmp k)=a0.eval (.tmp k))→
   (∀ (j:Nat) (o':Oper) (k:Nat),l[j]? =some o'→o'.dst=some k→(∃ e∈o.after,e.on=j∧Region.binds .any e=true)→j<n→V j (a.eval (.tmp k)) W)→
   (∃ u W',(execOp a.eval o).run P W=.ok (.value u) W'∧Bel W W'∧V i u W')∨(∃ f args,(execOp a.eval o).run P W=.ok (.enter f args) W∧Calls P f args W fun e W'=>∃ u,e=.returned u∧Bel W W'∧V i u W'))
  (kS:∀ (a:Act) (W:World),Bel v W→(∀ k,cP l k=true→a.eval (.tmp k)=a0.eval (.tmp k))→
   (∀ (j:Nat) (o':Oper) (k:Nat),l[j]? =some o'→o'.dst=some k→(∃ e∈oL.after,e.on=j∧Region.binds .any e=true)→j<n→V j (a.eval (.tmp k)) W)→
   ∃ u W',(execOp a.eval oL).run P W=.ok (.value u) W'∧K u W')
  (Jw:∀ (a:Act) (W:World),(∀ k,cP l k=true→a.eval (.tmp k)=a0.eval (.tmp k))→(execOp a.eval oP).run P W=.ok (.value pv) W)
  (qz:∀ (a:Act) (W:World),K (a.eval (.tmp kL)) W→a.eval (.tmp kP)=pv→∃ W',(execOp a.eval oS).run P W=.ok .skip W'∧K2 (a.eval (.tmp kL)) W')
  (dt:∀ (vs:Nat→Value) (W:World),K2 (vs kL) W→vs kP=pv→Q .normal (aC l a0 vs) W):
  (Code.region id l.toArray true).wp P Q a0 w:=by
 have eQ:∀ {i:Nat} {o:Oper},l[i]? =some o→i<n+2→o.dst.isSome=true:=fun h hi=>by
  rw[List.all_eq_true]at ks;exact ks _ (List.mem_of_getElem? ((List.getElem?_take_of_lt hi).trans h))
 refine j4 (fun _ _=>True) (fun up vals W=>(up n=false→up (n+2)=false∧Bel v W∧∀ j,j<n→up j=true→V j (vals j) W)∧(up n=true→up (n+2)=false→K (vals n) W)∧(up (n+1)=true→vals (n+1)=pv)∧(up (n+2)=true→K2 (vals n) W)) hm hasc hap dr ?_ ?_ ?_
 ·intro vals;exact⟨fun _=>⟨rfl,Below.drew hv,fun _ _ h=>(by cases h)⟩,fun h=>(by cases h),fun h=>(by cases h),fun h=>(by cases h)⟩
 ·intro up vals i o ho hi eN a W hk hd hT;have oE:∀ k,cP l k=true→a.eval (.tmp k)=a0.eval (.tmp k):=fun k h=>hk k fun j o' hj hj'=>absurd hj' (i6 h hj);have bs:up n=true→∀ j,j<n→up j=true:=fun hn j hj=>by
   rw[List.all_eq_true]at hclo;have:=hclo j (List.mem_range.2 hj);rw[List.contains_iff_mem]at this;exact gm eN fuel [n] (by simpa using hn) j this
  have nt:i<n+3:=by rw[← hlen];exact(List.getElem?_eq_some_iff.1 ho).1
  have Pw:up (n+2)=true→up n=true∧up (n+1)=true:=fun h=>by
   obtain⟨e,he,h4,h5⟩:=aU hSL hS;obtain⟨e',Sq,Q7,R8⟩:=aU hSP hS;exact⟨by have:=eN (n+2) oS e hS he h5 h;rwa [h4]at this,by have:=eN (n+2) oS e' hS Sq R8 h;rwa [Q7]at this⟩
  by_cases h1:i<n
  ·have hn:up n=false:=by
    cases e:up n
    ·rfl
    ·rw[bs e i h1]at hi;cases hi
   obtain⟨tZ,hB,hV⟩:=hT.1 hn;have Lg:=iH i o ho h1 a W hB oE
    (fun j o' k hj jg gK lJ=>by
     obtain⟨q1,q2,_⟩:=hd j o' k hj jg gK;rw[q2];exact hV j lJ q1)
   have e0:n≠i:=by omega
   have e1:n+1≠i:=by omega
   have e2:n+2≠i:=by omega
   have O9:∀ u W',Bel W W'→V i u W'→(((fun j=>(j==i)||up j) n=false→(fun j=>(j==i)||up j) (n+2)=false∧Bel v W'∧∀ j,j<n→(fun j=>(j==i)||up j) j=true→V j ((fun j=>if j=i then u else vals j) j) W')∧((fun j=>(j==i)||up j) n=true→(fun j=>(j==i)||up j) (n+2)=false→K ((fun j=>if j=i then u else vals j) n) W')∧((fun j=>(j==i)||up j) (n+1)=true→(fun j=>if j=i then u else vals j) (n+1)=pv)∧((fun j=>(j==i)||up j) (n+2)=true→K2 ((fun j=>if j=i then u else vals j) n) W')):=by
    intro u W' hb hu;refine⟨fun _=>⟨?_,ah hB hb,fun j hj qp=> ?_⟩,fun h=> ?_,fun h=> ?_,fun h=> ?_⟩
    ·simpa [e2]using tZ
    ·by_cases e:j=i
     ·subst e;dsimp only;rw[if_pos rfl];exact hu
     ·dsimp only;rw[if_neg e]
      have:up j=true:=by simpa [e]using qp
      exact hVm _ _ _ _ hb (hV j hj this)
    ·have:up n=true:=by simpa [e0]using h
     rw[hn]at this;cases this
    ·dsimp only;rw[if_neg e1];exact hT.2.2.1 (by simpa [e1]using h)
    ·have:up (n+2)=true:=by simpa [e2]using h
     rw[tZ]at this;cases this
   rcases Lg with⟨u,W',hr,hb,hu⟩|⟨f,args,hr,hc⟩
   ·exact Or.inl ⟨u,W',hr,eQ ho (by omega),trivial,O9 u W' hb hu⟩
   ·exact Or.inr (Or.inr ⟨f,args,hr,eQ ho (by omega),hc.mono fun e W' ⟨u,he,hb,hu⟩=>⟨u,he,trivial,O9 u W' hb hu⟩⟩)
  ·by_cases h2:i=n
   ·subst h2;obtain⟨tZ,hB,hV⟩:=hT.1 hi;obtain rfl:o=oL:=Option.some.inj (ho.symm.trans hL);obtain⟨u,W',hr,hK⟩:=kS a W hB oE
     (fun j o' k hj jg gK lJ=>by
      obtain⟨q1,q2,_⟩:=hd j o' k hj jg gK;rw[q2];exact hV j lJ q1)
    have e1:i+1≠i:=by omega
    have e2:i+2≠i:=by omega
    refine Or.inl ⟨u,W',hr,eQ ho (by omega),trivial,⟨fun h=>by simp at h,fun _ _=>by dsimp only;rw[if_pos rfl];exact hK,fun h=> ?_,fun h=> ?_⟩⟩
    ·dsimp only;rw[if_neg e1];exact hT.2.2.1 (by simpa [e1]using h)
    ·have:up (i+2)=true:=by simpa [e2]using h
     rw[tZ]at this;cases this
   ·by_cases h3:i=n+1
    ·subst h3;obtain rfl:o=oP:=Option.some.inj (ho.symm.trans hP);have tZ:up (n+2)=false:=by
      cases e:up (n+2)
      ·rfl
      ·rw[(Pw e).2]at hi;cases hi
     have e0:n≠n+1:=by omega
     have e2:n+2≠n+1:=by omega
     refine Or.inl ⟨pv,W,Jw a W oE,eQ ho (by omega),trivial,⟨fun h=> ?_,fun h _=> ?_,fun _=> ?_,fun h=> ?_⟩⟩
     ·obtain⟨q1,q2,q3⟩:=hT.1 (by simpa [e0]using h);refine⟨by simpa [e2]using q1,q2,fun j hj qp=> ?_⟩;have e:j≠n+1:=by omega
      dsimp only;rw[if_neg e];exact q3 j hj (by simpa [e]using qp)
     ·dsimp only;rw[if_neg e0];exact hT.2.1 (by simpa [e0]using h) tZ
     ·dsimp only;rw[if_pos rfl]
     ·have:up (n+2)=true:=by simpa [e2]using h
      rw[tZ]at this;cases this
    ·have h4:i=n+2:=by omega
     subst h4;obtain rfl:o=oS:=Option.some.inj (ho.symm.trans hS);obtain⟨u1,q1,_⟩:=hd n oL kL hL hLd (by obtain⟨e,he,h4,h5⟩:=aU hSL hS;exact⟨e,he,h4,h5⟩);obtain⟨u2,q2,_⟩:=hd (n+1) oP kP hP hPd (by obtain⟨e,he,h4,h5⟩:=aU hSP hS;exact⟨e,he,h4,h5⟩);obtain⟨W',hr,Hi⟩:=qz a W (by rw[q1];exact hT.2.1 u1 hi) (by rw[q2];exact hT.2.2.1 u2);refine Or.inr (Or.inl ⟨W',hr,hSd,⟨fun h=> ?_,fun _ h=> ?_,fun _=>hT.2.2.1 u2,fun _=>by rw[← q1];exact Hi⟩⟩)
     ·dsimp only at h;rw[u1]at h;simp at h
     ·simp at h
 ·intro up vals vs W qp bg hT;have h1:=bg n oL kL hL hLd;have h2:=bg (n+1) oP kP hP hPd;refine dt vs W ?_ ?_
  ·rw[h1.1];exact hT.2.2.2 (qp (n+2) (by omega))
  ·rw[h2.1];exact hT.2.2.1 (qp (n+1) (by omega))
end RY
end Go.Proofs.YtopjjknojnfhmaaGreatDoor
