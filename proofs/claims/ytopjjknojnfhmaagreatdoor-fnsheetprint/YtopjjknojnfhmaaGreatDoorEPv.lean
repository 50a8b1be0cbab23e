import Derived.Test.YtopjjknojnfhmaaGreatDoorEPj
import Derived.Test.YtopjjknojnfhmaaGreatDoorEPt
namespace Go.Proofs.YtopjjknojnfhmaaGreatDoor
open Go.RowKit Go.Deep
structure Tot {α:Type} (lt:α→α→Bool) (cmp:α→α→Int):Prop where
 neg:∀ a b,cmp a b<0↔lt a b=true
 tr:∀ a b c,lt a b=true→lt b c=true→lt a c=true
 tri:∀ a b,lt a b=false→cmp a b≠0→lt b a=true
 eqr:∀ a b c,cmp b c=0→lt a b=true→lt a c=true
def cv {α:Type} (lt:α→α→Bool) (l:List α) (t:α):Nat:=(l.takeWhile (fun y=>lt y t)).length
theorem rS {α:Type} (lt:α→α→Bool) (l:List α) (t:α):cv lt l t≤l.length:=by
 unfold cv;have:=(List.takeWhile_prefix (l:=l) (fun y=>lt y t)).length_le;exact this
theorem y4 {α:Type} (d:α) (p:α→Bool):∀ (l:List α) (i:Nat),i<(l.takeWhile p).length→p (l.getD i d)=true
 |[],i,h=>by simp at h
 |y::l,i,h=>by
  rw[List.takeWhile_cons]at h;split at h
  ·rename_i hy
   cases i with
   |zero=>exact hy
   |succ i=>
    rw[List.length_cons]at h;have:=y4 d p l i (by omega);simpa using this
  ·simp at h
theorem p4 {α:Type} (d:α) (p:α→Bool):∀ (l:List α),(l.takeWhile p).length<l.length→p (l.getD (l.takeWhile p).length d)=false
 |[],h=>by simp at h
 |y::l,h=>by
  rw[List.takeWhile_cons]at h ⊢;split
  ·rename_i hy
   rw[if_pos hy]at h;have:=p4 d p l (by simpa using h);simpa using this
  ·rename_i hy
   simpa using hy
theorem IS {α:Type} {R:α→α→Prop} {l:List α} (d:α) (h:l.Pairwise R) {i j:Nat} (LU:i<j) (hj:j<l.length):R (l.getD i d) (l.getD j d):=by
 have hi:i<l.length:=by omega
 have e1:l.getD i d=l[i]:=by simp[hi]
 have e2:l.getD j d=l[j]:=by simp[hj]
 rw[e1,e2];exact List.pairwise_iff_getElem.1 h i j hi hj LU
theorem nU {α:Type} {lt:α→α→Bool} {cmp:α→α→Int} (T:Tot lt cmp) (d:α) (l:List α) (t:α):∀ i,i<cv lt l t→cmp (l.getD i d) t<0:=fun i hi=>(T.neg _ _).2 (y4 d (fun y=>lt y t) l i hi)
theorem sH {α:Type} {lt:α→α→Bool} {cmp:α→α→Int} (T:Tot lt cmp) (d:α) {l:List α} (h:l.Pairwise fun a b=>lt a b=true) (t:α):∀ i,cv lt l t≤i→i<l.length→0≤cmp (l.getD i d) t:=fun i hi hl=>by
 have hf:=p4 d (fun y=>lt y t) l (Nat.lt_of_le_of_lt hi hl);by_cases e:cmp (l.getD i d) t<0
 ·have h1:=(T.neg _ _).1 e;exfalso;by_cases q:cv lt l t=i
  ·subst q;unfold cv at h1;rw[hf]at h1;cases h1
  ·have h2:=IS d h (i:=cv lt l t) (j:=i) (by omega) hl;have h3:=T.tr _ _ _ h2 h1;unfold cv at h3;rw[hf]at h3;cases h3
 ·omega
theorem uy {α:Type} {lt:α→α→Bool} {cmp:α→α→Int} (T:Tot lt cmp) (d:α) {l:List α} (h:l.Pairwise fun a b=>lt a b=true) (t:α):(∃ y∈l,cmp y t=0)↔(cv lt l t<l.length∧cmp (l.getD (cv lt l t) d) t=0):=by
 constructor
 ·rintro⟨y,hy,e⟩;obtain⟨i,hi,rfl⟩:=List.getElem_of_mem hy;have eg:l.getD i d=l[i]:=by simp[hi]
  have h1:cv lt l t≤i:=by
   refine Nat.le_of_not_lt fun q=> ?_;have:=nU T d l t i q;rw[eg,e]at this;omega
  have h2:i=cv lt l t:=by
   refine Nat.le_antisymm (Nat.le_of_not_lt fun q=> ?_) h1;have h3:=IS d h q hi;rw[eg]at h3;have h4:=T.eqr _ _ _ e h3;have hf:=p4 d (fun y=>lt y t) l (by show cv lt l t<_;omega);unfold cv at h4;rw[hf]at h4;cases h4
  rw[← h2];exact⟨hi,by rw[eg];exact e⟩
 ·rintro⟨h1,h2⟩;have eg:l.getD (cv lt l t) d=l[cv lt l t]:=by simp[h1]
  exact⟨_,List.getElem_mem h1,by rw[← eg];exact h2⟩
theorem l9 {α:Type} (lt:α→α→Bool) (l:List α) (t:α):Pl.putAt (fun y=>lt y t) l t=l.take (cv lt l t)++t::l.drop (cv lt l t):=by
 have e:=List.takeWhile_append_dropWhile (p:=fun y=>lt y t) (l:=l);have h1:l.take (cv lt l t)=l.takeWhile (fun y=>lt y t):=by
  have q:=List.take_left (l₁:=l.takeWhile (fun y=>lt y t)) (l₂:=l.dropWhile (fun y=>lt y t));rw[e]at q;exact q
 have h2:l.drop (cv lt l t)=l.dropWhile (fun y=>lt y t):=by
  have q:=List.drop_left (l₁:=l.takeWhile (fun y=>lt y t)) (l₂:=l.dropWhile (fun y=>lt y t));rw[e]at q;exact q
 rw[h1,h2];rfl
theorem pl_pair {α:Type} {lt:α→α→Bool} {cmp:α→α→Int} (T:Tot lt cmp) (d:α) {l:List α} (h:l.Pairwise fun a b=>lt a b=true) (t:α) (hn:¬ (cv lt l t<l.length∧cmp (l.getD (cv lt l t) d) t=0)):(l.take (cv lt l t)++t::l.drop (cv lt l t)).Pairwise fun a b=>lt a b=true:=by
 have hnf:∀ y∈l,cmp y t≠0:=fun y hy e=>hn ((uy T d h t).1 ⟨y,hy,e⟩);rw[List.pairwise_append];refine⟨h.sublist (List.take_sublist _ _), ?_,fun a ha b hb=> ?_⟩
 ·rw[List.pairwise_cons];refine⟨fun b hb=> ?_,h.sublist (List.drop_sublist _ _)⟩;obtain⟨i,hi,rfl⟩:=List.getElem_of_mem hb;rw[List.length_drop]at hi;have hl:cv lt l t+i<l.length:=by omega
  rw[List.getElem_drop];have h1:=sH T d h t (cv lt l t+i) (Nat.le_add_right _ _) hl;have eg:l.getD (cv lt l t+i) d=l[cv lt l t+i]:=by simp[hl]
  rw[eg]at h1;refine T.tri _ _ ?_ (hnf _ (List.getElem_mem hl));cases hq:lt l[cv lt l t+i] t
  ·rfl
  ·have:=(T.neg _ _).2 hq;omega
 ·obtain⟨i,hi,rfl⟩:=List.getElem_of_mem ha;rw[List.length_take]at hi;have hl:i<l.length:=by omega
  rw[List.getElem_take];have h1:=(T.neg _ _).1 (nU T d l t i (by omega));have eg:l.getD i d=l[i]:=by simp[hl]
  rw[eg]at h1;rcases List.mem_cons.1 hb with rfl|q
  ·exact h1
  ·obtain⟨j,hj,rfl⟩:=List.getElem_of_mem q;rw[List.length_drop]at hj;rw[List.getElem_drop];exact List.pairwise_iff_getElem.1 h i (cv lt l t+j) hl (by omega) (by omega)
theorem uP:∀ a b c:List UInt8,Op.bytesLess a b=true→Op.bytesLess b c=true→Op.bytesLess a c=true
 |_,_,[],_,h=>by unfold Op.bytesLess at h;cases h
 |_,[],_::_,h,_=>by unfold Op.bytesLess at h;cases h
 |[],_::_,_::_,_,_=>by unfold Op.bytesLess;rfl
 |x::a,y::b,z::c,h1,h2=>by
  unfold Op.bytesLess at h1 h2 ⊢;simp only[Bool.or_eq_true,Bool.and_eq_true,decide_eq_true_iff,beq_iff_eq]at h1 h2 ⊢;rcases h1 with h1|⟨e1,h1⟩
  ·rcases h2 with h2|⟨e2,_⟩
   ·exact Or.inl (UInt8.lt_trans h1 h2)
   ·exact Or.inl (e2 ▸ h1)
  ·rcases h2 with h2|⟨e2,h2⟩
   ·exact Or.inl (e1 ▸ h2)
   ·exact Or.inr ⟨e1.trans e2,uP a b c h1 h2⟩
theorem D6:∀ a b:List UInt8,Op.bytesLess a b=false→(a==b)=false→Op.bytesLess b a=true
 |[],[],_,h=>by simp at h
 |[],_::_,h,_=>by unfold Op.bytesLess at h;cases h
 |_::_,[],_,_=>by unfold Op.bytesLess;rfl
 |x::a,y::b,h1,h2=>by
  unfold Op.bytesLess at h1 ⊢;simp only[Bool.or_eq_false_iff,Bool.and_eq_false_iff,decide_eq_false_iff_not,Bool.or_eq_true,Bool.and_eq_true,decide_eq_true_iff,beq_iff_eq]at h1 ⊢;by_cases e:x=y
  ·subst e;refine Or.inr ⟨rfl,D6 a b ?_ ?_⟩
   ·rcases h1.2 with q|q
    ·simp at q
    ·exact q
   ·rw[beq_eq_false_iff_ne]at h2 ⊢;exact fun q=>h2 (by rw[q])
  ·refine Or.inl ?_;have h3:=h1.1;rw[UInt8.lt_iff_toNat_lt]at h3 ⊢;have:x.toNat≠y.toNat:=fun q=>e (UInt8.toNat_inj.1 q);omega
theorem iT:Tot Pl.nH bL where
 neg:=iR
 tr:=fun a b c=>uP _ _ _
 tri:=fun a b h hc=>D6 _ _ h (by
  cases q:(a.toList==b.toList)
  ·rfl
  ·exact absurd ((bp a b).2 q) hc)
 eqr:=fun a b c h hl=>by rw[← jA ((bp b c).1 h)];exact hl
theorem Tot.lex {α β γ:Type} {lt1:β→β→Bool} {c1:β→β→Int} {lt2:γ→γ→Bool} {c2:γ→γ→Int} (f:α→β) (g:α→γ) (T1:Tot lt1 c1) (T2:Tot lt2 c2) (i1:∀ a b c,c1 a b=0→lt1 b c=true→lt1 a c=true) (s1:∀ a b,c1 a b=0→c1 b a=0) (t1:∀ a b c,c1 a b=0→c1 b c=0→c1 a c=0)
  (lt:α→α→Bool) (cmp:α→α→Int) (hc:∀ a b,cmp a b=fC (c1 (f a) (f b)) (c2 (g a) (g b))) (hn:∀ a b,cmp a b<0↔lt a b=true):Tot lt cmp:=by
 have key:∀ a b,lt a b=true↔(lt1 (f a) (f b)=true∨(c1 (f a) (f b)=0∧lt2 (g a) (g b)=true)):=fun a b=>by
  rw[← hn,hc];unfold fC;by_cases h:c1 (f a) (f b)=0
  ·rw[if_pos h];have h0:¬ lt1 (f a) (f b)=true:=fun q=>by have:=(T1.neg _ _).2 q;omega
   constructor
   ·exact fun q=>Or.inr ⟨h,(T2.neg _ _).1 q⟩
   ·rintro(q|⟨_,q⟩)
    ·exact absurd q h0
    ·exact(T2.neg _ _).2 q
  ·rw[if_neg h];constructor
   ·exact fun q=>Or.inl ((T1.neg _ _).1 q)
   ·rintro(q|⟨q,_⟩)
    ·exact(T1.neg _ _).2 q
    ·exact absurd q h
 have zero:∀ a b,cmp a b=0↔(c1 (f a) (f b)=0∧c2 (g a) (g b)=0):=fun a b=>by
  rw[hc];unfold fC;by_cases h:c1 (f a) (f b)=0
  ·rw[if_pos h];simp[h]
  ·rw[if_neg h];simp[h]
 refine⟨hn,fun a b c h1 h2=> ?_,fun a b h1 h2=> ?_,fun a b c h1 h2=> ?_⟩
 ·rw[key]at h1 h2 ⊢;rcases h1 with h1|⟨e1,h1⟩
  ·rcases h2 with h2|⟨e2,_⟩
   ·exact Or.inl (T1.tr _ _ _ h1 h2)
   ·exact Or.inl (T1.eqr _ _ _ e2 h1)
  ·rcases h2 with h2|⟨e2,h2⟩
   ·exact Or.inl (i1 _ _ _ e1 h2)
   ·exact Or.inr ⟨t1 _ _ _ e1 e2,T2.tr _ _ _ h1 h2⟩
 ·rw[key];have Lp:¬ (lt1 (f a) (f b)=true∨(c1 (f a) (f b)=0∧lt2 (g a) (g b)=true)):=fun q=>by rw[(key a b).2 q]at h1;cases h1
  by_cases e:c1 (f a) (f b)=0
  ·refine Or.inr ⟨s1 _ _ e,T2.tri _ _ ?_ (fun q=>h2 ((zero a b).2 ⟨e,q⟩))⟩;cases q:lt2 (g a) (g b)
   ·rfl
   ·exact absurd (Or.inr ⟨e,q⟩) Lp
  ·refine Or.inl (T1.tri _ _ ?_ e);cases q:lt1 (f a) (f b)
   ·rfl
   ·exact absurd (Or.inl q) Lp
 ·obtain⟨e1,e2⟩:=(zero b c).1 h1;rw[key]at h2 ⊢;rcases h2 with h2|⟨q1,q2⟩
  ·exact Or.inl (T1.eqr _ _ _ e1 h2)
  ·exact Or.inr ⟨t1 _ _ _ q1 e1,T2.eqr _ _ _ e2 q2⟩
theorem ze {a b:ByteArray} (h:bL a b=0):bL b a=0:=by
 have:=jA ((bp a b).1 h);subst this;exact h
theorem Kt {a b c:ByteArray} (h:bL a b=0) (k:bL b c=0):bL a c=0:=by
 have:=jA ((bp a b).1 h);subst this;exact k
theorem rT:Tot Pl.ahead dm:=
 Tot.lex Pl.Bl.kind Pl.Bl.name iT iT (fun a b c h k=>by rw[jA ((bp a b).1 h)];exact k) (fun _ _=>ze) (fun _ _ _=>Kt) _ _ (fun _ _=>rfl) (fun a b=>by rw[← rU,decide_eq_true_iff])
theorem fu:∀ A B:List ByteArray,cG A B=0↔A=B
 |[],[]=>by unfold cG;simp
 |[],_::_=>by unfold cG;simp
 |_::_,[]=>by unfold cG;simp
 |a::x,b::y=>by
  unfold cG;by_cases h:bL a b=0
  ·have e:=jA ((bp a b).1 h);subst e;rw[if_pos h,fu x y];simp
  ·rw[if_neg h];constructor
   ·exact fun q=>absurd q h
   ·intro q;injection q with q1 _
    subst q1;exact absurd ((bp a a).2 (by unfold Pl.dD;simp)) h
theorem vw:∀ A B C:List ByteArray,cG A B<0→cG B C<0→cG A C<0
 |_,[],[],_,h=>by unfold cG at h;omega
 |[],_,_::_,_,_=>by unfold cG;omega
 |_::_,[],_,h,_=>by unfold cG at h;omega
 |[],_::_,[],_,h=>by unfold cG at h;omega
 |_::_,_::_,[],_,h=>by unfold cG at h;omega
 |a::x,b::y,c::z,h1,h2=>by
  unfold cG at h1 h2 ⊢;by_cases e1:bL a b=0
  ·have q1:=jA ((bp a b).1 e1);subst q1;rw[if_pos e1]at h1;by_cases e2:bL a c=0
   ·rw[if_pos e2]at h2 ⊢;exact vw x y z h1 h2
   ·rw[if_neg e2]at h2 ⊢;exact h2
  ·rw[if_neg e1]at h1;by_cases e2:bL b c=0
   ·have q2:=jA ((bp b c).1 e2);subst q2;rw[if_neg e1];exact h1
   ·rw[if_neg e2]at h2;have h3:=iT.tr a b c ((iT.neg _ _).1 h1) ((iT.neg _ _).1 h2);have h4:=(iT.neg _ _).2 h3;rw[if_neg (by omega)];exact h4
theorem l5:∀ A B:List ByteArray,¬ cG A B<0→cG A B≠0→cG B A<0
 |[],[],_,h=>by unfold cG at h;omega
 |[],_::_,h,_=>by unfold cG at h;omega
 |_::_,[],_,_=>by unfold cG;omega
 |a::x,b::y,h1,h2=>by
  unfold cG at h1 h2 ⊢;by_cases e1:bL a b=0
  ·rw[if_pos e1]at h1 h2;rw[if_pos (ze e1)];exact l5 x y h1 h2
  ·rw[if_neg e1]at h1 h2;have h3:Pl.nH a b=false:=by
    cases q:Pl.nH a b
    ·rfl
    ·exact absurd ((iT.neg _ _).2 q) h1
   have h4:=(iT.neg _ _).2 (iT.tri a b h3 e1);rw[if_neg (by omega)];exact h4
theorem KI:Tot Pl.cM cG where
 neg:=dY
 tr:=fun a b c h k=>(dY _ _).1 (vw a b c ((dY _ _).2 h) ((dY _ _).2 k))
 tri:=fun a b h k=>(dY _ _).1 (l5 a b (fun q=>by rw[(dY _ _).1 q]at h;cases h) k)
 eqr:=fun a b c h k=>by rw[← (fu b c).1 h];exact k
theorem JQ:Tot (fun a b:Int=>decide (a<b)) dz where
 neg:=fun a b=>by rw[pN,decide_eq_true_iff]
 tr:=fun a b c h k=>by rw[decide_eq_true_iff]at h k ⊢;omega
 tri:=fun a b h k=>by
  rw[decide_eq_false_iff_not]at h;rw[decide_eq_true_iff];have:a≠b:=fun e=>k ((cJ a b).2 e);omega
 eqr:=fun a b c h k=>by rw[← (cJ b c).1 h];exact k
theorem rZ (kind:ByteArray):Tot (Pl.aL kind) (dp (Pl.ai kind)):=
 Tot.lex (fun x:Pl.Ln=>Pl.ixI (Pl.bC (Pl.ai kind) x.key)) Pl.Ln.ws JQ KI (fun a b c h k=>by rw[(cJ a b).1 h];exact k) (fun a b h=>by rw[(cJ a b).1 h];exact(cJ b b).2 rfl) (fun a b c h k=>by rw[(cJ a b).1 h];exact k) _ _ (fun _ _=>rfl) (fun a b=>by rw[← rq,decide_eq_true_iff])
end Go.Proofs.YtopjjknojnfhmaaGreatDoor
