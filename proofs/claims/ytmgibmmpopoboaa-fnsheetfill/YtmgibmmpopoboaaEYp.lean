import Derived.Test.YtmgibmmpopoboaaEPj
import Derived.Test.YtmgibmmpopoboaaEPt
import Derived.Test.YtmgibmmpopoboaaEPg
namespace Go.Proofs.Ytmgibmmpopoboaa
open Go.RowKit Go.Deep
structure Tot {α:Type} (lt:α→α→Bool) (cmp:α→α→Int):Prop where
 neg:∀ a b,cmp a b<0↔lt a b=true
 tr:∀ a b c,lt a b=true→lt b c=true→lt a c=true
 tri:∀ a b,lt a b=false→cmp a b≠0→lt b a=true
 eqr:∀ a b c,cmp b c=0→lt a b=true→lt a c=true
def dt {α:Type} (lt:α→α→Bool) (l:List α) (t:α):Nat:=(l.takeWhile (fun y=>lt y t)).length
theorem IN {α:Type} (lt:α→α→Bool) (l:List α) (t:α):dt lt l t≤l.length:=by
 unfold dt;have:=(List.takeWhile_prefix (l:=l) (fun y=>lt y t)).length_le;exact this
theorem vu {α:Type} (d:α) (p:α→Bool):∀ (l:List α) (i:Nat),i<(l.takeWhile p).length→p (l.getD i d)=true
 |[],i,h=>by simp at h
 |y::l,i,h=>by
  rw[List.takeWhile_cons]at h;split at h
  ·rename_i hy
   cases i with
   |zero=>exact hy
   |succ i=>
    rw[List.length_cons]at h;have:=vu d p l i (by omega);simpa using this
  ·simp at h
theorem nZ {α:Type} (d:α) (p:α→Bool):∀ (l:List α),(l.takeWhile p).length<l.length→p (l.getD (l.takeWhile p).length d)=false
 |[],h=>by simp at h
 |y::l,h=>by
  rw[List.takeWhile_cons]at h ⊢;split
  ·rename_i hy
   rw[if_pos hy]at h;have:=nZ d p l (by simpa using h);simpa using this
  ·rename_i hy
   simpa using hy
theorem Ei {α:Type} {R:α→α→Prop} {l:List α} (d:α) (h:l.Pairwise R) {i j:Nat} (LL:i<j) (hj:j<l.length):R (l.getD i d) (l.getD j d):=by
 have hi:i<l.length:=by omega
 have e1:l.getD i d=l[i]:=by simp[hi]
 have e2:l.getD j d=l[j]:=by simp[hj]
 rw[e1,e2];exact List.pairwise_iff_getElem.1 h i j hi hj LL
theorem mP {α:Type} {lt:α→α→Bool} {cmp:α→α→Int} (T:Tot lt cmp) (d:α) (l:List α) (t:α):∀ i,i<dt lt l t→cmp (l.getD i d) t<0:=fun i hi=>(T.neg _ _).2 (vu d (fun y=>lt y t) l i hi)
theorem uX {α:Type} {lt:α→α→Bool} {cmp:α→α→Int} (T:Tot lt cmp) (d:α) {l:List α} (h:l.Pairwise fun a b=>lt a b=true) (t:α):∀ i,dt lt l t≤i→i<l.length→0≤cmp (l.getD i d) t:=fun i hi hl=>by
 have hf:=nZ d (fun y=>lt y t) l (Nat.lt_of_le_of_lt hi hl);by_cases e:cmp (l.getD i d) t<0
 ·have h1:=(T.neg _ _).1 e;exfalso;by_cases q:dt lt l t=i
  ·subst q;unfold dt at h1;rw[hf]at h1;cases h1
  ·have h2:=Ei d h (i:=dt lt l t) (j:=i) (by omega) hl;have h3:=T.tr _ _ _ h2 h1;unfold dt at h3;rw[hf]at h3;cases h3
 ·omega
theorem rK {α:Type} {lt:α→α→Bool} {cmp:α→α→Int} (T:Tot lt cmp) (d:α) {l:List α} (h:l.Pairwise fun a b=>lt a b=true) (t:α):(∃ y∈l,cmp y t=0)↔(dt lt l t<l.length∧cmp (l.getD (dt lt l t) d) t=0):=by
 constructor
 ·rintro⟨y,hy,e⟩;obtain⟨i,hi,rfl⟩:=List.getElem_of_mem hy;have eg:l.getD i d=l[i]:=by simp[hi]
  have h1:dt lt l t≤i:=by
   refine Nat.le_of_not_lt fun q=> ?_;have:=mP T d l t i q;rw[eg,e]at this;omega
  have h2:i=dt lt l t:=by
   refine Nat.le_antisymm (Nat.le_of_not_lt fun q=> ?_) h1;have h3:=Ei d h q hi;rw[eg]at h3;have h4:=T.eqr _ _ _ e h3;have hf:=nZ d (fun y=>lt y t) l (by show dt lt l t<_;omega);unfold dt at h4;rw[hf]at h4;cases h4
  rw[← h2];exact⟨hi,by rw[eg];exact e⟩
 ·rintro⟨h1,h2⟩;have eg:l.getD (dt lt l t) d=l[dt lt l t]:=by simp[h1]
  exact⟨_,List.getElem_mem h1,by rw[← eg];exact h2⟩
theorem wP {α:Type} (lt:α→α→Bool) (l:List α) (t:α):Pl.putAt (fun y=>lt y t) l t=l.take (dt lt l t)++t::l.drop (dt lt l t):=by
 have e:=List.takeWhile_append_dropWhile (p:=fun y=>lt y t) (l:=l);have h1:l.take (dt lt l t)=l.takeWhile (fun y=>lt y t):=by
  have q:=List.take_left (l₁:=l.takeWhile (fun y=>lt y t)) (l₂:=l.dropWhile (fun y=>lt y t));rw[e]at q;exact q
 have h2:l.drop (dt lt l t)=l.dropWhile (fun y=>lt y t):=by
  have q:=List.drop_left (l₁:=l.takeWhile (fun y=>lt y t)) (l₂:=l.dropWhile (fun y=>lt y t));rw[e]at q;exact q
 rw[h1,h2];rfl
theorem pl_pair {α:Type} {lt:α→α→Bool} {cmp:α→α→Int} (T:Tot lt cmp) (d:α) {l:List α} (h:l.Pairwise fun a b=>lt a b=true) (t:α) (hn:¬ (dt lt l t<l.length∧cmp (l.getD (dt lt l t) d) t=0)):(l.take (dt lt l t)++t::l.drop (dt lt l t)).Pairwise fun a b=>lt a b=true:=by
 have hnf:∀ y∈l,cmp y t≠0:=fun y hy e=>hn ((rK T d h t).1 ⟨y,hy,e⟩);rw[List.pairwise_append];refine⟨h.sublist (List.take_sublist _ _), ?_,fun a ha b hb=> ?_⟩
 ·rw[List.pairwise_cons];refine⟨fun b hb=> ?_,h.sublist (List.drop_sublist _ _)⟩;obtain⟨i,hi,rfl⟩:=List.getElem_of_mem hb;rw[List.length_drop]at hi;have hl:dt lt l t+i<l.length:=by omega
  rw[List.getElem_drop];have h1:=uX T d h t (dt lt l t+i) (Nat.le_add_right _ _) hl;have eg:l.getD (dt lt l t+i) d=l[dt lt l t+i]:=by simp[hl]
  rw[eg]at h1;refine T.tri _ _ ?_ (hnf _ (List.getElem_mem hl));cases hq:lt l[dt lt l t+i] t
  ·rfl
  ·have:=(T.neg _ _).2 hq;omega
 ·obtain⟨i,hi,rfl⟩:=List.getElem_of_mem ha;rw[List.length_take]at hi;have hl:i<l.length:=by omega
  rw[List.getElem_take];have h1:=(T.neg _ _).1 (mP T d l t i (by omega));have eg:l.getD i d=l[i]:=by simp[hl]
  rw[eg]at h1;rcases List.mem_cons.1 hb with rfl|q
  ·exact h1
  ·obtain⟨j,hj,rfl⟩:=List.getElem_of_mem q;rw[List.length_drop]at hj;rw[List.getElem_drop];exact List.pairwise_iff_getElem.1 h i (dt lt l t+j) hl (by omega) (by omega)
theorem sq:∀ a b c:List UInt8,Op.bytesLess a b=true→Op.bytesLess b c=true→Op.bytesLess a c=true
 |_,_,[],_,h=>by unfold Op.bytesLess at h;cases h
 |_,[],_::_,h,_=>by unfold Op.bytesLess at h;cases h
 |[],_::_,_::_,_,_=>by unfold Op.bytesLess;rfl
 |x::a,y::b,z::c,h1,h2=>by
  unfold Op.bytesLess at h1 h2 ⊢;simp only[Bool.or_eq_true,Bool.and_eq_true,decide_eq_true_iff,beq_iff_eq]at h1 h2 ⊢;rcases h1 with h1|⟨e1,h1⟩
  ·rcases h2 with h2|⟨e2,_⟩
   ·exact Or.inl (UInt8.lt_trans h1 h2)
   ·exact Or.inl (e2 ▸ h1)
  ·rcases h2 with h2|⟨e2,h2⟩
   ·exact Or.inl (e1 ▸ h2)
   ·exact Or.inr ⟨e1.trans e2,sq a b c h1 h2⟩
theorem Av:∀ a b:List UInt8,Op.bytesLess a b=false→(a==b)=false→Op.bytesLess b a=true
 |[],[],_,h=>by simp at h
 |[],_::_,h,_=>by unfold Op.bytesLess at h;cases h
 |_::_,[],_,_=>by unfold Op.bytesLess;rfl
 |x::a,y::b,h1,h2=>by
  unfold Op.bytesLess at h1 ⊢;simp only[Bool.or_eq_false_iff,Bool.and_eq_false_iff,decide_eq_false_iff_not,Bool.or_eq_true,Bool.and_eq_true,decide_eq_true_iff,beq_iff_eq]at h1 ⊢;by_cases e:x=y
  ·subst e;refine Or.inr ⟨rfl,Av a b ?_ ?_⟩
   ·rcases h1.2 with q|q
    ·simp at q
    ·exact q
   ·rw[beq_eq_false_iff_ne]at h2 ⊢;exact fun q=>h2 (by rw[q])
  ·refine Or.inl ?_;have h3:=h1.1;rw[UInt8.lt_iff_toNat_lt]at h3 ⊢;have:x.toNat≠y.toNat:=fun q=>e (UInt8.toNat_inj.1 q);omega
theorem iw:Tot Pl.mA bT where
 neg:=iq
 tr:=fun a b c=>sq _ _ _
 tri:=fun a b h hc=>Av _ _ h (by
  cases q:(a.toList==b.toList)
  ·rfl
  ·exact absurd ((bE a b).2 q) hc)
 eqr:=fun a b c h hl=>by rw[← jN ((bE b c).1 h)];exact hl
theorem Tot.lex {α β γ:Type} {lt1:β→β→Bool} {c1:β→β→Int} {lt2:γ→γ→Bool} {c2:γ→γ→Int} (f:α→β) (g:α→γ) (T1:Tot lt1 c1) (T2:Tot lt2 c2) (i1:∀ a b c,c1 a b=0→lt1 b c=true→lt1 a c=true) (s1:∀ a b,c1 a b=0→c1 b a=0) (t1:∀ a b c,c1 a b=0→c1 b c=0→c1 a c=0)
  (lt:α→α→Bool) (cmp:α→α→Int) (hc:∀ a b,cmp a b=eF (c1 (f a) (f b)) (c2 (g a) (g b))) (hn:∀ a b,cmp a b<0↔lt a b=true):Tot lt cmp:=by
 have key:∀ a b,lt a b=true↔(lt1 (f a) (f b)=true∨(c1 (f a) (f b)=0∧lt2 (g a) (g b)=true)):=fun a b=>by
  rw[← hn,hc];unfold eF;by_cases h:c1 (f a) (f b)=0
  ·rw[if_pos h];have h0:¬ lt1 (f a) (f b)=true:=fun q=>by have:=(T1.neg _ _).2 q;omega
   constructor
   ·exact fun q=>Or.inr ⟨h,(T2.neg _ _).1 q⟩
   ·rintro(q|⟨_,q⟩)
    ·exact absurd q h0
    ·exact(T2.neg _ _).2 q
  ·rw[if_neg h];constructor
   ·exact fun q=>Or.inl ((T1.neg _ _).1 q)
   ·rintro(q|⟨q,_⟩)
    ·exact(T1.neg _ _).2 q
    ·exact absurd q h
 have zero:∀ a b,cmp a b=0↔(c1 (f a) (f b)=0∧c2 (g a) (g b)=0):=fun a b=>by
  rw[hc];unfold eF;by_cases h:c1 (f a) (f b)=0
  ·rw[if_pos h];simp[h]
  ·rw[if_neg h];simp[h]
 refine⟨hn,fun a b c h1 h2=> ?_,fun a b h1 h2=> ?_,fun a b c h1 h2=> ?_⟩
 ·rw[key]at h1 h2 ⊢;rcases h1 with h1|⟨e1,h1⟩
  ·rcases h2 with h2|⟨e2,_⟩
   ·exact Or.inl (T1.tr _ _ _ h1 h2)
   ·exact Or.inl (T1.eqr _ _ _ e2 h1)
  ·rcases h2 with h2|⟨e2,h2⟩
   ·exact Or.inl (i1 _ _ _ e1 h2)
   ·exact Or.inr ⟨t1 _ _ _ e1 e2,T2.tr _ _ _ h1 h2⟩
 ·rw[key];have H7:¬ (lt1 (f a) (f b)=true∨(c1 (f a) (f b)=0∧lt2 (g a) (g b)=true)):=fun q=>by rw[(key a b).2 q]at h1;cases h1
  by_cases e:c1 (f a) (f b)=0
  ·refine Or.inr ⟨s1 _ _ e,T2.tri _ _ ?_ (fun q=>h2 ((zero a b).2 ⟨e,q⟩))⟩;cases q:lt2 (g a) (g b)
   ·rfl
   ·exact absurd (Or.inr ⟨e,q⟩) H7
  ·refine Or.inl (T1.tri _ _ ?_ e);cases q:lt1 (f a) (f b)
   ·rfl
   ·exact absurd (Or.inl q) H7
 ·obtain⟨e1,e2⟩:=(zero b c).1 h1;rw[key]at h2 ⊢;rcases h2 with h2|⟨q1,q2⟩
  ·exact Or.inl (T1.eqr _ _ _ e1 h2)
  ·exact Or.inr ⟨t1 _ _ _ q1 e1,T2.eqr _ _ _ e2 q2⟩
theorem vG {a b:ByteArray} (h:bT a b=0):bT b a=0:=by
 have:=jN ((bE a b).1 h);subst this;exact h
theorem FG {a b c:ByteArray} (h:bT a b=0) (k:bT b c=0):bT a c=0:=by
 have:=jN ((bE a b).1 h);subst this;exact k
theorem pG:Tot Pl.ahead et:=
 Tot.lex Pl.Bl.kind Pl.Bl.name iw iw (fun a b c h k=>by rw[jN ((bE a b).1 h)];exact k) (fun _ _=>vG) (fun _ _ _=>FG) _ _ (fun _ _=>rfl) (fun a b=>by rw[← pM,decide_eq_true_iff])
theorem fN:∀ A B:List ByteArray,cK A B=0↔A=B
 |[],[]=>by unfold cK;simp
 |[],_::_=>by unfold cK;simp
 |_::_,[]=>by unfold cK;simp
 |a::x,b::y=>by
  unfold cK;by_cases h:bT a b=0
  ·have e:=jN ((bE a b).1 h);subst e;rw[if_pos h,fN x y];simp
  ·rw[if_neg h];constructor
   ·exact fun q=>absurd q h
   ·intro q;injection q with q1 _
    subst q1;exact absurd ((bE a a).2 (by unfold Pl.eC;simp)) h
theorem sQ:∀ A B C:List ByteArray,cK A B<0→cK B C<0→cK A C<0
 |_,[],[],_,h=>by unfold cK at h;omega
 |[],_,_::_,_,_=>by unfold cK;omega
 |_::_,[],_,h,_=>by unfold cK at h;omega
 |[],_::_,[],_,h=>by unfold cK at h;omega
 |_::_,_::_,[],_,h=>by unfold cK at h;omega
 |a::x,b::y,c::z,h1,h2=>by
  unfold cK at h1 h2 ⊢;by_cases e1:bT a b=0
  ·have q1:=jN ((bE a b).1 e1);subst q1;rw[if_pos e1]at h1;by_cases e2:bT a c=0
   ·rw[if_pos e2]at h2 ⊢;exact sQ x y z h1 h2
   ·rw[if_neg e2]at h2 ⊢;exact h2
  ·rw[if_neg e1]at h1;by_cases e2:bT b c=0
   ·have q2:=jN ((bE b c).1 e2);subst q2;rw[if_neg e1];exact h1
   ·rw[if_neg e2]at h2;have h3:=iw.tr a b c ((iw.neg _ _).1 h1) ((iw.neg _ _).1 h2);have h4:=(iw.neg _ _).2 h3;rw[if_neg (by omega)];exact h4
theorem lD:∀ A B:List ByteArray,¬ cK A B<0→cK A B≠0→cK B A<0
 |[],[],_,h=>by unfold cK at h;omega
 |[],_::_,h,_=>by unfold cK at h;omega
 |_::_,[],_,_=>by unfold cK;omega
 |a::x,b::y,h1,h2=>by
  unfold cK at h1 h2 ⊢;by_cases e1:bT a b=0
  ·rw[if_pos e1]at h1 h2;rw[if_pos (vG e1)];exact lD x y h1 h2
  ·rw[if_neg e1]at h1 h2;have h3:Pl.mA a b=false:=by
    cases q:Pl.mA a b
    ·rfl
    ·exact absurd ((iw.neg _ _).2 q) h1
   have h4:=(iw.neg _ _).2 (iw.tri a b h3 e1);rw[if_neg (by omega)];exact h4
theorem Lk:Tot Pl.cU cK where
 neg:=dK
 tr:=fun a b c h k=>(dK _ _).1 (sQ a b c ((dK _ _).2 h) ((dK _ _).2 k))
 tri:=fun a b h k=>(dK _ _).1 (lD a b (fun q=>by rw[(dK _ _).1 q]at h;cases h) k)
 eqr:=fun a b c h k=>by rw[← (fN b c).1 h];exact k
theorem Fc:Tot (fun a b:Int=>decide (a<b)) dm where
 neg:=fun a b=>by rw[mX,decide_eq_true_iff]
 tr:=fun a b c h k=>by rw[decide_eq_true_iff]at h k ⊢;omega
 tri:=fun a b h k=>by
  rw[decide_eq_false_iff_not]at h;rw[decide_eq_true_iff];have:a≠b:=fun e=>k ((cJ a b).2 e);omega
 eqr:=fun a b c h k=>by rw[← (cJ b c).1 h];exact k
theorem py (kind:ByteArray):Tot (Pl.aT kind) (gZ (Pl.aj kind)):=
 Tot.lex (fun x:Pl.Ln=>Pl.ixI (Pl.bJ (Pl.aj kind) x.key)) Pl.Ln.ws Fc Lk (fun a b c h k=>by rw[(cJ a b).1 h];exact k) (fun a b h=>by rw[(cJ a b).1 h];exact(cJ b b).2 rfl) (fun a b c h k=>by rw[(cJ a b).1 h];exact k) _ _ (fun _ _=>rfl) (fun a b=>by rw[← pB,decide_eq_true_iff])
theorem nV {α:Type} (R:α→α→Prop) (tr:∀ a b c,R a b→R b c→R a c) (l:List α) (d:α) (h:∀ i,0<i→i<l.length→R (l.getD (i - 1) d) (l.getD i d)):l.Pairwise R:=by
 rw[List.pairwise_iff_getElem];have key:∀ (m i:Nat) (hi:i+m+1<l.length),R (l[i]'(by omega)) (l[i+m+1]'hi):=by
  intro m;induction m with
  |zero=>
   intro i hi;have:=h (i+1) (by omega) (by omega);have e1:l.getD i d=l[i]'(by omega):=by simp[show i<l.length by omega]
   have e2:l.getD (i+1) d=l[i+1]'(by omega):=by simp[show i+1<l.length by omega]
   rw[Nat.add_sub_cancel,e1,e2]at this;exact this
  |succ m ih=>
   intro i hi;have h1:=ih i (by omega);have h2:=h (i+m+2) (by omega) (by omega);have e1:l.getD (i+m+2 - 1) d=l[i+m+1]'(by omega):=by simp[show i+m+1<l.length by omega]
   have e2:l.getD (i+m+2) d=l[i+m+2]'(by omega):=by simp[show i+m+2<l.length by omega]
   rw[e1,e2]at h2;exact tr _ _ _ h1 h2
 intro i j hi hj LL;obtain⟨m,rfl⟩:∃ m,j=i+m+1:=⟨j - i - 1,by omega⟩
 exact key m i hj
theorem n9 {s:List Pl.Bl} (h:Pl.aM s=true) {i:Nat} (hi:i<s.length):Pl.cQ s i=true:=by
 unfold Pl.aM at h;rw[Bool.and_eq_true,List.all_eq_true]at h;exact h.2 i (List.mem_range.2 hi)
theorem gY {s:List Pl.Bl} (h:Pl.aM s=true):s.length≤60:=by
 unfold Pl.aM at h;rw[Bool.and_eq_true,decide_eq_true_iff]at h;exact h.1
theorem jZ {s:List Pl.Bl} (h:Pl.aM s=true):s.Pairwise fun a b=>Pl.ahead a b=true:=by
 refine nV _ pG.tr s Pl.aG fun i h0 hi=> ?_;have:=n9 h hi;unfold Pl.cQ at this;rw[Bool.and_eq_true,Bool.or_eq_true]at this;rcases this.2 with q|q
 ·rw[decide_eq_true_iff]at q;omega
 ·exact q
theorem cI {s:List Pl.Bl} (h:Pl.aM s=true):∀ b∈s,Pl.bA b.kind b.lines=true:=fun b hb=>by
 obtain⟨i,hi,rfl⟩:=List.getElem_of_mem hb;have:=n9 h hi;have e:s.getD i Pl.aG=s[i]:=by simp[hi]
 unfold Pl.cQ at this;rw[e,Bool.and_eq_true,Bool.and_eq_true]at this;exact this.1.2
theorem nD {kind:ByteArray} {l:List Pl.Ln} (h:Pl.bA kind l=true) {i:Nat} (hi:i<l.length):Pl.cV kind l i=true:=by
 unfold Pl.bA at h;rw[List.all_eq_true]at h;exact h i (List.mem_range.2 hi)
theorem fY {kind:ByteArray} {l:List Pl.Ln} (h:Pl.bA kind l=true):l.Pairwise fun a b=>Pl.aT kind a b=true:=by
 refine nV _ (py kind).tr l Pl.aQ fun i h0 hi=> ?_;have:=nD h hi;unfold Pl.cV at this;rw[Bool.and_eq_true,Bool.and_eq_true,Bool.or_eq_true]at this;rcases this.1.2 with q|q
 ·rw[decide_eq_true_iff]at q;omega
 ·exact q
theorem jv {kind:ByteArray} {l:List Pl.Ln} (h:Pl.bA kind l=true):∀ x∈l,Pl.bU kind x.key x.ws=true:=fun x hx=>by
 obtain⟨i,hi,rfl⟩:=List.getElem_of_mem hx;have:=nD h hi;have e:l.getD i Pl.aQ=l[i]:=by simp[hi]
 unfold Pl.cV at this;rw[e,Bool.and_eq_true,Bool.and_eq_true]at this;exact this.1.1
theorem lR (b:Pl.Bl) (kind name:ByteArray):et b ⟨kind,name,[]⟩=0↔Pl.isB kind name b=true:=by
 unfold et eF Pl.isB;rw[Bool.and_eq_true];show _↔Pl.eC b.kind kind=true∧Pl.eC b.name name=true;rw[← bE,← bE];split
 ·rename_i h;simp[h]
 ·rename_i h
  constructor
  ·exact fun q=>absurd q h
  ·exact fun q=>absurd q.1 h
theorem nO {kind name:ByteArray}:∀ (l:List Pl.Bl) (j q:Nat) (hq:q<l.length),Pl.isB kind name l[q]=true→(∀ i (hi:i<q),Pl.isB kind name (l[i]'(by omega))=false)→Pl.findF kind name l j=some (j+q)
 |b::l,j,0,_,h,_=>by rw[Pl.findF];rw[List.getElem_cons_zero]at h;rw[if_pos h];rfl
 |b::l,j,q+1,hq,h,hb=>by
  have h0:=hb 0 (by omega);rw[List.getElem_cons_zero]at h0;rw[Pl.findF,h0];rw[List.getElem_cons_succ]at h;have:=nO l (j+1) q (by simpa using hq) h (fun i hi=>by have:=hb (i+1) (by omega);rw[List.getElem_cons_succ]at this;exact this);simp only[Bool.false_eq_true,if_false];rw[this];congr 1;omega
theorem rz {kind name:ByteArray}:∀ (l:List Pl.Bl) (j:Nat),(∀ b∈l,Pl.isB kind name b=false)→Pl.findF kind name l j=none
 |[],_,_=>by rw[Pl.findF]
 |b::l,j,h=>by
  rw[Pl.findF,h b (by simp),rz l (j+1) (fun b hb=>h b (by simp[hb]))];rfl
theorem Cn {s:List Pl.Bl} (h:s.Pairwise fun a b=>Pl.ahead a b=true) (kind name:ByteArray):Pl.dJ s kind name=if (decide (dt Pl.ahead s ⟨kind,name,[]⟩<s.length)&&decide (et (s.getD (dt Pl.ahead s ⟨kind,name,[]⟩) Pl.aG) ⟨kind,name,[]⟩=0))=true then some (dt Pl.ahead s ⟨kind,name,[]⟩) else none:=by
 obtain⟨q,hq⟩:∃ q,q=dt Pl.ahead s ⟨kind,name,[]⟩:=⟨_,rfl⟩
 have hf:=rK pG Pl.aG h ⟨kind,name,[]⟩;have hh:=mP pG Pl.aG s ⟨kind,name,[]⟩;rw[← hq]at hf hh ⊢;by_cases c:q<s.length∧et (s.getD q Pl.aG) ⟨kind,name,[]⟩=0
 ·rw[if_pos (by rw[Bool.and_eq_true,decide_eq_true_iff,decide_eq_true_iff];exact c)];have e:s.getD q Pl.aG=s[q]'c.1:=by simp[c.1]
  have:=nO (kind:=kind) (name:=name) s 0 q c.1 ((lR _ _ _).1 (by rw[← e];exact c.2)) (fun i hi=>by
   have e2:s.getD i Pl.aG=s[i]'(by omega):=by simp[show i<s.length by omega]
   have h3:=hh i hi;rw[e2]at h3;cases hb:Pl.isB kind name (s[i]'(by omega))
   ·rfl
   ·have:=(lR _ _ _).2 hb;omega)
  rw[Nat.zero_add]at this;exact this
 ·rw[if_neg (by rw[Bool.and_eq_true,decide_eq_true_iff,decide_eq_true_iff];exact c)];refine rz s 0 fun b hb=> ?_;cases dP:Pl.isB kind name b
  ·rfl
  ·exact absurd (hf.1 ⟨b,hb,(lR _ _ _).2 dP⟩) c
end Go.Proofs.Ytmgibmmpopoboaa
